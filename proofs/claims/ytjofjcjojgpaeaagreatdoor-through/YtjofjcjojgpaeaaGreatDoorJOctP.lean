import Derived.Test.YtjofjcjojgpaeaaGreatDoorJTreeP
import Derived.Carry
import Derived.Deep.RegionHeld3
namespace Go.Proofs.YtjofjcjojgpaeaaGreatDoor
open Go.RowKit

def octL (n : Nat) : List UInt8 := if n < 8 then [UInt8.ofNat (48 + n)] else octL (n / 8) ++ [UInt8.ofNat (48 + n % 8)]
def decL (n : Nat) : List UInt8 := if n < 10 then [UInt8.ofNat (48 + n)] else decL (n / 10) ++ [UInt8.ofNat (48 + n % 10)]
end Go.Proofs.YtjofjcjojgpaeaaGreatDoor

namespace Go.Proofs.YtjofjcjojgpaeaaGreatDoor
open Go.RowKit Go.Maps

/-- A node: its entry, its block, its map's block. -/
structure Nd where
  ent : Ent
  nb : Nat
  mb : Nat
def Nd.p (x : Nd) : List UInt8 := x.ent.path.data.toList
def Nd.cells (x : Nd) : Array Value := #[.string x.ent.path, .int .i64 x.ent.kind, .int .i64 x.ent.mode, .string x.ent.data, .map (some x.mb)]
def kidsN (ns : List Nd) (p : List UInt8) : List (List UInt8 × Nat) := (ns.filter fun x => dirOf x.p == p).map fun x => (nameOf x.p, x.nb)
/-- The nodes of a tree lie in memory. -/
structure Mem (w : World) (B : Nat) (r : Nd) (ns : List Nd) : Prop where
  root : r.ent = rootE
  all : ∀ x ∈ r :: ns, B ≤ x.nb ∧ B ≤ x.mb ∧ w.heap[x.nb]? = some (.cells x.cells 79 (0, 0)) ∧ KM w x.mb ns.length (kidsN ns x.p)
  apart : (r :: ns).Pairwise fun x y => x.mb ≠ y.mb
theorem KM.below {w w' : World} {b n : Nat} {L : List (List UInt8 × Nat)} (h : KM w b n L) (hb : Below w.heap.size w w') : KM w' b n L :=
  World.ownsMap.kept (row := none) h ⟨hb.os, hb.tape, hb.output, hb.size, fun k hk _ => hb.block k hk⟩ (by simp)
theorem Mem.below {w w' : World} {B : Nat} {r : Nd} {ns : List Nd} (h : Mem w B r ns) (hb : Below w.heap.size w w') : Mem w' B r ns := by
  refine ⟨h.root, fun x hx => ?_, h.apart⟩
  obtain ⟨h1, h2, h3, h4⟩ := h.all x hx
  exact ⟨h1, h2, (hb.block x.nb (Array.getElem?_eq_some_iff.1 h3).1).trans h3, h4.below hb⟩
def entsN (ns : List Nd) : List Ent := ns.map (·.ent)
theorem prt_inj {a b : List UInt8} (h : prt a = prt b) : a = b := by
  have e : ∀ l : List UInt8, Lib.join (prt l) [47] = l := fun l => by
    by_cases hl : l = []
    · subst hl; rfl
    · rw [prt_ne hl]; exact spl_join l
  rw [← e a, ← e b, h]
theorem okTo_up {es : List Ent} {n : Nat} (h : OkTo es n) {k : Nat} {e : Ent} (hk : k < n) (he : es[k]? = some e) : prt e.path.data.toList = prt (dirOf e.path.data.toList) ++ [nameOf e.path.data.toList] := by
  have := ent_parts (ok_parts he (h k hk)).ent
  exact prt_up this.2.1 this.1
/-- With an entry all that it is in is there. -/
theorem ancestor {es : List Ent} {n : Nat} (h : OkTo es n) (hn : n ≤ es.length) : ∀ (k : Nat) (e : Ent) (i : Nat), k < n → es[k]? = some e → 1 ≤ i → i ≤ (prt e.path.data.toList).length → ∃ (q : Nat) (a : Ent), q < n ∧ es[q]? = some a ∧ prt a.path.data.toList = (prt e.path.data.toList).take i := by
  intro k
  induction k using Nat.strongRecOn with
  | ind k ih =>
    intro e i hk he h1 hi
    by_cases hl : i = (prt e.path.data.toList).length
    · exact ⟨k, e, hk, he, by rw [hl, List.take_length]⟩
    · have hup := okTo_up h hk he
      have hlen : (prt e.path.data.toList).length = (prt (dirOf e.path.data.toList)).length + 1 := by rw [hup]; simp
      have hd0 : dirOf e.path.data.toList ≠ [] := by
        intro e0
        rw [e0, prt_nil] at hlen
        simp at hlen
        omega
      obtain ⟨a, hm, hp, _⟩ := kindP_one (ok_parts he (h k hk)).dir hd0
      obtain ⟨q, hq, hqe⟩ := List.getElem_of_mem hm
      rw [List.length_take] at hq
      rw [List.getElem_take] at hqe
      have hq' : es[q]? = some a := by rw [← hqe]; exact List.getElem?_eq_getElem (by omega)
      obtain ⟨q2, a2, h2, h3, h4⟩ := ih q (by omega) a i (by omega) hq' h1 (by rw [hp]; omega)
      refine ⟨q2, a2, h2, h3, ?_⟩
      rw [h4, hp, hup, List.take_append_of_le_length (by omega)]
theorem nd_get {ns : List Nd} {k : Nat} {e : Ent} (h : (entsN ns)[k]? = some e) : ∃ x ∈ ns, x.ent = e := by
  rw [entsN, List.getElem?_map, Option.map_eq_some_iff] at h
  obtain ⟨x, hx, rfl⟩ := h
  exact ⟨x, List.mem_of_getElem? hx, rfl⟩
theorem nd_at {ns : List Nd} {x : Nd} (h : x ∈ ns) : ∃ k, k < ns.length ∧ ns[k]? = some x ∧ (entsN ns)[k]? = some x.ent := by
  obtain ⟨k, hk, rfl⟩ := List.getElem_of_mem h
  exact ⟨k, hk, List.getElem?_eq_getElem hk, by rw [entsN, List.getElem?_map, List.getElem?_eq_getElem hk]; rfl⟩

/-- What 'find' answers. -/
def FindIs (r : Nd) (ns : List Nd) (p : List UInt8) (v : Value) : Prop := (v = .pointer none ∧ ∀ x ∈ r :: ns, x.p ≠ p) ∨ ∃ x ∈ r :: ns, v = .pointer (some ⟨x.nb, 0, none⟩) ∧ x.p = p

theorem kids_mem {ns : List Nd} {p nm : List UInt8} {q : Nat} (h : (nm, q) ∈ kidsN ns p) : ∃ x ∈ ns, dirOf x.p = p ∧ nameOf x.p = nm ∧ x.nb = q := by
  rw [kidsN, List.mem_map] at h
  obtain ⟨x, hx, e⟩ := h
  rw [List.mem_filter] at hx
  cases e
  exact ⟨x, hx.1, by simpa using hx.2, rfl, rfl⟩
theorem kids_in {ns : List Nd} {x : Nd} (h : x ∈ ns) : (nameOf x.p, x.nb) ∈ kidsN ns (dirOf x.p) := by
  rw [kidsN, List.mem_map]
  exact ⟨x, by rw [List.mem_filter]; exact ⟨h, by simp⟩, rfl⟩

theorem join_mem_le {xs : List (List UInt8)} {x : List UInt8} (h : x ∈ xs) : x.length ≤ (Lib.join xs [47]).length := by
  cases xs with
  | nil => simp at h
  | cons y r =>
    rw [Lib.join_cons, List.length_append]
    rw [List.mem_cons] at h
    rcases h with rfl | h
    · omega
    · have : x.length ≤ (Lib.joinTail [47] r).length := by
        rw [Lib.joinTail]
        induction r with
        | nil => simp at h
        | cons z r ih =>
          rw [List.mem_cons] at h
          simp only [List.map_cons, List.flatten_cons, List.length_append]
          rcases h with rfl | h
          · omega
          · have := ih h; omega
      omega
theorem elem_le {l x : List UInt8} {k : Nat} (h : (prt l)[k]? = some x) : x.length ≤ l.length := by
  have hm := List.mem_of_getElem? h
  by_cases hl : l = []
  · subst hl; simp [prt_nil] at hm
  · rw [prt_ne hl] at hm
    have := join_mem_le hm
    rw [spl_join] at this
    exact this
set_option maxHeartbeats 1000000 in
set_option maxRecDepth 100000 in
theorem find_any (r : Nd) (ns : List Nd) (B : Nat) (s : ByteArray) (m : Int) (w : World) (hM : Mem w B r ns) (HO : Hid (OkTo (entsN ns) ns.length)) (hs : s.size ≤ 1048576) (hm : w.cell? ⟨14, 0, none⟩ = some (.int .i64 m)) :
    Calls Tryz.prog 39 #[.pointer (some ⟨r.nb, 0, none⟩), .string s] w fun ev w' => ∃ v, ev = .returned v ∧ Hid (FindIs r ns s.data.toList v) ∧ Below w.heap.size w w' := by
  have HM := hide hm
  have HMem := hide hM
  clear hm hM
  go_enter Tryz.func39, Tryz.ntmps39
  go_wp2_with (go_at_call 65; refine (elems_any s m _ (by omega) (unhide HM)).mono ?_; rintro ev w1 ⟨ao1, cap1, n1, ps1, rfl, ht1, HE1, HN1, hl1, hb1⟩)
  have HMem1 := hide ((unhide HMem).below hb1)
  go_loop [0, 12] (fun v i => ∃ (k : Nat) (x : Nd), k ≤ n1 ∧ i = .int .i64 k ∧ v = .pointer (some ⟨x.nb, 0, none⟩) ∧ Hid (x ∈ r :: ns ∧ prt x.p = (prt s.data.toList).take k)) (fun _ i => n1 - (intOf i).toNat)
  case atStart => exact ⟨0, r, by omega, rfl, rfl, hide ⟨by simp, by rw [Nd.p, (unhide HMem).root]; rfl⟩⟩
  case round =>
    obtain ⟨k, x, hk, rfl, rfl, HX⟩ := hrel
    obtain ⟨_, _, hn, hkm⟩ := (unhide HMem1).all x (unhide HX).1
    have c4 : w1.cell? ⟨x.nb, 4, none⟩ = some (.map (some x.mb)) := cell_of_row w1 x.nb 4 _ _ _ hn
    clear hn
    by_cases hlt : k < n1
    · obtain ⟨y, hy⟩ := get_lt (unhide HN1) hlt
      obtain ⟨g1, rfl, e1⟩ := ht1 k y hy
      have HY : Hid ((prt s.data.toList)[k]? = some y.data.toList) := hide (by rw [← unhide HE1]; exact txts_get hy)
      have hyz : y.size ≤ 1048577 := by
        have h1 := elem_le (unhide HY)
        rw [← Lib.size_eq, ← Lib.size_eq] at h1
        omega
      have i0 : (0 : Int) ≤ (k : Int) := by omega
      have i1 : (k : Int) < (n1 : Int) := by omega
      clear hy
      rcases hkm.look y (by omega) true with ⟨hrun, hno⟩ | ⟨q, hq, hrun⟩
      · have HNo := hide hno
        simp only [if_true] at hrun
        clear hno hkm ht1
        go_wp2_with fail
        go_ret
        refine ⟨_, rfl, hide (.inl ⟨rfl, fun z hz e => ?_⟩), hb1⟩
        obtain ⟨hx1, hx2⟩ := unhide HX
        rw [List.mem_cons] at hz
        have hyk := unhide HY
        have hlk : k < (prt s.data.toList).length := (List.getElem?_eq_some_iff.1 hyk).1
        rcases hz with rfl | hz
        · have : prt z.p = [] := by rw [Nd.p, (unhide HMem).root]; rfl
          rw [e] at this
          rw [this] at hlk
          simp at hlk
        · obtain ⟨kz, hkz, _, hez⟩ := nd_at hz
          obtain ⟨qa, a, hqa, hae, hpa⟩ := ancestor (unhide HO) (by simp [entsN]) kz z.ent (k + 1) hkz hez (by omega) (by show k + 1 ≤ (prt z.p).length; rw [e]; omega)
          obtain ⟨xa, hxa, rfl⟩ := nd_get hae
          have hua := okTo_up (unhide HO) hqa hae
          have e5 : prt z.ent.path.data.toList = prt s.data.toList := by show prt z.p = _; rw [e]
          rw [e5, List.take_add_one, hyk, hua] at hpa
          have hpa' : prt (dirOf xa.p) ++ [nameOf xa.p] = (prt s.data.toList).take k ++ [y.data.toList] := hpa
          rw [← hx2] at hpa'
          have h6 := List.append_inj' hpa' rfl
          have hdx : dirOf xa.p = x.p := prt_inj h6.1
          have hnx : nameOf xa.p = y.data.toList := by simpa using h6.2
          have h7 := kids_in hxa
          rw [hdx, hnx] at h7
          exact unhide HNo _ h7 rfl
      · have HQ := hide hq
        simp only [if_true] at hrun
        clear hq hkm
        go_wp2_with fail
        go_round
        case rel =>
          obtain ⟨z, hz, hdz, hnz, rfl⟩ := kids_mem (unhide HQ)
          refine ⟨k + 1, z, by omega, by go_num, rfl, hide ⟨by simp [hz], ?_⟩⟩
          obtain ⟨kz, hkz, _, hez⟩ := nd_at hz
          have hu : prt z.p = prt (dirOf z.p) ++ [nameOf z.p] := okTo_up (unhide HO) hkz hez
          rw [hu, hdz, hnz, (unhide HX).2, List.take_add_one, unhide HY]; rfl
        case measure => simp [intOf]; omega
    · have HF : Hid (FindIs r ns s.data.toList (.pointer (some ⟨x.nb, 0, none⟩))) := hide (by
        obtain ⟨h1, h2⟩ := unhide HX
        refine .inr ⟨x, h1, rfl, prt_inj ?_⟩
        rw [h2, List.take_of_length_le]
        rw [← unhide HE1, txts_len, ← unhide HN1]; omega)
      go_wp2_with fail
      go_ret
      exact ⟨_, rfl, HF, hb1⟩
end Go.Proofs.YtjofjcjojgpaeaaGreatDoor

namespace Go.Proofs.YtjofjcjojgpaeaaGreatDoor
open Go.RowKit Go.Maps

set_option maxHeartbeats 400000 in
theorem newNode_any (e : Ent) (w : World) :
    Calls Tryz.prog 60 #[.agg #[.string e.path, .int .i64 e.kind, .int .i64 e.mode, .string e.data]] w fun ev w' => ∃ nb mb : Nat, ev = .returned (.pointer (some ⟨nb, 0, none⟩)) ∧ w.heap.size ≤ nb ∧ w.heap.size ≤ mb ∧ Hid (w'.heap[nb]? = some (.cells (Nd.cells ⟨e, nb, mb⟩) 79 (0, 0)) ∧ KM w' mb 0 []) ∧ Below w.heap.size w w' := by
  have hmm := @run_makeMap Tryz.prog
  go_enter Tryz.func60, Tryz.ntmps60
  go_wp2
  go_ret
  refine ⟨w.heap.size + 2, w.heap.size + 1, rfl, by omega, by omega, hide ⟨?_, ?_⟩, (((Below.refl _ _).alloc (Nat.le_refl _) _).alloc (by simp) _).alloc (by simp; omega) _⟩
  · have h := heap_alloc_new ((w.alloc (.cells #[.string e.path, .int .i64 e.kind, .int .i64 e.mode, .string e.data] 47)).alloc (.map #[] 0)) (.cells (Nd.cells ⟨e, w.heap.size + 2, w.heap.size + 1⟩) 79 (0, 0))
    simpa [Nd.cells] using h
  · have h := (World.ownsMap_made (w.alloc (.cells #[.string e.path, .int .i64 e.kind, .int .i64 e.mode, .string e.data] 47)) Tryz.prog 9 RK).alloc (.cells (Nd.cells ⟨e, w.heap.size + 2, w.heap.size + 1⟩) 79 (0, 0))
    simpa [Nd.cells, KM, DK] using h

theorem kidsN_snoc (ns : List Nd) (y : Nd) (p : List UInt8) : kidsN (ns ++ [y]) p = kidsN ns p ++ (if dirOf y.p = p then [(nameOf y.p, y.nb)] else []) := by
  rw [kidsN, kidsN, List.filter_append, List.map_append]
  by_cases h : dirOf y.p = p <;> simp [h]
theorem apart_ne {l : List Nd} (h : l.Pairwise fun x y => x.mb ≠ y.mb) {x z : Nd} (hx : x ∈ l) (hz : z ∈ l) (hne : z ≠ x) : z.mb ≠ x.mb := by
  obtain ⟨i, hi, rfl⟩ := List.getElem_of_mem hx
  obtain ⟨j, hj, rfl⟩ := List.getElem_of_mem hz
  rw [List.pairwise_iff_getElem] at h
  rcases Nat.lt_trichotomy i j with hl | hl | hl
  · exact (h i j hi hj hl).symm
  · subst hl; exact absurd rfl hne
  · exact h j i hj hi hl
theorem Mem.add {w w' : World} {B : Nat} {r : Nd} {ns : List Nd} (h : Mem w B r ns) {x y : Nd} (hx : x ∈ r :: ns) (hy1 : B ≤ y.nb) (hy2 : B ≤ y.mb) (hyc : w.heap[y.nb]? = some (.cells y.cells 79 (0, 0))) (hyk : KM w y.mb 0 [])
    (hfr : ∀ z ∈ r :: ns, z.mb ≠ y.mb) (hup : KM w' x.mb (ns.length + 1) (kidsN ns x.p ++ [(nameOf y.p, y.nb)])) (hg : w.grownBy w' (some x.mb)) (hdir : dirOf y.p = x.p) (huniq : ∀ z ∈ r :: ns, z.p = x.p → z = x) (hno : kidsN (ns ++ [y]) y.p = []) : Mem w' B r (ns ++ [y]) := by
  have hmb : ∀ b cs t f, w.heap[b]? = some (.cells cs t f) → b ≠ x.mb := fun b cs t f hb e => by
    obtain ⟨_, _, _, es, clock, hm, _⟩ := h.all x hx
    rw [e, hm] at hb
    cases hb
  refine ⟨h.root, fun z hz => ?_, ?_⟩
  · rw [List.mem_cons, List.mem_append, List.mem_singleton] at hz
    have hz' : z ∈ r :: ns ∨ z = y := by
      rcases hz with hz | hz | hz
      · exact .inl (by simp [hz])
      · exact .inl (by simp [hz])
      · exact .inr hz
    rw [List.length_append, List.length_singleton]
    rcases hz' with hz | rfl
    · obtain ⟨h1, h2, h3, h4⟩ := h.all z hz
      refine ⟨h1, h2, (hg.block z.nb (Array.getElem?_eq_some_iff.1 h3).1 (fun e => hmb _ _ _ _ h3 (by simpa using e))).trans h3, ?_⟩
      rw [kidsN_snoc]
      by_cases e : z.p = x.p
      · have := huniq z hz e
        subst this
        rw [if_pos hdir]
        exact hup
      · rw [if_neg (fun e' => e (e'.symm.trans hdir)), List.append_nil]
        have hne : z ≠ x := fun e' => e (by rw [e'])
        exact World.ownsMap.mono (World.ownsMap.kept h4 hg (fun e' => apart_ne h.apart hx hz hne (by simpa using e'))) (by omega)
    · refine ⟨hy1, hy2, (hg.block z.nb (Array.getElem?_eq_some_iff.1 hyc).1 (fun e => hmb _ _ _ _ hyc (by simpa using e))).trans hyc, ?_⟩
      rw [hno]
      exact World.ownsMap.mono (World.ownsMap.kept hyk hg (fun e' => hfr x hx (by simpa using e'.symm))) (by omega)
  · rw [← List.cons_append, List.pairwise_append]
    refine ⟨h.apart, by simp, fun a ha b hb => ?_⟩
    rw [List.mem_singleton] at hb
    subst hb
    exact hfr a ha

/-- What stands ahead of an entry that is to be laid. -/
structure Ahead (r : Nd) (ns : List Nd) (e : Ent) : Prop where
  ok : OkTo (entsN ns) ns.length
  ent : entOk e = true
  lt : ∀ x ∈ ns, ltL (prt x.p) (prt e.path.data.toList) = true
  root : r.ent = rootE
theorem Ahead.uniq {r : Nd} {ns : List Nd} {e : Ent} (h : Ahead r ns e) {x : Nd} (hx : x ∈ r :: ns) : ∀ z ∈ r :: ns, z.p = x.p → z = x := by
  have hr : r.p = [] := by rw [Nd.p, h.root]; rfl
  have hn : ∀ z ∈ ns, z.p ≠ [] := fun z hz => by
    obtain ⟨k, hk, _, he⟩ := nd_at hz
    exact (ent_parts (ok_parts he (h.ok k hk)).ent).1
  intro z hz e
  rw [List.mem_cons] at hx hz
  rcases hx with rfl | hx <;> rcases hz with rfl | hz
  · rfl
  · exact absurd (e.trans hr) (hn z hz)
  · exact absurd (e.symm.trans hr) (hn x hx)
  · obtain ⟨k, hk, h1, h2⟩ := nd_at hx
    obtain ⟨j, hj, h3, h4⟩ := nd_at hz
    have := path_inj h.ok hj hk h4 h2 e
    subst this
    rw [h1] at h3
    cases h3
    rfl
theorem Ahead.kids {r : Nd} {ns : List Nd} {y : Nd} (h : Ahead r ns y.ent) : kidsN (ns ++ [y]) y.p = [] := by
  have hp := ent_parts h.ent
  have hup : prt y.p = prt (dirOf y.p) ++ [nameOf y.p] := prt_up hp.2.1 hp.1
  have hne : ∀ z ∈ ns, z.p ≠ y.p := fun z hz e => by
    have h1 := h.lt z hz
    rw [e] at h1
    have h2 := ltL_irr (prt y.p)
    rw [Nd.p] at h1 h2
    rw [h2] at h1; cases h1
  rw [kidsN_snoc, if_neg, List.append_nil, kidsN, List.map_eq_nil_iff, List.filter_eq_nil_iff]
  · intro z hz e
    have hd : dirOf z.p = y.p := by simpa using e
    obtain ⟨k, hk, _, hz2⟩ := nd_at hz
    have hd0 : dirOf z.ent.path.data.toList ≠ [] := by show dirOf z.p ≠ []; rw [hd]; exact hp.1
    obtain ⟨a, hm, ha, _⟩ := kindP_one (ok_parts hz2 (h.ok k hk)).dir hd0
    have hm' := List.mem_of_mem_take hm
    rw [entsN, List.mem_map] at hm'
    obtain ⟨b, hb, rfl⟩ := hm'
    exact hne b hb (ha.trans hd)
  · intro e
    rw [e] at hup
    have := congrArg List.length hup
    simp at this
theorem Ahead.less {r : Nd} {ns : List Nd} {y : Nd} (h : Ahead r ns y.ent) {p : List UInt8} (hd : dirOf y.p = p) : ∀ q ∈ kidsN ns p, Op.bytesLess q.1 (nameOf y.p) = true := by
  intro q hq
  have hp := ent_parts h.ent
  have hup : prt y.p = prt (dirOf y.p) ++ [nameOf y.p] := prt_up hp.2.1 hp.1
  obtain ⟨z, hz, h1, h2, h3⟩ := kids_mem (nm := q.1) (q := q.2) hq
  obtain ⟨k, hk, _, hz2⟩ := nd_at hz
  have hu : prt z.p = prt (dirOf z.p) ++ [nameOf z.p] := okTo_up h.ok hk hz2
  have hl : ltL (prt z.p) (prt y.p) = true := h.lt z hz
  rw [hu, hup, h1, hd, ltL_snoc, h2] at hl
  exact hl
/-- Whether an entry's directory is one. -/
theorem find_kind {r : Nd} {ns : List Nd} {e : Ent} (h : Ahead r ns e) {p : List UInt8} {v : Value} (hv : FindIs r ns p v) : (v = .pointer none ∧ kindP (entsN ns) p ≠ 1) ∨ ∃ x ∈ r :: ns, v = .pointer (some ⟨x.nb, 0, none⟩) ∧ x.p = p ∧ kindP (entsN ns) p = x.ent.kind := by
  rcases hv with ⟨rfl, h1⟩ | ⟨x, hx, rfl, hp⟩
  · refine .inl ⟨rfl, fun h2 => ?_⟩
    have hr : r.p = [] := by rw [Nd.p, h.root]; rfl
    have hp0 : p ≠ [] := fun e0 => h1 r (by simp) (hr.trans e0.symm)
    obtain ⟨a, ha, hpa, _⟩ := kindP_one h2 hp0
    rw [entsN, List.mem_map] at ha
    obtain ⟨z, hz, rfl⟩ := ha
    exact h1 z (by simp [hz]) hpa
  · refine .inr ⟨x, hx, rfl, hp, ?_⟩
    rw [List.mem_cons] at hx
    rcases hx with rfl | hx
    · have hr : x.p = [] := by rw [Nd.p, h.root]; rfl
      rw [kindP, if_pos (hp.symm.trans hr), h.root]; rfl
    · obtain ⟨k, hk, _, hk2⟩ := nd_at hx
      have h0 := (ent_parts (ok_parts hk2 (h.ok k hk)).ent).1
      have hp0 : p ≠ [] := fun e0 => h0 (hp.trans e0)
      refine kindP_hit hp0 hk2 hp fun e' he' => ?_
      obtain ⟨j, hj, rfl⟩ := List.getElem_of_mem he'
      rw [List.length_take] at hj
      rw [List.getElem_take]
      intro e2
      have := path_inj h.ok (by omega) hk (List.getElem?_eq_getElem (by omega)) hk2 (e2.trans hp.symm)
      omega
end Go.Proofs.YtjofjcjojgpaeaaGreatDoor
