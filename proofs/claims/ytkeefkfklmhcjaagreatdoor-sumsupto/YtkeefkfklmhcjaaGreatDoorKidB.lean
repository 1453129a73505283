import Derived.Test.YtkeefkfklmhcjaaGreatDoorKidA
namespace Go.Proofs.YtkeefkfklmhcjaaGreatDoor
open Go.RowKit Go.Maps

/-- A node: its entry, its block, its map's block. -/
structure Nd where
  ent : Ent
  nb : Nat
  mb : Nat
def Nd.p (x : Nd) : List UInt8 := x.ent.path.data.toList
def Nd.cells (x : Nd) : Array Value := #[.string x.ent.path, .int .i64 x.ent.kind, .int .i64 x.ent.mode, .string x.ent.data, .map (some x.mb)]
def kidsN (ns : List Nd) (p : List UInt8) : List (List UInt8 × Nat) := (ns.filter fun x => dirOf x.p == p).map fun x => (nameOf x.p, x.nb)
/-- The nodes of a tree lie in memory. -/
structure Mem (w : World) (B : Nat) (r : Nd) (ns : List Nd) : Prop where
  root : r.ent = rootE
  all : ∀ x ∈ r :: ns, B ≤ x.nb ∧ B ≤ x.mb ∧ w.heap[x.nb]? = some (.cells x.cells 102 (0, 0)) ∧ KM w x.mb ns.length (kidsN ns x.p)
  apart : (r :: ns).Pairwise fun x y => x.mb ≠ y.mb
theorem KM.below {w w' : World} {b n : Nat} {L : List (List UInt8 × Nat)} (h : KM w b n L) (hb : Below w.heap.size w w') : KM w' b n L :=
  World.ownsMap.kept (row := none) h ⟨hb.os, hb.tape, hb.output, hb.size, fun k hk _ => hb.block k hk⟩ (by simp)
theorem Mem.below {w w' : World} {B : Nat} {r : Nd} {ns : List Nd} (h : Mem w B r ns) (hb : Below w.heap.size w w') : Mem w' B r ns := by
  refine ⟨h.root, fun x hx => ?_, h.apart⟩
  obtain ⟨h1, h2, h3, h4⟩ := h.all x hx
  exact ⟨h1, h2, (hb.block x.nb (Array.getElem?_eq_some_iff.1 h3).1).trans h3, h4.below hb⟩
def entsN (ns : List Nd) : List Ent := ns.map (·.ent)
theorem prt_inj {a b : List UInt8} (h : prt a = prt b) : a = b := by
  have e : ∀ l : List UInt8, Lib.join (prt l) [47] = l := fun l => by
    by_cases hl : l = []
    · subst hl; rfl
    · rw [prt_ne hl]; exact spl_join l
  rw [← e a, ← e b, h]
theorem okTo_up {es : List Ent} {n : Nat} (h : OkTo es n) {k : Nat} {e : Ent} (hk : k < n) (he : es[k]? = some e) : prt e.path.data.toList = prt (dirOf e.path.data.toList) ++ [nameOf e.path.data.toList] := by
  have := ent_parts (ok_parts he (h k hk)).ent
  exact prt_up this.2.1 this.1
/-- With an entry all that it is in is there. -/
theorem ancestor {es : List Ent} {n : Nat} (h : OkTo es n) (hn : n ≤ es.length) : ∀ (k : Nat) (e : Ent) (i : Nat), k < n → es[k]? = some e → 1 ≤ i → i ≤ (prt e.path.data.toList).length → ∃ (q : Nat) (a : Ent), q < n ∧ es[q]? = some a ∧ prt a.path.data.toList = (prt e.path.data.toList).take i := by
  intro k
  induction k using Nat.strongRecOn with
  | ind k ih =>
    intro e i hk he h1 hi
    by_cases hl : i = (prt e.path.data.toList).length
    · exact ⟨k, e, hk, he, by rw [hl, List.take_length]⟩
    · have hup := okTo_up h hk he
      have hlen : (prt e.path.data.toList).length = (prt (dirOf e.path.data.toList)).length + 1 := by rw [hup]; simp
      have hd0 : dirOf e.path.data.toList ≠ [] := by
        intro e0
        rw [e0, prt_nil] at hlen
        simp at hlen
        omega
      obtain ⟨a, hm, hp, _⟩ := kindP_one (ok_parts he (h k hk)).dir hd0
      obtain ⟨q, hq, hqe⟩ := List.getElem_of_mem hm
      rw [List.length_take] at hq
      rw [List.getElem_take] at hqe
      have hq' : es[q]? = some a := by rw [← hqe]; exact List.getElem?_eq_getElem (by omega)
      obtain ⟨q2, a2, h2, h3, h4⟩ := ih q (by omega) a i (by omega) hq' h1 (by rw [hp]; omega)
      refine ⟨q2, a2, h2, h3, ?_⟩
      rw [h4, hp, hup, List.take_append_of_le_length (by omega)]
theorem nd_get {ns : List Nd} {k : Nat} {e : Ent} (h : (entsN ns)[k]? = some e) : ∃ x ∈ ns, x.ent = e := by
  rw [entsN, List.getElem?_map, Option.map_eq_some_iff] at h
  obtain ⟨x, hx, rfl⟩ := h
  exact ⟨x, List.mem_of_getElem? hx, rfl⟩
theorem nd_at {ns : List Nd} {x : Nd} (h : x ∈ ns) : ∃ k, k < ns.length ∧ ns[k]? = some x ∧ (entsN ns)[k]? = some x.ent := by
  obtain ⟨k, hk, rfl⟩ := List.getElem_of_mem h
  exact ⟨k, hk, List.getElem?_eq_getElem hk, by rw [entsN, List.getElem?_map, List.getElem?_eq_getElem hk]; rfl⟩

/-- What 'find' answers. -/
def FindIs (r : Nd) (ns : List Nd) (p : List UInt8) (v : Value) : Prop := (v = .pointer none ∧ ∀ x ∈ r :: ns, x.p ≠ p) ∨ ∃ x ∈ r :: ns, v = .pointer (some ⟨x.nb, 0, none⟩) ∧ x.p = p

theorem kids_mem {ns : List Nd} {p nm : List UInt8} {q : Nat} (h : (nm, q) ∈ kidsN ns p) : ∃ x ∈ ns, dirOf x.p = p ∧ nameOf x.p = nm ∧ x.nb = q := by
  rw [kidsN, List.mem_map] at h
  obtain ⟨x, hx, e⟩ := h
  rw [List.mem_filter] at hx
  cases e
  exact ⟨x, hx.1, by simpa using hx.2, rfl, rfl⟩
theorem kids_in {ns : List Nd} {x : Nd} (h : x ∈ ns) : (nameOf x.p, x.nb) ∈ kidsN ns (dirOf x.p) := by
  rw [kidsN, List.mem_map]
  exact ⟨x, by rw [List.mem_filter]; exact ⟨h, by simp⟩, rfl⟩

theorem join_mem_le {xs : List (List UInt8)} {x : List UInt8} (h : x ∈ xs) : x.length ≤ (Lib.join xs [47]).length := by
  cases xs with
  | nil => simp at h
  | cons y r =>
    rw [Lib.join_cons, List.length_append]
    rw [List.mem_cons] at h
    rcases h with rfl | h
    · omega
    · have : x.length ≤ (Lib.joinTail [47] r).length := by
        rw [Lib.joinTail]
        induction r with
        | nil => simp at h
        | cons z r ih =>
          rw [List.mem_cons] at h
          simp only [List.map_cons, List.flatten_cons, List.length_append]
          rcases h with rfl | h
          · omega
          · have := ih h; omega
      omega
theorem elem_le {l x : List UInt8} {k : Nat} (h : (prt l)[k]? = some x) : x.length ≤ l.length := by
  have hm := List.mem_of_getElem? h
  by_cases hl : l = []
  · subst hl; simp [prt_nil] at hm
  · rw [prt_ne hl] at hm
    have := join_mem_le hm
    rw [spl_join] at this
    exact this
set_option maxHeartbeats 1000000 in
set_option maxRecDepth 100000 in
theorem find_any (r : Nd) (ns : List Nd) (B : Nat) (s : ByteArray) (m : Int) (w : World) (hM : Mem w B r ns) (HO : Hid (OkTo (entsN ns) ns.length)) (hs : s.size ≤ 1048576) (hm : w.cell? ⟨15, 0, none⟩ = some (.int .i64 m)) :
    Calls Tryz.prog 79 #[.pointer (some ⟨r.nb, 0, none⟩), .string s] w fun ev w' => ∃ v, ev = .returned v ∧ Hid (FindIs r ns s.data.toList v) ∧ Below w.heap.size w w' := by
  have HM := hide hm
  have HMem := hide hM
  clear hm hM
  go_enter Tryz.func79, Tryz.ntmps79
  go_wp2_with (go_at_call 104; refine (elems_any s m _ (by omega) (unhide HM)).mono ?_; rintro ev w1 ⟨ao1, cap1, n1, ps1, rfl, ht1, HE1, HN1, hl1, hb1⟩)
  have HMem1 := hide ((unhide HMem).below hb1)
  go_loop [0, 12] (fun v i => ∃ (k : Nat) (x : Nd), k ≤ n1 ∧ i = .int .i64 k ∧ v = .pointer (some ⟨x.nb, 0, none⟩) ∧ Hid (x ∈ r :: ns ∧ prt x.p = (prt s.data.toList).take k)) (fun _ i => n1 - (intOf i).toNat)
  case atStart => exact ⟨0, r, by omega, rfl, rfl, hide ⟨by simp, by rw [Nd.p, (unhide HMem).root]; rfl⟩⟩
  case round =>
    obtain ⟨k, x, hk, rfl, rfl, HX⟩ := hrel
    obtain ⟨_, _, hn, hkm⟩ := (unhide HMem1).all x (unhide HX).1
    have c4 : w1.cell? ⟨x.nb, 4, none⟩ = some (.map (some x.mb)) := cell_of_row w1 x.nb 4 _ _ _ hn
    clear hn
    by_cases hlt : k < n1
    · obtain ⟨y, hy⟩ := get_lt (unhide HN1) hlt
      obtain ⟨g1, rfl, e1⟩ := ht1 k y hy
      have HY : Hid ((prt s.data.toList)[k]? = some y.data.toList) := hide (by rw [← unhide HE1]; exact txts_get hy)
      have hyz : y.size ≤ 1048577 := by
        have h1 := elem_le (unhide HY)
        rw [← Lib.size_eq, ← Lib.size_eq] at h1
        omega
      have i0 : (0 : Int) ≤ (k : Int) := by omega
      have i1 : (k : Int) < (n1 : Int) := by omega
      clear hy
      rcases hkm.look y (by omega) true with ⟨hrun, hno⟩ | ⟨q, hq, hrun⟩
      · have HNo := hide hno
        simp only [if_true] at hrun
        clear hno hkm ht1
        go_wp2_with fail
        go_ret
        refine ⟨_, rfl, hide (.inl ⟨rfl, fun z hz e => ?_⟩), hb1⟩
        obtain ⟨hx1, hx2⟩ := unhide HX
        rw [List.mem_cons] at hz
        have hyk := unhide HY
        have hlk : k < (prt s.data.toList).length := (List.getElem?_eq_some_iff.1 hyk).1
        rcases hz with rfl | hz
        · have : prt z.p = [] := by rw [Nd.p, (unhide HMem).root]; rfl
          rw [e] at this
          rw [this] at hlk
          simp at hlk
        · obtain ⟨kz, hkz, _, hez⟩ := nd_at hz
          obtain ⟨qa, a, hqa, hae, hpa⟩ := ancestor (unhide HO) (by simp [entsN]) kz z.ent (k + 1) hkz hez (by omega) (by show k + 1 ≤ (prt z.p).length; rw [e]; omega)
          obtain ⟨xa, hxa, rfl⟩ := nd_get hae
          have hua := okTo_up (unhide HO) hqa hae
          have e5 : prt z.ent.path.data.toList = prt s.data.toList := by show prt z.p = _; rw [e]
          rw [e5, List.take_add_one, hyk, hua] at hpa
          have hpa' : prt (dirOf xa.p) ++ [nameOf xa.p] = (prt s.data.toList).take k ++ [y.data.toList] := hpa
          rw [← hx2] at hpa'
          have h6 := List.append_inj' hpa' rfl
          have hdx : dirOf xa.p = x.p := prt_inj h6.1
          have hnx : nameOf xa.p = y.data.toList := by simpa using h6.2
          have h7 := kids_in hxa
          rw [hdx, hnx] at h7
          exact unhide HNo _ h7 rfl
      · have HQ := hide hq
        simp only [if_true] at hrun
        clear hq hkm
        go_wp2_with fail
        go_round
        case rel =>
          obtain ⟨z, hz, hdz, hnz, rfl⟩ := kids_mem (unhide HQ)
          refine ⟨k + 1, z, by omega, by go_num, rfl, hide ⟨by simp [hz], ?_⟩⟩
          obtain ⟨kz, hkz, _, hez⟩ := nd_at hz
          have hu : prt z.p = prt (dirOf z.p) ++ [nameOf z.p] := okTo_up (unhide HO) hkz hez
          rw [hu, hdz, hnz, (unhide HX).2, List.take_add_one, unhide HY]; rfl
        case measure => simp [intOf]; omega
    · have HF : Hid (FindIs r ns s.data.toList (.pointer (some ⟨x.nb, 0, none⟩))) := hide (by
        obtain ⟨h1, h2⟩ := unhide HX
        refine .inr ⟨x, h1, rfl, prt_inj ?_⟩
        rw [h2, List.take_of_length_le]
        rw [← unhide HE1, txts_len, ← unhide HN1]; omega)
      go_wp2_with fail
      go_ret
      exact ⟨_, rfl, HF, hb1⟩
end Go.Proofs.YtkeefkfklmhcjaaGreatDoor
