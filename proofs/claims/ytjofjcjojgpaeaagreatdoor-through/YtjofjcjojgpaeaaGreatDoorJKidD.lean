import Derived.Test.YtjofjcjojgpaeaaGreatDoorJOctP
namespace Go.Proofs.YtjofjcjojgpaeaaGreatDoor
open Go.RowKit Go.Maps

theorem keep_grown {w w' : World} {a : Addr} {v : Value} {b : Nat} (hg : w.grownBy w' (some b)) (hc : w.cell? a = some v) (hne : a.block ≠ b) : w'.cell? a = some v :=
  hg.cell hc (by simpa using hne)

theorem ne_mb {w : World} {b n g h : Nat} {L : List (List UInt8 × Nat)} {cs cs' : Array Value} {t t' : TypeId} {f f' : Nat × Nat} (hk : KM w b n L) (h1 : w.heap[g]? = some (.cells cs t f)) (h2 : w.heap[h]? = some (.cells cs' t' f')) : g ≠ b ∧ h ≠ b := by
  obtain ⟨es, clock, hm, _⟩ := hk
  constructor
  · intro e; rw [e, hm] at h1; cases h1
  · intro e; rw [e, hm] at h2; cases h2
theorem dir_le (p : List UInt8) : (dirOf p).length ≤ p.length := by
  by_cases h : 47 ∈ p
  · obtain ⟨a, b, rfl, hb⟩ := last_slash h
    rw [(dir_at hb).1]; simp
  · rw [(dir_no h).1]; simp
/-- All blocks of cells stay. -/
def KeepC (w w' : World) : Prop := ∀ (g : Nat) (cs : Array Value) (t : TypeId) (f : Nat × Nat), w.heap[g]? = some (Obj.cells cs t f) → w'.heap[g]? = some (Obj.cells cs t f)
theorem keepC_below {w w' : World} (h : Below w.heap.size w w') : KeepC w w' := fun g _ _ _ hg => (h.block g (Array.getElem?_eq_some_iff.1 hg).1).trans hg
theorem keepC_map {w w' : World} {b n : Nat} {L : List (List UInt8 × Nat)} (hk : KM w b n L) (hg : w.grownBy w' (some b)) : KeepC w w' := fun g cs t f hc => by
  have hne := (ne_mb hk hc hc).1
  exact (hg.block g (Array.getElem?_eq_some_iff.1 hc).1 (by simpa using hne)).trans hc
theorem KeepC.trans {a b c : World} (h1 : KeepC a b) (h2 : KeepC b c) : KeepC a c := fun g cs t f h => h2 g cs t f (h1 g cs t f h)
attribute [local go_sem] setCell_drewN alloc_drewN

theorem isDir_nil (w : World) : Calls Tryz.prog 67 #[.pointer none] w fun ev w' => ev = .returned (.bool false) ∧ w' = w := by
  go_enter Tryz.func67, Tryz.ntmps67
  go_wp2
  go_ret
  exact ⟨rfl, rfl⟩
theorem isDir_at (b : Nat) (k : Int) (w : World) (hc : w.cell? ⟨b, 1, none⟩ = some (.int .i64 k)) : Calls Tryz.prog 67 #[.pointer (some ⟨b, 0, none⟩)] w fun ev w' => ev = .returned (.bool (decide (k = 1))) ∧ w' = w := by
  go_enter Tryz.func67, Tryz.ntmps67
  go_wp2
  go_ret
  exact ⟨by by_cases h : k = 1 <;> simp [h], rfl⟩
theorem Ahead.fresh {r : Nd} {ns : List Nd} {e : Ent} (h : Ahead r ns e) {p : List UInt8} (hd : dirOf e.path.data.toList = p) {nn : ByteArray} (hn : nn.data.toList = nameOf e.path.data.toList) {w : World} {b n : Nat} (hk : KM w b n (kidsN ns p)) (hs : nn.size ≤ 1048576) :
    (Instr.lookup 77 (.map (some b)) (.string nn) false).run Tryz.prog w = .ok (.pointer none) w := by
  rcases hk.look nn (by omega) false with ⟨hrun, _⟩ | ⟨q, hq, _⟩
  · exact hrun
  · have h1 := Ahead.less (y := ⟨e, 0, 0⟩) h hd _ hq
    rw [show nameOf (Nd.p ⟨e, 0, 0⟩) = nn.data.toList from hn.symm, bl_irr] at h1
    cases h1
set_option maxHeartbeats 2000000 in
set_option maxRecDepth 100000 in
theorem add_any (r : Nd) (ns : List Nd) (B : Nat) (e : Ent) (m : Int) (w : World) (hM : Mem w B r ns) (HA : Hid (Ahead r ns e)) (hn : ns.length ≤ 40) (hB : B ≤ w.heap.size) (hs : e.path.size ≤ 1048576) (hm : w.cell? ⟨14, 0, none⟩ = some (.int .i64 m)) (_ : 14 < B) :
    Calls Tryz.prog 37 #[.pointer (some ⟨r.nb, 0, none⟩), .agg #[.string e.path, .int .i64 e.kind, .int .i64 e.mode, .string e.data]] w fun ev w' => ∃ b : Bool, ev = .returned (.bool b) ∧ Hid (b = decide (kindP (entsN ns) (dirOf e.path.data.toList) = 1)) ∧ Hid (b = true → ∃ y : Nd, y.ent = e ∧ Mem w' B r (ns ++ [y])) ∧ Hid (KeepC w w') ∧ Below B w w' := by
  have HM := hide hm
  have HMem := hide hM
  have HB := hide hB
  have hB0 : ∀ o, Below w.heap.size w (w.alloc o) := fun o => (Below.refl _ _).alloc (Nat.le_refl _) o
  clear hm hM hB
  go_enter Tryz.func37, Tryz.ntmps37
  go_upto_region 2 with (go_at_call 66; refine (last_any e.path _ (by omega)).mono ?_; rintro ev w1 ⟨dd, nn, rfl, HD, HNm, hb1⟩)
  have hB1 : Below w.heap.size w w1 := (hB0 _).trans (hb1.mono (by simp))
  have hq := (hb1.block w.heap.size (by simp)).trans (heap_alloc_new _ _)
  have hdd : dd.size ≤ 1048576 := by rw [Lib.size_eq, unhide HD]; exact Nat.le_trans (dir_le _) (by rw [← Lib.size_eq]; exact hs)
  have hnn : nn.size ≤ 1048576 := by rw [Lib.size_eq, unhide HNm]; exact Nat.le_trans (name_le _) (by rw [← Lib.size_eq]; exact hs)
  have HQ := hide hq
  clear hq hb1
  go_upto_region 3 with (go_at_call 39; refine (find_any r ns B dd m _ ((unhide HMem).below hB1) (hide (unhide HA).ok) hdd (cell_later hB1 (unhide HM))).mono ?_; rintro ev w2 ⟨v, rfl, HF, hb2⟩)
  have hB2 : Below w.heap.size w w2 := hB1.trans (hb2.mono hB1.size)
  have hq2 : w2.heap[w.heap.size]? = some (.cells #[.string e.path, .int .i64 e.kind, .int .i64 e.mode, .string e.data] 47 (0, 0)) := (hb2.block w.heap.size (Array.getElem?_eq_some_iff.1 (unhide HQ)).1).trans (unhide HQ)
  have hM2 := (unhide HMem).below hB2
  have hBz := unhide HB
  rcases find_kind (unhide HA) (unhide HF) with ⟨rfl, hk⟩ | ⟨x, hx, rfl, hxp, hk⟩
  · have C : Hid (false = decide (kindP (entsN ns) (dirOf e.path.data.toList) = 1)) := hide (by rw [← unhide HD]; exact (decide_eq_false hk).symm)
    clear hk HF hM2 hq2 HQ
    go_wp2_with (go_at_call 67; refine (isDir_nil _).mono ?_; rintro ev w3 ⟨rfl, hw⟩; obtain rfl := hw.symm)
    go_ret
    exact ⟨false, rfl, C, hide (by intro h; cases h), hide (keepC_below hB2), hB2.mono hBz⟩
  · obtain ⟨hx1, hx2, hx3, hx4⟩ := hM2.all x hx
    have c1 : w2.cell? ⟨x.nb, 1, none⟩ = some (.int .i64 x.ent.kind) := cell_of_row w2 x.nb 1 _ _ _ hx3
    have c4 : w2.cell? ⟨x.nb, 4, none⟩ = some (.map (some x.mb)) := cell_of_row w2 x.nb 4 _ _ _ hx3
    have q0 : w2.cell? ⟨w.heap.size, 0, none⟩ = some (.string e.path) := cell_of_row w2 w.heap.size 0 _ _ _ hq2
    have q1 : w2.cell? ⟨w.heap.size, 1, none⟩ = some (.int .i64 e.kind) := cell_of_row w2 w.heap.size 1 _ _ _ hq2
    have q2 : w2.cell? ⟨w.heap.size, 2, none⟩ = some (.int .i64 e.mode) := cell_of_row w2 w.heap.size 2 _ _ _ hq2
    have q3 : w2.cell? ⟨w.heap.size, 3, none⟩ = some (.string e.data) := cell_of_row w2 w.heap.size 3 _ _ _ hq2
    by_cases k1 : x.ent.kind = 1
    · have C : Hid (true = decide (kindP (entsN ns) (dirOf e.path.data.toList) = 1)) := hide (by rw [← unhide HD, hk, k1]; rfl)
      have k2 : (x.ent.kind == 1) = true := by simp [k1]
      rw [k1] at c1
      have HX := hide hx
      have HXp := hide hxp
      have HX4 := hide hx4
      have HM2 := hide hM2
      have HX3 := hide hx3
      have HQ2 := hide hq2
      have hlk := Ahead.fresh (unhide HA) (by rw [hxp]; exact (unhide HD).symm) (unhide HNm) hx4 hnn
      clear hx hxp hx4 hM2 hk HF hx3 hq2 hx1 hx2
      go_upto_region 5 with (go_at_call 67; refine (isDir_at _ _ _ c1).mono ?_; rintro ev w3 ⟨rfl, hw⟩; obtain rfl := hw.symm)
      go_upto_region 8 with (go_at_call 67; refine (isDir_nil _).mono ?_; rintro ev w3 ⟨rfl, hw⟩; obtain rfl := hw.symm)
      go_region_held3 (fun w' => w'.cell? ⟨x.nb, 4, none⟩ = some (.map (some x.mb)) ∧ w'.cell? ⟨w.heap.size, 0, none⟩ = some (.string e.path) ∧ w'.cell? ⟨w.heap.size, 1, none⟩ = some (.int .i64 e.kind) ∧ w'.cell? ⟨w.heap.size, 2, none⟩ = some (.int .i64 e.mode) ∧ w'.cell? ⟨w.heap.size, 3, none⟩ = some (.string e.data))
        (first | exact ⟨keep_grown hg6 p4 (unhide HNE).1, keep_grown hg6 p0 (unhide HNE).2, keep_grown hg6 p1 (unhide HNE).2, keep_grown hg6 p2 (unhide HNE).2, keep_grown hg6 p3 (unhide HNE).2⟩ | exact ⟨p4, p0, p1, p2, p3⟩ | go_keep)
        (first | (go_at_call 60; refine (newNode_any e _).mono ?_; rintro ev w5 ⟨nb, mb, rfl, hnb, hmb, HN5, hb5⟩; have p4 := cell_later (chain0 hb5) c4; have p0 := cell_later (chain0 hb5) q0; have p1 := cell_later (chain0 hb5) q1; have p2 := cell_later (chain0 hb5) q2; have p3 := cell_later (chain0 hb5) q3; obtain ⟨w6, hrun6, hown6, hg6⟩ := World.ownsMap.update ((unhide HX4).below (chain0 hb5)) (Maps.string_keyed Tryz.underlying9) Tryz.underlying77 (by unfold maxLen; omega) (WideMaps.keyOf_string_mk Tryz.underlying9 (s := nn) (by unfold maxLen; omega)) (show RK (.pointer (some ⟨nb, 0, none⟩)) = some (.lit (.int .i64 (nb : Int)), []) from rfl); have HNE : Hid (x.nb ≠ x.mb ∧ w.heap.size ≠ x.mb) := hide (ne_mb (unhide HX4) (unhide HX3) (unhide HQ2))))
      have hxx := (unhide HM2).all x (unhide HX)
      have R1 : Below B w w5 := (hB2.mono hBz).trans (Below.mono (B' := B) (chain0 hb5) (Nat.le_trans hBz hB2.size))
      have R2 : Below B w w6 := R1.grown hg6 (Nat.le_trans hBz R1.size) (fun q hq => by cases hq; exact hxx.2.1)
      have hdir : dirOf (Nd.p ⟨e, nb, mb⟩) = x.p := by rw [unhide HXp, unhide HD]; rfl
      have R3 : KM w6 x.mb (ns.length + 1) (kidsN ns x.p ++ [(nameOf (Nd.p ⟨e, nb, mb⟩), nb)]) := by
        have h := hown6
        rw [unhide HNm] at h
        unfold KM
        rw [← DK_put (Ahead.less (y := ⟨e, nb, mb⟩) (unhide HA) hdir)]
        exact h
      have hz2 : B ≤ w2.heap.size := Nat.le_trans hBz hB2.size
      have hnb' : w2.heap.size ≤ nb := hnb
      have hmb' : w2.heap.size ≤ mb := hmb
      have R4 : Mem w6 B r (ns ++ [⟨e, nb, mb⟩]) := Mem.add ((unhide HM2).below (chain0 hb5)) (unhide HX) (y := ⟨e, nb, mb⟩) (Nat.le_trans hz2 hnb') (Nat.le_trans hz2 hmb') (unhide HN5).1 (unhide HN5).2
        (fun z hz => by have := World.ownsMap.lt ((unhide HM2).all z hz).2.2.2; show z.mb ≠ mb; omega) R3 hg6 hdir ((unhide HA).uniq (unhide HX)) (Ahead.kids (y := ⟨e, nb, mb⟩) (unhide HA))
      go_wp2_with fail
      go_ret
      exact ⟨true, rfl, C, hide (fun _ => ⟨⟨e, nb, mb⟩, rfl, R4⟩), hide ((keepC_below hB2).trans ((keepC_below (chain0 hb5)).trans (keepC_map ((unhide HX4).below (chain0 hb5)) hg6))), R2⟩
    · have C : Hid (false = decide (kindP (entsN ns) (dirOf e.path.data.toList) = 1)) := hide (by rw [← unhide HD, hk]; exact (decide_eq_false k1).symm)
      have k2 : (x.ent.kind == 1) = false := by simp [k1]
      clear hk HF hM2 hq2 HQ hx hxp
      go_wp2_with (go_at_call 67; refine (isDir_at _ _ _ c1).mono ?_; rintro ev w3 ⟨rfl, hw⟩; obtain rfl := hw.symm)
      go_ret
      exact ⟨false, rfl, C, hide (by intro h; cases h), hide (keepC_below hB2), hB2.mono hBz⟩
end Go.Proofs.YtjofjcjojgpaeaaGreatDoor

namespace Go.Proofs.YtjofjcjojgpaeaaGreatDoor
open Go.RowKit Go.Maps

theorem take_ents {es : List Ent} {ns : List Nd} {k : Nat} (h : entsN ns = es.take k) (hk : k ≤ es.length) : ns.length = k := by
  have := congrArg List.length h
  simp [entsN] at this
  omega
theorem okTo_take {es : List Ent} {k : Nat} (h : ∀ j, j < k → okAt es j = true) (_ : k ≤ es.length) : OkTo (es.take k) k := by
  intro i hi
  have e1 : (es.take k)[i]? = es[i]? := by rw [List.getElem?_take, if_pos hi]
  have e2 : (es.take k)[i - 1]? = es[i - 1]? := by rw [List.getElem?_take, if_pos (by omega)]
  have e3 : (es.take k).take i = es.take i := by rw [List.take_take, Nat.min_eq_left (by omega)]
  have := okG_of (h i hi)
  unfold okG at this ⊢
  rw [e1, e2, e3]
  exact this
/-- The two answers of 'Of'. -/
def OfIs (w : World) (B : Nat) (es : List Ent) (v : Value) (er : Value) : Prop :=
  (∃ (r : Nd) (ns : List Nd), v = .pointer (some ⟨r.nb, 0, none⟩) ∧ er = .nilIface ∧ entsN ns = es ∧ Mem w B r ns ∧ FirstBad es (-1)) ∨
  (∃ (i q : Nat), v = .pointer none ∧ er = .iface 68 (.pointer (some ⟨q, 0, none⟩)) ∧ w.cell? ⟨q, 0, none⟩ = some (.int .i64 2) ∧ w.cell? ⟨q, 1, none⟩ = some (.int .i64 (i : Int)) ∧ FirstBad es i)

theorem prt_some {l : List UInt8} (h : l ≠ []) : prt l ≠ [] := by rw [prt_ne h]; exact spl_ne l
theorem ltL_nil {x : List (List UInt8)} (h : x ≠ []) : ltL [] x = true := by
  cases x with
  | nil => exact absurd rfl h
  | cons a b => rfl
theorem ahead_of {es : List Ent} {k : Nat} {ns : List Nd} {e : Ent} {A : ByteArray} {r : Nd} (hK : ∀ j, j < k → okAt es j = true) (hk : k ≤ es.length) (hE : entsN ns = es.take k) (he : entOk e = true) (hA : (k = 0 ∧ A.data.toList = []) ∨ ∃ d, es[k - 1]? = some d ∧ 0 < k ∧ A.data.toList = d.path.data.toList) (hL : ltL (prt A.data.toList) (prt e.path.data.toList) = true) (hr : r.ent = rootE) : Ahead r ns e := by
  have hl := take_ents hE hk
  have hok := okTo_take hK hk
  refine ⟨by rw [hE, hl]; exact hok, he, fun x hx => ?_, hr⟩
  obtain ⟨j, hj, _, hje⟩ := nd_at hx
  rw [hl] at hj
  rw [hE] at hje
  rcases hA with ⟨rfl, _⟩ | ⟨d, h1, h2, h3⟩
  · omega
  · rw [h3] at hL
    by_cases hjk : j = k - 1
    · subst hjk
      rw [List.getElem?_take, if_pos (by omega), h1] at hje
      cases hje
      exact hL
    · have h1' : (es.take k)[k - 1]? = some d := by rw [List.getElem?_take, if_pos (by omega), h1]
      exact ltL_trans (ord_lt hok (k - 1) j x.ent d (by omega) (by omega) hje h1') hL
theorem new_any (w : World) :
    Calls Tryz.prog 34 #[] w fun ev w' => ∃ nb mb : Nat, ev = .returned (.pointer (some ⟨nb, 0, none⟩)) ∧ w.heap.size ≤ nb ∧ w.heap.size ≤ mb ∧ Hid (w'.heap[nb]? = some (.cells (Nd.cells ⟨rootE, nb, mb⟩) 79 (0, 0)) ∧ KM w' mb 0 []) ∧ Below w.heap.size w w' := by
  have h := newNode_any rootE w
  go_enter Tryz.func34, Tryz.ntmps34
  go_wp2_with (go_at_call 60; refine h.mono ?_; clear h; rintro ev w1 ⟨rb, rm, rfl, hnb, hmb, HN1, hb1⟩)
  go_ret
  exact ⟨rb, rm, rfl, hnb, hmb, HN1, hb1⟩
set_option maxHeartbeats 2000000 in
set_option maxRecDepth 100000 in
theorem of_tree (ao : Option Addr) (cap n : Nat) (es : List Ent) (m : Int) (w : World) (hr : ERow w ao es) (HN : Hid (n = es.length)) (hn : n ≤ 4294967280) (HS : Hid (Small es)) (hm : w.cell? ⟨14, 0, none⟩ = some (.int .i64 m)) :
    Calls Tryz.prog 27 #[.slice ao n cap] w fun ev w' => ∃ v er, ev = .returned (.tuple #[v, er]) ∧ Hid (OfIs w' w.heap.size es v er) ∧ Below w.heap.size w w' := by
  have hm2 : 14 < w.heap.size := World.block_lt_of_cell? _ _ hm
  have HM := hide hm
  clear hm
  go_enter Tryz.func27, Tryz.ntmps27
  go_upto_region 2 with (go_at_call 34; refine (new_any _).mono ?_; rintro ev w1 ⟨rb, rm, rfl, hnb, hmb, HN1, hb1⟩)
  have c0 : w1.cell? ⟨rb, 0, none⟩ = some (.string rootE.path) := cell_of_row w1 rb 0 _ _ _ (unhide HN1).1
  have HMem : Hid (Mem w1 w.heap.size ⟨rootE, rb, rm⟩ []) := hide ⟨rfl, fun x hx => by
    rw [List.mem_singleton] at hx
    subst hx
    exact ⟨hnb, hmb, (unhide HN1).1, (unhide HN1).2⟩, by simp⟩
  clear HN1 hnb hmb
  go_wp2_with fail
  have hm40 : Hid (Hid True) := hide (hide trivial)
  clear hm40
  go_loopw [5, 16] (fun v i wr => ∃ (k : Nat) (A : ByteArray) (ns : List Nd), k ≤ n ∧ v = .string A ∧ i = .int .i64 k ∧ Below w.heap.size w wr ∧ Hid (∀ j, j < k → okAt es j = true) ∧ Hid (entsN ns = es.take k) ∧ Hid (Mem wr w.heap.size ⟨rootE, rb, rm⟩ ns) ∧ Hid ((k = 0 ∧ A.data.toList = []) ∨ ∃ d, es[k - 1]? = some d ∧ 0 < k ∧ A.data.toList = d.path.data.toList) ∧ Hid (A.size ≤ 1048576)) (fun _ i _ => n - (intOf i).toNat)
  case atStart => exact ⟨0, rootE.path, [], by omega, rfl, rfl, hb1, hide (by intro j hj; omega), hide (by simp [entsN]), HMem, hide (.inl ⟨rfl, rfl⟩), hide (by decide)⟩
  case round =>
    obtain ⟨k, A, ns, hk, rfl, rfl, hb, HK, HE, HMm, HAh0, HAz⟩ := hrel
    by_cases hlt : k < n
    · obtain ⟨e, he⟩ : ∃ e, es[k]? = some e := ⟨es[k]'(by have := unhide HN; omega), List.getElem?_eq_getElem (by have := unhide HN; omega)⟩
      obtain ⟨g, o, rfl, c0, c1, c2, c3⟩ := (hr.below hb) k e he
      have i0 : (0 : Int) ≤ (k : Int) := by omega
      have i1 : (k : Int) < (n : Int) := by omega
      have hsz := unhide HS e (List.mem_of_getElem? he)
      have hs1 := hsz.1
      have HEe := hide he
      have HLen : Hid (k < es.length) := hide (by have := unhide HN; omega)
      have HO := hide (okAt_eq he)
      have HL : Hid (ns.length = k) := hide (take_ents (unhide HE) (by have := unhide HLen; omega))
      have k40 := all_lt (unhide HK)
      obtain ⟨W0, hW0⟩ : ∃ W0, W0 = wr.alloc (.cells #[.string e.path, .int .i64 e.kind, .int .i64 e.mode, .string e.data] 47) := ⟨_, rfl⟩
      have hB0w : Below wr.heap.size wr W0 := by rw [hW0]; exact (Below.refl _ _).alloc (Nat.le_refl _) _
      have hB0 := hb.trans (hB0w.mono hb.size)
      have q0 : W0.cell? ⟨wr.heap.size, 0, none⟩ = some (.string e.path) := by rw [hW0]; exact cell_of_row _ _ 0 _ _ _ (heap_alloc_new _ _)
      have q1 : W0.cell? ⟨wr.heap.size, 1, none⟩ = some (.int .i64 e.kind) := by rw [hW0]; exact cell_of_row _ _ 1 _ _ _ (heap_alloc_new _ _)
      have q2 : W0.cell? ⟨wr.heap.size, 2, none⟩ = some (.int .i64 e.mode) := by rw [hW0]; exact cell_of_row _ _ 2 _ _ _ (heap_alloc_new _ _)
      have q3 : W0.cell? ⟨wr.heap.size, 3, none⟩ = some (.string e.data) := by rw [hW0]; exact cell_of_row _ _ 3 _ _ _ (heap_alloc_new _ _)
      have HM0 := hide (cell_later hB0 (unhide HM))
      have HQ0 : Hid (W0.heap[wr.heap.size]? = some (.cells #[.string e.path, .int .i64 e.kind, .int .i64 e.mode, .string e.data] 47 (0, 0))) := hide (by rw [hW0]; exact heap_alloc_new _ _)
      clear he hsz
      go_upto_region 6 with fail
      rw [← hW0]
      clear hW0 c0 c1 c2 c3
      by_cases k4 : 40 ≤ (k : Int)
      · have C : Hid (okAt es k = false) := hide (by rw [unhide HO]; have : ¬ k < 40 := by omega
                                                     simp [this])
        go_wp2_with fail
        go_ret2
        refine ⟨_, _, rfl, hide (.inr ⟨k, W0.heap.size, rfl, rfl, ?_, ?_, firstBad_at (unhide HLen) (unhide C) (unhide HK)⟩), hB0.alloc hB0.size _⟩
        · exact cell_of_row _ _ 0 _ _ _ (heap_alloc_new W0 _)
        · exact cell_of_row _ _ 1 _ _ _ (heap_alloc_new W0 _)
      · have k5 : k < 40 := by omega
        have k6 : (k : Int) < 40 := by omega
        cases hE : entOk e
        · have C : Hid (okAt es k = false) := hide (by rw [unhide HO, hE]; simp)
          go_upto_region 7 with (first
            | (go_at_call 35; refine (isEntry_any e m _ (unhide HM0)).mono ?_; rintro ev w2 ⟨rfl, hb2⟩; have q0 := cell_later hb2 q0; have q1 := cell_later hb2 q1; have q2 := cell_later hb2 q2; have q3 := cell_later hb2 q3; have hB2 := hB0.trans (Below.mono (B' := w.heap.size) hb2 hB0.size)))
          go_wp2_with fail
          go_ret2
          refine ⟨_, _, rfl, hide (.inr ⟨k, w2.heap.size, rfl, rfl, ?_, ?_, firstBad_at (unhide HLen) (unhide C) (unhide HK)⟩), hB2.alloc hB2.size _⟩
          · exact cell_of_row _ _ 0 _ _ _ (heap_alloc_new w2 _)
          · exact cell_of_row _ _ 1 _ _ _ (heap_alloc_new w2 _)
        · cases hL : ltL (prt A.data.toList) (prt e.path.data.toList)
          · have C : Hid (okAt es k = false) := hide (by
              rcases unhide HAh0 with ⟨_, h2⟩ | ⟨d, h1, h2, h3⟩
              · rw [h2, prt_nil] at hL
                rw [ltL_nil (prt_some (ent_parts hE).1)] at hL
                cases hL
              · rw [h3] at hL
                rw [unhide HO, h1]
                have h0 : ¬ k = 0 := by omega
                simp [h0, hL])
            go_upto_region 7 with (first
              | (go_at_call 35; refine (isEntry_any e m _ (unhide HM0)).mono ?_; rintro ev w2 ⟨rfl, hb2⟩; have q0 := cell_later hb2 q0; have q1 := cell_later hb2 q1; have q2 := cell_later hb2 q2; have q3 := cell_later hb2 q3; have hB2 := hB0.trans (Below.mono (B' := w.heap.size) hb2 hB0.size))
              | (go_at_call 36; refine (compare_any A e.path m _ ?_ ?_ ?_).mono ?_; (have := unhide HAz; omega); omega; exact (cell_later hB2 (unhide HM)); rintro ev w3 ⟨rr, rfl, hrr, hb3⟩; have q0 := cell_later hb3 q0; have q1 := cell_later hb3 q1; have q2 := cell_later hb3 q2; have q3 := cell_later hb3 q3; have hB3 := hB2.trans (Below.mono (B' := w.heap.size) hb3 hB2.size); have hn1 : 0 ≤ rr := by (have h0 : ¬ rr < 0 := fun h => (by have := hrr.1 h; rw [hL] at this; cases this)); omega))
            go_wp2_with fail
            go_ret2
            refine ⟨_, _, rfl, hide (.inr ⟨k, w3.heap.size, rfl, rfl, ?_, ?_, firstBad_at (unhide HLen) (unhide C) (unhide HK)⟩), hB3.alloc hB3.size _⟩
            · exact cell_of_row _ _ 0 _ _ _ (heap_alloc_new w3 _)
            · exact cell_of_row _ _ 1 _ _ _ (heap_alloc_new w3 _)
          · have HAh : Hid (Hid (Ahead ⟨rootE, rb, rm⟩ ns e)) := hide (hide (ahead_of (unhide HK) (by have := unhide HLen; omega) (unhide HE) hE (unhide HAh0) hL rfl))
            have HO2 : Hid (okAt es k = decide (kindP (entsN ns) (dirOf e.path.data.toList) = 1)) := hide (by
              rw [unhide HO, hE, unhide HE]
              rcases unhide HAh0 with ⟨h1, _⟩ | ⟨d, h1, h2, h3⟩
              · subst h1; simp
              · rw [h3] at hL
                rw [h1]
                simp [k5, hL])
            by_cases hkd : kindP (entsN ns) (dirOf e.path.data.toList) = 1
            · have C : Hid (okAt es k = true) := hide (by rw [unhide HO2, hkd]; rfl)
              have HKd := hide hkd
              clear hkd
              go_upto_region 8 with (first
                | (go_at_call 35; refine (isEntry_any e m _ (unhide HM0)).mono ?_; rintro ev w2 ⟨rfl, hb2⟩; have q0 := cell_later hb2 q0; have q1 := cell_later hb2 q1; have q2 := cell_later hb2 q2; have q3 := cell_later hb2 q3; have hB2 := hB0.trans (Below.mono (B' := w.heap.size) hb2 hB0.size))
                | (go_at_call 36; refine (compare_any A e.path m _ ?_ ?_ ?_).mono ?_; (have := unhide HAz; omega); omega; exact (cell_later hB2 (unhide HM)); rintro ev w3 ⟨rr, rfl, hrr, hb3⟩; have q0 := cell_later hb3 q0; have q1 := cell_later hb3 q1; have q2 := cell_later hb3 q2; have q3 := cell_later hb3 q3; have hB3 := hB2.trans (Below.mono (B' := w.heap.size) hb3 hB2.size); have hn1 : rr < 0 := hrr.2 hL; have hn2 : ¬ (0 ≤ rr) := (by omega))
                | (go_at_call 37; refine (add_any _ ns w.heap.size e m _ ((((unhide HMm).below hB0w).below hb2).below hb3) (unhide HAh) ?_ ?_ ?_ ?_ hm2).mono ?_; (have := unhide HL; omega); exact hB3.size; omega; exact (cell_later hB3 (unhide HM)); rintro ev w4 ⟨bb, rfl, HB1, HB2, HKC, hb4⟩; have hB4 := hB3.trans hb4; have q0 : w4.cell? ⟨wr.heap.size, 0, none⟩ = some (.string e.path) := cell_of_row w4 wr.heap.size 0 _ _ _ (unhide HKC _ _ _ _ (keepC_below hb3 _ _ _ _ (keepC_below hb2 _ _ _ _ (unhide HQ0)))); have hbt : bb = true := (by rw [unhide HB1, unhide HKd]; rfl); subst hbt))
              go_wp2_with fail
              go_roundw
              case rel =>
                obtain ⟨y, hy1, hy2⟩ : ∃ y : Nd, y.ent = e ∧ Mem w4 w.heap.size ⟨rootE, rb, rm⟩ (ns ++ [y]) := by
                  first
                    | exact unhide HB2 trivial
                    | exact unhide HB2
                have R1 : ∀ j, j < k + 1 → okAt es j = true := fun j hj => by
                  rcases Nat.lt_or_ge j k with h | h
                  · exact unhide HK j h
                  · have e9 : j = k := by omega
                    rw [e9]; exact unhide C
                have R2 : entsN (ns ++ [y]) = es.take (k + 1) := by
                  rw [List.take_add_one, unhide HEe, ← unhide HE]
                  simp [entsN, hy1]
                have R3 : (k + 1 = 0 ∧ e.path.data.toList = []) ∨ ∃ d, es[k + 1 - 1]? = some d ∧ 0 < k + 1 ∧ e.path.data.toList = d.path.data.toList := .inr ⟨e, by rw [Nat.add_sub_cancel]; exact unhide HEe, by omega, rfl⟩
                first
                  | exact ⟨k + 1, e.path, ns ++ [y], by omega, rfl, by go_num, hB4, hide R1, hide R2, hide hy2, hide R3, hide hs1⟩
                  | ((repeat apply Exists.intro); exact ⟨⟨k + 1, e.path, ns ++ [y], by omega, rfl, by go_num, hB4, hide R1, hide R2, hide hy2, hide R3, hide hs1⟩, rfl⟩)
              case measure => simp [intOf]; omega
            · have C : Hid (okAt es k = false) := hide (by rw [unhide HO2]; exact decide_eq_false hkd)
              have HKd := hide hkd
              clear hkd
              go_upto_region 7 with (first
                | (go_at_call 35; refine (isEntry_any e m _ (unhide HM0)).mono ?_; rintro ev w2 ⟨rfl, hb2⟩; have q0 := cell_later hb2 q0; have q1 := cell_later hb2 q1; have q2 := cell_later hb2 q2; have q3 := cell_later hb2 q3; have hB2 := hB0.trans (Below.mono (B' := w.heap.size) hb2 hB0.size))
                | (go_at_call 36; refine (compare_any A e.path m _ ?_ ?_ ?_).mono ?_; (have := unhide HAz; omega); omega; exact (cell_later hB2 (unhide HM)); rintro ev w3 ⟨rr, rfl, hrr, hb3⟩; have q0 := cell_later hb3 q0; have q1 := cell_later hb3 q1; have q2 := cell_later hb3 q2; have q3 := cell_later hb3 q3; have hB3 := hB2.trans (Below.mono (B' := w.heap.size) hb3 hB2.size); have hn1 : rr < 0 := hrr.2 hL; have hn2 : ¬ (0 ≤ rr) := (by omega))
                | (go_at_call 37; refine (add_any _ ns w.heap.size e m _ ((((unhide HMm).below hB0w).below hb2).below hb3) (unhide HAh) ?_ ?_ ?_ ?_ hm2).mono ?_; (have := unhide HL; omega); exact hB3.size; omega; exact (cell_later hB3 (unhide HM)); rintro ev w4 ⟨bb, rfl, HB1, HB2, HKC, hb4⟩; have hB4 := hB3.trans hb4; have q0 : w4.cell? ⟨wr.heap.size, 0, none⟩ = some (.string e.path) := cell_of_row w4 wr.heap.size 0 _ _ _ (unhide HKC _ _ _ _ (keepC_below hb3 _ _ _ _ (keepC_below hb2 _ _ _ _ (unhide HQ0)))); have hbt : bb = false := (by rw [unhide HB1]; exact decide_eq_false (unhide HKd)); subst hbt))
              go_wp2_with fail
              go_ret2
              refine ⟨_, _, rfl, hide (.inr ⟨k, w4.heap.size, rfl, rfl, ?_, ?_, firstBad_at (unhide HLen) (unhide C) (unhide HK)⟩), hB4.alloc hB4.size _⟩
              · exact cell_of_row _ _ 0 _ _ _ (heap_alloc_new w4 _)
              · exact cell_of_row _ _ 1 _ _ _ (heap_alloc_new w4 _)
    · have HF : Hid (FirstBad es (-1)) := hide (.inl ⟨rfl, fun i hi => unhide HK i (by have := unhide HN; omega)⟩)
      have HE2 : Hid (entsN ns = es) := hide (by rw [unhide HE, List.take_of_length_le (by have := unhide HN; omega)])
      go_wp2_with fail
      go_ret2
      exact ⟨_, _, rfl, hide (.inl ⟨⟨rootE, rb, rm⟩, ns, rfl, rfl, unhide HE2, unhide HMm, unhide HF⟩), hb⟩
end Go.Proofs.YtjofjcjojgpaeaaGreatDoor
