import Derived.Test.YtpiponkhhimaoaaGreatDoorStoA
namespace Go.Proofs.YtpiponkhhimaoaaGreatDoor
open Go.RowKit Go.Maps

theorem info140 : (Tryz.prog.info? 68).map (fun i => (i.zero, i.size, i.bytes)) = some (some (.agg #[.string ByteArray.empty, .string ByteArray.empty]), 2, 32) := by kernel_rfl
def Blb.cells (b : Blb) : List Value := [.string b.name, .string b.data]
def blC (l : List Blb) : List Value := (l.map Blb.cells).flatten
theorem blC_len (l : List Blb) : (blC l).length = l.length * 2 := by
  induction l with
  | nil => rfl
  | cons a r ih => simp only [blC, List.map_cons, List.flatten_cons, List.length_append, List.length_cons] at ih ⊢; rw [ih]; simp [Blb.cells]; omega
theorem blC_snoc (l : List Blb) (a : Blb) : blC (l ++ [a]) = blC l ++ a.cells := by simp [blC]
theorem bl_one (a : Blb) : ∀ u ∈ a.cells, u.oneCell' = true := fun u hu => by
  simp only [Blb.cells, List.mem_cons, List.not_mem_nil, or_false] at hu
  rcases hu with rfl | rfl <;> rfl
theorem blC_get : ∀ {l : List Blb} {k : Nat} {b : Blb}, l[k]? = some b → (blC l)[k * 2]? = some (.string b.name) ∧ (blC l)[k * 2 + 1]? = some (.string b.data)
  | [], _, _, h => by simp at h
  | x :: r, 0, e, h => by
    simp at h; subst h
    simp [blC, Blb.cells]
  | x :: r, k + 1, e, h => by
    have h' : r[k]? = some e := by simpa using h
    have := blC_get h'
    have e1 : blC (x :: r) = x.cells ++ blC r := by simp [blC]
    have e2 : x.cells.length = 2 := rfl
    rw [e1, show (k + 1) * 2 = 2 + k * 2 from by omega, show 2 + k * 2 + 1 = 2 + (k * 2 + 1) from by omega]
    rw [List.getElem?_append_right (by omega), List.getElem?_append_right (by omega)]
    simp only [e2, Nat.add_sub_cancel_left]
    exact this
/-- A row of files. -/
def BRow (w : World) (ao : Option Addr) (l : List Blb) : Prop := ∀ k b, l[k]? = some b → ∃ g o, ao = some ⟨g, o, none⟩ ∧ w.cell? ⟨g, o + k * 2, none⟩ = some (.string b.name) ∧ w.cell? ⟨g, o + k * 2 + 1, none⟩ = some (.string b.data)
theorem BRow.below {w w' : World} {ao : Option Addr} {l : List Blb} (h : BRow w ao l) (hb : Below w.heap.size w w') : BRow w' ao l := fun k b hk => by
  obtain ⟨g, o, e, h1, h2⟩ := h k b hk
  exact ⟨g, o, e, cell_later hb h1, cell_later hb h2⟩
/-- A row of files that a call made. -/
def OwnB (w : World) (B : Nat) (v : Value) (l : List Blb) : Prop := w.ownsRow B 68 2 v l.length (blC l)
theorem ownB_row {w : World} {B : Nat} {v : Value} {l : List Blb} (h : OwnB w B v l) : ∃ ao cap n, v = .slice ao n cap ∧ n = l.length ∧ BRow w ao l ∧ n ≤ cap := by
  rcases h.2 with ⟨rfl, h0⟩ | ⟨g, cap, cur, rfl, hb, hg, hnc, _⟩
  · have : l = [] := List.length_eq_zero_iff.1 h0
    subst this
    exact ⟨none, 0, 0, rfl, rfl, fun k e hk => by simp at hk, Nat.le_refl _⟩
  · refine ⟨some ⟨g, 0, none⟩, cap, l.length, rfl, rfl, fun k e hk => ?_, hnc⟩
    have hk' : k < l.length := (List.getElem?_eq_some_iff.1 hk).1
    obtain ⟨h1, h2⟩ := blC_get hk
    refine ⟨g, 0, rfl, ?_, ?_⟩
    · rw [Nat.zero_add, World.ownsRow.cellAt h _ (by omega), h1]
    · rw [Nat.zero_add, World.ownsRow.cellAt h _ (by omega), h2]
theorem OwnB.below {w w' : World} {B : Nat} {v : Value} {l : List Blb} (h : OwnB w B v l) (hb : Below w.heap.size w w') : OwnB w' B v l :=
  World.ownsRow.kept (row := none) h ⟨hb.os, hb.tape, hb.output, hb.size, fun k hk _ => hb.block k hk⟩ (by cases v.ownBlock <;> simp)
theorem OwnB.base {w : World} {B B' : Nat} {v : Value} {l : List Blb} (h : OwnB w B v l) (hb : B' ≤ B) : OwnB w B' v l := by
  refine ⟨h.1, ?_⟩
  rcases h.2 with h0 | ⟨g, cap, cur, e, h1, h2⟩
  · exact .inl h0
  · exact .inr ⟨g, cap, cur, e, Nat.le_trans hb h1, h2⟩
theorem ownB_snoc {w : World} {B : Nat} {v : Value} {l : List Blb} {b : Blb} (h : w.ownsRow B 68 2 v (l.length + 1) (blC l ++ b.cells)) : OwnB w B v (l ++ [b]) := by
  unfold OwnB
  rw [List.length_append, blC_snoc]
  exact h
/-- What 'file' answers. -/
def FileIs (L : List Blb) (x : List UInt8) (r : Int) : Prop := (r = -1 ∧ getB L x = none) ∨ ∃ (k : Nat) (b : Blb), r = k ∧ L[k]? = some b ∧ b.nm = x ∧ getB L x = some b
theorem get_first {L : List Blb} {x : List UInt8} {k : Nat} {b : Blb} (h : ∀ z ∈ L.take k, z.nm ≠ x) (hk : L[k]? = some b) (hb : b.nm = x) : getB L x = some b := by
  obtain ⟨hk1, hk2⟩ := List.getElem?_eq_some_iff.1 hk
  have e : L = L.take k ++ b :: L.drop (k + 1) := by rw [← hk2, List.getElem_cons_drop, List.take_append_drop]
  have e1 : (L.take k).find? (fun z => z.nm == x) = none := List.find?_eq_none.2 fun z hz => by simpa using h z hz
  rw [getB, e, List.find?_append, e1, List.find?_cons_of_pos (by simp [hb])]
  rfl
theorem get_no {L : List Blb} {x : List UInt8} (h : ∀ z ∈ L, z.nm ≠ x) : getB L x = none := List.find?_eq_none.2 fun z hz => by simpa using h z hz
theorem take_more {L : List Blb} {x : List UInt8} {k : Nat} {b : Blb} (h : ∀ z ∈ L.take k, z.nm ≠ x) (hk : L[k]? = some b) (hb : b.nm ≠ x) : ∀ z ∈ L.take (k + 1), z.nm ≠ x := fun z hz => by
  rw [List.take_add_one, hk] at hz
  rcases List.mem_append.1 hz with hz | hz
  · exact h z hz
  · simp at hz; subst hz; exact hb
set_option maxHeartbeats 1000000 in
set_option maxRecDepth 100000 in
theorem file_any (ao : Option Addr) (cap n : Nat) (L : List Blb) (s : ByteArray) (w : World) (hr : BRow w ao L) (HN : Hid (n = L.length)) (hn : n ≤ 1099511627776) :
    Calls Tryz.prog 29 #[.slice ao n cap, .string s] w fun ev w' => ∃ r : Int, ev = .returned (.int .i64 r) ∧ Hid (FileIs L s.data.toList r) ∧ w' = w := by
  go_enter Tryz.func29, Tryz.ntmps29
  go_wp2
  go_loop [5] (fun i => ∃ (k : Nat), k ≤ n ∧ i = .int .i64 k ∧ Hid (∀ z ∈ L.take k, z.nm ≠ s.data.toList)) (fun i => n - (intOf i).toNat)
  case atStart => exact ⟨0, by omega, rfl, hide (by simp)⟩
  case round =>
    obtain ⟨k, hk, rfl, HK⟩ := hrel
    by_cases hlt : k < n
    · obtain ⟨e, he⟩ : ∃ e, L[k]? = some e := ⟨L[k]'(by have := unhide HN; omega), List.getElem?_eq_getElem (by have := unhide HN; omega)⟩
      obtain ⟨g, o, rfl, c0, c1⟩ := hr k e he
      have i1 : (0 : Int) ≤ (k : Int) := by omega
      have i2 : (k : Int) < (n : Int) := by omega
      have HE := hide he
      clear he
      by_cases hq : e.nm = s.data.toList
      · have g1 : (e.name.toList == s.toList) = true := by rw [Lib.toList_data, Lib.toList_data, ← hq]; simp [Blb.nm]
        have HF := hide (get_first (unhide HK) (unhide HE) hq)
        have HQ := hide hq
        clear hq
        go_wp2_with fail
        go_ret
        exact ⟨_, rfl, hide (.inr ⟨k, e, rfl, unhide HE, unhide HQ, unhide HF⟩), rfl⟩
      · have g1 : (e.name.toList == s.toList) = false := by rw [Lib.toList_data, Lib.toList_data]; simpa [Blb.nm] using hq
        have HF := hide (take_more (unhide HK) (unhide HE) hq)
        clear hq
        go_wp2_with fail
        go_round
        case rel => first | exact ⟨k + 1, by omega, by go_num, HF⟩ | ((repeat apply Exists.intro); exact ⟨⟨k + 1, by omega, by go_num, HF⟩, rfl⟩)
        case measure => simp [intOf]; omega
    · have HF := hide (get_no (x := s.data.toList) (L := L) (fun z hz => unhide HK z (by rw [List.take_of_length_le (by have := unhide HN; omega)]; exact hz)))
      go_wp2_with fail
      go_ret
      exact ⟨_, rfl, hide (.inl ⟨rfl, unhide HF⟩), rfl⟩
theorem del_yes {L : List Blb} {k : Nat} {e : Blb} {x : List UInt8} (he : L[k]? = some e) (h : e.nm ≠ x) : delB (L.take (k + 1)) x = delB (L.take k) x ++ [e] := by
  rw [delB, delB, List.take_add_one, he, List.filter_append]; simp [h]
theorem del_not {L : List Blb} {k : Nat} {e : Blb} {x : List UInt8} (he : L[k]? = some e) (h : e.nm = x) : delB (L.take (k + 1)) x = delB (L.take k) x := by
  rw [delB, delB, List.take_add_one, he, List.filter_append]; simp [h]
set_option maxHeartbeats 1000000 in
set_option maxRecDepth 100000 in
theorem removed_any (ao : Option Addr) (cap n : Nat) (L : List Blb) (s : ByteArray) (w : World) (hr : BRow w ao L) (HN : Hid (n = L.length)) (hn : n ≤ 1099511627) :
    Calls Tryz.prog 99 #[.slice ao n cap, .string s] w fun ev w' => ∃ v, ev = .returned v ∧ OwnB w' w.heap.size v (delB L s.data.toList) ∧ Below w.heap.size w w' := by
  obtain ⟨i0, hi, hz0, hz1, hz2⟩ := info_parts info140
  go_enter Tryz.func99, Tryz.ntmps99
  go_wp2
  go_loopw [5, 6] (fun v i wr => ∃ (k : Nat) (ks : List Blb), k ≤ n ∧ ks.length ≤ k ∧ i = .int .i64 k ∧ OwnB wr w.heap.size v ks ∧ Below w.heap.size w wr ∧ Hid (ks = delB (L.take k) s.data.toList)) (fun _ i _ => n - (intOf i).toNat)
  case atStart => exact ⟨0, [], by omega, by simp, rfl, World.ownsRow_nil _ _ _ _, Below.refl _ _, hide (by simp [delB])⟩
  case round =>
    obtain ⟨k, ks, hk, hkl, rfl, hown, hb, HK⟩ := hrel
    by_cases hlt : k < n
    · obtain ⟨e, he⟩ : ∃ e, L[k]? = some e := ⟨L[k]'(by have := unhide HN; omega), List.getElem?_eq_getElem (by have := unhide HN; omega)⟩
      obtain ⟨g, o, rfl, c0, c1⟩ := (hr.below hb) k e he
      have i1 : (0 : Int) ≤ (k : Int) := by omega
      have i2 : (k : Int) < (n : Int) := by omega
      have HE := hide he
      clear he
      by_cases hq : e.nm = s.data.toList
      · have g1 : (e.name.toList == s.toList) = true := by rw [Lib.toList_data, Lib.toList_data, ← hq]; simp [Blb.nm]
        have HQ : Hid (delB (L.take (k + 1)) s.data.toList = ks) := hide (by rw [del_not (unhide HE) hq, unhide HK])
        clear hq
        go_wp2_with fail
        go_roundw
        case rel =>
          first
            | exact ⟨k + 1, ks, by omega, by omega, by go_num, hown, hb, hide (unhide HQ).symm⟩
            | ((repeat apply Exists.intro); exact ⟨⟨k + 1, ks, by omega, by omega, by go_num, hown, hb, hide (unhide HQ).symm⟩, rfl⟩)
        case measure => simp [intOf]; omega
      · have g1 : (e.name.toList == s.toList) = false := by rw [Lib.toList_data, Lib.toList_data]; simpa [Blb.nm] using hq
        have HQ : Hid (delB (L.take (k + 1)) s.data.toList = ks ++ [e]) := hide (by rw [del_yes (unhide HE) hq, unhide HK])
        clear hq
        go_wp2_with (first | (at_builtin; refine wpList_append_own _ rfl _ _ 22 rfl w.heap.size 68 i0 _ 2 32 Tryz.underlying22 hi hz0 hz1 hz2 rfl (by decide) _ _ _ rfl (World.ownsRow.alloc hown _) ⟨wr.heap.size, 0, none⟩ 1 1 e.cells rfl rfl (World.news_of_block (cs := #[.string e.name, .string e.data]) (t := 68) (fr := (0, 0)) (heap_alloc_new _ _)) (bl_one e) (by unfold maxLen; omega) (by omega) (by have := hb.size; simp; omega) ?_; intro v' w5 hown5 hgrow _))
        go_roundw
        case rel =>
          have R1 : OwnB w5 w.heap.size v' (ks ++ [e]) := ownB_snoc hown5
          have R2 : Below w.heap.size w w5 := (hb.alloc hb.size _).grown hgrow (by have := hb.size; simp; omega) (fun q hq => (World.ownsRow.lt hown q hq).1)
          first
            | exact ⟨k + 1, ks ++ [e], by omega, by simp; omega, by go_num, R1, R2, hide (unhide HQ).symm⟩
            | ((repeat apply Exists.intro); exact ⟨⟨k + 1, ks ++ [e], by omega, by simp; omega, by go_num, R1, R2, hide (unhide HQ).symm⟩, rfl⟩)
        case measure => simp [intOf]; omega
    · have HF : Hid (ks = delB L s.data.toList) := hide (by rw [unhide HK, List.take_of_length_le (by have := unhide HN; omega)])
      go_wp2_with fail
      go_ret
      exact ⟨_, rfl, by rw [← unhide HF]; exact hown, hb⟩
end Go.Proofs.YtpiponkhhimaoaaGreatDoor

namespace Go.Proofs.YtpiponkhhimaoaaGreatDoor
open Go.RowKit Go.Maps

/-- Has the new file been set in? -/
def dnB (M : List Blb) (b : Blb) : Bool := M.any fun z => Op.bytesLess b.nm z.nm
def outB (M : List Blb) (b : Blb) : List Blb := if dnB M b = true then putB M b else M.filter fun z => Op.bytesLess z.nm b.nm
theorem dn_no {M : List Blb} {b : Blb} (h : dnB M b = false) : ∀ z ∈ M, Op.bytesLess b.nm z.nm = false := fun z hz => by
  have := List.any_eq_false.1 h z hz
  simpa using this
theorem dn_snoc (M : List Blb) (b e : Blb) : dnB (M ++ [e]) b = (dnB M b || Op.bytesLess b.nm e.nm) := by simp [dnB]
theorem gt_nil {M : List Blb} {b : Blb} (h : dnB M b = false) : (M.filter fun z => Op.bytesLess b.nm z.nm) = [] := List.filter_eq_nil_iff.2 fun z hz => by rw [dn_no h z hz]; simp
theorem out_a {M : List Blb} {b e : Blb} (h : dnB M b = false) (he : Op.bytesLess b.nm e.nm = true) : outB (M ++ [e]) b = (outB M b ++ [b]) ++ [e] := by
  have h1 : dnB (M ++ [e]) b = true := by rw [dn_snoc, h, he]; rfl
  rw [outB, if_pos h1, outB, if_neg (by rw [h]; decide), putB, List.filter_append, List.filter_append, gt_nil h]
  simp [he, fl_asymm he]
theorem out_b {M : List Blb} {b e : Blb} (h : dnB M b = false) (he : e.nm = b.nm) : outB (M ++ [e]) b = outB M b := by
  have h1 : dnB (M ++ [e]) b = false := by rw [dn_snoc, h, he, fl_irr]; rfl
  rw [outB, if_neg (by rw [h1]; decide), outB, if_neg (by rw [h]; decide), List.filter_append]
  simp [he, fl_irr]
theorem out_c {M : List Blb} {b e : Blb} (h : dnB M b = false) (he : Op.bytesLess b.nm e.nm = false) (hn : e.nm ≠ b.nm) : outB (M ++ [e]) b = outB M b ++ [e] := by
  have h1 : dnB (M ++ [e]) b = false := by rw [dn_snoc, h, he]; rfl
  have h2 : Op.bytesLess e.nm b.nm = true := by
    cases h3 : Op.bytesLess e.nm b.nm
    · exact absurd (fl_total h3 he) hn
    · rfl
  rw [outB, if_neg (by rw [h1]; decide), outB, if_neg (by rw [h]; decide), List.filter_append]
  simp [h2]
theorem out_gt {M : List Blb} {b e : Blb} (h : dnB M b = true) (hR : Rise (M ++ [e])) : Op.bytesLess b.nm e.nm = true := by
  obtain ⟨z, hz, hl⟩ := List.any_eq_true.1 h
  exact fl_trans hl ((List.pairwise_append.1 hR).2.2 z hz e (by simp))
theorem out_d {M : List Blb} {b e : Blb} (h : dnB M b = true) (hR : Rise (M ++ [e])) : outB (M ++ [e]) b = outB M b ++ [e] := by
  have he := out_gt h hR
  have h1 : dnB (M ++ [e]) b = true := by rw [dn_snoc, h]; rfl
  rw [outB, if_pos h1, outB, if_pos h, putB, putB, List.filter_append, List.filter_append]
  simp [he, fl_asymm he]
theorem out_end {L : List Blb} {b : Blb} (h : dnB L b = false) : outB L b ++ [b] = putB L b := by
  rw [outB, if_neg (by rw [h]; decide), putB, gt_nil h]
theorem out_len (M : List Blb) (hM : Rise M) (b : Blb) : (outB M b).length ≤ M.length + 1 := by
  unfold outB
  split
  · rw [put_len M hM]; have := del_len M b.nm; omega
  · have := List.length_filter_le (fun z : Blb => Op.bytesLess z.nm b.nm) M; omega
theorem take_rise {L : List Blb} (h : Rise L) (k : Nat) : Rise (L.take k) := List.Pairwise.sublist (List.take_sublist k L) h
theorem takeB_snoc {L : List Blb} {k : Nat} {e : Blb} (he : L[k]? = some e) : L.take (k + 1) = L.take k ++ [e] := by rw [List.take_add_one, he]; rfl
set_option maxHeartbeats 2000000 in
set_option maxRecDepth 100000 in
theorem written_any (ao : Option Addr) (cap n : Nat) (L : List Blb) (s d : ByteArray) (w : World) (hr : BRow w ao L) (HN : Hid (n = L.length)) (hn : n ≤ 1099511627) (HR : Hid (Rise L)) :
    Calls Tryz.prog 31 #[.slice ao n cap, .string s, .string d] w fun ev w' => ∃ v, ev = .returned v ∧ OwnB w' w.heap.size v (putB L ⟨s, d⟩) ∧ Below w.heap.size w w' := by
  obtain ⟨i0, hi, hz0, hz1, hz2⟩ := info_parts info140
  go_enter Tryz.func31, Tryz.ntmps31
  go_wp2
  go_loopw [7, 8, 9] (fun v dn i wr => ∃ (k : Nat) (ks : List Blb) (dd : Bool), k ≤ n ∧ ks.length ≤ k + 1 ∧ i = .int .i64 k ∧ dn = .bool dd ∧ OwnB wr w.heap.size v ks ∧ Below w.heap.size w wr ∧ Hid (ks = outB (L.take k) ⟨s, d⟩ ∧ dd = dnB (L.take k) ⟨s, d⟩)) (fun _ _ i _ => n - (intOf i).toNat)
  case atStart => exact ⟨0, [], false, by omega, by simp, rfl, rfl, World.ownsRow_nil _ _ _ _, Below.refl _ _, hide ⟨by simp [outB, dnB], by simp [dnB]⟩⟩
  case round =>
    obtain ⟨k, ks, dd, hk, hkl, rfl, rfl, hown, hb, HK⟩ := hrel
    by_cases hlt : k < n
    · obtain ⟨e, he⟩ : ∃ e, L[k]? = some e := ⟨L[k]'(by have := unhide HN; omega), List.getElem?_eq_getElem (by have := unhide HN; omega)⟩
      obtain ⟨g, o, rfl, c0, c1⟩ := (hr.below hb) k e he
      have i1 : (0 : Int) ≤ (k : Int) := by omega
      have i2 : (k : Int) < (n : Int) := by omega
      have HE := hide he
      have HT := hide (takeB_snoc he)
      have HRt := hide (show Rise (L.take k ++ [e]) by rw [← takeB_snoc he]; exact take_rise (unhide HR) _)
      have HLn : Hid ((outB (L.take (k + 1)) ⟨s, d⟩).length ≤ k + 1 + 1) := hide (by have := out_len (L.take (k + 1)) (take_rise (unhide HR) _) ⟨s, d⟩; rw [List.length_take] at this; omega)
      clear he
      cases dd with
      | true =>
        have hgt := out_gt (unhide HK).2.symm (unhide HRt)
        have g1 : (e.name.toList == s.toList) = false := by rw [Lib.toList_data, Lib.toList_data]; simpa [Blb.nm] using (fl_ne hgt).symm
        have HQ : Hid (outB (L.take (k + 1)) ⟨s, d⟩ = ks ++ [e] ∧ dnB (L.take (k + 1)) ⟨s, d⟩ = true) := hide (by rw [unhide HT, out_d (unhide HK).2.symm (unhide HRt), dn_snoc, ← (unhide HK).2, (unhide HK).1]; exact ⟨rfl, rfl⟩)
        clear hgt
        go_wp2_with (first | (at_builtin; refine wpList_append_own _ rfl _ _ 22 rfl w.heap.size 68 i0 _ 2 32 Tryz.underlying22 hi hz0 hz1 hz2 rfl (by decide) _ _ _ rfl (World.ownsRow.alloc hown _) ⟨wr.heap.size, 0, none⟩ 1 1 e.cells rfl rfl (World.news_of_block (cs := #[.string e.name, .string e.data]) (t := 68) (fr := (0, 0)) (heap_alloc_new _ _)) (bl_one e) (by unfold maxLen; omega) (by omega) (by have := hb.size; simp; omega) ?_; intro v' w5 hown5 hgrow _))
        go_roundw
        case rel =>
          have R1 : OwnB w5 w.heap.size v' (ks ++ [e]) := ownB_snoc hown5
          have R2 : Below w.heap.size w w5 := (hb.alloc hb.size _).grown hgrow (by have := hb.size; simp; omega) (fun q hq => (World.ownsRow.lt hown q hq).1)
          have R3 : (ks ++ [e]).length ≤ k + 1 + 1 := by rw [← (unhide HQ).1]; exact unhide HLn
          first
            | exact ⟨k + 1, ks ++ [e], true, by omega, R3, by go_num, rfl, R1, R2, hide ⟨(unhide HQ).1.symm, (unhide HQ).2.symm⟩⟩
            | ((repeat apply Exists.intro); exact ⟨⟨k + 1, ks ++ [e], true, by omega, R3, by go_num, rfl, R1, R2, hide ⟨(unhide HQ).1.symm, (unhide HQ).2.symm⟩⟩, rfl⟩)
        case measure => simp [intOf]; omega
      | false =>
        cases hl : Op.bytesLess s.data.toList e.nm with
        | true =>
          have l1 : Op.bytesLess s.toList e.name.toList = true := by rw [Lib.toList_data, Lib.toList_data]; exact hl
          have g1 : (e.name.toList == s.toList) = false := by rw [Lib.toList_data, Lib.toList_data]; simpa [Blb.nm] using (fl_ne hl).symm
          have HQ : Hid (outB (L.take (k + 1)) ⟨s, d⟩ = (ks ++ [(⟨s, d⟩ : Blb)]) ++ [e] ∧ dnB (L.take (k + 1)) ⟨s, d⟩ = true) := hide (by rw [unhide HT, out_a (unhide HK).2.symm hl, dn_snoc, ← (unhide HK).2, (unhide HK).1]; exact ⟨rfl, by rw [show Op.bytesLess (Blb.nm ⟨s, d⟩) e.nm = true from hl]; rfl⟩)
          clear hl
          go_upto_region 8 with (first | (at_builtin; refine wpList_append_own _ rfl _ _ 22 rfl w.heap.size 68 i0 _ 2 32 Tryz.underlying22 hi hz0 hz1 hz2 rfl (by decide) _ _ _ rfl (World.ownsRow.alloc hown _) ⟨wr.heap.size, 0, none⟩ 1 1 (Blb.cells ⟨s, d⟩) rfl rfl (World.news_of_block (cs := #[.string s, .string d]) (t := 68) (fr := (0, 0)) (heap_alloc_new _ _)) (bl_one ⟨s, d⟩) (by unfold maxLen; omega) (by omega) (by have := hb.size; simp; omega) ?_; intro v4 w4 hown4 hgrow4 _))
          have R0 : OwnB w4 w.heap.size v4 (ks ++ [(⟨s, d⟩ : Blb)]) := ownB_snoc hown4
          have hb4 : Below w.heap.size w w4 := (hb.alloc hb.size _).grown hgrow4 (by have := hb.size; simp; omega) (fun q hq => (World.ownsRow.lt hown q hq).1)
          obtain ⟨g', o', eg, d0, d1⟩ := (hr.below hb4) k e (unhide HE)
          cases eg
          have hkl4 : (ks ++ [(⟨s, d⟩ : Blb)]).length ≤ k + 2 := by simp; omega
          clear hown4 hgrow4 hown hb c0 c1
          go_wp2_with (first | (at_builtin; refine wpList_append_own _ rfl _ _ 22 rfl w.heap.size 68 i0 _ 2 32 Tryz.underlying22 hi hz0 hz1 hz2 rfl (by decide) _ _ _ rfl (World.ownsRow.alloc R0 _) ⟨w4.heap.size, 0, none⟩ 1 1 e.cells rfl rfl (World.news_of_block (cs := #[.string e.name, .string e.data]) (t := 68) (fr := (0, 0)) (heap_alloc_new _ _)) (bl_one e) (by unfold maxLen; omega) (by omega) (by have := hb4.size; simp; omega) ?_; intro v' w5 hown5 hgrow _))
          go_roundw
          case rel =>
            have R1 : OwnB w5 w.heap.size v' ((ks ++ [(⟨s, d⟩ : Blb)]) ++ [e]) := ownB_snoc hown5
            have R2 : Below w.heap.size w w5 := (hb4.alloc hb4.size _).grown hgrow (by have := hb4.size; simp; omega) (fun q hq => (World.ownsRow.lt R0 q hq).1)
            have R3 : ((ks ++ [(⟨s, d⟩ : Blb)]) ++ [e]).length ≤ k + 1 + 1 := by rw [← (unhide HQ).1]; exact unhide HLn
            first
              | exact ⟨k + 1, _, true, by omega, R3, by go_num, rfl, R1, R2, hide ⟨(unhide HQ).1.symm, (unhide HQ).2.symm⟩⟩
              | ((repeat apply Exists.intro); exact ⟨⟨k + 1, _, true, by omega, R3, by go_num, rfl, R1, R2, hide ⟨(unhide HQ).1.symm, (unhide HQ).2.symm⟩⟩, rfl⟩)
          case measure => simp [intOf]; omega
        | false =>
          have l1 : Op.bytesLess s.toList e.name.toList = false := by rw [Lib.toList_data, Lib.toList_data]; exact hl
          by_cases hq : e.nm = s.data.toList
          · have g1 : (e.name.toList == s.toList) = true := by rw [Lib.toList_data, Lib.toList_data, ← hq]; simp [Blb.nm]
            have HQ : Hid (outB (L.take (k + 1)) ⟨s, d⟩ = ks ∧ dnB (L.take (k + 1)) ⟨s, d⟩ = false) := hide (by rw [unhide HT, out_b (unhide HK).2.symm hq, dn_snoc, ← (unhide HK).2, (unhide HK).1]; exact ⟨rfl, by rw [show Op.bytesLess (Blb.nm ⟨s, d⟩) e.nm = false from hl]; rfl⟩)
            clear hl hq
            go_wp2_with fail
            go_roundw
            case rel =>
              have R3 : ks.length ≤ k + 1 + 1 := by omega
              first
                | exact ⟨k + 1, ks, false, by omega, R3, by go_num, rfl, hown, hb, hide ⟨(unhide HQ).1.symm, (unhide HQ).2.symm⟩⟩
                | ((repeat apply Exists.intro); exact ⟨⟨k + 1, ks, false, by omega, R3, by go_num, rfl, hown, hb, hide ⟨(unhide HQ).1.symm, (unhide HQ).2.symm⟩⟩, rfl⟩)
            case measure => simp [intOf]; omega
          · have g1 : (e.name.toList == s.toList) = false := by rw [Lib.toList_data, Lib.toList_data]; simpa [Blb.nm] using hq
            have HQ : Hid (outB (L.take (k + 1)) ⟨s, d⟩ = ks ++ [e] ∧ dnB (L.take (k + 1)) ⟨s, d⟩ = false) := hide (by rw [unhide HT, out_c (unhide HK).2.symm hl hq, dn_snoc, ← (unhide HK).2, (unhide HK).1]; exact ⟨rfl, by rw [show Op.bytesLess (Blb.nm ⟨s, d⟩) e.nm = false from hl]; rfl⟩)
            clear hl hq
            go_wp2_with (first | (at_builtin; refine wpList_append_own _ rfl _ _ 22 rfl w.heap.size 68 i0 _ 2 32 Tryz.underlying22 hi hz0 hz1 hz2 rfl (by decide) _ _ _ rfl (World.ownsRow.alloc hown _) ⟨wr.heap.size, 0, none⟩ 1 1 e.cells rfl rfl (World.news_of_block (cs := #[.string e.name, .string e.data]) (t := 68) (fr := (0, 0)) (heap_alloc_new _ _)) (bl_one e) (by unfold maxLen; omega) (by omega) (by have := hb.size; simp; omega) ?_; intro v' w5 hown5 hgrow _))
            go_roundw
            case rel =>
              have R1 : OwnB w5 w.heap.size v' (ks ++ [e]) := ownB_snoc hown5
              have R2 : Below w.heap.size w w5 := (hb.alloc hb.size _).grown hgrow (by have := hb.size; simp; omega) (fun q hq => (World.ownsRow.lt hown q hq).1)
              have R3 : (ks ++ [e]).length ≤ k + 1 + 1 := by rw [← (unhide HQ).1]; exact unhide HLn
              first
                | exact ⟨k + 1, ks ++ [e], false, by omega, R3, by go_num, rfl, R1, R2, hide ⟨(unhide HQ).1.symm, (unhide HQ).2.symm⟩⟩
                | ((repeat apply Exists.intro); exact ⟨⟨k + 1, ks ++ [e], false, by omega, R3, by go_num, rfl, R1, R2, hide ⟨(unhide HQ).1.symm, (unhide HQ).2.symm⟩⟩, rfl⟩)
            case measure => simp [intOf]; omega
    · have HT : Hid (L.take k = L) := hide (List.take_of_length_le (by have := unhide HN; omega))
      cases dd with
      | true =>
        have HF : Hid (ks = putB L ⟨s, d⟩) := hide (by rw [(unhide HK).1, unhide HT, outB, if_pos (by have := (unhide HK).2; rw [unhide HT] at this; exact this.symm)])
        go_wp2_with fail
        go_ret
        exact ⟨_, rfl, by rw [← unhide HF]; exact hown, hb⟩
      | false =>
        have HF : Hid (ks ++ [(⟨s, d⟩ : Blb)] = putB L ⟨s, d⟩) := hide (by rw [(unhide HK).1, unhide HT]; exact out_end (by have := (unhide HK).2; rw [unhide HT] at this; exact this.symm))
        go_wp2_with (first | (at_builtin; refine wpList_append_own _ rfl _ _ 22 rfl w.heap.size 68 i0 _ 2 32 Tryz.underlying22 hi hz0 hz1 hz2 rfl (by decide) _ _ _ rfl (World.ownsRow.alloc hown _) ⟨wr.heap.size, 0, none⟩ 1 1 (Blb.cells ⟨s, d⟩) rfl rfl (World.news_of_block (cs := #[.string s, .string d]) (t := 68) (fr := (0, 0)) (heap_alloc_new _ _)) (bl_one ⟨s, d⟩) (by unfold maxLen; omega) (by omega) (by have := hb.size; simp; omega) ?_; intro v4 w4 hown4 hgrow4 _))
        go_ret
        have R0 : OwnB w4 w.heap.size v4 (ks ++ [(⟨s, d⟩ : Blb)]) := ownB_snoc hown4
        have hb4 : Below w.heap.size w w4 := (hb.alloc hb.size _).grown hgrow4 (by have := hb.size; simp; omega) (fun q hq => (World.ownsRow.lt hown q hq).1)
        exact ⟨_, rfl, by rw [← unhide HF]; exact R0, hb4⟩
end Go.Proofs.YtpiponkhhimaoaaGreatDoor
