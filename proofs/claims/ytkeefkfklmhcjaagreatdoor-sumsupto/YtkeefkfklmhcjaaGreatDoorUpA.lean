import Derived.Test.YtkeefkfklmhcjaaGreatDoorOrdB
namespace Go.Proofs.YtkeefkfklmhcjaaGreatDoor
open Go.RowKit

theorem spl_app (a b : List UInt8) : spl (a ++ 47 :: b) = spl a ++ spl b := by
  induction a with
  | nil => simp [spl]
  | cons c r ih =>
    have hne := spl_ne r
    rw [List.cons_append, spl, ih, spl]
    split
    · rfl
    · cases h2 : spl r with
      | nil => exact absurd h2 hne
      | cons x y => simp
theorem spl_no {b : List UInt8} (h : 47 ∉ b) : spl b = [b] := by
  induction b with
  | nil => rfl
  | cons c r ih =>
    simp only [List.mem_cons, not_or] at h
    rw [spl, if_neg (Ne.symm h.1), ih h.2]; rfl
/-- The directory that a path is in, and its last element. -/
def dirOf (l : List UInt8) : List UInt8 := Lib.join ((spl l).dropLast) [47]
def nameOf (l : List UInt8) : List UInt8 := (spl l).getLastD []
theorem dir_no {b : List UInt8} (h : 47 ∉ b) : dirOf b = [] ∧ nameOf b = b := by
  rw [dirOf, nameOf, spl_no h]; exact ⟨rfl, rfl⟩
theorem dir_at {a b : List UInt8} (h : 47 ∉ b) : dirOf (a ++ 47 :: b) = a ∧ nameOf (a ++ 47 :: b) = b := by
  rw [dirOf, nameOf, spl_app, spl_no h]
  simp [spl_join]
theorem own_take {w : World} {B g cap : Nat} {ps : List ByteArray} (h : Own w B (.slice (some ⟨g, 0, none⟩) ps.length cap) ps) (n : Nat) (hn : n ≤ ps.length) : Own w B (.slice (some ⟨g, 0, none⟩) n cap) (ps.take n) := by
  have hl : (ps.take n).length = n := by simp; omega
  rcases h.2 with ⟨hv, _⟩ | ⟨g', cap', cur, hv, hbg, hg, hnc, hcm, hcs, htake⟩
  · cases hv
  · cases hv
    refine ⟨by simp, .inr ⟨g, cap, cur, by rw [hl], hbg, hg, by rw [hl]; omega, hcm, hcs, ?_⟩⟩
    rw [hl, Nat.mul_one, List.map_take, ← htake, List.take_take, Nat.mul_one, Nat.min_eq_left hn]
theorem joined_at (g cap B n : Nat) (ps : List ByteArray) (w : World) (hown : Own w B (.slice (some ⟨g, 0, none⟩) n cap) ps) (hl : n ≤ 4294967280) (hM : (Lib.join (txts ps) [47]).length ≤ 17179869184) :
    Calls Tryz.prog 55 #[.slice (some ⟨g, 0, none⟩) n cap] w fun e w' => e = .returned (.string (bs (Lib.join (txts ps) [47]))) ∧ w' = w := by
  have e : n = ps.length := by
    rcases hown.2 with ⟨hv, _⟩ | ⟨_, _, _, hv, _⟩
    · cases hv
    · cases hv; rfl
  subst e
  exact joined_some g cap B ps w hown hl hM
theorem ret2 {a b c d : ByteArray} (h1 : a = c) (h2 : b = d) : Ending.returned (.tuple #[.string a, .string b]) = .returned (.tuple #[.string c, .string d]) := by rw [h1, h2]

set_option maxHeartbeats 400000 in
theorem up_any (s : ByteArray) (w : World) (hs : s.size ≤ 1073741824) (h : s.data.toList ≠ []) :
    Calls Tryz.prog 30 #[.string s] w fun e w' => ∃ d n : ByteArray, e = .returned (.tuple #[.string d, .string n]) ∧ Hid (d.data.toList = dirOf s.data.toList) ∧ Hid (n.data.toList = nameOf s.data.toList) ∧ Below w.heap.size w w' := by
  have H := hide h
  clear h
  go_enter Tryz.func30, Tryz.ntmps30
  go_upto_region 2 with (go_at_call 52; refine (parts_some s _ (by omega) (unhide H)).mono ?_; rintro ev w1 ⟨g, cap, ps, rfl, hown, ht, hb1⟩)
  have HT := hide ht
  have hne : ps ≠ [] := by rintro rfl; exact spl_ne _ ht.symm
  have hl : ps.length ≤ s.size + 1 := by have := spl_len s.data.toList; rw [← ht, txts_len, ← Lib.size_eq] at this; exact this
  obtain ⟨q, hq⟩ : ∃ q, ps.length = q + 1 := ⟨ps.length - 1, by have := List.length_pos_iff.2 hne; omega⟩
  obtain ⟨x, hx⟩ : ∃ x, ps[q]? = some x := ⟨ps[q]'(by omega), List.getElem?_eq_getElem (by omega)⟩
  have c1 := own_cell hown hx
  have HP := hide (own_take hown q (by omega))
  have hcap : (q : Int) ≤ cap := by
    rcases hown.2 with ⟨hv, _⟩ | ⟨g', cap', cur, hv, hbg, hg, hnc, _⟩
    · cases hv
    · cases hv; omega
  have HJ : Hid (Lib.join (txts (ps.take q)) [47] = dirOf s.data.toList) := hide (by
    rw [dirOf, ← unhide HT, txts, txts, List.map_take, List.dropLast_eq_take, List.length_map, hq]; rfl)
  have HX : Hid (x.data.toList = nameOf s.data.toList) := hide (by
    have h2 : (txts ps)[q]? = some x.data.toList := txts_get hx
    rw [nameOf, ← unhide HT, List.getLastD_eq_getLast?, List.getLast?_eq_getElem?, txts_len, hq, Nat.add_sub_cancel, h2]; rfl)
  have HD : Hid ((dirOf s.data.toList).length ≤ s.size) := hide (by
    rw [← unhide HJ, txts, List.map_take]
    have := jn_le (txts ps) q
    rw [unhide HT, spl_join, ← Lib.size_eq, ← unhide HT] at this
    exact this)
  rw [hq]
  have hw : IntKind.i64.wrap (((q + 1 : Nat) : Int) - 1) = (q : Int) := by rw [show ((q + 1 : Nat) : Int) - 1 = (q : Int) from by omega]; exact wrap_i64 _ (by omega)
  have hq0 : (0 : Int) ≤ (q : Int) := by omega
  have hq1 : (q : Int) < ((q + 1 : Nat) : Int) := by omega
  have hqc : 0 ≤ (q : Int) ∧ (q : Int) ≤ cap := ⟨hq0, hcap⟩
  have hlq : q ≤ s.size := by omega
  clear hx ht hne hl hq hown
  go_upto_region 4 with (go_at_call 55; refine (joined_at _ _ w.heap.size q _ _ (unhide HP) (by omega) ?_).mono ?_; (rw [unhide HJ]; have := unhide HD; omega); rintro ev w2 ⟨rfl, hw⟩; obtain rfl := hw.symm)
  go_quiet (fail)
  go_wp2_with fail
  go_ret2
  refine ⟨_, x, ret2 rfl rfl, hide (by rw [data_bs, unhide HJ]), HX, below_drewN hb1 _⟩

theorem byte_at (s : ByteArray) (j : Nat) (hj : j < s.size) : s.data[j]! = s.data.toList[j]'(by rw [← Lib.size_eq]; exact hj) := by
  have h : j < s.data.size := hj
  rw [getElem!_pos s.data j h]; simp
theorem lastB (s : ByteArray) : (Lib.lastIndexByte s 47 = -1 ∧ dirOf s.data.toList = [] ∧ nameOf s.data.toList = s.data.toList) ∨ (∃ i : Nat, i < s.size ∧ Lib.lastIndexByte s 47 = i ∧ dirOf s.data.toList = s.data.toList.take i ∧ nameOf s.data.toList = s.data.toList.drop (i + 1)) := by
  have hl := Lib.size_eq s
  rcases Lib.lastIndexByte_spec s 47 with ⟨h1, h2⟩ | ⟨i, hi, h1, h2, h3⟩
  · refine .inl ⟨h1, ?_⟩
    refine dir_no fun hm => ?_
    obtain ⟨j, hj, e⟩ := List.getElem_of_mem hm
    have := h2 j (by omega)
    rw [byte_at s j (by omega), e] at this
    exact this rfl
  · refine .inr ⟨i, hi, h1, ?_⟩
    have hc : s.data.toList[i]'(by omega) = 47 := by
      rw [byte_at s i hi] at h2
      exact UInt8.toNat_inj.1 (by have : (47 : UInt8).toNat = 47 := rfl; omega)
    have hsp : s.data.toList = s.data.toList.take i ++ 47 :: s.data.toList.drop (i + 1) := by
      rw [← hc, ← List.drop_eq_getElem_cons, List.take_append_drop]
    have hn : (47 : UInt8) ∉ s.data.toList.drop (i + 1) := fun hm => by
      obtain ⟨j, hj, e⟩ := List.getElem_of_mem hm
      rw [List.length_drop] at hj
      rw [List.getElem_drop] at e
      have := h3 (i + 1 + j) (by omega) (by omega)
      rw [byte_at s _ (by omega), e] at this
      exact this rfl
    have := dir_at (a := s.data.toList.take i) hn
    rw [← hsp] at this
    exact this

set_option maxHeartbeats 400000 in
theorem last_any (s : ByteArray) (w : World) (hs : s.size ≤ 1073741824) :
    Calls Tryz.prog 105 #[.string s] w fun e w' => ∃ d n : ByteArray, e = .returned (.tuple #[.string d, .string n]) ∧ Hid (d.data.toList = dirOf s.data.toList) ∧ Hid (n.data.toList = nameOf s.data.toList) ∧ Below w.heap.size w w' := by
  have hLI := fun w : World => Tryz.strings_LastIndex_one s ⟨#[47]⟩ rfl (by omega) w
  rcases lastB s with ⟨h1, h2, h3⟩ | ⟨i, hi, h1, h2, h3⟩
  · have HR := hide (And.intro h2 h3)
    have hz : Lib.lastIndexByte s (((⟨#[47]⟩ : ByteArray)[0]'(by decide)).toNat : Int) = -1 := h1
    simp only [hz] at hLI
    clear h1 h2 h3 hz
    go_enter Tryz.func105, Tryz.ntmps105
    go_wp2_with (go_at_call 139; refine (hLI _).mono ?_; rintro ev w' ⟨rfl, hw⟩; obtain rfl := hw.symm)
    go_ret2
    exact ⟨bs [], s, ret2 rfl rfl, hide (by rw [(unhide HR).1]; rfl), hide (unhide HR).2.symm, Below.refl _ _⟩
  · have HR := hide (And.intro h2 h3)
    have hz : Lib.lastIndexByte s (((⟨#[47]⟩ : ByteArray)[0]'(by decide)).toNat : Int) = (i : Int) := h1
    simp only [hz] at hLI
    have i0 : (0 : Int) ≤ (i : Int) := by omega
    have i1 : (i : Int) ≤ (s.size : Int) := by omega
    have i2 : (i : Int) + 1 ≤ (s.size : Int) := by omega
    have i3 : (0 : Int) ≤ (i : Int) + 1 := by omega
    clear h1 h2 h3 hz
    go_enter Tryz.func105, Tryz.ntmps105
    go_wp2_with (go_at_call 139; refine (hLI _).mono ?_; rintro ev w' ⟨rfl, hw⟩; obtain rfl := hw.symm)
    go_quiet (fail)
    go_wp2_with fail
    go_ret2
    refine ⟨_, _, ret2 rfl rfl, hide ?_, hide ?_, below_drewN (Below.refl _ _) _⟩
    · rw [Lib.extract_data, (unhide HR).1]; simp
    · rw [Lib.extract_data, (unhide HR).2, List.take_of_length_le (by rw [List.length_drop, ← Lib.size_eq]; omega)]
end Go.Proofs.YtkeefkfklmhcjaaGreatDoor
