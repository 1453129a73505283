import Derived.Test.YtkeefkfklmhcjaaGreatDoorMid
namespace Go.Proofs.YtkeefkfklmhcjaaGreatDoor
open Go.RowKit

set_option maxHeartbeats 400000 in
theorem is_long (s : ByteArray) (w : World) (h : 170 < s.size) :
    Calls Tryz.prog 100 #[.string s] w fun e w' => e = .returned (.bool (isP s.data.toList)) ∧ Below w.heap.size w w' := by
  have B := hide (isP_long (l := s.data.toList) (by have := Lib.size_eq s; omega))
  go_enter Tryz.func100, Tryz.ntmps100
  go_wp2
  go_ret
  exact ⟨ret_bool (unhide B).symm, Below.refl _ _⟩

set_option maxHeartbeats 400000 in
theorem is_nil (s : ByteArray) (w : World) (h : s.data.toList = []) :
    Calls Tryz.prog 100 #[.string s] w fun e w' => e = .returned (.bool (isP s.data.toList)) ∧ Below w.heap.size w w' := by
  have B : Hid (isP s.data.toList = true) := by rw [h]; exact hide (by decide)
  have hz : (s.size : Int) ≤ 170 := by rw [Lib.size_eq s, h]; decide
  have H := hide h
  clear h
  go_enter Tryz.func100, Tryz.ntmps100
  go_wp2_with (go_at_call 104; refine (elems_nil _ _ (unhide H)).mono ?_; rintro e w' ⟨rfl, rfl⟩)
  refine wp_loop_rounds 1 ?_
  rw [rounds_succ]
  go_wp2
  go_ret
  exact ⟨ret_bool (unhide B).symm, Below.refl _ _⟩

set_option maxHeartbeats 800000 in
theorem is_some (s : ByteArray) (m : Int) (w : World) (hs : s.size ≤ 170) (hm : w.cell? ⟨15, 0, none⟩ = some (.int .i64 m)) (h : s.data.toList ≠ []) :
    Calls Tryz.prog 100 #[.string s] w fun e w' => e = .returned (.bool (isP s.data.toList)) ∧ Below w.heap.size w w' := by
  have H := hide h
  have hl0 : Hid ((spl s.data.toList).length ≤ s.size + 1) := hide (by have := spl_len s.data.toList; have := Lib.size_eq s; omega)
  have HP := hide (prt_ne h)
  clear h
  go_enter Tryz.func100, Tryz.ntmps100
  go_wp2_with (go_at_call 104; refine (elems_some _ m _ (by omega) hm (unhide H)).mono ?_; rintro e w1 ⟨g, cap, ps, rfl, hown, ht, hb, _⟩)
  have hlen : ps.length ≤ 171 := by have := txts_len ps; rw [ht] at this; have := unhide hl0; omega
  have HT := hide ht
  clear ht hl0
  go_loop [13] (fun i => ∃ k : Nat, k ≤ ps.length ∧ i = .int .i64 k ∧ Hid (((txts ps).take k).all elt = true)) (fun i => ps.length - (intOf i).toNat)
  case atStart => exact ⟨0, Nat.zero_le _, rfl, hide rfl⟩
  case round =>
    obtain ⟨k, hk, rfl, HA⟩ := hrel
    by_cases hlt : k < ps.length
    · obtain ⟨b, hbk⟩ : ∃ b, ps[k]? = some b := ⟨ps[k], List.getElem?_eq_getElem hlt⟩
      have hcell := own_cell hown hbk
      have HB := hide hbk
      clear hbk
      cases hok : elt b.data.toList
      · have B := hide (isP_not (l := s.data.toList) (by rw [unhide HP, ← unhide HT]; exact txts_get (unhide HB)) hok)
        go_wp2_with (go_at_call 136; refine (isEl_any _ _).mono ?_; rintro e w' ⟨rfl, rfl⟩)
        go_ret
        exact ⟨ret_bool (unhide B).symm, hb⟩
      · have B := hide (all_take_succ (txts_get (unhide HB)) (unhide HA) hok)
        go_wp2_with (go_at_call 136; refine (isEl_any _ _).mono ?_; rintro e w' ⟨rfl, rfl⟩)
        go_round
        case rel => exact ⟨k + 1, by omega, by go_num, B⟩
        case measure => simp [intOf]; omega
    · have B : Hid (isP s.data.toList = decide (ps.length ≤ 12)) := by
        have ha := unhide HA
        have ht := unhide HT
        rw [List.take_of_length_le (by rw [txts_len]; omega)] at ha
        have := isP_yes (l := s.data.toList) (by have := Lib.size_eq s; omega) (by rw [unhide HP, ← ht]; exact ha)
        rw [unhide HP, ← ht, txts_len] at this
        exact hide this
      go_wp2
      go_ret
      exact ⟨ret_bool (by rw [unhide B]; exact decide_eq_decide.2 (by omega)), hb⟩

theorem is_any (s : ByteArray) (m : Int) (w : World) (hm : w.cell? ⟨15, 0, none⟩ = some (.int .i64 m)) :
    Calls Tryz.prog 100 #[.string s] w fun e w' => e = .returned (.bool (isP s.data.toList)) ∧ Below w.heap.size w w' := by
  by_cases h1 : 170 < s.size
  · exact is_long s w h1
  · by_cases h2 : s.data.toList = []
    · exact is_nil s w h2
    · exact is_some s m w (by omega) hm h2

set_option maxHeartbeats 400000 in
theorem isPath_nil (s : ByteArray) (w : World) (h : s.data.toList = []) :
    Calls Tryz.prog 27 #[.string s] w fun e w' => e = .returned (.bool (isP s.data.toList)) ∧ Below w.heap.size w w' := by
  have B : Hid (isP s.data.toList = true) := by rw [h]; exact hide (by decide)
  have hz : (s.size : Int) ≤ 170 := by rw [Lib.size_eq s, h]; decide
  have H := hide h
  clear h
  go_enter Tryz.func27, Tryz.ntmps27
  go_wp2_with (go_at_call 52; refine (parts_nil _ _ (unhide H)).mono ?_; rintro e w' ⟨rfl, rfl⟩)
  refine wp_loop_rounds 1 ?_
  rw [rounds_succ]
  go_wp2
  go_ret
  exact ⟨ret_bool (unhide B).symm, Below.refl _ _⟩

set_option maxHeartbeats 400000 in
theorem isPath_long (s : ByteArray) (w : World) (hs : s.size ≤ 4294967280) (h : s.data.toList ≠ []) (h1 : 170 < s.size) :
    Calls Tryz.prog 27 #[.string s] w fun e w' => e = .returned (.bool (isP s.data.toList)) ∧ Below w.heap.size w w' := by
  have H := hide h
  have B := hide (isP_long (l := s.data.toList) (by have := Lib.size_eq s; omega))
  clear h
  go_enter Tryz.func27, Tryz.ntmps27
  go_wp2_with (go_at_call 52; refine (parts_some _ _ (by omega) (unhide H)).mono ?_; rintro e w1 ⟨g, cap, ps, rfl, hown, ht, hb⟩)
  go_ret
  exact ⟨ret_bool (unhide B).symm, hb⟩

set_option maxHeartbeats 800000 in
theorem isPath_some (s : ByteArray) (w : World) (hs : s.size ≤ 170) (h : s.data.toList ≠ []) :
    Calls Tryz.prog 27 #[.string s] w fun e w' => e = .returned (.bool (isP s.data.toList)) ∧ Below w.heap.size w w' := by
  have H := hide h
  have hl0 : Hid ((spl s.data.toList).length ≤ s.size + 1) := hide (by have := spl_len s.data.toList; have := Lib.size_eq s; omega)
  have HP := hide (prt_ne h)
  clear h
  go_enter Tryz.func27, Tryz.ntmps27
  go_wp2_with (go_at_call 52; refine (parts_some _ _ (by omega) (unhide H)).mono ?_; rintro e w1 ⟨g, cap, ps, rfl, hown, ht, hb⟩)
  · have h12 : 12 < ps.length := by rename_i hx; omega
    have B := hide (isP_deep (l := s.data.toList) (by rw [unhide HP, ← ht, txts_len]; exact h12))
    go_ret
    exact ⟨ret_bool (unhide B).symm, hb⟩
  · have h12 : ps.length ≤ 12 := by rename_i hx; omega
    have HT := hide ht
    clear ht hl0
    go_loop [4] (fun i => ∃ k : Nat, k ≤ ps.length ∧ i = .int .i64 k ∧ Hid (((txts ps).take k).all elt = true)) (fun i => ps.length - (intOf i).toNat)
    case atStart => exact ⟨0, Nat.zero_le _, rfl, hide rfl⟩
    case round =>
      obtain ⟨k, hk, rfl, HA⟩ := hrel
      by_cases hlt : k < ps.length
      · obtain ⟨b, hbk⟩ : ∃ b, ps[k]? = some b := ⟨ps[k], List.getElem?_eq_getElem hlt⟩
        have hcell := own_cell hown hbk
        have HB := hide hbk
        clear hbk
        cases hok : elt b.data.toList
        · have B := hide (isP_not (l := s.data.toList) (by rw [unhide HP, ← unhide HT]; exact txts_get (unhide HB)) hok)
          go_wp2_with (go_at_call 53; refine (refEl_any _ _).mono ?_; rintro e w' ⟨rfl, rfl⟩)
          go_ret
          exact ⟨ret_bool (unhide B).symm, hb⟩
        · have B := hide (all_take_succ (txts_get (unhide HB)) (unhide HA) hok)
          go_wp2_with (go_at_call 53; refine (refEl_any _ _).mono ?_; rintro e w' ⟨rfl, rfl⟩)
          go_round
          case rel => exact ⟨k + 1, by omega, by go_num, B⟩
          case measure => simp [intOf]; omega
      · have B : Hid (isP s.data.toList = true) := by
          have ha := unhide HA
          have ht := unhide HT
          rw [List.take_of_length_le (by rw [txts_len]; omega)] at ha
          have := isP_yes (l := s.data.toList) (by have := Lib.size_eq s; omega) (by rw [unhide HP, ← ht]; exact ha)
          rw [unhide HP, ← ht, txts_len] at this
          exact hide (this.trans (decide_eq_true h12))
        go_wp2
        go_ret
        exact ⟨ret_bool (unhide B).symm, hb⟩

theorem isPath_any (s : ByteArray) (w : World) (hs : s.size ≤ 4294967280) :
    Calls Tryz.prog 27 #[.string s] w fun e w' => e = .returned (.bool (isP s.data.toList)) ∧ Below w.heap.size w w' := by
  by_cases h2 : s.data.toList = []
  · exact isPath_nil s w h2
  · by_cases h1 : 170 < s.size
    · exact isPath_long s w hs h2 h1
    · exact isPath_some s w (by omega) h2

theorem ret_str {a b : ByteArray} (h : a = b) : Ending.returned (.string a) = .returned (.string b) := by rw [h]
def bs (l : List UInt8) : ByteArray := ⟨l.toArray⟩
theorem bs_data (s : ByteArray) : bs s.data.toList = s := Lib.mk_data s
theorem data_bs (l : List UInt8) : (bs l).data.toList = l := rfl
theorem data_append (a b : ByteArray) : (a ++ b).data.toList = a.data.toList ++ b.data.toList := by simp

set_option maxHeartbeats 400000 in
theorem joined_nil (w : World) :
    Calls Tryz.prog 55 #[.slice none 0 0] w fun e w' => e = .returned (.string (bs [])) ∧ w' = w := by
  go_enter Tryz.func55, Tryz.ntmps55
  go_wp2
  refine wp_loop_rounds 1 ?_
  rw [rounds_succ]
  go_wp2
  go_ret
  exact ⟨rfl, rfl⟩

set_option maxHeartbeats 800000 in
theorem joined_some (g cap B : Nat) (ps : List ByteArray) (w : World) (hown : Own w B (.slice (some ⟨g, 0, none⟩) ps.length cap) ps) (hl : ps.length ≤ 4294967280) (hM : (Lib.join (txts ps) [47]).length ≤ 17179869184) :
    Calls Tryz.prog 55 #[.slice (some ⟨g, 0, none⟩) ps.length cap] w fun e w' => e = .returned (.string (bs (Lib.join (txts ps) [47]))) ∧ w' = w := by
  have HM := hide hM
  clear hM
  go_enter Tryz.func55, Tryz.ntmps55
  go_wp2
  go_loop [3, 4] (fun t i => ∃ (k : Nat) (r : ByteArray), k ≤ ps.length ∧ i = .int .i64 k ∧ t = .string r ∧ Hid (r.data.toList = jn k (txts ps))) (fun _ i => ps.length - (intOf i).toNat)
  case atStart => exact ⟨0, bs [], Nat.zero_le _, rfl, rfl, hide rfl⟩
  case round =>
    obtain ⟨k, r, hk, rfl, rfl, HR⟩ := hrel
    have hr : r.size ≤ 17179869184 := by rw [Lib.size_eq, unhide HR]; have := jn_le (txts ps) k; have := unhide HM; omega
    by_cases hlt : k < ps.length
    · obtain ⟨b, hbk⟩ : ∃ b, ps[k]? = some b := ⟨ps[k], List.getElem?_eq_getElem hlt⟩
      have hcell := own_cell hown hbk
      have S := hide (jn_succ (txts ps) k _ (txts_get hbk))
      have hbz : b.size ≤ 17179869184 := by
        have h1 := jn_le (txts ps) (k + 1)
        rw [unhide S] at h1
        have := unhide HM
        rw [Lib.size_eq]
        split at h1
        · omega
        · simp only [List.length_append] at h1; omega
      clear hbk
      by_cases hk0 : k = 0
      · subst hk0
        have hr0 : r.data.toList = [] := unhide HR
        go_wp2
        go_round
        case rel => exact ⟨1, r ++ b, by omega, by go_num, rfl, hide (by rw [unhide S, if_pos rfl, data_append, hr0]; rfl)⟩
        case measure => simp [intOf]; omega
      · go_wp2
        go_round
        case rel => exact ⟨k + 1, r ++ ⟨#[47]⟩ ++ b, by omega, by go_num, rfl, hide (by rw [unhide S, if_neg hk0, data_append, data_append, unhide HR])⟩
        case measure => simp [intOf]; omega
    · have B := hide (jn_all (txts ps) k (by rw [txts_len]; omega))
      go_wp2
      go_ret
      exact ⟨ret_str (by rw [← unhide B, ← unhide HR, bs_data]), rfl⟩
end Go.Proofs.YtkeefkfklmhcjaaGreatDoor
