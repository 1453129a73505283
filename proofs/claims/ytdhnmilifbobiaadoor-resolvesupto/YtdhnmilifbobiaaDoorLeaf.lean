import Derived.Test.YtdhnmilifbobiaaDoorProg
import Derived.Test.YtdhnmilifbobiaaDoorPlain
import Derived.WalkKit
import Derived.WalkSpells
namespace Go.Proofs.YtdhnmilifbobiaaDoor
open Go.RowKit

set_option maxHeartbeats 400000 in
theorem begins_any (s p : ByteArray) (w : World) :
    Calls Tryd.prog 15 #[.string s, .string p] w fun e w' => e = .returned (.bool (Lib.hasPrefix s.data.toList p.data.toList)) ∧ w' = w := by
  have H := hide (Lib.hasPrefix_raw s p)
  go_enter Tryd.func15, Tryd.ntmps15
  go_wp2
  · go_ret
    exact ⟨ret_bool (by rw [← unhide H]; simp [*]), rfl⟩
  · go_ret
    exact ⟨ret_bool (by rw [← unhide H]; simp [*]), rfl⟩

set_option maxHeartbeats 400000 in
theorem hasPrefix_any (s p : ByteArray) (w : World) :
    Calls Tryd.prog 17 #[.string s, .string p] w fun e w' => e = .returned (.bool (Lib.hasPrefix s.data.toList p.data.toList)) ∧ w' = w := by
  have H := hide (Lib.hasPrefix_raw s p)
  go_enter Tryd.func17, Tryd.ntmps17
  go_wp2
  · go_ret
    exact ⟨ret_bool (by rw [← unhide H]; simp [*]), rfl⟩
  · go_ret
    exact ⟨ret_bool (by rw [← unhide H]; simp [*]), rfl⟩

set_option maxHeartbeats 400000 in
theorem elByte_any (n : Int) (w : World)  :
    Calls Tryd.prog 29 #[.int .u8 n] w fun e w' => e = .returned (.bool (okN n)) ∧ w' = w := by
  go_enter Tryd.func29, Tryd.ntmps29
  go_wp2
  all_goals
    go_ret
    exact ⟨ret_bool (by rw [Bool.eq_iff_iff]; simp [okN] <;> omega), rfl⟩

set_option maxHeartbeats 400000 in
theorem isEl_bad (s : ByteArray) (w : World) (h : hdr s.data.toList = true) :
    Calls Tryd.prog 20 #[.string s] w fun e w' => e = .returned (.bool (elt s.data.toList)) ∧ w' = w := by
  rw [elt_hdr h]
  have H := hide h
  clear h
  go_enter Tryd.func20, Tryd.ntmps20
  go_wp2_with (go_at_call 17; refine (hasPrefix_any _ _ _).mono ?_; rintro e w' ⟨rfl, rfl⟩)
  all_goals first
    | (go_ret; exact ⟨rfl, rfl⟩)
    | exact absurd (unhide H) (by rw [hdr_false s (by assumption)]; simp)

set_option maxHeartbeats 400000 in
theorem isEl_good (s : ByteArray) (w : World) (h : hdr s.data.toList = false) :
    Calls Tryd.prog 20 #[.string s] w fun e w' => e = .returned (.bool (elt s.data.toList)) ∧ w' = w := by
  obtain ⟨h1, h2, h3, h4, h5⟩ := hdr_parts h
  have H := hide h
  have g1 : s.toList.isEmpty = false := by rw [Lib.toList_data]; simpa using h1
  have g2 : (s.size : Int) ≤ 60 := by have := Lib.size_eq s; omega
  have g3 : (s.toList == [46]) = false := by rw [Lib.toList_data]; simpa using h3
  have g4 : (s.toList == [46, 46]) = false := by rw [Lib.toList_data]; simpa using h4
  clear h h1 h2 h3 h4
  go_enter Tryd.func20, Tryd.ntmps20
  go_wp2_with (go_at_call 17; refine (hasPrefix_any _ _ _).mono ?_; rintro e w' ⟨rfl, rfl⟩)
  go_loop [25] (fun i => ∃ k : Nat, k ≤ s.size ∧ i = .int .i64 k ∧ (s.data.toList.take k).all okC = true) (fun i => s.size - (intOf i).toNat)
  case atStart => exact ⟨0, Nat.zero_le _, rfl, rfl⟩
  case round =>
    obtain ⟨k, hk, rfl, ha⟩ := hrel
    have A := hide ha
    clear ha
    by_cases hlt : k < s.size
    · cases hok : okN (s[k].toNat : Int)
      · have B := hide (elt_bad s k hlt hok)
        go_wp2_with (go_at_call 29; refine (elByte_any _ _).mono ?_; rintro e w' ⟨rfl, rfl⟩)
        go_ret
        exact ⟨ret_bool (unhide B).symm, rfl⟩
      · have B := hide (all_snoc s k hlt (unhide A) hok)
        go_wp2_with (go_at_call 29; refine (elByte_any _ _).mono ?_; rintro e w' ⟨rfl, rfl⟩)
        go_round
        case rel => exact ⟨k + 1, by omega, by go_num, unhide B⟩
        case measure => simp [intOf]; omega
    · have B := hide (elt_good s k (by omega) (unhide A) (unhide H))
      go_wp2
      go_ret
      exact ⟨ret_bool (unhide B).symm, rfl⟩

theorem isEl_any (s : ByteArray) (w : World) :
    Calls Tryd.prog 20 #[.string s] w fun e w' => e = .returned (.bool (elt s.data.toList)) ∧ w' = w := by
  cases h : hdr s.data.toList
  · exact isEl_good s w h
  · exact isEl_bad s w h

set_option maxHeartbeats 400000 in
theorem refEl_bad (s : ByteArray) (w : World) (h : hdr s.data.toList = true) :
    Calls Tryd.prog 11 #[.string s] w fun e w' => e = .returned (.bool (elt s.data.toList)) ∧ w' = w := by
  rw [elt_hdr h]
  have H := hide h
  clear h
  go_enter Tryd.func11, Tryd.ntmps11
  go_wp2_with (go_at_call 15; refine (begins_any _ _ _).mono ?_; rintro e w' ⟨rfl, rfl⟩)
  all_goals first
    | (go_ret; exact ⟨rfl, rfl⟩)
    | exact absurd (unhide H) (by rw [hdr_false s (by assumption)]; simp)

set_option maxHeartbeats 1600000 in
theorem refEl_good (s : ByteArray) (w : World) (h : hdr s.data.toList = false) :
    Calls Tryd.prog 11 #[.string s] w fun e w' => e = .returned (.bool (elt s.data.toList)) ∧ w' = w := by
  obtain ⟨h1, h2, h3, h4, h5⟩ := hdr_parts h
  have H := hide h
  have g1 : s.toList.isEmpty = false := by rw [Lib.toList_data]; simpa using h1
  have g2 : (s.size : Int) ≤ 60 := by have := Lib.size_eq s; omega
  have g3 : (s.toList == [46]) = false := by rw [Lib.toList_data]; simpa using h3
  have g4 : (s.toList == [46, 46]) = false := by rw [Lib.toList_data]; simpa using h4
  clear h h1 h2 h3 h4
  go_enter Tryd.func11, Tryd.ntmps11
  go_wp2_with (go_at_call 15; refine (begins_any _ _ _).mono ?_; rintro e w' ⟨rfl, rfl⟩)
  go_loop [4] (fun i => ∃ k : Nat, k ≤ s.size ∧ i = .int .i64 k ∧ (s.data.toList.take k).all okC = true) (fun i => s.size - (intOf i).toNat)
  case atStart => exact ⟨0, Nat.zero_le _, rfl, rfl⟩
  case round =>
    obtain ⟨k, hk, rfl, ha⟩ := hrel
    have A := hide ha
    clear ha
    by_cases hlt : k < s.size
    · cases hok : okN (s[k].toNat : Int)
      · have B := hide (elt_bad s k hlt hok)
        have hc := okN_out hok (by omega)
        clear hok
        rcases hc with hc | hc | hc | hc | hc | hc
        all_goals
          go_wp2
          all_goals first
            | (go_ret; exact ⟨ret_bool (unhide B).symm, rfl⟩)
            | (rename_i hbad; simp only [bne_eq_false_iff_eq, Bool.not_eq_eq_eq_not, Bool.not_false, decide_eq_true_eq] at hbad; exfalso; omega)
      · have B := hide (all_snoc s k hlt (unhide A) hok)
        have hc := okN_true hok
        clear hok
        rcases hc with hc | hc | hc | hc | hc | hc
        all_goals
          go_wp2
          go_round
          case rel => exact ⟨k + 1, by omega, by go_num, unhide B⟩
          case measure => simp [intOf]; omega
    · have B := hide (elt_good s k (by omega) (unhide A) (unhide H))
      go_wp2
      go_ret
      exact ⟨ret_bool (unhide B).symm, rfl⟩

theorem refEl_any (s : ByteArray) (w : World) :
    Calls Tryd.prog 11 #[.string s] w fun e w' => e = .returned (.bool (elt s.data.toList)) ∧ w' = w := by
  cases h : hdr s.data.toList
  · exact refEl_good s w h
  · exact refEl_bad s w h
end Go.Proofs.YtdhnmilifbobiaaDoor
