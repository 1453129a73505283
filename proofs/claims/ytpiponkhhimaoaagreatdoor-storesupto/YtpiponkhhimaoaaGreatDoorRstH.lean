import Derived.Test.YtpiponkhhimaoaaGreatDoorStoM
namespace Go.Proofs.YtpiponkhhimaoaaGreatDoor
open Go.RowKit Go.Maps Go.Sort Go.Shelf

theorem hex_cases (c : UInt8) : (hexB c = true ∧ (48 ≤ (c.toNat : Int) ∧ (c.toNat : Int) ≤ 57 ∨ 97 ≤ (c.toNat : Int) ∧ (c.toNat : Int) ≤ 102)) ∨ (hexB c = false ∧ ((c.toNat : Int) < 48 ∨ (57 < (c.toNat : Int) ∧ (c.toNat : Int) < 97) ∨ 102 < (c.toNat : Int))) := by
  unfold hexB
  by_cases h1 : 48 ≤ c.toNat ∧ c.toNat ≤ 57
  · exact .inl ⟨by simp [h1], .inl ⟨by omega, by omega⟩⟩
  · by_cases h2 : 97 ≤ c.toNat ∧ c.toNat ≤ 102
    · exact .inl ⟨by simp [h2], .inr ⟨by omega, by omega⟩⟩
    · exact .inr ⟨by simp [h1, h2], by omega⟩
set_option maxHeartbeats 1000000 in
set_option maxRecDepth 100000 in
theorem refDig_any (s : ByteArray) (w : World) (hs : s.size ≤ 1073741824) : Calls Tryz.prog 56 #[.string s] w fun e w' => e = .returned (.bool (isDig s.data.toList)) ∧ w' = w := by
  have hl : s.data.toList.length = s.size := (Lib.size_eq s).symm
  go_enter Tryz.func56, Tryz.ntmps56
  go_wp2
  go_loop [3] (fun i => ∃ k : Nat, k ≤ s.size ∧ i = .int .i64 k ∧ Hid ((s.data.toList.take k).all hexB = true)) (fun i => s.size - (intOf i).toNat)
  case atStart => exact ⟨0, Nat.zero_le _, rfl, hide rfl⟩
  case round =>
    obtain ⟨k, hk, rfl, A⟩ := hrel
    by_cases hlt : k < s.size
    · rcases hex_cases s[k] with ⟨hok, h | h⟩ | ⟨hok, h | h | h⟩
      · have B := hide (dig_snoc s k hlt (unhide A) hok)
        obtain ⟨h1, h2⟩ := h
        go_wp2_with fail
        go_round
        case rel => exact ⟨k + 1, by omega, by go_num, B⟩
        case measure => simp [intOf]; omega
      · have B := hide (dig_snoc s k hlt (unhide A) hok)
        obtain ⟨h1, h2⟩ := h
        go_wp2_with fail
        go_round
        case rel => exact ⟨k + 1, by omega, by go_num, B⟩
        case measure => simp [intOf]; omega
      · have B := hide (dig_bad s k hlt hok)
        go_wp2_with fail
        go_ret
        exact ⟨by rw [unhide B]; rfl, rfl⟩
      · have B := hide (dig_bad s k hlt hok)
        obtain ⟨h1, h2⟩ := h
        go_wp2_with fail
        go_ret
        exact ⟨by rw [unhide B]; rfl, rfl⟩
      · have B := hide (dig_bad s k hlt hok)
        go_wp2_with fail
        go_ret
        exact ⟨by rw [unhide B]; rfl, rfl⟩
    · have B := hide (dig_all s k (by omega) (unhide A))
      by_cases h64 : s.size = 64
      · have hi : ((s.size : Int) == 64) = true := by simp [h64]
        have H64 := hide h64
        clear h64
        go_wp2_with fail
        go_ret
        exact ⟨by rw [isDig, unhide B, hl, unhide H64]; rfl, rfl⟩
      · have hi : ((s.size : Int) == 64) = false := by simp; omega
        have H64 := hide h64
        clear h64
        go_wp2_with fail
        go_ret
        exact ⟨by rw [isDig, hl]; simp [unhide H64], rfl⟩
theorem isN_len {l : List UInt8} (h : l.length ≠ 66) : isN l = false := by
  match l, h with
  | x :: y :: r, h =>
    have : isDig r = false := by rw [isDig]; simp at h; simp; intro e; omega
    simp [isN, this]
  | [x], _ => rfl
  | [], _ => rfl
theorem isN_at (s : ByteArray) (h : s.size = 66) (h0 : 0 < s.size) (h1 : 1 < s.size) : isN s.data.toList = ((s[0] == 98 || s[0] == 99 || s[0] == 116) && s[1] == 47 && isDig (s.data.toList.drop 2)) := by
  have hl : s.data.toList.length = 66 := by rw [← Lib.size_eq]; exact h
  match hs : s.data.toList, hl with
  | x :: y :: r, hl =>
    have e0 : s[0] = x := by
      have : s.data.toList[0]? = some s[0] := by rw [List.getElem?_eq_getElem (by rw [hs]; simp)]; rfl
      rw [hs] at this; simpa using this.symm
    have e1 : s[1] = y := by
      have : s.data.toList[1]? = some s[1] := by rw [List.getElem?_eq_getElem (by rw [hs]; simp)]; rfl
      rw [hs] at this; simpa using this.symm
    rw [e0, e1]; rfl
  | [x], hl => simp at hl
  | [], hl => simp at hl
theorem u8_int (c : UInt8) (n : Nat) (hn : n < 256) : (c == UInt8.ofNat n) = ((c.toNat : Int) == (n : Int)) := by
  rw [Bool.eq_iff_iff]
  simp only [beq_iff_eq]
  constructor
  · rintro rfl
    simp
    omega
  · intro h
    have : c.toNat = n := by omega
    rw [← this]; simp
set_option maxHeartbeats 1000000 in
set_option maxRecDepth 100000 in
theorem isFile_any (s : ByteArray) (w : World) (_ : s.size ≤ 1073741824) : Calls Tryz.prog 28 #[.string s] w fun e w' => e = .returned (.bool (isN s.data.toList)) ∧ w' = w := by
  by_cases h66 : s.size = 66
  · have hi : ((s.size : Int) != 66) = false := by simp [h66]
    have h0 : 0 < s.size := by omega
    have h1 : 1 < s.size := by omega
    have E := isN_at s h66 h0 h1
    have i2 : (2 : Int) ≤ (s.size : Int) := by omega
    have hD := refDig_any (s.extract 2 s.size) w (by rw [ByteArray.size_extract]; omega)
    rw [ext2] at hD
    clear h66
    have u0 := u8_int s[0] 98 (by decide)
    have u1 := u8_int s[0] 99 (by decide)
    have u2 := u8_int s[0] 116 (by decide)
    have u3 := u8_int s[1] 47 (by decide)
    cases v3 : ((s[1].toNat : Int) == 47) with
    | false =>
      have F : isN s.data.toList = false := by rw [E, show (s[1] == 47) = false from u3.trans v3]; simp
      rw [F]
      have w3 : ((s[1].toNat : Int) != 47) = true := by simpa using v3
      clear E u0 u1 u2 u3 F
      go_enter Tryz.func28, Tryz.ntmps28
      go_wp2_with fail
      go_ret
      exact ⟨rfl, rfl⟩
    | true =>
      have w3 : ((s[1].toNat : Int) != 47) = false := by simpa using v3
      cases v0 : ((s[0].toNat : Int) == 98) with
      | true =>
        have F : isN s.data.toList = isDig (s.data.toList.drop 2) := by rw [E, show (s[1] == 47) = true from u3.trans v3, show (s[0] == 98) = true from u0.trans v0]; simp
        rw [F]
        have w0 : ((s[0].toNat : Int) != 98) = false := by simpa using v0
        clear E u0 u1 u2 u3 F
        go_enter Tryz.func28, Tryz.ntmps28
        go_wp2_with (go_at_call 56; refine hD.mono ?_; clear hD; rintro ev w1 ⟨rfl, rfl⟩)
        go_ret
        exact ⟨rfl, rfl⟩
      | false =>
        have w0 : ((s[0].toNat : Int) != 98) = true := by simpa using v0
        cases v1 : ((s[0].toNat : Int) == 99) with
        | true =>
          have F : isN s.data.toList = isDig (s.data.toList.drop 2) := by rw [E, show (s[1] == 47) = true from u3.trans v3, show (s[0] == 99) = true from u1.trans v1]; simp
          rw [F]
          have w1 : ((s[0].toNat : Int) != 99) = false := by simpa using v1
          clear E u0 u1 u2 u3 F
          go_enter Tryz.func28, Tryz.ntmps28
          go_wp2_with (go_at_call 56; refine hD.mono ?_; clear hD; rintro ev w1 ⟨rfl, rfl⟩)
          go_ret
          exact ⟨rfl, rfl⟩
        | false =>
          have w1 : ((s[0].toNat : Int) != 99) = true := by simpa using v1
          cases v2 : ((s[0].toNat : Int) == 116) with
          | true =>
            have F : isN s.data.toList = isDig (s.data.toList.drop 2) := by rw [E, show (s[1] == 47) = true from u3.trans v3, show (s[0] == 116) = true from u2.trans v2]; simp
            rw [F]
            have w2 : ((s[0].toNat : Int) != 116) = false := by simpa using v2
            clear E u0 u1 u2 u3 F
            go_enter Tryz.func28, Tryz.ntmps28
            go_wp2_with (go_at_call 56; refine hD.mono ?_; clear hD; rintro ev w1 ⟨rfl, rfl⟩)
            go_ret
            exact ⟨rfl, rfl⟩
          | false =>
            have F : isN s.data.toList = false := by rw [E, show (s[0] == 98) = false from u0.trans v0, show (s[0] == 99) = false from u1.trans v1, show (s[0] == 116) = false from u2.trans v2]; simp
            rw [F]
            have w2 : ((s[0].toNat : Int) != 116) = true := by simpa using v2
            clear E u0 u1 u2 u3 F
            go_enter Tryz.func28, Tryz.ntmps28
            go_wp2_with fail
            go_ret
            exact ⟨rfl, rfl⟩
  · have hi : ((s.size : Int) != 66) = true := by simp; omega
    have F : isN s.data.toList = false := isN_len (by rw [← Lib.size_eq]; exact h66)
    rw [F]
    go_enter Tryz.func28, Tryz.ntmps28
    go_wp2_with fail
    go_ret
    exact ⟨rfl, rfl⟩
end Go.Proofs.YtpiponkhhimaoaaGreatDoor
