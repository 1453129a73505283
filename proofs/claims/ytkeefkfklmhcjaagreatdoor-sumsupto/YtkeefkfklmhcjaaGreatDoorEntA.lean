import Derived.Test.YtkeefkfklmhcjaaGreatDoorIs
namespace Go.Proofs.YtkeefkfklmhcjaaGreatDoor
open Go.RowKit

/-- An entry. -/
structure Ent where
  path : ByteArray
  kind : Int
  mode : Int
  data : ByteArray
def Ent.val (e : Ent) : Value := .agg #[.string e.path, .int .i64 e.kind, .int .i64 e.mode, .string e.data]
def tgC (c : UInt8) : Bool := decide (33 ≤ (c.toNat : Int) ∧ (c.toNat : Int) ≤ 126)
def tgt (l : List UInt8) : Bool := l.all tgC && l != [] && decide (l.length ≤ 100)
def modeOk (m : Int) : Bool := decide (0 ≤ m ∧ m ≤ 511)
def goodE (e : Ent) : Bool :=
  if e.kind = 1 then modeOk e.mode && e.data.data.toList == []
  else if e.kind = 2 then modeOk e.mode && decide (e.data.size ≤ 4096)
  else if e.kind = 3 then decide (e.mode = 0) && tgt e.data.data.toList
  else false
theorem tg_snoc (s : ByteArray) (k : Nat) (h : k < s.size) (h1 : (s.data.toList.take k).all tgC = true) (h2 : 33 ≤ (s[k].toNat : Int) ∧ (s[k].toNat : Int) ≤ 126) : (s.data.toList.take (k + 1)).all tgC = true := by
  rw [take_snoc s k h, List.all_append, h1]; simpa [tgC] using h2
theorem tg_bad (s : ByteArray) (k : Nat) (h : k < s.size) (h2 : ¬ (33 ≤ (s[k].toNat : Int) ∧ (s[k].toNat : Int) ≤ 126)) : tgt s.data.toList = false := by
  have : s.data.toList.all tgC = false := by
    rw [List.all_eq_false]
    refine ⟨s[k], ?_, by simpa [tgC] using h2⟩
    rw [show s[k] = s.data[k] from rfl]; simp
  simp [tgt, this]
theorem tg_good (s : ByteArray) (k : Nat) (h : s.size ≤ k) (h1 : (s.data.toList.take k).all tgC = true) : s.data.toList.all tgC = true := by
  rw [List.take_of_length_le (by have := Lib.size_eq s; omega)] at h1; exact h1

set_option maxHeartbeats 400000 in
theorem refTg_any (s : ByteArray) (w : World) (hs : s.size ≤ 4294967280) :
    Calls Tryz.prog 54 #[.string s] w fun e w' => e = .returned (.bool (tgt s.data.toList)) ∧ w' = w := by
  go_enter Tryz.func54, Tryz.ntmps54
  go_wp2
  go_loop [3] (fun i => ∃ k : Nat, k ≤ s.size ∧ i = .int .i64 k ∧ (s.data.toList.take k).all tgC = true) (fun i => s.size - (intOf i).toNat)
  case atStart => exact ⟨0, Nat.zero_le _, rfl, rfl⟩
  case round =>
    obtain ⟨k, hk, rfl, ha⟩ := hrel
    have A := hide ha
    clear ha
    by_cases hlt : k < s.size
    · by_cases hc : 33 ≤ (s[k].toNat : Int) ∧ (s[k].toNat : Int) ≤ 126
      · have B := hide (tg_snoc s k hlt (unhide A) hc)
        obtain ⟨hc1, hc2⟩ := hc
        go_wp2
        go_round
        case rel => exact ⟨k + 1, by omega, by go_num, unhide B⟩
        case measure => simp [intOf]; omega
      · have B := hide (tg_bad s k hlt hc)
        have hc2 : (s[k].toNat : Int) < 33 ∨ 126 < (s[k].toNat : Int) := by omega
        clear hc
        rcases hc2 with hc | hc
        all_goals
          go_wp2
          go_ret
          exact ⟨ret_bool (unhide B).symm, rfl⟩
    · have B := hide (tg_good s k (by omega) (unhide A))
      by_cases h0 : s.data.toList = []
      · have C : Hid (tgt s.data.toList = false) := hide (by rw [h0]; rfl)
        have g1 : s.toList.isEmpty = true := by rw [Lib.toList_data, h0]; rfl
        clear h0
        go_wp2
        go_ret
        exact ⟨ret_bool (unhide C).symm, rfl⟩
      · have g1 : s.toList.isEmpty = false := by rw [Lib.toList_data]; simpa using h0
        by_cases h1 : (s.size : Int) ≤ 100
        · have C : Hid (tgt s.data.toList = true) := hide (by rw [tgt, unhide B]; have := Lib.size_eq s; simp [h0]; omega)
          clear h0
          go_wp2
          go_ret
          exact ⟨ret_bool (unhide C).symm, rfl⟩
        · have C : Hid (tgt s.data.toList = false) := hide (by rw [tgt]; have := Lib.size_eq s; simp; omega)
          clear h0
          go_wp2
          go_ret
          exact ⟨ret_bool (unhide C).symm, rfl⟩

set_option maxHeartbeats 400000 in
theorem isTg_any (s : ByteArray) (w : World) :
    Calls Tryz.prog 102 #[.string s] w fun e w' => e = .returned (.bool (tgt s.data.toList)) ∧ w' = w := by
  by_cases h0 : s.data.toList = []
  · have C : Hid (tgt s.data.toList = false) := hide (by rw [h0]; rfl)
    have g1 : s.toList.isEmpty = true := by rw [Lib.toList_data, h0]; rfl
    clear h0
    go_enter Tryz.func102, Tryz.ntmps102
    go_wp2
    go_ret
    exact ⟨ret_bool (unhide C).symm, rfl⟩
  · have g1 : s.toList.isEmpty = false := by rw [Lib.toList_data]; simpa using h0
    by_cases h1 : (s.size : Int) ≤ 100
    · have D : Hid (s.data.toList.all tgC = true → tgt s.data.toList = true) := hide (fun h => by rw [tgt, h]; have := Lib.size_eq s; simp [h0]; omega)
      clear h0
      go_enter Tryz.func102, Tryz.ntmps102
      go_wp2
      go_loop [13] (fun i => ∃ k : Nat, k ≤ s.size ∧ i = .int .i64 k ∧ (s.data.toList.take k).all tgC = true) (fun i => s.size - (intOf i).toNat)
      case atStart => exact ⟨0, Nat.zero_le _, rfl, rfl⟩
      case round =>
        obtain ⟨k, hk, rfl, ha⟩ := hrel
        have A := hide ha
        clear ha
        by_cases hlt : k < s.size
        · by_cases hc : 33 ≤ (s[k].toNat : Int) ∧ (s[k].toNat : Int) ≤ 126
          · have B := hide (tg_snoc s k hlt (unhide A) hc)
            obtain ⟨hc1, hc2⟩ := hc
            go_wp2
            go_round
            case rel => exact ⟨k + 1, by omega, by go_num, unhide B⟩
            case measure => simp [intOf]; omega
          · have B := hide (tg_bad s k hlt hc)
            have hc2 : (s[k].toNat : Int) < 33 ∨ 126 < (s[k].toNat : Int) := by omega
            clear hc
            rcases hc2 with hc | hc
            all_goals
              go_wp2
              go_ret
              exact ⟨ret_bool (unhide B).symm, rfl⟩
        · have B := hide (unhide D (tg_good s k (by omega) (unhide A)))
          go_wp2
          go_ret
          exact ⟨ret_bool (unhide B).symm, rfl⟩
    · have C : Hid (tgt s.data.toList = false) := hide (by rw [tgt]; have := Lib.size_eq s; simp; omega)
      clear h0
      go_enter Tryz.func102, Tryz.ntmps102
      go_wp2
      go_ret
      exact ⟨ret_bool (unhide C).symm, rfl⟩

theorem isMode_any (n : Int) (w : World) :
    Calls Tryz.prog 101 #[.int .i64 n] w fun e w' => e = .returned (.bool (modeOk n)) ∧ w' = w := by
  by_cases h0 : 0 ≤ n
  · by_cases h1 : n ≤ 511
    · have C : Hid (modeOk n = true) := hide (by simp [modeOk, h0, h1])
      go_enter Tryz.func101, Tryz.ntmps101
      go_wp2
      go_ret
      exact ⟨ret_bool (unhide C).symm, rfl⟩
    · have C : Hid (modeOk n = false) := hide (by simp [modeOk, h1])
      go_enter Tryz.func101, Tryz.ntmps101
      go_wp2
      go_ret
      exact ⟨ret_bool (unhide C).symm, rfl⟩
  · have C : Hid (modeOk n = false) := hide (by simp [modeOk, h0])
    go_enter Tryz.func101, Tryz.ntmps101
    go_wp2
    go_ret
    exact ⟨ret_bool (unhide C).symm, rfl⟩
end Go.Proofs.YtkeefkfklmhcjaaGreatDoor
