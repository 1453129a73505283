import Derived.Test.YtkeefkfklmhcjaaGreatDoorOctP
import Derived.Test.YtkeefkfklmhcjaaGreatDoorJLeaf
import Derived.Test.YtkeefkfklmhcjaaGreatDoorJEntB
namespace Go.Proofs.YtkeefkfklmhcjaaGreatDoor
open Go.RowKit

theorem dig8 (r : Nat) (h : r < 8) : ((⟨#[48, 49, 50, 51, 52, 53, 54, 55]⟩ : ByteArray).extract r (r + 1)).data.toList = [UInt8.ofNat (48 + r)] := by
  rw [Lib.extract_data]
  match r, h with
  | 0, _ => rfl
  | 1, _ => rfl
  | 2, _ => rfl
  | 3, _ => rfl
  | 4, _ => rfl
  | 5, _ => rfl
  | 6, _ => rfl
  | 7, _ => rfl
theorem octL_len (n : Nat) : (octL n).length ≤ n + 1 := by
  induction n using Nat.strongRecOn with
  | ind n ih =>
    rw [octL]
    split
    · simp
    · rename_i h
      have := ih (n / 8) (by omega)
      simp only [List.length_append, List.length_cons, List.length_nil]
      omega
set_option maxHeartbeats 400000 in
theorem octal_any : ∀ (n : Nat), n ≤ 1073741824 → ∀ w : World, Calls Tryz.prog 48 #[.int .i64 (n : Int)] w fun ev w' => ∃ s : ByteArray, ev = .returned (.string s) ∧ Hid (s.data.toList = octL n) ∧ s.size ≤ n + 1 ∧ w' = w := by
  intro n
  induction n using Nat.strongRecOn with
  | ind n ih =>
    intro hn w
    obtain ⟨r, er⟩ : ∃ r, r = n % 8 := ⟨_, rfl⟩
    have r8 : r < 8 := by omega
    have f1 : (n : Int) % 8 = (r : Int) := by omega
    have f2 : (n : Int).tmod 8 = (r : Int) := by rw [Int.tmod_eq_emod_of_nonneg (by omega)]; exact f1
    have r0 : (0 : Int) ≤ (r : Int) := by omega
    have r1 : (r : Int) + 1 ≤ 8 := by omega
    have HD := hide (dig8 r r8)
    by_cases hs : n < 8
    · have HE : Hid (octL n = [UInt8.ofNat (48 + r)]) := hide (by rw [octL, if_pos hs, er, Nat.mod_eq_of_lt hs])
      have hs2 : (n : Int) < 8 := by omega
      clear er ih
      go_enter Tryz.func48, Tryz.ntmps48
      go_wp2
      go_ret
      exact ⟨_, rfl, hide (by rw [unhide HD, unhide HE]), by rw [Lib.size_eq, unhide HD]; simp, rfl⟩
    · obtain ⟨q, eq⟩ : ∃ q, q = n / 8 := ⟨_, rfl⟩
      have HE : Hid (octL n = octL q ++ [UInt8.ofNat (48 + r)]) := hide (by rw [octL, if_neg hs, er, eq])
      have hq := ih q (by omega) (by omega)
      have g1 : (n : Int) / 8 = (q : Int) := by omega
      have g2 : (n : Int).tdiv 8 = (q : Int) := by rw [Int.tdiv_eq_ediv_of_nonneg (by omega)]; exact g1
      have hs2 : ¬ (n : Int) < 8 := by omega
      have hqn : q + 1 ≤ n := by omega
      have hz : ((⟨#[48, 49, 50, 51, 52, 53, 54, 55]⟩ : ByteArray).extract r (r + 1)).size = 1 := by rw [Lib.size_eq, unhide HD]; rfl
      clear er eq ih
      go_enter Tryz.func48, Tryz.ntmps48
      go_wp2_with (go_at_call 48; refine (hq _).mono ?_; rintro ev w' ⟨s, rfl, HS, hsz, hw⟩; obtain rfl := hw.symm)
      go_ret
      exact ⟨_, rfl, hide (by rw [data_append, unhide HS, unhide HD, unhide HE]), by rw [Lib.size_eq, data_append, List.length_append, ← Lib.size_eq, unhide HD]; simp; omega, rfl⟩

end Go.Proofs.YtkeefkfklmhcjaaGreatDoor
