import Derived.Test.YtmfeonelincdbaaGreatDoorOctR
import Derived.Test.YtmfeonelincdbaaGreatDoorSumP
import Derived.Test.YtmfeonelincdbaaGreatDoorJTreeP
import Derived.Test.YtmfeonelincdbaaGreatDoorRefD
namespace Go.Proofs.YtmfeonelincdbaaGreatDoor
open Go.RowKit

theorem dig10 (r : Nat) (h : r < 10) : ((⟨#[48, 49, 50, 51, 52, 53, 54, 55, 56, 57]⟩ : ByteArray).extract r (r + 1)).data.toList = [UInt8.ofNat (48 + r)] := by
  rw [Lib.extract_data]
  match r, h with
  | 0, _ => rfl
  | 1, _ => rfl
  | 2, _ => rfl
  | 3, _ => rfl
  | 4, _ => rfl
  | 5, _ => rfl
  | 6, _ => rfl
  | 7, _ => rfl
  | 8, _ => rfl
  | 9, _ => rfl

theorem decL_len (n : Nat) : (decL n).length ≤ n + 1 := by
  induction n using Nat.strongRecOn with
  | ind n ih =>
    rw [decL]
    split
    · simp
    · rename_i h
      have := ih (n / 10) (by omega)
      simp only [List.length_append, List.length_cons, List.length_nil]
      omega
set_option maxHeartbeats 400000 in
theorem decimal_any : ∀ (n : Nat), n ≤ 1073741824 → ∀ w : World, Calls Tryz.prog 20 #[.int .i64 (n : Int)] w fun ev w' => ∃ s : ByteArray, ev = .returned (.string s) ∧ Hid (s.data.toList = decL n) ∧ s.size ≤ n + 1 ∧ w' = w := by
  intro n
  induction n using Nat.strongRecOn with
  | ind n ih =>
    intro hn w
    obtain ⟨r, er⟩ : ∃ r, r = n % 10 := ⟨_, rfl⟩
    have r8 : r < 10 := by omega
    have f1 : (n : Int) % 10 = (r : Int) := by omega
    have f2 : (n : Int).tmod 10 = (r : Int) := by rw [Int.tmod_eq_emod_of_nonneg (by omega)]; exact f1
    have r0 : (0 : Int) ≤ (r : Int) := by omega
    have r1 : (r : Int) + 1 ≤ 10 := by omega
    have HD := hide (dig10 r r8)
    by_cases hs : n < 10
    · have HE : Hid (decL n = [UInt8.ofNat (48 + r)]) := hide (by rw [decL, if_pos hs, er, Nat.mod_eq_of_lt hs])
      have hs2 : (n : Int) < 10 := by omega
      clear er ih
      go_enter Tryz.func20, Tryz.ntmps20
      go_wp2
      go_ret
      exact ⟨_, rfl, hide (by rw [unhide HD, unhide HE]), by rw [Lib.size_eq, unhide HD]; simp, rfl⟩
    · obtain ⟨q, eq⟩ : ∃ q, q = n / 10 := ⟨_, rfl⟩
      have HE : Hid (decL n = decL q ++ [UInt8.ofNat (48 + r)]) := hide (by rw [decL, if_neg hs, er, eq])
      have hq := ih q (by omega) (by omega)
      have g1 : (n : Int) / 10 = (q : Int) := by omega
      have g2 : (n : Int).tdiv 10 = (q : Int) := by rw [Int.tdiv_eq_ediv_of_nonneg (by omega)]; exact g1
      have hs2 : ¬ (n : Int) < 10 := by omega
      have hqn : q + 1 ≤ n := by omega
      have hz : ((⟨#[48, 49, 50, 51, 52, 53, 54, 55, 56, 57]⟩ : ByteArray).extract r (r + 1)).size = 1 := by rw [Lib.size_eq, unhide HD]; rfl
      clear er eq ih
      go_enter Tryz.func20, Tryz.ntmps20
      go_wp2_with (go_at_call 20; refine (hq _).mono ?_; rintro ev w' ⟨s, rfl, HS, hsz, hw⟩; obtain rfl := hw.symm)
      go_ret
      exact ⟨_, rfl, hide (by rw [data_append, unhide HS, unhide HD, unhide HE]), by rw [Lib.size_eq, data_append, List.length_append, ← Lib.size_eq, unhide HD]; simp; omega, rfl⟩

set_option maxHeartbeats 400000 in
theorem root_any (w : World) : Calls Tryz.prog 10 #[] w fun ev w' => ev = .returned (.agg #[.string rootE.path, .int .i64 rootE.kind, .int .i64 rootE.mode, .string rootE.data]) ∧ Below w.heap.size w w' := by
  go_enter Tryz.func10, Tryz.ntmps10
  go_wp2
  refine bodyPost_ret (v := .agg #[.string rootE.path, .int .i64 rootE.kind, .int .i64 rootE.mode, .string rootE.data]) (by simp [results, Tryz.results10, go_sem, rootE]) rfl ⟨rfl, ?_⟩
  exact (Below.refl _ _).alloc (Nat.le_refl _) _
end Go.Proofs.YtmfeonelincdbaaGreatDoor
