import Derived.Test.YtephkedlihediabGreatDoorRawA
import Derived.Test.YtephkedlihediabGreatDoorNod
import Derived.BigRegion
namespace Go.Proofs.YtephkedlihediabGreatDoor
open Go.RowKit

def longN : ByteArray := ⟨#[108, 111, 110, 103, 45, 110, 97, 109, 101, 45]⟩
def longK : Nat → ByteArray
  | 0 => ⟨#[]⟩
  | k + 1 => longK k ++ longN
theorem longK_size (k : Nat) : (longK k).size = 10 * k := by
  induction k with
  | zero => rfl
  | succ k ih => rw [longK, ByteArray.size_append, ih]; show 10 * k + 10 = _; omega
def rawP (s : ByteArray) : List ByteArray := [⟨#[97]⟩, ⟨#[97, 47, 98]⟩, ⟨#[97, 47, 98, 47, 99]⟩, ⟨#[97, 47, 100]⟩, ⟨#[97, 47, 101]⟩, ⟨#[97, 45, 98]⟩, ⟨#[98]⟩, ⟨#[100]⟩, ⟨#[100, 47, 120]⟩, ⟨#[100, 47, 120, 47, 121]⟩, ⟨#[100, 47, 120, 47, 121, 47, 122]⟩, ⟨#[100, 47, 122]⟩,
  s.extract 0 50, s.extract 0 50 ++ ⟨#[47]⟩ ++ s.extract 0 55, s.extract 0 50 ++ ⟨#[47]⟩ ++ s.extract 0 55 ++ ⟨#[47]⟩ ++ s.extract 0 60, ⟨#[119]⟩, ⟨#[119, 47, 102]⟩]
theorem drew_below {B : Nat} {w w' : World} (h : Below B w w') : Below B w w'.drew := ⟨h.os, h.tape, h.output, h.size, h.block⟩
theorem row_of {w : World} {g : Nat} {cs : Array Value} {ps : List ByteArray} (h : w.heap[g]? = some (.cells cs 9 (0, 0))) (he : cs.toList = ps.map Value.string) : TRow w (some ⟨g, 0, none⟩) ps := fun k b hk => by
  refine ⟨g, rfl, ?_⟩
  have h1 : cs[k]? = some (.string b) := by rw [← Array.getElem?_toList, he, List.getElem?_map, hk]; rfl
  exact (cell_of_row _ _ k _ _ _ h).trans h1
set_option maxHeartbeats 4000000 in
set_option maxRecDepth 100000 in
theorem rawPaths_any (w : World) :
    Calls Tryz.prog 15 #[] w fun ev w' => ∃ g : Nat, ev = .returned (.slice (some ⟨g, 0, none⟩) 17 17) ∧ TRow w' (some ⟨g, 0, none⟩) (rawP (longK 12)) ∧ Below w.heap.size w w' := by
  go_enter Tryz.func15, Tryz.ntmps15
  go_wp2
  go_loop [1, 2] (fun s i => ∃ k : Nat, k ≤ 12 ∧ i = .int .i64 k ∧ s = .string (longK k)) (fun _ i => 12 - (intOf i).toNat)
  case atStart => exact ⟨0, by omega, rfl, rfl⟩
  case round =>
    obtain ⟨k, hk, rfl, rfl⟩ := hrel
    by_cases hlt : k < 12
    · have i1 : (k : Int) < 12 := by omega
      have hsz := longK_size k
      obtain ⟨s, hs⟩ : ∃ s, s = longK k := ⟨_, rfl⟩
      have HS : Hid (s ++ longN = longK (k + 1)) := hide (by rw [hs]; rfl)
      rw [← hs]
      have hsz2 : s.size = 10 * k := by rw [hs]; exact hsz
      clear hs hsz
      go_wp2
      go_round
      case rel => exact ⟨k + 1, by omega, by go_num, congrArg Value.string (unhide HS)⟩
      case measure => simp [intOf]; omega
    · obtain rfl : k = 12 := by omega
      have hsz : (longK 12).size = 120 := longK_size 12
      obtain ⟨s, hs⟩ : ∃ s, s = longK 12 := ⟨_, rfl⟩
      rw [← hs] at hsz ⊢
      have i5 : (50 : Int) ≤ (s.size : Int) := by omega
      have i6 : (55 : Int) ≤ (s.size : Int) := by omega
      have i7 : (60 : Int) ≤ (s.size : Int) := by omega
      have HS := hide hs
      clear hs
      go_upto_region 6 with fail
      go_region
      go_wp2
      go_ret
      refine ⟨w.heap.size, rfl, ?_, drew_below ((Below.refl _ _).alloc (Nat.le_refl _) _)⟩
      rw [← unhide HS]
      refine row_of (w := World.drew _) (heap_alloc_new _ _) ?_
      rfl
end Go.Proofs.YtephkedlihediabGreatDoor
