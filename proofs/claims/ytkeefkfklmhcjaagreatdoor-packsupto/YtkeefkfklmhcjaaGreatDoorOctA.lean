import Derived.Test.YtkeefkfklmhcjaaGreatDoorJLeaf
import Derived.Lib.ConvBytes
import Derived.Shelf.Bits.Mul64
import Derived.Handy
namespace Go.Proofs.YtkeefkfklmhcjaaGreatDoor
open Go.RowKit

theorem pow2_8 (w : World) : Calls Tryz.prog 228 #[.int .i64 8] w fun ev w' => ev = .returned (.bool true) ∧ w' = w := by
  have e1 : bits .and .i64 8 7 = 0 := by rfl
  go_enter Tryz.func228, Tryz.ntmps228
  go_wp2
  go_ret
  simp
theorem tz64_8 (w : World) (h : w.cell? ⟨20, 7, none⟩ = some (.int .u8 3)) : Calls Tryz.prog 250 #[.int .u64 8] w fun ev w' => ev = .returned (.int .i64 3) ∧ w' = w := by
  have e1 : IntKind.u64.wrap (-8) = 18446744073709551608 := by rfl
  have e2 : bits .and .u64 8 18446744073709551608 = 8 := by rfl
  have e3 : IntKind.u64.wrap (8 * 285870213051353865) = 2286961704410830920 := by rfl
  go_enter Tryz.func250, Tryz.ntmps250
  go_wp2
  go_ret
  exact ⟨rfl, rfl⟩
theorem tz_8 (w : World) (h : w.cell? ⟨20, 7, none⟩ = some (.int .u8 3)) : Calls Tryz.prog 229 #[.int .u64 8] w fun ev w' => ev = .returned (.int .i64 3) ∧ w' = w := by
  go_enter Tryz.func229, Tryz.ntmps229
  go_wp2_with (go_at_call 250; refine (tz64_8 _ h).mono ?_; rintro ev w1 ⟨rfl, rfl⟩)
  go_ret
  exact ⟨rfl, rfl⟩
