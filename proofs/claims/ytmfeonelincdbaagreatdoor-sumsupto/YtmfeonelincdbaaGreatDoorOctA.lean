import Derived.Test.YtmfeonelincdbaaGreatDoorJLeaf
import Derived.Lib.ConvBytes
import Derived.Shelf.Bits.Mul64
import Derived.Handy
namespace Go.Proofs.YtmfeonelincdbaaGreatDoor
open Go.RowKit

theorem pow2_8 (w : World) : Calls Tryz.prog 119 #[.int .i64 8] w fun ev w' => ev = .returned (.bool true) ∧ w' = w := by
  have e1 : bits .and .i64 8 7 = 0 := by rfl
  go_enter Tryz.func119, Tryz.ntmps119
  go_wp2
  go_ret
  simp
theorem tz64_8 (w : World) (h : w.cell? ⟨7, 7, none⟩ = some (.int .u8 3)) : Calls Tryz.prog 137 #[.int .u64 8] w fun ev w' => ev = .returned (.int .i64 3) ∧ w' = w := by
  have e1 : IntKind.u64.wrap (-8) = 18446744073709551608 := by rfl
  have e2 : bits .and .u64 8 18446744073709551608 = 8 := by rfl
  have e3 : IntKind.u64.wrap (8 * 285870213051353865) = 2286961704410830920 := by rfl
  go_enter Tryz.func137, Tryz.ntmps137
  go_wp2
  go_ret
  exact ⟨rfl, rfl⟩
theorem tz_8 (w : World) (h : w.cell? ⟨7, 7, none⟩ = some (.int .u8 3)) : Calls Tryz.prog 120 #[.int .u64 8] w fun ev w' => ev = .returned (.int .i64 3) ∧ w' = w := by
  go_enter Tryz.func120, Tryz.ntmps120
  go_wp2_with (go_at_call 137; refine (tz64_8 _ h).mono ?_; rintro ev w1 ⟨rfl, rfl⟩)
  go_ret
  exact ⟨rfl, rfl⟩

end Go.Proofs.YtmfeonelincdbaaGreatDoor
