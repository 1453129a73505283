import Derived.Test.YtmfeonelincdbaaGreatDoorOctB
import Derived.Test.YtmfeonelincdbaaGreatDoorJLeaf
namespace Go.Proofs.YtmfeonelincdbaaGreatDoor
open Go.RowKit
set_option maxRecDepth 100000 in
theorem fmtB_any (n : Nat) (w : World) (hn : n < 262144) (h : w.cell? ⟨7, 7, none⟩ = some (.int .u8 3)) : Calls Tryz.prog 89 #[.int .i64 (n : Int), .int .i64 8] w fun ev w' => ∃ s : ByteArray, ev = .returned (.string s) ∧ Hid (s.data.toList = octL n) ∧ Below w.heap.size w w' := by
  have e1 : IntKind.u64.wrap (n : Int) = (n : Int) := by rw [IntKind.wrap_u64]; omega
  have e2 : (0 : Int) ≤ (n : Int) := by omega
  have e3 : ¬ (n : Int) < 0 := by omega
  go_enter Tryz.func89, Tryz.ntmps89
  go_wp2_with (go_at_call 107; refine (bits_any n _ hn h).mono ?_; rintro ev w1 ⟨s, rfl, HS, hb⟩)
  go_ret
  exact ⟨_, rfl, HS, hb⟩
theorem fmt_any (n : Nat) (w : World) (hn : n < 262144) (h : w.cell? ⟨7, 7, none⟩ = some (.int .u8 3)) : Calls Tryz.prog 72 #[.int .i64 (n : Int), .int .i64 8] w fun ev w' => ∃ s : ByteArray, ev = .returned (.string s) ∧ Hid (s.data.toList = octL n) ∧ Below w.heap.size w w' := by
  go_enter Tryz.func72, Tryz.ntmps72
  go_wp2_with (go_at_call 89; refine (fmtB_any n _ hn h).mono ?_; rintro ev w1 ⟨s, rfl, HS, hb⟩)
  go_ret
  exact ⟨_, rfl, HS, hb⟩
end Go.Proofs.YtmfeonelincdbaaGreatDoor
