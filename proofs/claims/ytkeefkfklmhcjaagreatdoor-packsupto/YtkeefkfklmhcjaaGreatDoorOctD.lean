import Derived.Test.YtkeefkfklmhcjaaGreatDoorOctB
import Derived.Test.YtkeefkfklmhcjaaGreatDoorJLeaf
namespace Go.Proofs.YtkeefkfklmhcjaaGreatDoor
open Go.RowKit
set_option maxRecDepth 100000 in
theorem fmtB_any (n : Nat) (w : World) (hn : n < 262144) (h : w.cell? ⟨20, 7, none⟩ = some (.int .u8 3)) : Calls Tryz.prog 174 #[.int .i64 (n : Int), .int .i64 8] w fun ev w' => ∃ s : ByteArray, ev = .returned (.string s) ∧ Hid (s.data.toList = octL n) ∧ Below w.heap.size w w' := by
  have e1 : IntKind.u64.wrap (n : Int) = (n : Int) := by rw [IntKind.wrap_u64]; omega
  have e2 : (0 : Int) ≤ (n : Int) := by omega
  have e3 : ¬ (n : Int) < 0 := by omega
  go_enter Tryz.func174, Tryz.ntmps174
  go_wp2_with (go_at_call 207; refine (bits_any n _ hn h).mono ?_; rintro ev w1 ⟨s, rfl, HS, hb⟩)
  go_ret
  exact ⟨_, rfl, HS, hb⟩
theorem fmt_any (n : Nat) (w : World) (hn : n < 262144) (h : w.cell? ⟨20, 7, none⟩ = some (.int .u8 3)) : Calls Tryz.prog 143 #[.int .i64 (n : Int), .int .i64 8] w fun ev w' => ∃ s : ByteArray, ev = .returned (.string s) ∧ Hid (s.data.toList = octL n) ∧ Below w.heap.size w w' := by
  go_enter Tryz.func143, Tryz.ntmps143
  go_wp2_with (go_at_call 174; refine (fmtB_any n _ hn h).mono ?_; rintro ev w1 ⟨s, rfl, HS, hb⟩)
  go_ret
  exact ⟨_, rfl, HS, hb⟩
end Go.Proofs.YtkeefkfklmhcjaaGreatDoor
