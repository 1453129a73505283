import Derived.Test.YtkeefkfklmhcjaaGreatDoorProg
import Derived.Test.YtkeefkfklmhcjaaGreatDoorShaP
import Derived.WalkKit
import Derived.WalkSpells
import Derived.Deep.QuietTactic
import Derived.BigQuiet
namespace Go.Proofs.YtkeefkfklmhcjaaGreatDoor
open Go.RowKit

theorem ret_u32 {a b : Int} (h : a = b) : Ending.returned (.int .u32 a) = .returned (.int .u32 b) := by rw [h]
theorem ret_i64 {a b : Int} (h : a = b) : Ending.returned (.int .i64 a) = .returned (.int .i64 b) := by rw [h]

set_option maxHeartbeats 400000 in
theorem rot2 (x : Nat) (hx : x < 4294967296) (w : World) :
    Calls Tryz.prog 200 #[.int .u32 x, .int .i64 (-2)] w fun e w' => e = .returned (.int .u32 ((rr x 2 : Nat) : Int)) ∧ w' = w := by
  have k6 : bits BinOp.and IntKind.u64 (IntKind.u64.wrap (-2)) 31 = 30 := by decide +kernel
  go_enter Tryz.func200, Tryz.ntmps200
  go_wp2
  go_ret
  exact ⟨ret_u32 (rrU x 2 1073741824 4 (by decide) (by decide) hx), rfl⟩

set_option maxHeartbeats 400000 in
theorem rt2 (x : Nat) (hx : x < 4294967296) (w : World) :
    Calls Tryz.prog 119 #[.int .i64 x, .int .i64 2] w fun e w' => e = .returned (.int .i64 ((rr x 2 : Nat) : Int)) ∧ ∃ n, w' = w.drewN n := by
  go_enter Tryz.func119, Tryz.ntmps119
  go_wp2
  go_quiet (fail)
  go_wp2
  go_ret
  exact ⟨ret_i64 (rrI x 2 1073741824 4 (by decide) (by decide) hx), _, rfl⟩

set_option maxHeartbeats 400000 in
theorem rot6 (x : Nat) (hx : x < 4294967296) (w : World) :
    Calls Tryz.prog 200 #[.int .u32 x, .int .i64 (-6)] w fun e w' => e = .returned (.int .u32 ((rr x 6 : Nat) : Int)) ∧ w' = w := by
  have k6 : bits BinOp.and IntKind.u64 (IntKind.u64.wrap (-6)) 31 = 26 := by decide +kernel
  go_enter Tryz.func200, Tryz.ntmps200
  go_wp2
  go_ret
  exact ⟨ret_u32 (rrU x 6 67108864 64 (by decide) (by decide) hx), rfl⟩

set_option maxHeartbeats 400000 in
theorem rt6 (x : Nat) (hx : x < 4294967296) (w : World) :
    Calls Tryz.prog 119 #[.int .i64 x, .int .i64 6] w fun e w' => e = .returned (.int .i64 ((rr x 6 : Nat) : Int)) ∧ ∃ n, w' = w.drewN n := by
  go_enter Tryz.func119, Tryz.ntmps119
  go_wp2
  go_quiet (fail)
  go_wp2
  go_ret
  exact ⟨ret_i64 (rrI x 6 67108864 64 (by decide) (by decide) hx), _, rfl⟩

set_option maxHeartbeats 400000 in
theorem rot7 (x : Nat) (hx : x < 4294967296) (w : World) :
    Calls Tryz.prog 200 #[.int .u32 x, .int .i64 (-7)] w fun e w' => e = .returned (.int .u32 ((rr x 7 : Nat) : Int)) ∧ w' = w := by
  have k6 : bits BinOp.and IntKind.u64 (IntKind.u64.wrap (-7)) 31 = 25 := by decide +kernel
  go_enter Tryz.func200, Tryz.ntmps200
  go_wp2
  go_ret
  exact ⟨ret_u32 (rrU x 7 33554432 128 (by decide) (by decide) hx), rfl⟩

set_option maxHeartbeats 400000 in
theorem rt7 (x : Nat) (hx : x < 4294967296) (w : World) :
    Calls Tryz.prog 119 #[.int .i64 x, .int .i64 7] w fun e w' => e = .returned (.int .i64 ((rr x 7 : Nat) : Int)) ∧ ∃ n, w' = w.drewN n := by
  go_enter Tryz.func119, Tryz.ntmps119
  go_wp2
  go_quiet (fail)
  go_wp2
  go_ret
  exact ⟨ret_i64 (rrI x 7 33554432 128 (by decide) (by decide) hx), _, rfl⟩

set_option maxHeartbeats 400000 in
theorem rot11 (x : Nat) (hx : x < 4294967296) (w : World) :
    Calls Tryz.prog 200 #[.int .u32 x, .int .i64 (-11)] w fun e w' => e = .returned (.int .u32 ((rr x 11 : Nat) : Int)) ∧ w' = w := by
  have k6 : bits BinOp.and IntKind.u64 (IntKind.u64.wrap (-11)) 31 = 21 := by decide +kernel
  go_enter Tryz.func200, Tryz.ntmps200
  go_wp2
  go_ret
  exact ⟨ret_u32 (rrU x 11 2097152 2048 (by decide) (by decide) hx), rfl⟩

set_option maxHeartbeats 400000 in
theorem rt11 (x : Nat) (hx : x < 4294967296) (w : World) :
    Calls Tryz.prog 119 #[.int .i64 x, .int .i64 11] w fun e w' => e = .returned (.int .i64 ((rr x 11 : Nat) : Int)) ∧ ∃ n, w' = w.drewN n := by
  go_enter Tryz.func119, Tryz.ntmps119
  go_wp2
  go_quiet (fail)
  go_wp2
  go_ret
  exact ⟨ret_i64 (rrI x 11 2097152 2048 (by decide) (by decide) hx), _, rfl⟩

set_option maxHeartbeats 400000 in
theorem rot13 (x : Nat) (hx : x < 4294967296) (w : World) :
    Calls Tryz.prog 200 #[.int .u32 x, .int .i64 (-13)] w fun e w' => e = .returned (.int .u32 ((rr x 13 : Nat) : Int)) ∧ w' = w := by
  have k6 : bits BinOp.and IntKind.u64 (IntKind.u64.wrap (-13)) 31 = 19 := by decide +kernel
  go_enter Tryz.func200, Tryz.ntmps200
  go_wp2
  go_ret
  exact ⟨ret_u32 (rrU x 13 524288 8192 (by decide) (by decide) hx), rfl⟩

set_option maxHeartbeats 400000 in
theorem rt13 (x : Nat) (hx : x < 4294967296) (w : World) :
    Calls Tryz.prog 119 #[.int .i64 x, .int .i64 13] w fun e w' => e = .returned (.int .i64 ((rr x 13 : Nat) : Int)) ∧ ∃ n, w' = w.drewN n := by
  go_enter Tryz.func119, Tryz.ntmps119
  go_wp2
  go_quiet (fail)
  go_wp2
  go_ret
  exact ⟨ret_i64 (rrI x 13 524288 8192 (by decide) (by decide) hx), _, rfl⟩

set_option maxHeartbeats 400000 in
theorem rot17 (x : Nat) (hx : x < 4294967296) (w : World) :
    Calls Tryz.prog 200 #[.int .u32 x, .int .i64 (-17)] w fun e w' => e = .returned (.int .u32 ((rr x 17 : Nat) : Int)) ∧ w' = w := by
  have k6 : bits BinOp.and IntKind.u64 (IntKind.u64.wrap (-17)) 31 = 15 := by decide +kernel
  go_enter Tryz.func200, Tryz.ntmps200
  go_wp2
  go_ret
  exact ⟨ret_u32 (rrU x 17 32768 131072 (by decide) (by decide) hx), rfl⟩

set_option maxHeartbeats 400000 in
theorem rt17 (x : Nat) (hx : x < 4294967296) (w : World) :
    Calls Tryz.prog 119 #[.int .i64 x, .int .i64 17] w fun e w' => e = .returned (.int .i64 ((rr x 17 : Nat) : Int)) ∧ ∃ n, w' = w.drewN n := by
  go_enter Tryz.func119, Tryz.ntmps119
  go_wp2
  go_quiet (fail)
  go_wp2
  go_ret
  exact ⟨ret_i64 (rrI x 17 32768 131072 (by decide) (by decide) hx), _, rfl⟩

set_option maxHeartbeats 400000 in
theorem rot18 (x : Nat) (hx : x < 4294967296) (w : World) :
    Calls Tryz.prog 200 #[.int .u32 x, .int .i64 (-18)] w fun e w' => e = .returned (.int .u32 ((rr x 18 : Nat) : Int)) ∧ w' = w := by
  have k6 : bits BinOp.and IntKind.u64 (IntKind.u64.wrap (-18)) 31 = 14 := by decide +kernel
  go_enter Tryz.func200, Tryz.ntmps200
  go_wp2
  go_ret
  exact ⟨ret_u32 (rrU x 18 16384 262144 (by decide) (by decide) hx), rfl⟩

set_option maxHeartbeats 400000 in
theorem rt18 (x : Nat) (hx : x < 4294967296) (w : World) :
    Calls Tryz.prog 119 #[.int .i64 x, .int .i64 18] w fun e w' => e = .returned (.int .i64 ((rr x 18 : Nat) : Int)) ∧ ∃ n, w' = w.drewN n := by
  go_enter Tryz.func119, Tryz.ntmps119
  go_wp2
  go_quiet (fail)
  go_wp2
  go_ret
  exact ⟨ret_i64 (rrI x 18 16384 262144 (by decide) (by decide) hx), _, rfl⟩

set_option maxHeartbeats 400000 in
theorem rot19 (x : Nat) (hx : x < 4294967296) (w : World) :
    Calls Tryz.prog 200 #[.int .u32 x, .int .i64 (-19)] w fun e w' => e = .returned (.int .u32 ((rr x 19 : Nat) : Int)) ∧ w' = w := by
  have k6 : bits BinOp.and IntKind.u64 (IntKind.u64.wrap (-19)) 31 = 13 := by decide +kernel
  go_enter Tryz.func200, Tryz.ntmps200
  go_wp2
  go_ret
  exact ⟨ret_u32 (rrU x 19 8192 524288 (by decide) (by decide) hx), rfl⟩

set_option maxHeartbeats 400000 in
theorem rt19 (x : Nat) (hx : x < 4294967296) (w : World) :
    Calls Tryz.prog 119 #[.int .i64 x, .int .i64 19] w fun e w' => e = .returned (.int .i64 ((rr x 19 : Nat) : Int)) ∧ ∃ n, w' = w.drewN n := by
  go_enter Tryz.func119, Tryz.ntmps119
  go_wp2
  go_quiet (fail)
  go_wp2
  go_ret
  exact ⟨ret_i64 (rrI x 19 8192 524288 (by decide) (by decide) hx), _, rfl⟩

set_option maxHeartbeats 400000 in
theorem rot22 (x : Nat) (hx : x < 4294967296) (w : World) :
    Calls Tryz.prog 200 #[.int .u32 x, .int .i64 (-22)] w fun e w' => e = .returned (.int .u32 ((rr x 22 : Nat) : Int)) ∧ w' = w := by
  have k6 : bits BinOp.and IntKind.u64 (IntKind.u64.wrap (-22)) 31 = 10 := by decide +kernel
  go_enter Tryz.func200, Tryz.ntmps200
  go_wp2
  go_ret
  exact ⟨ret_u32 (rrU x 22 1024 4194304 (by decide) (by decide) hx), rfl⟩

set_option maxHeartbeats 400000 in
theorem rt22 (x : Nat) (hx : x < 4294967296) (w : World) :
    Calls Tryz.prog 119 #[.int .i64 x, .int .i64 22] w fun e w' => e = .returned (.int .i64 ((rr x 22 : Nat) : Int)) ∧ ∃ n, w' = w.drewN n := by
  go_enter Tryz.func119, Tryz.ntmps119
  go_wp2
  go_quiet (fail)
  go_wp2
  go_ret
  exact ⟨ret_i64 (rrI x 22 1024 4194304 (by decide) (by decide) hx), _, rfl⟩

set_option maxHeartbeats 400000 in
theorem rot25 (x : Nat) (hx : x < 4294967296) (w : World) :
    Calls Tryz.prog 200 #[.int .u32 x, .int .i64 (-25)] w fun e w' => e = .returned (.int .u32 ((rr x 25 : Nat) : Int)) ∧ w' = w := by
  have k6 : bits BinOp.and IntKind.u64 (IntKind.u64.wrap (-25)) 31 = 7 := by decide +kernel
  go_enter Tryz.func200, Tryz.ntmps200
  go_wp2
  go_ret
  exact ⟨ret_u32 (rrU x 25 128 33554432 (by decide) (by decide) hx), rfl⟩

set_option maxHeartbeats 400000 in
theorem rt25 (x : Nat) (hx : x < 4294967296) (w : World) :
    Calls Tryz.prog 119 #[.int .i64 x, .int .i64 25] w fun e w' => e = .returned (.int .i64 ((rr x 25 : Nat) : Int)) ∧ ∃ n, w' = w.drewN n := by
  go_enter Tryz.func119, Tryz.ntmps119
  go_wp2
  go_quiet (fail)
  go_wp2
  go_ret
  exact ⟨ret_i64 (rrI x 25 128 33554432 (by decide) (by decide) hx), _, rfl⟩

def rotN (k : Int) : Nat := (-k).toNat
def okRot (k : Int) : Bool := k == -2 || k == -6 || k == -7 || k == -11 || k == -13 || k == -17 || k == -18 || k == -19 || k == -22 || k == -25
theorem rot_any (x : Nat) (k : Int) (hx : x < 4294967296) (hk : okRot k = true) (w : World) :
    Calls Tryz.prog 200 #[.int .u32 x, .int .i64 k] w fun e w' => e = .returned (.int .u32 ((rr x (rotN k) : Nat) : Int)) ∧ w' = w := by
  simp only [okRot, Bool.or_eq_true, beq_iff_eq] at hk
  rcases hk with ((((((((hk | hk) | hk) | hk) | hk) | hk) | hk) | hk) | hk) | hk
  · subst hk; exact rot2 x hx w
  · subst hk; exact rot6 x hx w
  · subst hk; exact rot7 x hx w
  · subst hk; exact rot11 x hx w
  · subst hk; exact rot13 x hx w
  · subst hk; exact rot17 x hx w
  · subst hk; exact rot18 x hx w
  · subst hk; exact rot19 x hx w
  · subst hk; exact rot22 x hx w
  · subst hk; exact rot25 x hx w
theorem rt_any (x n : Nat) (hx : x < 4294967296) (hk : okRot (-(n : Int)) = true) (w : World) :
    Calls Tryz.prog 119 #[.int .i64 x, .int .i64 (n : Int)] w fun e w' => e = .returned (.int .i64 ((rr x n : Nat) : Int)) ∧ ∃ n, w' = w.drewN n := by
  simp only [okRot, Bool.or_eq_true, beq_iff_eq] at hk
  have hk : n = 2 ∨ n = 6 ∨ n = 7 ∨ n = 11 ∨ n = 13 ∨ n = 17 ∨ n = 18 ∨ n = 19 ∨ n = 22 ∨ n = 25 := by omega
  rcases hk with rfl | rfl | rfl | rfl | rfl | rfl | rfl | rfl | rfl | rfl
  · exact rt2 x hx w
  · exact rt6 x hx w
  · exact rt7 x hx w
  · exact rt11 x hx w
  · exact rt13 x hx w
  · exact rt17 x hx w
  · exact rt18 x hx w
  · exact rt19 x hx w
  · exact rt22 x hx w
  · exact rt25 x hx w
end Go.Proofs.YtkeefkfklmhcjaaGreatDoor
