import Derived.Test.YtjofjcjojgpaeaaGreatDoorJEqS
import Derived.Test.YtjofjcjojgpaeaaGreatDoorJChl
namespace Go.Proofs.YtjofjcjojgpaeaaGreatDoor
open Go.RowKit

theorem kids_small {es : List Ent} (h : Tree es) (p : List UInt8) : ∀ e ∈ kidsE es p, e.path.size ≤ 1048576 := fun e he => (h.small e (by rw [kidsE, List.mem_filter] at he; exact he.1)).1
end Go.Proofs.YtjofjcjojgpaeaaGreatDoor
