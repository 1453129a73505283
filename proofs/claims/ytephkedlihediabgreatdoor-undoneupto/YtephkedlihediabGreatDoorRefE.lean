import Derived.Test.YtephkedlihediabGreatDoorJDifP
import Derived.Test.YtephkedlihediabGreatDoorJPatB
namespace Go.Proofs.YtephkedlihediabGreatDoor
open Go.RowKit

theorem kids_small {es : List Ent} (h : Tree es) (p : List UInt8) : ∀ e ∈ kidsE es p, e.path.size ≤ 1048576 := fun e he => (h.small e (by rw [kidsE, List.mem_filter] at he; exact he.1)).1
end Go.Proofs.YtephkedlihediabGreatDoor
