import Derived.Test.YthplmoamdpijpabGreatDoorJEqS
import Derived.Test.YthplmoamdpijpabGreatDoorJChl
namespace Go.Proofs.YthplmoamdpijpabGreatDoor
open Go.RowKit

theorem kids_small {es : List Ent} (h : Tree es) (p : List UInt8) : ∀ e ∈ kidsE es p, e.path.size ≤ 1048576 := fun e he => (h.small e (by rw [kidsE, List.mem_filter] at he; exact he.1)).1
end Go.Proofs.YthplmoamdpijpabGreatDoor
