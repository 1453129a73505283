import Derived.Test.YtmfeonelincdbaaGreatDoorDigH
import Derived.Test.YtmfeonelincdbaaGreatDoorOctP
namespace Go.Proofs.YtmfeonelincdbaaGreatDoor
open Go.RowKit

def fileT (e : Ent) : List UInt8 := [102, 105, 108, 101, 32] ++ octL e.mode.toNat ++ [32] ++ decL e.data.size ++ [10] ++ e.data.data.toList
def linkT (e : Ent) : List UInt8 := [108, 105, 110, 107, 32] ++ e.data.data.toList
def dirT (e : Ent) : List UInt8 := [100, 105, 114, 32] ++ octL e.mode.toNat ++ [10]
def kidT (s : Ent → List UInt8) (k : Ent) : List UInt8 := nameOf k.path.data.toList ++ [32] ++ s k ++ [10]
/-- The sum of an entry, so deep. -/
def sumF (es : List Ent) : Nat → Ent → List UInt8
  | 0, _ => []
  | f + 1, e => sha (if e.kind = 2 then fileT e else if e.kind = 3 then linkT e else dirT e ++ ((kidsE es e.path.data.toList).map (kidT (sumF es f))).flatten)
end Go.Proofs.YtmfeonelincdbaaGreatDoor
