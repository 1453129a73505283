import Derived.Test.YtmfeonelincdbaaGreatDoorJTreeP
namespace Go.Proofs.YtmfeonelincdbaaGreatDoor
open Go.RowKit

def octL (n : Nat) : List UInt8 := if n < 8 then [UInt8.ofNat (48 + n)] else octL (n / 8) ++ [UInt8.ofNat (48 + n % 8)]
termination_by n
def decL (n : Nat) : List UInt8 := if n < 10 then [UInt8.ofNat (48 + n)] else decL (n / 10) ++ [UInt8.ofNat (48 + n % 10)]
termination_by n
end Go.Proofs.YtmfeonelincdbaaGreatDoor
