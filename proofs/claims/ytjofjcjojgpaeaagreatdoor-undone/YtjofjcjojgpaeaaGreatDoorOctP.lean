import Derived.Test.YtjofjcjojgpaeaaGreatDoorJTreeP
namespace Go.Proofs.YtjofjcjojgpaeaaGreatDoor
open Go.RowKit

def octL (n : Nat) : List UInt8 := if n < 8 then [UInt8.ofNat (48 + n)] else octL (n / 8) ++ [UInt8.ofNat (48 + n % 8)]
def decL (n : Nat) : List UInt8 := if n < 10 then [UInt8.ofNat (48 + n)] else decL (n / 10) ++ [UInt8.ofNat (48 + n % 10)]
end Go.Proofs.YtjofjcjojgpaeaaGreatDoor
