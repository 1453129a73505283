import Derived.Test.YtjofjcjojgpaeaaGreatDoorJPckA
import Derived.Test.YtjofjcjojgpaeaaGreatDoorJOrdB
import Derived.BigQuiet
namespace Go.Proofs.YtjofjcjojgpaeaaGreatDoor
open Go.RowKit

/-- Bytes as a text. -/
def bt (l : List UInt8) : ByteArray := ⟨l.toArray⟩
theorem bt_of (s : ByteArray) : bt s.data.toList = s := by
  cases s; simp [bt]
theorem bt_app (a b : List UInt8) : bt a ++ bt b = bt (a ++ b) := by
  apply ByteArray.ext
  simp [bt, ByteArray.data_append]
theorem bt_size (a : List UInt8) : (bt a).size = a.length := by
  rw [Lib.size_eq]; simp [bt]
theorem bt_list (a : List UInt8) : (bt a).data.toList = a := by simp [bt]
theorem fill_more {l : List UInt8} {k : Nat} : l ++ List.replicate (k + 1) (0 : UInt8) = (l ++ List.replicate k 0) ++ [0] := by
  rw [List.replicate_succ', List.append_assoc]
theorem dig_more {v k : Nat} : List.replicate (k + 1) (48 : UInt8) ++ octL v = [48] ++ (List.replicate k 48 ++ octL v) := by
  rw [List.replicate_succ]; rfl
def slashAt (l : List UInt8) (k i : Nat) : Bool := decide (k ≤ i) && l.getD i 0 == 47
theorem slash_found {l : List UInt8} {k i : Nat} (hi : i < l.length) (h1 : slashAt l k i = true) (h2 : ∀ j, j < i → slashAt l k j = false) : slashFrom l k = some i := by
  unfold slashFrom
  rw [List.find?_eq_some_iff_getElem]
  refine ⟨h1, i, by simpa using hi, by simp, fun j hj => ?_⟩
  have := h2 j hj
  simp only [List.getElem_range, Bool.not_eq_true']
  exact this
theorem slash_none {l : List UInt8} {k : Nat} (h : ∀ j, j < l.length → slashAt l k j = false) : slashFrom l k = none := by
  unfold slashFrom
  rw [List.find?_eq_none]
  intro j hj
  have := h j (List.mem_range.1 hj)
  rw [slashAt] at this
  rw [this]; decide
theorem below_drewN2 {B : Nat} {w W : World} (n : Nat) (h : Below B w W) : Below B w (W.drewN n) := ⟨h.os, h.tape, h.output, h.size, h.block⟩
theorem ext_take (s : ByteArray) (k : Nat) : s.extract 0 k = bt (s.data.toList.take k) := by
  apply ByteArray.ext
  apply Array.ext'
  rw [ByteArray.data_extract, Array.toList_extract]
  simp [bt, List.extract]
theorem ext_drop (s : ByteArray) (k : Nat) : s.extract k s.size = bt (s.data.toList.drop k) := by
  apply ByteArray.ext
  apply Array.ext'
  rw [ByteArray.data_extract, Array.toList_extract]
  have h := Lib.size_eq s
  simp only [bt, List.extract]
  rw [List.take_of_length_le (by rw [List.length_drop]; omega)]
end Go.Proofs.YtjofjcjojgpaeaaGreatDoor
