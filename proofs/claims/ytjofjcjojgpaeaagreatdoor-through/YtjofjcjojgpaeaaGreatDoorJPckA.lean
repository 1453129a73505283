import Derived.Test.YtjofjcjojgpaeaaGreatDoorJOctP
import Derived.Test.YtjofjcjojgpaeaaGreatDoorJEqS
import Derived.Test.YtjofjcjojgpaeaaGreatDoorJLeaf
import Derived.Test.YtjofjcjojgpaeaaGreatDoorJEntB
namespace Go.Proofs.YtjofjcjojgpaeaaGreatDoor
open Go.RowKit

/-- A text, filled up with noughts. -/
def fillL (s : List UInt8) (n : Nat) : List UInt8 := s ++ List.replicate (n - s.length) 0
/-- A number in octal digits that fill n bytes, and a nought. -/
def digL (v n : Nat) : List UInt8 := List.replicate (n - (octL v).length) 48 ++ octL v ++ [0]
/-- What is in a directory, by its path. -/
def inL (d r : List UInt8) : List UInt8 := if d = [] then r else d ++ 47 :: r
def whL : List UInt8 := [46, 119, 104, 46]
def opqL : List UInt8 := [46, 119, 104, 46, 46, 119, 104, 46, 46, 111, 112, 113]
/-- The name of a change. -/
def nameL (c : Ent) : List UInt8 :=
  if c.kind = 1 then c.path.data.toList ++ [47]
  else if c.kind = 4 then inL (dirOf c.path.data.toList) (whL ++ nameOf c.path.data.toList)
  else if c.kind = 5 then inL c.path.data.toList opqL
  else c.path.data.toList
/-- The place of the first slash from a place on. -/
def slashFrom (n : List UInt8) (k : Nat) : Option Nat := ((List.range n.length).find? fun i => decide (k ≤ i) && n.getD i 0 == 47)
def partL (n : List UInt8) : List UInt8 × List UInt8 :=
  if n.length ≤ 100 then ([], n) else match slashFrom n (n.length - 101) with
    | some i => (n.take i, n.drop (i + 1))
    | none => ([], n)
def flagL (c : Ent) : UInt8 := if c.kind = 1 then 53 else if c.kind = 3 then 50 else 48
def linkL (c : Ent) : List UInt8 := if c.kind = 3 then c.data.data.toList else []
def dataL (c : Ent) : List UInt8 := if c.kind = 2 then c.data.data.toList else []
def headL (c : Ent) : List UInt8 := fillL (partL (nameL c)).2 100 ++ digL c.mode.toNat 7 ++ digL 0 7 ++ digL 0 7 ++ digL (dataL c).length 11 ++ digL 0 11
def magicL : List UInt8 := [117, 115, 116, 97, 114, 0, 48, 48]
def tailL (c : Ent) : List UInt8 := [flagL c] ++ fillL (linkL c) 100 ++ magicL ++ List.replicate 64 0 ++ digL 0 7 ++ digL 0 7 ++ fillL (partL (nameL c)).1 155 ++ List.replicate 12 0
def sumL (l : List UInt8) : Nat := l.foldl (fun t b => t + b.toNat) 0
def totalL (c : Ent) : Nat := 256 + sumL (headL c) + sumL (tailL c)
def padL (n : Nat) : Nat := (512 - n % 512) % 512
def entryL (c : Ent) : List UInt8 := headL c ++ digL (totalL c) 6 ++ [32] ++ tailL c ++ dataL c ++ List.replicate (padL (dataL c).length) 0
def packL (cs : List Ent) : List UInt8 := (cs.map entryL).flatten ++ List.replicate 1024 0

theorem fillL_len {s : List UInt8} {n : Nat} (h : s.length ≤ n) : (fillL s n).length = n := by
  rw [fillL, List.length_append, List.length_replicate]; omega
theorem octL_lt : ∀ (k : Nat) (n : Nat), n < 8 ^ (k + 1) → (octL n).length ≤ k + 1
  | 0, n, h => by
    rw [octL, if_pos (by simpa using h)]; simp
  | k + 1, n, h => by
    rw [octL]
    split
    · simp
    · have h2 : n / 8 < 8 ^ (k + 1) := by
        rw [Nat.div_lt_iff_lt_mul (by decide), ← Nat.pow_succ]; exact h
      have := octL_lt k (n / 8) h2
      simp; omega
theorem digL_len {v n : Nat} (h : (octL v).length ≤ n) : (digL v n).length = n + 1 := by
  simp only [digL, List.length_append, List.length_replicate, List.length_cons, List.length_nil]; omega
theorem sumL_app (a b : List UInt8) : sumL (a ++ b) = sumL a + sumL b := by
  have h : ∀ (l : List UInt8) (t : Nat), l.foldl (fun t b => t + b.toNat) t = t + l.foldl (fun t b => t + b.toNat) 0 := fun l => by
    induction l with
    | nil => intro t; simp
    | cons x l ih => intro t; rw [List.foldl_cons, List.foldl_cons, ih, ih (0 + x.toNat)]; omega
  rw [sumL, List.foldl_append, h b, ← sumL, ← sumL]
theorem sumL_le (l : List UInt8) : sumL l ≤ l.length * 255 := by
  induction l with
  | nil => simp [sumL]
  | cons x l ih =>
    rw [← List.singleton_append, sumL_app]
    have hx : sumL [x] ≤ 255 := by
      have := x.toNat_lt
      simp [sumL]; omega
    simp only [List.singleton_append, List.length_cons]
    omega
theorem sumL_take {l : List UInt8} {k : Nat} (h : k < l.length) : sumL (l.take (k + 1)) = sumL (l.take k) + l[k].toNat := by
  rw [List.take_add_one, List.getElem?_eq_getElem h, sumL_app]; simp [sumL]
end Go.Proofs.YtjofjcjojgpaeaaGreatDoor

namespace Go.Proofs.YtjofjcjojgpaeaaGreatDoor
open Go.RowKit

theorem dig8 (r : Nat) (h : r < 8) : ((⟨#[48, 49, 50, 51, 52, 53, 54, 55]⟩ : ByteArray).extract r (r + 1)).data.toList = [UInt8.ofNat (48 + r)] := by
  rw [Lib.extract_data]
  match r, h with
  | 0, _ => rfl
  | 1, _ => rfl
  | 2, _ => rfl
  | 3, _ => rfl
  | 4, _ => rfl
  | 5, _ => rfl
  | 6, _ => rfl
  | 7, _ => rfl
theorem octL_len (n : Nat) : (octL n).length ≤ n + 1 := by
  induction n using Nat.strongRecOn with
  | ind n ih =>
    rw [octL]
    split
    · simp
    · rename_i h
      have := ih (n / 8) (by omega)
      simp only [List.length_append, List.length_cons, List.length_nil]
      omega
end Go.Proofs.YtjofjcjojgpaeaaGreatDoor
