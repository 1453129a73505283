import Derived.Test.YtdhnmilifbobiaaDoorPlain
namespace Go.Proofs.YtdhnmilifbobiaaDoor
open Go Go.RowKit

theorem splitK_one : ∀ l : List UInt8, Lib.splitK [47] 0 (Lib.count l [47]) l = spl l
  | [] => by rw [Lib.count_miss (by simp [Lib.index])]; rfl
  | c :: r => by
    have ih := splitK_one r
    by_cases h : c = 47
    · subst h
      have hix : Lib.index (47 :: r) [47] = ((0 : Nat) : Int) := by rw [Lib.index]; simp [List.isPrefixOf]
      rw [Lib.count_cons_eq, Nat.add_comm, Lib.splitK, hix, spl, if_pos rfl, ← ih]
      simp
    · have hp : ([47] : List UInt8).isPrefixOf (c :: r) = false := by simp [List.isPrefixOf, Ne.symm h]
      have hix : Lib.index (c :: r) [47] = if Lib.index r [47] == -1 then -1 else Lib.index r [47] + 1 := by rw [Lib.index, hp]; simp
      rw [Lib.count_cons_ne c 47 r h, spl, if_neg h, ← ih]
      by_cases hm : Lib.index r [47] = -1
      · rw [Lib.count_miss hm]; simp [Lib.splitK]
      · have hge := Lib.index_ge r [47]
        obtain ⟨j, hj⟩ : ∃ j : Nat, Lib.index r [47] = j := ⟨(Lib.index r [47]).toNat, by omega⟩
        have hix' : Lib.index (c :: r) [47] = ((j + 1 : Nat) : Int) := by rw [hix, if_neg (fun e => hm (beq_iff_eq.1 e)), hj]; omega
        have hm1 : ¬ ((((j + 1 : Nat) : Int) == -1) = true) := fun e => by have := beq_iff_eq.1 e; omega
        have hm2 : ¬ (((j : Int) == -1) = true) := fun e => by have := beq_iff_eq.1 e; omega
        rw [Lib.count_hit (by simp) hj, Nat.add_comm, Lib.splitK, Lib.splitK, hix', hj, if_neg hm1, if_neg hm2, Int.toNat_natCast, Int.toNat_natCast]
        simp

/-- The elements of a path. -/
def prt (l : List UInt8) : List (List UInt8) := if l = [] then [] else spl l
def isP (l : List UInt8) : Bool := decide (l.length ≤ 170) && decide ((prt l).length ≤ 12) && (prt l).all elt

theorem prt_len (l : List UInt8) : (prt l).length ≤ l.length + 1 := by
  unfold prt; split
  · simp
  · exact spl_len l
theorem prt_nil : prt [] = [] := rfl
theorem prt_ne {l : List UInt8} (h : l ≠ []) : prt l = spl l := if_neg h
theorem isP_long {l : List UInt8} (h : 170 < l.length) : isP l = false := by simp [isP, Nat.not_le.2 h]
theorem isP_deep {l : List UInt8} (h : 12 < (prt l).length) : isP l = false := by simp [isP, Nat.not_le.2 h]
theorem isP_not {l : List UInt8} {k : Nat} {b : List UInt8} (hk : (prt l)[k]? = some b) (hb : elt b = false) : isP l = false := by
  have : (prt l).all elt = false := by
    rw [Bool.eq_false_iff]; intro h
    rw [List.all_eq_true] at h
    have := h b (List.mem_of_getElem? hk)
    rw [hb] at this; cases this
  simp [isP, this]
theorem isP_yes {l : List UInt8} (h1 : l.length ≤ 170) (h2 : (prt l).all elt = true) : isP l = decide ((prt l).length ≤ 12) := by simp [isP, h1, h2]
theorem all_take_succ {xs : List (List UInt8)} {k : Nat} {b : List UInt8} (hk : xs[k]? = some b) (h : (xs.take k).all elt = true) (hb : elt b = true) : (xs.take (k + 1)).all elt = true := by
  rw [List.take_add_one, hk, List.all_append, h]; simp [hb]

def jn (k : Nat) (xs : List (List UInt8)) : List UInt8 := Lib.join (xs.take k) [47]
theorem jn_zero (xs : List (List UInt8)) : jn 0 xs = [] := rfl
theorem jn_succ (xs : List (List UInt8)) (k : Nat) (y : List UInt8) (h : xs[k]? = some y) : jn (k + 1) xs = if k = 0 then y else jn k xs ++ [47] ++ y := by
  cases xs with
  | nil => simp at h
  | cons x r =>
    cases k with
    | zero => simp at h; subst h; simp [jn, Lib.join_one]
    | succ j =>
      rw [if_neg (by omega)]
      simp only [jn, List.take_succ_cons, Lib.join_cons]
      rw [Lib.joinTail_take_succ [47] r j y (by simpa using h)]
      simp
theorem jn_le (xs : List (List UInt8)) (k : Nat) : (jn k xs).length ≤ (Lib.join xs [47]).length := by
  cases xs with
  | nil => simp [jn]
  | cons x r =>
    cases k with
    | zero => simp [jn, Lib.join_nil]
    | succ j =>
      simp only [jn, List.take_succ_cons, Lib.join_cons, List.length_append]
      have := Lib.joinTail_take_le [47] r j
      omega
theorem jn_all (xs : List (List UInt8)) (k : Nat) (h : xs.length ≤ k) : jn k xs = Lib.join xs [47] := by rw [jn, List.take_of_length_le h]
end Go.Proofs.YtdhnmilifbobiaaDoor
