import Derived.Lib.SplitLaws
import Derived.Lib.Join
import Derived.Below
namespace Go.Proofs.YtkeefkfklmhcjaaGreatDoor
open Go Go.RowKit

def okN (n : Int) : Bool := decide ((97 ≤ n ∧ n ≤ 122) ∨ (65 ≤ n ∧ n ≤ 90) ∨ (48 ≤ n ∧ n ≤ 57) ∨ n = 46 ∨ n = 95 ∨ n = 45)
def okC (c : UInt8) : Bool := okN (c.toNat : Int)
def hdr (l : List UInt8) : Bool := l == [] || decide (60 < l.length) || l == [46] || l == [46, 46] || Lib.hasPrefix l [46, 119, 104, 46]
def elt (l : List UInt8) : Bool := !hdr l && l.all okC

theorem hide {p : Prop} (h : p) : Hid p := h
theorem unhide {p : Prop} (h : Hid p) : p := h.out
theorem ret_bool {a b : Bool} (h : a = b) : Ending.returned (.bool a) = .returned (.bool b) := by rw [h]

theorem elt_hdr {l : List UInt8} (h : hdr l = true) : elt l = false := by simp [elt, h]
theorem hdr_nil : hdr [] = true := by decide
theorem hdr_parts {l : List UInt8} (h : hdr l = false) : l ≠ [] ∧ l.length ≤ 60 ∧ l ≠ [46] ∧ l ≠ [46, 46] ∧ Lib.hasPrefix l [46, 119, 104, 46] = false := by
  simp only [hdr, Bool.or_eq_false_iff, beq_eq_false_iff_ne, decide_eq_false_iff_not, Nat.not_lt] at h
  exact ⟨h.1.1.1.1, h.1.1.1.2, h.1.1.2, h.1.2, h.2⟩
theorem take_snoc (s : ByteArray) (k : Nat) (h : k < s.size) : s.data.toList.take (k + 1) = s.data.toList.take k ++ [s[k]] := by
  rw [List.take_succ_eq_append_getElem (by simpa using h)]; rfl
theorem all_snoc (s : ByteArray) (k : Nat) (h : k < s.size) (h1 : (s.data.toList.take k).all okC = true) (h2 : okN (s[k].toNat : Int) = true) : (s.data.toList.take (k + 1)).all okC = true := by
  rw [take_snoc s k h, List.all_append, h1]; simp [okC, h2]
theorem elt_bad (s : ByteArray) (k : Nat) (h : k < s.size) (h2 : okN (s[k].toNat : Int) = false) : elt s.data.toList = false := by
  have : s.data.toList.all okC = false := by
    rw [← List.take_append_drop (k + 1) s.data.toList, List.all_append, take_snoc s k h, List.all_append]
    simp [okC, h2]
  simp [elt, this]
theorem elt_good (s : ByteArray) (k : Nat) (h : s.size ≤ k) (h1 : (s.data.toList.take k).all okC = true) (h0 : hdr s.data.toList = false) : elt s.data.toList = true := by
  rw [List.take_of_length_le (by simpa using h)] at h1
  simp [elt, h1, h0]
theorem okN_false {n : Int} (h : okN n = false) : ¬ (97 ≤ n ∧ n ≤ 122) ∧ ¬ (65 ≤ n ∧ n ≤ 90) ∧ ¬ (48 ≤ n ∧ n ≤ 57) ∧ n ≠ 46 ∧ n ≠ 95 ∧ n ≠ 45 := by
  simp only [okN, decide_eq_false_iff_not, not_or] at h; exact h
theorem okN_true {n : Int} (h : okN n = true) : (97 ≤ n ∧ n ≤ 122) ∨ (65 ≤ n ∧ n ≤ 90) ∨ (48 ≤ n ∧ n ≤ 57) ∨ n = 46 ∨ n = 95 ∨ n = 45 := of_decide_eq_true h
theorem okN_out {n : Int} (h : okN n = false) (h0 : 0 ≤ n) : (0 ≤ n ∧ n ≤ 44) ∨ n = 47 ∨ (58 ≤ n ∧ n ≤ 64) ∨ (91 ≤ n ∧ n ≤ 94) ∨ n = 96 ∨ 123 ≤ n := by
  have := okN_false h; omega
theorem hdr_false (s : ByteArray) (h : (((s.toList.isEmpty = false ∧ (s.size : Int) ≤ 60) ∧ (s.toList == [46]) = false) ∧ (s.toList == [46, 46]) = false) ∧ Lib.hasPrefix s.data.toList [46, 119, 104, 46] = false) : hdr s.data.toList = false := by
  rw [Lib.toList_data] at h
  obtain ⟨⟨⟨⟨h1, h2⟩, h3⟩, h4⟩, h5⟩ := h
  have := Lib.size_eq s
  have h1' : (s.data.toList == []) = false := by simpa using h1
  have h2' : decide (60 < s.data.toList.length) = false := by simp only [decide_eq_false_iff_not]; omega
  simp only [hdr, h1', h2', h3, h4, h5, Bool.or_self]

/-- A text parted at its slashes. -/
def spl : List UInt8 → List (List UInt8)
  | [] => [[]]
  | c :: r => if c = 47 then [] :: spl r else ((c :: (spl r).headD []) :: (spl r).tail)

theorem spl_ne (l : List UInt8) : spl l ≠ [] := by
  cases l with
  | nil => simp [spl]
  | cons c r => unfold spl; split <;> simp
theorem spl_len (l : List UInt8) : (spl l).length ≤ l.length + 1 := by
  induction l with
  | nil => simp [spl]
  | cons c r ih => unfold spl; split <;> simp <;> omega
theorem spl_sep (l : List UInt8) : spl (l ++ [47]) = spl l ++ [[]] := by
  induction l with
  | nil => simp [spl]
  | cons c r ih =>
    rw [List.cons_append, spl, ih]
    have hne := spl_ne r
    split
    · rename_i h; rw [spl, if_pos h]; rfl
    · rename_i h; rw [spl, if_neg h]
      cases h2 : spl r with
      | nil => exact absurd h2 hne
      | cons a b => simp
theorem spl_other (l : List UInt8) (c : UInt8) (hc : c ≠ 47) : ∀ (a : List (List UInt8)) (b : List UInt8), spl l = a ++ [b] → spl (l ++ [c]) = a ++ [b ++ [c]] := by
  induction l with
  | nil =>
    intro a b h
    cases a with
    | nil => simp [spl] at h; subst h; simp [spl, hc]
    | cons x y => simp [spl] at h
  | cons d r ih =>
    intro a b h
    rw [List.cons_append, spl]
    rw [spl] at h
    have hne := spl_ne r
    split at h
    · rename_i hd
      rw [if_pos hd]
      cases a with
      | nil => simp at h; exact absurd h.2 hne
      | cons x y =>
        simp only [List.cons_append, List.cons.injEq] at h
        obtain ⟨rfl, h⟩ := h
        rw [ih y b h]; rfl
    · rename_i hd
      rw [if_neg hd]
      cases h2 : spl r with
      | nil => exact absurd h2 hne
      | cons x y =>
        rw [h2] at h
        simp only [List.headD_cons, List.tail_cons] at h
        cases a with
        | nil =>
          simp only [List.nil_append, List.cons.injEq] at h
          obtain ⟨rfl, rfl⟩ := h
          rw [ih [] x (by simpa using h2)]; simp
        | cons x' y' =>
          simp only [List.cons_append, List.cons.injEq] at h
          obtain ⟨rfl, rfl⟩ := h
          rw [ih (x :: y') b (by simpa using h2)]; simp
theorem spl_join (l : List UInt8) : Lib.join (spl l) [47] = l := by
  induction l with
  | nil => simp [spl, Lib.join_one]
  | cons c r ih =>
    have hne := spl_ne r
    rw [spl]
    cases h2 : spl r with
    | nil => exact absurd h2 hne
    | cons x y =>
      rw [h2, Lib.join_cons] at ih
      split
      · rename_i h; subst h
        rw [Lib.join_cons, Lib.joinTail, List.map_cons, List.flatten_cons, ← ih]
        simp [Lib.joinTail]
      · rw [Lib.join_cons]; simp [ih]
end Go.Proofs.YtkeefkfklmhcjaaGreatDoor

namespace Go.Proofs.YtkeefkfklmhcjaaGreatDoor
open Go Go.RowKit

theorem splitK_one : ∀ l : List UInt8, Lib.splitK [47] 0 (Lib.count l [47]) l = spl l
  | [] => by rw [Lib.count_miss (by simp [Lib.index])]; rfl
  | c :: r => by
    have ih := splitK_one r
    by_cases h : c = 47
    · subst h
      have hix : Lib.index (47 :: r) [47] = ((0 : Nat) : Int) := by rw [Lib.index]; simp [List.isPrefixOf]
      rw [Lib.count_cons_eq, Nat.add_comm, Lib.splitK, hix, spl, if_pos rfl, ← ih]
      simp
    · have hp : ([47] : List UInt8).isPrefixOf (c :: r) = false := by simp [List.isPrefixOf, Ne.symm h]
      have hix : Lib.index (c :: r) [47] = if Lib.index r [47] == -1 then -1 else Lib.index r [47] + 1 := by rw [Lib.index, hp]; simp
      rw [Lib.count_cons_ne c 47 r h, spl, if_neg h, ← ih]
      by_cases hm : Lib.index r [47] = -1
      · rw [Lib.count_miss hm]; simp [Lib.splitK]
      · have hge := Lib.index_ge r [47]
        obtain ⟨j, hj⟩ : ∃ j : Nat, Lib.index r [47] = j := ⟨(Lib.index r [47]).toNat, by omega⟩
        have hix' : Lib.index (c :: r) [47] = ((j + 1 : Nat) : Int) := by rw [hix, if_neg (fun e => hm (beq_iff_eq.1 e)), hj]; omega
        have hm1 : ¬ ((((j + 1 : Nat) : Int) == -1) = true) := fun e => by have := beq_iff_eq.1 e; omega
        have hm2 : ¬ (((j : Int) == -1) = true) := fun e => by have := beq_iff_eq.1 e; omega
        rw [Lib.count_hit (by simp) hj, Nat.add_comm, Lib.splitK, Lib.splitK, hix', hj, if_neg hm1, if_neg hm2, Int.toNat_natCast, Int.toNat_natCast]
        simp

/-- The elements of a path. -/
def prt (l : List UInt8) : List (List UInt8) := if l = [] then [] else spl l
def isP (l : List UInt8) : Bool := decide (l.length ≤ 170) && decide ((prt l).length ≤ 12) && (prt l).all elt

theorem prt_len (l : List UInt8) : (prt l).length ≤ l.length + 1 := by
  unfold prt; split
  · simp
  · exact spl_len l
theorem prt_nil : prt [] = [] := rfl
theorem prt_ne {l : List UInt8} (h : l ≠ []) : prt l = spl l := if_neg h
theorem isP_long {l : List UInt8} (h : 170 < l.length) : isP l = false := by simp [isP, Nat.not_le.2 h]
theorem isP_deep {l : List UInt8} (h : 12 < (prt l).length) : isP l = false := by simp [isP, Nat.not_le.2 h]
theorem isP_not {l : List UInt8} {k : Nat} {b : List UInt8} (hk : (prt l)[k]? = some b) (hb : elt b = false) : isP l = false := by
  have : (prt l).all elt = false := by
    rw [Bool.eq_false_iff]; intro h
    rw [List.all_eq_true] at h
    have := h b (List.mem_of_getElem? hk)
    rw [hb] at this; cases this
  simp [isP, this]
theorem isP_yes {l : List UInt8} (h1 : l.length ≤ 170) (h2 : (prt l).all elt = true) : isP l = decide ((prt l).length ≤ 12) := by simp [isP, h1, h2]
theorem all_take_succ {xs : List (List UInt8)} {k : Nat} {b : List UInt8} (hk : xs[k]? = some b) (h : (xs.take k).all elt = true) (hb : elt b = true) : (xs.take (k + 1)).all elt = true := by
  rw [List.take_add_one, hk, List.all_append, h]; simp [hb]

def jn (k : Nat) (xs : List (List UInt8)) : List UInt8 := Lib.join (xs.take k) [47]
theorem jn_zero (xs : List (List UInt8)) : jn 0 xs = [] := rfl
theorem jn_succ (xs : List (List UInt8)) (k : Nat) (y : List UInt8) (h : xs[k]? = some y) : jn (k + 1) xs = if k = 0 then y else jn k xs ++ [47] ++ y := by
  cases xs with
  | nil => simp at h
  | cons x r =>
    cases k with
    | zero => simp at h; subst h; simp [jn, Lib.join_one]
    | succ j =>
      rw [if_neg (by omega)]
      simp only [jn, List.take_succ_cons, Lib.join_cons]
      rw [Lib.joinTail_take_succ [47] r j y (by simpa using h)]
      simp
theorem jn_le (xs : List (List UInt8)) (k : Nat) : (jn k xs).length ≤ (Lib.join xs [47]).length := by
  cases xs with
  | nil => simp [jn]
  | cons x r =>
    cases k with
    | zero => simp [jn, Lib.join_nil]
    | succ j =>
      simp only [jn, List.take_succ_cons, Lib.join_cons, List.length_append]
      have := Lib.joinTail_take_le [47] r j
      omega
theorem jn_all (xs : List (List UInt8)) (k : Nat) (h : xs.length ≤ k) : jn k xs = Lib.join xs [47] := by rw [jn, List.take_of_length_le h]
end Go.Proofs.YtkeefkfklmhcjaaGreatDoor
