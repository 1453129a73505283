import Derived.Lib.SplitLaws
import Derived.Lib.Join
import Derived.Below
namespace Go.Proofs.YtdhnmilifbobiaaDoor
open Go Go.RowKit

def okN (n : Int) : Bool := decide ((97 ≤ n ∧ n ≤ 122) ∨ (65 ≤ n ∧ n ≤ 90) ∨ (48 ≤ n ∧ n ≤ 57) ∨ n = 46 ∨ n = 95 ∨ n = 45)
def okC (c : UInt8) : Bool := okN (c.toNat : Int)
def hdr (l : List UInt8) : Bool := l == [] || decide (60 < l.length) || l == [46] || l == [46, 46] || Lib.hasPrefix l [46, 119, 104, 46]
def elt (l : List UInt8) : Bool := !hdr l && l.all okC

theorem hide {p : Prop} (h : p) : Hid p := h
theorem unhide {p : Prop} (h : Hid p) : p := h.out
theorem ret_bool {a b : Bool} (h : a = b) : Ending.returned (.bool a) = .returned (.bool b) := by rw [h]

theorem elt_hdr {l : List UInt8} (h : hdr l = true) : elt l = false := by simp [elt, h]
theorem hdr_nil : hdr [] = true := by decide
theorem hdr_parts {l : List UInt8} (h : hdr l = false) : l ≠ [] ∧ l.length ≤ 60 ∧ l ≠ [46] ∧ l ≠ [46, 46] ∧ Lib.hasPrefix l [46, 119, 104, 46] = false := by
  simp only [hdr, Bool.or_eq_false_iff, beq_eq_false_iff_ne, decide_eq_false_iff_not, Nat.not_lt] at h
  exact ⟨h.1.1.1.1, h.1.1.1.2, h.1.1.2, h.1.2, h.2⟩
theorem take_snoc (s : ByteArray) (k : Nat) (h : k < s.size) : s.data.toList.take (k + 1) = s.data.toList.take k ++ [s[k]] := by
  rw [List.take_succ_eq_append_getElem (by simpa using h)]; rfl
theorem all_snoc (s : ByteArray) (k : Nat) (h : k < s.size) (h1 : (s.data.toList.take k).all okC = true) (h2 : okN (s[k].toNat : Int) = true) : (s.data.toList.take (k + 1)).all okC = true := by
  rw [take_snoc s k h, List.all_append, h1]; simp [okC, h2]
theorem elt_bad (s : ByteArray) (k : Nat) (h : k < s.size) (h2 : okN (s[k].toNat : Int) = false) : elt s.data.toList = false := by
  have : s.data.toList.all okC = false := by
    rw [← List.take_append_drop (k + 1) s.data.toList, List.all_append, take_snoc s k h, List.all_append]
    simp [okC, h2]
  simp [elt, this]
theorem elt_good (s : ByteArray) (k : Nat) (h : s.size ≤ k) (h1 : (s.data.toList.take k).all okC = true) (h0 : hdr s.data.toList = false) : elt s.data.toList = true := by
  rw [List.take_of_length_le (by simpa using h)] at h1
  simp [elt, h1, h0]
theorem okN_false {n : Int} (h : okN n = false) : ¬ (97 ≤ n ∧ n ≤ 122) ∧ ¬ (65 ≤ n ∧ n ≤ 90) ∧ ¬ (48 ≤ n ∧ n ≤ 57) ∧ n ≠ 46 ∧ n ≠ 95 ∧ n ≠ 45 := by
  simp only [okN, decide_eq_false_iff_not, not_or] at h; exact h
theorem okN_true {n : Int} (h : okN n = true) : (97 ≤ n ∧ n ≤ 122) ∨ (65 ≤ n ∧ n ≤ 90) ∨ (48 ≤ n ∧ n ≤ 57) ∨ n = 46 ∨ n = 95 ∨ n = 45 := of_decide_eq_true h
theorem okN_out {n : Int} (h : okN n = false) (h0 : 0 ≤ n) : (0 ≤ n ∧ n ≤ 44) ∨ n = 47 ∨ (58 ≤ n ∧ n ≤ 64) ∨ (91 ≤ n ∧ n ≤ 94) ∨ n = 96 ∨ 123 ≤ n := by
  have := okN_false h; omega
theorem hdr_false (s : ByteArray) (h : (((s.toList.isEmpty = false ∧ (s.size : Int) ≤ 60) ∧ (s.toList == [46]) = false) ∧ (s.toList == [46, 46]) = false) ∧ Lib.hasPrefix s.data.toList [46, 119, 104, 46] = false) : hdr s.data.toList = false := by
  rw [Lib.toList_data] at h
  obtain ⟨⟨⟨⟨h1, h2⟩, h3⟩, h4⟩, h5⟩ := h
  have := Lib.size_eq s
  have h1' : (s.data.toList == []) = false := by simpa using h1
  have h2' : decide (60 < s.data.toList.length) = false := by simp only [decide_eq_false_iff_not]; omega
  simp only [hdr, h1', h2', h3, h4, h5, Bool.or_self]

/-- A text parted at its slashes. -/
def spl : List UInt8 → List (List UInt8)
  | [] => [[]]
  | c :: r => if c = 47 then [] :: spl r else ((c :: (spl r).headD []) :: (spl r).tail)

theorem spl_ne (l : List UInt8) : spl l ≠ [] := by
  cases l with
  | nil => simp [spl]
  | cons c r => unfold spl; split <;> simp
theorem spl_len (l : List UInt8) : (spl l).length ≤ l.length + 1 := by
  induction l with
  | nil => simp [spl]
  | cons c r ih => unfold spl; split <;> simp <;> omega
theorem spl_sep (l : List UInt8) : spl (l ++ [47]) = spl l ++ [[]] := by
  induction l with
  | nil => simp [spl]
  | cons c r ih =>
    rw [List.cons_append, spl, ih]
    have hne := spl_ne r
    split
    · rename_i h; rw [spl, if_pos h]; rfl
    · rename_i h; rw [spl, if_neg h]
      cases h2 : spl r with
      | nil => exact absurd h2 hne
      | cons a b => simp
theorem spl_other (l : List UInt8) (c : UInt8) (hc : c ≠ 47) : ∀ (a : List (List UInt8)) (b : List UInt8), spl l = a ++ [b] → spl (l ++ [c]) = a ++ [b ++ [c]] := by
  induction l with
  | nil =>
    intro a b h
    cases a with
    | nil => simp [spl] at h; subst h; simp [spl, hc]
    | cons x y => simp [spl] at h
  | cons d r ih =>
    intro a b h
    rw [List.cons_append, spl]
    rw [spl] at h
    have hne := spl_ne r
    split at h
    · rename_i hd
      rw [if_pos hd]
      cases a with
      | nil => simp at h; exact absurd h.2 hne
      | cons x y =>
        simp only [List.cons_append, List.cons.injEq] at h
        obtain ⟨rfl, h⟩ := h
        rw [ih y b h]; rfl
    · rename_i hd
      rw [if_neg hd]
      cases h2 : spl r with
      | nil => exact absurd h2 hne
      | cons x y =>
        rw [h2] at h
        simp only [List.headD_cons, List.tail_cons] at h
        cases a with
        | nil =>
          simp only [List.nil_append, List.cons.injEq] at h
          obtain ⟨rfl, rfl⟩ := h
          rw [ih [] x (by simpa using h2)]; simp
        | cons x' y' =>
          simp only [List.cons_append, List.cons.injEq] at h
          obtain ⟨rfl, rfl⟩ := h
          rw [ih (x :: y') b (by simpa using h2)]; simp
theorem spl_join (l : List UInt8) : Lib.join (spl l) [47] = l := by
  induction l with
  | nil => simp [spl, Lib.join_one]
  | cons c r ih =>
    have hne := spl_ne r
    rw [spl]
    cases h2 : spl r with
    | nil => exact absurd h2 hne
    | cons x y =>
      rw [h2, Lib.join_cons] at ih
      split
      · rename_i h; subst h
        rw [Lib.join_cons, Lib.joinTail, List.map_cons, List.flatten_cons, ← ih]
        simp [Lib.joinTail]
      · rw [Lib.join_cons]; simp [ih]
end Go.Proofs.YtdhnmilifbobiaaDoor
