import Derived.Test.YtdhnmilifbobiaaDoorPlaina
namespace Go.Proofs.YtdhnmilifbobiaaDoor
open Go Go.RowKit

/-- The parts, gone through behind what there is; none: what is no path. -/
def run : List (List UInt8) → List (List UInt8) → Option (List (List UInt8))
  | out, [] => some out
  | out, p :: r =>
    if p = [] ∨ p = [46] then run out r
    else if p = [46, 46] then (if out = [] then none else run out.dropLast r)
    else if elt p = true then run (out ++ [p]) r else none

theorem run_skip {out r : List (List UInt8)} {p : List UInt8} (h : p = [] ∨ p = [46]) : run out (p :: r) = run out r := by rw [run, if_pos h]
theorem run_up {out r : List (List UInt8)} (h : out ≠ []) : run out ([46, 46] :: r) = run out.dropLast r := by rw [run, if_neg (by decide), if_pos rfl, if_neg h]
theorem run_up0 {r : List (List UInt8)} : run [] ([46, 46] :: r) = none := by rw [run, if_neg (by decide), if_pos rfl, if_pos rfl]
theorem run_el {out r : List (List UInt8)} {p : List UInt8} (h : elt p = true) : run out (p :: r) = run (out ++ [p]) r := by
  have h0 : hdr p = false := by
    cases hh : hdr p
    · rfl
    · rw [elt_hdr hh] at h; cases h
  obtain ⟨h1, _, h3, h4, _⟩ := hdr_parts h0
  rw [run, if_neg (by simp [h1, h3]), if_neg h4, if_pos h]
theorem run_bad {out r : List (List UInt8)} {p : List UInt8} (h1 : p ≠ []) (h2 : p ≠ [46]) (h3 : p ≠ [46, 46]) (h : elt p = false) : run out (p :: r) = none := by
  rw [run, if_neg (by simp [h1, h2]), if_neg h3, if_neg (by simp [h])]
theorem run_all {xs r : List (List UInt8)} : ∀ {out : List (List UInt8)}, xs.all elt = true → run out (xs ++ r) = run (out ++ xs) r := by
  induction xs with
  | nil => intro out _; simp
  | cons x t ih =>
    intro out h
    simp only [List.all_cons, Bool.and_eq_true] at h
    rw [List.cons_append, run_el h.1, ih h.2]; simp

def wt (xs : List (List UInt8)) : Nat := (xs.map (fun x => x.length + 1)).sum
theorem wt_append (a b : List (List UInt8)) : wt (a ++ b) = wt a + wt b := by simp [wt]
theorem wt_cons (a : List UInt8) (b : List (List UInt8)) : wt (a :: b) = a.length + 1 + wt b := by simp [wt]
theorem wt_nil : wt [] = 0 := rfl
theorem wt_len (xs : List (List UInt8)) : xs.length ≤ wt xs := by
  induction xs with
  | nil => simp [wt]
  | cons x r ih => rw [wt_cons, List.length_cons]; omega
theorem wt_dropLast (xs : List (List UInt8)) : wt xs.dropLast ≤ wt xs := by
  induction xs with
  | nil => simp
  | cons x r ih =>
    cases r with
    | nil => simp [wt]
    | cons y t => rw [List.dropLast_cons_cons, wt_cons, wt_cons]; omega
theorem wt_join (xs : List (List UInt8)) : (Lib.join xs [47]).length ≤ wt xs := by
  cases xs with
  | nil => simp [Lib.join_nil]
  | cons x r =>
    rw [Lib.join_cons, List.length_append, Lib.joinTail_length, wt_cons]
    have : r.length + Lib.lens r = wt r := by
      induction r with
      | nil => rfl
      | cons y t ih => rw [wt_cons, ← ih]; simp only [Lib.lens, List.length_cons, List.map_cons, List.sum_cons]; omega
    simp only [List.length_cons, List.length_nil]
    omega
theorem wt_spl (l : List UInt8) : wt (spl l) = l.length + 1 := by
  induction l with
  | nil => rfl
  | cons c r ih =>
    rw [spl]
    split
    · rw [wt_cons, ih]; simp; omega
    · cases h : spl r with
      | nil => exact absurd h (spl_ne r)
      | cons x y => rw [h] at ih; rw [wt_cons] at ih; rw [wt_cons]; simp; omega
theorem wt_prt (l : List UInt8) : wt (prt l) ≤ l.length + 1 := by
  unfold prt; split
  · simp [wt]
  · rw [wt_spl]; omega

theorem drop_at {xs : List (List UInt8)} {k : Nat} {b : List UInt8} (h : xs[k]? = some b) : xs.drop k = b :: xs.drop (k + 1) := by
  obtain ⟨hl, rfl⟩ := List.getElem?_eq_some_iff.1 h
  exact List.drop_eq_getElem_cons hl

/-- What has been done up to k, and what is left of it. -/
def Going (xs out0 out : List (List UInt8)) (k : Nat) : Prop := run out (xs.drop k) = run out0 xs ∧ wt out + wt (xs.drop k) ≤ wt out0 + wt xs
theorem going0 (xs out0 : List (List UInt8)) : Going xs out0 out0 0 := ⟨rfl, Nat.le_refl _⟩
theorem going_skip {xs out0 out : List (List UInt8)} {k : Nat} {b : List UInt8} (h : Going xs out0 out k) (hk : xs[k]? = some b) (hb : b = [] ∨ b = [46]) : Going xs out0 out (k + 1) := by
  obtain ⟨h1, h2⟩ := h
  rw [drop_at hk] at h1 h2
  rw [run_skip hb] at h1
  rw [wt_cons] at h2
  exact ⟨h1, by omega⟩
theorem going_up {xs out0 out : List (List UInt8)} {k : Nat} (h : Going xs out0 out k) (hk : xs[k]? = some [46, 46]) (ho : out ≠ []) : Going xs out0 out.dropLast (k + 1) := by
  obtain ⟨h1, h2⟩ := h
  rw [drop_at hk] at h1 h2
  rw [run_up ho] at h1
  rw [wt_cons] at h2
  have := wt_dropLast out
  exact ⟨h1, by omega⟩
theorem going_el {xs out0 out : List (List UInt8)} {k : Nat} {b : List UInt8} (h : Going xs out0 out k) (hk : xs[k]? = some b) (hb : elt b = true) : Going xs out0 (out ++ [b]) (k + 1) := by
  obtain ⟨h1, h2⟩ := h
  rw [drop_at hk] at h1 h2
  rw [run_el hb] at h1
  rw [wt_cons] at h2
  refine ⟨h1, ?_⟩
  rw [wt_append, wt_cons, wt_nil]; omega
theorem going_up0 {xs out0 : List (List UInt8)} {k : Nat} (h : Going xs out0 [] k) (hk : xs[k]? = some [46, 46]) : run out0 xs = none := by
  rw [← h.1, drop_at hk, run_up0]
theorem going_bad {xs out0 out : List (List UInt8)} {k : Nat} {b : List UInt8} (h : Going xs out0 out k) (hk : xs[k]? = some b) (h1 : b ≠ []) (h2 : b ≠ [46]) (h3 : b ≠ [46, 46]) (hb : elt b = false) : run out0 xs = none := by
  rw [← h.1, drop_at hk, run_bad h1 h2 h3 hb]
theorem going_end {xs out0 out : List (List UInt8)} {k : Nat} (h : Going xs out0 out k) (hk : xs.length ≤ k) : run out0 xs = some out := by
  rw [← h.1, List.drop_of_length_le hk]; rfl
theorem going_wt {xs out0 out : List (List UInt8)} {k : Nat} (h : Going xs out0 out k) : wt out ≤ wt out0 + wt xs := by have := h.2; omega

/-- A text's own beginning: the elements of the directory, unless it begins with a slash. -/
def bgn (work text : List UInt8) : List (List UInt8) := if text.head? = some 47 then [] else prt work
def fin : Option (List (List UInt8)) → Option (List UInt8)
  | none => none
  | some out => if isP (Lib.join out [47]) = true then some (Lib.join out [47]) else none
def res (work text : List UInt8) : Option (List UInt8) := fin (run [] (bgn work text ++ spl text))
def resP (work text : List UInt8) : Option (List UInt8) := if isP work = true then fin (run (bgn work text) (spl text)) else none

theorem res_same {work text : List UInt8} (h : isP work = true) : resP work text = res work text := by
  unfold resP res
  rw [if_pos h]
  congr 1
  unfold bgn
  split
  · simp
  · have : (prt work).all elt = true := by
      simp only [isP, Bool.and_eq_true] at h; exact h.2
    rw [run_all this]; simp
end Go.Proofs.YtdhnmilifbobiaaDoor
