import Derived.Lib.SlicesCompact
namespace Go.Proofs.YtkeefkfklmhcjaaGreatDoor
open Go

/-- A strict total order. -/
structure Tot {α : Type} (lt : α → α → Bool) : Prop where
  irr : ∀ x, lt x x = false
  trans : ∀ {x y z}, lt x y = true → lt y z = true → lt x z = true
  one : ∀ {x y}, lt x y = false → lt y x = false → x = y

theorem rising_one {α : Type} {lt : α → α → Bool} (h : Tot lt) : ∀ {l m : List α}, l.Pairwise (fun x y => lt x y = true) → m.Pairwise (fun x y => lt x y = true) → (∀ x, x ∈ l ↔ x ∈ m) → l = m
  | [], [], _, _, _ => rfl
  | [], y :: m, _, _, hm => absurd ((hm y).2 (by simp)) (by simp)
  | x :: l, [], _, _, hm => absurd ((hm x).1 (by simp)) (by simp)
  | x :: l, y :: m, hl, hm, he => by
    rw [List.pairwise_cons] at hl hm
    have no : ∀ {a b}, lt a b = true → lt b a = true → False := fun h1 h2 => by
      have := h.trans h1 h2; rw [h.irr] at this; cases this
    have e : x = y := by
      have h1 := (he x).1 (by simp)
      have h2 := (he y).2 (by simp)
      rw [List.mem_cons] at h1 h2
      rcases h1 with h1 | h1
      · exact h1
      · rcases h2 with h2 | h2
        · exact h2.symm
        · exact (no (hm.1 x h1) (hl.1 y h2)).elim
    subst e
    refine congrArg (x :: ·) (rising_one h hl.2 hm.2 fun z => ?_)
    have hz := he z
    rw [List.mem_cons, List.mem_cons] at hz
    constructor
    · intro hzl
      rcases hz.1 (.inr hzl) with e | e
      · subst e; have := hl.1 z hzl; rw [h.irr] at this; cases this
      · exact e
    · intro hzm
      rcases hz.2 (.inr hzm) with e | e
      · subst e; have := hm.1 z hzm; rw [h.irr] at this; cases this
      · exact e

theorem compact_upTo {α : Type} [Inhabited α] [DecidableEq α] {lt : α → α → Bool} (h : Tot lt) (zs : List α) (hs : zs.Pairwise fun x y => lt y x = false) :
    ∀ m, m ≤ zs.length → (Lib.compactUpTo zs.toArray m).Pairwise (fun x y => lt x y = true) ∧ (∀ x, x ∈ Lib.compactUpTo zs.toArray m ↔ x ∈ zs.take m)
  | 0, _ => by simp [Lib.compactUpTo]
  | m + 1, hm => by
    obtain ⟨h1, h2⟩ := compact_upTo h zs hs m (by omega)
    have hg : zs[m]? = some zs[m] := List.getElem?_eq_getElem (by omega)
    have hd : zs.toArray[m]! = zs[m] := by rw [getElem!_pos zs.toArray m (by simp; omega)]; simp
    rw [Lib.compactUpTo_succ, hd]
    have hmem : ∀ x, x ∈ zs.take (m + 1) ↔ x ∈ zs.take m ∨ x = zs[m] := fun x => by
      rw [List.take_add_one, hg, List.mem_append]; simp
    by_cases hk : Lib.keeps zs.toArray m = true
    · rw [if_pos hk]
      refine ⟨?_, fun x => by rw [List.mem_append, h2, hmem]; simp⟩
      rw [List.pairwise_append]
      refine ⟨h1, by simp, fun x hx y hy => ?_⟩
      rw [List.mem_singleton] at hy
      subst hy
      rw [h2] at hx
      obtain ⟨j, hj, rfl⟩ := List.getElem_of_mem hx
      rw [List.length_take] at hj
      rw [List.getElem_take]
      have hp := List.pairwise_iff_getElem.1 hs
      cases hl : lt zs[j] zs[m] with
      | true => rfl
      | false =>
        have e := h.one hl (hp j m (by omega) (by omega) (by omega))
        have m0 : m ≠ 0 := by omega
        have e2 : zs[m - 1]'(by omega) = zs[m] := by
          by_cases hj2 : j = m - 1
          · subst hj2; exact e
          · refine h.one ?_ (hp (m - 1) m (by omega) (by omega) (by omega))
            cases hl2 : lt (zs[m - 1]'(by omega)) zs[m] with
            | false => rfl
            | true =>
              have := hp j (m - 1) (by omega) (by omega) (by omega)
              rw [e, hl2] at this
              cases this
        have hd2 : zs.toArray[m - 1]! = zs[m - 1]'(by omega) := by rw [getElem!_pos zs.toArray (m - 1) (by simp; omega)]; simp
        simp only [Lib.keeps, hd, hd2, e2] at hk
        simp [m0] at hk
    · rw [if_neg hk, List.append_nil]
      refine ⟨h1, fun x => ?_⟩
      rw [h2, hmem]
      constructor
      · exact .inl
      · rintro (hx | rfl)
        · exact hx
        · have m0 : m ≠ 0 := by rintro rfl; simp [Lib.keeps] at hk
          have hd2 : zs.toArray[m - 1]! = zs[m - 1]'(by omega) := by rw [getElem!_pos zs.toArray (m - 1) (by simp; omega)]; simp
          simp only [Lib.keeps, hd, hd2] at hk
          have e2 : zs[m] = zs[m - 1]'(by omega) := by
            by_cases e : zs[m] = zs[m - 1]'(by omega)
            · exact e
            · simp [m0, e] at hk
          rw [e2]
          refine List.mem_iff_getElem.2 ⟨m - 1, by rw [List.length_take]; omega, by rw [List.getElem_take]⟩
theorem compact_rising {α : Type} [Inhabited α] [DecidableEq α] {lt : α → α → Bool} (h : Tot lt) (zs : List α) (hs : zs.Pairwise fun x y => lt y x = false) :
    (Lib.compact zs).Pairwise (fun x y => lt x y = true) ∧ ∀ x, x ∈ Lib.compact zs ↔ x ∈ zs := by
  have := compact_upTo h zs hs zs.length (Nat.le_refl _)
  rw [List.take_length] at this
  exact this
theorem sort_rising {α : Type} {lt : α → α → Bool} (h : Tot lt) (l : List α) : (l.mergeSort fun x y => !lt y x).Pairwise fun x y => lt y x = false := by
  have := List.pairwise_mergeSort (le := fun x y => !lt y x) (fun a b c h1 h2 => by
    simp only [Bool.not_eq_true'] at h1 h2 ⊢
    cases hc : lt c a with
    | false => rfl
    | true =>
      cases h3 : lt b c with
      | true => have := h.trans h3 hc; rw [h1] at this; cases this
      | false =>
        have := h.one h3 h2
        subst this
        rw [hc] at h1; cases h1) (fun a b => by
    cases h1 : lt b a <;> cases h2 : lt a b <;> simp
    have := h.trans h1 h2; rw [h.irr] at this; cases this) l
  exact this.imp (fun {x y} hxy => by simpa using hxy)
end Go.Proofs.YtkeefkfklmhcjaaGreatDoor
