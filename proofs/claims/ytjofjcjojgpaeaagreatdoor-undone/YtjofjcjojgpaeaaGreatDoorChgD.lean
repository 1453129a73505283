import Derived.Test.YtjofjcjojgpaeaaGreatDoorJChgB
namespace Go.Proofs.YtjofjcjojgpaeaaGreatDoor
open Go.RowKit

theorem ltL_convex : ∀ {x q u : List (List UInt8)} {a : List UInt8}, ltL x q = true → (q = x ++ a :: u ∨ ltL q (x ++ a :: u) = true) → ∃ b v, q = x ++ b :: v
  | [], [], _, _, h, _ => by simp [ltL] at h
  | [], b :: v, _, _, _, _ => ⟨b, v, rfl⟩
  | _ :: _, [], _, _, h, _ => by simp [ltL] at h
  | c :: x, d :: q, u, a, h1, h2 => by
    by_cases hcd : c = d
    · subst hcd
      have h1' : ltL x q = true := by simpa [ltL, bl_irr] using h1
      have h2' : q = x ++ a :: u ∨ ltL q (x ++ a :: u) = true := by
        rcases h2 with h | h
        · left; simpa using h
        · right; simpa [ltL, bl_irr] using h
      obtain ⟨b, v, e⟩ := ltL_convex h1' h2'
      exact ⟨b, v, by rw [e]; rfl⟩
    · have e1 : Op.bytesLess c d = true := by
        have : (c == d) = false := by simp [hcd]
        simpa [ltL, this] using h1
      rcases h2 with h | h
      · exact absurd (by simpa using (List.cons.inj h).1.symm) hcd
      · have : (d == c) = false := by simp [Ne.symm hcd]
        have e2 : Op.bytesLess d c = true := by simpa [ltL, this] using h
        rw [bl_asymm e1] at e2
        cases e2
theorem prefix_under {c d : List UInt8} (hd : d ≠ []) (hc : isP c = true) : Lib.hasPrefix c (d ++ [47]) = true ↔ under d c := by
  rw [Lib.hasPrefix, List.isPrefixOf_iff_prefix]
  constructor
  · rintro ⟨r, rfl⟩
    have hne : d ++ [47] ++ r ≠ [] := by simp
    cases hs : spl r with
    | nil => exact absurd hs (spl_ne r)
    | cons a u =>
      refine ⟨a, u, ?_⟩
      rw [prt_ne hne, prt_ne hd, ← hs, ← spl_app]
      simp
  · rintro ⟨a, u, e⟩
    have hal : ∀ x ∈ a :: u, 47 ∉ x := fun x hx => by
      have h1 : (prt c).all elt = true := by
        simp only [isP, Bool.and_eq_true] at hc
        exact hc.2
      exact (elt_no (List.all_eq_true.1 h1 x (by rw [e]; exact List.mem_append_right _ hx))).1
    refine ⟨Lib.join (a :: u) [47], ?_⟩
    apply prt_inj
    have hne : d ++ [47] ++ Lib.join (a :: u) [47] ≠ [] := by simp
    rw [prt_ne hne, e, prt_ne hd, show d ++ [47] ++ Lib.join (a :: u) [47] = d ++ 47 :: Lib.join (a :: u) [47] from by simp, spl_app, spl_joined (by simp) hal]
/-- Below, in the document's words. -/
def blw (p q : List UInt8) : Bool := if q = [] then p != [] else Lib.hasPrefix p (q ++ [47])
theorem blw_under {p q : List UInt8} (hp : isP p = true) : blw p q = true ↔ under q p := by
  unfold blw
  split
  · next h =>
    subst h
    simp only [bne_iff_ne, ne_eq, under, prt_nil, List.nil_append]
    constructor
    · intro h
      cases hx : prt p with
      | nil => exact absurd hx (prt_some h)
      | cons a u => exact ⟨a, u, rfl⟩
    · rintro ⟨a, u, e⟩ rfl
      simp [prt] at e
  · next h => exact prefix_under h hp
/-- What the document asks of a change beside those ahead of it: none that may hold nothing is above it. -/
def refCh (cs : List Ent) (i : Nat) (c : Ent) : Bool := decide (i < 80) && chOk c && (decide (i = 0) || match cs[i - 1]? with
    | none => false
    | some d => ltP d.path.data.toList c.path.data.toList || (d.path.data.toList == c.path.data.toList && decide (d.kind = 1) && decide (c.kind = 5)))
theorem chOk_path {c : Ent} (h : chOk c = true) : isP c.path.data.toList = true ∧ (c.path.data.toList = [] → c.kind = 5) := by
  unfold chOk at h
  split at h
  · next hk =>
    simp only [Bool.and_eq_true, Bool.not_eq_true', Bool.and_eq_false_iff, decide_eq_false_iff_not] at h
    refine ⟨h.1.1.2, fun e => ?_⟩
    rcases h.1.1.1 with h1 | h1
    · rcases hk with hk | hk
      · exact absurd hk h1
      · exact hk
    · rw [e] at h1; cases h1
  · have h3 := ent_parts h
    exact ⟨h3.2.1, fun e => absurd e h3.1⟩
theorem okCh_parts {cs : List Ent} {i : Nat} {c : Ent} (he : cs[i]? = some c) (h : okCh cs i = true) : chOk c = true ∧ ∀ d, i ≠ 0 → cs[i - 1]? = some d → flw d c = true := by
  rw [okCh_eq he] at h
  simp only [Bool.and_eq_true, Bool.or_eq_true, decide_eq_true_eq] at h
  refine ⟨h.1.2, fun d h0 hd => ?_⟩
  rcases h.2 with h2 | h2
  · exact absurd h2 h0
  · rw [hd] at h2; exact h2
theorem flw_le {d c : Ent} (h : flw d c = true) : d.path.data.toList = c.path.data.toList ∨ ltP d.path.data.toList c.path.data.toList = true := by
  unfold flw at h
  split at h
  · next e => exact .inl e
  · simp only [Bool.and_eq_true] at h; exact .inr h.1
/-- The changes rise. -/
theorem ch_le {cs : List Ent} {n : Nat} (h : ∀ i, i < n → okCh cs i = true) : ∀ (j i : Nat) (d e : Ent), i ≤ j → j < n → cs[i]? = some d → cs[j]? = some e → d.path.data.toList = e.path.data.toList ∨ ltP d.path.data.toList e.path.data.toList = true
  | 0, i, d, e, hij, _, hd, he => by
    have : i = 0 := by omega
    subst this
    rw [hd] at he; cases he; exact .inl rfl
  | j + 1, i, d, e, hij, hj, hd, he => by
    by_cases hij' : i = j + 1
    · subst hij'
      rw [hd] at he; cases he; exact .inl rfl
    · obtain ⟨f, hf⟩ : ∃ f, cs[j]? = some f := ⟨cs[j]'(by have := (List.getElem?_eq_some_iff.1 he).1; omega), List.getElem?_eq_getElem _⟩
      have h1 := ch_le h j i d f (by omega) (by omega) hd hf
      have h2 := flw_le ((okCh_parts he (h (j + 1) hj)).2 f (by omega) hf)
      rcases h1 with h1 | h1 <;> rcases h2 with h2 | h2
      · exact .inl (h1.trans h2)
      · right; rw [h1]; exact h2
      · right; rw [← h2]; exact h1
      · exact .inr (ltL_trans h1 h2)
/-- The last change ahead tells enough. -/
theorem last_tells {cs : List Ent} {i : Nat} {c : Ent} (h : ∀ j, j < i → okCh cs j = true) (he : cs[i]? = some c) (hc : refCh cs i c = true) :
    okCh cs i = true ↔ ∀ k d, k < i → cs[k]? = some d → blw c.path.data.toList d.path.data.toList = true → d.kind = 1 ∨ d.kind = 5 := by
  rw [okCh_eq he]
  unfold refCh at hc
  simp only [Bool.and_eq_true, Bool.or_eq_true, decide_eq_true_eq] at hc
  have hP := (chOk_path hc.1.2).1
  constructor
  · intro h1 k d hk hd hb
    simp only [Bool.and_eq_true, Bool.or_eq_true, decide_eq_true_eq] at h1
    have hd1 := okCh_parts hd (h k hk)
    by_cases hdk : d.kind = 1 ∨ d.kind = 5
    · exact hdk
    · exfalso
      have hd0 : d.path.data.toList ≠ [] := fun e => hdk (.inr ((chOk_path hd1.1).2 e))
      obtain ⟨f, hf⟩ : ∃ f, cs[k + 1]? = some f := ⟨cs[k + 1]'(by have := (List.getElem?_eq_some_iff.1 he).1; omega), List.getElem?_eq_getElem _⟩
      have hfl : flw d f = true := by
        by_cases hki : k + 1 = i
        · subst hki
          rw [he] at hf; cases hf
          rcases h1.2 with h2 | h2
          · omega
          · rw [show k + 1 - 1 = k from rfl, hd] at h2; exact h2
        · exact (okCh_parts hf (h (k + 1) (by omega))).2 d (by omega) hd
      have hfc : f.path.data.toList = c.path.data.toList ∨ ltP f.path.data.toList c.path.data.toList = true := by
        by_cases hki : k + 1 = i
        · subst hki
          rw [he] at hf; cases hf; exact .inl rfl
        · obtain ⟨g, hg⟩ : ∃ g, cs[i - 1]? = some g := ⟨cs[i - 1]'(by have := (List.getElem?_eq_some_iff.1 he).1; omega), List.getElem?_eq_getElem _⟩
          have h3 := ch_le h (i - 1) (k + 1) f g (by omega) (by omega) hf hg
          have h4 : g.path.data.toList = c.path.data.toList ∨ ltP g.path.data.toList c.path.data.toList = true := by
            rcases hc.2 with h5 | h5
            · omega
            · rw [hg] at h5
              simp only [Bool.or_eq_true, Bool.and_eq_true, beq_iff_eq] at h5
              rcases h5 with h5 | h5
              · exact .inr h5
              · exact .inl h5.1.1
          rcases h3 with h3 | h3 <;> rcases h4 with h4 | h4
          · exact .inl (h3.trans h4)
          · right; rw [h3]; exact h4
          · right; rw [← h4]; exact h3
          · exact .inr (ltL_trans h3 h4)
      have hfP : isP f.path.data.toList = true := by
        by_cases hki : k + 1 = i
        · subst hki
          rw [he] at hf; cases hf; exact hP
        · exact (chOk_path (okCh_parts hf (h (k + 1) (by omega))).1).1
      unfold flw at hfl
      split at hfl
      · simp only [Bool.and_eq_true, decide_eq_true_eq] at hfl
        exact hdk (.inl hfl.1)
      · simp only [Bool.and_eq_true, Bool.or_eq_true, decide_eq_true_eq, Bool.not_eq_true'] at hfl
        obtain ⟨a, u, e1⟩ := (blw_under hP).1 hb
        have h6 : ∃ b v, prt f.path.data.toList = prt d.path.data.toList ++ b :: v := ltL_convex hfl.1 (by
          rw [← e1]
          rcases hfc with h7 | h7
          · left; rw [h7]
          · right; exact h7)
        have h8 := (prefix_under hd0 hfP).2 h6
        rcases hfl.2 with h9 | h9
        · exact hdk h9
        · rw [h8] at h9; cases h9
  · intro h1
    simp only [Bool.and_eq_true, Bool.or_eq_true, decide_eq_true_eq]
    refine ⟨hc.1, ?_⟩
    rcases hc.2 with h5 | h5
    · exact .inl h5
    · by_cases h0 : i = 0
      · exact .inl h0
      · right
        obtain ⟨g, hg⟩ : ∃ g, cs[i - 1]? = some g := ⟨cs[i - 1]'(by have := (List.getElem?_eq_some_iff.1 he).1; omega), List.getElem?_eq_getElem _⟩
        rw [hg] at h5 ⊢
        simp only [Bool.or_eq_true, Bool.and_eq_true, beq_iff_eq, decide_eq_true_eq] at h5
        show flw g c = true
        unfold flw
        split
        · next e =>
          rcases h5 with h5 | h5
          · rw [e] at h5
            rw [show ltP c.path.data.toList c.path.data.toList = false from ltL_irr _] at h5
            cases h5
          · simp [h5.1.2, h5.2]
        · next e =>
          rcases h5 with h5 | h5
          · rw [h5, Bool.true_and]
            simp only [Bool.or_eq_true, decide_eq_true_eq, Bool.not_eq_true']
            by_cases hb : Lib.hasPrefix c.path.data.toList (g.path.data.toList ++ [47]) = true
            · left
              refine h1 (i - 1) g (by omega) hg ?_
              by_cases hg0 : g.path.data.toList = []
              · have := chOk_path (okCh_parts hg (h (i - 1) (by omega))).1
                rw [blw, if_pos hg0]
                simp only [bne_iff_ne, ne_eq]
                exact fun e' => e (hg0.trans e'.symm)
              · rw [blw, if_neg hg0]; exact hb
            · right; simpa using hb
          · exact absurd h5.1.1 e
end Go.Proofs.YtjofjcjojgpaeaaGreatDoor
