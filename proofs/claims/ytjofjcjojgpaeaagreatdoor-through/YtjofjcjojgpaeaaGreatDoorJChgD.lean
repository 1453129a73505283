import Derived.Test.YtjofjcjojgpaeaaGreatDoorJTreeP
import Derived.Test.YtjofjcjojgpaeaaGreatDoorJChgB
import Derived.Test.YtjofjcjojgpaeaaGreatDoorPckL
import Derived.Deep.Cut
import Derived.Deep.CutRange
namespace Go.Proofs.YtjofjcjojgpaeaaGreatDoor

theorem getD_left {A B : List UInt8} {i : Nat} (h : i < A.length) : (A ++ B).getD i 0 = A.getD i 0 := by
  rw [List.getD_eq_getElem?_getD, List.getElem?_append_left h, ← List.getD_eq_getElem?_getD]
theorem getD_mid {A B : List UInt8} : (A ++ 47 :: B).getD A.length 0 = 47 := by
  rw [List.getD_eq_getElem?_getD, List.getElem?_append_right (Nat.le_refl _)]; simp
theorem spl_head : ∀ l : List UInt8, ((spl l).headD []).length < l.length → l.getD ((spl l).headD []).length 0 = 47
  | [], h => by simp at h
  | c :: r, h => by
    unfold spl at h ⊢
    by_cases hc : c = 47
    · rw [if_pos hc]; simp [hc]
    · rw [if_neg hc] at h ⊢
      simp only [List.headD_cons, List.length_cons] at h ⊢
      rw [List.getD_cons_succ]
      exact spl_head r (by omega)
/-- Each so many letters in a row hold a slash. -/
def Run (K : Nat) (l : List UInt8) : Prop := ∀ p, p + K ≤ l.length → ∃ i, p ≤ i ∧ i < p + K ∧ l.getD i 0 = 47
theorem run_spl {K : Nat} : ∀ l : List UInt8, (∀ e ∈ spl l, e.length ≤ K) → Run (K + 1) l
  | [], _ => fun p hp => by simp at hp
  | c :: r, h => by
    intro p hp
    cases p with
    | zero =>
      have hm : (spl (c :: r)).headD [] ∈ spl (c :: r) := by
        unfold spl; split <;> simp
      have h1 := h _ hm
      have h2 := spl_head (c :: r) (by omega)
      exact ⟨_, Nat.zero_le _, by omega, h2⟩
    | succ p =>
      have h' : ∀ e ∈ spl r, e.length ≤ K := by
        intro e he
        unfold spl at h
        by_cases hc : c = 47
        · rw [if_pos hc] at h
          exact h e (List.mem_cons_of_mem _ he)
        · rw [if_neg hc] at h
          cases hs : spl r with
          | nil => exact absurd hs (spl_ne r)
          | cons a t =>
            rw [hs] at he h
            rcases List.mem_cons.1 he with rfl | he
            · have := h (c :: e) (by simp)
              simp only [List.length_cons] at this; omega
            · exact h e (List.mem_cons_of_mem _ (by simpa using he))
      obtain ⟨i, i1, i2, i3⟩ := run_spl r h' p (by simp only [List.length_cons] at hp; omega)
      exact ⟨i + 1, by omega, by omega, by rw [List.getD_cons_succ]; exact i3⟩
theorem run_path {l : List UInt8} (h : isP l = true) : Run 61 l := by
  unfold isP at h
  simp only [Bool.and_eq_true, decide_eq_true_eq] at h
  by_cases hl : l = []
  · subst hl; intro p hp; simp at hp
  · rw [prt_ne hl] at h
    refine run_spl (K := 60) l fun e he => ?_
    have h1 := List.all_eq_true.1 h.2 e he
    unfold elt hdr at h1
    simp only [Bool.and_eq_true, Bool.not_eq_true', Bool.or_eq_false_iff, decide_eq_false_iff_not] at h1
    omega
theorem run_more {l : List UInt8} (h : Run 61 l) : Run 69 l := fun p hp => by
  obtain ⟨i, i1, i2, i3⟩ := h p (by omega)
  exact ⟨i, i1, by omega, i3⟩
theorem run_join {A B : List UInt8} (hA : Run 61 A) (hB : B.length ≤ 68) : Run 69 (A ++ 47 :: B) := fun p hp => by
  rw [List.length_append, List.length_cons] at hp
  by_cases h : p + 61 ≤ A.length
  · obtain ⟨i, i1, i2, i3⟩ := hA p h
    exact ⟨i, i1, by omega, by rw [getD_left (by omega)]; exact i3⟩
  · exact ⟨A.length, by omega, by omega, getD_mid⟩
theorem run_dir {l : List UInt8} (h : Run 61 l) : Run 61 (dirOf l) := by
  by_cases hs : 47 ∈ l
  · obtain ⟨a, b, rfl, hb⟩ := last_slash hs
    rw [(dir_at hb).1]
    intro p hp
    obtain ⟨i, i1, i2, i3⟩ := h p (by simp; omega)
    exact ⟨i, i1, i2, by rw [getD_left (by omega)] at i3; exact i3⟩
  · rw [(dir_no hs).1]; intro p hp; simp at hp
theorem name_len {l : List UInt8} (h : isP l = true) : (nameOf l).length ≤ 60 ∧ (dirOf l ≠ [] → (dirOf l).length + 1 + (nameOf l).length = l.length) := by
  have hr := run_path h
  have no_slash : ∀ b : List UInt8, 47 ∉ b → ∀ i, b.getD i 0 ≠ 47 := fun b hb i e => by
    rw [List.getD_eq_getElem?_getD] at e
    cases hi : b[i]? with
    | none => rw [hi] at e; cases e
    | some x => rw [hi] at e; exact hb (by rw [← show x = 47 from e]; exact List.mem_of_getElem? hi)
  by_cases hs : 47 ∈ l
  · obtain ⟨a, b, rfl, hb⟩ := last_slash hs
    rw [(dir_at hb).1, (dir_at hb).2]
    refine ⟨?_, fun _ => by simp; omega⟩
    by_cases hl : b.length ≤ 60
    · exact hl
    · obtain ⟨i, i1, i2, i3⟩ := hr (a.length + 1) (by simp; omega)
      rw [List.getD_eq_getElem?_getD, List.getElem?_append_right (by omega), show i - a.length = (i - a.length - 1) + 1 by omega, List.getElem?_cons_succ, ← List.getD_eq_getElem?_getD] at i3
      exact absurd i3 (no_slash b hb _)
  · rw [(dir_no hs).1, (dir_no hs).2]
    refine ⟨?_, fun h => absurd rfl h⟩
    by_cases hl : l.length ≤ 60
    · exact hl
    · obtain ⟨i, _, _, i3⟩ := hr 0 (by omega)
      exact absurd i3 (no_slash l hs _)
theorem first_slash {n : List UInt8} (hr : Run 69 n) (h1 : 100 < n.length) (h2 : n.length ≤ 183) :
    ∃ i, ((List.range n.length).find? fun i => decide (n.length - 101 ≤ i) && n.getD i 0 == 47) = some i ∧ n.length - 101 ≤ i ∧ i < n.length ∧ i ≤ 155 := by
  obtain ⟨j, j1, j2, j3⟩ := hr (n.length - 101) (by omega)
  have hj : (decide (n.length - 101 ≤ j) && n.getD j 0 == 47) = true := by rw [j3]; simpa using j1
  cases hf : (List.range n.length).find? fun i => decide (n.length - 101 ≤ i) && n.getD i 0 == 47 with
  | none => exact absurd hj (List.find?_eq_none.1 hf j (List.mem_range.2 (by omega)))
  | some i =>
    obtain ⟨p1, k, hk, ek, hb⟩ := List.find?_eq_some_iff_getElem.1 hf
    rw [List.getElem_range] at ek
    subst ek
    rw [Bool.and_eq_true, decide_eq_true_eq] at p1
    refine ⟨k, rfl, p1.1, by simpa using hk, ?_⟩
    by_cases hkj : k ≤ j
    · omega
    · have h3 := hb j (by omega)
      rw [List.getElem_range, hj] at h3
      cases h3
end Go.Proofs.YtjofjcjojgpaeaaGreatDoor

namespace Go.Proofs.YtjofjcjojgpaeaaGreatDoor
open Go.RowKit

theorem ltL_convex : ∀ {x q u : List (List UInt8)} {a : List UInt8}, ltL x q = true → (q = x ++ a :: u ∨ ltL q (x ++ a :: u) = true) → ∃ b v, q = x ++ b :: v
  | [], [], _, _, h, _ => by simp [ltL] at h
  | [], b :: v, _, _, _, _ => ⟨b, v, rfl⟩
  | _ :: _, [], _, _, h, _ => by simp [ltL] at h
  | c :: x, d :: q, u, a, h1, h2 => by
    by_cases hcd : c = d
    · subst hcd
      have h1' : ltL x q = true := by simpa [ltL, bl_irr] using h1
      have h2' : q = x ++ a :: u ∨ ltL q (x ++ a :: u) = true := by
        rcases h2 with h | h
        · left; simpa using h
        · right; simpa [ltL, bl_irr] using h
      obtain ⟨b, v, e⟩ := ltL_convex h1' h2'
      exact ⟨b, v, by rw [e]; rfl⟩
    · have e1 : Op.bytesLess c d = true := by
        have : (c == d) = false := by simp [hcd]
        simpa [ltL, this] using h1
      rcases h2 with h | h
      · exact absurd (by simpa using (List.cons.inj h).1.symm) hcd
      · have : (d == c) = false := by simp [Ne.symm hcd]
        have e2 : Op.bytesLess d c = true := by simpa [ltL, this] using h
        rw [bl_asymm e1] at e2
        cases e2
theorem prefix_under {c d : List UInt8} (hd : d ≠ []) (hc : isP c = true) : Lib.hasPrefix c (d ++ [47]) = true ↔ under d c := by
  rw [Lib.hasPrefix, List.isPrefixOf_iff_prefix]
  constructor
  · rintro ⟨r, rfl⟩
    have hne : d ++ [47] ++ r ≠ [] := by simp
    cases hs : spl r with
    | nil => exact absurd hs (spl_ne r)
    | cons a u =>
      refine ⟨a, u, ?_⟩
      rw [prt_ne hne, prt_ne hd, ← hs, ← spl_app]
      simp
  · rintro ⟨a, u, e⟩
    have hal : ∀ x ∈ a :: u, 47 ∉ x := fun x hx => by
      have h1 : (prt c).all elt = true := by
        simp only [isP, Bool.and_eq_true] at hc
        exact hc.2
      exact (elt_no (List.all_eq_true.1 h1 x (by rw [e]; exact List.mem_append_right _ hx))).1
    refine ⟨Lib.join (a :: u) [47], ?_⟩
    apply prt_inj
    have hne : d ++ [47] ++ Lib.join (a :: u) [47] ≠ [] := by simp
    rw [prt_ne hne, e, prt_ne hd, show d ++ [47] ++ Lib.join (a :: u) [47] = d ++ 47 :: Lib.join (a :: u) [47] from by simp, spl_app, spl_joined (by simp) hal]
/-- Below, in the document's words. -/
def blw (p q : List UInt8) : Bool := if q = [] then p != [] else Lib.hasPrefix p (q ++ [47])
theorem blw_under {p q : List UInt8} (hp : isP p = true) : blw p q = true ↔ under q p := by
  unfold blw
  split
  · next h =>
    subst h
    simp only [bne_iff_ne, ne_eq, under, prt_nil, List.nil_append]
    constructor
    · intro h
      cases hx : prt p with
      | nil => exact absurd hx (prt_some h)
      | cons a u => exact ⟨a, u, rfl⟩
    · rintro ⟨a, u, e⟩ rfl
      simp [prt] at e
  · next h => exact prefix_under h hp
/-- What the document asks of a change beside those ahead of it: none that may hold nothing is above it. -/
def refCh (cs : List Ent) (i : Nat) (c : Ent) : Bool := decide (i < 80) && chOk c && (decide (i = 0) || match cs[i - 1]? with
    | none => false
    | some d => ltP d.path.data.toList c.path.data.toList || (d.path.data.toList == c.path.data.toList && decide (d.kind = 1) && decide (c.kind = 5)))
theorem chOk_path {c : Ent} (h : chOk c = true) : isP c.path.data.toList = true ∧ (c.path.data.toList = [] → c.kind = 5) := by
  unfold chOk at h
  split at h
  · next hk =>
    simp only [Bool.and_eq_true, Bool.not_eq_true', Bool.and_eq_false_iff, decide_eq_false_iff_not] at h
    refine ⟨h.1.1.2, fun e => ?_⟩
    rcases h.1.1.1 with h1 | h1
    · rcases hk with hk | hk
      · exact absurd hk h1
      · exact hk
    · rw [e] at h1; cases h1
  · have h3 := ent_parts h
    exact ⟨h3.2.1, fun e => absurd e h3.1⟩
theorem okCh_parts {cs : List Ent} {i : Nat} {c : Ent} (he : cs[i]? = some c) (h : okCh cs i = true) : chOk c = true ∧ ∀ d, i ≠ 0 → cs[i - 1]? = some d → flw d c = true := by
  rw [okCh_eq he] at h
  simp only [Bool.and_eq_true, Bool.or_eq_true, decide_eq_true_eq] at h
  refine ⟨h.1.2, fun d h0 hd => ?_⟩
  rcases h.2 with h2 | h2
  · exact absurd h2 h0
  · rw [hd] at h2; exact h2
theorem flw_le {d c : Ent} (h : flw d c = true) : d.path.data.toList = c.path.data.toList ∨ ltP d.path.data.toList c.path.data.toList = true := by
  unfold flw at h
  split at h
  · next e => exact .inl e
  · simp only [Bool.and_eq_true] at h; exact .inr h.1
/-- The changes rise. -/
theorem ch_le {cs : List Ent} {n : Nat} (h : ∀ i, i < n → okCh cs i = true) : ∀ (j i : Nat) (d e : Ent), i ≤ j → j < n → cs[i]? = some d → cs[j]? = some e → d.path.data.toList = e.path.data.toList ∨ ltP d.path.data.toList e.path.data.toList = true
  | 0, i, d, e, hij, _, hd, he => by
    have : i = 0 := by omega
    subst this
    rw [hd] at he; cases he; exact .inl rfl
  | j + 1, i, d, e, hij, hj, hd, he => by
    by_cases hij' : i = j + 1
    · subst hij'
      rw [hd] at he; cases he; exact .inl rfl
    · obtain ⟨f, hf⟩ : ∃ f, cs[j]? = some f := ⟨cs[j]'(by have := (List.getElem?_eq_some_iff.1 he).1; omega), List.getElem?_eq_getElem _⟩
      have h1 := ch_le h j i d f (by omega) (by omega) hd hf
      have h2 := flw_le ((okCh_parts he (h (j + 1) hj)).2 f (by omega) hf)
      rcases h1 with h1 | h1 <;> rcases h2 with h2 | h2
      · exact .inl (h1.trans h2)
      · right; rw [h1]; exact h2
      · right; rw [← h2]; exact h1
      · exact .inr (ltL_trans h1 h2)
/-- The last change ahead tells enough. -/
theorem last_tells {cs : List Ent} {i : Nat} {c : Ent} (h : ∀ j, j < i → okCh cs j = true) (he : cs[i]? = some c) (hc : refCh cs i c = true) :
    okCh cs i = true ↔ ∀ k d, k < i → cs[k]? = some d → blw c.path.data.toList d.path.data.toList = true → d.kind = 1 ∨ d.kind = 5 := by
  rw [okCh_eq he]
  unfold refCh at hc
  simp only [Bool.and_eq_true, Bool.or_eq_true, decide_eq_true_eq] at hc
  have hP := (chOk_path hc.1.2).1
  constructor
  · intro h1 k d hk hd hb
    simp only [Bool.and_eq_true, Bool.or_eq_true, decide_eq_true_eq] at h1
    have hd1 := okCh_parts hd (h k hk)
    by_cases hdk : d.kind = 1 ∨ d.kind = 5
    · exact hdk
    · exfalso
      have hd0 : d.path.data.toList ≠ [] := fun e => hdk (.inr ((chOk_path hd1.1).2 e))
      obtain ⟨f, hf⟩ : ∃ f, cs[k + 1]? = some f := ⟨cs[k + 1]'(by have := (List.getElem?_eq_some_iff.1 he).1; omega), List.getElem?_eq_getElem _⟩
      have hfl : flw d f = true := by
        by_cases hki : k + 1 = i
        · subst hki
          rw [he] at hf; cases hf
          rcases h1.2 with h2 | h2
          · omega
          · rw [show k + 1 - 1 = k from rfl, hd] at h2; exact h2
        · exact (okCh_parts hf (h (k + 1) (by omega))).2 d (by omega) hd
      have hfc : f.path.data.toList = c.path.data.toList ∨ ltP f.path.data.toList c.path.data.toList = true := by
        by_cases hki : k + 1 = i
        · subst hki
          rw [he] at hf; cases hf; exact .inl rfl
        · obtain ⟨g, hg⟩ : ∃ g, cs[i - 1]? = some g := ⟨cs[i - 1]'(by have := (List.getElem?_eq_some_iff.1 he).1; omega), List.getElem?_eq_getElem _⟩
          have h3 := ch_le h (i - 1) (k + 1) f g (by omega) (by omega) hf hg
          have h4 : g.path.data.toList = c.path.data.toList ∨ ltP g.path.data.toList c.path.data.toList = true := by
            rcases hc.2 with h5 | h5
            · omega
            · rw [hg] at h5
              simp only [Bool.or_eq_true, Bool.and_eq_true, beq_iff_eq] at h5
              rcases h5 with h5 | h5
              · exact .inr h5
              · exact .inl h5.1.1
          rcases h3 with h3 | h3 <;> rcases h4 with h4 | h4
          · exact .inl (h3.trans h4)
          · right; rw [h3]; exact h4
          · right; rw [← h4]; exact h3
          · exact .inr (ltL_trans h3 h4)
      have hfP : isP f.path.data.toList = true := by
        by_cases hki : k + 1 = i
        · subst hki
          rw [he] at hf; cases hf; exact hP
        · exact (chOk_path (okCh_parts hf (h (k + 1) (by omega))).1).1
      unfold flw at hfl
      split at hfl
      · simp only [Bool.and_eq_true, decide_eq_true_eq] at hfl
        exact hdk (.inl hfl.1)
      · simp only [Bool.and_eq_true, Bool.or_eq_true, decide_eq_true_eq, Bool.not_eq_true'] at hfl
        obtain ⟨a, u, e1⟩ := (blw_under hP).1 hb
        have h6 : ∃ b v, prt f.path.data.toList = prt d.path.data.toList ++ b :: v := ltL_convex hfl.1 (by
          rw [← e1]
          rcases hfc with h7 | h7
          · left; rw [h7]
          · right; exact h7)
        have h8 := (prefix_under hd0 hfP).2 h6
        rcases hfl.2 with h9 | h9
        · exact hdk h9
        · rw [h8] at h9; cases h9
  · intro h1
    simp only [Bool.and_eq_true, Bool.or_eq_true, decide_eq_true_eq]
    refine ⟨hc.1, ?_⟩
    rcases hc.2 with h5 | h5
    · exact .inl h5
    · by_cases h0 : i = 0
      · exact .inl h0
      · right
        obtain ⟨g, hg⟩ : ∃ g, cs[i - 1]? = some g := ⟨cs[i - 1]'(by have := (List.getElem?_eq_some_iff.1 he).1; omega), List.getElem?_eq_getElem _⟩
        rw [hg] at h5 ⊢
        simp only [Bool.or_eq_true, Bool.and_eq_true, beq_iff_eq, decide_eq_true_eq] at h5
        show flw g c = true
        unfold flw
        split
        · next e =>
          rcases h5 with h5 | h5
          · rw [e] at h5
            rw [show ltP c.path.data.toList c.path.data.toList = false from ltL_irr _] at h5
            cases h5
          · simp [h5.1.2, h5.2]
        · next e =>
          rcases h5 with h5 | h5
          · rw [h5, Bool.true_and]
            simp only [Bool.or_eq_true, decide_eq_true_eq, Bool.not_eq_true']
            by_cases hb : Lib.hasPrefix c.path.data.toList (g.path.data.toList ++ [47]) = true
            · left
              refine h1 (i - 1) g (by omega) hg ?_
              by_cases hg0 : g.path.data.toList = []
              · have := chOk_path (okCh_parts hg (h (i - 1) (by omega))).1
                rw [blw, if_pos hg0]
                simp only [bne_iff_ne, ne_eq]
                exact fun e' => e (hg0.trans e'.symm)
              · rw [blw, if_neg hg0]; exact hb
            · right; simpa using hb
          · exact absurd h5.1.1 e
end Go.Proofs.YtjofjcjojgpaeaaGreatDoor

namespace Go.Proofs.YtjofjcjojgpaeaaGreatDoor
open Go.RowKit

theorem run_short {l : List UInt8} (h : l.length ≤ 68) : Run 69 l := fun p hp => by omega
theorem isP_len {l : List UInt8} (h : isP l = true) : l.length ≤ 170 := by
  unfold isP at h
  simp only [Bool.and_eq_true, decide_eq_true_eq] at h
  exact h.1.1
theorem name_run {c : Ent} (h : chOk c = true) : Run 69 (nameL c) ∧ (nameL c).length ≤ 183 := by
  have hp := (chOk_path h).1
  have hl := isP_len hp
  have hr := run_path hp
  unfold nameL
  split
  · exact ⟨run_join hr (by simp), by simp only [List.length_append, List.length_cons, List.length_nil]; omega⟩
  · split
    · have hn := name_len hp
      unfold inL
      split
      · exact ⟨run_short (by simp [whL]; omega), by simp [whL]; omega⟩
      · rename_i hd
        have h2 := hn.2 hd
        exact ⟨run_join (run_dir hr) (by simp [whL]; omega), by simp [whL]; omega⟩
    · split
      · unfold inL
        split
        · exact ⟨run_short (by simp [opqL]), by simp [opqL]⟩
        · exact ⟨run_join hr (by simp [opqL]), by simp only [opqL, List.length_append, List.length_cons, List.length_nil]; omega⟩
      · exact ⟨run_more hr, by omega⟩
theorem part_ok {n : List UInt8} (hr : Run 69 n) (hl : n.length ≤ 183) : (partL n).2.length ≤ 100 ∧ (partL n).1.length ≤ 155 ∧ (n.length ≤ 100 ∨ ∃ i, slashFrom n (n.length - 101) = some i) := by
  unfold partL
  by_cases h : n.length ≤ 100
  · rw [if_pos h]; exact ⟨h, by simp, .inl h⟩
  · rw [if_neg h]
    obtain ⟨i, h1, h2, h3, h4⟩ := first_slash hr (by omega) hl
    have h1' : slashFrom n (n.length - 101) = some i := h1
    rw [h1']
    refine ⟨?_, ?_, .inr ⟨i, rfl⟩⟩
    · simp only [List.length_drop]; omega
    · simp only [List.length_take]; omega
theorem chOk_kind {c : Ent} (h : chOk c = true) : (c.kind = 1 ∨ c.kind = 2 ∨ c.kind = 3 ∨ c.kind = 4 ∨ c.kind = 5) ∧ (0 ≤ c.mode ∧ c.mode ≤ 511) ∧ (c.kind = 3 → c.data.data.toList.length ≤ 100) ∧ c.data.data.toList.length ≤ 4096 ∧ (c.kind = 4 → c.path.data.toList ≠ []) := by
  unfold chOk at h
  by_cases hk : c.kind = 4 ∨ c.kind = 5
  · rw [if_pos hk] at h
    simp only [Bool.and_eq_true, decide_eq_true_eq, Bool.not_eq_true', beq_iff_eq, Bool.and_eq_false_iff, decide_eq_false_iff_not] at h
    obtain ⟨⟨⟨h1, _⟩, h3⟩, h4⟩ := h
    refine ⟨by omega, by omega, fun h => by omega, by rw [h4]; simp, fun h => ?_⟩
    rcases h1 with h1 | h1
    · exact absurd h h1
    · intro e; rw [e] at h1; cases h1
  · rw [if_neg hk] at h
    have hg := (ent_parts h).2.2
    have hm := good_mode hg
    have hkd := good_kind hg
    refine ⟨by omega, hm, fun h3 => ?_, ?_, fun h4 => absurd (Or.inl h4) hk⟩
    · unfold goodE at hg
      rw [if_neg (by omega), if_neg (by omega), if_pos h3] at hg
      simp only [tgt, Bool.and_eq_true, decide_eq_true_eq] at hg
      exact hg.2.2
    · unfold goodE at hg
      split at hg
      · simp only [Bool.and_eq_true, beq_iff_eq] at hg
        rw [hg.2]; simp
      · split at hg
        · simp only [Bool.and_eq_true, decide_eq_true_eq] at hg
          rw [← Lib.size_eq]; exact hg.2
        · split at hg
          · simp only [tgt, Bool.and_eq_true, decide_eq_true_eq] at hg
            omega
          · cases hg
theorem pkg_of {c : Ent} (h : chOk c = true) : PkG c := by
  obtain ⟨hk, hm, h3, hd, h4⟩ := chOk_kind h
  obtain ⟨hr, hl⟩ := name_run h
  obtain ⟨p1, p2, p3⟩ := part_ok hr hl
  have hp := isP_len (chOk_path h).1
  refine ⟨⟨c.mode.toNat, by omega, by omega, by rw [Lib.size_eq]; omega, by rw [Lib.size_eq]; omega, h4, by omega, p1, p2, ?_, ?_⟩, hk, p3⟩
  · unfold linkL
    split
    · rename_i e; exact h3 e
    · simp
  · unfold dataL
    split
    · exact hd
    · simp
theorem all_pkg {cs : List Ent} (h : FirstBadC cs (-1)) : cs.length ≤ 80 ∧ ∀ c ∈ cs, PkG c := by
  rcases h with ⟨_, h⟩ | ⟨i, hi, _⟩
  · refine ⟨allCh_lt h, fun c hc => ?_⟩
    obtain ⟨i, hi, rfl⟩ := List.getElem_of_mem hc
    exact pkg_of (okCh_parts (List.getElem?_eq_getElem hi) (h i hi)).1
  · omega
end Go.Proofs.YtjofjcjojgpaeaaGreatDoor

namespace Go.Proofs.YtjofjcjojgpaeaaGreatDoor
open Go.RowKit

/-- Is it a mark? -/
def mkF (c : Ent) : Bool := decide (c.kind = 4 ∨ c.kind = 5) && decide (c.mode = 0) && c.data.data.toList == []
theorem chOk_ref (c : Ent) : chOk c = (isP c.path.data.toList && (goodE c || mkF c) && (c.path.data.toList != [] || decide (c.kind = 5))) := by
  unfold chOk mkF entOk
  by_cases hk : c.kind = 4 ∨ c.kind = 5
  · have hg : goodE c = false := by
      cases h : goodE c
      · rfl
      · have := good_kind h; omega
    rw [if_pos hk, hg]
    cases c.path.data.toList with
    | nil =>
      rcases hk with h | h
      · simp [h]
      · simp [h, Bool.and_assoc]
    | cons a l =>
      have e : (a :: l != []) = true := rfl
      simp [hk, e, Bool.and_assoc]
  · rw [if_neg hk]
    have h5 : c.kind ≠ 5 := fun h => hk (.inr h)
    cases c.path.data.toList with
    | nil => simp [h5]
    | cons a l =>
      have e : (a :: l != []) = true := rfl
      simp [hk, e]
theorem isE (s : ByteArray) : s.toList.isEmpty = (s.data.toList == []) := by rw [Lib.toList_data]; cases s.data.toList <;> rfl
theorem cmpT_eq {x y : List (List UInt8)} (h : cmpT x y = 0) : x = y := by
  unfold cmpT at h
  split at h
  · omega
  · split at h
    · assumption
    · omega
theorem cmpT_same (x : List (List UInt8)) : cmpT x x = 0 := by
  unfold cmpT
  rw [ltL_irr]; simp
theorem chain9 {w w1 : World} (h : Below w.heap.size w w1) : Below w.heap.size w w1.drew := ⟨h.os, h.tape, h.output, h.size, h.block⟩
attribute [local go_sem] setCell_drewN alloc_drewN

end Go.Proofs.YtjofjcjojgpaeaaGreatDoor
