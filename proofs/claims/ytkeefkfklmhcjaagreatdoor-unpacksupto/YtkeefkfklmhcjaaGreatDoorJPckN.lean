import Derived.Test.YtkeefkfklmhcjaaGreatDoorJTreeP
import Derived.Test.YtkeefkfklmhcjaaGreatDoorPckL
import Derived.Test.YtkeefkfklmhcjaaGreatDoorJChgD
namespace Go.Proofs.YtkeefkfklmhcjaaGreatDoor

theorem getD_left {A B : List UInt8} {i : Nat} (h : i < A.length) : (A ++ B).getD i 0 = A.getD i 0 := by
  rw [List.getD_eq_getElem?_getD, List.getElem?_append_left h, ← List.getD_eq_getElem?_getD]
theorem getD_mid {A B : List UInt8} : (A ++ 47 :: B).getD A.length 0 = 47 := by
  rw [List.getD_eq_getElem?_getD, List.getElem?_append_right (Nat.le_refl _)]; simp
theorem spl_head : ∀ l : List UInt8, ((spl l).headD []).length < l.length → l.getD ((spl l).headD []).length 0 = 47
  | [], h => by simp at h
  | c :: r, h => by
    unfold spl at h ⊢
    by_cases hc : c = 47
    · rw [if_pos hc]; simp [hc]
    · rw [if_neg hc] at h ⊢
      simp only [List.headD_cons, List.length_cons] at h ⊢
      rw [List.getD_cons_succ]
      exact spl_head r (by omega)
/-- Each so many letters in a row hold a slash. -/
def Run (K : Nat) (l : List UInt8) : Prop := ∀ p, p + K ≤ l.length → ∃ i, p ≤ i ∧ i < p + K ∧ l.getD i 0 = 47
theorem run_spl {K : Nat} : ∀ l : List UInt8, (∀ e ∈ spl l, e.length ≤ K) → Run (K + 1) l
  | [], _ => fun p hp => by simp at hp
  | c :: r, h => by
    intro p hp
    cases p with
    | zero =>
      have hm : (spl (c :: r)).headD [] ∈ spl (c :: r) := by
        unfold spl; split <;> simp
      have h1 := h _ hm
      have h2 := spl_head (c :: r) (by omega)
      exact ⟨_, Nat.zero_le _, by omega, h2⟩
    | succ p =>
      have h' : ∀ e ∈ spl r, e.length ≤ K := by
        intro e he
        unfold spl at h
        by_cases hc : c = 47
        · rw [if_pos hc] at h
          exact h e (List.mem_cons_of_mem _ he)
        · rw [if_neg hc] at h
          cases hs : spl r with
          | nil => exact absurd hs (spl_ne r)
          | cons a t =>
            rw [hs] at he h
            rcases List.mem_cons.1 he with rfl | he
            · have := h (c :: e) (by simp)
              simp only [List.length_cons] at this; omega
            · exact h e (List.mem_cons_of_mem _ (by simpa using he))
      obtain ⟨i, i1, i2, i3⟩ := run_spl r h' p (by simp only [List.length_cons] at hp; omega)
      exact ⟨i + 1, by omega, by omega, by rw [List.getD_cons_succ]; exact i3⟩
theorem run_path {l : List UInt8} (h : isP l = true) : Run 61 l := by
  unfold isP at h
  simp only [Bool.and_eq_true, decide_eq_true_eq] at h
  by_cases hl : l = []
  · subst hl; intro p hp; simp at hp
  · rw [prt_ne hl] at h
    refine run_spl (K := 60) l fun e he => ?_
    have h1 := List.all_eq_true.1 h.2 e he
    unfold elt hdr at h1
    simp only [Bool.and_eq_true, Bool.not_eq_true', Bool.or_eq_false_iff, decide_eq_false_iff_not] at h1
    omega
theorem run_more {l : List UInt8} (h : Run 61 l) : Run 69 l := fun p hp => by
  obtain ⟨i, i1, i2, i3⟩ := h p (by omega)
  exact ⟨i, i1, by omega, i3⟩
theorem run_join {A B : List UInt8} (hA : Run 61 A) (hB : B.length ≤ 68) : Run 69 (A ++ 47 :: B) := fun p hp => by
  rw [List.length_append, List.length_cons] at hp
  by_cases h : p + 61 ≤ A.length
  · obtain ⟨i, i1, i2, i3⟩ := hA p h
    exact ⟨i, i1, by omega, by rw [getD_left (by omega)]; exact i3⟩
  · exact ⟨A.length, by omega, by omega, getD_mid⟩
theorem run_dir {l : List UInt8} (h : Run 61 l) : Run 61 (dirOf l) := by
  by_cases hs : 47 ∈ l
  · obtain ⟨a, b, rfl, hb⟩ := last_slash hs
    rw [(dir_at hb).1]
    intro p hp
    obtain ⟨i, i1, i2, i3⟩ := h p (by simp; omega)
    exact ⟨i, i1, i2, by rw [getD_left (by omega)] at i3; exact i3⟩
  · rw [(dir_no hs).1]; intro p hp; simp at hp
theorem name_len {l : List UInt8} (h : isP l = true) : (nameOf l).length ≤ 60 ∧ (dirOf l ≠ [] → (dirOf l).length + 1 + (nameOf l).length = l.length) := by
  have hr := run_path h
  have no_slash : ∀ b : List UInt8, 47 ∉ b → ∀ i, b.getD i 0 ≠ 47 := fun b hb i e => by
    rw [List.getD_eq_getElem?_getD] at e
    cases hi : b[i]? with
    | none => rw [hi] at e; cases e
    | some x => rw [hi] at e; exact hb (by rw [← show x = 47 from e]; exact List.mem_of_getElem? hi)
  by_cases hs : 47 ∈ l
  · obtain ⟨a, b, rfl, hb⟩ := last_slash hs
    rw [(dir_at hb).1, (dir_at hb).2]
    refine ⟨?_, fun _ => by simp; omega⟩
    by_cases hl : b.length ≤ 60
    · exact hl
    · obtain ⟨i, i1, i2, i3⟩ := hr (a.length + 1) (by simp; omega)
      rw [List.getD_eq_getElem?_getD, List.getElem?_append_right (by omega), show i - a.length = (i - a.length - 1) + 1 by omega, List.getElem?_cons_succ, ← List.getD_eq_getElem?_getD] at i3
      exact absurd i3 (no_slash b hb _)
  · rw [(dir_no hs).1, (dir_no hs).2]
    refine ⟨?_, fun h => absurd rfl h⟩
    by_cases hl : l.length ≤ 60
    · exact hl
    · obtain ⟨i, _, _, i3⟩ := hr 0 (by omega)
      exact absurd i3 (no_slash l hs _)
theorem first_slash {n : List UInt8} (hr : Run 69 n) (h1 : 100 < n.length) (h2 : n.length ≤ 183) :
    ∃ i, ((List.range n.length).find? fun i => decide (n.length - 101 ≤ i) && n.getD i 0 == 47) = some i ∧ n.length - 101 ≤ i ∧ i < n.length ∧ i ≤ 155 := by
  obtain ⟨j, j1, j2, j3⟩ := hr (n.length - 101) (by omega)
  have hj : (decide (n.length - 101 ≤ j) && n.getD j 0 == 47) = true := by rw [j3]; simpa using j1
  cases hf : (List.range n.length).find? fun i => decide (n.length - 101 ≤ i) && n.getD i 0 == 47 with
  | none => exact absurd hj (List.find?_eq_none.1 hf j (List.mem_range.2 (by omega)))
  | some i =>
    obtain ⟨p1, k, hk, ek, hb⟩ := List.find?_eq_some_iff_getElem.1 hf
    rw [List.getElem_range] at ek
    subst ek
    rw [Bool.and_eq_true, decide_eq_true_eq] at p1
    refine ⟨k, rfl, p1.1, by simpa using hk, ?_⟩
    by_cases hkj : k ≤ j
    · omega
    · have h3 := hb j (by omega)
      rw [List.getElem_range, hj] at h3
      cases h3
end Go.Proofs.YtkeefkfklmhcjaaGreatDoor

namespace Go.Proofs.YtkeefkfklmhcjaaGreatDoor
open Go.RowKit

theorem run_short {l : List UInt8} (h : l.length ≤ 68) : Run 69 l := fun p hp => by omega
theorem isP_len {l : List UInt8} (h : isP l = true) : l.length ≤ 170 := by
  unfold isP at h
  simp only [Bool.and_eq_true, decide_eq_true_eq] at h
  exact h.1.1
theorem name_run {c : Ent} (h : chOk c = true) : Run 69 (nameL c) ∧ (nameL c).length ≤ 183 := by
  have hp := (chOk_path h).1
  have hl := isP_len hp
  have hr := run_path hp
  unfold nameL
  split
  · exact ⟨run_join hr (by simp), by simp only [List.length_append, List.length_cons, List.length_nil]; omega⟩
  · split
    · have hn := name_len hp
      unfold inL
      split
      · exact ⟨run_short (by simp [whL]; omega), by simp [whL]; omega⟩
      · rename_i hd
        have h2 := hn.2 hd
        exact ⟨run_join (run_dir hr) (by simp [whL]; omega), by simp [whL]; omega⟩
    · split
      · unfold inL
        split
        · exact ⟨run_short (by simp [opqL]), by simp [opqL]⟩
        · exact ⟨run_join hr (by simp [opqL]), by simp only [opqL, List.length_append, List.length_cons, List.length_nil]; omega⟩
      · exact ⟨run_more hr, by omega⟩
theorem part_ok {n : List UInt8} (hr : Run 69 n) (hl : n.length ≤ 183) : (partL n).2.length ≤ 100 ∧ (partL n).1.length ≤ 155 ∧ (n.length ≤ 100 ∨ ∃ i, slashFrom n (n.length - 101) = some i) := by
  unfold partL
  by_cases h : n.length ≤ 100
  · rw [if_pos h]; exact ⟨h, by simp, .inl h⟩
  · rw [if_neg h]
    obtain ⟨i, h1, h2, h3, h4⟩ := first_slash hr (by omega) hl
    have h1' : slashFrom n (n.length - 101) = some i := h1
    rw [h1']
    refine ⟨?_, ?_, .inr ⟨i, rfl⟩⟩
    · simp only [List.length_drop]; omega
    · simp only [List.length_take]; omega
theorem chOk_kind {c : Ent} (h : chOk c = true) : (c.kind = 1 ∨ c.kind = 2 ∨ c.kind = 3 ∨ c.kind = 4 ∨ c.kind = 5) ∧ (0 ≤ c.mode ∧ c.mode ≤ 511) ∧ (c.kind = 3 → c.data.data.toList.length ≤ 100) ∧ c.data.data.toList.length ≤ 4096 ∧ (c.kind = 4 → c.path.data.toList ≠ []) := by
  unfold chOk at h
  by_cases hk : c.kind = 4 ∨ c.kind = 5
  · rw [if_pos hk] at h
    simp only [Bool.and_eq_true, decide_eq_true_eq, Bool.not_eq_true', beq_iff_eq, Bool.and_eq_false_iff, decide_eq_false_iff_not] at h
    obtain ⟨⟨⟨h1, _⟩, h3⟩, h4⟩ := h
    refine ⟨by omega, by omega, fun h => by omega, by rw [h4]; simp, fun h => ?_⟩
    rcases h1 with h1 | h1
    · exact absurd h h1
    · intro e; rw [e] at h1; cases h1
  · rw [if_neg hk] at h
    have hg := (ent_parts h).2.2
    have hm := good_mode hg
    have hkd := good_kind hg
    refine ⟨by omega, hm, fun h3 => ?_, ?_, fun h4 => absurd (Or.inl h4) hk⟩
    · unfold goodE at hg
      rw [if_neg (by omega), if_neg (by omega), if_pos h3] at hg
      simp only [tgt, Bool.and_eq_true, decide_eq_true_eq] at hg
      exact hg.2.2
    · unfold goodE at hg
      split at hg
      · simp only [Bool.and_eq_true, beq_iff_eq] at hg
        rw [hg.2]; simp
      · split at hg
        · simp only [Bool.and_eq_true, decide_eq_true_eq] at hg
          rw [← Lib.size_eq]; exact hg.2
        · split at hg
          · simp only [tgt, Bool.and_eq_true, decide_eq_true_eq] at hg
            omega
          · cases hg
theorem pkg_of {c : Ent} (h : chOk c = true) : PkG c := by
  obtain ⟨hk, hm, h3, hd, h4⟩ := chOk_kind h
  obtain ⟨hr, hl⟩ := name_run h
  obtain ⟨p1, p2, p3⟩ := part_ok hr hl
  have hp := isP_len (chOk_path h).1
  refine ⟨⟨c.mode.toNat, by omega, by omega, by rw [Lib.size_eq]; omega, by rw [Lib.size_eq]; omega, h4, by omega, p1, p2, ?_, ?_⟩, hk, p3⟩
  · unfold linkL
    split
    · rename_i e; exact h3 e
    · simp
  · unfold dataL
    split
    · exact hd
    · simp
theorem all_pkg {cs : List Ent} (h : FirstBadC cs (-1)) : cs.length ≤ 80 ∧ ∀ c ∈ cs, PkG c := by
  rcases h with ⟨_, h⟩ | ⟨i, hi, _⟩
  · refine ⟨allCh_lt h, fun c hc => ?_⟩
    obtain ⟨i, hi, rfl⟩ := List.getElem_of_mem hc
    exact pkg_of (okCh_parts (List.getElem?_eq_getElem hi) (h i hi)).1
  · omega
end Go.Proofs.YtkeefkfklmhcjaaGreatDoor
