import Derived.Test.YtkikhmleffcajaaGreatDoorJBfA
import Derived.Test.YtkikhmleffcajaaGreatDoorBfT
namespace Go.Proofs.YtkikhmleffcajaaGreatDoor
open Go.RowKit Go.Maps

/-- Does a stage begin with another one, or copy from it? -/
def wantG (st : List Stg) (i k : Nat) : Bool := match st[i]? with
  | some s => s.ins.any fun x => x.stage == (k : Int)
  | none => false
/-- The stages that are needed. -/
def Need (st : List Stg) (n : Nat) : Prop := ∀ P : Nat → Prop, P (st.length - 1) → (∀ i k, P i → wantG st i k = true → P k) → P n
theorem Need.last {st : List Stg} : Need st (st.length - 1) := fun _ h _ => h
theorem Need.more {st : List Stg} {i k : Nat} (h : Need st i) (w : wantG st i k = true) : Need st k := fun P a b => b i k (h P a b) w
theorem Need.el {st : List Stg} {motive : ∀ n, Need st n → Prop} (last : motive _ .last) (more : ∀ {i k : Nat} (h : Need st i) (w : wantG st i k = true), motive i h → motive k (.more h w)) {n : Nat} (t : Need st n) : motive n t := by
  obtain ⟨_, h⟩ := t (fun k => ∃ h : Need st k, motive k h) ⟨_, last⟩ (fun i k ⟨h, m⟩ w => ⟨_, more h w m⟩)
  exact h
/-- What is marked of the stages. -/
structure Marks (st : List Stg) (bs : List Bool) : Prop where
  len : bs.length = st.length
  iff : ∀ k, bs[k]? = some true ↔ Need st k
theorem Marks.one {st : List Stg} {a b : List Bool} (ha : Marks st a) (hb : Marks st b) : a = b := by
  apply List.ext_getElem?
  intro k
  have h : a[k]? = some true ↔ b[k]? = some true := (ha.iff k).trans (hb.iff k).symm
  by_cases hk : k < st.length
  · have h1 := List.getElem?_eq_getElem (l := a) (by rw [ha.len]; exact hk)
    have h2 := List.getElem?_eq_getElem (l := b) (by rw [hb.len]; exact hk)
    rw [h1, h2] at h ⊢
    simp only [Option.some.injEq] at h ⊢
    rw [Bool.eq_iff_iff]; exact h
  · rw [List.getElem?_eq_none_iff.2 (by rw [ha.len]; omega), List.getElem?_eq_none_iff.2 (by rw [hb.len]; omega)]
/-- A set of stages that holds the last one and is closed holds all that are needed. -/
theorem Marks.of {st : List Stg} {bs : List Bool} (hl : bs.length = st.length) (hs : ∀ k, bs[k]? = some true → Need st k) (h0 : bs[st.length - 1]? = some true) (hc : ∀ i k, bs[i]? = some true → wantG st i k = true → bs[k]? = some true) : Marks st bs :=
  ⟨hl, fun k => ⟨hs k, fun h => by
    induction h using Need.el with
    | last => exact h0
    | more _ hw ih => exact hc _ _ ih hw⟩⟩
/-- The numbers of what is marked, rising. -/
def idxB (bs : List Bool) (n : Nat) : List Nat := (List.range n).filter fun k => bs[k]? == some true
theorem idxB_more {bs : List Bool} {n : Nat} (h : bs[n]? = some true) : idxB bs (n + 1) = idxB bs n ++ [n] := by
  unfold idxB
  rw [List.range_succ, List.filter_append]
  simp [h]
theorem idxB_skip {bs : List Bool} {n : Nat} (h : ¬ bs[n]? = some true) : idxB bs (n + 1) = idxB bs n := by
  unfold idxB
  rw [List.range_succ, List.filter_append]
  simp [h]
theorem idxB_len (bs : List Bool) (n : Nat) : (idxB bs n).length ≤ n := by
  have := List.length_filter_le (fun k => bs[k]? == some true) (List.range n)
  rw [List.length_range] at this; exact this
theorem set_true {bs : List Bool} {k i : Nat} (h : (bs.set k true)[i]? = some true) : i = k ∨ bs[i]? = some true := by
  rw [List.getElem?_set] at h
  split at h
  · rename_i e; exact .inl e.symm
  · exact .inr h
theorem set_keep {bs : List Bool} {k i : Nat} (h : bs[i]? = some true) : (bs.set k true)[i]? = some true := by
  rw [List.getElem?_set]
  split
  · rename_i e; subst e
    rw [if_pos (List.getElem?_eq_some_iff.1 h).1]
  · exact h
theorem set_here {bs : List Bool} {k : Nat} (h : k < bs.length) : (bs.set k true)[k]? = some true := by
  rw [List.getElem?_set_self h]
theorem want_mem {st : List Stg} {i k : Nat} {s : Stg} {x : Ins} (hs : st[i]? = some s) (hx : x ∈ s.ins) (he : x.stage = (k : Int)) : wantG st i k = true := by
  unfold wantG
  rw [hs]
  exact List.any_eq_true.2 ⟨x, hx, by simp [he]⟩
theorem want_some {st : List Stg} {i k : Nat} (h : wantG st i k = true) : ∃ s x, st[i]? = some s ∧ x ∈ s.ins ∧ x.stage = (k : Int) := by
  unfold wantG at h
  cases hs : st[i]? with
  | none => rw [hs] at h; cases h
  | some s =>
    rw [hs] at h
    obtain ⟨x, hx, he⟩ := List.any_eq_true.1 h
    exact ⟨s, x, rfl, hx, by simpa using he⟩
end Go.Proofs.YtkikhmleffcajaaGreatDoor

namespace Go.Proofs.YtkikhmleffcajaaGreatDoor
open Go.RowKit Go.Maps

/-- A stage names only those ahead of it. -/
def Fwd (st : List Stg) : Prop := ∀ (i : Nat) (s : Stg), st[i]? = some s → ∀ x ∈ s.ins, -1 ≤ x.stage ∧ x.stage < (i : Int)
theorem Fwd.snoc {st : List Stg} {nm : List UInt8} (h : Fwd st) : Fwd (st ++ [⟨nm, []⟩]) := fun i s hi x hx => by
  rw [List.getElem?_append] at hi
  split at hi
  · exact h i s hi x hx
  · have := List.mem_of_getElem? hi
    rw [List.mem_singleton] at this
    subst this
    cases hx
theorem find_lt (st : List Stg) (nm : List UInt8) : -1 ≤ findG st nm ∧ findG st nm < (st.length : Int) := by
  unfold findG
  cases h : st.findIdx? (fun s => s.name == nm) with
  | none => simp only; omega
  | some i =>
    obtain ⟨hlt, _⟩ := List.findIdx?_eq_some_iff_getElem.1 h
    simp only; omega
theorem Fwd.add {st : List Stg} (h : Fwd st) (i : Ins) (h1 : -1 ≤ i.stage) (h2 : i.stage < (st.length : Int) - 1 ∨ i.stage = -1) : Fwd (addIns st i) := by
  unfold addIns
  cases hl : st.getLast? with
  | none => exact h
  | some s =>
    have hne : st ≠ [] := by rintro rfl; cases hl
    have hst : st = st.dropLast ++ [s] := by
      have h1 := List.dropLast_concat_getLast hne
      rw [List.getLast?_eq_some_getLast hne] at hl
      injection hl with hl
      rw [hl] at h1
      exact h1.symm
    have hlen : 0 < st.length := List.length_pos_iff.2 hne
    intro k a hk x hx
    simp only at hk
    rw [List.getElem?_append] at hk
    split at hk
    · exact h k a (by rw [hst, List.getElem?_append_left (by assumption)]; exact hk) x hx
    · have hka := (List.getElem?_eq_some_iff.1 hk).1
      have hm := List.mem_of_getElem? hk
      rw [List.mem_singleton] at hm
      subst hm
      rw [List.length_dropLast] at *
      simp only [List.length_cons, List.length_nil] at hka
      have hkk : k = st.length - 1 := by omega
      rcases List.mem_append.1 hx with hx | hx
      · refine h k s ?_ x hx
        rw [hst, List.getElem?_append_right (by rw [List.length_dropLast]; omega), List.length_dropLast, hkk]
        simp
      · rw [List.mem_singleton] at hx
        subst hx
        exact ⟨h1, by omega⟩
theorem read_fwd {op : Nat} {st st' : List Stg} {ws : List Wd} {k : Int} (h : Fwd st) (hr : readG op st ws = .ok (st', k)) : Fwd st' ∧ -1 ≤ k ∧ (k < (st'.length : Int) - 1 ∨ k = -1) := by
  have hf : ∀ b n, Fwd (st ++ [⟨n, []⟩]) ∧ -1 ≤ (if b = wScratch then (-1 : Int) else findG st b) ∧ ((if b = wScratch then (-1 : Int) else findG st b) < ((st ++ [(⟨n, []⟩ : Stg)]).length : Int) - 1 ∨ (if b = wScratch then (-1 : Int) else findG st b) = -1) := fun b n => by
    have := find_lt st b
    refine ⟨h.snoc, ?_, ?_⟩
    · split <;> omega
    · rw [List.length_append, List.length_singleton]
      split
      · exact .inr rfl
      · exact .inl (by omega)
  unfold readG at hr
  split at hr
  · unfold fromG at hr
    split at hr
    · cases hr
    · rename_i b n _
      split at hr
      · cases hr
      · split at hr
        · cases hr
        · split at hr
          · cases hr
          · injection hr with hr; injection hr with e1 e2; rw [← e1, ← e2]; exact hf b n
  · unfold copyG at hr
    split at hr
    · split at hr
      · cases hr
      · injection hr with hr; injection hr with e1 e2; rw [← e1, ← e2]; exact ⟨h, by omega, .inr rfl⟩
    · rename_i n _
      split at hr
      · cases hr
      · split at hr
        · cases hr
        · split at hr
          · cases hr
          · rename_i hno
            injection hr with hr; injection hr with e1 e2; rw [← e1, ← e2]
            have := find_lt st n
            exact ⟨h, by omega, .inl (by omega)⟩
  · split at hr
    · injection hr with hr; injection hr with e1 e2; rw [← e1, ← e2]; exact ⟨h, by omega, .inr rfl⟩
    · split at hr
      · split at hr
        · injection hr with hr; injection hr with e1 e2; rw [← e1, ← e2]; exact ⟨h, by omega, .inr rfl⟩
        · cases hr
      · cases hr
  · split at hr
    · split at hr
      · injection hr with hr; injection hr with e1 e2; rw [← e1, ← e2]; exact ⟨h, by omega, .inr rfl⟩
      · cases hr
    · cases hr
  · injection hr with hr; injection hr with e1 e2; rw [← e1, ← e2]; exact ⟨h, by omega, .inr rfl⟩
theorem take_fwd {st st' : List Stg} {ws : List Wd} (hf : Fwd st) (h : takeG st ws = .ok st') : Fwd st' := by
  unfold takeG at h
  split at h
  · cases h
  · split at h
    · cases h
    · split at h
      · cases h
      · rename_i st1 k hr
        split at h
        · cases h
        · split at h
          · cases h
          · injection h with h
            obtain ⟨h1, h2, h3⟩ := read_fwd hf hr
            rw [← h]
            exact h1.add _ h2 h3
theorem file_fwd (l : List UInt8) (n : Nat) : ∀ (k : Nat) (st st' : List Stg), l.length - k ≤ n → Fwd st → fileG l st k = .ok st' → Fwd st' ∧ st' ≠ [] := by
  induction n with
  | zero =>
    intro k st st' hn hf h
    rw [file_end (by omega)] at h
    split at h
    · cases h
    · injection h with h; subst h; exact ⟨hf, by assumption⟩
  | succ n ih =>
    intro k st st' hn hf h
    by_cases hk : k < l.length
    · cases hl : linG l [] k with
      | error e => rw [file_bad hk hl] at h; cases h
      | ok x =>
        obtain ⟨ws, t⟩ := x
        by_cases ht : k < t
        · by_cases hw : ws = []
          · subst hw
            rw [file_none hk hl ht] at h
            exact ih _ _ _ (by omega) hf h
          · rw [file_some hk hl ht hw] at h
            cases htk : takeG st ws with
            | error e => rw [htk] at h; cases h
            | ok st1 =>
              rw [htk] at h
              exact ih _ _ _ (by omega) (take_fwd hf htk) h
        · rw [fileG, if_pos hk, hl] at h
          simp only at h
          rw [dif_neg ht] at h
          cases h
    · rw [file_end hk] at h
      split at h
      · cases h
      · injection h with h; subst h; exact ⟨hf, by assumption⟩
theorem parse_fwd {l : List UInt8} {st : List Stg} (h : parseG l = .ok st) : Fwd st ∧ st ≠ [] := by
  unfold parseG at h
  split at h
  · cases h
  · split at h
    · cases h
    · exact file_fwd l _ _ _ _ (Nat.le_refl _) (fun i s hi => by simp at hi) h
/-- What a stage wants lies ahead of it. -/
theorem want_lt {st : List Stg} (h : Fwd st) {i k : Nat} (hw : wantG st i k = true) : k < i := by
  obtain ⟨s, x, hs, hx, he⟩ := want_some hw
  have := (h i s hs x hx).2
  omega
theorem need_lt {st : List Stg} (h : Fwd st) (hne : st ≠ []) {k : Nat} (hn : Need st k) : k < st.length := by
  induction hn using Need.el with
  | last => have := List.length_pos_iff.2 hne; omega
  | more _ hw ih => have := want_lt h hw; omega
end Go.Proofs.YtkikhmleffcajaaGreatDoor
