import Derived.Test.YtkikhmleffcajaaGreatDoorTpA
namespace Go.Proofs.YtkikhmleffcajaaGreatDoor
open Go.RowKit Go.Maps

/-- What an atom weighs in a form, and atoms. -/
def wtA : Atm → Nat
  | .inl _ => 5
  | .inr (n, _) => 2 * n.length + 3
def wtL (xs : List Atm) : Nat := (xs.map wtA).sum
theorem wtL_snoc (xs : List Atm) (a : Atm) : wtL (xs ++ [a]) = wtL xs + wtA a := by simp [wtL]
theorem szP_one (p : Prt) : szP [p] = 2 * p.text.size + 3 := by simp [szP]
theorem szP_parts (xs : List Atm) : szP (parts xs) ≤ wtL xs := by
  induction xs using rev_ind with
  | h0 => simp [parts, szP, wtL]
  | h1 xs a ih =>
    rw [parts_snoc, wtL_snoc]
    cases a with
    | inr pA =>
      obtain ⟨n, k⟩ := pA
      show szP (parts xs ++ [⟨bt n, true, (k : Int)⟩]) ≤ wtL xs + (2 * n.length + 3)
      rw [szP_app, szP_one, bt_size]
      omega
    | inl c =>
      show szP (addT (parts xs) (bt [c])) ≤ wtL xs + 5
      have hb : (bt [c]).size = 1 := bt_size [c]
      rcases last_cases (parts xs) with hc | ⟨qs, q, he, hq⟩
      · rw [addT_new (by
          rintro q hq
          rcases hc with h | ⟨qs, r, h, hr⟩
          · rw [h] at hq; cases hq
          · rw [h] at hq; simp at hq; subst hq; exact hr), szP_app, szP_one]
        simp only
        omega
      · rw [he] at ih ⊢
        rw [addT_on hq]
        rw [szP_app, szP_one] at ih ⊢
        simp only [ByteArray.size_append]
        omega
theorem var_wt {l : List UInt8} {k t : Nat} {n : List UInt8} (h : varG l k = some (n, t)) (_ : k < t) : 2 * n.length + 3 ≤ 5 * (t - k) := by
  unfold varG at h
  simp only at h
  split at h
  · split at h
    · cases h
    · injection h with h
      injection h with h1 h2
      have hl : n.length ≤ nameN (l.drop (k + 2)) := by rw [← h1, List.length_take]; omega
      omega
  · split at h
    · cases h
    · injection h with h
      injection h with h1 h2
      have hl : n.length ≤ nameN (l.drop (k + 1)) := by rw [← h1, List.length_take]; omega
      omega
theorem quo_wt (l : List UInt8) (i n : Nat) : ∀ (k : Nat) (acc a : List Atm) (t : Nat), l.length - k ≤ n → quoG l i acc k = .ok (a, t) → k < t ∧ wtL a ≤ wtL acc + 5 * (t - k) := by
  induction n with
  | zero =>
    intro k acc a t hn h
    rw [quo_none (List.getElem?_eq_none_iff.2 (by omega))] at h
    cases h
  | succ n ih =>
    intro k acc a t hn h
    cases hc : l[k]? with
    | none => rw [quo_none hc] at h; cases h
    | some c =>
      have hlt := (List.getElem?_eq_some_iff.1 hc).1
      rw [quo_some hc] at h
      split at h
      · cases h
      · split at h
        · injection h with h; injection h with h1 h2; subst h1 h2; exact ⟨by omega, by omega⟩
        · split at h
          · split at h
            · cases h
            · rename_i m u hv
              split at h
              · rename_i hu
                have := ih _ _ _ _ (by omega) h
                have hw := var_wt hv hu
                rw [wtL_snoc] at this
                have hA : wtA (.inr (m, k)) = 2 * m.length + 3 := rfl
                exact ⟨by omega, by omega⟩
              · cases h
          · split at h
            · split at h
              · cases h
              · split at h
                · have := ih _ _ _ _ (by omega) h
                  rw [wtL_snoc] at this
                  rename_i d _ _
                  have hA : wtA (.inl d) = 5 := rfl
                  exact ⟨by omega, by omega⟩
                · cases h
            · have := ih _ _ _ _ (by omega) h
              rw [wtL_snoc] at this
              have hA : wtA (.inl c) = 5 := rfl
              exact ⟨by omega, by omega⟩
theorem wrd_wt (l : List UInt8) (n : Nat) : ∀ (k : Nat) (acc a : List Atm) (t : Nat), l.length - k ≤ n → wrdG l acc k = .ok (a, t) → k ≤ t ∧ wtL a ≤ wtL acc + 5 * (t - k) := by
  induction n with
  | zero =>
    intro k acc a t hn h
    rw [wrd_end (end_none (List.getElem?_eq_none_iff.2 (by omega)))] at h
    injection h with h; injection h with h1 h2; subst h1 h2; exact ⟨by omega, by omega⟩
  | succ n ih =>
    intro k acc a t hn h
    cases he : endG l k with
    | true => rw [wrd_end he] at h; injection h with h; injection h with h1 h2; subst h1 h2; exact ⟨by omega, by omega⟩
    | false =>
      cases hc : l[k]? with
      | none => rw [end_none hc] at he; cases he
      | some c =>
        have hlt := (List.getElem?_eq_some_iff.1 hc).1
        rw [wrd_some hc he] at h
        split at h
        · split at h
          · cases h
          · rename_i b u hq
            have hqw := quo_wt l k _ _ _ _ _ (Nat.le_refl _) hq
            split at h
            · have := ih _ _ _ _ (by omega) h
              exact ⟨by omega, by omega⟩
            · cases h
        · split at h
          · split at h
            · cases h
            · rename_i m u hv
              split at h
              · rename_i hu
                have := ih _ _ _ _ (by omega) h
                have hw := var_wt hv hu
                rw [wtL_snoc] at this
                have hA : wtA (.inr (m, k)) = 2 * m.length + 3 := rfl
                exact ⟨by omega, by omega⟩
              · cases h
          · split at h
            · split at h
              · cases h
              · rename_i d _
                have := ih _ _ _ _ (by omega) h
                rw [wtL_snoc] at this
                have hA : wtA (.inl d) = 5 := rfl
                exact ⟨by omega, by omega⟩
            · have := ih _ _ _ _ (by omega) h
              rw [wtL_snoc] at this
              have hA : wtA (.inl c) = 5 := rfl
              exact ⟨by omega, by omega⟩
/-- What words weigh. -/
def wtW (ws : List Wd) : Nat := (ws.map fun x => wtL x.atoms + 3).sum
theorem wtW_snoc (ws : List Wd) (x : Wd) : wtW (ws ++ [x]) = wtW ws + (wtL x.atoms + 3) := by simp [wtW]
theorem szI_wt (ws : List Wd) : szI (ws.map Wd.atoms) ≤ wtW ws := by
  induction ws with
  | nil => simp [szI, wtW]
  | cons a r ih =>
    have h1 : szI ((a :: r).map Wd.atoms) = szP (parts a.atoms) + 3 + szI (r.map Wd.atoms) := by simp [szI]
    have h2 : wtW (a :: r) = wtL a.atoms + 3 + wtW r := by simp [wtW]
    rw [h1, h2]
    have := szP_parts a.atoms
    omega
theorem lin_wt (l : List UInt8) (n : Nat) : ∀ (k : Nat) (ws ws' : List Wd) (t : Nat), l.length - k ≤ n → linG l ws k = .ok (ws', t) → k ≤ t ∧ wtW ws' ≤ wtW ws + 8 * (t - k) := by
  induction n with
  | zero =>
    intro k ws ws' t hn h
    rw [lin_none (List.getElem?_eq_none_iff.2 (by omega))] at h
    injection h with h; injection h with h1 h2; subst h1 h2; exact ⟨by omega, by omega⟩
  | succ n ih =>
    intro k ws ws' t hn h
    cases hc : l[k]? with
    | none => rw [lin_none hc] at h; injection h with h; injection h with h1 h2; subst h1 h2; exact ⟨by omega, by omega⟩
    | some c =>
      have hlt := (List.getElem?_eq_some_iff.1 hc).1
      rw [lin_some hc] at h
      split at h
      · injection h with h; injection h with h1 h2; subst h1 h2; exact ⟨by omega, by omega⟩
      · split at h
        · have := ih _ _ _ _ (by omega) h; exact ⟨by omega, by omega⟩
        · split at h
          · have := ih _ _ _ _ (by omega) h; exact ⟨by omega, by omega⟩
          · split at h
            · rename_i h35
              have hcm : k < cmtG l k := cmt_lt (by rw [hc, h35.1])
              have := ih _ _ _ _ (by omega) h; exact ⟨by omega, by omega⟩
            · split at h
              · cases h
              · rename_i a u hw
                have hww := wrd_wt l _ _ _ _ _ (Nat.le_refl _) hw
                split at h
                · have := ih _ _ _ _ (by omega) h
                  rw [wtW_snoc] at this
                  have h0 : wtL ([] : List Atm) = 0 := rfl
                  simp only at this
                  exact ⟨by omega, by omega⟩
                · cases h
theorem szG_snoc (st : List Stg) (s : Stg) : szG (st ++ [s]) = szG st + (s.ins.map fun i => szI (i.ws.map Wd.atoms) + 1).sum := by simp [szG]
theorem from_sz {st st' : List Stg} {ws : List Wd} {k : Int} (h : fromG st ws = .ok (st', k)) : szG st' = szG st := by
  unfold fromG at h
  split at h
  · cases h
  · split at h
    · cases h
    · split at h
      · cases h
      · split at h
        · cases h
        · injection h with h; injection h with h _; rw [← h, szG_snoc]; simp
theorem copy_sz {st st' : List Stg} {ws : List Wd} {k : Int} (h : copyG st ws = .ok (st', k)) : st' = st := by
  unfold copyG at h
  split at h
  · split at h
    · cases h
    · injection h with h; injection h with h _; exact h.symm
  · split at h
    · cases h
    · split at h
      · cases h
      · split at h
        · cases h
        · injection h with h; injection h with h _; exact h.symm
theorem read_sz {op : Nat} {st st' : List Stg} {ws : List Wd} {k : Int} (h : readG op st ws = .ok (st', k)) : szG st' = szG st := by
  unfold readG at h
  split at h
  · exact from_sz h
  · rw [copy_sz h]
  · split at h
    · injection h with h; injection h with h _; rw [h]
    · split at h
      · split at h
        · injection h with h; injection h with h _; rw [h]
        · cases h
      · cases h
  · split at h
    · split at h
      · injection h with h; injection h with h _; rw [h]
      · cases h
    · cases h
  · injection h with h; injection h with h _; rw [h]
theorem add_sz (st : List Stg) (i : Ins) : szG (addIns st i) ≤ szG st + (szI (i.ws.map Wd.atoms) + 1) := by
  unfold addIns
  cases hl : st.getLast? with
  | none => simp only; omega
  | some s =>
    have hst : st = st.dropLast ++ [s] := by
      have hne : st ≠ [] := by rintro rfl; cases hl
      have h1 := List.dropLast_concat_getLast hne
      rw [List.getLast?_eq_some_getLast hne] at hl
      injection hl with hl
      rw [hl] at h1
      exact h1.symm
    simp only
    have h2 : szG st = szG st.dropLast + (s.ins.map fun i => szI (i.ws.map Wd.atoms) + 1).sum := by
      conv => lhs; rw [hst]
      exact szG_snoc _ _
    rw [szG_snoc, h2]
    simp
    omega
theorem take_sz {st st' : List Stg} {ws : List Wd} (h : takeG st ws = .ok st') : szG st' ≤ szG st + (wtW ws + 1) := by
  unfold takeG at h
  split at h
  · cases h
  · split at h
    · cases h
    · split at h
      · cases h
      · rename_i st1 k hr
        split at h
        · cases h
        · split at h
          · cases h
          · injection h with h
            have h1 := add_sz st1 ⟨ws, k⟩
            rw [h] at h1
            have h2 := read_sz hr
            have h3 := szI_wt ws
            simp only at h1
            omega
theorem var_le {l : List UInt8} {k t : Nat} {n : List UInt8} (h : varG l k = some (n, t)) : t ≤ l.length := by
  unfold varG at h
  simp only at h
  split at h
  · rename_i hb
    split at h
    · cases h
    · rename_i hn
      injection h with h
      injection h with h1 h2
      have h3 := nameN_le (l.drop (k + 2))
      rw [List.length_drop] at h3
      have h4 : l[k + 2 + nameN (l.drop (k + 2))]? = some 125 := by
        refine Classical.byContradiction fun hc => hn (.inr (.inr ⟨hb, hc⟩))
      have h5 := (List.getElem?_eq_some_iff.1 h4).1
      omega
  · split at h
    · cases h
    · rename_i hn
      injection h with h
      injection h with h1 h2
      have h3 := nameN_le (l.drop (k + 1))
      rw [List.length_drop] at h3
      omega
theorem quo_le (l : List UInt8) (i n : Nat) : ∀ (k : Nat) (acc a : List Atm) (t : Nat), l.length - k ≤ n → quoG l i acc k = .ok (a, t) → t ≤ l.length := by
  induction n with
  | zero =>
    intro k acc a t hn h
    rw [quo_none (List.getElem?_eq_none_iff.2 (by omega))] at h
    cases h
  | succ n ih =>
    intro k acc a t hn h
    cases hc : l[k]? with
    | none => rw [quo_none hc] at h; cases h
    | some c =>
      have hlt := (List.getElem?_eq_some_iff.1 hc).1
      rw [quo_some hc] at h
      split at h
      · cases h
      · split at h
        · injection h with h; injection h with h1 h2; subst h1 h2; omega
        · split at h
          · split at h
            · cases h
            · rename_i m u hv
              split at h
              · rename_i hu
                exact ih _ _ _ _ (by omega) h
              · cases h
          · split at h
            · split at h
              · cases h
              · split at h
                · exact ih _ _ _ _ (by omega) h
                · cases h
            · exact ih _ _ _ _ (by omega) h
theorem wrd_le (l : List UInt8) (n : Nat) : ∀ (k : Nat) (acc a : List Atm) (t : Nat), k ≤ l.length → l.length - k ≤ n → wrdG l acc k = .ok (a, t) → t ≤ l.length := by
  induction n with
  | zero =>
    intro k acc a t hkl hn h
    rw [wrd_end (end_none (List.getElem?_eq_none_iff.2 (by omega)))] at h
    injection h with h; injection h with h1 h2; subst h1 h2; exact hkl
  | succ n ih =>
    intro k acc a t hkl hn h
    cases he : endG l k with
    | true => rw [wrd_end he] at h; injection h with h; injection h with h1 h2; subst h1 h2; exact hkl
    | false =>
      cases hc : l[k]? with
      | none => rw [end_none hc] at he; cases he
      | some c =>
        have hlt := (List.getElem?_eq_some_iff.1 hc).1
        rw [wrd_some hc he] at h
        split at h
        · split at h
          · cases h
          · rename_i b u hq
            have hql := quo_le l k _ _ _ _ _ (Nat.le_refl _) hq
            split at h
            · exact ih _ _ _ _ hql (by omega) h
            · cases h
        · split at h
          · split at h
            · cases h
            · rename_i m u hv
              split at h
              · exact ih _ _ _ _ (var_le hv) (by omega) h
              · cases h
          · split at h
            · split at h
              · cases h
              · rename_i d hd
                have hd2 := (List.getElem?_eq_some_iff.1 hd).1
                exact ih _ _ _ _ (by omega) (by omega) h
            · exact ih _ _ _ _ (by omega) (by omega) h
theorem lin_le (l : List UInt8) (n : Nat) : ∀ (k : Nat) (ws ws' : List Wd) (t : Nat), k ≤ l.length → l.length - k ≤ n → linG l ws k = .ok (ws', t) → t ≤ l.length := by
  induction n with
  | zero =>
    intro k ws ws' t hkl hn h
    rw [lin_none (List.getElem?_eq_none_iff.2 (by omega))] at h
    injection h with h; injection h with h1 h2; subst h1 h2; exact hkl
  | succ n ih =>
    intro k ws ws' t hkl hn h
    cases hc : l[k]? with
    | none => rw [lin_none hc] at h; injection h with h; injection h with h1 h2; subst h1 h2; exact hkl
    | some c =>
      have hlt := (List.getElem?_eq_some_iff.1 hc).1
      rw [lin_some hc] at h
      split at h
      · injection h with h; injection h with h1 h2; subst h1 h2; omega
      · split at h
        · rename_i hg
          have hg2 : k + 1 < l.length := by
            unfold goesG at hg
            simp only [Bool.and_eq_true, beq_iff_eq] at hg
            exact (List.getElem?_eq_some_iff.1 hg.2).1
          exact ih _ _ _ _ (by omega) (by omega) h
        · split at h
          · exact ih _ _ _ _ (by omega) (by omega) h
          · split at h
            · rename_i h35
              have hcm : k < cmtG l k := cmt_lt (by rw [hc, h35.1])
              exact ih _ _ _ _ (cmt_len hkl) (by omega) h
            · split at h
              · cases h
              · rename_i a u hw
                have hwl := wrd_le l _ _ _ _ _ hkl (Nat.le_refl _) hw
                split at h
                · exact ih _ _ _ _ hwl (by omega) h
                · cases h
theorem file_sz (l : List UInt8) (n : Nat) : ∀ (k : Nat) (st st' : List Stg), l.length - k ≤ n → fileG l st k = .ok st' → szG st' ≤ szG st + 9 * (l.length - k) := by
  induction n with
  | zero =>
    intro k st st' hn h
    rw [file_end (by omega)] at h
    split at h
    · cases h
    · injection h with h; subst h; omega
  | succ n ih =>
    intro k st st' hn h
    by_cases hk : k < l.length
    · cases hl : linG l [] k with
      | error e => rw [file_bad hk hl] at h; cases h
      | ok x =>
        obtain ⟨ws, t⟩ := x
        have h1 := lin_wt l _ _ _ _ _ (Nat.le_refl _) hl
        have h2 := lin_le l _ _ _ _ _ (Nat.le_of_lt hk) (Nat.le_refl _) hl
        have h0 : wtW [] = 0 := rfl
        by_cases ht : k < t
        · by_cases hw : ws = []
          · subst hw
            rw [file_none hk hl ht] at h
            have := ih _ _ _ (by omega) h
            omega
          · rw [file_some hk hl ht hw] at h
            cases htk : takeG st ws with
            | error e => rw [htk] at h; cases h
            | ok st1 =>
              rw [htk] at h
              have h3 := take_sz htk
              have := ih _ _ _ (by omega) h
              omega
        · rw [fileG, if_pos hk, hl] at h
          simp only at h
          rw [dif_neg ht] at h
          cases h
    · rw [file_end hk] at h
      split at h
      · cases h
      · injection h with h; subst h; omega
theorem parse_sz {l : List UInt8} {st : List Stg} (h : parseG l = .ok st) : szG st ≤ 13500 := by
  unfold parseG at h
  split at h
  · cases h
  · split at h
    · cases h
    · have := file_sz l _ _ _ _ (Nat.le_refl _) h
      have h0 : szG [] = 0 := rfl
      omega
end Go.Proofs.YtkikhmleffcajaaGreatDoor
