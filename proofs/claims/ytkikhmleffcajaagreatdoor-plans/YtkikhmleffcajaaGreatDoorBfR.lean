import Derived.Test.YtkikhmleffcajaaGreatDoorBfQ
namespace Go.Proofs.YtkikhmleffcajaaGreatDoor
open Go.RowKit Go.Maps

/-- What reading an instruction by its rule comes to. -/
def RdOut (w : World) (ev : Ending) (B fb ib : Nat) (sv wv : Value) (ss : List StM) (ws : List WdM) (a b : Int) (f g : Value) (op : Nat) (r : Res (List Stg × Int)) : Prop := match r with
  | .error (e, p) => Wrg w ev e p
  | .ok (st, k) => ev = .returned (.tuple #[]) ∧ ∃ (sv' : Value) (ss' : List StM), FileM w B fb sv' ss' ∧ InB w B ib wv ws k a b f g ∧ st = ss'.map StM.stg ∧ -1 ≤ k ∧ (k < ss.length) ∧
      ((op ≠ 0 ∧ ss' = ss ∧ sv' = sv) ∨ (op = 0 ∧ ∃ un : ByteArray, ss' = ss ++ [(⟨un, .slice none 0 0, []⟩ : StM)]))
theorem from_bound {st st' : List Stg} {ws : List Wd} {k : Int} (h : fromG st ws = .ok (st', k)) : -1 ≤ k ∧ k < st.length := by
  unfold fromG at h
  split at h
  · cases h
  · rename_i b n _
    split at h
    · cases h
    · split at h
      · cases h
      · split at h
        · cases h
        · injection h with h
          injection h with _ h
          have := findG_lt st b
          rw [← h]
          split <;> omega
theorem copy_bound {st st' : List Stg} {ws : List Wd} {k : Int} (h : copyG st ws = .ok (st', k)) : st' = st ∧ -1 ≤ k ∧ k < st.length := by
  unfold copyG at h
  split at h
  · split at h
    · cases h
    · injection h with h; injection h with h1 h; subst h1 h; exact ⟨rfl, by omega, by omega⟩
  · rename_i n _
    split at h
    · cases h
    · split at h
      · cases h
      · split at h
        · cases h
        · injection h with h
          injection h with h1 h
          subst h1 h
          exact ⟨rfl, findG_lt st n⟩
theorem rd_any (op : Nat) (hop : op < 8) (B fb ib : Nat) (sv wv : Value) (ss : List StM) (ws : List WdM) (w : World) (h : FileM w B fb sv ss) (hi : InB w B ib wv ws (-1) (ruleT op).1 (ruleT op).2.1 (fnV (ruleT op).2.2.1) (fnV (ruleT op).2.2.2)) (hap : ∀ s ∈ ss, s.iv.ownBlock ≠ some ib)
    (h1 : (ruleT op).1 ≤ (ws.length : Int) - 1) (h2 : (ws.length : Int) - 1 ≤ (ruleT op).2.1) (hss : op ≠ 0 → 0 < ss.length) :
    Calls Tryz.prog (ruleT op).2.2.1 #[.pointer (some ⟨fb, 0, none⟩), .pointer (some ⟨ib, 0, none⟩)] w fun ev w' => RdOut w' ev B fb ib sv wv ss ws (ruleT op).1 (ruleT op).2.1 (fnV (ruleT op).2.2.1) (fnV (ruleT op).2.2.2) op (readG op (ss.map StM.stg) (ws.map WdM.wd)) ∧ Fr B w w' := by
  have hBw : B ≤ w.heap.size := Nat.le_trans h.base (Nat.le_of_lt h.lt)
  have pl : ∀ (r : Res (List Stg × Int)) (w' : World) (ev : Ending), (∀ x, r = .ok x → x = (ss.map StM.stg, -1)) → op ≠ 0 → PlainOut w' ev r → Below w.heap.size w w' → RdOut w' ev B fb ib sv wv ss ws (ruleT op).1 (ruleT op).2.1 (fnV (ruleT op).2.2.1) (fnV (ruleT op).2.2.2) op r ∧ Fr B w w' := by
    intro r w' ev hr h0 hp hb
    refine ⟨?_, Fr.of_below hb hBw⟩
    unfold PlainOut at hp
    unfold RdOut
    cases r with
    | error x => exact hp
    | ok x =>
      have hx := hr x rfl
      subst hx
      exact ⟨hp, sv, ss, h.below hb, hi.below hb, rfl, by omega, by omega, .inl ⟨h0, rfl, rfl⟩⟩
  have anyr : (ruleT op).2.2.1 = 92 → op ≠ 0 → (∀ st ws, readG op st ws = .ok (st, -1)) → Calls Tryz.prog (ruleT op).2.2.1 #[.pointer (some ⟨fb, 0, none⟩), .pointer (some ⟨ib, 0, none⟩)] w fun ev w' => RdOut w' ev B fb ib sv wv ss ws (ruleT op).1 (ruleT op).2.1 (fnV (ruleT op).2.2.1) (fnV (ruleT op).2.2.2) op (readG op (ss.map StM.stg) (ws.map WdM.wd)) ∧ Fr B w w' := by
    intro e h0 hr
    have hA := any_read fb ib w
    rw [← e] at hA
    refine hA.mono ?_
    rintro ev w' ⟨rfl, rfl⟩
    exact pl _ _ _ (fun x hx => by rw [hr] at hx; injection hx with hx; exact hx.symm) h0 (by rw [hr]; rfl) (Below.refl _ _)
  match op, hop with
  | 0, _ =>
    have h1' : (1 : Int) ≤ (ws.length : Int) - 1 := h1
    have h2' : (ws.length : Int) - 1 ≤ 3 := h2
    refine (from_read B fb ib sv wv ss ws _ _ _ _ w h hi hap (by omega) (by omega) ⟨_, _, rfl, rfl⟩).mono ?_
    rintro ev w' ⟨ho, hb⟩
    refine ⟨?_, hb⟩
    unfold FromOut at ho
    unfold RdOut
    show match fromG (ss.map StM.stg) (ws.map WdM.wd) with | .error (e, p) => _ | .ok (st, k) => _
    cases hr : fromG (ss.map StM.stg) (ws.map WdM.wd) with
    | error x => rw [hr] at ho; exact ho
    | ok x =>
      obtain ⟨st, k⟩ := x
      rw [hr] at ho
      obtain ⟨he, sv', un, hF, hI, hst⟩ := ho
      have hbd := from_bound hr
      rw [List.length_map] at hbd
      exact ⟨he, sv', _, hF, hI, hst, hbd.1, hbd.2, .inr ⟨rfl, un, rfl⟩⟩
  | 1, _ =>
    have h1' : (2 : Int) ≤ (ws.length : Int) - 1 := h1
    have h2' : (ws.length : Int) - 1 ≤ 3 := h2
    refine (copy_read B fb ib sv wv ss ws _ _ _ _ w h hi (by omega) (by omega) (hss (by decide)) ⟨_, _, rfl, rfl⟩).mono ?_
    rintro ev w' ⟨ho, hb⟩
    have hb' : Fr B w w' := Fr.of_tb hb hi.cells (by decide) hi.base
    refine ⟨?_, hb'⟩
    unfold CopyOut at ho
    unfold RdOut
    show match copyG (ss.map StM.stg) (ws.map WdM.wd) with | .error (e, p) => _ | .ok (st, k) => _
    cases hr : copyG (ss.map StM.stg) (ws.map WdM.wd) with
    | error x => rw [hr] at ho; exact ho
    | ok x =>
      obtain ⟨st, k⟩ := x
      rw [hr] at ho
      obtain ⟨he, hI⟩ := ho
      have hbd := copy_bound hr
      rw [List.length_map] at hbd
      exact ⟨he, sv, ss, h.off hi.cells hap hb, hI, hbd.1, hbd.2.1, hbd.2.2, .inl ⟨by decide, rfl, rfl⟩⟩
  | 2, _ => exact anyr rfl (by decide) (fun _ _ => rfl)
  | 3, _ => exact anyr rfl (by decide) (fun _ _ => rfl)
  | 4, _ =>
    have h1' : (1 : Int) ≤ (ws.length : Int) - 1 := h1
    refine (mkdir_read B fb ib wv ws (ss.map StM.stg) _ _ _ _ _ w hi (by omega)).mono ?_
    rintro ev w' ⟨ho, hb⟩
    refine pl _ _ _ (fun x hx => ?_) (by decide) ho hb
    unfold readG at hx
    simp only at hx
    split at hx
    · injection hx with hx; exact hx.symm
    · split at hx
      · split at hx
        · injection hx with hx; exact hx.symm
        · cases hx
      · cases hx
  | 5, _ => exact anyr rfl (by decide) (fun _ _ => rfl)
  | 6, _ =>
    have h1' : (2 : Int) ≤ (ws.length : Int) - 1 := h1
    refine (env_read B fb ib wv ws (ss.map StM.stg) _ _ _ _ _ w hi (by omega)).mono ?_
    rintro ev w' ⟨ho, hb⟩
    refine pl _ _ _ (fun x hx => ?_) (by decide) ho hb
    unfold readG at hx
    simp only at hx
    split at hx
    · split at hx
      · injection hx with hx; exact hx.symm
      · cases hx
    · cases hx
  | 7, _ => exact anyr rfl (by decide) (fun _ _ => rfl)
end Go.Proofs.YtkikhmleffcajaaGreatDoor
