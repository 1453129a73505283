import Derived.Test.YtkikhmleffcajaaGreatDoorJDcS
import Derived.Test.YtkikhmleffcajaaGreatDoorDrE
namespace Go.Proofs.YtkikhmleffcajaaGreatDoor
open Go.RowKit Go.Maps

theorem tx_some {ms : List WdM} {i : Nat} {x : WdM} (h : ms[i]? = some x) : tx ms i = (plainW x.xs).getD [] := by unfold tx; rw [h]
theorem px_some {ms : List WdM} {i : Nat} {x : WdM} (h : ms[i]? = some x) : px ms i = x.place := by unfold px; rw [h]
theorem plain_of_sn {ms : List WdM} {i : Nat} (h : tx ms i ≠ []) : ∃ x, ms[i]? = some x ∧ plainW x.xs = some (tx ms i) := by
  unfold tx at h ⊢
  cases hx : ms[i]? with
  | none => rw [hx] at h; exact absurd rfl h
  | some x =>
    rw [hx] at h
    refine ⟨x, rfl, ?_⟩
    simp only at h ⊢
    cases hp : plainW x.xs with
    | none => rw [hp] at h; exact absurd rfl h
    | some t => rfl
theorem unW_plain {set : List UInt8 → Bool} : ∀ (xs : List Atm) (t : List UInt8), plainW xs = some t → unsetW set xs = none := by
  intro xs
  induction xs with
  | nil => intro t h; rfl
  | cons a r ih =>
    intro t h
    cases a with
    | inr pA => obtain ⟨n, k⟩ := pA; simp [plainW] at h
    | inl c =>
      simp only [plainW] at h
      cases hr : plainW r with
      | none => rw [hr] at h; cases h
      | some u => exact ih u hr
theorem unL_plain {set : List UInt8 → Bool} {x : Wd} {r : List Wd} {t : List UInt8} (h : plainW x.atoms = some t) : unsetL set (x :: r) = unsetL set r := by
  rw [unsetL, unW_plain _ _ h]
theorem four {ms : List WdM} (h : ms.length = 4) : ∃ a b c d, ms = [a, b, c, d] := by
  match ms, h with
  | [a, b, c, d], _ => exact ⟨a, b, c, d, rfl⟩
theorem two {ms : List WdM} (h : ms.length = 2) : ∃ a b, ms = [a, b] := by
  match ms, h with
  | [a, b], _ => exact ⟨a, b, rfl⟩
theorem frm_ok {ss : List DsM} {st : List Stg} (_ : Rel ss st) (hl : ss.length ≤ 5) {ms : List WdM} {m0 : WdM} (h0 : ms[0]? = some m0) (hp0 : plainW m0.xs = some wFROM) (h2 : 2 ≤ ms.length) (h4 : ms.length ≤ 4) {nm : List UInt8} {k : Int} (hf : frmM ss ms = .ok (nm, k)) :
    (-1 ≤ k ∧ k < ss.length) ∧ RelF (ss.map DsM.name) nm k (ms.map WdM.wd) ∧ nm ≠ wScratch ∧ ss.length < 5 ∧ ∀ set, unsetL set (ms.map WdM.wd) = none := by
  unfold frmM frmT at hf
  by_cases cA : 2 < ms.length ∧ tx ms 2 ≠ wAS
  · rw [if_pos cA] at hf; cases hf
  rw [if_neg cA] at hf
  by_cases c3 : ms.length = 3
  · rw [if_pos c3] at hf; cases hf
  rw [if_neg c3] at hf
  by_cases k3 : ms.length = 4 ∧ stageNm (tx ms 3) = false
  · rw [if_pos k3] at hf; cases hf
  rw [if_neg k3] at hf
  by_cases k1 : stageNm (tx ms 1) = false
  · rw [if_pos k1] at hf; cases hf
  rw [if_neg k1] at hf
  by_cases k4 : callD ss (tx ms 1) < 0 ∧ tx ms 1 ≠ wScratch
  · rw [if_pos k4] at hf; cases hf
  rw [if_neg k4] at hf
  by_cases k5 : ms.length = 4 ∧ (tx ms 3 = wScratch ∨ 0 ≤ callD ss (tx ms 3))
  · rw [if_pos k5] at hf; cases hf
  rw [if_neg k5] at hf
  by_cases k6 : ss.length = 5
  · rw [if_pos k6] at hf; cases hf
  rw [if_neg k6] at hf
  injection hf with hf
  injection hf with e1 e2
  subst e1 e2
  have s1 : stageNm (tx ms 1) = true := by simpa using k1
  have hr := callD_rng ss (tx ms 1)
  have hti : titN (ss.map DsM.name) (callD ss (tx ms 1)) = tx ms 1 := by
    by_cases hn : callD ss (tx ms 1) < 0
    · unfold titN
      rw [if_pos hn]
      exact (Decidable.byContradiction fun e => k4 ⟨hn, fun e' => e e'.symm⟩)
    · exact call_name rfl (by omega)
  obtain ⟨x1, hx1, hp1⟩ := plain_of_sn (sn_ne s1)
  by_cases c4 : ms.length = 4
  · have s3 : stageNm (tx ms 3) = true := by
      cases hs : stageNm (tx ms 3) with
      | true => rfl
      | false => exact absurd ⟨c4, hs⟩ k3
    have t2 : tx ms 2 = wAS := Decidable.byContradiction fun e => cA ⟨by omega, e⟩
    obtain ⟨x2, hx2, hp2⟩ := plain_of_sn (ms := ms) (i := 2) (by rw [t2]; decide)
    obtain ⟨x3, hx3, hp3⟩ := plain_of_sn (sn_ne s3)
    rw [t2] at hp2
    obtain ⟨a, b, c, d, rfl⟩ := four c4
    simp at h0 hx1 hx2 hx3
    subst h0 hx1 hx2 hx3
    simp only [List.length_cons, List.length_nil]
    refine ⟨hr, ⟨⟨a.wd, b.wd, [c.wd, d.wd], rfl, hp0, by rw [hti]; exact hp1, by rw [hti]; exact s1, .inr ⟨c.wd, d.wd, rfl, hp2, hp3, s3⟩⟩⟩, fun e => k5 ⟨c4, .inl e⟩, by omega, fun set => ?_⟩
    simp only [List.map_cons, List.map_nil]
    rw [unL_plain (x := a.wd) hp0, unL_plain (x := b.wd) hp1, unL_plain (x := c.wd) hp2, unL_plain (x := d.wd) hp3]; rfl
  · rw [if_neg c4]
    obtain ⟨a, b, rfl⟩ := two (show ms.length = 2 by omega)
    simp at h0 hx1
    subst h0 hx1
    refine ⟨hr, ⟨⟨a.wd, b.wd, [], rfl, hp0, by rw [hti]; exact hp1, by rw [hti]; exact s1, .inl ⟨rfl, rfl⟩⟩⟩, by decide, by omega, fun set => ?_⟩
    simp only [List.map_cons, List.map_nil]
    rw [unL_plain (x := a.wd) hp0, unL_plain (x := b.wd) hp1]; rfl
theorem opN_frm : opN wFROM = some 0 := by decide
theorem size_snoc (st : List Stg) (nm : List UInt8) : sizeG (st ++ [⟨nm, []⟩]) = sizeG st := by simp [sizeG]
theorem add_snoc (st : List Stg) (nm : List UInt8) (i : Ins) : addIns (st ++ [⟨nm, []⟩]) i = st ++ [⟨nm, [i]⟩] := by
  unfold addIns; simp
theorem take_op {st : List Stg} {ms : List WdM} {m0 : WdM} {op : List UInt8} {o : Nat} (h0 : ms[0]? = some m0) (hp0 : plainW m0.xs = some op) (ho : opN op = some o) (hb : ¬ (((ms.length : Int) - 1 < (ruleT o).1) ∨ ((ruleT o).2.1 < (ms.length : Int) - 1) ∨ (st = [] ∧ o ≠ 0))) :
    takeG st (ms.map WdM.wd) = match readG o st (ms.map WdM.wd) with
      | .error e => .error e
      | .ok (st', k) => match unsetL (isSetG st') (ms.map WdM.wd) with
        | some p => .error (7, p)
        | none => if 24 ≤ sizeG st' then .error (10, m0.place) else .ok (addIns st' ⟨ms.map WdM.wd, k⟩) := by
  have hop : opW m0.xs = some o := by unfold opW; rw [hp0]; exact ho
  have hw0 : (ms.map WdM.wd)[0]? = some m0.wd := by rw [List.getElem?_map, h0]; rfl
  have hpl : plc (ms.map WdM.wd) 0 = m0.place := by rw [plc_px, px_some h0]
  unfold takeG
  rw [hw0]
  simp only
  rw [show m0.wd.atoms = m0.xs from rfl, hop]
  simp only
  rw [List.length_map, if_neg hb, hpl]
  rfl
theorem take_from {ss : List DsM} {st : List Stg} (h : Rel ss st) (hl : ss.length ≤ 5) {ms : List WdM} {m0 : WdM} (h0 : ms[0]? = some m0) (hp0 : plainW m0.xs = some wFROM) (h2 : 2 ≤ ms.length) (h4 : ms.length ≤ 4) :
    (∀ e, frmM ss ms = .error e → takeG st (ms.map WdM.wd) = .error e) ∧
    ∀ nm k, frmM ss ms = .ok (nm, k) → ss.length < 5 ∧ (takeG st (ms.map WdM.wd) = if 24 ≤ sizeG st then .error (10, m0.place) else .ok (st ++ [⟨nm, [⟨ms.map WdM.wd, k⟩]⟩])) ∧
      ∀ vv, Rel (ss ++ [⟨nm, k, .slice none 0 0, [], vv, varsD ss k⟩]) (st ++ [⟨nm, [⟨ms.map WdM.wd, k⟩]⟩]) := by
  have hb : ¬ (((ms.length : Int) - 1 < (ruleT 0).1) ∨ ((ruleT 0).2.1 < (ms.length : Int) - 1) ∨ (st = [] ∧ 0 ≠ 0)) := by
    show ¬ (((ms.length : Int) - 1 < 1) ∨ ((3 : Int) < (ms.length : Int) - 1) ∨ (st = [] ∧ 0 ≠ 0))
    rintro (e | e | e)
    · omega
    · omega
    · exact e.2 rfl
  have hT := take_op h0 hp0 opN_frm hb
  rw [show readG 0 st (ms.map WdM.wd) = fromG st (ms.map WdM.wd) from rfl, from_eq h hl ms h2 h4] at hT
  refine ⟨fun e he => by rw [hT, he]; rfl, fun nm k hk => ?_⟩
  obtain ⟨r1, r2, r3, r4, r5⟩ := frm_ok h hl h0 hp0 h2 h4 hk
  refine ⟨r4, ?_, fun vv => h.push vv r1 r2 r3⟩
  rw [hT, hk]
  show (match unsetL (isSetG (st ++ [⟨nm, []⟩])) (ms.map WdM.wd) with
    | some p => _
    | none => _) = _
  rw [r5]
  simp only
  rw [size_snoc, add_snoc]
end Go.Proofs.YtkikhmleffcajaaGreatDoor

namespace Go.Proofs.YtkikhmleffcajaaGreatDoor
open Go.RowKit Go.Maps

theorem opN_mem {t : List UInt8} {i : Nat} (h : opN t = some i) : (t, i) ∈ tbl := by
  unfold opN at h
  cases hf : tbl.find? (fun p => p.1 == t) with
  | none => rw [hf] at h; cases h
  | some p =>
    rw [hf] at h
    injection h with h
    have hm := List.mem_of_find?_eq_some hf
    have he := List.find?_some hf
    have he' : p.1 = t := by simpa using he
    rw [← h, ← he']; exact hm
/-- What an instruction's number says of its word. -/
theorem op_is {t : List UInt8} {i : Nat} (h : opN t = some i) : (t = wCOPY ↔ i = 1) ∧ (t = wMKDIR ↔ i = 4) ∧ (t = wENV ↔ i = 6) ∧ (t = wFROM ↔ i = 0) := by
  have hm := opN_mem h
  have : ∀ p ∈ tbl, (p.1 = wCOPY ↔ p.2 = 1) ∧ (p.1 = wMKDIR ↔ p.2 = 4) ∧ (p.1 = wENV ↔ p.2 = 6) ∧ (p.1 = wFROM ↔ p.2 = 0) := by decide
  exact this _ hm
def redR (st : List Stg) (r : Res (Int × Nat)) : Res (List Stg × Int) := match r with
  | .error e => .error e
  | .ok (k, _) => .ok (st, k)
theorem read_eq {ss : List DsM} {st : List Stg} (h : Rel ss st) {ms : List WdM} {x0 x1 : WdM} {op : List UInt8} {o : Nat} (h0 : ms[0]? = some x0) (h1 : ms[1]? = some x1) (ho : opN op = some o) (hn0 : o ≠ 0) :
    readG o st (ms.map WdM.wd) = redR st (preT ss op ms x0 x1) := by
  obtain ⟨c1, c4, c6, c0⟩ := op_is ho
  have hw1 : (ms.map WdM.wd)[1]? = some x1.wd := by rw [List.getElem?_map, h1]; rfl
  have hl : (ms.map WdM.wd).length = ms.length := List.length_map _
  have hlt := opN_lt ho
  unfold preT
  by_cases e1 : o = 1
  · subst e1
    rw [if_pos (c1.2 rfl)]
    show copyG st (ms.map WdM.wd) = _
    unfold copyG takG
    rw [hw1, hl, plc_px, plc_px, px_some h0, px_some h1]
    simp only
    rw [show x1.wd.atoms = x1.xs from rfl]
    cases hf : fromW x1.xs with
    | none =>
      simp only
      by_cases h4 : ms.length = 4
      · rw [if_pos h4, if_pos h4]; rfl
      · rw [if_neg h4, if_neg h4]; rfl
    | some nm =>
      simp only
      by_cases h4 : ms.length ≠ 4
      · rw [if_pos h4, if_pos h4]; rfl
      rw [if_neg h4, if_neg h4]
      by_cases hs : stageNm nm = false
      · rw [if_pos hs, if_pos hs]; rfl
      rw [if_neg hs, if_neg hs, h.find, ← h.len]
      by_cases hc : callD ss nm = -1 ∨ callD ss nm = (ss.length : Int) - 1
      · rw [if_pos hc, if_pos hc]; rfl
      · rw [if_neg hc, if_neg hc]; rfl
  rw [if_neg (fun e => e1 (c1.1 e))]
  by_cases e4 : o = 4
  · subst e4
    rw [if_pos (c4.2 rfl)]
    show (if (ms.map WdM.wd).length < 3 then _ else _) = _
    rw [hl]
    cases h2 : ms[2]? with
    | none =>
      have := List.getElem?_eq_none_iff.1 h2
      rw [if_pos (by omega)]; rfl
    | some x2 =>
      have := (List.getElem?_eq_some_iff.1 h2).1
      rw [if_neg (by omega), pln_get, h2, plc_px, px_some h2]
      simp only [Option.bind_some]
      cases plainW x2.xs with
      | none => rfl
      | some t =>
        simp only
        by_cases hm : modeN t = true
        · rw [if_pos hm, if_pos hm]; rfl
        · rw [if_neg hm, if_neg hm]; rfl
  rw [if_neg (fun e => e4 (c4.1 e))]
  by_cases e6 : o = 6
  · subst e6
    rw [if_pos (c6.2 rfl)]
    show (match pln (ms.map WdM.wd) 1 with
      | some t => _
      | none => _) = _
    rw [pln_get, h1, plc_px, px_some h1]
    simp only [Option.bind_some]
    cases plainW x1.xs with
    | none => rfl
    | some t =>
      simp only
      by_cases hm : isVarN t = true
      · rw [if_pos hm, if_pos hm]; rfl
      · rw [if_neg hm, if_neg hm]; rfl
  rw [if_neg (fun e => e6 (c6.1 e))]
  have : o = 2 ∨ o = 3 ∨ o = 5 ∨ o = 7 := by omega
  rcases this with rfl | rfl | rfl | rfl <;> rfl
theorem add_set {st : List Stg} {k : Nat} {t : Stg} (hl : st.length = k + 1) (ht : st[k]? = some t) (i : Ins) : addIns st i = st.set k ⟨t.name, t.ins ++ [i]⟩ := by
  have hg : st.getLast? = some t := by rw [List.getLast?_eq_getElem?, hl]; exact ht
  unfold addIns
  rw [hg]
  simp only
  obtain ⟨hk, hk'⟩ := List.getElem?_eq_some_iff.1 ht
  apply List.ext_getElem?
  intro j
  rw [List.getElem?_set]
  by_cases hj : k = j
  · subst hj
    rw [if_pos rfl, if_pos hk, List.getElem?_append_right (by rw [List.length_dropLast]; omega), List.length_dropLast, hl]
    simp
  · rw [if_neg hj]
    by_cases hj2 : j < k
    · rw [List.getElem?_append_left (by rw [List.length_dropLast]; omega), List.getElem?_dropLast, if_pos (by omega)]
    · rw [List.getElem?_append_right (by rw [List.length_dropLast]; omega), List.length_dropLast, List.getElem?_eq_none_iff.2 (by simp; omega), List.getElem?_eq_none_iff.2 (by omega)]
theorem from_pre {xs : List Atm} {nm : List UInt8} (h : fromW xs = some nm) : plainW xs = some (wFrm ++ nm) := by
  unfold fromW at h
  cases hp : plainW xs with
  | none => rw [hp] at h; cases h
  | some t =>
    rw [hp] at h
    simp only at h
    split at h
    · rename_i hpre
      injection h with h
      obtain ⟨r, hr⟩ := List.isPrefixOf_iff_prefix.1 hpre
      rw [← h, ← hr]
      rfl
    · cases h
/-- What an accepted instruction's words are. -/
theorem pre_ok {ss : List DsM} {ms : List WdM} {x0 x1 : WdM} {op : List UInt8} {c : Int} {d : Nat} (_ : ms[1]? = some x1) (hp : preT ss op ms x0 x1 = .ok (c, d)) :
    ((d = 1 ∧ c = -1) ∨ (d = 2 ∧ 0 ≤ c ∧ c < ss.length ∧ plainW x1.xs = some (wFrm ++ titN (ss.map DsM.name) c) ∧ stageNm (titN (ss.map DsM.name) c) = true)) ∧ (op = wENV → ∃ t, plainW x1.xs = some t) := by
  unfold preT at hp
  by_cases e1 : op = wCOPY
  · rw [if_pos e1] at hp
    refine ⟨?_, fun e => by rw [e1] at e; exact absurd e (by decide)⟩
    unfold takG at hp
    cases hf : fromW x1.xs with
    | none =>
      rw [hf] at hp
      simp only at hp
      split at hp
      · cases hp
      · injection hp with hp; injection hp with a b; exact .inl ⟨b.symm, a.symm⟩
    | some nm =>
      rw [hf] at hp
      simp only at hp
      have hr := callD_rng ss nm
      split at hp
      · cases hp
      · split at hp
        · cases hp
        · rename_i hs
          split at hp
          · cases hp
          · rename_i hc
            injection hp with hp
            injection hp with a b
            have h0 : 0 ≤ c := by rw [← a]; omega
            have ht := call_name a h0
            exact .inr ⟨b.symm, h0, by rw [← a]; exact hr.2, by rw [ht]; exact from_pre hf, by rw [ht]; simpa using hs⟩
  rw [if_neg e1] at hp
  by_cases e4 : op = wMKDIR
  · rw [if_pos e4] at hp
    refine ⟨.inl ?_, fun e => by rw [e4] at e; exact absurd e (by decide)⟩
    split at hp
    · injection hp with hp; injection hp with a b; exact ⟨b.symm, a.symm⟩
    · split at hp
      · split at hp
        · injection hp with hp; injection hp with a b; exact ⟨b.symm, a.symm⟩
        · cases hp
      · cases hp
  rw [if_neg e4] at hp
  by_cases e6 : op = wENV
  · rw [if_pos e6] at hp
    split at hp
    · rename_i t ht
      split at hp
      · injection hp with hp; injection hp with a b; exact ⟨.inl ⟨b.symm, a.symm⟩, fun _ => ⟨t, ht⟩⟩
      · cases hp
    · cases hp
  rw [if_neg e6] at hp
  injection hp with hp
  injection hp with a b
  exact ⟨.inl ⟨b.symm, a.symm⟩, fun e => absurd e e6⟩
theorem take_step {ss : List DsM} {st : List Stg} (h : Rel ss st) {k : Nat} {s : DsM} {t : Stg} (hk : ss.length = k + 1) (hs : ss[k]? = some s) (ht : st[k]? = some t) {ms : List WdM} {x0 x1 : WdM} {op : List UInt8} {o : Nat} (h0 : ms[0]? = some x0) (h1 : ms[1]? = some x1)
    (hp0 : plainW x0.xs = some op) (ho : opN op = some o) (hn0 : o ≠ 0) (hlo : (ruleT o).1 ≤ (ms.length : Int) - 1) (hhi : (ms.length : Int) - 1 ≤ (ruleT o).2.1) :
    (∀ e, stpT ss s.vars op ms x0 x1 = .error e → takeG st (ms.map WdM.wd) = .error e) ∧
    ∀ c d, stpT ss s.vars op ms x0 x1 = .ok (c, d) → (takeG st (ms.map WdM.wd) = if 24 ≤ sizeG st then .error (10, x0.place) else .ok (st.set k ⟨t.name, t.ins ++ [⟨ms.map WdM.wd, c⟩]⟩)) ∧
      ∀ sv vv lv wv, Rel (ss.set k ⟨s.name, s.base, sv, s.steps ++ [⟨op, lv, wv, ms, d, c, x0.place⟩], vv, if op = wENV then s.vars ++ [(plainW x1.xs).getD []] else s.vars⟩) (st.set k ⟨t.name, t.ins ++ [⟨ms.map WdM.wd, c⟩]⟩) := by
  have hr := h.each k s t hs ht
  have hstl : st.length = k + 1 := by rw [← h.len, hk]
  have hst : st ≠ [] := fun e => by rw [e] at hstl; cases hstl
  have hb : ¬ (((ms.length : Int) - 1 < (ruleT o).1) ∨ ((ruleT o).2.1 < (ms.length : Int) - 1) ∨ (st = [] ∧ o ≠ 0)) := by
    rintro (e | e | e)
    · omega
    · omega
    · exact hst e.1
  have hT := take_op h0 hp0 ho hb
  rw [read_eq h h0 h1 ho hn0] at hT
  have hset : isSetG st = fun nm => s.vars.contains nm := by
    funext nm
    unfold isSetG
    rw [hstl, show ((k + 1 : Nat) : Int) - 1 = (k : Int) by omega, hr.vars nm]
  have hp1 : pln (ms.map WdM.wd) 0 = some op := by rw [pln_get, h0]; exact hp0
  have hcons : ms.map WdM.wd = x0.wd :: (ms.drop 1).map WdM.wd := by
    have hlt := (List.getElem?_eq_some_iff.1 h0).1
    have := List.drop_eq_getElem_cons hlt
    rw [List.drop_zero] at this
    rw [(List.getElem?_eq_some_iff.1 h0).2] at this
    exact (congrArg (List.map WdM.wd) this).trans (by simp)
  have hcons1 : (ms.drop 1).map WdM.wd = x1.wd :: (ms.drop 2).map WdM.wd := by
    have hlt := (List.getElem?_eq_some_iff.1 h1).1
    have := List.drop_eq_getElem_cons hlt
    rw [(List.getElem?_eq_some_iff.1 h1).2] at this
    exact (congrArg (List.map WdM.wd) this).trans (by simp)
  have hun : ∀ c d, preT ss op ms x0 x1 = .ok (c, d) → unsetL (isSetG st) (ms.map WdM.wd) = unsetL (fun nm => s.vars.contains nm) ((ms.drop d).map WdM.wd) := fun c d hpr => by
    rw [hset, hcons, unL_plain (x := x0.wd) hp0]
    rcases (pre_ok h1 hpr).1 with ⟨e, _⟩ | ⟨e, _, _, hpl, _⟩
    · rw [e]
    · rw [e, hcons1, unL_plain (x := x1.wd) hpl]
  refine ⟨fun e he => ?_, fun c d he => ?_⟩
  · unfold stpT at he
    rw [hT]
    cases hpr : preT ss op ms x0 x1 with
    | error e' => rw [hpr] at he; injection he with he; rw [he]; rfl
    | ok x =>
      obtain ⟨c, d⟩ := x
      rw [hpr] at he
      show (match unsetL (isSetG st) (ms.map WdM.wd) with
        | some p => _
        | none => _) = _
      rw [hun c d hpr]
      simp only at he
      cases hu : unsetL (fun nm => s.vars.contains nm) ((ms.drop d).map WdM.wd) with
      | some p => rw [hu] at he; injection he with he; rw [← he]
      | none => rw [hu] at he; cases he
  · unfold stpT at he
    cases hpr : preT ss op ms x0 x1 with
    | error e' => rw [hpr] at he; cases he
    | ok x =>
      obtain ⟨c', d'⟩ := x
      rw [hpr] at he
      simp only at he
      cases hu : unsetL (fun nm => s.vars.contains nm) ((ms.drop d').map WdM.wd) with
      | some p => rw [hu] at he; cases he
      | none =>
        rw [hu] at he
        injection he with he
        injection he with e1 e2
        subst e1 e2
        obtain ⟨q1, q2⟩ := pre_ok h1 hpr
        constructor
        · rw [hT, hpr]
          show (match unsetL (isSetG st) (ms.map WdM.wd) with
            | some p => _
            | none => _) = _
          rw [hun c' d' hpr, hu]
          simp only
          rw [add_set hstl ht]
        · intro sv vv lv wv
          refine h.step hk hs ht ⟨op, lv, wv, ms, d', c', x0.place⟩ ⟨⟨x0, h0, hp0, by rw [ho]; rfl⟩, ?_⟩ sv vv _ (fun x => ?_)
          · rcases q1 with q | ⟨a1, a2, a3, a4, a5⟩
            · exact .inl q
            · exact .inr ⟨a1, a2, by rw [List.length_map]; exact a3, x1, h1, a4, a5⟩
          · show _ = (s.vars.contains x || (pln (ms.map WdM.wd) 0 == some wENV && pln (ms.map WdM.wd) 1 == some x))
            rw [hp1]
            by_cases e6 : op = wENV
            · obtain ⟨u, hu'⟩ := q2 e6
              rw [if_pos e6, e6, pln_get, h1]
              simp only [Option.bind_some, hu', Option.getD_some]
              rw [List.contains_append]
              congr 1
              simp only [List.contains_cons, List.contains_nil, Bool.or_false, beq_self_eq_true, Bool.true_and]
              rw [Bool.eq_iff_iff, beq_iff_eq, beq_iff_eq]
              exact ⟨fun e => by rw [e], fun e => by injection e with e; exact e.symm⟩
            · rw [if_neg e6]
              have : ((some op : Option (List UInt8)) == some wENV) = false := by simpa using e6
              rw [this]; simp
end Go.Proofs.YtkikhmleffcajaaGreatDoor
