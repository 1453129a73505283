import Derived.Test.YtkikhmleffcajaaGreatDoorJDcQ
import Derived.Test.YtkikhmleffcajaaGreatDoorPrsZ
namespace Go.Proofs.YtkikhmleffcajaaGreatDoor
open Go.RowKit Go.Maps

theorem nameN_len (l : List UInt8) : nameN l ≤ l.length := by
  unfold nameN
  split
  · simp
  · split
    · exact (List.takeWhile_prefix _).length_le
    · omega
theorem take_ok {d : List UInt8} (h0 : ¬ nameN d = 0) (h1 : ¬ 10 < nameN d) : d.take (nameN d) ≠ [] ∧ (d.take (nameN d)).length ≤ 10 := by
  have hn := nameN_len d
  have hl : (d.take (nameN d)).length = nameN d := by rw [List.length_take]; omega
  refine ⟨fun e => ?_, by omega⟩
  rw [e] at hl
  exact h0 hl.symm
theorem var_ok {l : List UInt8} {k t : Nat} {n : List UInt8} (h : varG l k = some (n, t)) : n ≠ [] ∧ n.length ≤ 10 := by
  unfold varG at h
  simp only at h
  split at h
  · split at h
    · cases h
    · rename_i hc
      injection h with h
      injection h with h1 h2
      rw [← h1]
      exact take_ok (fun e => hc (.inl e)) (fun e => hc (.inr (.inl e)))
  · split at h
    · cases h
    · rename_i hc
      injection h with h
      injection h with h1 h2
      rw [← h1]
      exact take_ok (fun e => hc (.inl e)) (fun e => hc (.inr (.inl e)))
theorem atok_nil : AtOk [] := fun n k h => by simp at h
theorem atok_byte {xs : List Atm} (h : AtOk xs) (c : UInt8) : AtOk (xs ++ [.inl c]) := fun n k hm => by
  rcases List.mem_append.1 hm with hm | hm
  · exact h n k hm
  · simp at hm
theorem atok_var {xs : List Atm} (h : AtOk xs) {n : List UInt8} {k : Nat} (hn : n ≠ [] ∧ n.length ≤ 10) : AtOk (xs ++ [.inr (n, k)]) := fun m j hm => by
  rcases List.mem_append.1 hm with hm | hm
  · exact h m j hm
  · simp at hm; rw [hm.1]; exact hn
theorem quo_ok (l : List UInt8) (i n : Nat) : ∀ (k : Nat) (acc a : List Atm) (t : Nat), l.length - k ≤ n → AtOk acc → quoG l i acc k = .ok (a, t) → AtOk a := by
  induction n with
  | zero =>
    intro k acc a t hn ho h
    rw [quo_none (List.getElem?_eq_none_iff.2 (by omega))] at h
    cases h
  | succ n ih =>
    intro k acc a t hn ho h
    cases hc : l[k]? with
    | none => rw [quo_none hc] at h; cases h
    | some c =>
      have hlt := (List.getElem?_eq_some_iff.1 hc).1
      rw [quo_some hc] at h
      split at h
      · cases h
      · split at h
        · injection h with h; injection h with h1 h2; subst h1 h2; exact ho
        · split at h
          · split at h
            · cases h
            · rename_i m u hv
              split at h
              · exact ih _ _ _ _ (by omega) (atok_var ho (var_ok hv)) h
              · cases h
          · split at h
            · split at h
              · cases h
              · split at h
                · exact ih _ _ _ _ (by omega) (atok_byte ho _) h
                · cases h
            · exact ih _ _ _ _ (by omega) (atok_byte ho _) h
theorem wrd_ok (l : List UInt8) (n : Nat) : ∀ (k : Nat) (acc a : List Atm) (t : Nat), l.length - k ≤ n → AtOk acc → wrdG l acc k = .ok (a, t) → AtOk a := by
  induction n with
  | zero =>
    intro k acc a t hn ho h
    rw [wrd_end (end_none (List.getElem?_eq_none_iff.2 (by omega)))] at h
    injection h with h; injection h with h1 h2; subst h1 h2; exact ho
  | succ n ih =>
    intro k acc a t hn ho h
    cases he : endG l k with
    | true => rw [wrd_end he] at h; injection h with h; injection h with h1 h2; subst h1 h2; exact ho
    | false =>
      cases hc : l[k]? with
      | none => rw [end_none hc] at he; cases he
      | some c =>
        have hlt := (List.getElem?_eq_some_iff.1 hc).1
        rw [wrd_some hc he] at h
        split at h
        · split at h
          · cases h
          · rename_i b u hq
            have hql := quo_ok l k _ _ _ _ _ (Nat.le_refl _) ho hq
            split at h
            · exact ih _ _ _ _ (by omega) hql h
            · cases h
        · split at h
          · split at h
            · cases h
            · rename_i m u hv
              split at h
              · exact ih _ _ _ _ (by omega) (atok_var ho (var_ok hv)) h
              · cases h
          · split at h
            · split at h
              · cases h
              · exact ih _ _ _ _ (by omega) (atok_byte ho _) h
            · exact ih _ _ _ _ (by omega) (atok_byte ho _) h
theorem lin_ok (l : List UInt8) (n : Nat) : ∀ (k : Nat) (ws ws' : List Wd) (t : Nat), l.length - k ≤ n → (∀ x ∈ ws, AtOk x.atoms) → linG l ws k = .ok (ws', t) → ∀ x ∈ ws', AtOk x.atoms := by
  induction n with
  | zero =>
    intro k ws ws' t hn ho h
    rw [lin_none (List.getElem?_eq_none_iff.2 (by omega))] at h
    injection h with h; injection h with h1 h2; subst h1 h2; exact ho
  | succ n ih =>
    intro k ws ws' t hn ho h
    cases hc : l[k]? with
    | none => rw [lin_none hc] at h; injection h with h; injection h with h1 h2; subst h1 h2; exact ho
    | some c =>
      have hlt := (List.getElem?_eq_some_iff.1 hc).1
      rw [lin_some hc] at h
      split at h
      · injection h with h; injection h with h1 h2; subst h1 h2; exact ho
      · split at h
        · exact ih _ _ _ _ (by omega) ho h
        · split at h
          · exact ih _ _ _ _ (by omega) ho h
          · split at h
            · rename_i h35
              have hcm : k < cmtG l k := cmt_lt (by rw [hc, h35.1])
              exact ih _ _ _ _ (by omega) ho h
            · split at h
              · cases h
              · rename_i a u hw
                have hwl := wrd_ok l _ _ _ _ _ (Nat.le_refl _) atok_nil hw
                split at h
                · refine ih _ _ _ _ (by omega) (fun x hx => ?_) h
                  rcases List.mem_append.1 hx with hx | hx
                  · exact ho x hx
                  · rw [List.mem_singleton] at hx; rw [hx]; exact hwl
                · cases h
/-- An instruction as the program keeps it. -/
def insD (p : DpM) : Ins := ⟨p.ms.map WdM.wd, p.stage⟩
/-- The name that a number of a stage stands for. -/
def titN (ns : List (List UInt8)) (k : Int) : List UInt8 := if k < 0 then wScratch else (ns[k.toNat]?).getD []
abbrev wFrm : List UInt8 := [45, 45, 102, 114, 111, 109, 61]
/-- What is known of an instruction's words. -/
structure RelP (ns : List (List UInt8)) (p : DpM) : Prop where
  op : ∃ m0, p.ms[0]? = some m0 ∧ plainW m0.xs = some p.op ∧ (opN p.op).isSome = true
  frm : (p.d = 1 ∧ p.stage = -1) ∨ (p.d = 2 ∧ 0 ≤ p.stage ∧ p.stage < ns.length ∧ ∃ m1, p.ms[1]? = some m1 ∧ plainW m1.xs = some (wFrm ++ titN ns p.stage) ∧ stageNm (titN ns p.stage) = true)
/-- What is known of a FROM's words. -/
structure RelF (ns : List (List UInt8)) (nm : List UInt8) (base : Int) (ws : List Wd) : Prop where
  two : ∃ x0 x1 r, ws = x0 :: x1 :: r ∧ plainW x0.atoms = some wFROM ∧ plainW x1.atoms = some (titN ns base) ∧ stageNm (titN ns base) = true ∧ ((nm = [] ∧ r = []) ∨ ∃ x2 x3, r = [x2, x3] ∧ plainW x2.atoms = some wAS ∧ plainW x3.atoms = some nm ∧ stageNm nm = true)
/-- A stage of the document's and of the program's. -/
structure RelS (ns : List (List UInt8)) (st : List Stg) (i : Nat) (s : DsM) (t : Stg) : Prop where
  name : s.name = t.name
  brng : -1 ≤ s.base ∧ s.base < i
  ins : ∃ ws, t.ins = ⟨ws, s.base⟩ :: s.steps.map insD ∧ RelF ns s.name s.base ws
  vars : ∀ nm, s.vars.contains nm = isSetF st (i + 1) (i : Int) nm
  stp : ∀ p ∈ s.steps, RelP ns p
  nsc : s.name ≠ wScratch
structure Rel (ss : List DsM) (st : List Stg) : Prop where
  len : ss.length = st.length
  each : ∀ (i : Nat) (s : DsM) (t : Stg), ss[i]? = some s → st[i]? = some t → RelS (ss.map DsM.name) st i s t
end Go.Proofs.YtkikhmleffcajaaGreatDoor

namespace Go.Proofs.YtkikhmleffcajaaGreatDoor
open Go.RowKit Go.Maps

theorem isSetF_neg (st : List Stg) (f : Nat) (nm : List UInt8) : isSetF st f (-1) nm = false := by cases f <;> simp [isSetF]
theorem isSetF_at {st : List Stg} {i : Nat} {s : Stg} (f : Nat) (nm : List UInt8) (h : st[i]? = some s) : isSetF st (f + 1) (i : Int) nm = (setsG s nm || isSetF st f (baseG s) nm) := by
  rw [isSetF, if_neg (by omega)]
  simp only [Int.toNat_natCast, h]
theorem isSetF_congr (st st' : List Stg) (nm : List UInt8) : ∀ (i f f' : Nat), i < f → i < f' → (∀ j, j ≤ i → st[j]? = st'[j]?) → (∀ j s, j ≤ i → st[j]? = some s → -1 ≤ baseG s ∧ baseG s < j) → isSetF st f (i : Int) nm = isSetF st' f' (i : Int) nm := by
  intro i
  induction i using Nat.strongRecOn with
  | _ i ih =>
    intro f f' hf hf' heq hb
    obtain ⟨f, rfl⟩ : ∃ g, f = g + 1 := ⟨f - 1, by omega⟩
    obtain ⟨f', rfl⟩ : ∃ g, f' = g + 1 := ⟨f' - 1, by omega⟩
    cases hs : st[i]? with
    | none =>
      have hs' := heq i (Nat.le_refl _)
      rw [hs] at hs'
      rw [isSetF, if_neg (by omega), isSetF, if_neg (by omega)]
      simp only [Int.toNat_natCast, hs, ← hs']
    | some s =>
      have hs' := heq i (Nat.le_refl _)
      rw [hs] at hs'
      rw [isSetF_at f nm hs, isSetF_at f' nm hs'.symm]
      obtain ⟨h1, h2⟩ := hb i s (Nat.le_refl _) hs
      congr 1
      by_cases hn : baseG s = -1
      · rw [hn, isSetF_neg, isSetF_neg]
      · obtain ⟨b, hb'⟩ : ∃ b : Nat, baseG s = (b : Int) := ⟨(baseG s).toNat, by omega⟩
        rw [hb']
        exact ih b (by omega) f f' (by omega) (by omega) (fun j hj => heq j (by omega)) (fun j s hj => hb j s (by omega))
theorem RelS.baseG {ns : List (List UInt8)} {st : List Stg} {i : Nat} {s : DsM} {t : Stg} (h : RelS ns st i s t) : baseG t = s.base := by
  obtain ⟨ws, hw, _⟩ := h.ins
  unfold Go.Proofs.YtkikhmleffcajaaGreatDoor.baseG
  rw [hw]
theorem Rel.get {ss : List DsM} {st : List Stg} (h : Rel ss st) {i : Nat} {t : Stg} (ht : st[i]? = some t) : ∃ s, ss[i]? = some s ∧ RelS (ss.map DsM.name) st i s t := by
  have hlt := (List.getElem?_eq_some_iff.1 ht).1
  obtain ⟨s, hs⟩ : ∃ s, ss[i]? = some s := ⟨_, List.getElem?_eq_getElem (by rw [h.len]; exact hlt)⟩
  exact ⟨s, hs, h.each i s t hs ht⟩
theorem Rel.get' {ss : List DsM} {st : List Stg} (h : Rel ss st) {i : Nat} {s : DsM} (hs : ss[i]? = some s) : ∃ t, st[i]? = some t ∧ RelS (ss.map DsM.name) st i s t := by
  have hlt := (List.getElem?_eq_some_iff.1 hs).1
  obtain ⟨t, ht⟩ : ∃ t, st[i]? = some t := ⟨_, List.getElem?_eq_getElem (by rw [← h.len]; exact hlt)⟩
  exact ⟨t, ht, h.each i s t hs ht⟩
theorem Rel.bases {ss : List DsM} {st : List Stg} (h : Rel ss st) (j : Nat) (t : Stg) (ht : st[j]? = some t) : -1 ≤ baseG t ∧ baseG t < j := by
  obtain ⟨s, _, hr⟩ := h.get ht
  rw [hr.baseG]; exact hr.brng
theorem titN_app (ns r : List (List UInt8)) (k : Int) (h : k < ns.length) : titN (ns ++ r) k = titN ns k := by
  unfold titN
  by_cases h0 : k < 0
  · rw [if_pos h0, if_pos h0]
  · rw [if_neg h0, if_neg h0, List.getElem?_append_left (by omega)]
theorem RelP.app {ns : List (List UInt8)} {p : DpM} (h : RelP ns p) (r : List (List UInt8)) : RelP (ns ++ r) p := by
  refine ⟨h.op, ?_⟩
  rcases h.frm with h' | ⟨h1, h2, h3, h4⟩
  · exact .inl h'
  · exact .inr ⟨h1, h2, by rw [List.length_append]; omega, by rw [titN_app _ _ _ h3]; exact h4⟩
theorem RelF.app {ns : List (List UInt8)} {nm : List UInt8} {k : Int} {ws : List Wd} (h : RelF ns nm k ws) (hk : k < ns.length) (r : List (List UInt8)) : RelF (ns ++ r) nm k ws := ⟨by rw [titN_app _ _ _ hk]; exact h.two⟩
theorem pln_zero {ns : List (List UInt8)} {nm : List UInt8} {k : Int} {ws : List Wd} (h : RelF ns nm k ws) : pln ws 0 = some wFROM := by
  obtain ⟨x0, x1, r, rfl, h0, _⟩ := h.two
  exact h0
/-- A stage more on both sides. -/
theorem Rel.push {ss : List DsM} {st : List Stg} (h : Rel ss st) {nm : List UInt8} {k : Int} {ws : List Wd} (vv : Value) (hk : -1 ≤ k ∧ k < ss.length) (hf : RelF (ss.map DsM.name) nm k ws) (hsc : nm ≠ wScratch) :
    Rel (ss ++ [⟨nm, k, .slice none 0 0, [], vv, varsD ss k⟩]) (st ++ [⟨nm, [⟨ws, k⟩]⟩]) := by
  have hlen := h.len
  have hml : (ss.map DsM.name).length = ss.length := List.length_map _
  refine ⟨by simp [hlen], fun i s t hs ht => ?_⟩
  rw [List.map_append]
  rw [List.getElem?_append] at hs ht
  split at hs
  · rename_i hi
    rw [if_pos (by omega)] at ht
    have hr := h.each i s t hs ht
    refine ⟨hr.name, hr.brng, ?_, fun x => ?_, fun p hp => (hr.stp p hp).app _, hr.nsc⟩
    · obtain ⟨ws', hw, hf'⟩ := hr.ins
      exact ⟨ws', hw, hf'.app (by rw [hml]; have := hr.brng.2; omega) _⟩
    · rw [hr.vars x]
      exact isSetF_congr _ _ x i _ _ (by omega) (by omega) (fun j hj => by rw [List.getElem?_append_left (by omega)]) (fun j s' hj hs' => h.bases j s' hs')
  · rename_i hi
    rw [if_neg (by omega)] at ht
    have h1 := (List.getElem?_eq_some_iff.1 hs).1
    simp at h1
    have hi' : i = ss.length := by omega
    subst hi'
    rw [Nat.sub_self] at hs
    rw [hlen, Nat.sub_self] at ht
    simp at hs ht
    subst hs ht
    refine ⟨rfl, hk, ⟨ws, rfl, hf.app (by rw [hml]; exact hk.2) _⟩, fun x => ?_, fun p hp => by simp at hp, hsc⟩
    rw [isSetF_at _ x (show (st ++ [(⟨nm, [⟨ws, k⟩]⟩ : Stg)])[ss.length]? = some ⟨nm, [⟨ws, k⟩]⟩ by rw [List.getElem?_append_right (by omega), hlen, Nat.sub_self]; rfl)]
    have hs0 : setsG ⟨nm, [⟨ws, k⟩]⟩ x = false := by
      unfold setsG
      simp only [List.any_cons, List.any_nil, Bool.or_false]
      rw [pln_zero hf]; rfl
    rw [hs0, Bool.false_or]
    show (varsD ss k).contains x = isSetF _ _ k x
    unfold varsD
    by_cases h0 : k < 0
    · rw [if_pos h0, show k = -1 by omega, isSetF_neg]; rfl
    · rw [if_neg h0]
      obtain ⟨b, rfl⟩ : ∃ b : Nat, k = (b : Int) := ⟨k.toNat, by omega⟩
      obtain ⟨s, hsb⟩ : ∃ s, ss[b]? = some s := ⟨_, List.getElem?_eq_getElem (by omega)⟩
      simp only [Int.toNat_natCast, hsb]
      obtain ⟨t, ht, hr⟩ := h.get' hsb
      rw [hr.vars x]
      exact isSetF_congr _ _ x b _ _ (by omega) (by omega) (fun j hj => by rw [List.getElem?_append_left (by omega)]) (fun j s' hj hs' => h.bases j s' hs')
theorem map_set_name {ss : List DsM} {k : Nat} {s s' : DsM} (hs : ss[k]? = some s) (hn : s'.name = s.name) : (ss.set k s').map DsM.name = ss.map DsM.name := by
  rw [List.map_set, hn]
  apply List.ext_getElem?
  intro i
  rw [List.getElem?_set]
  split
  · rename_i e
    subst e
    have hlt := (List.getElem?_eq_some_iff.1 hs).1
    rw [if_pos (by simpa using hlt), List.getElem?_map, hs]; rfl
  · rfl
/-- An instruction more on both sides. -/
theorem Rel.step {ss : List DsM} {st : List Stg} (h : Rel ss st) {k : Nat} {s : DsM} {t : Stg} (hk : ss.length = k + 1) (hs : ss[k]? = some s) (ht : st[k]? = some t) (p : DpM) (hp : RelP (ss.map DsM.name) p) (sv vv : Value) (vars : List (List UInt8))
    (hv : ∀ x, vars.contains x = (s.vars.contains x || (pln (p.ms.map WdM.wd) 0 == some wENV && pln (p.ms.map WdM.wd) 1 == some x))) :
    Rel (ss.set k ⟨s.name, s.base, sv, s.steps ++ [p], vv, vars⟩) (st.set k ⟨t.name, t.ins ++ [insD p]⟩) := by
  have hlen := h.len
  refine ⟨by simp [hlen], fun i a b ha hb => ?_⟩
  rw [map_set_name (s' := ⟨s.name, s.base, sv, s.steps ++ [p], vv, vars⟩) hs rfl]
  have hr := h.each k s t hs ht
  have hbase : baseG ⟨t.name, t.ins ++ [insD p]⟩ = baseG t := by
    obtain ⟨ws, hw, _⟩ := hr.ins
    unfold baseG
    rw [hw]; rfl
  have hcg : ∀ x (b : Nat) (f f' : Nat), b < k → b < f → b < f' → isSetF st f (b : Int) x = isSetF (st.set k ⟨t.name, t.ins ++ [insD p]⟩) f' (b : Int) x := fun x b f f' hb h1 h2 =>
    isSetF_congr _ _ x b _ _ h1 h2 (fun j hj => by rw [List.getElem?_set_ne (by omega)]) (fun j s' hj hs' => h.bases j s' hs')
  rcases set_some ha with ⟨e1, e2⟩ | ⟨e1, ha⟩
  · subst e1 e2
    rcases set_some hb with ⟨_, e4⟩ | ⟨e3, _⟩
    case inr => exact absurd rfl e3
    subst e4
    refine ⟨hr.name, hr.brng, ?_, fun x => ?_, fun q hq => ?_, hr.nsc⟩
    · obtain ⟨ws, hw, hf⟩ := hr.ins
      exact ⟨ws, by show t.ins ++ [insD p] = _; rw [hw]; simp, hf⟩
    · show vars.contains x = _
      rw [hv x, hr.vars x, isSetF_at _ x ht, isSetF_at _ x (show (st.set i ⟨t.name, t.ins ++ [insD p]⟩)[i]? = some _ from List.getElem?_set_self (by omega)), hbase]
      have hset : setsG ⟨t.name, t.ins ++ [insD p]⟩ x = (setsG t x || (pln (p.ms.map WdM.wd) 0 == some wENV && pln (p.ms.map WdM.wd) 1 == some x)) := by
        unfold setsG
        simp only [List.any_append, List.any_cons, List.any_nil, Bool.or_false]
        rfl
      have hold : isSetF st i (baseG t) x = isSetF (st.set i ⟨t.name, t.ins ++ [insD p]⟩) i (baseG t) x := by
        have hb := h.bases i t ht
        by_cases hn : baseG t = -1
        · rw [hn, isSetF_neg, isSetF_neg]
        · obtain ⟨b, hb'⟩ : ∃ b : Nat, baseG t = (b : Int) := ⟨(baseG t).toNat, by omega⟩
          rw [hb']
          exact hcg x b i i (by omega) (by omega) (by omega)
      rw [hset, ← hold]
      cases setsG t x <;> cases isSetF st i (baseG t) x <;> simp
    · rcases List.mem_append.1 hq with hq | hq
      · exact hr.stp q hq
      · rw [List.mem_singleton] at hq; rw [hq]; exact hp
  · rcases set_some hb with ⟨e3, _⟩ | ⟨_, hb⟩
    case inl => exact absurd e3 e1
    have hri := h.each i a b ha hb
    have hi := (List.getElem?_eq_some_iff.1 ha).1
    exact ⟨hri.name, hri.brng, hri.ins, fun x => by rw [hri.vars x]; exact hcg x i _ _ (by omega) (by omega) (by omega), hri.stp, hri.nsc⟩
end Go.Proofs.YtkikhmleffcajaaGreatDoor

namespace Go.Proofs.YtkikhmleffcajaaGreatDoor
open Go.RowKit Go.Maps

/-- The text of a word of a list; where it stands. -/
def tx (ms : List WdM) (i : Nat) : List UInt8 := match ms[i]? with
  | some x => (plainW x.xs).getD []
  | none => []
def px (ms : List WdM) (i : Nat) : Nat := match ms[i]? with
  | some x => x.place
  | none => 0
theorem plc_px (ms : List WdM) (i : Nat) : plc (ms.map WdM.wd) i = px ms i := by
  unfold plc px; rw [List.getElem?_map]; cases ms[i]? <;> rfl
theorem pln_get (ms : List WdM) (i : Nat) : pln (ms.map WdM.wd) i = (ms[i]?).bind (fun x => plainW x.xs) := by
  unfold pln; rw [List.getElem?_map]; cases ms[i]? <;> rfl
theorem pln_tx {ms : List WdM} {i : Nat} {t : List UInt8} (ht : t ≠ []) : pln (ms.map WdM.wd) i = some t ↔ tx ms i = t := by
  rw [pln_get]
  unfold tx
  cases ms[i]? with
  | none => simp; exact fun e => ht e
  | some x =>
    simp only [Option.bind_some]
    cases plainW x.xs with
    | none => simp; exact fun e => ht e
    | some u => simp
theorem sn_nil : stageNm [] = false := by decide
theorem nmW_tx (ms : List WdM) (i : Nat) : nmW (ms.map WdM.wd) i = if stageNm (tx ms i) = true then some (tx ms i) else none := by
  unfold nmW tx
  rw [List.getElem?_map]
  cases ms[i]? with
  | none => simp [sn_nil]
  | some x =>
    simp only [Option.map_some]
    show nameW x.xs = _
    unfold nameW
    cases plainW x.xs with
    | none => simp [sn_nil]
    | some u => simp
theorem Rel.names {ss : List DsM} {st : List Stg} (h : Rel ss st) : ss.map DsM.name = st.map Stg.name := by
  apply List.ext_getElem?
  intro i
  rw [List.getElem?_map, List.getElem?_map]
  cases hs : ss[i]? with
  | none =>
    have : st[i]? = none := List.getElem?_eq_none_iff.2 (by have := List.getElem?_eq_none_iff.1 hs; have := h.len; omega)
    rw [this]; rfl
  | some s =>
    obtain ⟨t, ht, hr⟩ := h.get' hs
    rw [ht]; simp [hr.name]
theorem Rel.find {ss : List DsM} {st : List Stg} (h : Rel ss st) (nm : List UInt8) : findG st nm = callD ss nm := by
  unfold findG callD
  have e1 : ss.findIdx? (fun s => s.name == nm) = (ss.map DsM.name).findIdx? (· == nm) := by rw [List.findIdx?_map]; rfl
  have e2 : st.findIdx? (fun s => s.name == nm) = (st.map Stg.name).findIdx? (· == nm) := by rw [List.findIdx?_map]; rfl
  rw [e1, e2, h.names]
  rfl
theorem call_name {ss : List DsM} {nm : List UInt8} {k : Int} (h : callD ss nm = k) (h0 : 0 ≤ k) : titN (ss.map DsM.name) k = nm := by
  unfold callD at h
  unfold titN
  rw [if_neg (by omega)]
  cases hf : ss.findIdx? (fun s => s.name == nm) with
  | none => rw [hf] at h; simp only at h; omega
  | some i =>
    rw [hf] at h
    simp only at h
    subst h
    obtain ⟨hi, h1, _⟩ := List.findIdx?_eq_some_iff_getElem.1 hf
    rw [Int.toNat_natCast, List.getElem?_map, List.getElem?_eq_getElem hi]
    simpa using h1
theorem Rel.noScr {ss : List DsM} {st : List Stg} (h : Rel ss st) : callD ss wScratch = -1 := by
  unfold callD
  cases hf : ss.findIdx? (fun s => s.name == wScratch) with
  | none => rfl
  | some i =>
    obtain ⟨hi, h1, _⟩ := List.findIdx?_eq_some_iff_getElem.1 hf
    obtain ⟨t, _, hr⟩ := h.get' (List.getElem?_eq_getElem hi)
    exact absurd (by simpa using h1) hr.nsc
def frmM (ss : List DsM) (ms : List WdM) : Res (List UInt8 × Int) := frmT ss ms.length (tx ms 1) (tx ms 2) (tx ms 3) (px ms 0) (px ms 1) (px ms 2) (px ms 3)
def frmR (st : List Stg) (r : Res (List UInt8 × Int)) : Res (List Stg × Int) := match r with
  | .error e => .error e
  | .ok (nm, k) => .ok (st ++ [⟨nm, []⟩], k)
theorem from_tail {ss : List DsM} {st : List Stg} (h : Rel ss st) (hl : ss.length ≤ 5) (b n : List UInt8) (p0 p1 p3 : Nat) (q : Prop) [Decidable q] (hq : q ↔ n ≠ []) (n' : List UInt8) (hn' : n' = n) :
    (if b ≠ wScratch ∧ findG st b = -1 then (.error (6, p1) : Res (List Stg × Int))
    else if n = wScratch ∨ (n ≠ [] ∧ findG st n ≠ -1) then .error (6, p3)
    else if 5 ≤ st.length then .error (10, p0)
    else .ok (st ++ [⟨n, []⟩], if b = wScratch then -1 else findG st b)) =
    frmR st (if callD ss b < 0 ∧ b ≠ wScratch then .error (6, p1) else if q ∧ (n' = wScratch ∨ 0 ≤ callD ss n') then .error (6, p3) else if ss.length = 5 then .error (10, p0) else .ok (n', callD ss b)) := by
  subst hn'
  rw [h.find, h.find]
  have r1 := callD_rng ss b
  have r2 := callD_rng ss n'
  have hlen := h.len
  by_cases c1 : b ≠ wScratch ∧ callD ss b = -1
  · have k1 : callD ss b < 0 ∧ b ≠ wScratch := ⟨by omega, c1.1⟩
    rw [if_pos c1, if_pos k1]; rfl
  have k1 : ¬ (callD ss b < 0 ∧ b ≠ wScratch) := fun hc => c1 ⟨hc.2, by omega⟩
  rw [if_neg c1, if_neg k1]
  by_cases c2 : n' = wScratch ∨ (n' ≠ [] ∧ callD ss n' ≠ -1)
  · have k2 : q ∧ (n' = wScratch ∨ 0 ≤ callD ss n') := ⟨hq.2 (by rcases c2 with c2 | c2; rw [c2]; decide; exact c2.1), by rcases c2 with c2 | c2; exact .inl c2; exact .inr (by omega)⟩
    rw [if_pos c2, if_pos k2]; rfl
  have k2 : ¬ (q ∧ (n' = wScratch ∨ 0 ≤ callD ss n')) := fun hc => c2 (by rcases hc.2 with hc' | hc'; exact .inl hc'; exact .inr ⟨hq.1 hc.1, by omega⟩)
  rw [if_neg c2, if_neg k2]
  by_cases c3 : 5 ≤ st.length
  · have k3 : ss.length = 5 := by omega
    rw [if_pos c3, if_pos k3]; rfl
  have k3 : ¬ ss.length = 5 := by omega
  rw [if_neg c3, if_neg k3]
  by_cases c4 : b = wScratch
  · rw [if_pos c4]
    have : callD ss b = -1 := by rw [c4]; exact h.noScr
    rw [this]; rfl
  · rw [if_neg c4]; rfl
theorem from_eq {ss : List DsM} {st : List Stg} (h : Rel ss st) (hl : ss.length ≤ 5) (ms : List WdM) (_ : 2 ≤ ms.length) (_ : ms.length ≤ 4) : fromG st (ms.map WdM.wd) = frmR st (frmM ss ms) := by
  unfold fromG frmM frmT namesG
  rw [List.length_map, plc_px, plc_px, plc_px, plc_px, nmW_tx, nmW_tx]
  by_cases cA : 2 < ms.length ∧ tx ms 2 ≠ wAS
  · have kA : 2 < ms.length ∧ pln (ms.map WdM.wd) 2 ≠ some wAS := ⟨cA.1, fun e => cA.2 ((pln_tx (by decide)).1 e)⟩
    rw [if_pos kA, if_pos cA]; rfl
  have kA : ¬ (2 < ms.length ∧ pln (ms.map WdM.wd) 2 ≠ some wAS) := fun hc => cA ⟨hc.1, fun e => hc.2 ((pln_tx (by decide)).2 e)⟩
  rw [if_neg kA, if_neg cA]
  by_cases c3 : ms.length = 3
  · rw [if_pos c3, if_pos c3]; rfl
  rw [if_neg c3, if_neg c3]
  by_cases c4 : ms.length = 4
  · rw [if_pos c4]
    by_cases s3 : stageNm (tx ms 3) = true
    · have k3 : ¬ (ms.length = 4 ∧ stageNm (tx ms 3) = false) := fun hc => by rw [s3] at hc; cases hc.2
      rw [if_pos s3, if_neg k3]
      simp only
      by_cases s1 : stageNm (tx ms 1) = true
      · have k1 : ¬ stageNm (tx ms 1) = false := by rw [s1]; decide
        rw [if_pos s1, if_neg k1]
        simp only
        exact from_tail h hl _ _ _ _ _ _ ⟨fun _ => sn_ne s3, fun _ => c4⟩ _ rfl |>.trans (by rw [if_pos c4])
      · have k1 : stageNm (tx ms 1) = false := by simpa using s1
        rw [if_neg s1, if_pos k1]; rfl
    · have k3 : ms.length = 4 ∧ stageNm (tx ms 3) = false := ⟨c4, by simpa using s3⟩
      rw [if_neg s3, if_pos k3]; rfl
  · have k3 : ¬ (ms.length = 4 ∧ stageNm (tx ms 3) = false) := fun hc => c4 hc.1
    rw [if_neg c4, if_neg k3]
    by_cases s1 : stageNm (tx ms 1) = true
    · have k1 : ¬ stageNm (tx ms 1) = false := by rw [s1]; decide
      rw [if_pos s1, if_neg k1]
      simp only
      have hft := from_tail h hl (tx ms 1) [] (px ms 0) (px ms 1) (px ms 3) (ms.length = 4) ⟨fun e => absurd e c4, fun e => absurd rfl e⟩ [] rfl
      rw [hft]
      have k5 : ¬ (ms.length = 4 ∧ (([] : List UInt8) = wScratch ∨ 0 ≤ callD ss [])) := fun hc => c4 hc.1
      have k6 : ¬ (ms.length = 4 ∧ (tx ms 3 = wScratch ∨ 0 ≤ callD ss (tx ms 3))) := fun hc => c4 hc.1
      rw [if_neg k5, if_neg k6, if_neg c4]
    · have k1 : stageNm (tx ms 1) = false := by simpa using s1
      rw [if_neg s1, if_pos k1]; rfl
end Go.Proofs.YtkikhmleffcajaaGreatDoor
