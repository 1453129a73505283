import Derived.Test.YtephkedlihediabGreatDoorPatR
namespace Go.Proofs.YtephkedlihediabGreatDoor
open Go.RowKit

theorem not_under_nil {p : List UInt8} : ¬ under p [] := fun ⟨a, u, e⟩ => by
  rw [prt_nil] at e
  simp at e
theorem under_short {p q : List UInt8} (h : under p q) : (prt p).length < (prt q).length := by
  obtain ⟨a, u, e⟩ := h
  rw [e]; simp
/-- What stands above an entry is a Dir. -/
theorem TreeS.above {es : List Ent} (h : TreeS es) {q : List UInt8} (hq : q ≠ []) : ∀ (n : Nat) (e : Ent), (prt e.q).length ≤ n → e ∈ es → under q e.q → ∃ d ∈ es, d.q = q ∧ d.kind = 1
  | 0, e, hn, _, hu => by have := under_short hu; omega
  | n + 1, e, hn, he, hu => by
    have hP : Parted e.q := parted_of (h.ent e he)
    rcases h.dir e he with h0 | ⟨d, hd, hp, hk⟩
    · exfalso
      rcases hP.up hu with h1 | h1
      · exact hq (h1.trans h0)
      · rw [show dirOf e.q = [] from h0] at h1
        exact not_under_nil h1
    · have hp' : d.q = dirOf e.q := hp
      rcases hP.up hu with h1 | h1
      · exact ⟨d, hd, hp'.trans h1.symm, hk⟩
      · have hl := under_short hP.under
        exact TreeS.above h hq n d (by rw [hp']; omega) hd (by rw [hp']; exact h1)
theorem TreeS.up {es : List Ent} (h : TreeS es) {q : List UInt8} (hq : q ≠ []) {e : Ent} (he : e ∈ es) (hu : under q e.q) : ∃ d ∈ es, d.q = q ∧ d.kind = 1 := h.above hq _ e (Nat.le_refl _) he hu
/-- The one in a directory through which the way goes. -/
theorem TreeS.way {es : List Ent} (h : TreeS es) {q : List UInt8} : ∀ (n : Nat) (e : Ent), (prt e.q).length ≤ n → e ∈ es → under q e.q → ∃ k ∈ es, dirOf k.q = q ∧ (k.q = e.q ∨ under k.q e.q)
  | 0, e, hn, _, hu => by have := under_short hu; omega
  | n + 1, e, hn, he, hu => by
    have hP : Parted e.q := parted_of (h.ent e he)
    rcases hP.up hu with h1 | h1
    · exact ⟨e, he, h1.symm, .inl rfl⟩
    · rcases h.dir e he with h0 | ⟨d, hd, hp, hk⟩
      · rw [show dirOf e.q = [] from h0] at h1
        exact absurd h1 not_under_nil
      · have hp' : d.q = dirOf e.q := hp
        have hl := under_short hP.under
        obtain ⟨k, hk1, hk2, hk3⟩ := TreeS.way h n d (by rw [hp']; omega) hd (by rw [hp']; exact h1)
        refine ⟨k, hk1, hk2, .inr ?_⟩
        have hu2 : under d.q e.q := by rw [hp']; exact hP.under
        rcases hk3 with h3 | h3
        · rw [h3]; exact hu2
        · exact under_trans h3 hu2
theorem TreeS.q_ne {es : List Ent} (h : TreeS es) {e : Ent} (he : e ∈ es) : e.q ≠ [] := (ent_parts (h.ent e he)).1
theorem TreeS.kinds {es : List Ent} (h : TreeS es) {e : Ent} (he : e ∈ es) : e.kind = 1 ∨ e.kind = 2 ∨ e.kind = 3 := good_kind (ent_parts (h.ent e he)).2.2
theorem mem_kind {es : List Ent} (h : TreeS es) {e : Ent} (he : e ∈ es) : kindP es e.q = e.kind := by
  rw [kindP_at (h.q_ne he), show atE es e.q = some e from h.at he]
theorem kind0 {es : List Ent} {p : List UInt8} (h : TreeS es) (h0 : kindP es p = 0) : atE es p = none := by
  by_cases hp : p = []
  · rw [hp] at h0; cases h0
  · rw [kindP_at hp] at h0
    cases hf : atE es p with
    | none => rfl
    | some d =>
      rw [hf] at h0
      have := h.kinds (atE_some hf).1
      have h0' : d.kind = 0 := h0
      omega

theorem put_told {xa xb : List Ent} {p : List UInt8} {c : Ent} : c ∈ putF xa xb p ↔ atE xb p = some c ∧ atE xa p ≠ some c := by
  unfold putF
  cases hb : atE xb p with
  | none => simp
  | some y =>
    cases ha : atE xa p with
    | none => simp [eq_comm]
    | some x =>
      show (c ∈ if eqE x y = true then [] else [y]) ↔ _
      by_cases h : eqE x y = true
      · have e := eqE_iff.1 h
        rw [if_pos h]
        subst e
        simp
      · rw [if_neg h]
        have hne : x ≠ y := fun e => h (eqE_iff.2 e)
        constructor
        · intro hc
          have : c = y := by simpa using hc
          subst this
          exact ⟨rfl, fun e => hne (Option.some.inj e)⟩
        · rintro ⟨e, _⟩
          rw [Option.some.inj e]; simp
theorem markE_q (p : List UInt8) (k : Int) : (markE p k).q = p := rfl
/-- What is told at a path, one by one. -/
theorem step_told {xa xb : List Ent} {p : List UInt8} {c : Ent} : c ∈ stepF xa xb p ↔ (atE xb p = some c ∧ atE xa p ≠ some c) ∨ (c = markE p 5 ∧ clrF xa xb p = true) ∨ (c = markE p 4 ∧ goneF xa xb p = true) := by
  unfold stepF
  rw [List.mem_append, List.mem_append, put_told]
  constructor
  · rintro ((h | h) | h)
    · exact .inl h
    · split at h
      · rename_i hc; exact .inr (.inl ⟨by simpa using h, hc⟩)
      · cases h
    · split at h
      · rename_i hc; exact .inr (.inr ⟨by simpa using h, hc⟩)
      · cases h
  · rintro (h | ⟨rfl, h⟩ | ⟨rfl, h⟩)
    · exact .inl (.inl h)
    · rw [if_pos h]; exact .inl (.inr (by simp))
    · rw [if_pos h]; exact .inr (by simp)
theorem diff_told {xa xb : List Ent} {c : Ent} : c ∈ diffF xa xb ↔ ∃ p ∈ allP xa xb, c ∈ stepF xa xb p := by
  rw [diffF, List.mem_flatten]
  constructor
  · rintro ⟨l, hl, hc⟩
    obtain ⟨p, hp, rfl⟩ := List.mem_map.1 hl
    exact ⟨p, hp, hc⟩
  · rintro ⟨p, hp, hc⟩
    exact ⟨_, List.mem_map.2 ⟨p, hp, rfl⟩, hc⟩
theorem clr_parts {xa xb : List Ent} {p : List UInt8} (h : clrF xa xb p = true) : kindP xa p = 1 ∧ kindP xb p = 1 ∧ ∀ k ∈ xa, dirOf k.q = p → kindP xb k.q = 0 := by
  simp only [clrF, Bool.and_eq_true, decide_eq_true_eq, List.all_eq_true] at h
  refine ⟨h.1.1.1, h.1.1.2, fun k hk hd => h.1.2 k ?_⟩
  rw [kidsE, List.mem_filter]
  exact ⟨hk, by simpa [Ent.q] using hd⟩
theorem gone_parts {xa xb : List Ent} {p : List UInt8} (h : goneF xa xb p = true) : (∃ e, atE xa p = some e) ∧ atE xb p = none ∧ kindP xb (dirOf p) = 1 ∧ clrF xa xb (dirOf p) = false := by
  simp only [goneF, Bool.and_eq_true, decide_eq_true_eq, Bool.not_eq_true'] at h
  obtain ⟨⟨⟨h1, h2⟩, h3⟩, h4⟩ := h
  refine ⟨Option.isSome_iff_exists.1 h1, ?_, h3, h4⟩
  cases hb : atE xb p with
  | none => rfl
  | some y => rw [hb] at h2; cases h2
/-- What is no mark is an entry of the second tree. -/
theorem told_put {xa xb : List Ent} (_ : TreeS xb) {c : Ent} (hc : c ∈ diffF xa xb) (hk : ¬ (c.kind = 4 ∨ c.kind = 5)) : c ∈ xb := by
  obtain ⟨p, _, h⟩ := diff_told.1 hc
  rcases step_told.1 h with ⟨h1, _⟩ | ⟨rfl, _⟩ | ⟨rfl, _⟩
  · exact (atE_some h1).1
  · exact absurd (.inr rfl) hk
  · exact absurd (.inl rfl) hk
theorem told_gone {xa xb : List Ent} (hB : TreeS xb) {c : Ent} (hc : c ∈ diffF xa xb) (hk : c.kind = 4) : c = markE c.q 4 ∧ goneF xa xb c.q = true := by
  obtain ⟨p, _, h⟩ := diff_told.1 hc
  rcases step_told.1 h with ⟨h1, _⟩ | ⟨rfl, _⟩ | ⟨rfl, h1⟩
  · have := hB.kinds (atE_some h1).1; omega
  · have h5 : (5 : Int) = 4 := hk
    omega
  · exact ⟨rfl, h1⟩
theorem told_clr {xa xb : List Ent} (hB : TreeS xb) {c : Ent} (hc : c ∈ diffF xa xb) (hk : c.kind = 5) : c = markE c.q 5 ∧ clrF xa xb c.q = true := by
  obtain ⟨p, _, h⟩ := diff_told.1 hc
  rcases step_told.1 h with ⟨h1, _⟩ | ⟨rfl, h1⟩ | ⟨rfl, _⟩
  · have := hB.kinds (atE_some h1).1; omega
  · exact ⟨rfl, h1⟩
  · have h5 : (4 : Int) = 5 := hk
    omega
/-- What is new is told. -/
theorem put_in {xa xb : List Ent} (hB : TreeS xb) {e : Ent} (he : e ∈ xb) (hn : e ∉ xa) : e ∈ diffF xa xb := by
  refine diff_told.2 ⟨e.q, allP_mem.2 (.inr (.inr (List.mem_map.2 ⟨e, he, rfl⟩))), step_told.2 (.inl ⟨hB.at he, fun h => hn (atE_some h).1⟩)⟩
theorem clr_in {xa xb : List Ent} {p : List UInt8} (hp : p ∈ allP xa xb) (h : clrF xa xb p = true) : markE p 5 ∈ diffF xa xb := diff_told.2 ⟨p, hp, step_told.2 (.inr (.inl ⟨rfl, h⟩))⟩
theorem gone_in {xa xb : List Ent} {p : List UInt8} (hp : p ∈ allP xa xb) (h : goneF xa xb p = true) : markE p 4 ∈ diffF xa xb := diff_told.2 ⟨p, hp, step_told.2 (.inr (.inr ⟨rfl, h⟩))⟩
/-- What stays behind the marks. -/
theorem marks_mem : ∀ (cs : List Ent) (t : List Ent) (e : Ent), e ∈ marksF t cs ↔ e ∈ t ∧ ∀ c ∈ cs, (c.kind = 4 → keepW c.q true e.q = true) ∧ (c.kind = 5 → keepW c.q false e.q = true)
  | [], t, e => by simp [marksF]
  | c :: cs, t, e => by
    rw [show marksF t (c :: cs) = marksF (mark1 t c) cs from rfl, marks_mem cs]
    have h1 : e ∈ mark1 t c ↔ e ∈ t ∧ (c.kind = 4 → keepW c.q true e.q = true) ∧ (c.kind = 5 → keepW c.q false e.q = true) := by
      unfold mark1
      by_cases h4 : c.kind = 4
      · rw [if_pos h4, wo, woG, List.mem_filter]
        constructor
        · rintro ⟨a, b⟩; exact ⟨a, fun _ => b, fun h => by omega⟩
        · rintro ⟨a, b, _⟩; exact ⟨a, b h4⟩
      · rw [if_neg h4]
        by_cases h5 : c.kind = 5
        · rw [if_pos h5, wo, woG, List.mem_filter]
          constructor
          · rintro ⟨a, b⟩; exact ⟨a, fun h => absurd h h4, fun _ => b⟩
          · rintro ⟨a, _, b⟩; exact ⟨a, b h5⟩
        · rw [if_neg h5]
          exact ⟨fun a => ⟨a, fun h => absurd h h4, fun h => absurd h h5⟩, fun a => a.1⟩
    rw [h1]
    constructor
    · rintro ⟨⟨a, b⟩, d⟩
      refine ⟨a, fun x hx => ?_⟩
      rcases List.mem_cons.1 hx with rfl | hx
      · exact b
      · exact d x hx
    · rintro ⟨a, b⟩
      exact ⟨⟨a, b c (by simp)⟩, fun x hx => b x (by simp [hx])⟩
/-- What is in both stays. -/
theorem both_stay {xa xb : List Ent} (hA : TreeS xa) (hB : TreeS xb) {e : Ent} (ha : e ∈ xa) (hb : e ∈ xb) : e ∈ marksF xa (diffF xa xb) := by
  refine (marks_mem _ _ _).2 ⟨ha, fun c hc => ⟨fun h4 => ?_, fun h5 => ?_⟩⟩
  · obtain ⟨_, hg⟩ := told_gone hB hc h4
    obtain ⟨⟨x, hx⟩, hno, _, _⟩ := gone_parts hg
    have hx2 := atE_some hx
    refine keepW_iff.2 ⟨fun hu => ?_, fun _ he => ?_⟩
    · obtain ⟨d, hd, hp, _⟩ := hB.up (by rw [← hx2.2]; exact hA.q_ne hx2.1) hb hu
      exact atE_none hno d hd hp
    · exact atE_none hno e hb he
  · obtain ⟨_, hg⟩ := told_clr hB hc h5
    obtain ⟨_, _, hall⟩ := clr_parts hg
    refine keepW_iff.2 ⟨fun hu => ?_, fun h => by cases h⟩
    obtain ⟨k, hk, hd, hke⟩ := hA.way _ e (Nat.le_refl _) ha hu
    have h0 := kind0 hB (hall k hk hd)
    rcases hke with h1 | h1
    · exact atE_none h0 e hb h1.symm
    · obtain ⟨d, hd, hp, _⟩ := hB.up (hA.q_ne hk) hb h1
      exact atE_none h0 d hd hp
theorem keep_up {p q r : List UInt8} {self : Bool} (h : keepW p self r = true) (hu : under q r) : keepW p self q = true := by
  have h1 := keepW_iff.1 h
  refine keepW_iff.2 ⟨fun hpq => h1.1 (under_trans hpq hu), fun hs he => h1.1 ?_⟩
  rw [← he]; exact hu
/-- What is in the first alone is taken away by the marks, or stands below what is no Dir any more. -/
theorem lone_gone {xa xb : List Ent} (hA : TreeS xa) (hB : TreeS xb) : ∀ (n : Nat) (e : Ent), (prt e.q).length ≤ n → e ∈ marksF xa (diffF xa xb) → atE xb e.q = none → ∃ y ∈ xb, y.kind ≠ 1 ∧ under y.q e.q
  | 0, e, hn, he, _ => by
    have hP : Parted e.q := parted_of (hA.ent e ((marks_mem _ _ _).1 he).1)
    have := under_short hP.under
    omega
  | n + 1, e, hn, he, hno => by
    obtain ⟨ha, hm⟩ := (marks_mem _ _ _).1 he
    have hP : Parted e.q := parted_of (hA.ent e ha)
    have hin : e.q ∈ allP xa xb := allP_mem.2 (.inr (.inl (List.mem_map.2 ⟨e, ha, rfl⟩)))
    by_cases hk : kindP xb (dirOf e.q) = 1
    · exfalso
      by_cases hc : clrF xa xb (dirOf e.q) = true
      · have hd : dirOf e.q ∈ allP xa xb := by
          rcases hA.dir e ha with h0 | ⟨d, hd, hp, _⟩
          · exact allP_mem.2 (.inl h0)
          · exact allP_mem.2 (.inr (.inl (List.mem_map.2 ⟨d, hd, hp⟩)))
        have := (hm _ (clr_in hd hc)).2 rfl
        exact (keepW_iff.1 this).1 hP.under
      · have hg : goneF xa xb e.q = true := by
          simp only [goneF, Bool.and_eq_true, decide_eq_true_eq, Bool.not_eq_true']
          exact ⟨⟨⟨by rw [show atE xa e.q = some e from hA.at ha]; rfl, by rw [hno]; rfl⟩, hk⟩, by simpa using hc⟩
        have := (hm _ (gone_in hin hg)).1 rfl
        exact (keepW_iff.1 this).2 rfl rfl
    · have hd0 : dirOf e.q ≠ [] := fun h => hk (by rw [h]; rfl)
      cases hy : atE xb (dirOf e.q) with
      | some y =>
        have hy2 := atE_some hy
        have hyq : y.q = dirOf e.q := hy2.2
        refine ⟨y, hy2.1, fun h1 => hk ?_, by rw [hyq]; exact hP.under⟩
        rw [← hyq, mem_kind hB hy2.1]; exact h1
      | none =>
        rcases hA.dir e ha with h0 | ⟨d, hd, hp, _⟩
        · exact absurd h0 hd0
        · have hp' : d.q = dirOf e.q := hp
          have hu : under d.q e.q := by rw [hp']; exact hP.under
          have hdm : d ∈ marksF xa (diffF xa xb) := (marks_mem _ _ _).2 ⟨hd, fun c hc => ⟨fun h => keep_up ((hm c hc).1 h) hu, fun h => keep_up ((hm c hc).2 h) hu⟩⟩
          have hl := under_short hu
          obtain ⟨y, hy1, hy2, hy3⟩ := lone_gone hA hB n d (by omega) hdm (by rw [hp']; exact hy)
          exact ⟨y, hy1, hy2, under_trans hy3 hu⟩
end Go.Proofs.YtephkedlihediabGreatDoor
