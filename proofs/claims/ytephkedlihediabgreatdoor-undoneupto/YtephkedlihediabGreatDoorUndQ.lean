import Derived.Test.YtephkedlihediabGreatDoorUndP
import Derived.Test.YtephkedlihediabGreatDoorPatT
namespace Go.Proofs.YtephkedlihediabGreatDoor
open Go.RowKit

theorem ents_one : ∀ {l m : List Ent}, l.Pairwise (fun x y => ltP x.q y.q = true) → m.Pairwise (fun x y => ltP x.q y.q = true) → (∀ e, e ∈ l ↔ e ∈ m) → l = m
  | [], m, _, _, h => by
    cases m with
    | nil => rfl
    | cons y m => exact absurd ((h y).2 (by simp)) (by simp)
  | x :: l, [], _, _, h => absurd ((h x).1 (by simp)) (by simp)
  | x :: l, y :: m, hx, hy, h => by
    have hx' := List.pairwise_cons.1 hx
    have hy' := List.pairwise_cons.1 hy
    have e : x = y := by
      rcases List.mem_cons.1 ((h x).1 (by simp)) with h1 | h1
      · exact h1
      · rcases List.mem_cons.1 ((h y).2 (by simp)) with h2 | h2
        · exact h2.symm
        · have := totP.trans (hy'.1 x h1) (hx'.1 y h2)
          rw [totP.irr] at this; cases this
    subst e
    rw [ents_one hx'.2 hy'.2 fun e => ?_]
    constructor
    · intro he
      rcases List.mem_cons.1 ((h e).1 (by simp [he])) with h1 | h1
      · have := hx'.1 e he
        rw [h1, totP.irr] at this; cases this
      · exact h1
    · intro he
      rcases List.mem_cons.1 ((h e).2 (by simp [he])) with h1 | h1
      · have := hy'.1 e he
        rw [h1, totP.irr] at this; cases this
      · exact h1
theorem step_q {xa xb : List Ent} {p : List UInt8} {c : Ent} (h : c ∈ stepF xa xb p) : c.q = p := by
  rcases step_told.1 h with ⟨h1, _⟩ | ⟨rfl, _⟩ | ⟨rfl, _⟩
  · exact (atE_some h1).2
  · rfl
  · rfl
theorem flat_told {xa xb : List Ent} {l : List (List UInt8)} {c : Ent} (h : c ∈ (l.map (stepF xa xb)).flatten) : ∃ p ∈ l, c ∈ stepF xa xb p := by
  obtain ⟨s, hs, hc⟩ := List.mem_flatten.1 h
  obtain ⟨p, hp, rfl⟩ := List.mem_map.1 hs
  exact ⟨p, hp, hc⟩
/-- What holds of two of one path, and of any two of two, holds of all. -/
theorem flat_pairs {xa xb : List Ent} {R : Ent → Ent → Prop} (h1 : ∀ p, (stepF xa xb p).Pairwise R) (h2 : ∀ p q c d, ltP p q = true → c ∈ stepF xa xb p → d ∈ stepF xa xb q → R c d) : ∀ l : List (List UInt8), l.Pairwise (fun x y => ltP x y = true) → ((l.map (stepF xa xb)).flatten).Pairwise R
  | [], _ => by simp
  | p :: l, hl => by
    have hl' := List.pairwise_cons.1 hl
    rw [List.map_cons, List.flatten_cons, List.pairwise_append]
    refine ⟨h1 p, flat_pairs h1 h2 l hl'.2, fun c hc d hd => ?_⟩
    obtain ⟨q, hq, hdq⟩ := flat_told hd
    exact h2 p q c d (hl'.1 q hq) hc hdq
theorem allP_risingS {xa xb : List Ent} (ha : TreeS xa) (hb : TreeS xb) : (allP xa xb).Pairwise fun x y => ltP x y = true := by
  rw [allP, List.pairwise_cons]
  refine ⟨fun p hp => ltP_root ?_, mrg_rising (List.pairwise_map.2 ha.ord) (List.pairwise_map.2 hb.ord)⟩
  rcases (mrg_mem _ _ _).1 hp with h | h
  · obtain ⟨e, he, rfl⟩ := List.mem_map.1 h
    exact ha.q_ne he
  · obtain ⟨e, he, rfl⟩ := List.mem_map.1 h
    exact hb.q_ne he
theorem lt_back {p q : List UInt8} (h : ltP p q = true) : ltP q p = false := by
  cases h2 : ltP q p
  · rfl
  · have := totP.trans h h2
    rw [totP.irr] at this; cases this
theorem same_pairs {l : List Ent} {p : List UInt8} (h : ∀ c ∈ l, c.q = p) : l.Pairwise fun x y => ltP y.q x.q = false := by
  rw [List.pairwise_iff_getElem]
  intro i j hi hj _
  rw [h _ (List.getElem_mem hi), h _ (List.getElem_mem hj), totP.irr]
theorem diff_ord {xa xb : List Ent} (ha : TreeS xa) (hb : TreeS xb) : (diffF xa xb).Pairwise fun x y => ltP y.q x.q = false :=
  flat_pairs (fun _ => same_pairs fun _ hc => step_q hc) (fun p q c d hl hc hd => by rw [step_q hc, step_q hd]; exact lt_back hl) _ (allP_risingS ha hb)
/-- Nothing of a tree stands below what is no Dir there. -/
theorem none_below {xb : List Ent} (hB : TreeS xb) {p z : List UInt8} (hp : p ≠ []) (hk : kindP xb p ≠ 1) (hu : under p z) : atE xb z = none := by
  cases hz : atE xb z with
  | none => rfl
  | some y =>
    exfalso
    have h2 := atE_some hz
    obtain ⟨d, hd, hq, h1⟩ := hB.up (e := y) hp h2.1 (by rw [show y.q = z from h2.2]; exact hu)
    exact hk (by rw [← hq, mem_kind hB hd]; exact h1)
theorem kind_none {xb : List Ent} {p : List UInt8} (hp : p ≠ []) (h : atE xb p = none) : kindP xb p = 0 := by rw [kindP_at hp, h]
theorem step_not_below {xa xb : List Ent} (hA : TreeS xa) (hB : TreeS xb) {p q : List UInt8} {d : Ent} (hp : p ≠ []) (hk : kindP xb p ≠ 1) (hd : d ∈ stepF xa xb q) : ¬ under p q := fun hu => by
  have hn := none_below hB hp hk hu
  have hq0 : q ≠ [] := fun e => by rw [e] at hu; exact not_under_nil hu
  rcases step_told.1 hd with ⟨h1, _⟩ | ⟨_, h1⟩ | ⟨_, h1⟩
  · rw [hn] at h1; cases h1
  · have := (clr_parts h1).2.1
    rw [kind_none hq0 hn] at this; cases this
  · obtain ⟨⟨e, he⟩, _, h3, _⟩ := gone_parts h1
    have he2 := atE_some he
    have hP : Parted q := by rw [← he2.2]; exact parted_of (hA.ent e he2.1)
    rcases hP.up hu with h4 | h4
    · exact hk (by rw [h4]; exact h3)
    · have hd0 : dirOf q ≠ [] := fun e => by rw [e] at h4; exact not_under_nil h4
      rw [kind_none hd0 (none_below hB hp hk h4)] at h3; cases h3
theorem told_path {xa xb : List Ent} (hA : TreeS xa) (hB : TreeS xb) {p : List UInt8} (hp : p ∈ allP xa xb) : isP p = true := by
  rcases allP_mem.1 hp with rfl | h | h
  · rfl
  · obtain ⟨e, he, rfl⟩ := List.mem_map.1 h
    exact (ent_parts (hA.ent e he)).2.1
  · obtain ⟨e, he, rfl⟩ := List.mem_map.1 h
    exact (ent_parts (hB.ent e he)).2.1
theorem step_path {xa xb : List Ent} (hA : TreeS xa) (hB : TreeS xb) {p : List UInt8} {c : Ent} (hc : c ∈ stepF xa xb p) : isP p = true := by
  rcases step_told.1 hc with ⟨h1, _⟩ | ⟨_, h1⟩ | ⟨_, h1⟩
  · rw [← (atE_some h1).2]; exact (ent_parts (hB.ent c (atE_some h1).1)).2.1
  · by_cases hp : p = []
    · rw [hp]; rfl
    · obtain ⟨d, hd, hq, _⟩ := kindP_one (clr_parts h1).1 hp
      rw [← hq]; exact (ent_parts (hA.ent d hd)).2.1
  · obtain ⟨⟨e, he⟩, _⟩ := gone_parts h1
    rw [← (atE_some he).2]; exact (ent_parts (hA.ent e (atE_some he).1)).2.1
theorem step_flw {xa xb : List Ent} (hA : TreeS xa) (hB : TreeS xb) {p q : List UInt8} {d c : Ent} (hl : ltP p q = true) (hd : d ∈ stepF xa xb p) (hc : c ∈ stepF xa xb q) : flw d c = true := by
  have hdq : d.path.data.toList = p := step_q hd
  have hcq : c.path.data.toList = q := step_q hc
  have hne : p ≠ q := fun e => by rw [e, totP.irr] at hl; cases hl
  unfold flw
  rw [hdq, hcq, if_neg hne, hl, Bool.true_and]
  by_cases hk : d.kind = 1 ∨ d.kind = 5
  · rw [decide_eq_true hk]; rfl
  · rw [decide_eq_false hk, Bool.false_or]
    have hpb : p ≠ [] ∧ kindP xb p ≠ 1 := by
      rcases step_told.1 hd with ⟨h1, _⟩ | ⟨rfl, _⟩ | ⟨_, h1⟩
      · have h2 := atE_some h1
        have hq0 : p ≠ [] := by rw [← h2.2]; exact hB.q_ne h2.1
        exact ⟨hq0, fun h => hk (.inl (by rw [← h2.2] at h; rw [← mem_kind hB h2.1]; exact h))⟩
      · exact absurd (.inr rfl) hk
      · obtain ⟨⟨e, he⟩, hno, _⟩ := gone_parts h1
        have hq0 : p ≠ [] := by rw [← (atE_some he).2]; exact hA.q_ne (atE_some he).1
        exact ⟨hq0, by rw [kind_none hq0 hno]; decide⟩
    have := step_not_below hA hB hpb.1 hpb.2 hc
    rw [← prefix_under hpb.1 (step_path hA hB hc)] at this
    simpa using this
theorem gone_alone {xa xb : List Ent} {p : List UInt8} (h : goneF xa xb p = true) (hA : TreeS xa) : stepF xa xb p = [markE p 4] := by
  obtain ⟨⟨e, he⟩, hno, _⟩ := gone_parts h
  have hq0 : p ≠ [] := by rw [← (atE_some he).2]; exact hA.q_ne (atE_some he).1
  have hc : ¬ clrF xa xb p = true := fun hc => by
    have := (clr_parts hc).2.1
    rw [kind_none hq0 hno] at this; cases this
  unfold stepF putF
  rw [hno, if_neg hc, if_pos h]; rfl
theorem step_one {xa xb : List Ent} (hA : TreeS xa) (hB : TreeS xb) (p : List UInt8) : (stepF xa xb p).Pairwise (fun d c => flw d c = true) ∧ (stepF xa xb p).length ≤ 2 := by
  by_cases hg : goneF xa xb p = true
  · rw [gone_alone hg hA]; simp
  · unfold stepF
    rw [if_neg hg, List.append_nil]
    by_cases hc : clrF xa xb p = true
    · rw [if_pos hc]
      have hl : putF xa xb p = [] ∨ ∃ y, putF xa xb p = [y] ∧ y.q = p ∧ y ∈ xb := by
        unfold putF
        cases hb : atE xb p with
        | none => exact .inl rfl
        | some y =>
          have hy : y.q = p ∧ y ∈ xb := ⟨(atE_some hb).2, (atE_some hb).1⟩
          cases ha : atE xa p with
          | none => exact .inr ⟨y, rfl, hy⟩
          | some x =>
            by_cases h : eqE x y = true
            · left; simp [h]
            · right; exact ⟨y, by simp [h], hy⟩
      rcases hl with h | ⟨y, h, hq, hy⟩
      · rw [h]; simp
      · rw [h]
        refine ⟨?_, by simp⟩
        simp only [List.cons_append, List.nil_append, List.pairwise_cons, List.mem_singleton, forall_eq, List.not_mem_nil, false_implies, implies_true, List.Pairwise.nil, and_true]
        have hk := (clr_parts hc).2.1
        rw [← hq, mem_kind hB hy] at hk
        unfold flw
        rw [if_pos (show y.path.data.toList = (markE p 5).path.data.toList from hq), hk]; rfl
    · rw [if_neg hc, List.append_nil]
      unfold putF
      split
      · simp
      · split
        · simp
        · split <;> simp
theorem diff_flw {xa xb : List Ent} (hA : TreeS xa) (hB : TreeS xb) : (diffF xa xb).Pairwise fun d c => flw d c = true :=
  flat_pairs (fun p => (step_one hA hB p).1) (fun _ _ _ _ hl hc hd => step_flw hA hB hl hc hd) _ (allP_risingS hA hB)
theorem flatD_len {xa xb : List Ent} (hA : TreeS xa) (hB : TreeS xb) : ∀ l : List (List UInt8), ((l.map (stepF xa xb)).flatten).length ≤ l.length * 2
  | [] => by simp
  | p :: l => by
    have h1 := (step_one hA hB p).2
    have h2 := flatD_len hA hB l
    simp only [List.map_cons, List.flatten_cons, List.length_append, List.length_cons]
    omega
theorem diff_len {xa xb : List Ent} (hA : TreeS xa) (hB : TreeS xb) (h : xa.length + xb.length ≤ 39) : (diffF xa xb).length ≤ 80 := by
  have h1 := flatD_len hA hB (allP xa xb)
  have h2 := mrg_len (ptsE xa) (ptsE xb)
  have h3 : (ptsE xa).length = xa.length := by simp [ptsE]
  have h4 : (ptsE xb).length = xb.length := by simp [ptsE]
  rw [diffF]
  simp only [allP, List.length_cons] at h1 ⊢
  omega
theorem diff_chOk {xa xb : List Ent} (hA : TreeS xa) (hB : TreeS xb) {c : Ent} (hc : c ∈ diffF xa xb) : chOk c = true := by
  obtain ⟨p, _, h⟩ := diff_told.1 hc
  have hp := step_path hA hB h
  rcases step_told.1 h with ⟨h1, _⟩ | ⟨rfl, _⟩ | ⟨rfl, h1⟩
  · have hm := (atE_some h1).1
    have hk := hB.kinds hm
    unfold chOk
    rw [if_neg (by omega)]
    exact hB.ent c hm
  · unfold chOk
    rw [if_pos (.inr rfl), show (markE p 5).path.data.toList = p from rfl, hp]; rfl
  · obtain ⟨⟨e, he⟩, _⟩ := gone_parts h1
    have hq0 : p ≠ [] := by rw [← (atE_some he).2]; exact hA.q_ne (atE_some he).1
    unfold chOk
    rw [if_pos (.inl rfl), show (markE p 4).path.data.toList = p from rfl, hp, beq_nil hq0]; rfl
/-- What is told are changes. -/
theorem diff_fine {xa xb : List Ent} (hA : TreeS xa) (hB : TreeS xb) (h : xa.length + xb.length ≤ 39) : FirstBadC (diffF xa xb) (-1) := by
  refine .inl ⟨rfl, fun i hi => ?_⟩
  have hl := diff_len hA hB h
  have he : (diffF xa xb)[i]? = some (diffF xa xb)[i] := List.getElem?_eq_getElem hi
  rw [okCh_eq he, diff_chOk hA hB (List.getElem_mem hi), decide_eq_true (show i < 80 by omega)]
  by_cases h0 : i = 0
  · rw [decide_eq_true h0]; rfl
  · rw [decide_eq_false h0, List.getElem?_eq_getElem (by omega)]
    have := List.pairwise_iff_getElem.1 (diff_flw hA hB) (i - 1) i (by omega) hi (by omega)
    simpa using this
/-- The marks name what is there. -/
theorem diff_marks {xa xb : List Ent} (hA : TreeS xa) (hB : TreeS xb) : FirstP (mrkAt xa (diffF xa xb)) (diffF xa xb).length (-1) := by
  refine .inl ⟨rfl, fun i hi => ?_⟩
  rw [mrkAt_eq (List.getElem?_eq_getElem hi)]
  have hm := List.getElem_mem hi
  generalize (diffF xa xb)[i] = c at hm
  unfold mrkBad
  by_cases h4 : c.kind = 4
  · obtain ⟨_, hg⟩ := told_gone hB hm h4
    obtain ⟨⟨e, he⟩, _⟩ := gone_parts hg
    have he2 := atE_some he
    have hk : kindP xa c.path.data.toList ≠ 0 := by
      rw [show c.path.data.toList = e.q from he2.2.symm, mem_kind hA he2.1]
      have := hA.kinds he2.1
      omega
    rw [decide_eq_false hk, decide_eq_false (show ¬ c.kind = 5 by omega)]; simp
  · by_cases h5 : c.kind = 5
    · obtain ⟨_, hg⟩ := told_clr hB hm h5
      rw [decide_eq_false h4, decide_eq_true (show kindP xa c.path.data.toList = 1 from (clr_parts hg).1)]; simp
    · rw [decide_eq_false h4, decide_eq_false h5]; rfl
/-- The entries put, one by one. -/
theorem puts_go {xa xb : List Ent} (hA : TreeS xa) (hB : TreeS xb) : ∀ (rest pre t : List Ent), diffF xa xb = pre ++ rest → TreeS t → (∀ e ∈ t, e ∈ xb ∨ e ∈ marksF xa (diffF xa xb)) → (∀ e ∈ xb, e ∈ xa ∨ e ∈ pre → e ∈ t) →
    TreeS (putsF t rest) ∧ (∀ e ∈ putsF t rest, e ∈ xb ∨ e ∈ marksF xa (diffF xa xb)) ∧ (∀ e ∈ xb, e ∈ xa ∨ e ∈ pre ++ rest → e ∈ putsF t rest) ∧ ∀ i c, rest[i]? = some c → ¬ (c.kind = 4 ∨ c.kind = 5) → kindP (putsF t (rest.take i)) (dirOf c.q) = 1
  | [], pre, t, _, hT, h2, h3 => ⟨hT, h2, by simpa [putsF] using h3, fun i c h => by simp at h⟩
  | c :: rest, pre, t, hD, hT, h2, h3 => by
    have hcD : c ∈ diffF xa xb := by rw [hD]; simp
    have hD' : diffF xa xb = (pre ++ [c]) ++ rest := by rw [hD]; simp
    by_cases hk : c.kind = 4 ∨ c.kind = 5
    · have e1 : put1 t c = t := by rw [put1, if_pos hk]
      obtain ⟨q1, q2, q3, q4⟩ := puts_go hA hB rest (pre ++ [c]) t hD' hT h2 (fun e he h => by
        rcases h with h | h
        · exact h3 e he (.inl h)
        · rcases List.mem_append.1 h with h | h
          · exact h3 e he (.inr h)
          · have : e = c := by simpa using h
            subst this
            have := hB.kinds he
            omega)
      have e2 : ∀ l, putsF t (c :: l) = putsF t l := fun l => by rw [putsF, List.foldl_cons, e1]; rfl
      rw [e2]
      refine ⟨q1, q2, fun e he h => q3 e he (by simpa using h), fun i d hi hd => ?_⟩
      cases i with
      | zero =>
        have : c = d := by simpa using hi
        subst this
        exact absurd hk hd
      | succ i =>
        rw [List.take_succ_cons, e2]
        exact q4 i d (by simpa using hi) hd
    · have hcb : c ∈ xb := told_put hB hcD hk
      have hP : Parted c.q := parted_of (hB.ent c hcb)
      have hdir : kindP t (dirOf c.q) = 1 := by
        rcases hB.dir c hcb with h0 | ⟨d, hd, hp, hk1⟩
        · rw [show dirOf c.q = [] from h0]; rfl
        · have hp' : d.q = dirOf c.q := hp
          have hdt : d ∈ t := h3 d hd (by
            by_cases hda : d ∈ xa
            · exact .inl hda
            · right
              have hdD := put_in hB hd hda
              have hlt : ltP d.q c.q = true := by rw [hp']; exact under_lt hP.under
              have ho := diff_ord hA hB
              rw [hD] at hdD ho
              rcases List.mem_append.1 hdD with h | h
              · exact h
              · exfalso
                rcases List.mem_cons.1 h with h | h
                · rw [h, totP.irr] at hlt; cases hlt
                · have h9 := (List.pairwise_cons.1 (List.pairwise_append.1 ho).2.1).1 d h
                  rw [hlt] at h9; cases h9)
          rw [← hp', mem_kind hT hdt]; exact hk1
      have e1 : put1 t c = putE t c := by rw [put1, if_neg hk]
      have hT' : TreeS (putE t c) := put_tree hT (hB.ent c hcb) hdir
      obtain ⟨q1, q2, q3, q4⟩ := puts_go hA hB rest (pre ++ [c]) (putE t c) hD' hT' (fun e he => by
        rcases put_mem.1 he with rfl | ⟨h, _⟩
        · exact .inl hcb
        · exact h2 e h) (fun e he h => by
        by_cases hec : e = c
        · rw [hec]; exact put_mem.2 (.inl rfl)
        · have het : e ∈ t := h3 e he (by
            rcases h with h | h
            · exact .inl h
            · rcases List.mem_append.1 h with h | h
              · exact .inr h
              · exact absurd (by simpa using h) hec)
          have hne : e.q ≠ c.q := fun h => hec (hB.one he hcb h)
          refine put_mem.2 (.inr ⟨het, ?_⟩)
          cases hlt : ltP e.q c.q
          · right
            refine keepPut_iff.2 ⟨?_, ?_⟩
            · cases h5 : ltP c.q e.q
              · exact absurd (totP.one hlt h5) hne
              · rfl
            · by_cases hu : under c.q e.q
              · left
                obtain ⟨d, hd, hdq, hd1⟩ := hB.up (hB.q_ne hcb) he hu
                have hc1 : c.kind = 1 := by rw [← hB.one hd hcb hdq]; exact hd1
                obtain ⟨f, hf, hfq, hf1⟩ := hT.up (hB.q_ne hcb) het hu
                simp only [bothE, Bool.and_eq_true, decide_eq_true_eq]
                refine ⟨?_, hc1⟩
                show kindP t c.q = 1
                rw [← hfq, mem_kind hT hf]; exact hf1
              · exact .inr hu
          · exact .inl rfl)
      have e2 : ∀ l, putsF t (c :: l) = putsF (putE t c) l := fun l => by rw [putsF, List.foldl_cons, e1]; rfl
      rw [e2]
      refine ⟨q1, q2, fun e he h => q3 e he (by simpa using h), fun i d hi hd => ?_⟩
      cases i with
      | zero =>
        have : c = d := by simpa using hi
        subst this
        exact hdir
      | succ i =>
        rw [List.take_succ_cons, e2]
        exact q4 i d (by simpa using hi) hd
/-- What makes b of a makes b of a. -/
theorem diff_does {xa xb : List Ent} (hA : TreeS xa) (hB : TreeS xb) : patF xa (diffF xa xb) = xb ∧ FirstP (putBad (marksF xa (diffF xa xb)) (diffF xa xb)) (diffF xa xb).length (-1) := by
  obtain ⟨h1, h2, h3, h4⟩ := puts_go hA hB (diffF xa xb) [] (marksF xa (diffF xa xb)) rfl (marks_tree _ hA) (fun e he => .inr he) (fun e he h => by
    rcases h with h | h
    · exact both_stay hA hB h he
    · cases h)
  have hall : ∀ e ∈ xb, e ∈ putsF (marksF xa (diffF xa xb)) (diffF xa xb) := fun e he => h3 e he (by
    by_cases h : e ∈ xa
    · exact .inl h
    · exact .inr (put_in hB he h))
  refine ⟨ents_one h1.ord hB.ord fun e => ⟨fun he => ?_, hall e⟩, .inl ⟨rfl, fun i hi => ?_⟩⟩
  · rcases h2 e he with h | h
    · exact h
    · cases hf : atE xb e.q with
      | some y =>
        have hy := atE_some hf
        rw [← h1.one (hall y hy.1) he hy.2]; exact hy.1
      | none =>
        exfalso
        obtain ⟨y, hy, hk, hu⟩ := lone_gone hA hB _ e (Nat.le_refl _) h hf
        obtain ⟨d, hd, hdq, hd1⟩ := h1.up (hB.q_ne hy) he hu
        have := h1.one hd (hall y hy) hdq
        rw [this] at hd1
        exact hk hd1
  · rw [putBad_eq (List.getElem?_eq_getElem hi)]
    by_cases hk : (diffF xa xb)[i].kind = 4 ∨ (diffF xa xb)[i].kind = 5
    · rw [decide_eq_true hk]; rfl
    · rw [decide_eq_true (show kindP (putsF (marksF xa (diffF xa xb)) ((diffF xa xb).take i)) (dirOf (diffF xa xb)[i].path.data.toList) = 1 from h4 i _ (List.getElem?_eq_getElem hi) hk)]; simp
/-- Nothing makes a of a. -/
theorem diff_same {xa : List Ent} (hA : TreeS xa) : diffF xa xa = [] := by
  have hn : ∀ c, ¬ c ∈ diffF xa xa := fun c hc => by
    obtain ⟨p, _, h⟩ := diff_told.1 hc
    rcases step_told.1 h with ⟨h1, h2⟩ | ⟨_, h1⟩ | ⟨_, h1⟩
    · exact h2 h1
    · have hcp := clr_parts h1
      simp only [clrF, Bool.and_eq_true, decide_eq_true_eq] at h1
      have hl := h1.2
      cases hk : kidsE xa p with
      | nil => rw [hk] at hl; simp at hl
      | cons k ks =>
        have hkm : k ∈ kidsE xa p := by rw [hk]; simp
        rw [kidsE, List.mem_filter] at hkm
        have h0 := hcp.2.2 k hkm.1 (by simpa [Ent.q] using hkm.2)
        rw [mem_kind hA hkm.1] at h0
        have := hA.kinds hkm.1
        omega
    · obtain ⟨⟨e, he⟩, hno, _⟩ := gone_parts h1
      rw [he] at hno; cases hno
  exact List.eq_nil_iff_forall_not_mem.2 hn
end Go.Proofs.YtephkedlihediabGreatDoor
