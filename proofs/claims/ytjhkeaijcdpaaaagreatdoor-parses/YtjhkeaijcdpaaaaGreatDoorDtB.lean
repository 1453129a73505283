import Derived.Test.YtjhkeaijcdpaaaaGreatDoorDtA
import Derived.Test.YtjhkeaijcdpaaaaGreatDoorDcZ
namespace Go.Proofs.YtjhkeaijcdpaaaaGreatDoor
open Go.RowKit Go.Maps

theorem title_tit (ss : List DsM) (k : Int) : titleD ss k = titN (ss.map DsM.name) k := by
  unfold titleD titN
  by_cases h : k < 0
  · rw [if_pos h, if_pos h]
  · rw [if_neg h, if_neg h, List.getElem?_map]
    cases ss[k.toNat]? <;> rfl
theorem name_tit {ss : List DsM} {k : Int} (h : 0 ≤ k) : nameAt ss k = titN (ss.map DsM.name) k := by
  unfold nameAt titN
  rw [if_neg (by omega), List.getElem?_map]
  cases ss[k.toNat]? <;> rfl
theorem Rel.tok {ss : List DsM} {st : List Stg} (h : Rel ss st) (hl : ss.length ≤ 5) (hs : ∀ s ∈ ss, s.steps.length ≤ 24) : TOk ss := by
  have hg : ∀ s ∈ ss, ∃ i t, ss[i]? = some s ∧ RelS (ss.map DsM.name) st i s t := fun s hs => by
    obtain ⟨i, hi⟩ := List.getElem?_of_mem hs
    obtain ⟨t, _, hr⟩ := h.get' hi
    exact ⟨i, t, hi, hr⟩
  refine ⟨hl, fun s hs => ?_, hs, fun s hs => ?_, fun s hs p hp => ?_⟩
  · obtain ⟨i, t, _, hr⟩ := hg s hs
    obtain ⟨ws, _, hf⟩ := hr.ins
    obtain ⟨x0, x1, r, _, _, _, _, h5⟩ := hf.two
    rcases h5 with ⟨e, _⟩ | ⟨x2, x3, _, _, _, h6⟩
    · rw [e]; simp
    · exact (sn_sh h6).2
  · obtain ⟨i, t, hi, hr⟩ := hg s hs
    have := (List.getElem?_eq_some_iff.1 hi).1
    have := hr.brng.2
    omega
  · obtain ⟨i, t, hi, hr⟩ := hg s hs
    have hp' := hr.stp p hp
    obtain ⟨m0, _, _, ho⟩ := hp'.op
    refine ⟨(op_sh ho).2.1, ?_⟩
    rcases hp'.frm with ⟨_, e⟩ | ⟨_, _, e, _⟩
    · rw [e]; omega
    · rw [List.length_map] at e; exact e
theorem from_sh : ∀ c ∈ wFROM, shN c.toNat = true := by decide
theorem as_sh : ∀ c ∈ wAS, shN c.toNat = true := by decide
theorem frm_sh : ∀ c ∈ wFrm, shN c.toNat = true := by decide
theorem lineG_two (ws : List Wd) (k : Int) : lineG ⟨ws, k⟩ = Lib.join (ws.map fun x => formW (parts x.atoms)) [32] ++ [10] := by
  unfold lineG formI
  rw [List.map_map]; rfl
theorem head_line {ss : List DsM} {s : DsM} {ws : List Wd} (h : RelF (ss.map DsM.name) s.name s.base ws) : headF ss s = lineG ⟨ws, s.base⟩ := by
  obtain ⟨x0, x1, r, rfl, h0, h1, h2, h3⟩ := h.two
  have e0 := formW_plain h0 (by decide) from_sh
  have e1 := formW_plain h1 (sn_ne h2) (sn_sh h2).1
  rw [lineG_two]
  unfold headF
  rw [title_tit]
  rcases h3 with ⟨e, rfl⟩ | ⟨x2, x3, rfl, h4, h5, h6⟩
  · rw [if_pos e, List.map_cons, List.map_cons, List.map_nil, Lib.join_cons, e0, e1]
    simp [Lib.joinTail]
  · have e2 := formW_plain h4 (by decide) as_sh
    have e3 := formW_plain h5 (sn_ne h6) (sn_sh h6).1
    rw [if_neg (sn_ne h6), List.map_cons, List.map_cons, List.map_cons, List.map_cons, List.map_nil, Lib.join_cons, e0, e1, e2, e3]
    simp [Lib.joinTail]
theorem wrds_tail (l : List WdM) : Lib.joinTail [32] ((l.map WdM.wd).map fun x => formW (parts x.atoms)) = wrdsF l := by
  unfold Lib.joinTail wrdsF
  rw [List.map_map, List.map_map]
  congr 1
  refine List.map_congr_left fun m _ => ?_
  show [32] ++ formW (parts m.xs) = wrdF m
  rw [formD_W]; rfl
theorem step_line {ss : List DsM} {p : DpM} (h : RelP (ss.map DsM.name) p) : stepF ss p = lineG (insD p) := by
  obtain ⟨m0, h0, hp0, ho⟩ := h.op
  obtain ⟨s1, s2, s3⟩ := op_sh ho
  have e0 := formW_plain hp0 s3 s1
  have hc0 : p.ms = m0 :: p.ms.drop 1 := by
    have hlt := (List.getElem?_eq_some_iff.1 h0).1
    have := List.drop_eq_getElem_cons hlt
    rw [List.drop_zero, (List.getElem?_eq_some_iff.1 h0).2] at this
    exact this
  unfold insD
  rw [lineG_two]
  unfold stepF opF
  rcases h.frm with ⟨d1, c1⟩ | ⟨d2, c0, c2, m1, h1, hp1, hs1⟩
  · rw [if_neg (by omega), d1]
    have hj : Lib.join ((p.ms.map WdM.wd).map fun x => formW (parts x.atoms)) [32] = p.op ++ wrdsF (p.ms.drop 1) := by
      have e : p.ms.map WdM.wd = m0.wd :: (p.ms.drop 1).map WdM.wd := by
        have := congrArg (List.map WdM.wd) hc0
        rwa [List.map_cons] at this
      rw [e, List.map_cons, Lib.join_cons, wrds_tail]
      congr 1
    rw [hj]; simp
  · rw [if_pos c0, d2]
    have hc1 : p.ms.drop 1 = m1 :: p.ms.drop 2 := by
      have hlt := (List.getElem?_eq_some_iff.1 h1).1
      have := List.drop_eq_getElem_cons hlt
      rw [(List.getElem?_eq_some_iff.1 h1).2] at this
      exact this
    have e1 := formW_plain hp1 (by simp) (fun c hc => by
      rcases List.mem_append.1 hc with hc | hc
      · exact frm_sh c hc
      · exact (sn_sh hs1).1 c hc)
    have hj : Lib.join ((p.ms.map WdM.wd).map fun x => formW (parts x.atoms)) [32] = p.op ++ ([32] ++ (wFrm ++ titN (ss.map DsM.name) p.stage)) ++ wrdsF (p.ms.drop 2) := by
      have e : p.ms.map WdM.wd = m0.wd :: m1.wd :: (p.ms.drop 2).map WdM.wd := by
        have := congrArg (List.map WdM.wd) hc0
        rw [List.map_cons, hc1, List.map_cons] at this
        exact this
      rw [e, List.map_cons, Lib.join_cons, List.map_cons]
      have ht : Lib.joinTail [32] (formW (parts m1.wd.atoms) :: ((p.ms.drop 2).map WdM.wd).map fun x => formW (parts x.atoms)) = [32] ++ formW (parts m1.xs) ++ wrdsF (p.ms.drop 2) := by
        rw [← wrds_tail]; unfold Lib.joinTail; simp; rfl
      rw [ht, e1, show formW (parts m0.wd.atoms) = p.op from e0]
      simp
    rw [hj, name_tit c0]
    simp
theorem text_eq {ss : List DsM} {st : List Stg} (h : Rel ss st) : stgsF ss ss = formG st := by
  unfold stgsF formG
  congr 1
  apply List.ext_getElem?
  intro i
  rw [List.getElem?_map, List.getElem?_map]
  cases hs : ss[i]? with
  | none =>
    have : st[i]? = none := List.getElem?_eq_none_iff.2 (by have := List.getElem?_eq_none_iff.1 hs; have := h.len; omega)
    rw [this]; rfl
  | some s =>
    obtain ⟨t, ht, hr⟩ := h.get' hs
    rw [ht]
    simp only [Option.map_some]
    congr 1
    obtain ⟨ws, hw, hf⟩ := hr.ins
    rw [hw, List.map_cons, List.flatten_cons]
    unfold stgF
    rw [head_line hf]
    congr 1
    unfold stepsF
    rw [List.map_map]
    congr 1
    exact List.map_congr_left fun p hp => step_line (hr.stp p hp)
end Go.Proofs.YtjhkeaijcdpaaaaGreatDoor
