import Derived.Test.YtkeefkfklmhcjaaGreatDoorKidB
import Derived.Carry
import Derived.Deep.RegionHeld3
namespace Go.Proofs.YtkeefkfklmhcjaaGreatDoor
open Go.RowKit Go.Maps

set_option maxHeartbeats 400000 in
theorem newNode_any (e : Ent) (w : World) :
    Calls Tryz.prog 99 #[.agg #[.string e.path, .int .i64 e.kind, .int .i64 e.mode, .string e.data]] w fun ev w' => ∃ nb mb : Nat, ev = .returned (.pointer (some ⟨nb, 0, none⟩)) ∧ w.heap.size ≤ nb ∧ w.heap.size ≤ mb ∧ Hid (w'.heap[nb]? = some (.cells (Nd.cells ⟨e, nb, mb⟩) 102 (0, 0)) ∧ KM w' mb 0 []) ∧ Below w.heap.size w w' := by
  have hmm := @run_makeMap Tryz.prog
  go_enter Tryz.func99, Tryz.ntmps99
  go_wp2
  go_ret
  refine ⟨w.heap.size + 2, w.heap.size + 1, rfl, by omega, by omega, hide ⟨?_, ?_⟩, (((Below.refl _ _).alloc (Nat.le_refl _) _).alloc (by simp) _).alloc (by simp; omega) _⟩
  · have h := heap_alloc_new ((w.alloc (.cells #[.string e.path, .int .i64 e.kind, .int .i64 e.mode, .string e.data] 56)).alloc (.map #[] 0)) (.cells (Nd.cells ⟨e, w.heap.size + 2, w.heap.size + 1⟩) 102 (0, 0))
    simpa [Nd.cells] using h
  · have h := (World.ownsMap_made (w.alloc (.cells #[.string e.path, .int .i64 e.kind, .int .i64 e.mode, .string e.data] 56)) Tryz.prog 9 RK).alloc (.cells (Nd.cells ⟨e, w.heap.size + 2, w.heap.size + 1⟩) 102 (0, 0))
    simpa [Nd.cells, KM, DK] using h

theorem kidsN_snoc (ns : List Nd) (y : Nd) (p : List UInt8) : kidsN (ns ++ [y]) p = kidsN ns p ++ (if dirOf y.p = p then [(nameOf y.p, y.nb)] else []) := by
  rw [kidsN, kidsN, List.filter_append, List.map_append]
  by_cases h : dirOf y.p = p <;> simp [h]
theorem apart_ne {l : List Nd} (h : l.Pairwise fun x y => x.mb ≠ y.mb) {x z : Nd} (hx : x ∈ l) (hz : z ∈ l) (hne : z ≠ x) : z.mb ≠ x.mb := by
  obtain ⟨i, hi, rfl⟩ := List.getElem_of_mem hx
  obtain ⟨j, hj, rfl⟩ := List.getElem_of_mem hz
  rw [List.pairwise_iff_getElem] at h
  rcases Nat.lt_trichotomy i j with hl | hl | hl
  · exact (h i j hi hj hl).symm
  · subst hl; exact absurd rfl hne
  · exact h j i hj hi hl
theorem Mem.add {w w' : World} {B : Nat} {r : Nd} {ns : List Nd} (h : Mem w B r ns) {x y : Nd} (hx : x ∈ r :: ns) (hy1 : B ≤ y.nb) (hy2 : B ≤ y.mb) (hyc : w.heap[y.nb]? = some (.cells y.cells 102 (0, 0))) (hyk : KM w y.mb 0 [])
    (hfr : ∀ z ∈ r :: ns, z.mb ≠ y.mb) (hup : KM w' x.mb (ns.length + 1) (kidsN ns x.p ++ [(nameOf y.p, y.nb)])) (hg : w.grownBy w' (some x.mb)) (hdir : dirOf y.p = x.p) (huniq : ∀ z ∈ r :: ns, z.p = x.p → z = x) (hno : kidsN (ns ++ [y]) y.p = []) : Mem w' B r (ns ++ [y]) := by
  have hmb : ∀ b cs t f, w.heap[b]? = some (.cells cs t f) → b ≠ x.mb := fun b cs t f hb e => by
    obtain ⟨_, _, _, es, clock, hm, _⟩ := h.all x hx
    rw [e, hm] at hb
    cases hb
  refine ⟨h.root, fun z hz => ?_, ?_⟩
  · rw [List.mem_cons, List.mem_append, List.mem_singleton] at hz
    have hz' : z ∈ r :: ns ∨ z = y := by
      rcases hz with hz | hz | hz
      · exact .inl (by simp [hz])
      · exact .inl (by simp [hz])
      · exact .inr hz
    rw [List.length_append, List.length_singleton]
    rcases hz' with hz | rfl
    · obtain ⟨h1, h2, h3, h4⟩ := h.all z hz
      refine ⟨h1, h2, (hg.block z.nb (Array.getElem?_eq_some_iff.1 h3).1 (fun e => hmb _ _ _ _ h3 (by simpa using e))).trans h3, ?_⟩
      rw [kidsN_snoc]
      by_cases e : z.p = x.p
      · have := huniq z hz e
        subst this
        rw [if_pos hdir]
        exact hup
      · rw [if_neg (fun e' => e (e'.symm.trans hdir)), List.append_nil]
        have hne : z ≠ x := fun e' => e (by rw [e'])
        exact World.ownsMap.mono (World.ownsMap.kept h4 hg (fun e' => apart_ne h.apart hx hz hne (by simpa using e'))) (by omega)
    · refine ⟨hy1, hy2, (hg.block z.nb (Array.getElem?_eq_some_iff.1 hyc).1 (fun e => hmb _ _ _ _ hyc (by simpa using e))).trans hyc, ?_⟩
      rw [hno]
      exact World.ownsMap.mono (World.ownsMap.kept hyk hg (fun e' => hfr x hx (by simpa using e'.symm))) (by omega)
  · rw [← List.cons_append, List.pairwise_append]
    refine ⟨h.apart, by simp, fun a ha b hb => ?_⟩
    rw [List.mem_singleton] at hb
    subst hb
    exact hfr a ha

/-- What stands ahead of an entry that is to be laid. -/
structure Ahead (r : Nd) (ns : List Nd) (e : Ent) : Prop where
  ok : OkTo (entsN ns) ns.length
  ent : entOk e = true
  lt : ∀ x ∈ ns, ltL (prt x.p) (prt e.path.data.toList) = true
  root : r.ent = rootE
theorem Ahead.uniq {r : Nd} {ns : List Nd} {e : Ent} (h : Ahead r ns e) {x : Nd} (hx : x ∈ r :: ns) : ∀ z ∈ r :: ns, z.p = x.p → z = x := by
  have hr : r.p = [] := by rw [Nd.p, h.root]; rfl
  have hn : ∀ z ∈ ns, z.p ≠ [] := fun z hz => by
    obtain ⟨k, hk, _, he⟩ := nd_at hz
    exact (ent_parts (ok_parts he (h.ok k hk)).ent).1
  intro z hz e
  rw [List.mem_cons] at hx hz
  rcases hx with rfl | hx <;> rcases hz with rfl | hz
  · rfl
  · exact absurd (e.trans hr) (hn z hz)
  · exact absurd (e.symm.trans hr) (hn x hx)
  · obtain ⟨k, hk, h1, h2⟩ := nd_at hx
    obtain ⟨j, hj, h3, h4⟩ := nd_at hz
    have := path_inj h.ok hj hk h4 h2 e
    subst this
    rw [h1] at h3
    cases h3
    rfl
theorem Ahead.kids {r : Nd} {ns : List Nd} {y : Nd} (h : Ahead r ns y.ent) : kidsN (ns ++ [y]) y.p = [] := by
  have hp := ent_parts h.ent
  have hup : prt y.p = prt (dirOf y.p) ++ [nameOf y.p] := prt_up hp.2.1 hp.1
  have hne : ∀ z ∈ ns, z.p ≠ y.p := fun z hz e => by
    have h1 := h.lt z hz
    rw [e] at h1
    have h2 := ltL_irr (prt y.p)
    rw [Nd.p] at h1 h2
    rw [h2] at h1; cases h1
  rw [kidsN_snoc, if_neg, List.append_nil, kidsN, List.map_eq_nil_iff, List.filter_eq_nil_iff]
  · intro z hz e
    have hd : dirOf z.p = y.p := by simpa using e
    obtain ⟨k, hk, _, hz2⟩ := nd_at hz
    have hd0 : dirOf z.ent.path.data.toList ≠ [] := by show dirOf z.p ≠ []; rw [hd]; exact hp.1
    obtain ⟨a, hm, ha, _⟩ := kindP_one (ok_parts hz2 (h.ok k hk)).dir hd0
    have hm' := List.mem_of_mem_take hm
    rw [entsN, List.mem_map] at hm'
    obtain ⟨b, hb, rfl⟩ := hm'
    exact hne b hb (ha.trans hd)
  · intro e
    rw [e] at hup
    have := congrArg List.length hup
    simp at this
theorem Ahead.less {r : Nd} {ns : List Nd} {y : Nd} (h : Ahead r ns y.ent) {p : List UInt8} (hd : dirOf y.p = p) : ∀ q ∈ kidsN ns p, Op.bytesLess q.1 (nameOf y.p) = true := by
  intro q hq
  have hp := ent_parts h.ent
  have hup : prt y.p = prt (dirOf y.p) ++ [nameOf y.p] := prt_up hp.2.1 hp.1
  obtain ⟨z, hz, h1, h2, h3⟩ := kids_mem (nm := q.1) (q := q.2) hq
  obtain ⟨k, hk, _, hz2⟩ := nd_at hz
  have hu : prt z.p = prt (dirOf z.p) ++ [nameOf z.p] := okTo_up h.ok hk hz2
  have hl : ltL (prt z.p) (prt y.p) = true := h.lt z hz
  rw [hu, hup, h1, hd, ltL_snoc, h2] at hl
  exact hl
/-- Whether an entry's directory is one. -/
theorem find_kind {r : Nd} {ns : List Nd} {e : Ent} (h : Ahead r ns e) {p : List UInt8} {v : Value} (hv : FindIs r ns p v) : (v = .pointer none ∧ kindP (entsN ns) p ≠ 1) ∨ ∃ x ∈ r :: ns, v = .pointer (some ⟨x.nb, 0, none⟩) ∧ x.p = p ∧ kindP (entsN ns) p = x.ent.kind := by
  rcases hv with ⟨rfl, h1⟩ | ⟨x, hx, rfl, hp⟩
  · refine .inl ⟨rfl, fun h2 => ?_⟩
    have hr : r.p = [] := by rw [Nd.p, h.root]; rfl
    have hp0 : p ≠ [] := fun e0 => h1 r (by simp) (hr.trans e0.symm)
    obtain ⟨a, ha, hpa, _⟩ := kindP_one h2 hp0
    rw [entsN, List.mem_map] at ha
    obtain ⟨z, hz, rfl⟩ := ha
    exact h1 z (by simp [hz]) hpa
  · refine .inr ⟨x, hx, rfl, hp, ?_⟩
    rw [List.mem_cons] at hx
    rcases hx with rfl | hx
    · have hr : x.p = [] := by rw [Nd.p, h.root]; rfl
      rw [kindP, if_pos (hp.symm.trans hr), h.root]; rfl
    · obtain ⟨k, hk, _, hk2⟩ := nd_at hx
      have h0 := (ent_parts (ok_parts hk2 (h.ok k hk)).ent).1
      have hp0 : p ≠ [] := fun e0 => h0 (hp.trans e0)
      refine kindP_hit hp0 hk2 hp fun e' he' => ?_
      obtain ⟨j, hj, rfl⟩ := List.getElem_of_mem he'
      rw [List.length_take] at hj
      rw [List.getElem_take]
      intro e2
      have := path_inj h.ok (by omega) hk (List.getElem?_eq_getElem (by omega)) hk2 (e2.trans hp.symm)
      omega
end Go.Proofs.YtkeefkfklmhcjaaGreatDoor
