import Derived.Test.YtpiponkhhimaoaaGreatDoorLwA
namespace Go.Proofs.YtpiponkhhimaoaaGreatDoor
open Go.RowKit Go.Maps Go.Sort Go.Shelf

theorem RSt.kind {w : World} {yb : Nat} {vf va vs : Value} {L : List Blb} {q : Int} {A : List Ac} {N : List Blb} {c : Bool} (h : RSt w yb vf va vs L q A N c) {k : Nat} (hk : RAll yb vf va vs k) : ∃ cur t, w.heap[k]? = some (.cells cur t (0, 0)) ∧ (t = 64 ∨ t = 66 ∨ t = 68) := by
  rcases hk with (rfl | e | e) | e
  · exact ⟨_, _, h.cells, .inl rfl⟩
  · obtain ⟨cur, hc⟩ := own_type h.acts e; exact ⟨_, _, hc, .inr (.inl rfl)⟩
  · obtain ⟨cur, hc⟩ := own_type h.seen e; exact ⟨_, _, hc, .inr (.inr rfl)⟩
  · obtain ⟨cur, hc⟩ := own_type h.files e; exact ⟨_, _, hc, .inr (.inr rfl)⟩
theorem RSt.not_kind {w : World} {yb : Nat} {vf va vs : Value} {L : List Blb} {q : Int} {A : List Ac} {N : List Blb} {c : Bool} (h : RSt w yb vf va vs L q A N c) {k t : Nat} {cur : Array Value} (hc : w.heap[k]? = some (.cells cur t (0, 0))) (ht : t ≠ 64 ∧ t ≠ 66 ∧ t ≠ 68) : ¬ RAll yb vf va vs k := fun hk => by
  obtain ⟨cur', t', h1, h2⟩ := h.kind hk
  rw [hc] at h1
  cases h1
  rcases h2 with e | e | e
  · exact ht.1 e
  · exact ht.2.1 e
  · exact ht.2.2 e
theorem Two.sep {w : World} {B wb lb sb mb yb : Nat} {v vf va vs : Value} {L : List Blb} {q : Int} {A : List Ac} {N : List Blb} {c : Bool} (h : Two w B wb lb sb mb yb v vf va vs L q A N c) : ∀ k, Own sb mb v k → ¬ RAll yb vf va vs k := by
  rintro k (rfl | rfl | e)
  · exact h.y.not_kind h.x.st.cells (by decide)
  · intro hk
    obtain ⟨cur', t', h1, h2⟩ := h.y.kind hk
    obtain ⟨es, clock, hb, _⟩ := h.x.st.map
    rw [hb] at h1; cases h1
  · obtain ⟨cur, hc⟩ := own_type h.x.st.row e
    rintro ((rfl | e2 | e2) | e2)
    · have := h.y.cells; rw [hc] at this; cases this
    · exact h.acts k e e2
    · obtain ⟨c2, h2⟩ := own_type h.y.seen e2; rw [hc] at h2; cases h2
    · obtain ⟨c2, h2⟩ := own_type h.y.files e2; rw [hc] at h2; cases h2
theorem Two.wb_own {w : World} {B wb lb sb mb yb : Nat} {v vf va vs : Value} {L : List Blb} {q : Int} {A : List Ac} {N : List Blb} {c : Bool} (h : Two w B wb lb sb mb yb v vf va vs L q A N c) : ¬ Own sb mb v wb := by
  rintro (rfl | rfl | e)
  · have := h.x.st.cells; rw [h.both] at this; cases this
  · obtain ⟨es, clock, hb, _⟩ := h.x.st.map; rw [h.both] at hb; cases hb
  · obtain ⟨cur, hc⟩ := own_type h.x.st.row e; rw [h.both] at hc; cases hc
theorem Two.wb_all {w : World} {B wb lb sb mb yb : Nat} {v vf va vs : Value} {L : List Blb} {q : Int} {A : List Ac} {N : List Blb} {c : Bool} (h : Two w B wb lb sb mb yb v vf va vs L q A N c) : ¬ RAll yb vf va vs wb := h.y.not_kind h.both (by decide)
theorem Two.lb_all {w : World} {B wb lb sb mb yb : Nat} {v vf va vs : Value} {L : List Blb} {q : Int} {A : List Ac} {N : List Blb} {c : Bool} (h : Two w B wb lb sb mb yb v vf va vs L q A N c) : ¬ RAll yb vf va vs lb := h.y.not_kind h.x.face (by decide)
theorem Two.wlt {w : World} {B wb lb sb mb yb : Nat} {v vf va vs : Value} {L : List Blb} {q : Int} {A : List Ac} {N : List Blb} {c : Bool} (h : Two w B wb lb sb mb yb v vf va vs L q A N c) : wb < w.heap.size := (Array.getElem?_eq_some_iff.1 h.both).1
theorem Two.blt {w : World} {B wb lb sb mb yb : Nat} {v vf va vs : Value} {L : List Blb} {q : Int} {A : List Ac} {N : List Blb} {c : Bool} (h : Two w B wb lb sb mb yb v vf va vs L q A N c) : B < w.heap.size := Nat.lt_of_le_of_lt (h.far wb (.inr (.inr rfl))) h.wlt
theorem Two.below {w w' : World} {B wb lb sb mb yb : Nat} {v vf va vs : Value} {L : List Blb} {q : Int} {A : List Ac} {N : List Blb} {c : Bool} (h : Two w B wb lb sb mb yb v vf va vs L q A N c) (hb : Below w.heap.size w w') : Two w' B wb lb sb mb yb v vf va vs L q A N c :=
  ⟨(hb.block wb h.wlt).trans h.both, h.x.below hb, h.y.below hb, h.acts, h.far⟩
/-- The program's side has gone a step: the document's is as it was. -/
theorem Two.left {w w' : World} {B wb lb sb mb yb : Nat} {v v' vf va vs : Value} {L : List Blb} {q : Int} {A : List Ac} {N : List Blb} {c : Bool} (h : Two w B wb lb sb mb yb v vf va vs L q A N c) (hG : Goes w sb mb v w' v') : RSt w' yb vf va vs L q A N c :=
  h.y.turn hG.turn (fun k hk ho => h.sep k ho hk)
/-- Both sides have gone a step. -/
theorem Two.step {w w1 w2 : World} {B wb lb sb mb yb : Nat} {v v' vf va vs vf' va' vs' : Value} {L L' : List Blb} {q : Int} {A A' : List Ac} {N N' : List Blb} {c c' : Bool} (h : Two w B wb lb sb mb yb v vf va vs L q A N c) (hX : XSt w1 lb sb mb v' L' q A') (hG : Goes w sb mb v w1 v')
    (hY : RSt w2 yb vf' va' vs' L' q A' N' c') (hR : RGoes w1 yb vf va vs w2 vf' va' vs') : Two w2 B wb lb sb mb yb v' vf' va' vs' L' q A' N' c' ∧ Below B w w2 := by
  have hB := h.blt
  have hz1 := hG.turn.size
  have hrl : ∀ k, RAll yb vf va vs k → k < w.heap.size := h.y.lt
  have hsep : ∀ k, Own sb mb v' k → ¬ ROwn yb va vs k := by
    rintro k hk hr
    have hrk := hrl k (.inl hr)
    rcases hk with e | e | e
    · exact h.sep k (.inl e) (.inl hr)
    · exact h.sep k (.inr (.inl e)) (.inl hr)
    · rcases hG.own k e with e2 | e2
      · exact h.sep k (.inr (.inr e2)) (.inl hr)
      · omega
  have hlb : lb < w1.heap.size := (Array.getElem?_eq_some_iff.1 hX.face).1
  have hlr : ¬ ROwn yb va vs lb := fun hr => h.lb_all (.inl hr)
  refine ⟨⟨?_, ⟨?_, ?_⟩, hY, ?_, ?_⟩, ?_⟩
  · exact (hR.turn.block wb (Nat.lt_of_lt_of_le h.wlt hz1) (fun hr => h.wb_all (.inl hr))).trans ((hG.turn.block wb h.wlt h.wb_own).trans h.both)
  · exact (hR.turn.block lb hlb hlr).trans hX.face
  · exact hX.st.turn hR.turn hsep
  · intro k hk e
    have hk1 : k < w1.heap.size := hX.st.lt k (.inr (.inr hk))
    rcases hR.own k (.inr (.inl e)) with e2 | e2
    · exact hsep k (.inr (.inr hk)) e2
    · omega
  · rintro k ((hk | hk) | hk | hk)
    · rcases hk with e | e | e
      · exact h.far k (.inl (.inl (.inl e)))
      · exact h.far k (.inl (.inl (.inr (.inl e))))
      · rcases hG.own k e with e2 | e2
        · exact h.far k (.inl (.inl (.inr (.inr e2))))
        · omega
    · exact h.far k (.inl (.inr hk))
    · rcases hk with hk | hk
      · rcases hR.own k hk with e2 | e2
        · exact h.far k (.inr (.inl (.inl e2)))
        · omega
      · rcases hR.all k hk with e2 | e2
        · exact h.far k (.inr (.inl (.inr e2)))
        · omega
    · exact h.far k (.inr (.inr hk))
  · refine ⟨hR.turn.os.trans hG.turn.os, hR.turn.tape.trans hG.turn.tape, hR.turn.output.trans hG.turn.output, Nat.le_trans (by omega) hR.turn.size, fun k hk => ?_⟩
    refine (hR.turn.block k (by omega) (fun hr => ?_)).trans (hG.turn.block k (by omega) (fun ho => ?_))
    · have := h.far k (.inr (.inl (.inl hr))); omega
    · have := h.far k (.inl (.inl ho)); omega
theorem Vars.far {w w' : World} {B : Nat} (h : Vars w) (hb : Below B w w') (hB : 2 ≤ B) : Vars w' :=
  ⟨h.ks.turn hb (by omega), (hb.cell (p := ⟨0, 0, none⟩) (by show 0 < B; omega)).trans h.err⟩
set_option maxRecDepth 100000 in
theorem lacts_any (lb sb mb : Nat) (v : Value) (L : List Blb) (q : Int) (A : List Ac) (w : World) (h : XSt w lb sb mb v L q A) (hA : A.length ≤ 1099511627) (hs : ∀ a ∈ A, a.name.size ≤ 1073741824 ∧ a.dest.size ≤ 1073741824 ∧ a.data.size ≤ 1073741824) :
    Calls Tryz.prog 24 #[.pointer (some ⟨lb, 0, none⟩)] w fun ev w' => ev = .returned v ∧ Below (w.setCell ⟨sb, 2, none⟩ (.slice none 0 0)).heap.size (w.setCell ⟨sb, 2, none⟩ (.slice none 0 0)) w' := by
  have hA1 := acts_any sb mb v L q A w h.st hA hs
  have c0 : w.cell? ⟨lb, 0, none⟩ = some (.pointer (some ⟨sb, 0, none⟩)) := cell_of_row _ _ 0 _ _ _ h.face
  clear h hs
  go_enter Tryz.func24, Tryz.ntmps24
  go_wp2_with (go_at_call 53; refine hA1.mono ?_; clear hA1; rintro ev w1 ⟨rfl, hb1⟩)
  go_ret
  exact ⟨rfl, hb1⟩
set_option maxRecDepth 100000 in
theorem lfiles_any (lb sb mb : Nat) (v : Value) (L : List Blb) (q : Int) (A : List Ac) (w : World) (h : XSt w lb sb mb v L q A) (hL : L.length ≤ 1099511627) (hs : ∀ b ∈ L, b.name.size ≤ 1073741824 ∧ b.data.size ≤ 1073741824) :
    Calls Tryz.prog 19 #[.pointer (some ⟨lb, 0, none⟩)] w fun ev w' => ∃ v', ev = .returned v' ∧ OwnB w' w.heap.size v' L ∧ Below w.heap.size w w' := by
  have hA1 := files_any sb mb v L q A w h.st hL hs
  have c0 : w.cell? ⟨lb, 0, none⟩ = some (.pointer (some ⟨sb, 0, none⟩)) := cell_of_row _ _ 0 _ _ _ h.face
  clear h hs
  go_enter Tryz.func19, Tryz.ntmps19
  go_wp2_with (go_at_call 40; refine hA1.mono ?_; clear hA1; rintro ev w1 ⟨v', rfl, hO, hb1⟩)
  go_ret
  exact ⟨_, rfl, hO, hb1⟩
/-- The lists of acts are forgotten on both sides. -/
theorem Two.forget {w : World} {B wb lb sb mb yb : Nat} {v vf va vs : Value} {L : List Blb} {q : Int} {A : List Ac} {N : List Blb} {c : Bool} (h : Two w B wb lb sb mb yb v vf va vs L q A N c) {w1 : World} (hb : Below (w.setCell ⟨sb, 2, none⟩ (.slice none 0 0)).heap.size (w.setCell ⟨sb, 2, none⟩ (.slice none 0 0)) w1) :
    XSt w1 lb sb mb (.slice none 0 0) L q [] ∧ RSt w1 yb vf va vs L q A N c ∧ w1.heap[wb]? = w.heap[wb]? ∧ w1.ownsRow 0 66 4 v A.length (acC A) ∧ Goes w sb mb v w1 (.slice none 0 0) := by
  have hoth : ∀ k, k < w.heap.size → k ≠ sb → w1.heap[k]? = w.heap[k]? := fun k hk hne => (hb.block k (by simpa using hk)).trans (Below.heap_setCell _ _ _ _ hne)
  have hG : Goes w sb mb v w1 (.slice none 0 0) := by
    refine ⟨⟨hb.os, hb.tape, hb.output, by simpa using hb.size, fun k hk hs => hoth k hk (fun e => hs (.inl e))⟩, fun k e => by cases e⟩
  have hsl := h.x.st.lt sb (.inl rfl)
  have hml := h.x.st.lt mb (.inr (.inl rfl))
  refine ⟨⟨(hoth lb (Array.getElem?_eq_some_iff.1 h.x.face).1 (fun e => h.x.apart (.inl e))).trans h.x.face, ⟨?_, ?_, World.ownsRow_nil _ _ _ _⟩⟩, h.left hG, hoth wb h.wlt (fun e => h.wb_own (.inl e)), row_turn h.x.st.row fun k hk => hoth k (h.x.st.lt k (.inr (.inr hk))) (fun e => h.x.st.sb_row (hk.trans (congrArg some e))), hG⟩
  · exact (hb.block sb (by simpa using hsl)).trans (heap_setCell_same _ _ 2 _ _ _ h.x.st.cells)
  · obtain ⟨es, clock, hm, r⟩ := h.x.st.map
    exact ⟨es, clock, (hoth mb hml h.x.st.sb_mb.symm).trans hm, r⟩
end Go.Proofs.YtpiponkhhimaoaaGreatDoor
