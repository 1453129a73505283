import Derived.Test.YtkeefkfklmhcjaaGreatDoorJPatM
import Derived.Test.YtkeefkfklmhcjaaGreatDoorNod
namespace Go.Proofs.YtkeefkfklmhcjaaGreatDoor
open Go.RowKit Go.Maps Go.Sort Go.Shelf
attribute [local go_sem] Oper.semAt_some

theorem ownE_rowAt {W : World} {n0 Bb : Nat} {v : Value} {k : Nat} {xs : List Value} (hb : Boxed W Bb 22 v) (hr : W.ownsRow n0 56 4 v k xs) : ∀ g, rowAt W Bb g → v.ownBlock = some g ∧ n0 ≤ g ∧ ∃ cur, W.heap[g]? = some (.cells cur 56 (0, 0)) := fun g hg => by
  obtain ⟨o, s, n, c, e⟩ := hg
  rw [hb.cell] at e
  cases e
  rcases hr.2 with ⟨hv, _⟩ | ⟨g', cap, cur, hv, h1, h2, _⟩
  · cases hv
  · cases hv
    exact ⟨rfl, h1, cur, h2⟩
theorem ownE_block {W : World} {n0 : Nat} {v : Value} {k g : Nat} {xs : List Value} {Bb : Nat} (hb : Boxed W Bb 22 v) (hr : W.ownsRow n0 56 4 v k xs) (hg : v.ownBlock = some g) : rowAt W Bb g := by
  rcases hr.2 with ⟨hv, _⟩ | ⟨g', cap, cur, hv, h1, h2, _⟩
  · rw [hv] at hg; cases hg
  · rw [hv] at hg
    cases hg
    exact ⟨_, _, _, _, by rw [hb.cell, hv]⟩
/-- The entries of the nodes gone through, the root aside; and the box of the root. -/
def LstJ (w : World) (r : Nd) (pre : List Nd) (W : World) : Prop := (∃ v, Boxed W (w.heap.size + 1) 22 v ∧ OwnE W w.heap.size v (entsN (pre.drop 1))) ∧ W.heap[w.heap.size]? = some (.cells #[.pointer (some ⟨r.nb, 0, none⟩)] 79 (0, 0)) ∧ Below w.heap.size w W
theorem lst_rows {w W : World} {r : Nd} {pre : List Nd} (h : LstJ w r pre W) : ∀ k, rowAt W (w.heap.size + 1) k → w.heap.size ≤ k := fun k hk => by
  obtain ⟨⟨v, hv, hr⟩, _⟩ := h
  exact (ownE_rowAt hv hr k hk).2.1
theorem lst_stay (w : World) (r : Nd) (B0 : Nat) (hB : w.heap.size < B0) : Stay (w.heap.size + 1) B0 (fun pre W => LstJ w r pre W) := by
  refine ⟨fun s W W' hs hk => ?_, fun s W hs g hg => ?_⟩
  · obtain ⟨⟨v, hv, hr⟩, h0, hb⟩ := hs
    have hz := hb.size
    have h0l : w.heap.size < W.heap.size := (Array.getElem?_eq_some_iff.1 h0).1
    refine ⟨⟨v, (hk.block _ hv.lt (.inr (.inl rfl))).trans hv, hr.1, ?_⟩, (hk.block _ h0l (.inl hB)).trans h0, ⟨hk.os.trans hb.os, hk.tape.trans hb.tape, hk.output.trans hb.output, Nat.le_trans hz hk.size, fun k h => (hk.block k (by omega) (.inl (by omega))).trans (hb.block k h)⟩⟩
    rcases hr.2 with h | ⟨g, cap, cur, hv', h1, h2, h3⟩
    · exact .inl h
    · exact .inr ⟨g, cap, cur, hv', h1, (hk.block g (Array.getElem?_eq_some_iff.1 h2).1 (.inr (.inr (ownE_block hv hr (by rw [hv']; rfl))))).trans h2, h3⟩
  · obtain ⟨⟨v, hv, hr⟩, _⟩ := hs
    obtain ⟨_, _, cur, hc⟩ := ownE_rowAt hv hr g hg
    exact ⟨_, hc, rfl⟩
theorem entC_snoc (ks : List Ent) (e : Ent) : entC (ks ++ [e]) = entC ks ++ ec e := by simp [entC]
theorem ec_one (e : Ent) : ∀ u ∈ ec e, u.oneCell' = true := fun u hu => by
  simp only [ec, List.mem_cons, List.not_mem_nil, or_false] at hu
  rcases hu with rfl | rfl | rfl | rfl <;> rfl
theorem ec_new (w : World) (e : Ent) : ∀ j u, (ec e)[j]? = some u → (w.alloc (.cells #[.string e.path, .int .i64 e.kind, .int .i64 e.mode, .string e.data] 56)).cell? ((⟨w.heap.size, 0, none⟩ : Addr).add j) = some u := fun j u hu => by
  have h4 : j < 4 := by
    have := (List.getElem?_eq_some_iff.1 hu).1
    simpa [ec] using this
  have hc : (w.alloc (.cells #[.string e.path, .int .i64 e.kind, .int .i64 e.mode, .string e.data] 56)).heap[w.heap.size]? = some (.cells #[.string e.path, .int .i64 e.kind, .int .i64 e.mode, .string e.data] 56 (0, 0)) := heap_alloc_new _ _
  rcases (by omega : j = 0 ∨ j = 1 ∨ j = 2 ∨ j = 3) with rfl | rfl | rfl | rfl
  · simp [ec] at hu; subst hu; exact cell_of_row _ _ 0 _ _ _ hc
  · simp [ec] at hu; subst hu; exact cell_of_row _ _ 1 _ _ _ hc
  · simp [ec] at hu; subst hu; exact cell_of_row _ _ 2 _ _ _ hc
  · simp [ec] at hu; subst hu; exact cell_of_row _ _ 3 _ _ _ hc
/-- One round: an entry is appended. -/
theorem lst_step {w W w1 : World} {r y x : Nd} {pre : List Nd} {v : Value} (hv : Boxed W (w.heap.size + 1) 22 v) (hr : OwnE W w.heap.size v (entsN ((x :: pre).drop 1))) (h0 : W.heap[w.heap.size]? = some (.cells #[.pointer (some ⟨r.nb, 0, none⟩)] 79 (0, 0))) (hb : Below w.heap.size w W) (hb1 : Below W.heap.size W w1) (hl : pre.length ≤ 200) :
    ∃ g cap w2, (Builtin.append_ #[22, 22] 22 #[v, .slice (some ⟨w1.heap.size, 0, none⟩) 1 1]).run Tryz.prog (w1.alloc (.cells #[.string y.ent.path, .int .i64 y.ent.kind, .int .i64 y.ent.mode, .string y.ent.data] 56)) = .ok (.slice (some ⟨g, 0, none⟩) (pre.length + 1) cap) w2 ∧
      w2.cell? ⟨w.heap.size + 1, 0, none⟩ = some v ∧ w2.frozen? ⟨w.heap.size + 1, 0, none⟩ = false ∧
      Hid (LstJ w r (x :: pre ++ [y]) (w2.setCell ⟨w.heap.size + 1, 0, none⟩ (.slice (some ⟨g, 0, none⟩) (pre.length + 1) cap)) ∧ KeepsOthers W (w2.setCell ⟨w.heap.size + 1, 0, none⟩ (.slice (some ⟨g, 0, none⟩) (pre.length + 1) cap)) ∧ Kc (w.heap.size + 1) W (w2.setCell ⟨w.heap.size + 1, 0, none⟩ (.slice (some ⟨g, 0, none⟩) (pre.length + 1) cap))) := by
  obtain ⟨i0, hi, hz0, hz1, hz2⟩ := info_parts Tryz.info56
  have hz := hb.size
  have hz1' := hb1.size
  have hvl := hv.lt
  have hks : (entsN ((x :: pre).drop 1)).length = pre.length := by simp [entsN]
  have hv1 : Boxed w1 (w.heap.size + 1) 22 v := (hb1.block _ hvl).trans hv
  have hr1 : w1.ownsRow w.heap.size 56 4 v pre.length (entC (entsN ((x :: pre).drop 1))) := by
    have h := World.ownsRow.kept (row := none) hr ⟨hb1.os, hb1.tape, hb1.output, hb1.size, fun k hk _ => hb1.block k hk⟩ (by cases v.ownBlock <;> simp)
    rw [hks] at h
    exact h
  obtain ⟨v', w2, hrun, hown', hgrow, _, hat⟩ := run_append_own_at (P := Tryz.prog) (w := w1.alloc (.cells #[.string y.ent.path, .int .i64 y.ent.kind, .int .i64 y.ent.mode, .string y.ent.data] 56)) w.heap.size 22 22 56 i0 _ 4 48 Tryz.underlying22 hi hz0 hz1 hz2 rfl (by decide) v _ _ (hr1.alloc _) ⟨w1.heap.size, 0, none⟩ 1 1 (ec y.ent) rfl (ec_new w1 y.ent) (ec_one _) (by unfold maxLen; omega) (by omega) (by simp; omega)
  obtain ⟨g, cap, rfl⟩ := ownsRow_succ hown'
  obtain ⟨a1, a2, a3, a4, a5⟩ := hv1.appended (by decide) hr1 (by omega) (by omega) hown' hgrow
  have hs1 : w1.heap.size ≤ w2.heap.size := Nat.le_trans (by simp) hgrow.size
  have hs2 := (KeepsWalks.setCell w2 ⟨w.heap.size + 1, 0, none⟩ (.slice (some ⟨g, 0, none⟩) (pre.length + 1) cap)).size
  have hB1 : Below w.heap.size w w1 := hb.trans (hb1.mono hz)
  have hkc : Kc (w.heap.size + 1) w1 (w2.setCell ⟨w.heap.size + 1, 0, none⟩ (.slice (some ⟨g, 0, none⟩) (pre.length + 1) cap)) := by
    refine ⟨by omega, fun k o hk _ hne hnr => ?_, fun q hq => ?_⟩
    · have hlt := (Array.getElem?_eq_some_iff.1 hk).1
      rw [Below.heap_setCell _ _ _ k hne]
      refine (hgrow.block k (by simp; omega) (fun e => hnr (ownE_block hv1 hr1 e.symm))).trans ?_
      exact (Below.heap_alloc _ _ _ hlt).trans hk
    · obtain ⟨e1, _, cur, hc⟩ := ownE_rowAt a2 a3 q hq
      rcases hat with h | h
      · exact .inl (ownE_block hv1 hr1 (h.symm.trans e1))
      · have e2 : q = w1.heap.size + 1 := by
          rw [e1] at h
          simpa using h
        exact .inr ⟨by omega, (Array.getElem?_eq_some_iff.1 hc).1⟩
  have h0w : w.heap.size < W.heap.size := (Array.getElem?_eq_some_iff.1 h0).1
  have h01 : w1.heap[w.heap.size]? = some (.cells #[.pointer (some ⟨r.nb, 0, none⟩)] 79 (0, 0)) := (hb1.block _ h0w).trans h0
  have hnr : ¬ rowAt w1 (w.heap.size + 1) w.heap.size := fun h => by
    obtain ⟨_, _, cur, hc⟩ := ownE_rowAt hv1 hr1 _ h
    rw [h01] at hc; cases hc
  refine ⟨g, cap, w2, hrun, a1.cell, a1.frozen, hide ⟨⟨⟨_, a2, ?_⟩, hkc.keep _ _ h01 (.inl rfl) (by omega) hnr, hB1.trans (a5.mono (Nat.le_refl _))⟩, (keeps_below hb1).trans a4, (Kc.below hb1 hvl).trans hkc⟩⟩
  unfold OwnE
  have e : entsN ((x :: pre ++ [y]).drop 1) = entsN ((x :: pre).drop 1) ++ [y.ent] := by simp [entsN]
  rw [e, entC_snoc, List.length_append, hks]
  exact a3
theorem ownE_put {W : World} {D B : Nat} {v : Value} {ks : List Ent} {x : Option (List Deferred)} (o : Obj) (h : OwnE W B v ks) (hD : W.heap[D]? = some (.deferred x)) : OwnE (W.putObj D o) B v ks := by
  refine ⟨h.1, ?_⟩
  rcases h.2 with h0 | ⟨g, cap, cur, hv, h1, h2, h3⟩
  · exact .inl h0
  · refine .inr ⟨g, cap, cur, hv, h1, (World.putObj_heap_other (fun e => ?_)).trans h2, h3⟩
    rw [e, hD] at h2; cases h2
set_option maxHeartbeats 2000000 in
set_option maxRecDepth 100000 in
theorem list_any {B : Nat} {r : Nd} {ns : List Nd} {es : List Ent} (w : World) (hM : Mem w B r ns) (HE : Hid (entsN ns = es)) (HT : Hid (TreeG es)) :
    Calls Tryz.prog 58 #[.pointer (some ⟨r.nb, 0, none⟩)] w fun ev w' => ∃ ao cap n, ev = .returned (.slice ao n cap) ∧ Hid (n = es.length) ∧ ERow w' ao es ∧ Below w.heap.size w w' := by
  have HA := hide hM
  have hf73 : Fence.wide.fn 90 := trivial
  have hln : ns.length ≤ 120 := by have := (unhide HT).len; rw [← unhide HE] at this; simpa [entsN] using this
  have hmx : Tryz.prog.follows .mixedOrders = true := by kernel_rfl
  clear hM
  refine (callsIn_wide (n := 6)).1 ?_
  refine callsIn_of_wp_marks Tryz.func58 rfl trivial ?_ rfl
  simp only [Tryz.ntmps58, List.size_toArray, List.length_cons, List.length_nil, Nat.reduceAdd, Nat.reduceSub, Array.replicate_succ, Array.replicate_zero, List.push_toArray, List.append_toArray, List.nil_append, List.cons_append]
  gi_wp2_with (gi_at_call 90; refine (callsIn_wide.2 (all_any _ _)).mono ?_; rintro e w4 ⟨rfl, rfl⟩)
  obtain ⟨W2, hW2⟩ : ∃ W2, W2 = ((w.alloc (.cells #[.pointer (some ⟨r.nb, 0, none⟩)] 79)).alloc (.cells #[.slice none 0 0] 22)).alloc (.cells #[.pointer (some ⟨r.nb, 0, none⟩)] 79) := ⟨_, rfl⟩
  have s2 : W2.heap.size = w.heap.size + 3 := by rw [hW2]; simp
  have hb2 : Below w.heap.size w W2 := by rw [hW2]; exact (((Below.refl _ _).alloc (Nat.le_refl _) _).alloc (by simp) _).alloc (by simp; omega) _
  have j0 : W2.heap[w.heap.size]? = some (.cells #[.pointer (some ⟨r.nb, 0, none⟩)] 79 (0, 0)) := by
    rw [hW2]
    exact (Below.heap_alloc _ _ _ (by simp; omega)).trans ((Below.heap_alloc _ _ _ (by simp)).trans (heap_alloc_new _ _))
  have j1 : W2.heap[w.heap.size + 1]? = some (.cells #[.slice none 0 0] 22 (0, 0)) := by
    rw [hW2]
    refine (Below.heap_alloc _ _ _ (by simp)).trans ?_
    have := heap_alloc_new (w.alloc (.cells #[.pointer (some ⟨r.nb, 0, none⟩)] 79)) (.cells #[.slice none 0 0] 22)
    rw [World.size_alloc] at this
    exact this
  have x2 : W2.heap[w.heap.size + 1 + 1]? = some (.cells #[.pointer (some ⟨r.nb, 0, none⟩)] 79 (0, 0)) := by
    have := heap_alloc_new ((w.alloc (.cells #[.pointer (some ⟨r.nb, 0, none⟩)] 79)).alloc (.cells #[.slice none 0 0] 22)) (.cells #[.pointer (some ⟨r.nb, 0, none⟩)] 79)
    rw [World.size_alloc, World.size_alloc] at this
    rw [hW2]; exact this
  rw [← hW2]
  have hJ0 : LstJ w r [] W2 := ⟨⟨_, j1, World.ownsRow_nil _ _ _ _⟩, j0, hb2⟩
  have hMA : MemA (w.heap.size + 1) W2 B r ns := ⟨(unhide HA).below hb2, fun x hx => by
    have h1 : x.nb < w.heap.size := (Array.getElem?_eq_some_iff.1 ((unhide HA).all x hx).2.2.1).1
    have h2 : x.mb < w.heap.size := World.ownsMap.lt ((unhide HA).all x hx).2.2.2
    exact ⟨⟨by omega, by omega, fun hk => by have := lst_rows hJ0 _ hk; omega⟩, ⟨by omega, by omega, fun hk => by have := lst_rows hJ0 _ hk; omega⟩⟩⟩
  clear hW2 j0 j1
  refine range_all (Bb := w.heap.size + 1) (α := Nd) (xs := r :: ns) rfl (by omega) (gf := 129) (lb := #[.pointer (some ⟨w.heap.size + 1 + 1, 0, none⟩)]) rfl trivial (enters_of Tryz.func129 (by kernel_rfl) rfl)
    (all_seq es B (w.heap.size + 1) (w.heap.size + 1 + 1) 5 r ns W2 HE HT hMA x2 (by omega)) (by omega) (Below.refl _ _) (fun _ => rfl)
    (fun pre W => LstJ w r pre W) (lst_stay w r W2.heap.size (by omega)) hJ0
    (fun t y => (t.setIfInBounds 7 (.pointer (some ⟨y.nb, 0, none⟩))).setIfInBounds 4 (.pointer (some ⟨y.nb, 0, none⟩))) ?assign ?body ?done
  case assign =>
    intro l y W K hK
    gi_wp2
    simpa using hK
  case body =>
    rintro l pre y W hJ hp
    obtain ⟨⟨v, hv, hr⟩, h0, hb⟩ := hJ
    have cb := hv.cell
    have cf := hv.frozen
    have cr : W.cell? ⟨w.heap.size, 0, none⟩ = some (.pointer (some ⟨r.nb, 0, none⟩)) := cell_of_row _ _ 0 _ _ _ h0
    have hf81 : (Fence.wide.inRound l).fn 81 := trivial
    cases pre with
    | nil =>
      have hy : y = r := by
        obtain ⟨t, e⟩ := hp
        simpa using (List.cons.inj e).1
      subst hy
      have HJ : Hid (LstJ w y ([] ++ [y]) W) := hide ⟨⟨v, hv, hr⟩, h0, hb⟩
      have hneq := neq67_same W ⟨y.nb, 0, none⟩
      clear hv hr h0 hb
      gi_wp2
      exact ⟨KeepsOthers.refl _, Kc.refl _ _, unhide HJ⟩
    | cons x pre =>
      have hy : y ∈ ns := by
        obtain ⟨t, e⟩ := hp
        have e2 := (List.cons.inj e).2
        rw [← e2]; simp
      have hnb := nb_apart (unhide HA) hy
      have hlp : pre.length ≤ 200 := by
        have := hp.length_le
        simp at this
        omega
      have hMW := (unhide HA).below hb
      have hneq := neq67_other W hnb (hMW.all y (by simp [hy])).2.2.1 (hMW.all r (by simp)).2.2.1
      have hys := (unhide HT).small y.ent (by rw [← unhide HE]; exact List.mem_map.2 ⟨y, hy, rfl⟩)
      have HCp := hide (copy_any y W.drew (hMW.all y (by simp [hy])).2.2.1 hys.1 hys.2)
      have HV := hide hv
      have HR := hide hr
      have H0 := hide h0
      have HB := hide hb
      clear hMW hv hr h0 hb hys
      gi_wp2
      refine wpIn_region_any hmx ?_
      change wpAnyIn _ _ _ _ _ _ _ _ _ (World.drew _)
      refine wpAnyIn_ready (rs := [0, 1]) (by kernel_rfl) (by simp) ?_
      refine AllReadyIn.cons rfl (fun K hK => ?_) ?_
      · go_simp
        refine hK _ _ ?_
        clear hK K
        refine wpAnyIn_ready (rs := [1]) (by kernel_rfl) (by simp) ?_
        refine AllReadyIn.cons rfl (fun K hK => ?_) ?_
        · go_simp
          refine hK _ _ ?_
          clear hK K
          refine wpAnyIn_ready (rs := [2]) (by kernel_rfl) (by simp) ?_
          refine AllReadyIn.cons rfl (fun K hK => ?_) ?_
          · go_simp
            refine ⟨trivial, ?_⟩
            gi_at_call 81
            refine (CallsIn.inRound l (callsIn_wide.2 (unhide HCp))).mono ?_
            rintro e w1 ⟨rfl, hb1⟩
            have hb1' : Below W.heap.size W w1 := ⟨hb1.os, hb1.tape, hb1.output, hb1.size, hb1.block⟩
            obtain ⟨g', cap', w2, hrun, cs1, cs2, HQ⟩ := lst_step (y := y) (unhide HV) (unhide HR) (unhide H0) (unhide HB) hb1' hlp
            have cw1 : w1.cell? ⟨w.heap.size + 1, 0, none⟩ = some v := cell_later hb1' cb
            have cw2 : (w1.alloc (.cells #[.string y.ent.path, .int .i64 y.ent.kind, .int .i64 y.ent.mode, .string y.ent.data] 56)).cell? ⟨w.heap.size + 1, 0, none⟩ = some v := by rw [World.cell?_alloc_lt _ _ _ (World.block_lt_of_cell? _ _ cw1)]; exact cw1
            clear hb1 hb1'
            refine hK _ _ ?_
            clear hK K
            refine wpAnyIn_ready (rs := [3]) (by kernel_rfl) (by simp) ?_
            refine AllReadyIn.cons rfl (fun K hK => ?_) ?_
            · go_simp
              refine hK _ _ ?_
              clear hK K
              refine wpAnyIn_ready (rs := [4]) (by kernel_rfl) (by simp) ?_
              refine AllReadyIn.cons rfl (fun K hK => ?_) ?_
              · rw [if_pos (by rfl)]
                refine opApp _ _ 22 rfl rfl rfl hrun ?_
                refine hK _ _ ?_
                clear hK K
                refine wpAnyIn_ready (rs := [5]) (by kernel_rfl) (by simp) ?_
                refine AllReadyIn.cons rfl (fun K hK => ?_) ?_
                · go_simp
                  refine hK _ _ ?_
                  clear hK K
                  refine wpAnyIn_done (by kernel_rfl) ?_ _
                  exact ⟨(unhide HQ).2.1, (unhide HQ).2.2, by simpa using (unhide HQ).1⟩
                exact AllReadyIn.nil
              exact AllReadyIn.nil
            exact AllReadyIn.nil
          exact AllReadyIn.nil
        exact AllReadyIn.nil
      refine AllReadyIn.cons rfl (fun K hK => ?_) ?_
      · go_simp
        refine hK _ _ ?_
        clear hK K
        refine wpAnyIn_ready (rs := [0, 2]) (by kernel_rfl) (by simp) ?_
        refine AllReadyIn.cons rfl (fun K hK => ?_) ?_
        · go_simp
          refine hK _ _ ?_
          clear hK K
          refine wpAnyIn_ready (rs := [2]) (by kernel_rfl) (by simp) ?_
          refine AllReadyIn.cons rfl (fun K hK => ?_) ?_
          · go_simp
            refine ⟨trivial, ?_⟩
            gi_at_call 81
            refine (CallsIn.inRound l (callsIn_wide.2 (unhide HCp))).mono ?_
            rintro e w1 ⟨rfl, hb1⟩
            have hb1' : Below W.heap.size W w1 := ⟨hb1.os, hb1.tape, hb1.output, hb1.size, hb1.block⟩
            obtain ⟨g', cap', w2, hrun, cs1, cs2, HQ⟩ := lst_step (y := y) (unhide HV) (unhide HR) (unhide H0) (unhide HB) hb1' hlp
            have cw1 : w1.cell? ⟨w.heap.size + 1, 0, none⟩ = some v := cell_later hb1' cb
            have cw2 : (w1.alloc (.cells #[.string y.ent.path, .int .i64 y.ent.kind, .int .i64 y.ent.mode, .string y.ent.data] 56)).cell? ⟨w.heap.size + 1, 0, none⟩ = some v := by rw [World.cell?_alloc_lt _ _ _ (World.block_lt_of_cell? _ _ cw1)]; exact cw1
            clear hb1 hb1'
            refine hK _ _ ?_
            clear hK K
            refine wpAnyIn_ready (rs := [3]) (by kernel_rfl) (by simp) ?_
            refine AllReadyIn.cons rfl (fun K hK => ?_) ?_
            · go_simp
              refine hK _ _ ?_
              clear hK K
              refine wpAnyIn_ready (rs := [4]) (by kernel_rfl) (by simp) ?_
              refine AllReadyIn.cons rfl (fun K hK => ?_) ?_
              · rw [if_pos (by rfl)]
                refine opApp _ _ 22 rfl rfl rfl hrun ?_
                refine hK _ _ ?_
                clear hK K
                refine wpAnyIn_ready (rs := [5]) (by kernel_rfl) (by simp) ?_
                refine AllReadyIn.cons rfl (fun K hK => ?_) ?_
                · go_simp
                  refine hK _ _ ?_
                  clear hK K
                  refine wpAnyIn_done (by kernel_rfl) ?_ _
                  exact ⟨(unhide HQ).2.1, (unhide HQ).2.2, by simpa using (unhide HQ).1⟩
                exact AllReadyIn.nil
              exact AllReadyIn.nil
            exact AllReadyIn.nil
          exact AllReadyIn.nil
        refine AllReadyIn.cons rfl (fun K hK => ?_) ?_
        · go_simp
          refine ⟨trivial, ?_⟩
          gi_at_call 81
          refine (CallsIn.inRound l (callsIn_wide.2 (unhide HCp))).mono ?_
          rintro e w1 ⟨rfl, hb1⟩
          have hb1' : Below W.heap.size W w1 := ⟨hb1.os, hb1.tape, hb1.output, hb1.size, hb1.block⟩
          obtain ⟨g', cap', w2, hrun, cs1, cs2, HQ⟩ := lst_step (y := y) (unhide HV) (unhide HR) (unhide H0) (unhide HB) hb1' hlp
          have cw1 : w1.cell? ⟨w.heap.size + 1, 0, none⟩ = some v := cell_later hb1' cb
          have cw2 : (w1.alloc (.cells #[.string y.ent.path, .int .i64 y.ent.kind, .int .i64 y.ent.mode, .string y.ent.data] 56)).cell? ⟨w.heap.size + 1, 0, none⟩ = some v := by rw [World.cell?_alloc_lt _ _ _ (World.block_lt_of_cell? _ _ cw1)]; exact cw1
          clear hb1 hb1'
          refine hK _ _ ?_
          clear hK K
          refine wpAnyIn_ready (rs := [0, 3]) (by kernel_rfl) (by simp) ?_
          refine AllReadyIn.cons rfl (fun K hK => ?_) ?_
          · go_simp
            refine hK _ _ ?_
            clear hK K
            refine wpAnyIn_ready (rs := [3]) (by kernel_rfl) (by simp) ?_
            refine AllReadyIn.cons rfl (fun K hK => ?_) ?_
            · go_simp
              refine hK _ _ ?_
              clear hK K
              refine wpAnyIn_ready (rs := [4]) (by kernel_rfl) (by simp) ?_
              refine AllReadyIn.cons rfl (fun K hK => ?_) ?_
              · rw [if_pos (by rfl)]
                refine opApp _ _ 22 rfl rfl rfl hrun ?_
                refine hK _ _ ?_
                clear hK K
                refine wpAnyIn_ready (rs := [5]) (by kernel_rfl) (by simp) ?_
                refine AllReadyIn.cons rfl (fun K hK => ?_) ?_
                · go_simp
                  refine hK _ _ ?_
                  clear hK K
                  refine wpAnyIn_done (by kernel_rfl) ?_ _
                  exact ⟨(unhide HQ).2.1, (unhide HQ).2.2, by simpa using (unhide HQ).1⟩
                exact AllReadyIn.nil
              exact AllReadyIn.nil
            exact AllReadyIn.nil
          refine AllReadyIn.cons rfl (fun K hK => ?_) ?_
          · go_simp
            refine hK _ _ ?_
            clear hK K
            refine wpAnyIn_ready (rs := [0]) (by kernel_rfl) (by simp) ?_
            refine AllReadyIn.cons rfl (fun K hK => ?_) ?_
            · go_simp
              refine hK _ _ ?_
              clear hK K
              refine wpAnyIn_ready (rs := [4]) (by kernel_rfl) (by simp) ?_
              refine AllReadyIn.cons rfl (fun K hK => ?_) ?_
              · rw [if_pos (by rfl)]
                refine opApp _ _ 22 rfl rfl rfl hrun ?_
                refine hK _ _ ?_
                clear hK K
                refine wpAnyIn_ready (rs := [5]) (by kernel_rfl) (by simp) ?_
                refine AllReadyIn.cons rfl (fun K hK => ?_) ?_
                · go_simp
                  refine hK _ _ ?_
                  clear hK K
                  refine wpAnyIn_done (by kernel_rfl) ?_ _
                  exact ⟨(unhide HQ).2.1, (unhide HQ).2.2, by simpa using (unhide HQ).1⟩
                exact AllReadyIn.nil
              exact AllReadyIn.nil
            exact AllReadyIn.nil
          exact AllReadyIn.nil
        exact AllReadyIn.nil
      exact AllReadyIn.nil
  case done =>
    rintro D W hD hJ hK
    obtain ⟨⟨v, hv, hr⟩, h0, hb⟩ := hJ
    have cb := hv.cell
    have hr' : OwnE W w.heap.size v es := by
      rw [← unhide HE]; exact hr
    obtain ⟨ao, cap, n, rfl, HN, hrow, _⟩ := ownE_row (ownE_put (.deferred none) hr' hK)
    have HB := hide hb
    have HRow := hide hrow
    clear hv hr h0 hb hr' hrow
    gi_wp2
    refine ⟨by simp, .inl ⟨_, _, rfl, run_takeDeferred hK, ?_⟩⟩
    refine ⟨_, results_tmp rfl _ _ _, ?_⟩
    refine ⟨ao, cap, n, by simp, HN, ?_, ?_⟩
    · exact unhide HRow
    · exact (unhide HB).trans (belowK_b (w := w) (Nat.le_refl _) _ D _ _ (by omega) hK rfl rfl)
end Go.Proofs.YtkeefkfklmhcjaaGreatDoor
