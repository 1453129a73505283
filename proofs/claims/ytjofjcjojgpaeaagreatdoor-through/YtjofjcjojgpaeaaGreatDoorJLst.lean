import Derived.Test.YtjofjcjojgpaeaaGreatDoorJPatO
import Derived.Test.YtjofjcjojgpaeaaGreatDoorJChl
import Derived.Test.YtjofjcjojgpaeaaGreatDoorJPatP
import Derived.BigQuiet
namespace Go.Proofs.YtjofjcjojgpaeaaGreatDoor
open Go.RowKit Go.Maps Go.Sort Go.Shelf
attribute [local go_sem] Oper.semAt_some

theorem ownE_rowAt {W : World} {n0 Bb : Nat} {v : Value} {k : Nat} {xs : List Value} (hb : Boxed W Bb 23 v) (hr : W.ownsRow n0 47 4 v k xs) : ∀ g, rowAt W Bb g → v.ownBlock = some g ∧ n0 ≤ g ∧ ∃ cur, W.heap[g]? = some (.cells cur 47 (0, 0)) := fun g hg => by
  obtain ⟨o, s, n, c, e⟩ := hg
  rw [hb.cell] at e
  cases e
  rcases hr.2 with ⟨hv, _⟩ | ⟨g', cap, cur, hv, h1, h2, _⟩
  · cases hv
  · cases hv
    exact ⟨rfl, h1, cur, h2⟩
theorem ownE_block {W : World} {n0 : Nat} {v : Value} {k g : Nat} {xs : List Value} {Bb : Nat} (hb : Boxed W Bb 23 v) (hr : W.ownsRow n0 47 4 v k xs) (hg : v.ownBlock = some g) : rowAt W Bb g := by
  rcases hr.2 with ⟨hv, _⟩ | ⟨g', cap, cur, hv, h1, h2, _⟩
  · rw [hv] at hg; cases hg
  · rw [hv] at hg
    cases hg
    exact ⟨_, _, _, _, by rw [hb.cell, hv]⟩
/-- The entries of the nodes gone through, the root aside; and the box of the root. -/
def LstJ (w : World) (r : Nd) (pre : List Nd) (W : World) : Prop := (∃ v, Boxed W (w.heap.size + 1) 23 v ∧ OwnE W w.heap.size v (entsN (pre.drop 1))) ∧ W.heap[w.heap.size]? = some (.cells #[.pointer (some ⟨r.nb, 0, none⟩)] 64 (0, 0)) ∧ Below w.heap.size w W
theorem lst_rows {w W : World} {r : Nd} {pre : List Nd} (h : LstJ w r pre W) : ∀ k, rowAt W (w.heap.size + 1) k → w.heap.size ≤ k := fun k hk => by
  obtain ⟨⟨v, hv, hr⟩, _⟩ := h
  exact (ownE_rowAt hv hr k hk).2.1
theorem lst_stay (w : World) (r : Nd) (B0 : Nat) (hB : w.heap.size < B0) : Stay (w.heap.size + 1) B0 (fun pre W => LstJ w r pre W) := by
  refine ⟨fun s W W' hs hk => ?_, fun s W hs g hg => ?_⟩
  · obtain ⟨⟨v, hv, hr⟩, h0, hb⟩ := hs
    have hz := hb.size
    have h0l : w.heap.size < W.heap.size := (Array.getElem?_eq_some_iff.1 h0).1
    refine ⟨⟨v, (hk.block _ hv.lt (.inr (.inl rfl))).trans hv, hr.1, ?_⟩, (hk.block _ h0l (.inl hB)).trans h0, ⟨hk.os.trans hb.os, hk.tape.trans hb.tape, hk.output.trans hb.output, Nat.le_trans hz hk.size, fun k h => (hk.block k (by omega) (.inl (by omega))).trans (hb.block k h)⟩⟩
    rcases hr.2 with h | ⟨g, cap, cur, hv', h1, h2, h3⟩
    · exact .inl h
    · exact .inr ⟨g, cap, cur, hv', h1, (hk.block g (Array.getElem?_eq_some_iff.1 h2).1 (.inr (.inr (ownE_block hv hr (by rw [hv']; rfl))))).trans h2, h3⟩
  · obtain ⟨⟨v, hv, hr⟩, _⟩ := hs
    obtain ⟨_, _, cur, hc⟩ := ownE_rowAt hv hr g hg
    exact ⟨_, hc, rfl⟩
theorem entC_snoc (ks : List Ent) (e : Ent) : entC (ks ++ [e]) = entC ks ++ ec e := by simp [entC]
theorem ec_one (e : Ent) : ∀ u ∈ ec e, u.oneCell' = true := fun u hu => by
  simp only [ec, List.mem_cons, List.not_mem_nil, or_false] at hu
  rcases hu with rfl | rfl | rfl | rfl <;> rfl
theorem ec_new (w : World) (e : Ent) : ∀ j u, (ec e)[j]? = some u → (w.alloc (.cells #[.string e.path, .int .i64 e.kind, .int .i64 e.mode, .string e.data] 47)).cell? ((⟨w.heap.size, 0, none⟩ : Addr).add j) = some u := fun j u hu => by
  have h4 : j < 4 := by
    have := (List.getElem?_eq_some_iff.1 hu).1
    simpa [ec] using this
  have hc : (w.alloc (.cells #[.string e.path, .int .i64 e.kind, .int .i64 e.mode, .string e.data] 47)).heap[w.heap.size]? = some (.cells #[.string e.path, .int .i64 e.kind, .int .i64 e.mode, .string e.data] 47 (0, 0)) := heap_alloc_new _ _
  rcases (by omega : j = 0 ∨ j = 1 ∨ j = 2 ∨ j = 3) with rfl | rfl | rfl | rfl
  · simp [ec] at hu; subst hu; exact cell_of_row _ _ 0 _ _ _ hc
  · simp [ec] at hu; subst hu; exact cell_of_row _ _ 1 _ _ _ hc
  · simp [ec] at hu; subst hu; exact cell_of_row _ _ 2 _ _ _ hc
  · simp [ec] at hu; subst hu; exact cell_of_row _ _ 3 _ _ _ hc
/-- One round: an entry is appended. -/
theorem lst_step {w W w1 : World} {r y x : Nd} {pre : List Nd} {v : Value} (hv : Boxed W (w.heap.size + 1) 23 v) (hr : OwnE W w.heap.size v (entsN ((x :: pre).drop 1))) (h0 : W.heap[w.heap.size]? = some (.cells #[.pointer (some ⟨r.nb, 0, none⟩)] 64 (0, 0))) (hb : Below w.heap.size w W) (hb1 : Below W.heap.size W w1) (hl : pre.length ≤ 200) :
    ∃ g cap w2, (Builtin.append_ #[23, 23] 23 #[v, .slice (some ⟨w1.heap.size, 0, none⟩) 1 1]).run Tryz.prog (w1.alloc (.cells #[.string y.ent.path, .int .i64 y.ent.kind, .int .i64 y.ent.mode, .string y.ent.data] 47)) = .ok (.slice (some ⟨g, 0, none⟩) (pre.length + 1) cap) w2 ∧
      w2.cell? ⟨w.heap.size + 1, 0, none⟩ = some v ∧ w2.frozen? ⟨w.heap.size + 1, 0, none⟩ = false ∧
      Hid (LstJ w r (x :: pre ++ [y]) (w2.setCell ⟨w.heap.size + 1, 0, none⟩ (.slice (some ⟨g, 0, none⟩) (pre.length + 1) cap)) ∧ KeepsOthers W (w2.setCell ⟨w.heap.size + 1, 0, none⟩ (.slice (some ⟨g, 0, none⟩) (pre.length + 1) cap)) ∧ Kc (w.heap.size + 1) W (w2.setCell ⟨w.heap.size + 1, 0, none⟩ (.slice (some ⟨g, 0, none⟩) (pre.length + 1) cap))) := by
  obtain ⟨i0, hi, hz0, hz1, hz2⟩ := info_parts Tryz.info47
  have hz := hb.size
  have hz1' := hb1.size
  have hvl := hv.lt
  have hks : (entsN ((x :: pre).drop 1)).length = pre.length := by simp [entsN]
  have hv1 : Boxed w1 (w.heap.size + 1) 23 v := (hb1.block _ hvl).trans hv
  have hr1 : w1.ownsRow w.heap.size 47 4 v pre.length (entC (entsN ((x :: pre).drop 1))) := by
    have h := World.ownsRow.kept (row := none) hr ⟨hb1.os, hb1.tape, hb1.output, hb1.size, fun k hk _ => hb1.block k hk⟩ (by cases v.ownBlock <;> simp)
    rw [hks] at h
    exact h
  obtain ⟨v', w2, hrun, hown', hgrow, _, hat⟩ := run_append_own_at (P := Tryz.prog) (w := w1.alloc (.cells #[.string y.ent.path, .int .i64 y.ent.kind, .int .i64 y.ent.mode, .string y.ent.data] 47)) w.heap.size 23 23 47 i0 _ 4 48 Tryz.underlying23 hi hz0 hz1 hz2 rfl (by decide) v _ _ (hr1.alloc _) ⟨w1.heap.size, 0, none⟩ 1 1 (ec y.ent) rfl (ec_new w1 y.ent) (ec_one _) (by unfold maxLen; omega) (by omega) (by simp; omega)
  obtain ⟨g, cap, rfl⟩ := ownsRow_succ hown'
  obtain ⟨a1, a2, a3, a4, a5⟩ := hv1.appended (by decide) hr1 (by omega) (by omega) hown' hgrow
  have hs1 : w1.heap.size ≤ w2.heap.size := Nat.le_trans (by simp) hgrow.size
  have hs2 := (KeepsWalks.setCell w2 ⟨w.heap.size + 1, 0, none⟩ (.slice (some ⟨g, 0, none⟩) (pre.length + 1) cap)).size
  have hB1 : Below w.heap.size w w1 := hb.trans (hb1.mono hz)
  have hkc : Kc (w.heap.size + 1) w1 (w2.setCell ⟨w.heap.size + 1, 0, none⟩ (.slice (some ⟨g, 0, none⟩) (pre.length + 1) cap)) := by
    refine ⟨by omega, fun k o hk _ hne hnr => ?_, fun q hq => ?_⟩
    · have hlt := (Array.getElem?_eq_some_iff.1 hk).1
      rw [Below.heap_setCell _ _ _ k hne]
      refine (hgrow.block k (by simp; omega) (fun e => hnr (ownE_block hv1 hr1 e.symm))).trans ?_
      exact (Below.heap_alloc _ _ _ hlt).trans hk
    · obtain ⟨e1, _, cur, hc⟩ := ownE_rowAt a2 a3 q hq
      rcases hat with h | h
      · exact .inl (ownE_block hv1 hr1 (h.symm.trans e1))
      · have e2 : q = w1.heap.size + 1 := by
          rw [e1] at h
          simpa using h
        exact .inr ⟨by omega, (Array.getElem?_eq_some_iff.1 hc).1⟩
  have h0w : w.heap.size < W.heap.size := (Array.getElem?_eq_some_iff.1 h0).1
  have h01 : w1.heap[w.heap.size]? = some (.cells #[.pointer (some ⟨r.nb, 0, none⟩)] 64 (0, 0)) := (hb1.block _ h0w).trans h0
  have hnr : ¬ rowAt w1 (w.heap.size + 1) w.heap.size := fun h => by
    obtain ⟨_, _, cur, hc⟩ := ownE_rowAt hv1 hr1 _ h
    rw [h01] at hc; cases hc
  refine ⟨g, cap, w2, hrun, a1.cell, a1.frozen, hide ⟨⟨⟨_, a2, ?_⟩, hkc.keep _ _ h01 (.inl rfl) (by omega) hnr, hB1.trans (a5.mono (Nat.le_refl _))⟩, (keeps_below hb1).trans a4, (Kc.below hb1 hvl).trans hkc⟩⟩
  unfold OwnE
  have e : entsN ((x :: pre ++ [y]).drop 1) = entsN ((x :: pre).drop 1) ++ [y.ent] := by simp [entsN]
  rw [e, entC_snoc, List.length_append, hks]
  exact a3
theorem ownE_put {W : World} {D B : Nat} {v : Value} {ks : List Ent} {x : Option (List Deferred)} (o : Obj) (h : OwnE W B v ks) (hD : W.heap[D]? = some (.deferred x)) : OwnE (W.putObj D o) B v ks := by
  refine ⟨h.1, ?_⟩
  rcases h.2 with h0 | ⟨g, cap, cur, hv, h1, h2, h3⟩
  · exact .inl h0
  · refine .inr ⟨g, cap, cur, hv, h1, (World.putObj_heap_other (fun e => ?_)).trans h2, h3⟩
    rw [e, hD] at h2; cases h2
set_option maxHeartbeats 2000000 in
set_option maxRecDepth 100000 in
theorem list_any {B : Nat} {r : Nd} {ns : List Nd} {es : List Ent} (w : World) (hM : Mem w B r ns) (HE : Hid (entsN ns = es)) (HT : Hid (TreeG es)) :
    Calls Tryz.prog 31 #[.pointer (some ⟨r.nb, 0, none⟩)] w fun ev w' => ∃ ao cap n, ev = .returned (.slice ao n cap) ∧ Hid (n = es.length) ∧ ERow w' ao es ∧ Below w.heap.size w w' := by
  have HA := hide hM
  have hf73 : Fence.wide.fn 54 := trivial
  have hln : ns.length ≤ 120 := by have := (unhide HT).len; rw [← unhide HE] at this; simpa [entsN] using this
  have hmx : Tryz.prog.follows .mixedOrders = true := by kernel_rfl
  clear hM
  refine (callsIn_wide (n := 6)).1 ?_
  refine callsIn_of_wp_marks Tryz.func31 rfl trivial ?_ rfl
  simp only [Tryz.ntmps31, List.size_toArray, List.length_cons, List.length_nil, Nat.reduceAdd, Nat.reduceSub, Array.replicate_succ, Array.replicate_zero, List.push_toArray, List.append_toArray, List.nil_append, List.cons_append]
  gi_wp2_with (gi_at_call 54; refine (callsIn_wide.2 (all_any _ _)).mono ?_; rintro e w4 ⟨rfl, rfl⟩)
  obtain ⟨W2, hW2⟩ : ∃ W2, W2 = ((w.alloc (.cells #[.pointer (some ⟨r.nb, 0, none⟩)] 64)).alloc (.cells #[.slice none 0 0] 23)).alloc (.cells #[.pointer (some ⟨r.nb, 0, none⟩)] 64) := ⟨_, rfl⟩
  have s2 : W2.heap.size = w.heap.size + 3 := by rw [hW2]; simp
  have hb2 : Below w.heap.size w W2 := by rw [hW2]; exact (((Below.refl _ _).alloc (Nat.le_refl _) _).alloc (by simp) _).alloc (by simp; omega) _
  have j0 : W2.heap[w.heap.size]? = some (.cells #[.pointer (some ⟨r.nb, 0, none⟩)] 64 (0, 0)) := by
    rw [hW2]
    exact (Below.heap_alloc _ _ _ (by simp; omega)).trans ((Below.heap_alloc _ _ _ (by simp)).trans (heap_alloc_new _ _))
  have j1 : W2.heap[w.heap.size + 1]? = some (.cells #[.slice none 0 0] 23 (0, 0)) := by
    rw [hW2]
    refine (Below.heap_alloc _ _ _ (by simp)).trans ?_
    have := heap_alloc_new (w.alloc (.cells #[.pointer (some ⟨r.nb, 0, none⟩)] 64)) (.cells #[.slice none 0 0] 23)
    rw [World.size_alloc] at this
    exact this
  have x2 : W2.heap[w.heap.size + 1 + 1]? = some (.cells #[.pointer (some ⟨r.nb, 0, none⟩)] 64 (0, 0)) := by
    have := heap_alloc_new ((w.alloc (.cells #[.pointer (some ⟨r.nb, 0, none⟩)] 64)).alloc (.cells #[.slice none 0 0] 23)) (.cells #[.pointer (some ⟨r.nb, 0, none⟩)] 64)
    rw [World.size_alloc, World.size_alloc] at this
    rw [hW2]; exact this
  rw [← hW2]
  have hJ0 : LstJ w r [] W2 := ⟨⟨_, j1, World.ownsRow_nil _ _ _ _⟩, j0, hb2⟩
  have hMA : MemA (w.heap.size + 1) W2 B r ns := ⟨(unhide HA).below hb2, fun x hx => by
    have h1 : x.nb < w.heap.size := (Array.getElem?_eq_some_iff.1 ((unhide HA).all x hx).2.2.1).1
    have h2 : x.mb < w.heap.size := World.ownsMap.lt ((unhide HA).all x hx).2.2.2
    exact ⟨⟨by omega, by omega, fun hk => by have := lst_rows hJ0 _ hk; omega⟩, ⟨by omega, by omega, fun hk => by have := lst_rows hJ0 _ hk; omega⟩⟩⟩
  clear hW2 j0 j1
  refine range_all (Bb := w.heap.size + 1) (α := Nd) (xs := r :: ns) rfl (by omega) (gf := 81) (lb := #[.pointer (some ⟨w.heap.size + 1 + 1, 0, none⟩)]) rfl trivial (enters_of Tryz.func81 (by kernel_rfl) rfl)
    (all_seq es B (w.heap.size + 1) (w.heap.size + 1 + 1) 5 r ns W2 HE HT hMA x2 (by omega)) (by omega) (Below.refl _ _) (fun _ => rfl)
    (fun pre W => LstJ w r pre W) (lst_stay w r W2.heap.size (by omega)) hJ0
    (fun t y => (t.setIfInBounds 7 (.pointer (some ⟨y.nb, 0, none⟩))).setIfInBounds 4 (.pointer (some ⟨y.nb, 0, none⟩))) ?assign ?body ?done
  case assign =>
    intro l y W K hK
    gi_wp2
    simpa using hK
  case body =>
    rintro l pre y W hJ hp
    obtain ⟨⟨v, hv, hr⟩, h0, hb⟩ := hJ
    have cb := hv.cell
    have cf := hv.frozen
    have cr : W.cell? ⟨w.heap.size, 0, none⟩ = some (.pointer (some ⟨r.nb, 0, none⟩)) := cell_of_row _ _ 0 _ _ _ h0
    have hf81 : (Fence.wide.inRound l).fn 41 := trivial
    cases pre with
    | nil =>
      have hy : y = r := by
        obtain ⟨t, e⟩ := hp
        simpa using (List.cons.inj e).1
      subst hy
      have HJ : Hid (LstJ w y ([] ++ [y]) W) := hide ⟨⟨v, hv, hr⟩, h0, hb⟩
      have hneq := neq67_same W ⟨y.nb, 0, none⟩
      clear hv hr h0 hb
      gi_wp2
      exact ⟨KeepsOthers.refl _, Kc.refl _ _, unhide HJ⟩
    | cons x pre =>
      have hy : y ∈ ns := by
        obtain ⟨t, e⟩ := hp
        have e2 := (List.cons.inj e).2
        rw [← e2]; simp
      have hnb := nb_apart (unhide HA) hy
      have hlp : pre.length ≤ 200 := by
        have := hp.length_le
        simp at this
        omega
      have hMW := (unhide HA).below hb
      have hneq := neq67_other W hnb (hMW.all y (by simp [hy])).2.2.1 (hMW.all r (by simp)).2.2.1
      have hys := (unhide HT).small y.ent (by rw [← unhide HE]; exact List.mem_map.2 ⟨y, hy, rfl⟩)
      have HCp := hide (copy_any y W.drew (hMW.all y (by simp [hy])).2.2.1 hys.1 hys.2)
      have HV := hide hv
      have HR := hide hr
      have H0 := hide h0
      have HB := hide hb
      clear hMW hv hr h0 hb hys
      gi_wp2
      refine wpIn_region_any hmx ?_
      change wpAnyIn _ _ _ _ _ _ _ _ _ (World.drew _)
      refine wpAnyIn_ready (rs := [0, 1]) (by kernel_rfl) (by simp) ?_
      refine AllReadyIn.cons rfl (fun K hK => ?_) ?_
      · go_simp
        refine hK _ _ ?_
        clear hK K
        refine wpAnyIn_ready (rs := [1]) (by kernel_rfl) (by simp) ?_
        refine AllReadyIn.cons rfl (fun K hK => ?_) ?_
        · go_simp
          refine hK _ _ ?_
          clear hK K
          refine wpAnyIn_ready (rs := [2]) (by kernel_rfl) (by simp) ?_
          refine AllReadyIn.cons rfl (fun K hK => ?_) ?_
          · go_simp
            refine ⟨trivial, ?_⟩
            gi_at_call 41
            refine (CallsIn.inRound l (callsIn_wide.2 (unhide HCp))).mono ?_
            rintro e w1 ⟨rfl, hb1⟩
            have hb1' : Below W.heap.size W w1 := ⟨hb1.os, hb1.tape, hb1.output, hb1.size, hb1.block⟩
            obtain ⟨g', cap', w2, hrun, cs1, cs2, HQ⟩ := lst_step (y := y) (unhide HV) (unhide HR) (unhide H0) (unhide HB) hb1' hlp
            have cw1 : w1.cell? ⟨w.heap.size + 1, 0, none⟩ = some v := cell_later hb1' cb
            have cw2 : (w1.alloc (.cells #[.string y.ent.path, .int .i64 y.ent.kind, .int .i64 y.ent.mode, .string y.ent.data] 47)).cell? ⟨w.heap.size + 1, 0, none⟩ = some v := by rw [World.cell?_alloc_lt _ _ _ (World.block_lt_of_cell? _ _ cw1)]; exact cw1
            clear hb1 hb1'
            refine hK _ _ ?_
            clear hK K
            refine wpAnyIn_ready (rs := [3]) (by kernel_rfl) (by simp) ?_
            refine AllReadyIn.cons rfl (fun K hK => ?_) ?_
            · go_simp
              refine hK _ _ ?_
              clear hK K
              refine wpAnyIn_ready (rs := [4]) (by kernel_rfl) (by simp) ?_
              refine AllReadyIn.cons rfl (fun K hK => ?_) ?_
              · rw [if_pos (by rfl)]
                refine opApp _ _ 23 rfl rfl rfl hrun ?_
                refine hK _ _ ?_
                clear hK K
                refine wpAnyIn_ready (rs := [5]) (by kernel_rfl) (by simp) ?_
                refine AllReadyIn.cons rfl (fun K hK => ?_) ?_
                · go_simp
                  refine hK _ _ ?_
                  clear hK K
                  refine wpAnyIn_done (by kernel_rfl) ?_ _
                  exact ⟨(unhide HQ).2.1, (unhide HQ).2.2, by simpa using (unhide HQ).1⟩
                exact AllReadyIn.nil
              exact AllReadyIn.nil
            exact AllReadyIn.nil
          exact AllReadyIn.nil
        exact AllReadyIn.nil
      refine AllReadyIn.cons rfl (fun K hK => ?_) ?_
      · go_simp
        refine hK _ _ ?_
        clear hK K
        refine wpAnyIn_ready (rs := [0, 2]) (by kernel_rfl) (by simp) ?_
        refine AllReadyIn.cons rfl (fun K hK => ?_) ?_
        · go_simp
          refine hK _ _ ?_
          clear hK K
          refine wpAnyIn_ready (rs := [2]) (by kernel_rfl) (by simp) ?_
          refine AllReadyIn.cons rfl (fun K hK => ?_) ?_
          · go_simp
            refine ⟨trivial, ?_⟩
            gi_at_call 41
            refine (CallsIn.inRound l (callsIn_wide.2 (unhide HCp))).mono ?_
            rintro e w1 ⟨rfl, hb1⟩
            have hb1' : Below W.heap.size W w1 := ⟨hb1.os, hb1.tape, hb1.output, hb1.size, hb1.block⟩
            obtain ⟨g', cap', w2, hrun, cs1, cs2, HQ⟩ := lst_step (y := y) (unhide HV) (unhide HR) (unhide H0) (unhide HB) hb1' hlp
            have cw1 : w1.cell? ⟨w.heap.size + 1, 0, none⟩ = some v := cell_later hb1' cb
            have cw2 : (w1.alloc (.cells #[.string y.ent.path, .int .i64 y.ent.kind, .int .i64 y.ent.mode, .string y.ent.data] 47)).cell? ⟨w.heap.size + 1, 0, none⟩ = some v := by rw [World.cell?_alloc_lt _ _ _ (World.block_lt_of_cell? _ _ cw1)]; exact cw1
            clear hb1 hb1'
            refine hK _ _ ?_
            clear hK K
            refine wpAnyIn_ready (rs := [3]) (by kernel_rfl) (by simp) ?_
            refine AllReadyIn.cons rfl (fun K hK => ?_) ?_
            · go_simp
              refine hK _ _ ?_
              clear hK K
              refine wpAnyIn_ready (rs := [4]) (by kernel_rfl) (by simp) ?_
              refine AllReadyIn.cons rfl (fun K hK => ?_) ?_
              · rw [if_pos (by rfl)]
                refine opApp _ _ 23 rfl rfl rfl hrun ?_
                refine hK _ _ ?_
                clear hK K
                refine wpAnyIn_ready (rs := [5]) (by kernel_rfl) (by simp) ?_
                refine AllReadyIn.cons rfl (fun K hK => ?_) ?_
                · go_simp
                  refine hK _ _ ?_
                  clear hK K
                  refine wpAnyIn_done (by kernel_rfl) ?_ _
                  exact ⟨(unhide HQ).2.1, (unhide HQ).2.2, by simpa using (unhide HQ).1⟩
                exact AllReadyIn.nil
              exact AllReadyIn.nil
            exact AllReadyIn.nil
          exact AllReadyIn.nil
        refine AllReadyIn.cons rfl (fun K hK => ?_) ?_
        · go_simp
          refine ⟨trivial, ?_⟩
          gi_at_call 41
          refine (CallsIn.inRound l (callsIn_wide.2 (unhide HCp))).mono ?_
          rintro e w1 ⟨rfl, hb1⟩
          have hb1' : Below W.heap.size W w1 := ⟨hb1.os, hb1.tape, hb1.output, hb1.size, hb1.block⟩
          obtain ⟨g', cap', w2, hrun, cs1, cs2, HQ⟩ := lst_step (y := y) (unhide HV) (unhide HR) (unhide H0) (unhide HB) hb1' hlp
          have cw1 : w1.cell? ⟨w.heap.size + 1, 0, none⟩ = some v := cell_later hb1' cb
          have cw2 : (w1.alloc (.cells #[.string y.ent.path, .int .i64 y.ent.kind, .int .i64 y.ent.mode, .string y.ent.data] 47)).cell? ⟨w.heap.size + 1, 0, none⟩ = some v := by rw [World.cell?_alloc_lt _ _ _ (World.block_lt_of_cell? _ _ cw1)]; exact cw1
          clear hb1 hb1'
          refine hK _ _ ?_
          clear hK K
          refine wpAnyIn_ready (rs := [0, 3]) (by kernel_rfl) (by simp) ?_
          refine AllReadyIn.cons rfl (fun K hK => ?_) ?_
          · go_simp
            refine hK _ _ ?_
            clear hK K
            refine wpAnyIn_ready (rs := [3]) (by kernel_rfl) (by simp) ?_
            refine AllReadyIn.cons rfl (fun K hK => ?_) ?_
            · go_simp
              refine hK _ _ ?_
              clear hK K
              refine wpAnyIn_ready (rs := [4]) (by kernel_rfl) (by simp) ?_
              refine AllReadyIn.cons rfl (fun K hK => ?_) ?_
              · rw [if_pos (by rfl)]
                refine opApp _ _ 23 rfl rfl rfl hrun ?_
                refine hK _ _ ?_
                clear hK K
                refine wpAnyIn_ready (rs := [5]) (by kernel_rfl) (by simp) ?_
                refine AllReadyIn.cons rfl (fun K hK => ?_) ?_
                · go_simp
                  refine hK _ _ ?_
                  clear hK K
                  refine wpAnyIn_done (by kernel_rfl) ?_ _
                  exact ⟨(unhide HQ).2.1, (unhide HQ).2.2, by simpa using (unhide HQ).1⟩
                exact AllReadyIn.nil
              exact AllReadyIn.nil
            exact AllReadyIn.nil
          refine AllReadyIn.cons rfl (fun K hK => ?_) ?_
          · go_simp
            refine hK _ _ ?_
            clear hK K
            refine wpAnyIn_ready (rs := [0]) (by kernel_rfl) (by simp) ?_
            refine AllReadyIn.cons rfl (fun K hK => ?_) ?_
            · go_simp
              refine hK _ _ ?_
              clear hK K
              refine wpAnyIn_ready (rs := [4]) (by kernel_rfl) (by simp) ?_
              refine AllReadyIn.cons rfl (fun K hK => ?_) ?_
              · rw [if_pos (by rfl)]
                refine opApp _ _ 23 rfl rfl rfl hrun ?_
                refine hK _ _ ?_
                clear hK K
                refine wpAnyIn_ready (rs := [5]) (by kernel_rfl) (by simp) ?_
                refine AllReadyIn.cons rfl (fun K hK => ?_) ?_
                · go_simp
                  refine hK _ _ ?_
                  clear hK K
                  refine wpAnyIn_done (by kernel_rfl) ?_ _
                  exact ⟨(unhide HQ).2.1, (unhide HQ).2.2, by simpa using (unhide HQ).1⟩
                exact AllReadyIn.nil
              exact AllReadyIn.nil
            exact AllReadyIn.nil
          exact AllReadyIn.nil
        exact AllReadyIn.nil
      exact AllReadyIn.nil
  case done =>
    rintro D W hD hJ hK
    obtain ⟨⟨v, hv, hr⟩, h0, hb⟩ := hJ
    have cb := hv.cell
    have hr' : OwnE W w.heap.size v es := by
      rw [← unhide HE]; exact hr
    obtain ⟨ao, cap, n, rfl, HN, hrow, _⟩ := ownE_row (ownE_put (.deferred none) hr' hK)
    have HB := hide hb
    have HRow := hide hrow
    clear hv hr h0 hb hr' hrow
    gi_wp2
    refine ⟨by simp, .inl ⟨_, _, rfl, run_takeDeferred hK, ?_⟩⟩
    refine ⟨_, results_tmp rfl _ _ _, ?_⟩
    refine ⟨ao, cap, n, by simp, HN, ?_, ?_⟩
    · exact unhide HRow
    · exact (unhide HB).trans (belowK_b (w := w) (Nat.le_refl _) _ D _ _ (by omega) hK rfl rfl)
end Go.Proofs.YtjofjcjojgpaeaaGreatDoor

namespace Go.Proofs.YtjofjcjojgpaeaaGreatDoor
open Go.RowKit

theorem new_kept {w w1 : World} {cs : Array Value} {t : TypeId} (h : Below (w.alloc (.cells cs t)).drew.heap.size (w.alloc (.cells cs t)).drew w1) : w1.heap[w.heap.size]? = some (.cells cs t (0, 0)) :=
  (h.block w.heap.size (by show _ < (World.alloc w _).heap.size; simp)).trans (heap_alloc_new w (.cells cs t))
theorem own_drewN {W : World} {B : Nat} {v : Value} {ks : List Ent} (n : Nat) (h : OwnE W B v ks) : OwnE (W.drewN n) B v ks := h
theorem below_drewN {B : Nat} {w W : World} (n : Nat) (h : Below B w W) : Below B w (W.drewN n) := ⟨h.os, h.tape, h.output, h.size, h.block⟩
theorem own_drew {W : World} {B : Nat} {v : Value} {ks : List Ent} (h : OwnE W B v ks) : OwnE W.drew B v ks := h
theorem ownE_erow {W : World} {B vn vc : Nat} {vo : Option Addr} {ks : List Ent} (h : OwnE W B (.slice vo vn vc) ks) : ERow W vo ks := by
  obtain ⟨a, c, n, he, _, hr, _⟩ := ownE_row h
  cases he; exact hr
theorem ret_b {a b : Bool} (h : a = b) : Value.bool a = Value.bool b := by rw [h]
set_option maxHeartbeats 4000000 in
set_option maxRecDepth 100000 in
theorem rawTree_any (ao : Option Addr) (cap n : Nat) (xs : List Tg) (w : World) (hr : TgRow w ao xs) (HN : Hid (n = xs.length)) (hn : n ≤ 140737488351232) :
    Calls Tryz.prog 6 #[.slice ao n cap] w fun ev w' => ∃ (vo : Option Addr) (vc vn : Nat) (es : List Ent), ev = .returned (.slice vo vn vc) ∧ Hid (vn = es.length) ∧ ERow w' vo es ∧ vn ≤ vc ∧ Hid (RawT 17 es) ∧ Below w.heap.size w w' := by
  obtain ⟨i0, hi, hz0, hz1, hz2⟩ := info_parts Tryz.info47
  have HR := hide hr
  clear hr
  go_enter Tryz.func6, Tryz.ntmps6
  go_upto_region 3 with (go_at_call 15; refine (rawPaths_any w).mono ?_; rintro ev w1 ⟨g, rfl, hT, hb1⟩)
  obtain ⟨P, hP⟩ : ∃ P, P = places := ⟨_, rfl⟩
  have hT2 : TRow w1 (some ⟨g, 0, none⟩) P := by rw [hP]; exact hT
  have HP := hide hP
  have HT := hide hT2
  have hlP : P.length = 17 := by rw [hP]; rfl
  have HR1 := hide ((unhide HR).below hb1)
  clear hT hT2 hP HR
  go_wp2_with fail
  go_loopw [3, 5] (fun v i wr => ∃ (k : Nat) (es : List Ent), k ≤ 17 ∧ i = .int .i64 k ∧ OwnE wr w1.heap.size v es ∧ Below w1.heap.size w1 wr ∧ Hid (RawT k es)) (fun _ i _ => 17 - (intOf i).toNat)
  case atStart => exact ⟨0, [], by omega, rfl, World.ownsRow_nil _ _ _ _, Below.refl _ _, hide RawT.nil⟩
  case round =>
    obtain ⟨k, es, hk, rfl, hown, hb, HK⟩ := hrel
    obtain ⟨vo, vc, vn, rfl, HVN, hrow, hnc⟩ := ownE_row hown
    have hvn : vn ≤ 17 := by rw [unhide HVN]; have := (unhide HK).len; omega
    by_cases hlt : k < 17
    · obtain ⟨p, hp⟩ : ∃ p, P[k]? = some p := ⟨P[k]'(by omega), List.getElem?_eq_getElem (by omega)⟩
      obtain ⟨g', hg', hcp⟩ := ((unhide HT).below hb) k p hp
      cases hg'
      have HPk : Hid (places[k]? = some p) := hide (by rw [← unhide HP]; exact hp)
      have hps : p.size ≤ 1073741824 := by
        have := (places_path p (List.mem_of_getElem? (unhide HPk))).2.2
        omega
      have i1 : (0 : Int) ≤ (k : Int) := by omega
      have i2 : (k : Int) < 17 := by omega
      have HOw := hide hown
      have HB := hide hb
      clear hp hown hrow
      go_upto_region 7 with (go_at_call 16; refine (rawUp_is p _ hps).mono ?_; rintro ev w2 ⟨rfl, hw⟩; obtain rfl := hw.symm)
      obtain ⟨b0, hb0⟩ : ∃ b0, b0 = (upS p).toList.isEmpty := ⟨_, rfl⟩
      have HB0 : Hid (b0 = true → dirOf p.data.toList = []) := hide (fun h => by
        rw [hb0, Lib.toList_data] at h
        simpa [upS] using h)
      rw [← hb0]
      clear hb0
      go_wp2_with fail
      go_loopw [6, 7] (fun dv jv wr2 => ∃ j : Nat, j ≤ vn ∧ jv = .int .i64 j ∧ dv = .bool (b0 || dirIn es (upS p) j) ∧ OwnE wr2 w1.heap.size (.slice vo vn vc) es ∧ Below w1.heap.size w1 wr2) (fun _ jv _ => vn - (intOf jv).toNat)
      case atStart => exact ⟨0, by omega, rfl, ret_b (by simp [dirIn]), unhide HOw, unhide HB⟩
      case round =>
        obtain ⟨j, hj, rfl, rfl, hown2, hb2⟩ := hrel
        by_cases hjl : j < vn
        · obtain ⟨x, hx⟩ : ∃ x, es[j]? = some x := ⟨es[j]'(by have := unhide HVN; omega), List.getElem?_eq_getElem (by have := unhide HVN; omega)⟩
          obtain ⟨q, o, hq, c0, c1, _, _⟩ := (ownE_erow hown2) j x hx
          cases hq
          obtain ⟨g', hg', hcp2⟩ := ((unhide HT).below hb2) k p (by rw [unhide HP]; exact unhide HPk)
          cases hg'
          have HSn := hide (dirIn_snoc (q := upS p) hx)
          have HOw2 := hide hown2
          have HB2 := hide hb2
          have j0 : (0 : Int) ≤ (j : Int) := by omega
          have j1 : (j : Int) < (vn : Int) := by omega
          clear hx hown2 hb2
          cases hbb : (b0 || dirIn es (upS p) j)
          · have HBB := hide hbb
            clear hbb
            go_upto_region 10 with fail
            by_cases hpe : x.path.data.toList = (upS p).data.toList
            · have hpe1 : (x.path.toList == (upS p).toList) = true := by rw [Lib.toList_data, Lib.toList_data, hpe]; simp
              by_cases hk1 : x.kind = 1
              · have hk2 : (x.kind == 1) = true := by simp [hk1]
                go_quiet (first | (go_at_call 16; exact Calls.quiet_of_same (rawUp_is p _ hps)))
                go_wp2_with fail
                go_roundw
                case rel =>
                  have R : Value.bool true = .bool (b0 || dirIn es (upS p) (j + 1)) := ret_b (by rw [unhide HSn, ← Bool.or_assoc, unhide HBB, hpe, hk1]; simp)
                  exact ⟨j + 1, by omega, by go_num, R, own_drewN nq (unhide HOw2), below_drewN nq (unhide HB2)⟩
                case measure => simp [intOf]; omega
              · have hk2 : (x.kind == 1) = false := by simp [hk1]
                go_quiet (first | (go_at_call 16; exact Calls.quiet_of_same (rawUp_is p _ hps)))
                go_wp2_with fail
                go_roundw
                case rel =>
                  have R : Value.bool false = .bool (b0 || dirIn es (upS p) (j + 1)) := ret_b (by rw [unhide HSn, ← Bool.or_assoc, unhide HBB, decide_eq_false hk1]; simp)
                  exact ⟨j + 1, by omega, by go_num, R, own_drewN nq (unhide HOw2), below_drewN nq (unhide HB2)⟩
                case measure => simp [intOf]; omega
            · have hpe1 : (x.path.toList == (upS p).toList) = false := by rw [Lib.toList_data, Lib.toList_data]; simpa using hpe
              go_quiet (first | (go_at_call 16; exact Calls.quiet_of_same (rawUp_is p _ hps)))
              go_wp2_with fail
              go_roundw
              case rel =>
                have R : Value.bool false = .bool (b0 || dirIn es (upS p) (j + 1)) := ret_b (by rw [unhide HSn, ← Bool.or_assoc, unhide HBB, beq_false_of_ne hpe]; rfl)
                exact ⟨j + 1, by omega, by go_num, R, own_drewN nq (unhide HOw2), below_drewN nq (unhide HB2)⟩
              case measure => simp [intOf]; omega
          · have HBB := hide hbb
            clear hbb
            go_upto_region 10 with fail
            go_quiet (fail)
            go_wp2_with fail
            go_roundw
            case rel =>
              have R : Value.bool true = .bool (b0 || dirIn es (upS p) (j + 1)) := ret_b (by rw [unhide HSn, ← Bool.or_assoc, unhide HBB]; rfl)
              exact ⟨j + 1, by omega, by go_num, R, own_drewN nq (unhide HOw2), below_drewN nq (unhide HB2)⟩
            case measure => simp [intOf]; omega
        · obtain rfl : j = vn := by omega
          obtain ⟨D, hD⟩ : ∃ D, D = (b0 || dirIn es (upS p) j) := ⟨_, rfl⟩
          have HD : Hid (D = true → dirOf p.data.toList = [] ∨ ∃ x ∈ es, x.path.data.toList = dirOf p.data.toList ∧ x.kind = 1) := hide (fun h => by
            rw [hD, Bool.or_eq_true] at h
            rcases h with h | h
            · exact .inl (unhide HB0 h)
            · exact .inr (dirIn_yes h))
          rw [← hD]
          have HOw2 := hide hown2
          have HB2 := hide hb2
          clear hD hown2 hb2 HB HOw hcp
          go_wp2_with fail
          go_loopw [3, 6, 8] (fun v dv kv wr3 => ∃ (m : Nat) (es' : List Ent) (b : Bool), m ≤ n ∧ kv = .int .i64 ((m : Int) - 1) ∧ dv = .bool b ∧ OwnE wr3 w1.heap.size v es' ∧ Below w1.heap.size w1 wr3 ∧ Hid (RawT (k + 1) es' ∧ (b = true → es' = es ∧ (dirOf p.data.toList = [] ∨ ∃ x ∈ es, x.path.data.toList = dirOf p.data.toList ∧ x.kind = 1)))) (fun _ _ kv _ => (intOf kv + 1).toNat)
          case atStart => exact ⟨n, es, D, Nat.le_refl _, by go_num, rfl, unhide HOw2, unhide HB2, hide ⟨(unhide HK).more, fun h => ⟨rfl, unhide HD h⟩⟩⟩
          case round =>
            obtain ⟨m, es', b, hm, rfl, rfl, hown3, hb3, HI⟩ := hrel
            cases m with
            | zero =>
              have e1 : (((0 : Nat) : Int) - 1) = -1 := by omega
              rw [e1]
              go_wp2_with fail
              go_roundw
              case rel =>
                first
                  | exact ⟨k + 1, es', by omega, by go_num, hown3, hb3, hide (unhide HI).1⟩
                  | ((repeat apply Exists.intro); exact ⟨⟨k + 1, es', by omega, by go_num, hown3, hb3, hide (unhide HI).1⟩, rfl⟩)
              case measure => simp [intOf]; omega
            | succ m =>
              have e1 : (((m + 1 : Nat) : Int) - 1) = (m : Int) := by omega
              rw [e1]
              have m0 : (0 : Int) ≤ (m : Int) := by omega
              cases b with
              | false =>
                go_wp2_with fail
                go_roundw
                case rel =>
                  first
                    | exact ⟨k + 1, es', by omega, by go_num, hown3, hb3, hide (unhide HI).1⟩
                    | ((repeat apply Exists.intro); exact ⟨⟨k + 1, es', by omega, by go_num, hown3, hb3, hide (unhide HI).1⟩, rfl⟩)
                case measure => simp [intOf]; omega
              | true =>
                obtain ⟨rfl, hdir⟩ := (unhide HI).2 rfl
                have HDir := hide hdir
                obtain ⟨x, hx⟩ : ∃ x, xs[m]? = some x := ⟨xs[m]'(by have := unhide HN; omega), List.getElem?_eq_getElem (by have := unhide HN; omega)⟩
                obtain ⟨g2, o2, hq, c0, c1, c2, c3⟩ := ((unhide HR1).below hb3) m x hx
                cases hq
                obtain ⟨g', hg', hcp3⟩ := ((unhide HT).below hb3) k p (by rw [unhide HP]; exact unhide HPk)
                cases hg'
                have m1 : (m : Int) < (n : Int) := by omega
                have HOw3 := hide hown3
                have HB3 := hide hb3
                clear hx hown3 hb3 hdir
                by_cases hqk : pickN x.a 17 = (k : Int)
                · have hqk2 : (pickN x.a 17 == (k : Int)) = true := by simp [hqk]
                  have ng2 : g2 ≠ wr.heap.size := Nat.ne_of_lt (World.block_lt_of_cell? _ _ c0)
                  have ng1 : g ≠ wr.heap.size := Nat.ne_of_lt (World.block_lt_of_cell? _ _ hcp3)
                  go_upto_region 15 with (go_at_call 17; refine (pick_is _ _ _ (by omega) (by omega)).mono ?_; rintro ev w4 ⟨rfl, hw⟩; obtain rfl := hw.symm)
                  go_region_held3 (fun w' => w'.cell? ⟨g2, o2 + m * 4, none⟩ = some (.int .i64 x.a) ∧ w'.cell? ⟨g2, o2 + m * 4 + 1, none⟩ = some (.int .i64 x.b) ∧ w'.cell? ⟨g2, o2 + m * 4 + 2, none⟩ = some (.int .i64 x.c) ∧ w'.cell? ⟨g2, o2 + m * 4 + 3, none⟩ = some (.string x.d) ∧ w'.cell? ⟨g, k, none⟩ = some (.string p)) (first | (with_reducible exact ⟨c0, c1, c2, c3, hcp3⟩) | (with_reducible exact ⟨p0, p1, p2, p3, p4⟩) | (with_reducible exact ⟨set4 _ _ _ _ ng2 p0, set4 _ _ _ _ ng2 p1, set4 _ _ _ _ ng2 p2, set4 _ _ _ _ ng2 p3, set4 _ _ _ _ ng1 p4⟩) | go_keep)
                    (first | (go_at_call 18; refine (entry_any x.a x.b x.c x.d p _).mono ?_; rintro ev w5 ⟨e, rfl, HRE, hb5⟩; have p0 := cell_later (chain0 hb5) c0; have p1 := cell_later (chain0 hb5) c1; have p2 := cell_later (chain0 hb5) c2; have p3 := cell_later (chain0 hb5) c3; have p4 := cell_later (chain0 hb5) hcp3) | (go_at_call 18; refine (entry_any x.a x.b x.c x.d p _).mono ?_; rintro ev w5 ⟨e, rfl, HRE, hb5⟩; have p0 := cell_later (chainA hb5) c0; have p1 := cell_later (chainA hb5) c1; have p2 := cell_later (chainA hb5) c2; have p3 := cell_later (chainA hb5) c3; have p4 := cell_later (chainA hb5) hcp3; have hz := new_kept hb5; have z0 : w5.cell? ⟨wr.heap.size, 0, none⟩ = some (.string ⟨#[]⟩) := cell_of_row _ _ 0 _ _ _ hz; have z1 : w5.cell? ⟨wr.heap.size, 1, none⟩ = some (.int .i64 0) := cell_of_row _ _ 1 _ _ _ hz; have z2 : w5.cell? ⟨wr.heap.size, 2, none⟩ = some (.int .i64 0) := cell_of_row _ _ 2 _ _ _ hz; have z3 : w5.cell? ⟨wr.heap.size, 3, none⟩ = some (.string ⟨#[]⟩) := cell_of_row _ _ 3 _ _ _ hz; have f0 := frz hz 0; have f1 := frz hz 1; have f2 := frz hz 2; have f3 := frz hz 3))
                  · have hbV : Below wr.heap.size wr (w5.alloc (.cells #[.string e.path, .int .i64 e.kind, .int .i64 e.mode, .string e.data] 47)) := (chain0 hb5).alloc (chain0 hb5).size _
                    have v0 : (w5.alloc (.cells #[.string e.path, .int .i64 e.kind, .int .i64 e.mode, .string e.data] 47)).cell? ⟨w5.heap.size, 0, none⟩ = some (.string e.path) := cell_of_row _ _ 0 _ _ _ (heap_alloc_new _ _)
                    have v1 : (w5.alloc (.cells #[.string e.path, .int .i64 e.kind, .int .i64 e.mode, .string e.data] 47)).cell? ⟨w5.heap.size, 1, none⟩ = some (.int .i64 e.kind) := cell_of_row _ _ 1 _ _ _ (heap_alloc_new _ _)
                    have v2 : (w5.alloc (.cells #[.string e.path, .int .i64 e.kind, .int .i64 e.mode, .string e.data] 47)).cell? ⟨w5.heap.size, 2, none⟩ = some (.int .i64 e.mode) := cell_of_row _ _ 2 _ _ _ (heap_alloc_new _ _)
                    have v3 : (w5.alloc (.cells #[.string e.path, .int .i64 e.kind, .int .i64 e.mode, .string e.data] 47)).cell? ⟨w5.heap.size, 3, none⟩ = some (.string e.data) := cell_of_row _ _ 3 _ _ _ (heap_alloc_new _ _)
                    generalize w5.alloc (.cells #[.string e.path, .int .i64 e.kind, .int .i64 e.mode, .string e.data] 47) = V at hbV v0 v1 v2 v3 ⊢
                    have hBV : Below w1.heap.size w1 V := (unhide HB3).trans (hbV.mono (unhide HB3).size)
                    have hownV : OwnE V w1.heap.size u3 es' := World.ownsRow.kept (row := none) (unhide HOw3) ⟨hbV.os, hbV.tape, hbV.output, hbV.size, fun k hk _ => hbV.block k hk⟩ (by cases u3.ownBlock <;> simp)
                    have hle : es'.length ≤ 18 := by have := (unhide HK).len; omega
                    have HPut := hide ((unhide HK).put (unhide HPk) (unhide HRE) (unhide HDir))
                    clear hb5 p0 p1 p2 p3 p4 c0 c1 c2 c3 hcp3
                    go_wp2_with (at_builtin; refine wpList_append_own _ rfl _ _ 23 rfl w1.heap.size 47 i0 _ 4 48 Tryz.underlying23 hi hz0 hz1 hz2 rfl (by decide) _ _ _ rfl (World.ownsRow.alloc hownV _) ⟨V.heap.size, 0, none⟩ 1 1 (ec e) rfl rfl (World.news_of_block (cs := #[.string e.path, .int .i64 e.kind, .int .i64 e.mode, .string e.data]) (t := 47) (fr := (0, 0)) (heap_alloc_new _ _)) (ec_one e) (by unfold maxLen; omega) (by omega) (by have := hBV.size; simp; omega) ?_; intro v' w6 hown6 hgrow _)
                    go_roundw
                    case rel =>
                      have R1 : OwnE w6 w1.heap.size v' (es' ++ [e]) := by
                        unfold OwnE
                        rw [List.length_append, entC_snoc]
                        exact hown6
                      have R2 : Below w1.heap.size w1 w6 := (hBV.alloc hBV.size _).grown hgrow (by have := hBV.size; simp; omega) (fun q hq => (World.ownsRow.lt hownV q hq).1)
                      exact ⟨m, es' ++ [e], false, by omega, by go_num, rfl, R1, R2, hide ⟨unhide HPut, fun h => by cases h⟩⟩
                    case measure => simp [intOf]
                  · have hbV : Below wr.heap.size wr ((((w5.setCell ⟨wr.heap.size, 0, none⟩ (.string e.path)).setCell ⟨wr.heap.size, 1, none⟩ (.int .i64 e.kind)).setCell ⟨wr.heap.size, 2, none⟩ (.int .i64 e.mode)).setCell ⟨wr.heap.size, 3, none⟩ (.string e.data)) := ((((chainA hb5).setCell (p := ⟨wr.heap.size, 0, none⟩) (Nat.le_refl _) _).setCell (p := ⟨wr.heap.size, 1, none⟩) (Nat.le_refl _) _).setCell (p := ⟨wr.heap.size, 2, none⟩) (Nat.le_refl _) _).setCell (p := ⟨wr.heap.size, 3, none⟩) (Nat.le_refl _) _
                    have v0 : ((((w5.setCell ⟨wr.heap.size, 0, none⟩ (.string e.path)).setCell ⟨wr.heap.size, 1, none⟩ (.int .i64 e.kind)).setCell ⟨wr.heap.size, 2, none⟩ (.int .i64 e.mode)).setCell ⟨wr.heap.size, 3, none⟩ (.string e.data)).cell? ⟨wr.heap.size, 0, none⟩ = some (.string e.path) := by simp [go_sem, z0]
                    have v1 : ((((w5.setCell ⟨wr.heap.size, 0, none⟩ (.string e.path)).setCell ⟨wr.heap.size, 1, none⟩ (.int .i64 e.kind)).setCell ⟨wr.heap.size, 2, none⟩ (.int .i64 e.mode)).setCell ⟨wr.heap.size, 3, none⟩ (.string e.data)).cell? ⟨wr.heap.size, 1, none⟩ = some (.int .i64 e.kind) := by simp [go_sem, z1]
                    have v2 : ((((w5.setCell ⟨wr.heap.size, 0, none⟩ (.string e.path)).setCell ⟨wr.heap.size, 1, none⟩ (.int .i64 e.kind)).setCell ⟨wr.heap.size, 2, none⟩ (.int .i64 e.mode)).setCell ⟨wr.heap.size, 3, none⟩ (.string e.data)).cell? ⟨wr.heap.size, 2, none⟩ = some (.int .i64 e.mode) := by simp [go_sem, z2]
                    have v3 : ((((w5.setCell ⟨wr.heap.size, 0, none⟩ (.string e.path)).setCell ⟨wr.heap.size, 1, none⟩ (.int .i64 e.kind)).setCell ⟨wr.heap.size, 2, none⟩ (.int .i64 e.mode)).setCell ⟨wr.heap.size, 3, none⟩ (.string e.data)).cell? ⟨wr.heap.size, 3, none⟩ = some (.string e.data) := by simp [go_sem, z3]
                    generalize (((w5.setCell ⟨wr.heap.size, 0, none⟩ (.string e.path)).setCell ⟨wr.heap.size, 1, none⟩ (.int .i64 e.kind)).setCell ⟨wr.heap.size, 2, none⟩ (.int .i64 e.mode)).setCell ⟨wr.heap.size, 3, none⟩ (.string e.data) = V at hbV v0 v1 v2 v3 ⊢
                    have hBV : Below w1.heap.size w1 V := (unhide HB3).trans (hbV.mono (unhide HB3).size)
                    have hownV : OwnE V w1.heap.size u3 es' := World.ownsRow.kept (row := none) (unhide HOw3) ⟨hbV.os, hbV.tape, hbV.output, hbV.size, fun k hk _ => hbV.block k hk⟩ (by cases u3.ownBlock <;> simp)
                    have hle : es'.length ≤ 18 := by have := (unhide HK).len; omega
                    have HPut := hide ((unhide HK).put (unhide HPk) (unhide HRE) (unhide HDir))
                    clear hb5 p0 p1 p2 p3 p4 c0 c1 c2 c3 hcp3
                    go_wp2_with (at_builtin; refine wpList_append_own _ rfl _ _ 23 rfl w1.heap.size 47 i0 _ 4 48 Tryz.underlying23 hi hz0 hz1 hz2 rfl (by decide) _ _ _ rfl (World.ownsRow.alloc hownV _) ⟨V.heap.size, 0, none⟩ 1 1 (ec e) rfl rfl (World.news_of_block (cs := #[.string e.path, .int .i64 e.kind, .int .i64 e.mode, .string e.data]) (t := 47) (fr := (0, 0)) (heap_alloc_new _ _)) (ec_one e) (by unfold maxLen; omega) (by omega) (by have := hBV.size; simp; omega) ?_; intro v' w6 hown6 hgrow _)
                    go_roundw
                    case rel =>
                      have R1 : OwnE w6 w1.heap.size v' (es' ++ [e]) := by
                        unfold OwnE
                        rw [List.length_append, entC_snoc]
                        exact hown6
                      have R2 : Below w1.heap.size w1 w6 := (hBV.alloc hBV.size _).grown hgrow (by have := hBV.size; simp; omega) (fun q hq => (World.ownsRow.lt hownV q hq).1)
                      exact ⟨m, es' ++ [e], false, by omega, by go_num, rfl, R1, R2, hide ⟨unhide HPut, fun h => by cases h⟩⟩
                    case measure => simp [intOf]
                · have hqk2 : (pickN x.a 17 == (k : Int)) = false := by simp [hqk]
                  go_wp2_with (go_at_call 17; refine (pick_is _ _ _ (by omega) (by omega)).mono ?_; rintro ev w4 ⟨rfl, hw⟩; obtain rfl := hw.symm)
                  go_roundw
                  case rel =>
                    exact ⟨m, es', true, by omega, by go_num, rfl, unhide HOw3, unhide HB3, hide ⟨(unhide HI).1, fun _ => ⟨rfl, unhide HDir⟩⟩⟩
                  case measure => simp [intOf]
    · obtain rfl : k = 17 := by omega
      have HF := hide hrow
      have HB := hide hb
      clear hown hrow hb
      go_wp2_with fail
      go_ret
      exact ⟨vo, vc, vn, es, rfl, HVN, unhide HF, hnc, HK, hb1.trans ((unhide HB).mono hb1.size)⟩
end Go.Proofs.YtjofjcjojgpaeaaGreatDoor
