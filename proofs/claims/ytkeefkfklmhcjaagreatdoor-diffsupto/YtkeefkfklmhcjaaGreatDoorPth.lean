import Derived.Test.YtkeefkfklmhcjaaGreatDoorGon
import Derived.Test.YtkeefkfklmhcjaaGreatDoorSrt
import Derived.Test.YtkeefkfklmhcjaaGreatDoorOpA
import Derived.RangeFuncBox
import Derived.Maps.AppendAt
namespace Go.Proofs.YtkeefkfklmhcjaaGreatDoor
open Go.RowKit Go.Maps Go.Sort Go.Shelf
attribute [local go_sem] Oper.semAt_some

theorem Tryz.info9p : (Tryz.prog.info? 9).map (fun i => (i.zero, i.size, i.bytes)) = some (some (.string ByteArray.empty), 1, 16) := by kernel_rfl
/-- A box that holds a list of texts. -/
def BoxT (w : World) (Bb : Nat) (ps : List ByteArray) (W : World) : Prop := (∃ v, Boxed W Bb 65 v ∧ W.ownsRow w.heap.size 9 1 v ps.length (ps.map Value.string)) ∧ Below w.heap.size w W
theorem own_rowAt {W : World} {n0 Bb : Nat} {v : Value} {k : Nat} {xs : List Value} (hb : Boxed W Bb 65 v) (hr : W.ownsRow n0 9 1 v k xs) : ∀ g, rowAt W Bb g → v.ownBlock = some g ∧ n0 ≤ g ∧ ∃ cur, W.heap[g]? = some (.cells cur 9 (0, 0)) := fun g hg => by
  obtain ⟨o, s, n, c, e⟩ := hg
  rw [hb.cell] at e
  cases e
  rcases hr.2 with ⟨hv, _⟩ | ⟨g', cap, cur, hv, h1, h2, _⟩
  · cases hv
  · cases hv
    exact ⟨rfl, h1, cur, h2⟩
theorem own_block {W : World} {n0 : Nat} {v : Value} {k g : Nat} {xs : List Value} {Bb : Nat} (hb : Boxed W Bb 65 v) (hr : W.ownsRow n0 9 1 v k xs) (hg : v.ownBlock = some g) : rowAt W Bb g := by
  rcases hr.2 with ⟨hv, _⟩ | ⟨g', cap, cur, hv, h1, h2, _⟩
  · rw [hv] at hg; cases hg
  · rw [hv] at hg
    cases hg
    exact ⟨_, _, _, _, by rw [hb.cell, hv]⟩
theorem boxT_stay {β : Type} (w : World) (Bb B0 : Nat) (f : β → List ByteArray) (hB : w.heap.size ≤ B0) : Stay Bb B0 (fun s W => BoxT w Bb (f s) W) := by
  refine ⟨fun s W W' hs hk => ?_, fun s W hs g hg => ?_⟩
  · obtain ⟨⟨v, hv, hr⟩, hb⟩ := hs
    have hz := hb.size
    refine ⟨⟨v, (hk.block Bb hv.lt (.inr (.inl rfl))).trans hv, ?_⟩, ⟨hk.os.trans hb.os, hk.tape.trans hb.tape, hk.output.trans hb.output, Nat.le_trans hb.size hk.size, fun k h => (hk.block k (by omega) (.inl (by omega))).trans (hb.block k h)⟩⟩
    refine ⟨hr.1, ?_⟩
    rcases hr.2 with h | ⟨g, cap, cur, hv', h1, h2, h3⟩
    · exact .inl h
    · exact .inr ⟨g, cap, cur, hv', h1, (hk.block g (Array.getElem?_eq_some_iff.1 h2).1 (.inr (.inr (own_block hv hr (by rw [hv']; rfl))))).trans h2, h3⟩
  · obtain ⟨⟨v, hv, hr⟩, hb⟩ := hs
    obtain ⟨_, _, cur, hc⟩ := own_rowAt hv hr g hg
    exact ⟨_, hc, rfl⟩
/-- Of one round: a text is appended. -/
theorem boxT_append {w W w1 : World} {Bb : Nat} {v v' : Value} {ps : List ByteArray} {p : ByteArray} {tmp : Obj} (hv : Boxed W Bb 65 v) (hr : W.ownsRow w.heap.size 9 1 v ps.length (ps.map Value.string)) (hb : Below w.heap.size w W) (hBb : w.heap.size ≤ Bb)
    (hown : w1.ownsRow w.heap.size 9 1 v' (ps.length + 1) (ps.map Value.string ++ [Value.string p])) (hgrow : (W.alloc tmp).grownBy w1 v.ownBlock) (hat : v'.ownBlock = v.ownBlock ∨ v'.ownBlock = some (W.alloc tmp).heap.size) :
    Boxed w1 Bb 65 v ∧ BoxT w Bb (ps ++ [p]) (w1.setCell ⟨Bb, 0, none⟩ v') ∧ KeepsOthers W (w1.setCell ⟨Bb, 0, none⟩ v') ∧ Kc Bb W (w1.setCell ⟨Bb, 0, none⟩ v') := by
  obtain ⟨h1, h2, h3, h4, h5⟩ := hv.appended (by decide) hr hb.size hBb hown hgrow
  have hs1 : W.heap.size ≤ w1.heap.size := Nat.le_trans (by simp) hgrow.size
  have hs2 := (KeepsWalks.setCell w1 ⟨Bb, 0, none⟩ v').size
  refine ⟨h1, ⟨⟨v', h2, by simpa using h3⟩, hb.trans h5⟩, h4, ⟨by omega, fun k o hk _ hne hnr => ?_, fun g hg => ?_⟩⟩
  · have hlt := (Array.getElem?_eq_some_iff.1 hk).1
    rw [Below.heap_setCell _ _ _ k hne]
    refine (hgrow.block k (by simp; omega) (fun e => hnr (own_block hv hr e.symm))).trans ?_
    exact (Below.heap_alloc _ _ _ hlt).trans hk
  · obtain ⟨e1, _, cur, hc⟩ := own_rowAt h2 h3 g hg
    rcases hat with h | h
    · exact .inl (own_block hv hr (h.symm.trans e1))
    · have e2 : g = W.heap.size + 1 := by
        rw [e1] at h
        simpa using h
      exact .inr ⟨by omega, (Array.getElem?_eq_some_iff.1 hc).1⟩
theorem memA_of {w W : World} {B Bb : Nat} {r : Nd} {ns : List Nd} {es : List Ent} (h : Tr w B r ns es) (hb : Below w.heap.size w W) (hBb : w.heap.size ≤ Bb) (hr : ∀ k, rowAt W Bb k → w.heap.size ≤ k) : MemA Bb W B r ns := by
  refine ⟨h.mem.below hb, fun x hx => ?_⟩
  have h1 : x.nb < w.heap.size := (Array.getElem?_eq_some_iff.1 (h.mem.all x hx).2.2.1).1
  have h2 : x.mb < w.heap.size := World.ownsMap.lt (h.mem.all x hx).2.2.2
  have hz := hb.size
  exact ⟨⟨by omega, by omega, fun hk => by have := hr _ hk; omega⟩, ⟨by omega, by omega, fun hk => by have := hr _ hk; omega⟩⟩
theorem BoxT.rows {w W : World} {Bb : Nat} {ps : List ByteArray} (h : BoxT w Bb ps W) : ∀ k, rowAt W Bb k → w.heap.size ≤ k := fun k hk => by
  obtain ⟨⟨v, hv, hr⟩, _⟩ := h
  exact (own_rowAt hv hr k hk).2.1
set_option maxHeartbeats 2000000 in
set_option maxRecDepth 100000 in
theorem paths_any {B B2 : Nat} {r r2 : Nd} {ns ms : List Nd} {xa xb : List Ent} (m : Int) (w : World) (h : Tr w B r ns xa) (h2 : Tr w B2 r2 ms xb) (hm : w.cell? ⟨15, 0, none⟩ = some (.int .i64 m)) :
    Calls Tryz.prog 78 #[.pointer (some ⟨r.nb, 0, none⟩), .pointer (some ⟨r2.nb, 0, none⟩)] w fun ev w' => ∃ (g cap n : Nat) (ps : List ByteArray), ev = .returned (.slice (some ⟨g, 0, none⟩) n cap) ∧ Hid (n = ps.length) ∧ TRow w' (some ⟨g, 0, none⟩) ps ∧ Hid (txts ps = allP xa xb) ∧ Below w.heap.size w w' := by
  have HA := hide h
  have HB := hide h2
  have hb1 : Below w.heap.size w (w.alloc (.cells #[.slice none 0 0] 65)) := (Below.refl _ _).alloc (Nat.le_refl _) _
  obtain ⟨i0, hi, hz0, hz1, hz2⟩ := info_parts Tryz.info9p
  have hf73 : Fence.wide.fn 90 := trivial
  have hf96 : Fence.wide.fn 120 := trivial
  have hf97 : Fence.wide.fn 121 := trivial
  clear h h2
  refine (callsIn_wide (n := 6)).1 ?_
  refine callsIn_of_wp_marks Tryz.func78 rfl trivial ?_ rfl
  simp only [Tryz.ntmps78, List.size_toArray, List.length_cons, List.length_nil, Nat.reduceAdd, Nat.reduceSub, Array.replicate_succ, Array.replicate_zero, List.push_toArray, List.append_toArray, List.nil_append, List.cons_append]
  gi_wp2_with (gi_at_call 90; refine (callsIn_wide.2 (all_any _ _)).mono ?_; rintro e w4 ⟨rfl, rfl⟩)
  have bt1 : BoxT w w.heap.size [] (w.alloc (.cells #[.slice none 0 0] 65)) := ⟨⟨_, Boxed.new w 65 _, World.ownsRow_nil _ _ _ _⟩, hb1⟩
  obtain ⟨W1, hW1⟩ : ∃ W1, W1 = w.alloc (.cells #[.slice none 0 0] 65) := ⟨_, rfl⟩
  have s1 : W1.heap.size = w.heap.size + 1 := by rw [hW1]; simp
  rw [← hW1] at hb1 bt1 ⊢
  clear hW1
  obtain ⟨W2, hW2⟩ : ∃ W2, W2 = W1.alloc (.cells #[.pointer (some ⟨r.nb, 0, none⟩)] 79) := ⟨_, rfl⟩
  have b12 : Below W1.heap.size W1 W2 := by rw [hW2]; exact (Below.refl _ _).alloc (Nat.le_refl _) _
  have x2 : W2.heap[W1.heap.size]? = some (.cells #[.pointer (some ⟨r.nb, 0, none⟩)] 79 (0, 0)) := by rw [hW2]; exact heap_alloc_new _ _
  have s2 : W2.heap.size = w.heap.size + 2 := by rw [hW2]; simp [s1]
  have bt2 : BoxT w w.heap.size [] W2 := (boxT_stay w w.heap.size w.heap.size (fun _ : Unit => []) (Nat.le_refl _)).go () W1 W2 bt1 (Kept.below b12)
  rw [← hW2]
  rw [s1] at x2
  have hb2 := bt2.2
  have hMA := memA_of (Bb := w.heap.size) (unhide HA) hb2 (Nat.le_refl _) bt2.rows
  clear hW2 b12 s1 bt1 hb1
  refine range_all (Bb := w.heap.size) (α := Nd) (xs := r :: ns) rfl (by omega) (gf := 129) (lb := #[.pointer (some ⟨w.heap.size + 1, 0, none⟩)]) rfl trivial (enters_of Tryz.func129 (by kernel_rfl) rfl)
    (all_seq xa B w.heap.size (w.heap.size + 1) 5 r ns W2 (hide (unhide HA).ents) (hide (unhide HA).tree.g) hMA x2 (by omega)) (by omega) (Below.refl _ _) (fun _ => rfl)
    (fun pre W => BoxT w w.heap.size (pre.map fun y => y.ent.path) W) (boxT_stay w w.heap.size W2.heap.size _ (by omega)) bt2
    (fun t y => (t.setIfInBounds 10 (.pointer (some ⟨y.nb, 0, none⟩))).setIfInBounds 6 (.pointer (some ⟨y.nb, 0, none⟩))) ?assign ?body ?done
  case assign =>
    intro l y W K hK
    gi_wp2
    simpa using hK
  case body =>
    rintro l pre y W ⟨⟨v, hv, hr⟩, hb⟩ hp
    have hy : y ∈ r :: ns := hp.subset (by simp)
    have cy : W.cell? ⟨y.nb, 0, none⟩ = some (.string y.ent.path) := cell_of_row _ _ 0 _ _ _ (((unhide HA).mem.below hb).all y hy).2.2.1
    have hlen : pre.length ≤ 41 := by
      have h1 := hp.length_le
      have h2 := (unhide HA).len
      simp at h1
      omega
    have hvd : Boxed W.drew w.heap.size 65 v := hv
    have hrd : W.drew.ownsRow w.heap.size 9 1 v (pre.map fun y => y.ent.path).length ((pre.map fun y => y.ent.path).map Value.string) := hr
    have hz := hb.size
    obtain ⟨v', w1, hrun, hown', hgrow, _, hat⟩ := run_append_own_at (P := Tryz.prog) (W.drew.alloc (.cells #[.string y.ent.path] 9)) w.heap.size 65 65 9 i0 _ 1 16 Tryz.underlying65 hi hz0 hz1 hz2 rfl (by decide) v _ _ (hrd.alloc _) ⟨W.heap.size, 0, none⟩ 1 1 [.string y.ent.path] rfl (cell_one_new W.drew _ _) (by simp [Value.oneCell']) (by unfold maxLen; simp; omega) (by simp; omega) (by simp; omega)
    obtain ⟨g', cap', rfl⟩ := ownsRow_succ hown'
    obtain ⟨q1, q2, q3, q4⟩ := boxT_append (p := y.ent.path) hvd hrd (hb.trans ⟨rfl, rfl, rfl, Nat.le_refl _, fun _ _ => rfl⟩) (Nat.le_refl _) hown' hgrow hat
    have cb := hv.cell
    have cb2 := (hv.alloc (.cells #[.string y.ent.path] 9)).cell
    have cb1 := q1.cell
    have cf1 := q1.frozen
    rw [List.length_map] at q2 q3 q4
    have Q2 := hide q2
    have Q3 : Hid (KeepsOthers W (w1.setCell ⟨w.heap.size, 0, none⟩ (.slice (some ⟨g', 0, none⟩) (pre.length + 1) cap'))) := hide ⟨q3.size, q3.same⟩
    have Q4 : Hid (Kc w.heap.size W (w1.setCell ⟨w.heap.size, 0, none⟩ (.slice (some ⟨g', 0, none⟩) (pre.length + 1) cap'))) := hide ⟨q4.size, q4.keep, q4.row⟩
    have hmx : Tryz.prog.follows .mixedOrders = true := by kernel_rfl
    clear hr hrd hown' hgrow hat q1 q2 q3 q4 hv hvd
    gi_wp2
    refine wpIn_region_any hmx ?_
    change wpAnyIn _ _ _ _ _ _ _ _ _ (World.drew _)
    refine wpAnyIn_ready (rs := [0, 1]) (by kernel_rfl) (by simp) ?_
    refine AllReadyIn.cons rfl (fun K hK => ?_) ?_
    · go_simp
      refine hK _ _ ?_
      clear hK K
      refine wpAnyIn_ready (rs := [1]) (by kernel_rfl) (by simp) ?_
      refine AllReadyIn.cons rfl (fun K hK => ?_) ?_
      · go_simp
        refine hK _ _ ?_
        clear hK K
        refine wpAnyIn_ready (rs := [2]) (by kernel_rfl) (by simp) ?_
        refine AllReadyIn.cons rfl (fun K hK => ?_) ?_
        · go_simp
          refine hK _ _ ?_
          clear hK K
          refine wpAnyIn_ready (rs := [3]) (by kernel_rfl) (by simp) ?_
          refine AllReadyIn.cons rfl (fun K hK => ?_) ?_
          · go_simp
            refine hK _ _ ?_
            clear hK K
            refine wpAnyIn_ready (rs := [4]) (by kernel_rfl) (by simp) ?_
            refine AllReadyIn.cons rfl (fun K hK => ?_) ?_
            · go_simp
              refine hK _ _ ?_
              clear hK K
              refine wpAnyIn_ready (rs := [5]) (by kernel_rfl) (by simp) ?_
              refine AllReadyIn.cons rfl (fun K hK => ?_) ?_
              · go_simp
                refine hK _ _ ?_
                clear hK K
                refine wpAnyIn_ready (rs := [6]) (by kernel_rfl) (by simp) ?_
                refine AllReadyIn.cons rfl (fun K hK => ?_) ?_
                · go_simp
                  refine hK _ _ ?_
                  clear hK K
                  refine wpAnyIn_ready (rs := [7]) (by kernel_rfl) (by simp) ?_
                  refine AllReadyIn.cons rfl (fun K hK => ?_) AllReadyIn.nil
                  rw [if_pos (by rfl)]
                  refine opApp _ _ 65 rfl rfl rfl hrun ?_
                  refine hK _ _ ?_
                  clear hK K
                  refine wpAnyIn_ready (rs := [8]) (by kernel_rfl) (by simp) ?_
                  refine AllReadyIn.cons rfl (fun K hK => ?_) AllReadyIn.nil
                  go_simp
                  refine hK _ _ ?_
                  clear hK K
                  refine wpAnyIn_done (by kernel_rfl) ?_ _
                  exact ⟨unhide Q3, unhide Q4, by simpa using unhide Q2⟩
                exact AllReadyIn.nil
              exact AllReadyIn.nil
            exact AllReadyIn.nil
          exact AllReadyIn.nil
        exact AllReadyIn.nil
      exact AllReadyIn.nil
    refine AllReadyIn.cons rfl (fun K hK => ?_) ?_
    · go_simp
      refine hK _ _ ?_
      clear hK K
      refine wpAnyIn_ready (rs := [0, 2]) (by kernel_rfl) (by simp) ?_
      refine AllReadyIn.cons rfl (fun K hK => ?_) ?_
      · go_simp
        refine hK _ _ ?_
        clear hK K
        refine wpAnyIn_ready (rs := [2]) (by kernel_rfl) (by simp) ?_
        refine AllReadyIn.cons rfl (fun K hK => ?_) ?_
        · go_simp
          refine hK _ _ ?_
          clear hK K
          refine wpAnyIn_ready (rs := [3]) (by kernel_rfl) (by simp) ?_
          refine AllReadyIn.cons rfl (fun K hK => ?_) ?_
          · go_simp
            refine hK _ _ ?_
            clear hK K
            refine wpAnyIn_ready (rs := [4]) (by kernel_rfl) (by simp) ?_
            refine AllReadyIn.cons rfl (fun K hK => ?_) ?_
            · go_simp
              refine hK _ _ ?_
              clear hK K
              refine wpAnyIn_ready (rs := [5]) (by kernel_rfl) (by simp) ?_
              refine AllReadyIn.cons rfl (fun K hK => ?_) ?_
              · go_simp
                refine hK _ _ ?_
                clear hK K
                refine wpAnyIn_ready (rs := [6]) (by kernel_rfl) (by simp) ?_
                refine AllReadyIn.cons rfl (fun K hK => ?_) ?_
                · go_simp
                  refine hK _ _ ?_
                  clear hK K
                  refine wpAnyIn_ready (rs := [7]) (by kernel_rfl) (by simp) ?_
                  refine AllReadyIn.cons rfl (fun K hK => ?_) AllReadyIn.nil
                  rw [if_pos (by rfl)]
                  refine opApp _ _ 65 rfl rfl rfl hrun ?_
                  refine hK _ _ ?_
                  clear hK K
                  refine wpAnyIn_ready (rs := [8]) (by kernel_rfl) (by simp) ?_
                  refine AllReadyIn.cons rfl (fun K hK => ?_) AllReadyIn.nil
                  go_simp
                  refine hK _ _ ?_
                  clear hK K
                  refine wpAnyIn_done (by kernel_rfl) ?_ _
                  exact ⟨unhide Q3, unhide Q4, by simpa using unhide Q2⟩
                exact AllReadyIn.nil
              exact AllReadyIn.nil
            exact AllReadyIn.nil
          exact AllReadyIn.nil
        exact AllReadyIn.nil
      refine AllReadyIn.cons rfl (fun K hK => ?_) ?_
      · go_simp
        refine hK _ _ ?_
        clear hK K
        refine wpAnyIn_ready (rs := [0, 3]) (by kernel_rfl) (by simp) ?_
        refine AllReadyIn.cons rfl (fun K hK => ?_) ?_
        · go_simp
          refine hK _ _ ?_
          clear hK K
          refine wpAnyIn_ready (rs := [3]) (by kernel_rfl) (by simp) ?_
          refine AllReadyIn.cons rfl (fun K hK => ?_) ?_
          · go_simp
            refine hK _ _ ?_
            clear hK K
            refine wpAnyIn_ready (rs := [4]) (by kernel_rfl) (by simp) ?_
            refine AllReadyIn.cons rfl (fun K hK => ?_) ?_
            · go_simp
              refine hK _ _ ?_
              clear hK K
              refine wpAnyIn_ready (rs := [5]) (by kernel_rfl) (by simp) ?_
              refine AllReadyIn.cons rfl (fun K hK => ?_) ?_
              · go_simp
                refine hK _ _ ?_
                clear hK K
                refine wpAnyIn_ready (rs := [6]) (by kernel_rfl) (by simp) ?_
                refine AllReadyIn.cons rfl (fun K hK => ?_) ?_
                · go_simp
                  refine hK _ _ ?_
                  clear hK K
                  refine wpAnyIn_ready (rs := [7]) (by kernel_rfl) (by simp) ?_
                  refine AllReadyIn.cons rfl (fun K hK => ?_) AllReadyIn.nil
                  rw [if_pos (by rfl)]
                  refine opApp _ _ 65 rfl rfl rfl hrun ?_
                  refine hK _ _ ?_
                  clear hK K
                  refine wpAnyIn_ready (rs := [8]) (by kernel_rfl) (by simp) ?_
                  refine AllReadyIn.cons rfl (fun K hK => ?_) AllReadyIn.nil
                  go_simp
                  refine hK _ _ ?_
                  clear hK K
                  refine wpAnyIn_done (by kernel_rfl) ?_ _
                  exact ⟨unhide Q3, unhide Q4, by simpa using unhide Q2⟩
                exact AllReadyIn.nil
              exact AllReadyIn.nil
            exact AllReadyIn.nil
          exact AllReadyIn.nil
        refine AllReadyIn.cons rfl (fun K hK => ?_) ?_
        · go_simp
          refine hK _ _ ?_
          clear hK K
          refine wpAnyIn_ready (rs := [0, 4]) (by kernel_rfl) (by simp) ?_
          refine AllReadyIn.cons rfl (fun K hK => ?_) ?_
          · go_simp
            refine hK _ _ ?_
            clear hK K
            refine wpAnyIn_ready (rs := [4]) (by kernel_rfl) (by simp) ?_
            refine AllReadyIn.cons rfl (fun K hK => ?_) ?_
            · go_simp
              refine hK _ _ ?_
              clear hK K
              refine wpAnyIn_ready (rs := [5]) (by kernel_rfl) (by simp) ?_
              refine AllReadyIn.cons rfl (fun K hK => ?_) ?_
              · go_simp
                refine hK _ _ ?_
                clear hK K
                refine wpAnyIn_ready (rs := [6]) (by kernel_rfl) (by simp) ?_
                refine AllReadyIn.cons rfl (fun K hK => ?_) ?_
                · go_simp
                  refine hK _ _ ?_
                  clear hK K
                  refine wpAnyIn_ready (rs := [7]) (by kernel_rfl) (by simp) ?_
                  refine AllReadyIn.cons rfl (fun K hK => ?_) AllReadyIn.nil
                  rw [if_pos (by rfl)]
                  refine opApp _ _ 65 rfl rfl rfl hrun ?_
                  refine hK _ _ ?_
                  clear hK K
                  refine wpAnyIn_ready (rs := [8]) (by kernel_rfl) (by simp) ?_
                  refine AllReadyIn.cons rfl (fun K hK => ?_) AllReadyIn.nil
                  go_simp
                  refine hK _ _ ?_
                  clear hK K
                  refine wpAnyIn_done (by kernel_rfl) ?_ _
                  exact ⟨unhide Q3, unhide Q4, by simpa using unhide Q2⟩
                exact AllReadyIn.nil
              exact AllReadyIn.nil
            exact AllReadyIn.nil
          refine AllReadyIn.cons rfl (fun K hK => ?_) ?_
          · go_simp
            refine hK _ _ ?_
            clear hK K
            refine wpAnyIn_ready (rs := [0, 5]) (by kernel_rfl) (by simp) ?_
            refine AllReadyIn.cons rfl (fun K hK => ?_) ?_
            · go_simp
              refine hK _ _ ?_
              clear hK K
              refine wpAnyIn_ready (rs := [5]) (by kernel_rfl) (by simp) ?_
              refine AllReadyIn.cons rfl (fun K hK => ?_) ?_
              · go_simp
                refine hK _ _ ?_
                clear hK K
                refine wpAnyIn_ready (rs := [6]) (by kernel_rfl) (by simp) ?_
                refine AllReadyIn.cons rfl (fun K hK => ?_) ?_
                · go_simp
                  refine hK _ _ ?_
                  clear hK K
                  refine wpAnyIn_ready (rs := [7]) (by kernel_rfl) (by simp) ?_
                  refine AllReadyIn.cons rfl (fun K hK => ?_) AllReadyIn.nil
                  rw [if_pos (by rfl)]
                  refine opApp _ _ 65 rfl rfl rfl hrun ?_
                  refine hK _ _ ?_
                  clear hK K
                  refine wpAnyIn_ready (rs := [8]) (by kernel_rfl) (by simp) ?_
                  refine AllReadyIn.cons rfl (fun K hK => ?_) AllReadyIn.nil
                  go_simp
                  refine hK _ _ ?_
                  clear hK K
                  refine wpAnyIn_done (by kernel_rfl) ?_ _
                  exact ⟨unhide Q3, unhide Q4, by simpa using unhide Q2⟩
                exact AllReadyIn.nil
              exact AllReadyIn.nil
            refine AllReadyIn.cons rfl (fun K hK => ?_) ?_
            · go_simp
              refine hK _ _ ?_
              clear hK K
              refine wpAnyIn_ready (rs := [0, 6]) (by kernel_rfl) (by simp) ?_
              refine AllReadyIn.cons rfl (fun K hK => ?_) ?_
              · go_simp
                refine hK _ _ ?_
                clear hK K
                refine wpAnyIn_ready (rs := [6]) (by kernel_rfl) (by simp) ?_
                refine AllReadyIn.cons rfl (fun K hK => ?_) ?_
                · go_simp
                  refine hK _ _ ?_
                  clear hK K
                  refine wpAnyIn_ready (rs := [7]) (by kernel_rfl) (by simp) ?_
                  refine AllReadyIn.cons rfl (fun K hK => ?_) AllReadyIn.nil
                  rw [if_pos (by rfl)]
                  refine opApp _ _ 65 rfl rfl rfl hrun ?_
                  refine hK _ _ ?_
                  clear hK K
                  refine wpAnyIn_ready (rs := [8]) (by kernel_rfl) (by simp) ?_
                  refine AllReadyIn.cons rfl (fun K hK => ?_) AllReadyIn.nil
                  go_simp
                  refine hK _ _ ?_
                  clear hK K
                  refine wpAnyIn_done (by kernel_rfl) ?_ _
                  exact ⟨unhide Q3, unhide Q4, by simpa using unhide Q2⟩
                exact AllReadyIn.nil
              refine AllReadyIn.cons rfl (fun K hK => ?_) ?_
              · go_simp
                refine hK _ _ ?_
                clear hK K
                refine wpAnyIn_ready (rs := [0]) (by kernel_rfl) (by simp) ?_
                refine AllReadyIn.cons rfl (fun K hK => ?_) ?_
                · go_simp
                  refine hK _ _ ?_
                  clear hK K
                  refine wpAnyIn_ready (rs := [7]) (by kernel_rfl) (by simp) ?_
                  refine AllReadyIn.cons rfl (fun K hK => ?_) AllReadyIn.nil
                  rw [if_pos (by rfl)]
                  refine opApp _ _ 65 rfl rfl rfl hrun ?_
                  refine hK _ _ ?_
                  clear hK K
                  refine wpAnyIn_ready (rs := [8]) (by kernel_rfl) (by simp) ?_
                  refine AllReadyIn.cons rfl (fun K hK => ?_) AllReadyIn.nil
                  go_simp
                  refine hK _ _ ?_
                  clear hK K
                  refine wpAnyIn_done (by kernel_rfl) ?_ _
                  exact ⟨unhide Q3, unhide Q4, by simpa using unhide Q2⟩
                exact AllReadyIn.nil
              exact AllReadyIn.nil
            exact AllReadyIn.nil
          exact AllReadyIn.nil
        exact AllReadyIn.nil
      exact AllReadyIn.nil
    exact AllReadyIn.nil
  case done =>
    rintro D W hD bt3 hK
    have hb3 := bt3.2
    gi_wp2_with (gi_at_call 90; refine (callsIn_wide.2 (all_any _ _)).mono ?_; rintro e w4 ⟨rfl, rfl⟩)
    obtain ⟨P1, hP1⟩ : ∃ P1 : List ByteArray, P1 = (r :: ns).map fun y => y.ent.path := ⟨_, rfl⟩
    have hP1l : P1.length ≤ 41 := by have := (unhide HA).len; rw [hP1]; simp; omega
    rw [← hP1] at bt3
    obtain ⟨W4, hW4⟩ : ∃ W4, W4 = W.alloc (.cells #[.pointer (some ⟨r2.nb, 0, none⟩)] 79) := ⟨_, rfl⟩
    have b34 : Below W.heap.size W W4 := by rw [hW4]; exact (Below.refl _ _).alloc (Nat.le_refl _) _
    have x4 : W4.heap[W.heap.size]? = some (.cells #[.pointer (some ⟨r2.nb, 0, none⟩)] 79 (0, 0)) := by rw [hW4]; exact heap_alloc_new _ _
    have s4 : W4.heap.size = W.heap.size + 1 := by rw [hW4]; simp
    have bt4 : BoxT w w.heap.size P1 W4 := (boxT_stay w w.heap.size w.heap.size (fun _ : Unit => P1) (Nat.le_refl _)).go () W W4 bt3 (Kept.below b34)
    have hKD4 : W4.heap[D]? = some (.deferred (some [])) := (b34.block D (Array.getElem?_eq_some_iff.1 hK).1).trans hK
    have hDlt : D < W.heap.size := (Array.getElem?_eq_some_iff.1 hK).1
    have hMA2 := memA_of (Bb := w.heap.size) (unhide HB) bt4.2 (Nat.le_refl _) bt4.rows
    have hbs := hb3.size
    have HP1 := hide hP1
    rw [← hW4]
    clear hW4 b34 bt3 hb3 hK hP1
    refine range_all (Bb := w.heap.size) (α := Nd) (xs := r2 :: ms) rfl (by omega) (gf := 129) (lb := #[.pointer (some ⟨W.heap.size, 0, none⟩)]) rfl trivial (enters_of Tryz.func129 (by kernel_rfl) rfl)
      (all_seq xb B2 w.heap.size W.heap.size 5 r2 ms W4 (hide (unhide HB).ents) (hide (unhide HB).tree.g) hMA2 x4 (by omega)) (by omega) (Below.refl _ _) (fun _ => rfl)
      (fun pre V => BoxT w w.heap.size (P1 ++ pre.map fun y => y.ent.path) V ∧ V.heap[D]? = some (.deferred (some [])))
      ⟨fun s V V' hs hk => ⟨(boxT_stay w w.heap.size W4.heap.size (fun pre : List Nd => P1 ++ pre.map fun y => y.ent.path) (by omega)).go s V V' hs.1 hk, (hk.block D (Array.getElem?_eq_some_iff.1 hs.2).1 (.inl (by omega))).trans hs.2⟩,
        fun s V hs => (boxT_stay w w.heap.size W4.heap.size (fun pre : List Nd => P1 ++ pre.map fun y => y.ent.path) (by omega)).row s V hs.1⟩
      ⟨by simpa using bt4, hKD4⟩
      (fun t y => (t.setIfInBounds 21 (.pointer (some ⟨y.nb, 0, none⟩))).setIfInBounds 7 (.pointer (some ⟨y.nb, 0, none⟩))) ?assign2 ?body2 ?done2
    case assign2 =>
      intro l y W K hK
      gi_wp2
      simpa using hK
    case body2 =>
      rintro l pre y W ⟨⟨⟨v, hv, hr⟩, hb⟩, hKD⟩ hp
      have hy : y ∈ r2 :: ms := hp.subset (by simp)
      have cy : W.cell? ⟨y.nb, 0, none⟩ = some (.string y.ent.path) := cell_of_row _ _ 0 _ _ _ (((unhide HB).mem.below hb).all y hy).2.2.1
      have hlen : pre.length ≤ 41 := by
        have h1 := hp.length_le
        have h2 := (unhide HB).len
        simp at h1
        omega
      obtain ⟨q, hq⟩ : ∃ q, q = (P1 ++ pre.map fun y => y.ent.path).length := ⟨_, rfl⟩
      have hql : q ≤ 90 := by rw [hq]; simp; omega
      have HQ := hide hq
      rw [← hq] at hr
      have hvd : Boxed W.drew w.heap.size 65 v := hv
      have hrd : W.drew.ownsRow w.heap.size 9 1 v q ((P1 ++ pre.map fun y => y.ent.path).map Value.string) := hr
      have hz := hb.size
      obtain ⟨v', w1, hrun, hown', hgrow, _, hat⟩ := run_append_own_at (P := Tryz.prog) (W.drew.alloc (.cells #[.string y.ent.path] 9)) w.heap.size 65 65 9 i0 _ 1 16 Tryz.underlying65 hi hz0 hz1 hz2 rfl (by decide) v _ _ (hrd.alloc _) ⟨W.heap.size, 0, none⟩ 1 1 [.string y.ent.path] rfl (cell_one_new W.drew _ _) (by simp [Value.oneCell']) (by unfold maxLen; omega) (by omega) (by simp; omega)
      obtain ⟨g', cap', rfl⟩ := ownsRow_succ hown'
      rw [hq] at hrd hown'
      obtain ⟨q1, q2, q3, q4⟩ := boxT_append (p := y.ent.path) hvd hrd (hb.trans ⟨rfl, rfl, rfl, Nat.le_refl _, fun _ _ => rfl⟩) (Nat.le_refl _) hown' hgrow hat
      have cb := hv.cell
      have cb2 := (hv.alloc (.cells #[.string y.ent.path] 9)).cell
      have cb1 := q1.cell
      have cf1 := q1.frozen
      rw [← hq] at q2 q3 q4
      have Q2 := hide q2
      have Q3 : Hid (KeepsOthers W (w1.setCell ⟨w.heap.size, 0, none⟩ (.slice (some ⟨g', 0, none⟩) (q + 1) cap'))) := hide ⟨q3.size, q3.same⟩
      have Q4 : Hid (Kc w.heap.size W (w1.setCell ⟨w.heap.size, 0, none⟩ (.slice (some ⟨g', 0, none⟩) (q + 1) cap'))) := hide ⟨q4.size, q4.keep, q4.row⟩
      have hmx : Tryz.prog.follows .mixedOrders = true := by kernel_rfl
      rw [← hq] at hown'
      clear hr hrd hown' hgrow hat q1 q2 q3 q4 hv hvd hq
      gi_wp2
      refine wpIn_region_any hmx ?_
      change wpAnyIn _ _ _ _ _ _ _ _ _ (World.drew _)
      refine wpAnyIn_ready (rs := [0, 1]) (by kernel_rfl) (by simp) ?_
      refine AllReadyIn.cons rfl (fun K hK => ?_) ?_
      · go_simp
        refine hK _ _ ?_
        clear hK K
        refine wpAnyIn_ready (rs := [1]) (by kernel_rfl) (by simp) ?_
        refine AllReadyIn.cons rfl (fun K hK => ?_) ?_
        · go_simp
          refine hK _ _ ?_
          clear hK K
          refine wpAnyIn_ready (rs := [2]) (by kernel_rfl) (by simp) ?_
          refine AllReadyIn.cons rfl (fun K hK => ?_) ?_
          · go_simp
            refine hK _ _ ?_
            clear hK K
            refine wpAnyIn_ready (rs := [3]) (by kernel_rfl) (by simp) ?_
            refine AllReadyIn.cons rfl (fun K hK => ?_) ?_
            · go_simp
              refine hK _ _ ?_
              clear hK K
              refine wpAnyIn_ready (rs := [4]) (by kernel_rfl) (by simp) ?_
              refine AllReadyIn.cons rfl (fun K hK => ?_) ?_
              · go_simp
                refine hK _ _ ?_
                clear hK K
                refine wpAnyIn_ready (rs := [5]) (by kernel_rfl) (by simp) ?_
                refine AllReadyIn.cons rfl (fun K hK => ?_) ?_
                · go_simp
                  refine hK _ _ ?_
                  clear hK K
                  refine wpAnyIn_ready (rs := [6]) (by kernel_rfl) (by simp) ?_
                  refine AllReadyIn.cons rfl (fun K hK => ?_) ?_
                  · go_simp
                    refine hK _ _ ?_
                    clear hK K
                    refine wpAnyIn_ready (rs := [7]) (by kernel_rfl) (by simp) ?_
                    refine AllReadyIn.cons rfl (fun K hK => ?_) AllReadyIn.nil
                    rw [if_pos (by rfl)]
                    refine opApp _ _ 65 rfl rfl rfl hrun ?_
                    refine hK _ _ ?_
                    clear hK K
                    refine wpAnyIn_ready (rs := [8]) (by kernel_rfl) (by simp) ?_
                    refine AllReadyIn.cons rfl (fun K hK => ?_) AllReadyIn.nil
                    go_simp
                    refine hK _ _ ?_
                    clear hK K
                    refine wpAnyIn_done (by kernel_rfl) ?_ _
                    exact ⟨unhide Q3, unhide Q4, by simpa using unhide Q2, (unhide Q3).same D _ hKD rfl⟩
                  exact AllReadyIn.nil
                exact AllReadyIn.nil
              exact AllReadyIn.nil
            exact AllReadyIn.nil
          exact AllReadyIn.nil
        exact AllReadyIn.nil
      refine AllReadyIn.cons rfl (fun K hK => ?_) ?_
      · go_simp
        refine hK _ _ ?_
        clear hK K
        refine wpAnyIn_ready (rs := [0, 2]) (by kernel_rfl) (by simp) ?_
        refine AllReadyIn.cons rfl (fun K hK => ?_) ?_
        · go_simp
          refine hK _ _ ?_
          clear hK K
          refine wpAnyIn_ready (rs := [2]) (by kernel_rfl) (by simp) ?_
          refine AllReadyIn.cons rfl (fun K hK => ?_) ?_
          · go_simp
            refine hK _ _ ?_
            clear hK K
            refine wpAnyIn_ready (rs := [3]) (by kernel_rfl) (by simp) ?_
            refine AllReadyIn.cons rfl (fun K hK => ?_) ?_
            · go_simp
              refine hK _ _ ?_
              clear hK K
              refine wpAnyIn_ready (rs := [4]) (by kernel_rfl) (by simp) ?_
              refine AllReadyIn.cons rfl (fun K hK => ?_) ?_
              · go_simp
                refine hK _ _ ?_
                clear hK K
                refine wpAnyIn_ready (rs := [5]) (by kernel_rfl) (by simp) ?_
                refine AllReadyIn.cons rfl (fun K hK => ?_) ?_
                · go_simp
                  refine hK _ _ ?_
                  clear hK K
                  refine wpAnyIn_ready (rs := [6]) (by kernel_rfl) (by simp) ?_
                  refine AllReadyIn.cons rfl (fun K hK => ?_) ?_
                  · go_simp
                    refine hK _ _ ?_
                    clear hK K
                    refine wpAnyIn_ready (rs := [7]) (by kernel_rfl) (by simp) ?_
                    refine AllReadyIn.cons rfl (fun K hK => ?_) AllReadyIn.nil
                    rw [if_pos (by rfl)]
                    refine opApp _ _ 65 rfl rfl rfl hrun ?_
                    refine hK _ _ ?_
                    clear hK K
                    refine wpAnyIn_ready (rs := [8]) (by kernel_rfl) (by simp) ?_
                    refine AllReadyIn.cons rfl (fun K hK => ?_) AllReadyIn.nil
                    go_simp
                    refine hK _ _ ?_
                    clear hK K
                    refine wpAnyIn_done (by kernel_rfl) ?_ _
                    exact ⟨unhide Q3, unhide Q4, by simpa using unhide Q2, (unhide Q3).same D _ hKD rfl⟩
                  exact AllReadyIn.nil
                exact AllReadyIn.nil
              exact AllReadyIn.nil
            exact AllReadyIn.nil
          exact AllReadyIn.nil
        refine AllReadyIn.cons rfl (fun K hK => ?_) ?_
        · go_simp
          refine hK _ _ ?_
          clear hK K
          refine wpAnyIn_ready (rs := [0, 3]) (by kernel_rfl) (by simp) ?_
          refine AllReadyIn.cons rfl (fun K hK => ?_) ?_
          · go_simp
            refine hK _ _ ?_
            clear hK K
            refine wpAnyIn_ready (rs := [3]) (by kernel_rfl) (by simp) ?_
            refine AllReadyIn.cons rfl (fun K hK => ?_) ?_
            · go_simp
              refine hK _ _ ?_
              clear hK K
              refine wpAnyIn_ready (rs := [4]) (by kernel_rfl) (by simp) ?_
              refine AllReadyIn.cons rfl (fun K hK => ?_) ?_
              · go_simp
                refine hK _ _ ?_
                clear hK K
                refine wpAnyIn_ready (rs := [5]) (by kernel_rfl) (by simp) ?_
                refine AllReadyIn.cons rfl (fun K hK => ?_) ?_
                · go_simp
                  refine hK _ _ ?_
                  clear hK K
                  refine wpAnyIn_ready (rs := [6]) (by kernel_rfl) (by simp) ?_
                  refine AllReadyIn.cons rfl (fun K hK => ?_) ?_
                  · go_simp
                    refine hK _ _ ?_
                    clear hK K
                    refine wpAnyIn_ready (rs := [7]) (by kernel_rfl) (by simp) ?_
                    refine AllReadyIn.cons rfl (fun K hK => ?_) AllReadyIn.nil
                    rw [if_pos (by rfl)]
                    refine opApp _ _ 65 rfl rfl rfl hrun ?_
                    refine hK _ _ ?_
                    clear hK K
                    refine wpAnyIn_ready (rs := [8]) (by kernel_rfl) (by simp) ?_
                    refine AllReadyIn.cons rfl (fun K hK => ?_) AllReadyIn.nil
                    go_simp
                    refine hK _ _ ?_
                    clear hK K
                    refine wpAnyIn_done (by kernel_rfl) ?_ _
                    exact ⟨unhide Q3, unhide Q4, by simpa using unhide Q2, (unhide Q3).same D _ hKD rfl⟩
                  exact AllReadyIn.nil
                exact AllReadyIn.nil
              exact AllReadyIn.nil
            exact AllReadyIn.nil
          refine AllReadyIn.cons rfl (fun K hK => ?_) ?_
          · go_simp
            refine hK _ _ ?_
            clear hK K
            refine wpAnyIn_ready (rs := [0, 4]) (by kernel_rfl) (by simp) ?_
            refine AllReadyIn.cons rfl (fun K hK => ?_) ?_
            · go_simp
              refine hK _ _ ?_
              clear hK K
              refine wpAnyIn_ready (rs := [4]) (by kernel_rfl) (by simp) ?_
              refine AllReadyIn.cons rfl (fun K hK => ?_) ?_
              · go_simp
                refine hK _ _ ?_
                clear hK K
                refine wpAnyIn_ready (rs := [5]) (by kernel_rfl) (by simp) ?_
                refine AllReadyIn.cons rfl (fun K hK => ?_) ?_
                · go_simp
                  refine hK _ _ ?_
                  clear hK K
                  refine wpAnyIn_ready (rs := [6]) (by kernel_rfl) (by simp) ?_
                  refine AllReadyIn.cons rfl (fun K hK => ?_) ?_
                  · go_simp
                    refine hK _ _ ?_
                    clear hK K
                    refine wpAnyIn_ready (rs := [7]) (by kernel_rfl) (by simp) ?_
                    refine AllReadyIn.cons rfl (fun K hK => ?_) AllReadyIn.nil
                    rw [if_pos (by rfl)]
                    refine opApp _ _ 65 rfl rfl rfl hrun ?_
                    refine hK _ _ ?_
                    clear hK K
                    refine wpAnyIn_ready (rs := [8]) (by kernel_rfl) (by simp) ?_
                    refine AllReadyIn.cons rfl (fun K hK => ?_) AllReadyIn.nil
                    go_simp
                    refine hK _ _ ?_
                    clear hK K
                    refine wpAnyIn_done (by kernel_rfl) ?_ _
                    exact ⟨unhide Q3, unhide Q4, by simpa using unhide Q2, (unhide Q3).same D _ hKD rfl⟩
                  exact AllReadyIn.nil
                exact AllReadyIn.nil
              exact AllReadyIn.nil
            refine AllReadyIn.cons rfl (fun K hK => ?_) ?_
            · go_simp
              refine hK _ _ ?_
              clear hK K
              refine wpAnyIn_ready (rs := [0, 5]) (by kernel_rfl) (by simp) ?_
              refine AllReadyIn.cons rfl (fun K hK => ?_) ?_
              · go_simp
                refine hK _ _ ?_
                clear hK K
                refine wpAnyIn_ready (rs := [5]) (by kernel_rfl) (by simp) ?_
                refine AllReadyIn.cons rfl (fun K hK => ?_) ?_
                · go_simp
                  refine hK _ _ ?_
                  clear hK K
                  refine wpAnyIn_ready (rs := [6]) (by kernel_rfl) (by simp) ?_
                  refine AllReadyIn.cons rfl (fun K hK => ?_) ?_
                  · go_simp
                    refine hK _ _ ?_
                    clear hK K
                    refine wpAnyIn_ready (rs := [7]) (by kernel_rfl) (by simp) ?_
                    refine AllReadyIn.cons rfl (fun K hK => ?_) AllReadyIn.nil
                    rw [if_pos (by rfl)]
                    refine opApp _ _ 65 rfl rfl rfl hrun ?_
                    refine hK _ _ ?_
                    clear hK K
                    refine wpAnyIn_ready (rs := [8]) (by kernel_rfl) (by simp) ?_
                    refine AllReadyIn.cons rfl (fun K hK => ?_) AllReadyIn.nil
                    go_simp
                    refine hK _ _ ?_
                    clear hK K
                    refine wpAnyIn_done (by kernel_rfl) ?_ _
                    exact ⟨unhide Q3, unhide Q4, by simpa using unhide Q2, (unhide Q3).same D _ hKD rfl⟩
                  exact AllReadyIn.nil
                exact AllReadyIn.nil
              refine AllReadyIn.cons rfl (fun K hK => ?_) ?_
              · go_simp
                refine hK _ _ ?_
                clear hK K
                refine wpAnyIn_ready (rs := [0, 6]) (by kernel_rfl) (by simp) ?_
                refine AllReadyIn.cons rfl (fun K hK => ?_) ?_
                · go_simp
                  refine hK _ _ ?_
                  clear hK K
                  refine wpAnyIn_ready (rs := [6]) (by kernel_rfl) (by simp) ?_
                  refine AllReadyIn.cons rfl (fun K hK => ?_) ?_
                  · go_simp
                    refine hK _ _ ?_
                    clear hK K
                    refine wpAnyIn_ready (rs := [7]) (by kernel_rfl) (by simp) ?_
                    refine AllReadyIn.cons rfl (fun K hK => ?_) AllReadyIn.nil
                    rw [if_pos (by rfl)]
                    refine opApp _ _ 65 rfl rfl rfl hrun ?_
                    refine hK _ _ ?_
                    clear hK K
                    refine wpAnyIn_ready (rs := [8]) (by kernel_rfl) (by simp) ?_
                    refine AllReadyIn.cons rfl (fun K hK => ?_) AllReadyIn.nil
                    go_simp
                    refine hK _ _ ?_
                    clear hK K
                    refine wpAnyIn_done (by kernel_rfl) ?_ _
                    exact ⟨unhide Q3, unhide Q4, by simpa using unhide Q2, (unhide Q3).same D _ hKD rfl⟩
                  exact AllReadyIn.nil
                refine AllReadyIn.cons rfl (fun K hK => ?_) ?_
                · go_simp
                  refine hK _ _ ?_
                  clear hK K
                  refine wpAnyIn_ready (rs := [0]) (by kernel_rfl) (by simp) ?_
                  refine AllReadyIn.cons rfl (fun K hK => ?_) ?_
                  · go_simp
                    refine hK _ _ ?_
                    clear hK K
                    refine wpAnyIn_ready (rs := [7]) (by kernel_rfl) (by simp) ?_
                    refine AllReadyIn.cons rfl (fun K hK => ?_) AllReadyIn.nil
                    rw [if_pos (by rfl)]
                    refine opApp _ _ 65 rfl rfl rfl hrun ?_
                    refine hK _ _ ?_
                    clear hK K
                    refine wpAnyIn_ready (rs := [8]) (by kernel_rfl) (by simp) ?_
                    refine AllReadyIn.cons rfl (fun K hK => ?_) AllReadyIn.nil
                    go_simp
                    refine hK _ _ ?_
                    clear hK K
                    refine wpAnyIn_done (by kernel_rfl) ?_ _
                    exact ⟨unhide Q3, unhide Q4, by simpa using unhide Q2, (unhide Q3).same D _ hKD rfl⟩
                  exact AllReadyIn.nil
                exact AllReadyIn.nil
              exact AllReadyIn.nil
            exact AllReadyIn.nil
          exact AllReadyIn.nil
        exact AllReadyIn.nil
      exact AllReadyIn.nil
    case done2 =>
      rintro D2 V hD2 ⟨bt5, hKD⟩ hK2
      obtain ⟨P, hP⟩ : ∃ P : List ByteArray, P = P1 ++ (r2 :: ms).map fun y => y.ent.path := ⟨_, rfl⟩
      rw [← hP] at bt5
      have HPP := hide hP
      obtain ⟨⟨v, hv, hr⟩, hb⟩ := bt5
      have hPl : P.length ≤ 82 := by have := (unhide HB).len; rw [hP]; simp; omega
      have hP0 : 0 < P.length := by rw [hP]; simp; omega
      have hrw := hr
      obtain ⟨g, cap, rfl, hgw, cur, hgc, hcap⟩ : ∃ g cap, v = .slice (some ⟨g, 0, none⟩) P.length cap ∧ w.heap.size ≤ g ∧ ∃ cur, V.heap[g]? = some (.cells cur 9 (0, 0)) ∧ P.length ≤ cap := by
        rcases hr.2 with ⟨_, h0⟩ | ⟨g, cap, cur, hv', h1, h2, h3, _⟩
        · omega
        · exact ⟨g, cap, hv', h1, cur, h2, h3⟩
      obtain ⟨n, hn⟩ : ∃ n, n = P.length := ⟨_, rfl⟩
      rw [← hn] at hv hr hcap hPl hP0
      have hne : w.heap.size ≠ g := fun e => hv.not_row (by decide) hr (by rw [e]; rfl)
      have hgV : g < V.heap.size := (Array.getElem?_eq_some_iff.1 hgc).1
      have hm2 : 15 < w.heap.size := World.block_lt_of_cell? _ _ hm
      have hcell : ∀ k p, P[k]? = some p → V.cell? ⟨g, k, none⟩ = some (.string p) ∧ V.frozen? ⟨g, k, none⟩ = false := fun k p hk => by
        have hk' := (List.getElem?_eq_some_iff.1 hk).1
        refine ⟨?_, frz hgc k⟩
        rw [World.ownsRow.cellAt hr k (by omega)]
        simp [hk]
      have hsz : ∀ p ∈ P, p.size ≤ 1048576 := fun p hp => by
        rw [hP, unhide HP1] at hp
        have root : rootE.path.size ≤ 1048576 := by decide
        have one : ∀ {W B r ns es}, Tr W B r ns es → p ∈ (r :: ns).map (fun y => y.ent.path) → p.size ≤ 1048576 := fun {W B r ns es} h hp => by
          rcases List.mem_cons.1 hp with rfl | hp
          · show r.ent.path.size ≤ 1048576
            rw [h.mem.root]; exact root
          · obtain ⟨y, hy, rfl⟩ := List.mem_map.1 hp
            exact h.small y hy
        rcases List.mem_append.1 hp with hp | hp
        · exact one (unhide HA) hp
        · exact one (unhide HB) hp
      have hmV := cell_later hb hm
      have HSrt := hide (sort_any g cap n P m V hcell hn hgV (by omega) hmV hsz (by omega))
      have cv := hv.cell
      have HB0 := hide hb
      have HN := hide hn
      have hcI : (n : Int) ≤ (cap : Int) := by omega
      clear hcell hsz hP hr hrw hbs hn
      gi_wp2_with (first
        | (gi_at_call 120; refine (callsIn_wide.2 (unhide HSrt)).mono ?_; rintro e w5 ⟨rfl, zs, hzl, hzm, hzs, hzH, hg5⟩; have hv5 := hv.kept hg5 (fun e => hne (by simpa using e)); have cv5 := hv5.cell)
        | (gi_at_call 121; refine (callsIn_wide.2 (compact_any g cap n zs w5 hzH hzl.symm (Nat.lt_of_lt_of_le hgV hg5.size) (by omega) hcap)).mono ?_; rintro e w6 ⟨rfl, hcc, hg6⟩))
      have hb6 : Below w.heap.size w w6 := ((unhide HB0).grown hg5 (Nat.le_trans (unhide HB0).size (Nat.le_refl _)) (fun q hq => by cases hq; exact hgw)).grown hg6 (Nat.le_trans (unhide HB0).size hg5.size) (fun q hq => by cases hq; exact hgw)
      have ng : ∀ {X : World} {E : Nat}, V.heap[E]? = some (.deferred (some [])) → E ≠ g := fun {X E} h e => by rw [e, hgc] at h; cases h
      have kd : ∀ {E : Nat}, V.heap[E]? = some (.deferred (some [])) → w6.heap[E]? = some (.deferred (some [])) := fun {E} h => by
        have h1 := (hg5.block E (Array.getElem?_eq_some_iff.1 h).1 (fun e => ng (X := V) h (by simpa using e))).trans h
        exact (hg6.block E (Array.getElem?_eq_some_iff.1 h1).1 (fun e => ng (X := V) h (by simpa using e))).trans h1
      have hDD : D ≠ D2 := by omega
      have hKa := kd hK2
      have hKb : (w6.putObj D2 (.deferred none)).heap[D]? = some (.deferred (some [])) := (World.putObj_heap_other hDD).trans (kd hKD)
      refine ⟨by simp, .inl ⟨_, _, rfl, run_takeDeferred hKa, ?_⟩⟩
      refine ⟨by simp, .inl ⟨_, _, rfl, run_takeDeferred hKb, ?_⟩⟩
      refine ⟨_, results_tmp rfl _ _ _, ?_⟩
      have hall : Lib.compact zs = allP xa xb := by
        refine sorted_all (unhide HA).tree (unhide HB).tree hzs fun p => ?_
        rw [hzm, unhide HPP, unhide HP1]
        have mm : ∀ {W B r ns es}, Tr W B r ns es → ∀ p, p ∈ txts ((r :: ns).map fun y => y.ent.path) ↔ p = [] ∨ p ∈ ptsE es := fun {W B r ns es} h p => by
          have e : txts ((r :: ns).map fun y => y.ent.path) = [] :: ptsE es := by
            rw [txts, List.map_map, List.map_cons, ptsE, ← h.ents, entsN, List.map_map]
            show r.ent.path.data.toList :: _ = _
            rw [h.mem.root]; rfl
          rw [e, List.mem_cons]
        rw [show txts (((r :: ns).map fun y => y.ent.path) ++ (r2 :: ms).map fun y => y.ent.path) = txts ((r :: ns).map fun y => y.ent.path) ++ txts ((r2 :: ms).map fun y => y.ent.path) from by simp [txts], List.mem_append, mm (unhide HA), mm (unhide HB)]
        constructor
        · rintro ((h | h) | (h | h))
          · exact .inl h
          · exact .inr (.inl h)
          · exact .inl h
          · exact .inr (.inr h)
        · rintro (h | h | h)
          · exact .inl (.inl h)
          · exact .inl (.inr h)
          · exact .inr (.inr h)
      refine ⟨g, cap, _, (Lib.compact zs).map fun z => ⟨z.toArray⟩, rfl, hide (by simp), fun k b hk => ?_, hide ?_, ?_⟩
      · rw [List.getElem?_map] at hk
        obtain ⟨z, hz, rfl⟩ := Option.map_eq_some_iff.1 hk
        refine ⟨g, rfl, ?_⟩
        rw [cell_put _ (by show g ≠ D; exact (ng (X := V) hKD).symm), cell_put _ (by show g ≠ D2; exact (ng (X := V) hK2).symm)]
        exact hcc k z hz
      · rw [← hall, txts, List.map_map]
        exact List.map_id' _
      · have h1 := hb6.trans (belowK_b (w := w) (Nat.le_refl _) w6 D2 _ (.deferred none) (by omega) hKa rfl rfl)
        exact h1.trans (belowK_b (w := w) (Nat.le_refl _) _ D _ _ (by omega) hKb rfl rfl)
end Go.Proofs.YtkeefkfklmhcjaaGreatDoor
