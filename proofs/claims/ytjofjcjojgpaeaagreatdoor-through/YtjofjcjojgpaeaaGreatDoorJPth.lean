import Derived.Test.YtjofjcjojgpaeaaGreatDoorJRefE
import Derived.Test.YtjofjcjojgpaeaaGreatDoorJSrtL
import Derived.Test.YtjofjcjojgpaeaaGreatDoorJEach
import Derived.RangeFuncBox
import Derived.Maps.AppendAt
import Derived.Test.YtjofjcjojgpaeaaGreatDoorJChl
import Derived.Test.YtjofjcjojgpaeaaGreatDoorJOwC
namespace Go.Proofs.YtjofjcjojgpaeaaGreatDoor
open Go.RowKit Go.Maps Go.Sort Go.Shelf
attribute [local go_sem] Oper.semAt_some

theorem Tryz.info9p : (Tryz.prog.info? 9).map (fun i => (i.zero, i.size, i.bytes)) = some (some (.string ByteArray.empty), 1, 16) := by kernel_rfl
/-- A box that holds a list of texts. -/
def BoxT (w : World) (Bb : Nat) (ps : List ByteArray) (W : World) : Prop := (∃ v, Boxed W Bb 43 v ∧ W.ownsRow w.heap.size 9 1 v ps.length (ps.map Value.string)) ∧ Below w.heap.size w W
theorem own_rowAt {W : World} {n0 Bb : Nat} {v : Value} {k : Nat} {xs : List Value} (hb : Boxed W Bb 43 v) (hr : W.ownsRow n0 9 1 v k xs) : ∀ g, rowAt W Bb g → v.ownBlock = some g ∧ n0 ≤ g ∧ ∃ cur, W.heap[g]? = some (.cells cur 9 (0, 0)) := fun g hg => by
  obtain ⟨o, s, n, c, e⟩ := hg
  rw [hb.cell] at e
  cases e
  rcases hr.2 with ⟨hv, _⟩ | ⟨g', cap, cur, hv, h1, h2, _⟩
  · cases hv
  · cases hv
    exact ⟨rfl, h1, cur, h2⟩
theorem own_block {W : World} {n0 : Nat} {v : Value} {k g : Nat} {xs : List Value} {Bb : Nat} (hb : Boxed W Bb 43 v) (hr : W.ownsRow n0 9 1 v k xs) (hg : v.ownBlock = some g) : rowAt W Bb g := by
  rcases hr.2 with ⟨hv, _⟩ | ⟨g', cap, cur, hv, h1, h2, _⟩
  · rw [hv] at hg; cases hg
  · rw [hv] at hg
    cases hg
    exact ⟨_, _, _, _, by rw [hb.cell, hv]⟩
theorem boxT_stay {β : Type} (w : World) (Bb B0 : Nat) (f : β → List ByteArray) (hB : w.heap.size ≤ B0) : Stay Bb B0 (fun s W => BoxT w Bb (f s) W) := by
  refine ⟨fun s W W' hs hk => ?_, fun s W hs g hg => ?_⟩
  · obtain ⟨⟨v, hv, hr⟩, hb⟩ := hs
    have hz := hb.size
    refine ⟨⟨v, (hk.block Bb hv.lt (.inr (.inl rfl))).trans hv, ?_⟩, ⟨hk.os.trans hb.os, hk.tape.trans hb.tape, hk.output.trans hb.output, Nat.le_trans hb.size hk.size, fun k h => (hk.block k (by omega) (.inl (by omega))).trans (hb.block k h)⟩⟩
    refine ⟨hr.1, ?_⟩
    rcases hr.2 with h | ⟨g, cap, cur, hv', h1, h2, h3⟩
    · exact .inl h
    · exact .inr ⟨g, cap, cur, hv', h1, (hk.block g (Array.getElem?_eq_some_iff.1 h2).1 (.inr (.inr (own_block hv hr (by rw [hv']; rfl))))).trans h2, h3⟩
  · obtain ⟨⟨v, hv, hr⟩, hb⟩ := hs
    obtain ⟨_, _, cur, hc⟩ := own_rowAt hv hr g hg
    exact ⟨_, hc, rfl⟩
/-- Of one round: a text is appended. -/
theorem boxT_append {w W w1 : World} {Bb : Nat} {v v' : Value} {ps : List ByteArray} {p : ByteArray} {tmp : Obj} (hv : Boxed W Bb 43 v) (hr : W.ownsRow w.heap.size 9 1 v ps.length (ps.map Value.string)) (hb : Below w.heap.size w W) (hBb : w.heap.size ≤ Bb)
    (hown : w1.ownsRow w.heap.size 9 1 v' (ps.length + 1) (ps.map Value.string ++ [Value.string p])) (hgrow : (W.alloc tmp).grownBy w1 v.ownBlock) (hat : v'.ownBlock = v.ownBlock ∨ v'.ownBlock = some (W.alloc tmp).heap.size) :
    Boxed w1 Bb 43 v ∧ BoxT w Bb (ps ++ [p]) (w1.setCell ⟨Bb, 0, none⟩ v') ∧ KeepsOthers W (w1.setCell ⟨Bb, 0, none⟩ v') ∧ Kc Bb W (w1.setCell ⟨Bb, 0, none⟩ v') := by
  obtain ⟨h1, h2, h3, h4, h5⟩ := hv.appended (by decide) hr hb.size hBb hown hgrow
  have hs1 : W.heap.size ≤ w1.heap.size := Nat.le_trans (by simp) hgrow.size
  have hs2 := (KeepsWalks.setCell w1 ⟨Bb, 0, none⟩ v').size
  refine ⟨h1, ⟨⟨v', h2, by simpa using h3⟩, hb.trans h5⟩, h4, ⟨by omega, fun k o hk _ hne hnr => ?_, fun g hg => ?_⟩⟩
  · have hlt := (Array.getElem?_eq_some_iff.1 hk).1
    rw [Below.heap_setCell _ _ _ k hne]
    refine (hgrow.block k (by simp; omega) (fun e => hnr (own_block hv hr e.symm))).trans ?_
    exact (Below.heap_alloc _ _ _ hlt).trans hk
  · obtain ⟨e1, _, cur, hc⟩ := own_rowAt h2 h3 g hg
    rcases hat with h | h
    · exact .inl (own_block hv hr (h.symm.trans e1))
    · have e2 : g = W.heap.size + 1 := by
        rw [e1] at h
        simpa using h
      exact .inr ⟨by omega, (Array.getElem?_eq_some_iff.1 hc).1⟩
theorem memA_of {w W : World} {B Bb : Nat} {r : Nd} {ns : List Nd} {es : List Ent} (h : Tr w B r ns es) (hb : Below w.heap.size w W) (hBb : w.heap.size ≤ Bb) (hr : ∀ k, rowAt W Bb k → w.heap.size ≤ k) : MemA Bb W B r ns := by
  refine ⟨h.mem.below hb, fun x hx => ?_⟩
  have h1 : x.nb < w.heap.size := (Array.getElem?_eq_some_iff.1 (h.mem.all x hx).2.2.1).1
  have h2 : x.mb < w.heap.size := World.ownsMap.lt (h.mem.all x hx).2.2.2
  have hz := hb.size
  exact ⟨⟨by omega, by omega, fun hk => by have := hr _ hk; omega⟩, ⟨by omega, by omega, fun hk => by have := hr _ hk; omega⟩⟩
theorem BoxT.rows {w W : World} {Bb : Nat} {ps : List ByteArray} (h : BoxT w Bb ps W) : ∀ k, rowAt W Bb k → w.heap.size ≤ k := fun k hk => by
  obtain ⟨⟨v, hv, hr⟩, _⟩ := h
  exact (own_rowAt hv hr k hk).2.1
set_option maxHeartbeats 2000000 in
set_option maxRecDepth 100000 in
theorem paths_any {B B2 : Nat} {r r2 : Nd} {ns ms : List Nd} {xa xb : List Ent} (m : Int) (w : World) (h : Tr w B r ns xa) (h2 : Tr w B2 r2 ms xb) (hm : w.cell? ⟨14, 0, none⟩ = some (.int .i64 m)) :
    Calls Tryz.prog 38 #[.pointer (some ⟨r.nb, 0, none⟩), .pointer (some ⟨r2.nb, 0, none⟩)] w fun ev w' => ∃ (g cap n : Nat) (ps : List ByteArray), ev = .returned (.slice (some ⟨g, 0, none⟩) n cap) ∧ Hid (n = ps.length) ∧ TRow w' (some ⟨g, 0, none⟩) ps ∧ Hid (txts ps = allP xa xb) ∧ Below w.heap.size w w' := by
  have HA := hide h
  have HB := hide h2
  have hb1 : Below w.heap.size w (w.alloc (.cells #[.slice none 0 0] 43)) := (Below.refl _ _).alloc (Nat.le_refl _) _
  obtain ⟨i0, hi, hz0, hz1, hz2⟩ := info_parts Tryz.info9p
  have hf73 : Fence.wide.fn 54 := trivial
  have hf96 : Fence.wide.fn 68 := trivial
  have hf97 : Fence.wide.fn 69 := trivial
  clear h h2
  refine (callsIn_wide (n := 6)).1 ?_
  refine callsIn_of_wp_marks Tryz.func38 rfl trivial ?_ rfl
  simp only [Tryz.ntmps38, List.size_toArray, List.length_cons, List.length_nil, Nat.reduceAdd, Nat.reduceSub, Array.replicate_succ, Array.replicate_zero, List.push_toArray, List.append_toArray, List.nil_append, List.cons_append]
  gi_wp2_with (gi_at_call 54; refine (callsIn_wide.2 (all_any _ _)).mono ?_; rintro e w4 ⟨rfl, rfl⟩)
  have bt1 : BoxT w w.heap.size [] (w.alloc (.cells #[.slice none 0 0] 43)) := ⟨⟨_, Boxed.new w 43 _, World.ownsRow_nil _ _ _ _⟩, hb1⟩
  obtain ⟨W1, hW1⟩ : ∃ W1, W1 = w.alloc (.cells #[.slice none 0 0] 43) := ⟨_, rfl⟩
  have s1 : W1.heap.size = w.heap.size + 1 := by rw [hW1]; simp
  rw [← hW1] at hb1 bt1 ⊢
  clear hW1
  obtain ⟨W2, hW2⟩ : ∃ W2, W2 = W1.alloc (.cells #[.pointer (some ⟨r.nb, 0, none⟩)] 64) := ⟨_, rfl⟩
  have b12 : Below W1.heap.size W1 W2 := by rw [hW2]; exact (Below.refl _ _).alloc (Nat.le_refl _) _
  have x2 : W2.heap[W1.heap.size]? = some (.cells #[.pointer (some ⟨r.nb, 0, none⟩)] 64 (0, 0)) := by rw [hW2]; exact heap_alloc_new _ _
  have s2 : W2.heap.size = w.heap.size + 2 := by rw [hW2]; simp [s1]
  have bt2 : BoxT w w.heap.size [] W2 := (boxT_stay w w.heap.size w.heap.size (fun _ : Unit => []) (Nat.le_refl _)).go () W1 W2 bt1 (Kept.below b12)
  rw [← hW2]
  rw [s1] at x2
  have hb2 := bt2.2
  have hMA := memA_of (Bb := w.heap.size) (unhide HA) hb2 (Nat.le_refl _) bt2.rows
  clear hW2 b12 s1 bt1 hb1
  refine range_all (Bb := w.heap.size) (α := Nd) (xs := r :: ns) rfl (by omega) (gf := 81) (lb := #[.pointer (some ⟨w.heap.size + 1, 0, none⟩)]) rfl trivial (enters_of Tryz.func81 (by kernel_rfl) rfl)
    (all_seq xa B w.heap.size (w.heap.size + 1) 5 r ns W2 (hide (unhide HA).ents) (hide (unhide HA).tree.g) hMA x2 (by omega)) (by omega) (Below.refl _ _) (fun _ => rfl)
    (fun pre W => BoxT w w.heap.size (pre.map fun y => y.ent.path) W) (boxT_stay w w.heap.size W2.heap.size _ (by omega)) bt2
    (fun t y => (t.setIfInBounds 10 (.pointer (some ⟨y.nb, 0, none⟩))).setIfInBounds 6 (.pointer (some ⟨y.nb, 0, none⟩))) ?assign ?body ?done
  case assign =>
    intro l y W K hK
    gi_wp2
    simpa using hK
  case body =>
    rintro l pre y W ⟨⟨v, hv, hr⟩, hb⟩ hp
    have hy : y ∈ r :: ns := hp.subset (by simp)
    have cy : W.cell? ⟨y.nb, 0, none⟩ = some (.string y.ent.path) := cell_of_row _ _ 0 _ _ _ (((unhide HA).mem.below hb).all y hy).2.2.1
    have hlen : pre.length ≤ 41 := by
      have h1 := hp.length_le
      have h2 := (unhide HA).len
      simp at h1
      omega
    have hvd : Boxed W.drew w.heap.size 43 v := hv
    have hrd : W.drew.ownsRow w.heap.size 9 1 v (pre.map fun y => y.ent.path).length ((pre.map fun y => y.ent.path).map Value.string) := hr
    have hz := hb.size
    obtain ⟨v', w1, hrun, hown', hgrow, _, hat⟩ := run_append_own_at (P := Tryz.prog) (W.drew.alloc (.cells #[.string y.ent.path] 9)) w.heap.size 43 43 9 i0 _ 1 16 Tryz.underlying43 hi hz0 hz1 hz2 rfl (by decide) v _ _ (hrd.alloc _) ⟨W.heap.size, 0, none⟩ 1 1 [.string y.ent.path] rfl (cell_one_new W.drew _ _) (by simp [Value.oneCell']) (by unfold maxLen; simp; omega) (by simp; omega) (by simp; omega)
    obtain ⟨g', cap', rfl⟩ := ownsRow_succ hown'
    obtain ⟨q1, q2, q3, q4⟩ := boxT_append (p := y.ent.path) hvd hrd (hb.trans ⟨rfl, rfl, rfl, Nat.le_refl _, fun _ _ => rfl⟩) (Nat.le_refl _) hown' hgrow hat
    have cb := hv.cell
    have cb2 := (hv.alloc (.cells #[.string y.ent.path] 9)).cell
    have cb1 := q1.cell
    have cf1 := q1.frozen
    rw [List.length_map] at q2 q3 q4
    have Q2 := hide q2
    have Q3 : Hid (KeepsOthers W (w1.setCell ⟨w.heap.size, 0, none⟩ (.slice (some ⟨g', 0, none⟩) (pre.length + 1) cap'))) := hide ⟨q3.size, q3.same⟩
    have Q4 : Hid (Kc w.heap.size W (w1.setCell ⟨w.heap.size, 0, none⟩ (.slice (some ⟨g', 0, none⟩) (pre.length + 1) cap'))) := hide ⟨q4.size, q4.keep, q4.row⟩
    have hmx : Tryz.prog.follows .mixedOrders = true := by kernel_rfl
    clear hr hrd hown' hgrow hat q1 q2 q3 q4 hv hvd
    gi_wp2
    refine wpIn_region_any hmx ?_
    change wpAnyIn _ _ _ _ _ _ _ _ _ (World.drew _)
    refine wpAnyIn_ready (rs := [0, 1]) (by kernel_rfl) (by simp) ?_
    refine AllReadyIn.cons rfl (fun K hK => ?_) ?_
    · go_simp
      refine hK _ _ ?_
      clear hK K
      refine wpAnyIn_ready (rs := [1]) (by kernel_rfl) (by simp) ?_
      refine AllReadyIn.cons rfl (fun K hK => ?_) ?_
      · go_simp
        refine hK _ _ ?_
        clear hK K
        refine wpAnyIn_ready (rs := [2]) (by kernel_rfl) (by simp) ?_
        refine AllReadyIn.cons rfl (fun K hK => ?_) ?_
        · go_simp
          refine hK _ _ ?_
          clear hK K
          refine wpAnyIn_ready (rs := [3]) (by kernel_rfl) (by simp) ?_
          refine AllReadyIn.cons rfl (fun K hK => ?_) ?_
          · go_simp
            refine hK _ _ ?_
            clear hK K
            refine wpAnyIn_ready (rs := [4]) (by kernel_rfl) (by simp) ?_
            refine AllReadyIn.cons rfl (fun K hK => ?_) ?_
            · go_simp
              refine hK _ _ ?_
              clear hK K
              refine wpAnyIn_ready (rs := [5]) (by kernel_rfl) (by simp) ?_
              refine AllReadyIn.cons rfl (fun K hK => ?_) ?_
              · go_simp
                refine hK _ _ ?_
                clear hK K
                refine wpAnyIn_ready (rs := [6]) (by kernel_rfl) (by simp) ?_
                refine AllReadyIn.cons rfl (fun K hK => ?_) ?_
                · go_simp
                  refine hK _ _ ?_
                  clear hK K
                  refine wpAnyIn_ready (rs := [7]) (by kernel_rfl) (by simp) ?_
                  refine AllReadyIn.cons rfl (fun K hK => ?_) AllReadyIn.nil
                  rw [if_pos (by rfl)]
                  refine opApp _ _ 43 rfl rfl rfl hrun ?_
                  refine hK _ _ ?_
                  clear hK K
                  refine wpAnyIn_ready (rs := [8]) (by kernel_rfl) (by simp) ?_
                  refine AllReadyIn.cons rfl (fun K hK => ?_) AllReadyIn.nil
                  go_simp
                  refine hK _ _ ?_
                  clear hK K
                  refine wpAnyIn_done (by kernel_rfl) ?_ _
                  exact ⟨unhide Q3, unhide Q4, by simpa using unhide Q2⟩
                exact AllReadyIn.nil
              exact AllReadyIn.nil
            exact AllReadyIn.nil
          exact AllReadyIn.nil
        exact AllReadyIn.nil
      exact AllReadyIn.nil
    refine AllReadyIn.cons rfl (fun K hK => ?_) ?_
    · go_simp
      refine hK _ _ ?_
      clear hK K
      refine wpAnyIn_ready (rs := [0, 2]) (by kernel_rfl) (by simp) ?_
      refine AllReadyIn.cons rfl (fun K hK => ?_) ?_
      · go_simp
        refine hK _ _ ?_
        clear hK K
        refine wpAnyIn_ready (rs := [2]) (by kernel_rfl) (by simp) ?_
        refine AllReadyIn.cons rfl (fun K hK => ?_) ?_
        · go_simp
          refine hK _ _ ?_
          clear hK K
          refine wpAnyIn_ready (rs := [3]) (by kernel_rfl) (by simp) ?_
          refine AllReadyIn.cons rfl (fun K hK => ?_) ?_
          · go_simp
            refine hK _ _ ?_
            clear hK K
            refine wpAnyIn_ready (rs := [4]) (by kernel_rfl) (by simp) ?_
            refine AllReadyIn.cons rfl (fun K hK => ?_) ?_
            · go_simp
              refine hK _ _ ?_
              clear hK K
              refine wpAnyIn_ready (rs := [5]) (by kernel_rfl) (by simp) ?_
              refine AllReadyIn.cons rfl (fun K hK => ?_) ?_
              · go_simp
                refine hK _ _ ?_
                clear hK K
                refine wpAnyIn_ready (rs := [6]) (by kernel_rfl) (by simp) ?_
                refine AllReadyIn.cons rfl (fun K hK => ?_) ?_
                · go_simp
                  refine hK _ _ ?_
                  clear hK K
                  refine wpAnyIn_ready (rs := [7]) (by kernel_rfl) (by simp) ?_
                  refine AllReadyIn.cons rfl (fun K hK => ?_) AllReadyIn.nil
                  rw [if_pos (by rfl)]
                  refine opApp _ _ 43 rfl rfl rfl hrun ?_
                  refine hK _ _ ?_
                  clear hK K
                  refine wpAnyIn_ready (rs := [8]) (by kernel_rfl) (by simp) ?_
                  refine AllReadyIn.cons rfl (fun K hK => ?_) AllReadyIn.nil
                  go_simp
                  refine hK _ _ ?_
                  clear hK K
                  refine wpAnyIn_done (by kernel_rfl) ?_ _
                  exact ⟨unhide Q3, unhide Q4, by simpa using unhide Q2⟩
                exact AllReadyIn.nil
              exact AllReadyIn.nil
            exact AllReadyIn.nil
          exact AllReadyIn.nil
        exact AllReadyIn.nil
      refine AllReadyIn.cons rfl (fun K hK => ?_) ?_
      · go_simp
        refine hK _ _ ?_
        clear hK K
        refine wpAnyIn_ready (rs := [0, 3]) (by kernel_rfl) (by simp) ?_
        refine AllReadyIn.cons rfl (fun K hK => ?_) ?_
        · go_simp
          refine hK _ _ ?_
          clear hK K
          refine wpAnyIn_ready (rs := [3]) (by kernel_rfl) (by simp) ?_
          refine AllReadyIn.cons rfl (fun K hK => ?_) ?_
          · go_simp
            refine hK _ _ ?_
            clear hK K
            refine wpAnyIn_ready (rs := [4]) (by kernel_rfl) (by simp) ?_
            refine AllReadyIn.cons rfl (fun K hK => ?_) ?_
            · go_simp
              refine hK _ _ ?_
              clear hK K
              refine wpAnyIn_ready (rs := [5]) (by kernel_rfl) (by simp) ?_
              refine AllReadyIn.cons rfl (fun K hK => ?_) ?_
              · go_simp
                refine hK _ _ ?_
                clear hK K
                refine wpAnyIn_ready (rs := [6]) (by kernel_rfl) (by simp) ?_
                refine AllReadyIn.cons rfl (fun K hK => ?_) ?_
                · go_simp
                  refine hK _ _ ?_
                  clear hK K
                  refine wpAnyIn_ready (rs := [7]) (by kernel_rfl) (by simp) ?_
                  refine AllReadyIn.cons rfl (fun K hK => ?_) AllReadyIn.nil
                  rw [if_pos (by rfl)]
                  refine opApp _ _ 43 rfl rfl rfl hrun ?_
                  refine hK _ _ ?_
                  clear hK K
                  refine wpAnyIn_ready (rs := [8]) (by kernel_rfl) (by simp) ?_
                  refine AllReadyIn.cons rfl (fun K hK => ?_) AllReadyIn.nil
                  go_simp
                  refine hK _ _ ?_
                  clear hK K
                  refine wpAnyIn_done (by kernel_rfl) ?_ _
                  exact ⟨unhide Q3, unhide Q4, by simpa using unhide Q2⟩
                exact AllReadyIn.nil
              exact AllReadyIn.nil
            exact AllReadyIn.nil
          exact AllReadyIn.nil
        refine AllReadyIn.cons rfl (fun K hK => ?_) ?_
        · go_simp
          refine hK _ _ ?_
          clear hK K
          refine wpAnyIn_ready (rs := [0, 4]) (by kernel_rfl) (by simp) ?_
          refine AllReadyIn.cons rfl (fun K hK => ?_) ?_
          · go_simp
            refine hK _ _ ?_
            clear hK K
            refine wpAnyIn_ready (rs := [4]) (by kernel_rfl) (by simp) ?_
            refine AllReadyIn.cons rfl (fun K hK => ?_) ?_
            · go_simp
              refine hK _ _ ?_
              clear hK K
              refine wpAnyIn_ready (rs := [5]) (by kernel_rfl) (by simp) ?_
              refine AllReadyIn.cons rfl (fun K hK => ?_) ?_
              · go_simp
                refine hK _ _ ?_
                clear hK K
                refine wpAnyIn_ready (rs := [6]) (by kernel_rfl) (by simp) ?_
                refine AllReadyIn.cons rfl (fun K hK => ?_) ?_
                · go_simp
                  refine hK _ _ ?_
                  clear hK K
                  refine wpAnyIn_ready (rs := [7]) (by kernel_rfl) (by simp) ?_
                  refine AllReadyIn.cons rfl (fun K hK => ?_) AllReadyIn.nil
                  rw [if_pos (by rfl)]
                  refine opApp _ _ 43 rfl rfl rfl hrun ?_
                  refine hK _ _ ?_
                  clear hK K
                  refine wpAnyIn_ready (rs := [8]) (by kernel_rfl) (by simp) ?_
                  refine AllReadyIn.cons rfl (fun K hK => ?_) AllReadyIn.nil
                  go_simp
                  refine hK _ _ ?_
                  clear hK K
                  refine wpAnyIn_done (by kernel_rfl) ?_ _
                  exact ⟨unhide Q3, unhide Q4, by simpa using unhide Q2⟩
                exact AllReadyIn.nil
              exact AllReadyIn.nil
            exact AllReadyIn.nil
          refine AllReadyIn.cons rfl (fun K hK => ?_) ?_
          · go_simp
            refine hK _ _ ?_
            clear hK K
            refine wpAnyIn_ready (rs := [0, 5]) (by kernel_rfl) (by simp) ?_
            refine AllReadyIn.cons rfl (fun K hK => ?_) ?_
            · go_simp
              refine hK _ _ ?_
              clear hK K
              refine wpAnyIn_ready (rs := [5]) (by kernel_rfl) (by simp) ?_
              refine AllReadyIn.cons rfl (fun K hK => ?_) ?_
              · go_simp
                refine hK _ _ ?_
                clear hK K
                refine wpAnyIn_ready (rs := [6]) (by kernel_rfl) (by simp) ?_
                refine AllReadyIn.cons rfl (fun K hK => ?_) ?_
                · go_simp
                  refine hK _ _ ?_
                  clear hK K
                  refine wpAnyIn_ready (rs := [7]) (by kernel_rfl) (by simp) ?_
                  refine AllReadyIn.cons rfl (fun K hK => ?_) AllReadyIn.nil
                  rw [if_pos (by rfl)]
                  refine opApp _ _ 43 rfl rfl rfl hrun ?_
                  refine hK _ _ ?_
                  clear hK K
                  refine wpAnyIn_ready (rs := [8]) (by kernel_rfl) (by simp) ?_
                  refine AllReadyIn.cons rfl (fun K hK => ?_) AllReadyIn.nil
                  go_simp
                  refine hK _ _ ?_
                  clear hK K
                  refine wpAnyIn_done (by kernel_rfl) ?_ _
                  exact ⟨unhide Q3, unhide Q4, by simpa using unhide Q2⟩
                exact AllReadyIn.nil
              exact AllReadyIn.nil
            refine AllReadyIn.cons rfl (fun K hK => ?_) ?_
            · go_simp
              refine hK _ _ ?_
              clear hK K
              refine wpAnyIn_ready (rs := [0, 6]) (by kernel_rfl) (by simp) ?_
              refine AllReadyIn.cons rfl (fun K hK => ?_) ?_
              · go_simp
                refine hK _ _ ?_
                clear hK K
                refine wpAnyIn_ready (rs := [6]) (by kernel_rfl) (by simp) ?_
                refine AllReadyIn.cons rfl (fun K hK => ?_) ?_
                · go_simp
                  refine hK _ _ ?_
                  clear hK K
                  refine wpAnyIn_ready (rs := [7]) (by kernel_rfl) (by simp) ?_
                  refine AllReadyIn.cons rfl (fun K hK => ?_) AllReadyIn.nil
                  rw [if_pos (by rfl)]
                  refine opApp _ _ 43 rfl rfl rfl hrun ?_
                  refine hK _ _ ?_
                  clear hK K
                  refine wpAnyIn_ready (rs := [8]) (by kernel_rfl) (by simp) ?_
                  refine AllReadyIn.cons rfl (fun K hK => ?_) AllReadyIn.nil
                  go_simp
                  refine hK _ _ ?_
                  clear hK K
                  refine wpAnyIn_done (by kernel_rfl) ?_ _
                  exact ⟨unhide Q3, unhide Q4, by simpa using unhide Q2⟩
                exact AllReadyIn.nil
              refine AllReadyIn.cons rfl (fun K hK => ?_) ?_
              · go_simp
                refine hK _ _ ?_
                clear hK K
                refine wpAnyIn_ready (rs := [0]) (by kernel_rfl) (by simp) ?_
                refine AllReadyIn.cons rfl (fun K hK => ?_) ?_
                · go_simp
                  refine hK _ _ ?_
                  clear hK K
                  refine wpAnyIn_ready (rs := [7]) (by kernel_rfl) (by simp) ?_
                  refine AllReadyIn.cons rfl (fun K hK => ?_) AllReadyIn.nil
                  rw [if_pos (by rfl)]
                  refine opApp _ _ 43 rfl rfl rfl hrun ?_
                  refine hK _ _ ?_
                  clear hK K
                  refine wpAnyIn_ready (rs := [8]) (by kernel_rfl) (by simp) ?_
                  refine AllReadyIn.cons rfl (fun K hK => ?_) AllReadyIn.nil
                  go_simp
                  refine hK _ _ ?_
                  clear hK K
                  refine wpAnyIn_done (by kernel_rfl) ?_ _
                  exact ⟨unhide Q3, unhide Q4, by simpa using unhide Q2⟩
                exact AllReadyIn.nil
              exact AllReadyIn.nil
            exact AllReadyIn.nil
          exact AllReadyIn.nil
        exact AllReadyIn.nil
      exact AllReadyIn.nil
    exact AllReadyIn.nil
  case done =>
    rintro D W hD bt3 hK
    have hb3 := bt3.2
    gi_wp2_with (gi_at_call 54; refine (callsIn_wide.2 (all_any _ _)).mono ?_; rintro e w4 ⟨rfl, rfl⟩)
    obtain ⟨P1, hP1⟩ : ∃ P1 : List ByteArray, P1 = (r :: ns).map fun y => y.ent.path := ⟨_, rfl⟩
    have hP1l : P1.length ≤ 41 := by have := (unhide HA).len; rw [hP1]; simp; omega
    rw [← hP1] at bt3
    obtain ⟨W4, hW4⟩ : ∃ W4, W4 = W.alloc (.cells #[.pointer (some ⟨r2.nb, 0, none⟩)] 64) := ⟨_, rfl⟩
    have b34 : Below W.heap.size W W4 := by rw [hW4]; exact (Below.refl _ _).alloc (Nat.le_refl _) _
    have x4 : W4.heap[W.heap.size]? = some (.cells #[.pointer (some ⟨r2.nb, 0, none⟩)] 64 (0, 0)) := by rw [hW4]; exact heap_alloc_new _ _
    have s4 : W4.heap.size = W.heap.size + 1 := by rw [hW4]; simp
    have bt4 : BoxT w w.heap.size P1 W4 := (boxT_stay w w.heap.size w.heap.size (fun _ : Unit => P1) (Nat.le_refl _)).go () W W4 bt3 (Kept.below b34)
    have hKD4 : W4.heap[D]? = some (.deferred (some [])) := (b34.block D (Array.getElem?_eq_some_iff.1 hK).1).trans hK
    have hDlt : D < W.heap.size := (Array.getElem?_eq_some_iff.1 hK).1
    have hMA2 := memA_of (Bb := w.heap.size) (unhide HB) bt4.2 (Nat.le_refl _) bt4.rows
    have hbs := hb3.size
    have HP1 := hide hP1
    rw [← hW4]
    clear hW4 b34 bt3 hb3 hK hP1
    refine range_all (Bb := w.heap.size) (α := Nd) (xs := r2 :: ms) rfl (by omega) (gf := 81) (lb := #[.pointer (some ⟨W.heap.size, 0, none⟩)]) rfl trivial (enters_of Tryz.func81 (by kernel_rfl) rfl)
      (all_seq xb B2 w.heap.size W.heap.size 5 r2 ms W4 (hide (unhide HB).ents) (hide (unhide HB).tree.g) hMA2 x4 (by omega)) (by omega) (Below.refl _ _) (fun _ => rfl)
      (fun pre V => BoxT w w.heap.size (P1 ++ pre.map fun y => y.ent.path) V ∧ V.heap[D]? = some (.deferred (some [])))
      ⟨fun s V V' hs hk => ⟨(boxT_stay w w.heap.size W4.heap.size (fun pre : List Nd => P1 ++ pre.map fun y => y.ent.path) (by omega)).go s V V' hs.1 hk, (hk.block D (Array.getElem?_eq_some_iff.1 hs.2).1 (.inl (by omega))).trans hs.2⟩,
        fun s V hs => (boxT_stay w w.heap.size W4.heap.size (fun pre : List Nd => P1 ++ pre.map fun y => y.ent.path) (by omega)).row s V hs.1⟩
      ⟨by simpa using bt4, hKD4⟩
      (fun t y => (t.setIfInBounds 21 (.pointer (some ⟨y.nb, 0, none⟩))).setIfInBounds 7 (.pointer (some ⟨y.nb, 0, none⟩))) ?assign2 ?body2 ?done2
    case assign2 =>
      intro l y W K hK
      gi_wp2
      simpa using hK
    case body2 =>
      rintro l pre y W ⟨⟨⟨v, hv, hr⟩, hb⟩, hKD⟩ hp
      have hy : y ∈ r2 :: ms := hp.subset (by simp)
      have cy : W.cell? ⟨y.nb, 0, none⟩ = some (.string y.ent.path) := cell_of_row _ _ 0 _ _ _ (((unhide HB).mem.below hb).all y hy).2.2.1
      have hlen : pre.length ≤ 41 := by
        have h1 := hp.length_le
        have h2 := (unhide HB).len
        simp at h1
        omega
      obtain ⟨q, hq⟩ : ∃ q, q = (P1 ++ pre.map fun y => y.ent.path).length := ⟨_, rfl⟩
      have hql : q ≤ 90 := by rw [hq]; simp; omega
      have HQ := hide hq
      rw [← hq] at hr
      have hvd : Boxed W.drew w.heap.size 43 v := hv
      have hrd : W.drew.ownsRow w.heap.size 9 1 v q ((P1 ++ pre.map fun y => y.ent.path).map Value.string) := hr
      have hz := hb.size
      obtain ⟨v', w1, hrun, hown', hgrow, _, hat⟩ := run_append_own_at (P := Tryz.prog) (W.drew.alloc (.cells #[.string y.ent.path] 9)) w.heap.size 43 43 9 i0 _ 1 16 Tryz.underlying43 hi hz0 hz1 hz2 rfl (by decide) v _ _ (hrd.alloc _) ⟨W.heap.size, 0, none⟩ 1 1 [.string y.ent.path] rfl (cell_one_new W.drew _ _) (by simp [Value.oneCell']) (by unfold maxLen; omega) (by omega) (by simp; omega)
      obtain ⟨g', cap', rfl⟩ := ownsRow_succ hown'
      rw [hq] at hrd hown'
      obtain ⟨q1, q2, q3, q4⟩ := boxT_append (p := y.ent.path) hvd hrd (hb.trans ⟨rfl, rfl, rfl, Nat.le_refl _, fun _ _ => rfl⟩) (Nat.le_refl _) hown' hgrow hat
      have cb := hv.cell
      have cb2 := (hv.alloc (.cells #[.string y.ent.path] 9)).cell
      have cb1 := q1.cell
      have cf1 := q1.frozen
      rw [← hq] at q2 q3 q4
      have Q2 := hide q2
      have Q3 : Hid (KeepsOthers W (w1.setCell ⟨w.heap.size, 0, none⟩ (.slice (some ⟨g', 0, none⟩) (q + 1) cap'))) := hide ⟨q3.size, q3.same⟩
      have Q4 : Hid (Kc w.heap.size W (w1.setCell ⟨w.heap.size, 0, none⟩ (.slice (some ⟨g', 0, none⟩) (q + 1) cap'))) := hide ⟨q4.size, q4.keep, q4.row⟩
      have hmx : Tryz.prog.follows .mixedOrders = true := by kernel_rfl
      rw [← hq] at hown'
      clear hr hrd hown' hgrow hat q1 q2 q3 q4 hv hvd hq
      gi_wp2
      refine wpIn_region_any hmx ?_
      change wpAnyIn _ _ _ _ _ _ _ _ _ (World.drew _)
      refine wpAnyIn_ready (rs := [0, 1]) (by kernel_rfl) (by simp) ?_
      refine AllReadyIn.cons rfl (fun K hK => ?_) ?_
      · go_simp
        refine hK _ _ ?_
        clear hK K
        refine wpAnyIn_ready (rs := [1]) (by kernel_rfl) (by simp) ?_
        refine AllReadyIn.cons rfl (fun K hK => ?_) ?_
        · go_simp
          refine hK _ _ ?_
          clear hK K
          refine wpAnyIn_ready (rs := [2]) (by kernel_rfl) (by simp) ?_
          refine AllReadyIn.cons rfl (fun K hK => ?_) ?_
          · go_simp
            refine hK _ _ ?_
            clear hK K
            refine wpAnyIn_ready (rs := [3]) (by kernel_rfl) (by simp) ?_
            refine AllReadyIn.cons rfl (fun K hK => ?_) ?_
            · go_simp
              refine hK _ _ ?_
              clear hK K
              refine wpAnyIn_ready (rs := [4]) (by kernel_rfl) (by simp) ?_
              refine AllReadyIn.cons rfl (fun K hK => ?_) ?_
              · go_simp
                refine hK _ _ ?_
                clear hK K
                refine wpAnyIn_ready (rs := [5]) (by kernel_rfl) (by simp) ?_
                refine AllReadyIn.cons rfl (fun K hK => ?_) ?_
                · go_simp
                  refine hK _ _ ?_
                  clear hK K
                  refine wpAnyIn_ready (rs := [6]) (by kernel_rfl) (by simp) ?_
                  refine AllReadyIn.cons rfl (fun K hK => ?_) ?_
                  · go_simp
                    refine hK _ _ ?_
                    clear hK K
                    refine wpAnyIn_ready (rs := [7]) (by kernel_rfl) (by simp) ?_
                    refine AllReadyIn.cons rfl (fun K hK => ?_) AllReadyIn.nil
                    rw [if_pos (by rfl)]
                    refine opApp _ _ 43 rfl rfl rfl hrun ?_
                    refine hK _ _ ?_
                    clear hK K
                    refine wpAnyIn_ready (rs := [8]) (by kernel_rfl) (by simp) ?_
                    refine AllReadyIn.cons rfl (fun K hK => ?_) AllReadyIn.nil
                    go_simp
                    refine hK _ _ ?_
                    clear hK K
                    refine wpAnyIn_done (by kernel_rfl) ?_ _
                    exact ⟨unhide Q3, unhide Q4, by simpa using unhide Q2, (unhide Q3).same D _ hKD rfl⟩
                  exact AllReadyIn.nil
                exact AllReadyIn.nil
              exact AllReadyIn.nil
            exact AllReadyIn.nil
          exact AllReadyIn.nil
        exact AllReadyIn.nil
      refine AllReadyIn.cons rfl (fun K hK => ?_) ?_
      · go_simp
        refine hK _ _ ?_
        clear hK K
        refine wpAnyIn_ready (rs := [0, 2]) (by kernel_rfl) (by simp) ?_
        refine AllReadyIn.cons rfl (fun K hK => ?_) ?_
        · go_simp
          refine hK _ _ ?_
          clear hK K
          refine wpAnyIn_ready (rs := [2]) (by kernel_rfl) (by simp) ?_
          refine AllReadyIn.cons rfl (fun K hK => ?_) ?_
          · go_simp
            refine hK _ _ ?_
            clear hK K
            refine wpAnyIn_ready (rs := [3]) (by kernel_rfl) (by simp) ?_
            refine AllReadyIn.cons rfl (fun K hK => ?_) ?_
            · go_simp
              refine hK _ _ ?_
              clear hK K
              refine wpAnyIn_ready (rs := [4]) (by kernel_rfl) (by simp) ?_
              refine AllReadyIn.cons rfl (fun K hK => ?_) ?_
              · go_simp
                refine hK _ _ ?_
                clear hK K
                refine wpAnyIn_ready (rs := [5]) (by kernel_rfl) (by simp) ?_
                refine AllReadyIn.cons rfl (fun K hK => ?_) ?_
                · go_simp
                  refine hK _ _ ?_
                  clear hK K
                  refine wpAnyIn_ready (rs := [6]) (by kernel_rfl) (by simp) ?_
                  refine AllReadyIn.cons rfl (fun K hK => ?_) ?_
                  · go_simp
                    refine hK _ _ ?_
                    clear hK K
                    refine wpAnyIn_ready (rs := [7]) (by kernel_rfl) (by simp) ?_
                    refine AllReadyIn.cons rfl (fun K hK => ?_) AllReadyIn.nil
                    rw [if_pos (by rfl)]
                    refine opApp _ _ 43 rfl rfl rfl hrun ?_
                    refine hK _ _ ?_
                    clear hK K
                    refine wpAnyIn_ready (rs := [8]) (by kernel_rfl) (by simp) ?_
                    refine AllReadyIn.cons rfl (fun K hK => ?_) AllReadyIn.nil
                    go_simp
                    refine hK _ _ ?_
                    clear hK K
                    refine wpAnyIn_done (by kernel_rfl) ?_ _
                    exact ⟨unhide Q3, unhide Q4, by simpa using unhide Q2, (unhide Q3).same D _ hKD rfl⟩
                  exact AllReadyIn.nil
                exact AllReadyIn.nil
              exact AllReadyIn.nil
            exact AllReadyIn.nil
          exact AllReadyIn.nil
        refine AllReadyIn.cons rfl (fun K hK => ?_) ?_
        · go_simp
          refine hK _ _ ?_
          clear hK K
          refine wpAnyIn_ready (rs := [0, 3]) (by kernel_rfl) (by simp) ?_
          refine AllReadyIn.cons rfl (fun K hK => ?_) ?_
          · go_simp
            refine hK _ _ ?_
            clear hK K
            refine wpAnyIn_ready (rs := [3]) (by kernel_rfl) (by simp) ?_
            refine AllReadyIn.cons rfl (fun K hK => ?_) ?_
            · go_simp
              refine hK _ _ ?_
              clear hK K
              refine wpAnyIn_ready (rs := [4]) (by kernel_rfl) (by simp) ?_
              refine AllReadyIn.cons rfl (fun K hK => ?_) ?_
              · go_simp
                refine hK _ _ ?_
                clear hK K
                refine wpAnyIn_ready (rs := [5]) (by kernel_rfl) (by simp) ?_
                refine AllReadyIn.cons rfl (fun K hK => ?_) ?_
                · go_simp
                  refine hK _ _ ?_
                  clear hK K
                  refine wpAnyIn_ready (rs := [6]) (by kernel_rfl) (by simp) ?_
                  refine AllReadyIn.cons rfl (fun K hK => ?_) ?_
                  · go_simp
                    refine hK _ _ ?_
                    clear hK K
                    refine wpAnyIn_ready (rs := [7]) (by kernel_rfl) (by simp) ?_
                    refine AllReadyIn.cons rfl (fun K hK => ?_) AllReadyIn.nil
                    rw [if_pos (by rfl)]
                    refine opApp _ _ 43 rfl rfl rfl hrun ?_
                    refine hK _ _ ?_
                    clear hK K
                    refine wpAnyIn_ready (rs := [8]) (by kernel_rfl) (by simp) ?_
                    refine AllReadyIn.cons rfl (fun K hK => ?_) AllReadyIn.nil
                    go_simp
                    refine hK _ _ ?_
                    clear hK K
                    refine wpAnyIn_done (by kernel_rfl) ?_ _
                    exact ⟨unhide Q3, unhide Q4, by simpa using unhide Q2, (unhide Q3).same D _ hKD rfl⟩
                  exact AllReadyIn.nil
                exact AllReadyIn.nil
              exact AllReadyIn.nil
            exact AllReadyIn.nil
          refine AllReadyIn.cons rfl (fun K hK => ?_) ?_
          · go_simp
            refine hK _ _ ?_
            clear hK K
            refine wpAnyIn_ready (rs := [0, 4]) (by kernel_rfl) (by simp) ?_
            refine AllReadyIn.cons rfl (fun K hK => ?_) ?_
            · go_simp
              refine hK _ _ ?_
              clear hK K
              refine wpAnyIn_ready (rs := [4]) (by kernel_rfl) (by simp) ?_
              refine AllReadyIn.cons rfl (fun K hK => ?_) ?_
              · go_simp
                refine hK _ _ ?_
                clear hK K
                refine wpAnyIn_ready (rs := [5]) (by kernel_rfl) (by simp) ?_
                refine AllReadyIn.cons rfl (fun K hK => ?_) ?_
                · go_simp
                  refine hK _ _ ?_
                  clear hK K
                  refine wpAnyIn_ready (rs := [6]) (by kernel_rfl) (by simp) ?_
                  refine AllReadyIn.cons rfl (fun K hK => ?_) ?_
                  · go_simp
                    refine hK _ _ ?_
                    clear hK K
                    refine wpAnyIn_ready (rs := [7]) (by kernel_rfl) (by simp) ?_
                    refine AllReadyIn.cons rfl (fun K hK => ?_) AllReadyIn.nil
                    rw [if_pos (by rfl)]
                    refine opApp _ _ 43 rfl rfl rfl hrun ?_
                    refine hK _ _ ?_
                    clear hK K
                    refine wpAnyIn_ready (rs := [8]) (by kernel_rfl) (by simp) ?_
                    refine AllReadyIn.cons rfl (fun K hK => ?_) AllReadyIn.nil
                    go_simp
                    refine hK _ _ ?_
                    clear hK K
                    refine wpAnyIn_done (by kernel_rfl) ?_ _
                    exact ⟨unhide Q3, unhide Q4, by simpa using unhide Q2, (unhide Q3).same D _ hKD rfl⟩
                  exact AllReadyIn.nil
                exact AllReadyIn.nil
              exact AllReadyIn.nil
            refine AllReadyIn.cons rfl (fun K hK => ?_) ?_
            · go_simp
              refine hK _ _ ?_
              clear hK K
              refine wpAnyIn_ready (rs := [0, 5]) (by kernel_rfl) (by simp) ?_
              refine AllReadyIn.cons rfl (fun K hK => ?_) ?_
              · go_simp
                refine hK _ _ ?_
                clear hK K
                refine wpAnyIn_ready (rs := [5]) (by kernel_rfl) (by simp) ?_
                refine AllReadyIn.cons rfl (fun K hK => ?_) ?_
                · go_simp
                  refine hK _ _ ?_
                  clear hK K
                  refine wpAnyIn_ready (rs := [6]) (by kernel_rfl) (by simp) ?_
                  refine AllReadyIn.cons rfl (fun K hK => ?_) ?_
                  · go_simp
                    refine hK _ _ ?_
                    clear hK K
                    refine wpAnyIn_ready (rs := [7]) (by kernel_rfl) (by simp) ?_
                    refine AllReadyIn.cons rfl (fun K hK => ?_) AllReadyIn.nil
                    rw [if_pos (by rfl)]
                    refine opApp _ _ 43 rfl rfl rfl hrun ?_
                    refine hK _ _ ?_
                    clear hK K
                    refine wpAnyIn_ready (rs := [8]) (by kernel_rfl) (by simp) ?_
                    refine AllReadyIn.cons rfl (fun K hK => ?_) AllReadyIn.nil
                    go_simp
                    refine hK _ _ ?_
                    clear hK K
                    refine wpAnyIn_done (by kernel_rfl) ?_ _
                    exact ⟨unhide Q3, unhide Q4, by simpa using unhide Q2, (unhide Q3).same D _ hKD rfl⟩
                  exact AllReadyIn.nil
                exact AllReadyIn.nil
              refine AllReadyIn.cons rfl (fun K hK => ?_) ?_
              · go_simp
                refine hK _ _ ?_
                clear hK K
                refine wpAnyIn_ready (rs := [0, 6]) (by kernel_rfl) (by simp) ?_
                refine AllReadyIn.cons rfl (fun K hK => ?_) ?_
                · go_simp
                  refine hK _ _ ?_
                  clear hK K
                  refine wpAnyIn_ready (rs := [6]) (by kernel_rfl) (by simp) ?_
                  refine AllReadyIn.cons rfl (fun K hK => ?_) ?_
                  · go_simp
                    refine hK _ _ ?_
                    clear hK K
                    refine wpAnyIn_ready (rs := [7]) (by kernel_rfl) (by simp) ?_
                    refine AllReadyIn.cons rfl (fun K hK => ?_) AllReadyIn.nil
                    rw [if_pos (by rfl)]
                    refine opApp _ _ 43 rfl rfl rfl hrun ?_
                    refine hK _ _ ?_
                    clear hK K
                    refine wpAnyIn_ready (rs := [8]) (by kernel_rfl) (by simp) ?_
                    refine AllReadyIn.cons rfl (fun K hK => ?_) AllReadyIn.nil
                    go_simp
                    refine hK _ _ ?_
                    clear hK K
                    refine wpAnyIn_done (by kernel_rfl) ?_ _
                    exact ⟨unhide Q3, unhide Q4, by simpa using unhide Q2, (unhide Q3).same D _ hKD rfl⟩
                  exact AllReadyIn.nil
                refine AllReadyIn.cons rfl (fun K hK => ?_) ?_
                · go_simp
                  refine hK _ _ ?_
                  clear hK K
                  refine wpAnyIn_ready (rs := [0]) (by kernel_rfl) (by simp) ?_
                  refine AllReadyIn.cons rfl (fun K hK => ?_) ?_
                  · go_simp
                    refine hK _ _ ?_
                    clear hK K
                    refine wpAnyIn_ready (rs := [7]) (by kernel_rfl) (by simp) ?_
                    refine AllReadyIn.cons rfl (fun K hK => ?_) AllReadyIn.nil
                    rw [if_pos (by rfl)]
                    refine opApp _ _ 43 rfl rfl rfl hrun ?_
                    refine hK _ _ ?_
                    clear hK K
                    refine wpAnyIn_ready (rs := [8]) (by kernel_rfl) (by simp) ?_
                    refine AllReadyIn.cons rfl (fun K hK => ?_) AllReadyIn.nil
                    go_simp
                    refine hK _ _ ?_
                    clear hK K
                    refine wpAnyIn_done (by kernel_rfl) ?_ _
                    exact ⟨unhide Q3, unhide Q4, by simpa using unhide Q2, (unhide Q3).same D _ hKD rfl⟩
                  exact AllReadyIn.nil
                exact AllReadyIn.nil
              exact AllReadyIn.nil
            exact AllReadyIn.nil
          exact AllReadyIn.nil
        exact AllReadyIn.nil
      exact AllReadyIn.nil
    case done2 =>
      rintro D2 V hD2 ⟨bt5, hKD⟩ hK2
      obtain ⟨P, hP⟩ : ∃ P : List ByteArray, P = P1 ++ (r2 :: ms).map fun y => y.ent.path := ⟨_, rfl⟩
      rw [← hP] at bt5
      have HPP := hide hP
      obtain ⟨⟨v, hv, hr⟩, hb⟩ := bt5
      have hPl : P.length ≤ 82 := by have := (unhide HB).len; rw [hP]; simp; omega
      have hP0 : 0 < P.length := by rw [hP]; simp; omega
      have hrw := hr
      obtain ⟨g, cap, rfl, hgw, cur, hgc, hcap⟩ : ∃ g cap, v = .slice (some ⟨g, 0, none⟩) P.length cap ∧ w.heap.size ≤ g ∧ ∃ cur, V.heap[g]? = some (.cells cur 9 (0, 0)) ∧ P.length ≤ cap := by
        rcases hr.2 with ⟨_, h0⟩ | ⟨g, cap, cur, hv', h1, h2, h3, _⟩
        · omega
        · exact ⟨g, cap, hv', h1, cur, h2, h3⟩
      obtain ⟨n, hn⟩ : ∃ n, n = P.length := ⟨_, rfl⟩
      rw [← hn] at hv hr hcap hPl hP0
      have hne : w.heap.size ≠ g := fun e => hv.not_row (by decide) hr (by rw [e]; rfl)
      have hgV : g < V.heap.size := (Array.getElem?_eq_some_iff.1 hgc).1
      have hm2 : 14 < w.heap.size := World.block_lt_of_cell? _ _ hm
      have hcell : ∀ k p, P[k]? = some p → V.cell? ⟨g, k, none⟩ = some (.string p) ∧ V.frozen? ⟨g, k, none⟩ = false := fun k p hk => by
        have hk' := (List.getElem?_eq_some_iff.1 hk).1
        refine ⟨?_, frz hgc k⟩
        rw [World.ownsRow.cellAt hr k (by omega)]
        simp [hk]
      have hsz : ∀ p ∈ P, p.size ≤ 1048576 := fun p hp => by
        rw [hP, unhide HP1] at hp
        have root : rootE.path.size ≤ 1048576 := by decide
        have one : ∀ {W B r ns es}, Tr W B r ns es → p ∈ (r :: ns).map (fun y => y.ent.path) → p.size ≤ 1048576 := fun {W B r ns es} h hp => by
          rcases List.mem_cons.1 hp with rfl | hp
          · show r.ent.path.size ≤ 1048576
            rw [h.mem.root]; exact root
          · obtain ⟨y, hy, rfl⟩ := List.mem_map.1 hp
            exact h.small y hy
        rcases List.mem_append.1 hp with hp | hp
        · exact one (unhide HA) hp
        · exact one (unhide HB) hp
      have hmV := cell_later hb hm
      have HSrt := hide (sort_any g cap n P m V hcell hn hgV (by omega) hmV hsz (by omega))
      have cv := hv.cell
      have HB0 := hide hb
      have HN := hide hn
      have hcI : (n : Int) ≤ (cap : Int) := by omega
      clear hcell hsz hP hr hrw hbs hn
      gi_wp2_with (first
        | (gi_at_call 68; refine (callsIn_wide.2 (unhide HSrt)).mono ?_; rintro e w5 ⟨rfl, zs, hzl, hzm, hzs, hzH, hg5⟩; have hv5 := hv.kept hg5 (fun e => hne (by simpa using e)); have cv5 := hv5.cell)
        | (gi_at_call 69; refine (callsIn_wide.2 (compact_any g cap n zs w5 hzH hzl.symm (Nat.lt_of_lt_of_le hgV hg5.size) (by omega) hcap)).mono ?_; rintro e w6 ⟨rfl, hcc, hg6⟩))
      have hb6 : Below w.heap.size w w6 := ((unhide HB0).grown hg5 (Nat.le_trans (unhide HB0).size (Nat.le_refl _)) (fun q hq => by cases hq; exact hgw)).grown hg6 (Nat.le_trans (unhide HB0).size hg5.size) (fun q hq => by cases hq; exact hgw)
      have ng : ∀ {X : World} {E : Nat}, V.heap[E]? = some (.deferred (some [])) → E ≠ g := fun {X E} h e => by rw [e, hgc] at h; cases h
      have kd : ∀ {E : Nat}, V.heap[E]? = some (.deferred (some [])) → w6.heap[E]? = some (.deferred (some [])) := fun {E} h => by
        have h1 := (hg5.block E (Array.getElem?_eq_some_iff.1 h).1 (fun e => ng (X := V) h (by simpa using e))).trans h
        exact (hg6.block E (Array.getElem?_eq_some_iff.1 h1).1 (fun e => ng (X := V) h (by simpa using e))).trans h1
      have hDD : D ≠ D2 := by omega
      have hKa := kd hK2
      have hKb : (w6.putObj D2 (.deferred none)).heap[D]? = some (.deferred (some [])) := (World.putObj_heap_other hDD).trans (kd hKD)
      refine ⟨by simp, .inl ⟨_, _, rfl, run_takeDeferred hKa, ?_⟩⟩
      refine ⟨by simp, .inl ⟨_, _, rfl, run_takeDeferred hKb, ?_⟩⟩
      refine ⟨_, results_tmp rfl _ _ _, ?_⟩
      have hall : Lib.compact zs = allP xa xb := by
        refine sorted_all (unhide HA).tree (unhide HB).tree hzs fun p => ?_
        rw [hzm, unhide HPP, unhide HP1]
        have mm : ∀ {W B r ns es}, Tr W B r ns es → ∀ p, p ∈ txts ((r :: ns).map fun y => y.ent.path) ↔ p = [] ∨ p ∈ ptsE es := fun {W B r ns es} h p => by
          have e : txts ((r :: ns).map fun y => y.ent.path) = [] :: ptsE es := by
            rw [txts, List.map_map, List.map_cons, ptsE, ← h.ents, entsN, List.map_map]
            show r.ent.path.data.toList :: _ = _
            rw [h.mem.root]; rfl
          rw [e, List.mem_cons]
        rw [show txts (((r :: ns).map fun y => y.ent.path) ++ (r2 :: ms).map fun y => y.ent.path) = txts ((r :: ns).map fun y => y.ent.path) ++ txts ((r2 :: ms).map fun y => y.ent.path) from by simp [txts], List.mem_append, mm (unhide HA), mm (unhide HB)]
        constructor
        · rintro ((h | h) | (h | h))
          · exact .inl h
          · exact .inr (.inl h)
          · exact .inl h
          · exact .inr (.inr h)
        · rintro (h | h | h)
          · exact .inl (.inl h)
          · exact .inl (.inr h)
          · exact .inr (.inr h)
      refine ⟨g, cap, _, (Lib.compact zs).map fun z => ⟨z.toArray⟩, rfl, hide (by simp), fun k b hk => ?_, hide ?_, ?_⟩
      · rw [List.getElem?_map] at hk
        obtain ⟨z, hz, rfl⟩ := Option.map_eq_some_iff.1 hk
        refine ⟨g, rfl, ?_⟩
        rw [cell_put _ (by show g ≠ D; exact (ng (X := V) hKD).symm), cell_put _ (by show g ≠ D2; exact (ng (X := V) hK2).symm)]
        exact hcc k z hz
      · rw [← hall, txts, List.map_map]
        exact List.map_id' _
      · have h1 := hb6.trans (belowK_b (w := w) (Nat.le_refl _) w6 D2 _ (.deferred none) (by omega) hKa rfl rfl)
        exact h1.trans (belowK_b (w := w) (Nat.le_refl _) _ D _ _ (by omega) hKb rfl rfl)
end Go.Proofs.YtjofjcjojgpaeaaGreatDoor

namespace Go.Proofs.YtjofjcjojgpaeaaGreatDoor
open Go.RowKit Go.Maps

theorem ec_one (e : Ent) : ∀ y ∈ ec e, y.oneCell' = true := ec_oneC e
theorem mark_eq {b : ByteArray} {p : List UInt8} (h : b.data.toList = p) (k : Int) : markE p k = ⟨b, k, 0, ⟨#[]⟩⟩ := by
  subst h; rfl
theorem step_take {xa xb : List Ent} {k : Nat} {p : List UInt8} (h : (allP xa xb)[k]? = some p) : (((allP xa xb).take (k + 1)).map (stepF xa xb)).flatten = (((allP xa xb).take k).map (stepF xa xb)).flatten ++ stepF xa xb p := by
  rw [List.take_add_one, h]; simp
theorem clr_is {B B2 : Nat} {r r2 : Nd} {ns ms : List Nd} {xa xb : List Ent} {p : List UInt8} {v u : Value} {c : Bool} (w : World) (hc : Hid (clrF xa xb p = c)) (h : Tr w B r ns xa) (h2 : Tr w B2 r2 ms xb) (hv : Found r ns xa p v) (hu : Found r2 ms xb p u) :
    Calls Tryz.prog 42 #[v, u] w fun ev w' => ev = .returned (.bool c) ∧ Below w.heap.size w w' := (unhide hc) ▸ clr_at w h h2 hv hu
theorem told_is {B B2 : Nat} {r r2 : Nd} {ns ms : List Nd} {xa xb : List Ent} {c : Bool} (s : ByteArray) (m : Int) (w : World) (hc : Hid ((decide (kindP xb (dirOf s.data.toList) = 1) && !clrF xa xb (dirOf s.data.toList)) = c)) (h : Tr w B r ns xa) (h2 : Tr w B2 r2 ms xb) (hs : s.size ≤ 1048576) (hm : w.cell? ⟨14, 0, none⟩ = some (.int .i64 m)) :
    Calls Tryz.prog 44 #[.pointer (some ⟨r.nb, 0, none⟩), .pointer (some ⟨r2.nb, 0, none⟩), .string s] w fun ev w' => ev = .returned (.bool c) ∧ Below w.heap.size w w' := (unhide hc) ▸ told_any s m w h h2 hs hm
theorem same_is {c : Bool} (x y : Nd) (w : World) (hc : Hid (eqE x.ent y.ent = c)) (hx : w.heap[x.nb]? = some (.cells x.cells 79 (0, 0))) (hy : w.heap[y.nb]? = some (.cells y.cells 79 (0, 0))) :
    Calls Tryz.prog 40 #[.pointer (some ⟨x.nb, 0, none⟩), .pointer (some ⟨y.nb, 0, none⟩)] w fun ev w' => ev = .returned (.bool c) ∧ Below w.heap.size w w' := (unhide hc) ▸ same_any x y w hx hy
set_option maxHeartbeats 3000000 in
set_option maxRecDepth 100000 in
theorem diff_any {B B2 : Nat} {r r2 : Nd} {ns ms : List Nd} {xa xb : List Ent} (m : Int) (w : World) (h : Tr w B r ns xa) (h2 : Tr w B2 r2 ms xb) (hm : w.cell? ⟨14, 0, none⟩ = some (.int .i64 m)) :
    Calls Tryz.prog 28 #[.pointer (some ⟨r.nb, 0, none⟩), .pointer (some ⟨r2.nb, 0, none⟩)] w fun ev w' => ∃ v, ev = .returned v ∧ OwnC w' w.heap.size v (diffF xa xb) ∧ Below w.heap.size w w' := by
  obtain ⟨i0, hi, hz0, hz1, hz2⟩ := info_parts Tryz.info37
  have HA := hide h
  have HB := hide h2
  have HM := hide hm
  have HR : Hid (eqE r.ent r2.ent = true) := hide (by rw [h.mem.root, h2.mem.root]; exact eqE_iff.2 rfl)
  clear h h2 hm
  go_enter Tryz.func28, Tryz.ntmps28
  go_upto_region 3 with (go_at_call 38; refine (paths_any m w (unhide HA) (unhide HB) (unhide HM)).mono ?_; rintro ev w1 ⟨g, cap, n, ps, rfl, HN, ht, HT, hb1⟩)
  have hn : n ≤ 81 := by
    have := allP_len (unhide HA).tree (unhide HB).tree
    rw [unhide HN, ← txts_len, unhide HT]; exact this
  have HTR := hide ht
  clear ht
  go_loopw [5, 14] (fun v i wr => ∃ (k : Nat) (ks : List Ent), k ≤ n ∧ i = .int .i64 k ∧ ks.length ≤ 3 * k ∧ OwnC wr w1.heap.size v ks ∧ Below w1.heap.size w1 wr ∧ Hid (ks = (((allP xa xb).take k).map (stepF xa xb)).flatten)) (fun _ i _ => n - (intOf i).toNat)
  case atStart => exact ⟨0, [], by omega, rfl, by simp, World.ownsRow_nil _ _ _ _, Below.refl _ _, hide (by simp)⟩
  case round =>
    obtain ⟨k, ks, hk, rfl, hkl, hown, hbr, HK⟩ := hrel
    have hb : Below w.heap.size w wr := hb1.trans (hbr.mono hb1.size)
    by_cases hlt : k < n
    · obtain ⟨b, hbk⟩ := get_lt (unhide HN) hlt
      obtain ⟨g', hg', cb⟩ := (unhide HTR).below hbr k b hbk
      cases hg'
      have hpk : (allP xa xb)[k]? = some b.data.toList := by rw [← unhide HT]; exact txts_get hbk
      have HP := hide (step_take hpk)
      have hmem := allP_mem.1 (List.mem_of_getElem? hpk)
      have hbs : b.size ≤ 1048576 := by
        rcases hmem with h | h | h
        · rw [Lib.size_eq, h]; simp
        · obtain ⟨e, he, hp⟩ := List.mem_map.1 h
          rw [Lib.size_eq, ← hp, ← Lib.size_eq]; exact ((unhide HA).tree.small e he).1
        · obtain ⟨e, he, hp⟩ := List.mem_map.1 h
          rw [Lib.size_eq, ← hp, ← Lib.size_eq]; exact ((unhide HB).tree.small e he).1
      have HMem := hide hmem
      have i0' : (0 : Int) ≤ (k : Int) := by omega
      have i1' : (k : Int) < (n : Int) := by omega
      have HOwn := hide hown
      clear hbk hpk hmem hown
      go_upto_region 6 with (first
        | (go_at_call_of 39 (Value.pointer (some ⟨r.nb, 0, none⟩)); refine (find_tr b m _ ((unhide HA).below hb) hbs (cell_later hb (unhide HM))).mono ?_; rintro ev w2 ⟨v1, rfl, HF1, hb2⟩; have hB2 := hb.trans (hb2.mono hb.size))
        | (go_at_call_of 39 (Value.pointer (some ⟨r2.nb, 0, none⟩)); refine (find_tr b m _ ((unhide HB).below hB2) hbs (cell_later hB2 (unhide HM))).mono ?_; rintro ev w3 ⟨v2, rfl, HF2, hb3⟩; have hB3 := hB2.trans (hb3.mono hB2.size)))
      have hO3 := ((unhide HOwn).later hb2).later hb3
      have hR3 : Below w1.heap.size w1 w3 := hbr.trans ((hb2.trans (hb3.mono hb2.size)).mono hbr.size)
      have HO3 := hide hO3
      clear HOwn hO3 hb2 hb3

      have hR3' := hR3
      rcases unhide HF2 with ⟨hv2, hp, hno⟩ | ⟨hv2, hp⟩ | ⟨y, hy, hv2, hyp, hp, hay⟩
      · obtain ⟨x, hv1, hax⟩ : ∃ x : Nd, v1 = .pointer (some ⟨x.nb, 0, none⟩) ∧ atE xa b.data.toList = some x.ent := by
          rcases unhide HF1 with ⟨_, _, ha⟩ | ⟨_, hp'⟩ | ⟨x, hx, hv, hxp, _, ha⟩
          · exfalso
            rcases unhide HMem with h | h | h
            · exact hp h
            · obtain ⟨e, he, hep⟩ := List.mem_map.1 h; exact atE_none ha e he hep
            · obtain ⟨e, he, hep⟩ := List.mem_map.1 h; exact atE_none hno e he hep
          · exact absurd hp' hp
          · exact ⟨x, hv, ha⟩
        have HC : Hid (clrF xa xb b.data.toList = false) := hide (by simp [clrF, kindP_at hp, hno])
        have HG : Hid (goneF xa xb b.data.toList = (decide (kindP xb (dirOf b.data.toList) = 1) && !clrF xa xb (dirOf b.data.toList))) := hide (by simp [goneF, hax, hno])
        have HPu : Hid (putF xa xb b.data.toList = []) := hide (by simp [putF, hno])
        subst hv1 hv2
        clear hp hno hax
        cases htd : (decide (kindP xb (dirOf b.data.toList) = 1) && !clrF xa xb (dirOf b.data.toList))
        · have HTd := hide htd
          have HS : Hid (stepF xa xb b.data.toList = []) := hide (by rw [stepF, unhide HPu, unhide HC, unhide HG, htd]; rfl)
          clear htd
          go_wp2_with (first
        | (go_at_call 42; refine (clr_is w3 HC ((unhide HA).below hB3) ((unhide HB).below hB3) (unhide HF1) (unhide HF2)).mono ?_; rintro ev w4 ⟨rfl, hb4⟩; have hB4 := hB3.trans (hb4.mono hB3.size); have hR4 := hR3.trans (hb4.mono hR3.size); have HO4 := hide ((unhide HO3).later hb4); clear hb4)
        | (go_at_call 44; refine (told_is b m w4 HTd ((unhide HA).below hB4) ((unhide HB).below hB4) hbs (cell_later hB4 (unhide HM))).mono ?_; rintro ev w5 ⟨rfl, hb5⟩; have hB5 := hB4.trans (hb5.mono hB4.size); have hR5 := hR4.trans (hb5.mono hR4.size); have HO5 := hide ((unhide HO4).later hb5); clear hb5))
          go_roundw
          case rel =>
            have hl : (ks).length ≤ 3 * (k + 1) := by
              have h3 := stepF_len xa xb b.data.toList
              rw [unhide HS] at h3
              simp at h3 ⊢
              omega
            have R : ks = (((allP xa xb).take (k + 1)).map (stepF xa xb)).flatten := by rw [unhide HP, ← unhide HK, unhide HS] <;> simp
            have RO : OwnC _ w1.heap.size _ (ks) := unhide HO5
            have RB : Below w1.heap.size w1 _ := hR5
            first
              | exact ⟨k + 1, ks, by omega, by go_num, hl, RO, RB, hide R⟩
              | ((repeat apply Exists.intro); exact ⟨⟨k + 1, ks, by omega, by go_num, hl, RO, RB, hide R⟩, rfl⟩)
          case measure => simp [intOf]; omega
        · have HTd := hide htd
          have HS : Hid (stepF xa xb b.data.toList = [(⟨b, 4, 0, ⟨#[]⟩⟩ : Ent)]) := hide (by rw [stepF, unhide HPu, unhide HC, unhide HG, htd, ← mark_eq rfl]; rfl)
          clear htd
          go_wp2_with (first
        | (go_at_call 42; refine (clr_is w3 HC ((unhide HA).below hB3) ((unhide HB).below hB3) (unhide HF1) (unhide HF2)).mono ?_; rintro ev w4 ⟨rfl, hb4⟩; have hB4 := hB3.trans (hb4.mono hB3.size); have hR4 := hR3.trans (hb4.mono hR3.size); have HO4 := hide ((unhide HO3).later hb4); clear hb4)
        | (go_at_call 44; refine (told_is b m w4 HTd ((unhide HA).below hB4) ((unhide HB).below hB4) hbs (cell_later hB4 (unhide HM))).mono ?_; rintro ev w5 ⟨rfl, hb5⟩; have hB5 := hB4.trans (hb5.mono hB4.size); have hR5 := hR4.trans (hb5.mono hR4.size); have HO5 := hide ((unhide HO4).later hb5); clear hb5)
        | (go_at_call 43; refine (mark_any b 4 _ hbs).mono ?_; rintro ev w6 ⟨rfl, hb6⟩; have hB6 := hB5.trans (hb6.mono hB5.size); have hR6 := hR5.trans (hb6.mono hR5.size); have HO6 := hide ((unhide HO5).later hb6); clear hb6)
        | (at_builtin; refine wpList_append_own _ rfl _ _ 25 rfl w1.heap.size 37 i0 _ 4 48 Tryz.underlying25 hi hz0 hz1 hz2 rfl (by decide) _ _ _ rfl (World.ownsRow.alloc (unhide HO6) _) ⟨w6.heap.size, 0, none⟩ 1 1 (ec (⟨b, 4, 0, ⟨#[]⟩⟩ : Ent)) rfl rfl (World.news_of_block (cs := #[.string (⟨b, 4, 0, ⟨#[]⟩⟩ : Ent).path, .int .i64 (⟨b, 4, 0, ⟨#[]⟩⟩ : Ent).kind, .int .i64 (⟨b, 4, 0, ⟨#[]⟩⟩ : Ent).mode, .string (⟨b, 4, 0, ⟨#[]⟩⟩ : Ent).data]) (t := 37) (fr := (0, 0)) (heap_alloc_new _ _)) (ec_one _) (by unfold maxLen; (try simp only [List.length_append, List.length_cons, List.length_nil]); omega) (by (try simp only [List.length_append, List.length_cons, List.length_nil]); omega) (by have := hR6.size; simp; omega) ?_; intro v7 w7 hown7 hgrow7 _; have HO7 := hide (ownC_snoc hown7); have hR7 := ownC_below (unhide HO6) hR6 hgrow7; have hB7 := hb1.trans (hR7.mono hb1.size); clear hown7 hgrow7))
          go_roundw
          case rel =>
            have hl : (ks ++ [(⟨b, 4, 0, ⟨#[]⟩⟩ : Ent)]).length ≤ 3 * (k + 1) := by
              have h3 := stepF_len xa xb b.data.toList
              rw [unhide HS] at h3
              simp at h3 ⊢
              omega
            have R : ks ++ [(⟨b, 4, 0, ⟨#[]⟩⟩ : Ent)] = (((allP xa xb).take (k + 1)).map (stepF xa xb)).flatten := by rw [unhide HP, ← unhide HK, unhide HS] <;> simp
            have RO : OwnC _ w1.heap.size _ (ks ++ [(⟨b, 4, 0, ⟨#[]⟩⟩ : Ent)]) := unhide HO7
            have RB : Below w1.heap.size w1 _ := hR7
            first
              | exact ⟨k + 1, ks ++ [(⟨b, 4, 0, ⟨#[]⟩⟩ : Ent)], by omega, by go_num, hl, RO, RB, hide R⟩
              | ((repeat apply Exists.intro); exact ⟨⟨k + 1, ks ++ [(⟨b, 4, 0, ⟨#[]⟩⟩ : Ent)], by omega, by go_num, hl, RO, RB, hide R⟩, rfl⟩)
          case measure => simp [intOf]; omega
      · have hv1 : v1 = .pointer (some ⟨r.nb, 0, none⟩) := by
          rcases unhide HF1 with ⟨_, hp', _⟩ | ⟨hv, _⟩ | ⟨_, _, _, _, hp', _⟩
          · exact absurd hp hp'
          · exact hv
          · exact absurd hp hp'
        have HPu : Hid (putF xa xb b.data.toList = []) := hide (by
          have : atE xb b.data.toList = none := atE_miss fun e he => by rw [hp]; exact ((unhide HB).tree.path he).1
          simp [putF, this])
        have HG : Hid (goneF xa xb b.data.toList = false) := hide (by
          have : atE xa b.data.toList = none := atE_miss fun e he => by rw [hp]; exact ((unhide HA).tree.path he).1
          simp [goneF, this])
        have HE1 : Hid (eqE r.ent r2.ent = true) := HR
        have HXm : Hid (r ∈ r :: ns) := hide (by simp)
        have HYm : Hid (r2 ∈ r2 :: ms) := hide (by simp)
        subst hv1 hv2
        clear hp
        cases hcl : clrF xa xb b.data.toList
        · have HC := hide hcl
          have HS : Hid (stepF xa xb b.data.toList = []) := hide (by rw [stepF, unhide HPu, hcl, unhide HG]; rfl)
          clear hcl
          go_wp2_with (first
        | (go_at_call 40; refine (same_is r r2 w3 HE1 (((unhide HA).below hB3).mem.all r (unhide HXm)).2.2.1 (((unhide HB).below hB3).mem.all r2 (unhide HYm)).2.2.1).mono ?_; rintro ev w4 ⟨rfl, hb4⟩; have hB4 := hB3.trans (hb4.mono hB3.size); have hR4 := hR3.trans (hb4.mono hR3.size); have HO4 := hide ((unhide HO3).later hb4); clear hb4)
        | (go_at_call 42; refine (clr_is w4 HC ((unhide HA).below hB4) ((unhide HB).below hB4) (unhide HF1) (unhide HF2)).mono ?_; rintro ev w5 ⟨rfl, hb5⟩; have hB5 := hB4.trans (hb5.mono hB4.size); have hR5 := hR4.trans (hb5.mono hR4.size); have HO5 := hide ((unhide HO4).later hb5); clear hb5))
          go_roundw
          case rel =>
            have hl : (ks).length ≤ 3 * (k + 1) := by
              have h3 := stepF_len xa xb b.data.toList
              rw [unhide HS] at h3
              simp at h3 ⊢
              omega
            have R : ks = (((allP xa xb).take (k + 1)).map (stepF xa xb)).flatten := by rw [unhide HP, ← unhide HK, unhide HS] <;> simp
            have RO : OwnC _ w1.heap.size _ (ks) := unhide HO5
            have RB : Below w1.heap.size w1 _ := hR5
            first
              | exact ⟨k + 1, ks, by omega, by go_num, hl, RO, RB, hide R⟩
              | ((repeat apply Exists.intro); exact ⟨⟨k + 1, ks, by omega, by go_num, hl, RO, RB, hide R⟩, rfl⟩)
          case measure => simp [intOf]; omega
        · have HC := hide hcl
          have HS : Hid (stepF xa xb b.data.toList = [(⟨b, 5, 0, ⟨#[]⟩⟩ : Ent)]) := hide (by rw [stepF, unhide HPu, hcl, unhide HG, ← mark_eq rfl]; rfl)
          clear hcl
          go_wp2_with (first
        | (go_at_call 40; refine (same_is r r2 w3 HE1 (((unhide HA).below hB3).mem.all r (unhide HXm)).2.2.1 (((unhide HB).below hB3).mem.all r2 (unhide HYm)).2.2.1).mono ?_; rintro ev w4 ⟨rfl, hb4⟩; have hB4 := hB3.trans (hb4.mono hB3.size); have hR4 := hR3.trans (hb4.mono hR3.size); have HO4 := hide ((unhide HO3).later hb4); clear hb4)
        | (go_at_call 42; refine (clr_is w4 HC ((unhide HA).below hB4) ((unhide HB).below hB4) (unhide HF1) (unhide HF2)).mono ?_; rintro ev w5 ⟨rfl, hb5⟩; have hB5 := hB4.trans (hb5.mono hB4.size); have hR5 := hR4.trans (hb5.mono hR4.size); have HO5 := hide ((unhide HO4).later hb5); clear hb5)
        | (go_at_call 43; refine (mark_any b 5 _ hbs).mono ?_; rintro ev w6 ⟨rfl, hb6⟩; have hB6 := hB5.trans (hb6.mono hB5.size); have hR6 := hR5.trans (hb6.mono hR5.size); have HO6 := hide ((unhide HO5).later hb6); clear hb6)
        | (at_builtin; refine wpList_append_own _ rfl _ _ 25 rfl w1.heap.size 37 i0 _ 4 48 Tryz.underlying25 hi hz0 hz1 hz2 rfl (by decide) _ _ _ rfl (World.ownsRow.alloc (unhide HO6) _) ⟨w6.heap.size, 0, none⟩ 1 1 (ec (⟨b, 5, 0, ⟨#[]⟩⟩ : Ent)) rfl rfl (World.news_of_block (cs := #[.string (⟨b, 5, 0, ⟨#[]⟩⟩ : Ent).path, .int .i64 (⟨b, 5, 0, ⟨#[]⟩⟩ : Ent).kind, .int .i64 (⟨b, 5, 0, ⟨#[]⟩⟩ : Ent).mode, .string (⟨b, 5, 0, ⟨#[]⟩⟩ : Ent).data]) (t := 37) (fr := (0, 0)) (heap_alloc_new _ _)) (ec_one _) (by unfold maxLen; (try simp only [List.length_append, List.length_cons, List.length_nil]); omega) (by (try simp only [List.length_append, List.length_cons, List.length_nil]); omega) (by have := hR6.size; simp; omega) ?_; intro v7 w7 hown7 hgrow7 _; have HO7 := hide (ownC_snoc hown7); have hR7 := ownC_below (unhide HO6) hR6 hgrow7; have hB7 := hb1.trans (hR7.mono hb1.size); clear hown7 hgrow7))
          go_roundw
          case rel =>
            have hl : (ks ++ [(⟨b, 5, 0, ⟨#[]⟩⟩ : Ent)]).length ≤ 3 * (k + 1) := by
              have h3 := stepF_len xa xb b.data.toList
              rw [unhide HS] at h3
              simp at h3 ⊢
              omega
            have R : ks ++ [(⟨b, 5, 0, ⟨#[]⟩⟩ : Ent)] = (((allP xa xb).take (k + 1)).map (stepF xa xb)).flatten := by rw [unhide HP, ← unhide HK, unhide HS] <;> simp
            have RO : OwnC _ w1.heap.size _ (ks ++ [(⟨b, 5, 0, ⟨#[]⟩⟩ : Ent)]) := unhide HO7
            have RB : Below w1.heap.size w1 _ := hR7
            first
              | exact ⟨k + 1, ks ++ [(⟨b, 5, 0, ⟨#[]⟩⟩ : Ent)], by omega, by go_num, hl, RO, RB, hide R⟩
              | ((repeat apply Exists.intro); exact ⟨⟨k + 1, ks ++ [(⟨b, 5, 0, ⟨#[]⟩⟩ : Ent)], by omega, by go_num, hl, RO, RB, hide R⟩, rfl⟩)
          case measure => simp [intOf]; omega
      · have HYm : Hid (y ∈ r2 :: ms) := hide (by simp [hy])
        have HYs : Hid (y.ent.path.size ≤ 1048576 ∧ y.ent.data.size ≤ 1048576) := hide ((unhide HB).tree.small y.ent ((unhide HB).in hy))
        have HG : Hid (goneF xa xb b.data.toList = false) := hide (by simp [goneF, hay])
        subst hv2
        rcases unhide HF1 with ⟨hv1, _, hax⟩ | ⟨_, hp'⟩ | ⟨x, hx, hv1, hxp, _, hax⟩
        · have HPu : Hid (putF xa xb b.data.toList = [y.ent]) := hide (by simp [putF, hay, hax])
          have HC : Hid (clrF xa xb b.data.toList = false) := hide (by simp [clrF, kindP_at hp, hax])
          have HS : Hid (stepF xa xb b.data.toList = [y.ent]) := hide (by rw [stepF, unhide HPu, unhide HC, unhide HG]; rfl)
          subst hv1
          clear hp hay hax hyp hy
          go_wp2_with (first
        | (go_at_call 40; refine (same_nil _ w3).mono ?_; rintro ev w4 ⟨rfl, hb4⟩; have hB4 := hB3.trans (hb4.mono hB3.size); have hR4 := hR3.trans (hb4.mono hR3.size); have HO4 := hide ((unhide HO3).later hb4); clear hb4)
        | (go_at_call 41; refine (copy_any y w4 (((unhide HB).below hB4).mem.all y (unhide HYm)).2.2.1 (unhide HYs).1 (unhide HYs).2).mono ?_; rintro ev w5 ⟨rfl, hb5⟩; have hB5 := hB4.trans (hb5.mono hB4.size); have hR5 := hR4.trans (hb5.mono hR4.size); have HO5 := hide ((unhide HO4).later hb5); clear hb5)
        | (at_builtin; refine wpList_append_own _ rfl _ _ 25 rfl w1.heap.size 37 i0 _ 4 48 Tryz.underlying25 hi hz0 hz1 hz2 rfl (by decide) _ _ _ rfl (World.ownsRow.alloc (unhide HO5) _) ⟨w5.heap.size, 0, none⟩ 1 1 (ec y.ent) rfl rfl (World.news_of_block (cs := #[.string y.ent.path, .int .i64 y.ent.kind, .int .i64 y.ent.mode, .string y.ent.data]) (t := 37) (fr := (0, 0)) (heap_alloc_new _ _)) (ec_one _) (by unfold maxLen; (try simp only [List.length_append, List.length_cons, List.length_nil]); omega) (by (try simp only [List.length_append, List.length_cons, List.length_nil]); omega) (by have := hR5.size; simp; omega) ?_; intro v6 w6 hown6 hgrow6 _; have HO6 := hide (ownC_snoc hown6); have hR6 := ownC_below (unhide HO5) hR5 hgrow6; have hB6 := hb1.trans (hR6.mono hb1.size); clear hown6 hgrow6)
        | (go_at_call 42; refine (clr_is w6 HC ((unhide HA).below hB6) ((unhide HB).below hB6) (unhide HF1) (unhide HF2)).mono ?_; rintro ev w7 ⟨rfl, hb7⟩; have hB7 := hB6.trans (hb7.mono hB6.size); have hR7 := hR6.trans (hb7.mono hR6.size); have HO7 := hide ((unhide HO6).later hb7); clear hb7))
          go_roundw
          case rel =>
            have hl : (ks ++ [y.ent]).length ≤ 3 * (k + 1) := by
              have h3 := stepF_len xa xb b.data.toList
              rw [unhide HS] at h3
              simp at h3 ⊢
              omega
            have R : ks ++ [y.ent] = (((allP xa xb).take (k + 1)).map (stepF xa xb)).flatten := by rw [unhide HP, ← unhide HK, unhide HS] <;> simp
            have RO : OwnC _ w1.heap.size _ (ks ++ [y.ent]) := unhide HO7
            have RB : Below w1.heap.size w1 _ := hR7
            first
              | exact ⟨k + 1, ks ++ [y.ent], by omega, by go_num, hl, RO, RB, hide R⟩
              | ((repeat apply Exists.intro); exact ⟨⟨k + 1, ks ++ [y.ent], by omega, by go_num, hl, RO, RB, hide R⟩, rfl⟩)
          case measure => simp [intOf]; omega
        · exact absurd hp' hp
        · have HXm : Hid (x ∈ r :: ns) := hide (by simp [hx])
          subst hv1
          cases heq : eqE x.ent y.ent
          · have HE1 := hide heq
            have HPu : Hid (putF xa xb b.data.toList = [y.ent]) := hide (by simp [putF, hay, hax, heq])
            clear hp hay hax hyp hy hx hxp heq
            cases hcl : clrF xa xb b.data.toList
            · have HC := hide hcl
              have HS : Hid (stepF xa xb b.data.toList = [y.ent]) := hide (by rw [stepF, unhide HPu, hcl, unhide HG]; rfl)
              clear hcl
              go_wp2_with (first
        | (go_at_call 40; refine (same_is x y w3 HE1 (((unhide HA).below hB3).mem.all x (unhide HXm)).2.2.1 (((unhide HB).below hB3).mem.all y (unhide HYm)).2.2.1).mono ?_; rintro ev w4 ⟨rfl, hb4⟩; have hB4 := hB3.trans (hb4.mono hB3.size); have hR4 := hR3.trans (hb4.mono hR3.size); have HO4 := hide ((unhide HO3).later hb4); clear hb4)
        | (go_at_call 41; refine (copy_any y w4 (((unhide HB).below hB4).mem.all y (unhide HYm)).2.2.1 (unhide HYs).1 (unhide HYs).2).mono ?_; rintro ev w5 ⟨rfl, hb5⟩; have hB5 := hB4.trans (hb5.mono hB4.size); have hR5 := hR4.trans (hb5.mono hR4.size); have HO5 := hide ((unhide HO4).later hb5); clear hb5)
        | (at_builtin; refine wpList_append_own _ rfl _ _ 25 rfl w1.heap.size 37 i0 _ 4 48 Tryz.underlying25 hi hz0 hz1 hz2 rfl (by decide) _ _ _ rfl (World.ownsRow.alloc (unhide HO5) _) ⟨w5.heap.size, 0, none⟩ 1 1 (ec y.ent) rfl rfl (World.news_of_block (cs := #[.string y.ent.path, .int .i64 y.ent.kind, .int .i64 y.ent.mode, .string y.ent.data]) (t := 37) (fr := (0, 0)) (heap_alloc_new _ _)) (ec_one _) (by unfold maxLen; (try simp only [List.length_append, List.length_cons, List.length_nil]); omega) (by (try simp only [List.length_append, List.length_cons, List.length_nil]); omega) (by have := hR5.size; simp; omega) ?_; intro v6 w6 hown6 hgrow6 _; have HO6 := hide (ownC_snoc hown6); have hR6 := ownC_below (unhide HO5) hR5 hgrow6; have hB6 := hb1.trans (hR6.mono hb1.size); clear hown6 hgrow6)
        | (go_at_call 42; refine (clr_is w6 HC ((unhide HA).below hB6) ((unhide HB).below hB6) (unhide HF1) (unhide HF2)).mono ?_; rintro ev w7 ⟨rfl, hb7⟩; have hB7 := hB6.trans (hb7.mono hB6.size); have hR7 := hR6.trans (hb7.mono hR6.size); have HO7 := hide ((unhide HO6).later hb7); clear hb7))
              go_roundw
              case rel =>
                have hl : (ks ++ [y.ent]).length ≤ 3 * (k + 1) := by
                  have h3 := stepF_len xa xb b.data.toList
                  rw [unhide HS] at h3
                  simp at h3 ⊢
                  omega
                have R : ks ++ [y.ent] = (((allP xa xb).take (k + 1)).map (stepF xa xb)).flatten := by rw [unhide HP, ← unhide HK, unhide HS] <;> simp
                have RO : OwnC _ w1.heap.size _ (ks ++ [y.ent]) := unhide HO7
                have RB : Below w1.heap.size w1 _ := hR7
                first
                  | exact ⟨k + 1, ks ++ [y.ent], by omega, by go_num, hl, RO, RB, hide R⟩
                  | ((repeat apply Exists.intro); exact ⟨⟨k + 1, ks ++ [y.ent], by omega, by go_num, hl, RO, RB, hide R⟩, rfl⟩)
              case measure => simp [intOf]; omega
            · have HC := hide hcl
              have HS : Hid (stepF xa xb b.data.toList = [y.ent] ++ [(⟨b, 5, 0, ⟨#[]⟩⟩ : Ent)]) := hide (by rw [stepF, unhide HPu, hcl, unhide HG, ← mark_eq rfl]; rfl)
              clear hcl
              go_wp2_with (first
        | (go_at_call 40; refine (same_is x y w3 HE1 (((unhide HA).below hB3).mem.all x (unhide HXm)).2.2.1 (((unhide HB).below hB3).mem.all y (unhide HYm)).2.2.1).mono ?_; rintro ev w4 ⟨rfl, hb4⟩; have hB4 := hB3.trans (hb4.mono hB3.size); have hR4 := hR3.trans (hb4.mono hR3.size); have HO4 := hide ((unhide HO3).later hb4); clear hb4)
        | (go_at_call 41; refine (copy_any y w4 (((unhide HB).below hB4).mem.all y (unhide HYm)).2.2.1 (unhide HYs).1 (unhide HYs).2).mono ?_; rintro ev w5 ⟨rfl, hb5⟩; have hB5 := hB4.trans (hb5.mono hB4.size); have hR5 := hR4.trans (hb5.mono hR4.size); have HO5 := hide ((unhide HO4).later hb5); clear hb5)
        | (at_builtin; refine wpList_append_own _ rfl _ _ 25 rfl w1.heap.size 37 i0 _ 4 48 Tryz.underlying25 hi hz0 hz1 hz2 rfl (by decide) _ _ _ rfl (World.ownsRow.alloc (unhide HO5) _) ⟨w5.heap.size, 0, none⟩ 1 1 (ec y.ent) rfl rfl (World.news_of_block (cs := #[.string y.ent.path, .int .i64 y.ent.kind, .int .i64 y.ent.mode, .string y.ent.data]) (t := 37) (fr := (0, 0)) (heap_alloc_new _ _)) (ec_one _) (by unfold maxLen; (try simp only [List.length_append, List.length_cons, List.length_nil]); omega) (by (try simp only [List.length_append, List.length_cons, List.length_nil]); omega) (by have := hR5.size; simp; omega) ?_; intro v6 w6 hown6 hgrow6 _; have HO6 := hide (ownC_snoc hown6); have hR6 := ownC_below (unhide HO5) hR5 hgrow6; have hB6 := hb1.trans (hR6.mono hb1.size); clear hown6 hgrow6)
        | (go_at_call 42; refine (clr_is w6 HC ((unhide HA).below hB6) ((unhide HB).below hB6) (unhide HF1) (unhide HF2)).mono ?_; rintro ev w7 ⟨rfl, hb7⟩; have hB7 := hB6.trans (hb7.mono hB6.size); have hR7 := hR6.trans (hb7.mono hR6.size); have HO7 := hide ((unhide HO6).later hb7); clear hb7)
        | (go_at_call 43; refine (mark_any b 5 _ hbs).mono ?_; rintro ev w8 ⟨rfl, hb8⟩; have hB8 := hB7.trans (hb8.mono hB7.size); have hR8 := hR7.trans (hb8.mono hR7.size); have HO8 := hide ((unhide HO7).later hb8); clear hb8)
        | (at_builtin; refine wpList_append_own _ rfl _ _ 25 rfl w1.heap.size 37 i0 _ 4 48 Tryz.underlying25 hi hz0 hz1 hz2 rfl (by decide) _ _ _ rfl (World.ownsRow.alloc (unhide HO8) _) ⟨w8.heap.size, 0, none⟩ 1 1 (ec (⟨b, 5, 0, ⟨#[]⟩⟩ : Ent)) rfl rfl (World.news_of_block (cs := #[.string (⟨b, 5, 0, ⟨#[]⟩⟩ : Ent).path, .int .i64 (⟨b, 5, 0, ⟨#[]⟩⟩ : Ent).kind, .int .i64 (⟨b, 5, 0, ⟨#[]⟩⟩ : Ent).mode, .string (⟨b, 5, 0, ⟨#[]⟩⟩ : Ent).data]) (t := 37) (fr := (0, 0)) (heap_alloc_new _ _)) (ec_one _) (by unfold maxLen; (try simp only [List.length_append, List.length_cons, List.length_nil]); omega) (by (try simp only [List.length_append, List.length_cons, List.length_nil]); omega) (by have := hR8.size; simp; omega) ?_; intro v9 w9 hown9 hgrow9 _; have HO9 := hide (ownC_snoc hown9); have hR9 := ownC_below (unhide HO8) hR8 hgrow9; have hB9 := hb1.trans (hR9.mono hb1.size); clear hown9 hgrow9))
              go_roundw
              case rel =>
                have hl : (ks ++ [y.ent] ++ [(⟨b, 5, 0, ⟨#[]⟩⟩ : Ent)]).length ≤ 3 * (k + 1) := by
                  have h3 := stepF_len xa xb b.data.toList
                  rw [unhide HS] at h3
                  simp at h3 ⊢
                  omega
                have R : ks ++ [y.ent] ++ [(⟨b, 5, 0, ⟨#[]⟩⟩ : Ent)] = (((allP xa xb).take (k + 1)).map (stepF xa xb)).flatten := by rw [unhide HP, ← unhide HK, unhide HS] <;> simp
                have RO : OwnC _ w1.heap.size _ (ks ++ [y.ent] ++ [(⟨b, 5, 0, ⟨#[]⟩⟩ : Ent)]) := unhide HO9
                have RB : Below w1.heap.size w1 _ := hR9
                first
                  | exact ⟨k + 1, ks ++ [y.ent] ++ [(⟨b, 5, 0, ⟨#[]⟩⟩ : Ent)], by omega, by go_num, hl, RO, RB, hide R⟩
                  | ((repeat apply Exists.intro); exact ⟨⟨k + 1, ks ++ [y.ent] ++ [(⟨b, 5, 0, ⟨#[]⟩⟩ : Ent)], by omega, by go_num, hl, RO, RB, hide R⟩, rfl⟩)
              case measure => simp [intOf]; omega
          · have HE1 := hide heq
            have HPu : Hid (putF xa xb b.data.toList = []) := hide (by simp [putF, hay, hax, heq])
            clear hp hay hax hyp hy hx hxp heq
            cases hcl : clrF xa xb b.data.toList
            · have HC := hide hcl
              have HS : Hid (stepF xa xb b.data.toList = []) := hide (by rw [stepF, unhide HPu, hcl, unhide HG]; rfl)
              clear hcl
              go_wp2_with (first
        | (go_at_call 40; refine (same_is x y w3 HE1 (((unhide HA).below hB3).mem.all x (unhide HXm)).2.2.1 (((unhide HB).below hB3).mem.all y (unhide HYm)).2.2.1).mono ?_; rintro ev w4 ⟨rfl, hb4⟩; have hB4 := hB3.trans (hb4.mono hB3.size); have hR4 := hR3.trans (hb4.mono hR3.size); have HO4 := hide ((unhide HO3).later hb4); clear hb4)
        | (go_at_call 42; refine (clr_is w4 HC ((unhide HA).below hB4) ((unhide HB).below hB4) (unhide HF1) (unhide HF2)).mono ?_; rintro ev w5 ⟨rfl, hb5⟩; have hB5 := hB4.trans (hb5.mono hB4.size); have hR5 := hR4.trans (hb5.mono hR4.size); have HO5 := hide ((unhide HO4).later hb5); clear hb5))
              go_roundw
              case rel =>
                have hl : (ks).length ≤ 3 * (k + 1) := by
                  have h3 := stepF_len xa xb b.data.toList
                  rw [unhide HS] at h3
                  simp at h3 ⊢
                  omega
                have R : ks = (((allP xa xb).take (k + 1)).map (stepF xa xb)).flatten := by rw [unhide HP, ← unhide HK, unhide HS] <;> simp
                have RO : OwnC _ w1.heap.size _ (ks) := unhide HO5
                have RB : Below w1.heap.size w1 _ := hR5
                first
                  | exact ⟨k + 1, ks, by omega, by go_num, hl, RO, RB, hide R⟩
                  | ((repeat apply Exists.intro); exact ⟨⟨k + 1, ks, by omega, by go_num, hl, RO, RB, hide R⟩, rfl⟩)
              case measure => simp [intOf]; omega
            · have HC := hide hcl
              have HS : Hid (stepF xa xb b.data.toList = [(⟨b, 5, 0, ⟨#[]⟩⟩ : Ent)]) := hide (by rw [stepF, unhide HPu, hcl, unhide HG, ← mark_eq rfl]; rfl)
              clear hcl
              go_wp2_with (first
        | (go_at_call 40; refine (same_is x y w3 HE1 (((unhide HA).below hB3).mem.all x (unhide HXm)).2.2.1 (((unhide HB).below hB3).mem.all y (unhide HYm)).2.2.1).mono ?_; rintro ev w4 ⟨rfl, hb4⟩; have hB4 := hB3.trans (hb4.mono hB3.size); have hR4 := hR3.trans (hb4.mono hR3.size); have HO4 := hide ((unhide HO3).later hb4); clear hb4)
        | (go_at_call 42; refine (clr_is w4 HC ((unhide HA).below hB4) ((unhide HB).below hB4) (unhide HF1) (unhide HF2)).mono ?_; rintro ev w5 ⟨rfl, hb5⟩; have hB5 := hB4.trans (hb5.mono hB4.size); have hR5 := hR4.trans (hb5.mono hR4.size); have HO5 := hide ((unhide HO4).later hb5); clear hb5)
        | (go_at_call 43; refine (mark_any b 5 _ hbs).mono ?_; rintro ev w6 ⟨rfl, hb6⟩; have hB6 := hB5.trans (hb6.mono hB5.size); have hR6 := hR5.trans (hb6.mono hR5.size); have HO6 := hide ((unhide HO5).later hb6); clear hb6)
        | (at_builtin; refine wpList_append_own _ rfl _ _ 25 rfl w1.heap.size 37 i0 _ 4 48 Tryz.underlying25 hi hz0 hz1 hz2 rfl (by decide) _ _ _ rfl (World.ownsRow.alloc (unhide HO6) _) ⟨w6.heap.size, 0, none⟩ 1 1 (ec (⟨b, 5, 0, ⟨#[]⟩⟩ : Ent)) rfl rfl (World.news_of_block (cs := #[.string (⟨b, 5, 0, ⟨#[]⟩⟩ : Ent).path, .int .i64 (⟨b, 5, 0, ⟨#[]⟩⟩ : Ent).kind, .int .i64 (⟨b, 5, 0, ⟨#[]⟩⟩ : Ent).mode, .string (⟨b, 5, 0, ⟨#[]⟩⟩ : Ent).data]) (t := 37) (fr := (0, 0)) (heap_alloc_new _ _)) (ec_one _) (by unfold maxLen; (try simp only [List.length_append, List.length_cons, List.length_nil]); omega) (by (try simp only [List.length_append, List.length_cons, List.length_nil]); omega) (by have := hR6.size; simp; omega) ?_; intro v7 w7 hown7 hgrow7 _; have HO7 := hide (ownC_snoc hown7); have hR7 := ownC_below (unhide HO6) hR6 hgrow7; have hB7 := hb1.trans (hR7.mono hb1.size); clear hown7 hgrow7))
              go_roundw
              case rel =>
                have hl : (ks ++ [(⟨b, 5, 0, ⟨#[]⟩⟩ : Ent)]).length ≤ 3 * (k + 1) := by
                  have h3 := stepF_len xa xb b.data.toList
                  rw [unhide HS] at h3
                  simp at h3 ⊢
                  omega
                have R : ks ++ [(⟨b, 5, 0, ⟨#[]⟩⟩ : Ent)] = (((allP xa xb).take (k + 1)).map (stepF xa xb)).flatten := by rw [unhide HP, ← unhide HK, unhide HS] <;> simp
                have RO : OwnC _ w1.heap.size _ (ks ++ [(⟨b, 5, 0, ⟨#[]⟩⟩ : Ent)]) := unhide HO7
                have RB : Below w1.heap.size w1 _ := hR7
                first
                  | exact ⟨k + 1, ks ++ [(⟨b, 5, 0, ⟨#[]⟩⟩ : Ent)], by omega, by go_num, hl, RO, RB, hide R⟩
                  | ((repeat apply Exists.intro); exact ⟨⟨k + 1, ks ++ [(⟨b, 5, 0, ⟨#[]⟩⟩ : Ent)], by omega, by go_num, hl, RO, RB, hide R⟩, rfl⟩)
              case measure => simp [intOf]; omega
    · have HF : Hid (ks = diffF xa xb) := hide (by
        rw [unhide HK, diffF, List.take_of_length_le]
        rw [← unhide HT, txts_len, ← unhide HN]; omega)
      go_wp2_with fail
      go_ret
      exact ⟨_, rfl, by rw [← unhide HF]; exact hown.base hb1.size, hb⟩
end Go.Proofs.YtjofjcjojgpaeaaGreatDoor
