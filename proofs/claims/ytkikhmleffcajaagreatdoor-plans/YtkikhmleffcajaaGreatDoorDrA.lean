import Derived.Test.YtkikhmleffcajaaGreatDoorJDcQ
namespace Go.Proofs.YtkikhmleffcajaaGreatDoor
open Go.RowKit Go.Maps
set_option maxHeartbeats 8000000 in
set_option maxRecDepth 10000 in
theorem step_other (op : ByteArray) (ss : List DsM) (k : Nat) (s : DsM) (gs cv g n cap : Nat) (ms : List WdM) (x0 x1 : WdM) (B : Nat) (w : World) (hS : StD w B (.slice (some ⟨gs, 0, none⟩) (k + 1) cv) ss) (hk : ss.length = k + 1) (hsk : ss[k]? = some s) (hl : k + 1 ≤ 5) (hvl : s.vars.length ≤ 1000) (hsl : s.steps.length ≤ 1000)
    (hW : WsD w B (.slice (some ⟨g, 0, none⟩) n cap) ms) (hn : ms.length = n) (h2 : 2 ≤ n) (hnl : n ≤ 1500) (hcap : n ≤ cap) (hcm : cap ≤ maxLen) (h0 : ms[0]? = some x0) (_ : ms[1]? = some x1) (hok : ∀ m ∈ ms, AtOk m.xs ∧ m.xs.length ≤ 1500) (hBw : B ≤ w.heap.size) (f0 : (op.toList == [67, 79, 80, 89]) = false) (f1 : (op.toList == [77, 75, 68, 73, 82]) = false) (f2 : (op.toList == [69, 78, 86]) = false) (hpre : preT ss op.data.toList ms x0 x1 = .ok (-1, 1)) (hne : ¬ op.data.toList = wENV) :
    Calls Tryz.prog 14 #[.slice (some ⟨gs, 0, none⟩) (k + 1) cv, .string op, .slice (some ⟨g, 0, none⟩) n cap] w fun ev w' => StpD w' B ev (.slice (some ⟨gs, 0, none⟩) (k + 1) cv) ss k s op.data.toList (.slice (some ⟨g, 0, none⟩) n cap) ms x0 x1 (stpT ss s.vars op.data.toList ms x0 x1) ∧ Fr5 B w w' := by
  obtain ⟨i0, hi, hj0, hj1, hj2⟩ := info_parts info58
  have hcm' : (cap : Int) ≤ 9223372036854775807 := by unfold maxLen at hcm; omega
  have s1 : (1 : Int) ≤ (n : Int) := by omega
  have s2 : (n : Int) ≤ (cap : Int) := by omega
  have s3 : (2 : Int) ≤ (n : Int) := by omega
  have s4 : (1 : Int) ≤ (cap : Int) := by omega
  have s5 : (2 : Int) ≤ (cap : Int) := by omega
  have hWr : w.ownsRow B 47 2 (.slice (some ⟨g, 0, none⟩) ms.length cap) ms.length (wdcD ms) := by rw [hn]; have := hW.row; rw [hn] at this; exact this
  have hlt := (World.ownsRow.lt hWr g rfl).2
  have cl : ∀ j x d, ms[j]? = some x → d < 2 → w.cell? ⟨g, j * 2 + d, none⟩ = x.cellsD[d]? := fun j x d hj hd => by
    have hjl := (List.getElem?_eq_some_iff.1 hj).1
    rw [World.ownsRow.cellAt hWr _ (by omega), wdcD_at ms j x d hj hd]
  have m01 := cl 0 x0 1 h0 (by omega)
  have HKC : Hid (∀ wx, In13 w wx → wx.cell? ⟨g, 1, none⟩ = some (.int .i64 (x0.place : Int))) := hide (fun wx h => by
    have e := fun i => World.cell?_of_block (a := ⟨g, i, none⟩) (h.bel.block g hlt)
    exact (e 1).trans m01)
  have HSD : Hid (∀ wx, In13 w wx → StD wx B (.slice (some ⟨gs, 0, none⟩) ss.length cv) ss) := hide (fun wx h => by rw [hk]; exact hS.below h.bel)
  have HWD : Hid (∀ wx, In13 w wx → WsD wx B (.slice (some ⟨g, 0, none⟩) ms.length cap) ms) := hide (fun wx h => by rw [hn]; exact hW.below h.bel)
  have HVV : Hid (∀ wx, In13 w wx → wx.cell? ⟨gs, k * 4 + 3, none⟩ = some s.vv ∧ wx.cell? ⟨gs, k * 4 + 2, none⟩ = some s.sv ∧ NmR wx B s.vv s.vars) := hide (fun wx h => by
    have h' := hS.below h.bel
    have hr := h'.row
    rw [← hk] at hr
    exact ⟨StR.cell hr hsk 3 (by omega), StR.cell hr hsk 2 (by omega), (h'.all s (List.mem_of_getElem? hsk)).vars⟩)
  have hst := hS.all s (List.mem_of_getElem? hsk)
  obtain ⟨av, nv, cvv, hvv⟩ := row_form hst.vars
  obtain ⟨sa, sn, sc, hsv⟩ := row_form hst.steps
  have hnv : nv = s.vars.length := by have := hst.vars; rw [hvv] at this; exact row_len this
  have hsn : sn = s.steps.length := by have := hst.steps; rw [hsv] at this; exact row_len this
  subst hnv hsn
  have HSB := hide (own3 hst.steps (by decide))
  rw [hsv] at HSB
  have HVB := hide (own3 hst.vars (by decide))
  rw [hvv] at HVB
  have HGS := hide (own3 hS.row (by decide) gs rfl)
  rw [hvv, hsv] at HVV
  obtain ⟨W0, hW0⟩ : ∃ W0, W0 = w.alloc (.cells #[.int .i64 0, .int .i64 0] 28) := ⟨_, rfl⟩
  have I0 : In13 w W0 := by rw [hW0]; exact In13.start w
  have c01_w := unhide HKC W0 I0
  obtain ⟨r, hr⟩ : ∃ r, unsetL (fun nm => s.vars.contains nm) ((ms.drop 1).map WdM.wd) = r := ⟨_, rfl⟩
  have hR : stpT ss s.vars op.data.toList ms x0 x1 = endT r (-1) 1 := by unfold stpT; rw [hpre]; simp only; rw [hr]
  have hU : ∀ wx, In13 w wx → Calls Tryz.prog 29 #[.slice (some ⟨g, 2, none⟩) (n - 1) (cap - 1), .slice av s.vars.length cvv] wx (fun e w' => e = .returned (.int .i64 (plcV r)) ∧ Below wx.heap.size wx w') := fun wx h => by
    have := unset_doc g 1 (n - 1) cap (cap - 1) ms (.slice av s.vars.length cvv) s.vars B wx (unhide HWD wx h) (by omega) (unhide HVV wx h).2.2 hok (by omega) (by omega)
    rwa [hr] at this
  clear hpre hr
  cases r with
  | some p =>
    have HQ : Hid (stpT ss s.vars op.data.toList ms x0 x1 = .error (7, p)) := hide hR
    clear hR
    have s0 : (0 : Int) < (n : Int) := by omega
    have s0' : 0 < n := by omega
    have s6 : ¬ cap = 1 := by omega
    have tk1 : (0 : Int) ≤ (k : Int) := by omega
    have tk2 : (k : Int) < (k : Int) + 1 := by omega
    have tk3 : (k : Int) < ((k + 1 : Nat) : Int) := by omega
    clear hS hW hWr cl hst hlt m01
    go_enter Tryz.func14, Tryz.ntmps14
    go_upto_region 1 with fail
    rw [← hW0]
    have HZ0 : Hid (W0.heap.size = w.heap.size + 1) := hide (by rw [hW0]; simp)
    have HJ1 : Hid (In14 w (.string op) (.slice (some ⟨g, 2, none⟩) (n - 1) (cap - 1)) (-1) (x0.place : Int) (W0.alloc (.cells #[.string op, .slice (some ⟨g, 2, none⟩) (n - 1) (cap - 1), .int .i64 (-1), .int .i64 (x0.place : Int)] 78)).drew) := hide (by rw [hW0]; exact (In14.start w _ _ _ _).drew)
    clear hW0
    go_upto_region 2 with fail
    have kA : ∀ o, (W0.alloc o).cell? ⟨g, 1, none⟩ = some (.int .i64 (x0.place : Int)) := fun o => unhide HKC _ (I0.alloc o)
    have kB : ∀ o a0 a1 a2 a3, (((((W0.alloc o).setCell ⟨W0.heap.size, 0, none⟩ a0).setCell ⟨W0.heap.size, 1, none⟩ a1).setCell ⟨W0.heap.size, 2, none⟩ a2).setCell ⟨W0.heap.size, 3, none⟩ a3).cell? ⟨g, 1, none⟩ = some (.int .i64 (x0.place : Int)) := fun o a0 a1 a2 a3 => unhide HKC _ (((((I0.alloc o).set I0.big _).set I0.big _).set I0.big _).set I0.big _)
    go_region_held3 (fun wx => wx.cell? ⟨g, 1, none⟩ = some (.int .i64 (x0.place : Int))) (first | exact c01_w | exact kA _ | exact kB _ _ _ _ _) (fail)
    have J1 := unhide HJ1
    clear HJ1 kA kB
    generalize World.drew (World.alloc W0 _) = W1 at *
    have hz0 := unhide HZ0
    rw [hz0]
    clear HZ0 hz0 c01_w I0
    go_upto_region 21 with fail
    have l1' : W1.cell? ⟨w.heap.size + 1, 1, none⟩ = some (.slice (some ⟨g, 2, none⟩) (n - 1) (cap - 1)) := cell_of_row _ _ 1 _ _ _ J1.stp
    obtain ⟨v3, v2, _⟩ := unhide HVV W1 J1.in13
    have K1 := J1.in13.drew
    go_region_held3 (fun wx => wx.cell? ⟨w.heap.size + 1, 1, none⟩ = some (.slice (some ⟨g, 2, none⟩) (n - 1) (cap - 1)) ∧ wx.cell? ⟨gs, k * 4 + 3, none⟩ = some (.slice av s.vars.length cvv))
      (first | exact ⟨l1', v3⟩ | exact ⟨l1u, v3u⟩)
      (first
        | (go_at_call 29; refine (hU _ (by assumption)).mono ?_; rintro ev wu ⟨rfl, hbu⟩; have Ju := J1.drew.below hbu; have l1u : wu.cell? ⟨w.heap.size + 1, 1, none⟩ = some (.slice (some ⟨g, 2, none⟩) (n - 1) (cap - 1)) := cell_of_row _ _ 1 _ _ _ Ju.stp; obtain ⟨v3u, v2u, _⟩ := unhide HVV wu Ju.in13))
    have I9 := Ju.in13
    clear K1 l1' v3 v2 hU
    go_wp2_with (first
      | (go_at_call 9; refine (bad_any _ _ _).mono ?_; rintro ev wE ⟨rfl, hbE⟩; have IE : In13 w wE := In13.below (by assumption) hbE; have q0 := cell_of_row _ _ 0 _ _ _ IE.blk; have q1 := cell_of_row _ _ 1 _ _ _ IE.blk; have z0 : ∀ i, wE.frozen? ⟨w.heap.size, i, none⟩ = false := (fun i => by simp [World.frozen?, IE.blk]); have HIE := hide IE; clear IE))
    exact end14 rfl rfl (set2 (unhide HIE).blk _ _) ⟨by rw [unhide HQ]; exact ⟨by decide, rfl⟩, (unhide HIE).fr hBw _ _⟩
  | none =>
    have HQ : Hid (stpT ss s.vars op.data.toList ms x0 x1 = .ok (-1, 1)) := hide hR
    clear hR
    have s0 : (0 : Int) < (n : Int) := by omega
    have s0' : 0 < n := by omega
    have s6 : ¬ cap = 1 := by omega
    have tk1 : (0 : Int) ≤ (k : Int) := by omega
    have tk2 : (k : Int) < (k : Int) + 1 := by omega
    have tk3 : (k : Int) < ((k + 1 : Nat) : Int) := by omega
    clear hS hW hWr cl hst hlt m01
    go_enter Tryz.func14, Tryz.ntmps14
    go_upto_region 1 with fail
    rw [← hW0]
    have HZ0 : Hid (W0.heap.size = w.heap.size + 1) := hide (by rw [hW0]; simp)
    have HJ1 : Hid (In14 w (.string op) (.slice (some ⟨g, 2, none⟩) (n - 1) (cap - 1)) (-1) (x0.place : Int) (W0.alloc (.cells #[.string op, .slice (some ⟨g, 2, none⟩) (n - 1) (cap - 1), .int .i64 (-1), .int .i64 (x0.place : Int)] 78)).drew) := hide (by rw [hW0]; exact (In14.start w _ _ _ _).drew)
    clear hW0
    go_upto_region 2 with fail
    have kA : ∀ o, (W0.alloc o).cell? ⟨g, 1, none⟩ = some (.int .i64 (x0.place : Int)) := fun o => unhide HKC _ (I0.alloc o)
    have kB : ∀ o a0 a1 a2 a3, (((((W0.alloc o).setCell ⟨W0.heap.size, 0, none⟩ a0).setCell ⟨W0.heap.size, 1, none⟩ a1).setCell ⟨W0.heap.size, 2, none⟩ a2).setCell ⟨W0.heap.size, 3, none⟩ a3).cell? ⟨g, 1, none⟩ = some (.int .i64 (x0.place : Int)) := fun o a0 a1 a2 a3 => unhide HKC _ (((((I0.alloc o).set I0.big _).set I0.big _).set I0.big _).set I0.big _)
    go_region_held3 (fun wx => wx.cell? ⟨g, 1, none⟩ = some (.int .i64 (x0.place : Int))) (first | exact c01_w | exact kA _ | exact kB _ _ _ _ _) (fail)
    have J1 := unhide HJ1
    clear HJ1 kA kB
    generalize World.drew (World.alloc W0 _) = W1 at *
    have hz0 := unhide HZ0
    rw [hz0]
    clear HZ0 hz0 c01_w I0
    go_upto_region 21 with fail
    have l1' : W1.cell? ⟨w.heap.size + 1, 1, none⟩ = some (.slice (some ⟨g, 2, none⟩) (n - 1) (cap - 1)) := cell_of_row _ _ 1 _ _ _ J1.stp
    obtain ⟨v3, v2, _⟩ := unhide HVV W1 J1.in13
    have K1 := J1.in13.drew
    go_region_held3 (fun wx => wx.cell? ⟨w.heap.size + 1, 1, none⟩ = some (.slice (some ⟨g, 2, none⟩) (n - 1) (cap - 1)) ∧ wx.cell? ⟨gs, k * 4 + 3, none⟩ = some (.slice av s.vars.length cvv))
      (first | exact ⟨l1', v3⟩ | exact ⟨l1u, v3u⟩)
      (first
        | (go_at_call 29; refine (hU _ (by assumption)).mono ?_; rintro ev wu ⟨rfl, hbu⟩; have Ju := J1.drew.below hbu; have l1u : wu.cell? ⟨w.heap.size + 1, 1, none⟩ = some (.slice (some ⟨g, 2, none⟩) (n - 1) (cap - 1)) := cell_of_row _ _ 1 _ _ _ Ju.stp; obtain ⟨v3u, v2u, _⟩ := unhide HVV wu Ju.in13))
    have I9 := Ju.in13
    clear K1 l1' v3 v2 hU
    have DU := hide (unhide HSD wu I9)
    have AU := I9.aft hBw
    have SU := Ju.stp
    have HD6 : Hid (StD (wu.alloc (.cells #[.string op, .slice (some ⟨g, 2, none⟩) (n - 1) (cap - 1), .int .i64 (-1), .int .i64 (x0.place : Int)] 78)).drew B (.slice (some ⟨gs, 0, none⟩) ss.length cv) ss) := hide ((unhide DU).below (drew_below _ _))
    have HRow : Hid ((wu.alloc (.cells #[.string op, .slice (some ⟨g, 2, none⟩) (n - 1) (cap - 1), .int .i64 (-1), .int .i64 (x0.place : Int)] 78)).drew.ownsRow B 78 4 (.slice sa s.steps.length sc) s.steps.length (dpC s.steps)) := hide (by have := ((unhide HD6).all s (List.mem_of_getElem? hsk)).steps; unfold SpR at this; rw [show s.sv = .slice sa s.steps.length sc from hsv] at this; exact this)
    have HP6 : Hid (StpOk (wu.alloc (.cells #[.string op, .slice (some ⟨g, 2, none⟩) (n - 1) (cap - 1), .int .i64 (-1), .int .i64 (x0.place : Int)] 78)).drew B (⟨op.data.toList, .slice (some ⟨g, 2, none⟩) (n - 1) (cap - 1), .slice (some ⟨g, 0, none⟩) n cap, ms, 1, -1, x0.place⟩ : DpM)) := hide ⟨by rw [← hn]; exact unhide HWD _ (I9.alloc _).drew, ⟨g, cap, cap - 1, by rw [hn], congrArg (fun z => Value.slice (some ⟨g, 2, none⟩) z (cap - 1)) (show n - 1 = ms.length - 1 by rw [hn])⟩, by show 1 ≤ ms.length; omega, hok, by show ms.length ≤ 1500; omega⟩
    have hcs := StR.cell (unhide DU).row hsk 2 (by omega)
    have a0 : wu.cell? ⟨gs, k * 4 + 2, none⟩ = some (.slice sa s.steps.length sc) := by rw [hcs]; show some s.sv = _; exact congrArg some hsv
    have a1 : (wu.alloc (.cells #[.string op, .slice (some ⟨g, 2, none⟩) (n - 1) (cap - 1), .int .i64 (-1), .int .i64 (x0.place : Int)] 78)).cell? ⟨gs, k * 4 + 2, none⟩ = some (.slice sa s.steps.length sc) := by
      exact (StR.cell (unhide HD6).row hsk 2 (by omega)).trans (congrArg some hsv)
    have be0 : wu.cell? ⟨w.heap.size + 1, 0, none⟩ = some (.string op) := cell_of_row _ _ 0 _ _ _ SU
    have be1 : wu.cell? ⟨w.heap.size + 1, 1, none⟩ = some (.slice (some ⟨g, 2, none⟩) (n - 1) (cap - 1)) := cell_of_row _ _ 1 _ _ _ SU
    have be2 : wu.cell? ⟨w.heap.size + 1, 2, none⟩ = some (.int .i64 (-1)) := cell_of_row _ _ 2 _ _ _ SU
    have be3 : wu.cell? ⟨w.heap.size + 1, 3, none⟩ = some (.int .i64 (x0.place : Int)) := cell_of_row _ _ 3 _ _ _ SU
    have HK6 : Hid (∀ w6, (wu.alloc (.cells #[.string op, .slice (some ⟨g, 2, none⟩) (n - 1) (cap - 1), .int .i64 (-1), .int .i64 (x0.place : Int)] 78)).drew.grownBy w6 (Value.slice sa s.steps.length sc).ownBlock → w6.cell? ⟨gs, k * 4 + 2, none⟩ = some (.slice sa s.steps.length sc) ∧ w6.frozen? ⟨gs, k * 4 + 2, none⟩ = false ∧ ∀ u, Aft w B (w6.setCell ⟨gs, k * 4 + 2, none⟩ u)) := hide (fun w6 hg => by
      have hb := hg.block gs (World.ownsRow.lt (unhide HD6).row gs rfl).2 (fun e => row_apart (unhide HRow) (unhide HD6).row (by decide) gs e.symm rfl)
      refine ⟨(World.cell?_of_block hb).trans a1, ?_, fun u => ((AU.alloc _).drew.grow hg (fun q hq => ⟨((unhide HSB) q hq).1, by have := ((unhide HSB) q hq).2.1; omega, ((unhide HSB) q hq).2.2⟩)).set (unhide HGS).1 (by have := (unhide HGS).2.1; omega) (unhide HGS).2.2 _⟩
      rw [World.frozen?_of_block hb]
      exact World.ownsRow.frozenAt (unhide HD6).row _)
    have hBW : B ≤ wu.heap.size + 1 := by have := AU.big; omega
    clear hcs
    go_upto_region 27 with fail
    go_region_law
      ((refine step_append_lies _ (by rfl) _ _ _ (by rfl) B 78 i0 _ 4 56 Tryz.underlying55 hi hj0 hj1 hj2 rfl (by decide) (.slice sa s.steps.length sc) s.steps.length (dpC s.steps) (by rfl) (by exact unhide HRow) ⟨wu.heap.size, 0, none⟩ 1 1 [.string op, .slice (some ⟨g, 2, none⟩) (n - 1) (cap - 1), .int .i64 (-1), .int .i64 (x0.place : Int)] (by rfl) (by rfl) (by exact World.news_of_block (cs := #[.string op, .slice (some ⟨g, 2, none⟩) (n - 1) (cap - 1), .int .i64 (-1), .int .i64 (x0.place : Int)]) (t := 78) (fr := (0, 0)) (new_drew _ _)) (one4 _ _ _ _ rfl rfl rfl rfl) (by omega) (by unfold maxLen; omega) (by omega) (by show B ≤ (wu.alloc _).heap.size; simpa using hBW) (wu.heap.size + 1) (by simp) ?_; intro gg cp1 w6 hown6 hgrow6 hlies hgl6; obtain ⟨kk1, kk2, kk3⟩ := unhide HK6 w6 hgrow6; have A6 := kk3 (.slice (some ⟨gg, 0, none⟩) (s.steps.length + 1) cp1); have A6' := A6.drew; have HA6 := hide hown6; clear hown6 kk3))
    all_goals
      try go_wp2_with (first
        | (go_at_call 15; refine (fine_any _).mono ?_; rintro ev w7 ⟨rfl, hb7⟩; have A7 : Aft w B w7 := Aft.below (by assumption) hb7; have q0 := cell_of_row _ _ 0 _ _ _ A7.blk; have q1 := cell_of_row _ _ 1 _ _ _ A7.blk; have z0 : ∀ i, w7.frozen? ⟨w.heap.size, i, none⟩ = false := (fun i => by simp [World.frozen?, A7.blk]); have HA7 := hide A7; clear A7))
      have hfin := (unhide HD6).add hsk (unhide HP6) (by rw [show DpM.cells (⟨op.data.toList, .slice (some ⟨g, 2, none⟩) (n - 1) (cap - 1), .slice (some ⟨g, 0, none⟩) n cap, ms, 1, -1, x0.place⟩ : DpM) = [.string op, .slice (some ⟨g, 2, none⟩) (n - 1) (cap - 1), .int .i64 (-1), .int .i64 (x0.place : Int)] by simp only [DpM.cells, bt_of]]; exact unhide HA6) (by show World.grownBy _ _ (Value.ownBlock s.sv); rw [show s.sv = .slice sa s.steps.length sc from hsv]; exact hgrow6) (by show Value.ownBlock s.sv = _ ∨ _; rw [show s.sv = .slice sa s.steps.length sc from hsv]; rcases hlies with h | h; exact .inl h; exact .inr (by rw [h]; show (wu.alloc _).heap.size ≤ _; simp))
      have hfin2 := (StD.below hfin (w' := w7) (by first | exact hb7 | exact below0 hb7)).keep27 (unhide HA7).blk (.int .i64 0) (.int .i64 (-1))
      exact end14 (v4 := .slice (some ⟨gs, 0, none⟩) (k + 1) cv) rfl rfl (set2 (unhide HA7).blk _ _) ⟨by rw [unhide HQ]; refine ⟨.slice (some ⟨gg, 0, none⟩) (s.steps.length + 1) cp1, s.vv, .slice (some ⟨g, 2, none⟩) (n - 1) (cap - 1), rfl, ?_⟩; rw [hk] at hfin2; rw [if_neg hne]; exact hfin2, (unhide HA7).fr _ _⟩
end Go.Proofs.YtkikhmleffcajaaGreatDoor
