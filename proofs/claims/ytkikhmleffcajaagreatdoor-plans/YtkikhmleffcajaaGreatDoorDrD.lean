import Derived.Test.YtkikhmleffcajaaGreatDoorJDcQ
namespace Go.Proofs.YtkikhmleffcajaaGreatDoor
open Go.RowKit Go.Maps
set_option maxHeartbeats 8000000 in
set_option maxRecDepth 10000 in
theorem step_env (op : ByteArray) (ss : List DsM) (k : Nat) (s : DsM) (gs cv g n cap : Nat) (ms : List WdM) (x0 x1 : WdM) (B : Nat) (w : World) (hS : StD w B (.slice (some ⟨gs, 0, none⟩) (k + 1) cv) ss) (hk : ss.length = k + 1) (hsk : ss[k]? = some s) (hl : k + 1 ≤ 5) (hvl : s.vars.length ≤ 1000) (hsl : s.steps.length ≤ 1000)
    (hW : WsD w B (.slice (some ⟨g, 0, none⟩) n cap) ms) (hn : ms.length = n) (h2 : 2 ≤ n) (hnl : n ≤ 1500) (hcap : n ≤ cap) (hcm : cap ≤ maxLen) (h0 : ms[0]? = some x0) (h1 : ms[1]? = some x1) (hok : ∀ m ∈ ms, AtOk m.xs ∧ m.xs.length ≤ 1500) (hBw : B ≤ w.heap.size) (f0 : (op.toList == [67, 79, 80, 89]) = false) (f1 : (op.toList == [77, 75, 68, 73, 82]) = false) (f2 : (op.toList == [69, 78, 86]) = true) (hop : op.data.toList = wENV) :
    Calls Tryz.prog 14 #[.slice (some ⟨gs, 0, none⟩) (k + 1) cv, .string op, .slice (some ⟨g, 0, none⟩) n cap] w fun ev w' => StpD w' B ev (.slice (some ⟨gs, 0, none⟩) (k + 1) cv) ss k s op.data.toList (.slice (some ⟨g, 0, none⟩) n cap) ms x0 x1 (stpT ss s.vars op.data.toList ms x0 x1) ∧ Fr5 B w w' := by
  obtain ⟨i0, hi, hj0, hj1, hj2⟩ := info_parts info58
  have hcm' : (cap : Int) ≤ 9223372036854775807 := by unfold maxLen at hcm; omega
  have s1 : (1 : Int) ≤ (n : Int) := by omega
  have s2 : (n : Int) ≤ (cap : Int) := by omega
  have s3 : (2 : Int) ≤ (n : Int) := by omega
  have s4 : (1 : Int) ≤ (cap : Int) := by omega
  have s5 : (2 : Int) ≤ (cap : Int) := by omega
  have hWr : w.ownsRow B 47 2 (.slice (some ⟨g, 0, none⟩) ms.length cap) ms.length (wdcD ms) := by rw [hn]; have := hW.row; rw [hn] at this; exact this
  have hlt := (World.ownsRow.lt hWr g rfl).2
  have cl : ∀ j x d, ms[j]? = some x → d < 2 → w.cell? ⟨g, j * 2 + d, none⟩ = x.cellsD[d]? := fun j x d hj hd => by
    have hjl := (List.getElem?_eq_some_iff.1 hj).1
    rw [World.ownsRow.cellAt hWr _ (by omega), wdcD_at ms j x d hj hd]
  have m01 := cl 0 x0 1 h0 (by omega)
  have HKC : Hid (∀ wx, In13 w wx → wx.cell? ⟨g, 1, none⟩ = some (.int .i64 (x0.place : Int))) := hide (fun wx h => by
    have e := fun i => World.cell?_of_block (a := ⟨g, i, none⟩) (h.bel.block g hlt)
    exact (e 1).trans m01)
  have HSD : Hid (∀ wx, In13 w wx → StD wx B (.slice (some ⟨gs, 0, none⟩) ss.length cv) ss) := hide (fun wx h => by rw [hk]; exact hS.below h.bel)
  have HWD : Hid (∀ wx, In13 w wx → WsD wx B (.slice (some ⟨g, 0, none⟩) ms.length cap) ms) := hide (fun wx h => by rw [hn]; exact hW.below h.bel)
  have HVV : Hid (∀ wx, In13 w wx → wx.cell? ⟨gs, k * 4 + 3, none⟩ = some s.vv ∧ wx.cell? ⟨gs, k * 4 + 2, none⟩ = some s.sv ∧ NmR wx B s.vv s.vars) := hide (fun wx h => by
    have h' := hS.below h.bel
    have hr := h'.row
    rw [← hk] at hr
    exact ⟨StR.cell hr hsk 3 (by omega), StR.cell hr hsk 2 (by omega), (h'.all s (List.mem_of_getElem? hsk)).vars⟩)
  have hst := hS.all s (List.mem_of_getElem? hsk)
  obtain ⟨av, nv, cvv, hvv⟩ := row_form hst.vars
  obtain ⟨sa, sn, sc, hsv⟩ := row_form hst.steps
  have hnv : nv = s.vars.length := by have := hst.vars; rw [hvv] at this; exact row_len this
  have hsn : sn = s.steps.length := by have := hst.steps; rw [hsv] at this; exact row_len this
  subst hnv hsn
  have HSB := hide (own3 hst.steps (by decide))
  rw [hsv] at HSB
  have HVB := hide (own3 hst.vars (by decide))
  rw [hvv] at HVB
  have HGS := hide (own3 hS.row (by decide) gs rfl)
  rw [hvv, hsv] at HVV
  obtain ⟨W0, hW0⟩ : ∃ W0, W0 = w.alloc (.cells #[.int .i64 0, .int .i64 0] 28) := ⟨_, rfl⟩
  have I0 : In13 w W0 := by rw [hW0]; exact In13.start w
  have c01_w := unhide HKC W0 I0
  have HK1 : Hid (∀ wx, In13 w wx → wx.cell? ⟨g, 2, none⟩ = some x1.v ∧ wx.cell? ⟨g, 3, none⟩ = some (.int .i64 (x1.place : Int))) := hide (fun wx h => by
    have e := fun i => World.cell?_of_block (a := ⟨g, i, none⟩) (h.bel.block g hlt)
    exact ⟨(e 2).trans (cl 1 x1 0 h1 (by omega)), (e 3).trans (cl 1 x1 1 h1 (by omega))⟩)
  have hx1m := List.mem_of_getElem? h1
  have hro1 := hW.all x1 hx1m
  obtain ⟨ho1, hxl1⟩ := hok x1 hx1m
  obtain ⟨a1, n1, c1, hx1⟩ := row_form hro1
  obtain ⟨b1, hb1⟩ : ∃ b, bt ((plainW x1.xs).getD []) = b := ⟨_, rfl⟩
  have ht1 : (plainW x1.xs).getD [] = b1.data.toList := by rw [← hb1, bt_list]
  have hz1 : b1.size ≤ 1500 := by rw [← hb1, bt_size]; exact Nat.le_trans (plainW_getD x1.xs) hxl1
  obtain ⟨o1, ho1'⟩ : ∃ o, (plainW x1.xs).isSome = o := ⟨_, rfl⟩
  have hP1 : ∀ wx, In13 w wx → Calls Tryz.prog 11 #[.agg #[.slice a1 n1 c1, .int .i64 (x1.place : Int)]] wx (fun ev w' => ev = .returned (.tuple #[.string b1, .bool o1]) ∧ Below wx.heap.size wx w') := fun wx h => by
    have := plain_doc x1.v x1.xs x1.place B wx (row_same hro1 fun q hq => h.bel.block q (World.ownsRow.lt hro1 q hq).2) ho1 hxl1
    rwa [hb1, hx1, ho1'] at this
  rw [hx1] at HK1
  clear hro1 hx1 hb1 hx1m
  obtain ⟨i9, hi9, hy90, hy91, hy92⟩ := info_parts info9
  have s9 : (1 : Int) < (n : Int) := by omega
  have s9' : 1 < n := by omega
  have HT1 := hide ht1
  have hV := fun wx => isvar_doc b1 wx hz1
  have hpreD : preT ss op.data.toList ms x0 x1 = if o1 = true ∧ isVarN b1.data.toList = true then .ok (-1, 1) else .error (5, x1.place) := by
    unfold preT
    rw [if_neg (by rw [hop]; decide), if_neg (by rw [hop]; decide), if_pos hop]
    rw [← ho1', ← ht1]
    cases hp : plainW x1.xs with
    | none => simp
    | some t => simp
  clear ht1 ho1'
  have HOP := hide hop
  clear hop
  by_cases hg : o1 = true ∧ isVarN b1.data.toList = true
  case neg =>
    have HQ : Hid (stpT ss s.vars op.data.toList ms x0 x1 = .error (5, x1.place)) := hide (by unfold stpT; rw [hpreD, if_neg hg])
    clear hpreD
    cases o1 with
    | false =>
      clear hg
      have s0 : (0 : Int) < (n : Int) := by omega
      have s0' : 0 < n := by omega
      have s6 : ¬ cap = 1 := by omega
      have tk1 : (0 : Int) ≤ (k : Int) := by omega
      have tk2 : (k : Int) < (k : Int) + 1 := by omega
      have tk3 : (k : Int) < ((k + 1 : Nat) : Int) := by omega
      clear hS hW hWr cl hst hlt m01
      go_enter Tryz.func14, Tryz.ntmps14
      go_upto_region 1 with fail
      rw [← hW0]
      have HZ0 : Hid (W0.heap.size = w.heap.size + 1) := hide (by rw [hW0]; simp)
      have HJ1 : Hid (In14 w (.string op) (.slice (some ⟨g, 2, none⟩) (n - 1) (cap - 1)) (-1) (x0.place : Int) (W0.alloc (.cells #[.string op, .slice (some ⟨g, 2, none⟩) (n - 1) (cap - 1), .int .i64 (-1), .int .i64 (x0.place : Int)] 78)).drew) := hide (by rw [hW0]; exact (In14.start w _ _ _ _).drew)
      clear hW0
      go_upto_region 2 with fail
      have kA : ∀ o, (W0.alloc o).cell? ⟨g, 1, none⟩ = some (.int .i64 (x0.place : Int)) := fun o => unhide HKC _ (I0.alloc o)
      have kB : ∀ o a0 a1 a2 a3, (((((W0.alloc o).setCell ⟨W0.heap.size, 0, none⟩ a0).setCell ⟨W0.heap.size, 1, none⟩ a1).setCell ⟨W0.heap.size, 2, none⟩ a2).setCell ⟨W0.heap.size, 3, none⟩ a3).cell? ⟨g, 1, none⟩ = some (.int .i64 (x0.place : Int)) := fun o a0 a1 a2 a3 => unhide HKC _ (((((I0.alloc o).set I0.big _).set I0.big _).set I0.big _).set I0.big _)
      go_region_held3 (fun wx => wx.cell? ⟨g, 1, none⟩ = some (.int .i64 (x0.place : Int))) (first | exact c01_w | exact kA _ | exact kB _ _ _ _ _) (fail)
      have J1 := unhide HJ1
      clear HJ1 kA kB
      generalize World.drew (World.alloc W0 _) = W1 at *
      have hz0 := unhide HZ0
      rw [hz0]
      clear HZ0 hz0 c01_w I0
      have I1 := J1.in13
      obtain ⟨ca1_, cb1_⟩ := unhide HK1 W1 I1
      go_wp2_with (first
        | (go_at_call 11; refine (hP1 _ (by assumption)).mono ?_; rintro ev wa1 ⟨rfl, hba1⟩; have J2 := J1.below hba1; have I2 := J2.in13; obtain ⟨ca1, cb1⟩ := unhide HK1 wa1 I2)
        | (go_at_call 28; refine (hV _).mono ?_; clear hV; rintro ev wv ⟨rfl, hwv⟩; obtain rfl := hwv.symm)
        | (go_at_call 9; refine (bad_any _ _ _).mono ?_; rintro ev wE ⟨rfl, hbE⟩; have IE : In13 w wE := In13.below (by assumption) hbE; have q0 := cell_of_row _ _ 0 _ _ _ IE.blk; have q1 := cell_of_row _ _ 1 _ _ _ IE.blk; have z0 : ∀ i, wE.frozen? ⟨w.heap.size, i, none⟩ = false := (fun i => by simp [World.frozen?, IE.blk]); have HIE := hide IE; clear IE))
      exact end14 rfl rfl (set2 (unhide HIE).blk _ _) ⟨by rw [unhide HQ]; exact ⟨by decide, rfl⟩, (unhide HIE).fr hBw _ _⟩
    | true =>
      have hmo : isVarN b1.data.toList = false := by cases h : isVarN b1.data.toList with | false => rfl | true => exact absurd ⟨rfl, h⟩ hg
      rw [hmo] at hV
      clear hg hmo
      have s0 : (0 : Int) < (n : Int) := by omega
      have s0' : 0 < n := by omega
      have s6 : ¬ cap = 1 := by omega
      have tk1 : (0 : Int) ≤ (k : Int) := by omega
      have tk2 : (k : Int) < (k : Int) + 1 := by omega
      have tk3 : (k : Int) < ((k + 1 : Nat) : Int) := by omega
      clear hS hW hWr cl hst hlt m01
      go_enter Tryz.func14, Tryz.ntmps14
      go_upto_region 1 with fail
      rw [← hW0]
      have HZ0 : Hid (W0.heap.size = w.heap.size + 1) := hide (by rw [hW0]; simp)
      have HJ1 : Hid (In14 w (.string op) (.slice (some ⟨g, 2, none⟩) (n - 1) (cap - 1)) (-1) (x0.place : Int) (W0.alloc (.cells #[.string op, .slice (some ⟨g, 2, none⟩) (n - 1) (cap - 1), .int .i64 (-1), .int .i64 (x0.place : Int)] 78)).drew) := hide (by rw [hW0]; exact (In14.start w _ _ _ _).drew)
      clear hW0
      go_upto_region 2 with fail
      have kA : ∀ o, (W0.alloc o).cell? ⟨g, 1, none⟩ = some (.int .i64 (x0.place : Int)) := fun o => unhide HKC _ (I0.alloc o)
      have kB : ∀ o a0 a1 a2 a3, (((((W0.alloc o).setCell ⟨W0.heap.size, 0, none⟩ a0).setCell ⟨W0.heap.size, 1, none⟩ a1).setCell ⟨W0.heap.size, 2, none⟩ a2).setCell ⟨W0.heap.size, 3, none⟩ a3).cell? ⟨g, 1, none⟩ = some (.int .i64 (x0.place : Int)) := fun o a0 a1 a2 a3 => unhide HKC _ (((((I0.alloc o).set I0.big _).set I0.big _).set I0.big _).set I0.big _)
      go_region_held3 (fun wx => wx.cell? ⟨g, 1, none⟩ = some (.int .i64 (x0.place : Int))) (first | exact c01_w | exact kA _ | exact kB _ _ _ _ _) (fail)
      have J1 := unhide HJ1
      clear HJ1 kA kB
      generalize World.drew (World.alloc W0 _) = W1 at *
      have hz0 := unhide HZ0
      rw [hz0]
      clear HZ0 hz0 c01_w I0
      have I1 := J1.in13
      obtain ⟨ca1_, cb1_⟩ := unhide HK1 W1 I1
      go_wp2_with (first
        | (go_at_call 11; refine (hP1 _ (by assumption)).mono ?_; rintro ev wa1 ⟨rfl, hba1⟩; have J2 := J1.below hba1; have I2 := J2.in13; obtain ⟨ca1, cb1⟩ := unhide HK1 wa1 I2)
        | (go_at_call 28; refine (hV _).mono ?_; clear hV; rintro ev wv ⟨rfl, hwv⟩; obtain rfl := hwv.symm)
        | (go_at_call 9; refine (bad_any _ _ _).mono ?_; rintro ev wE ⟨rfl, hbE⟩; have IE : In13 w wE := In13.below (by assumption) hbE; have q0 := cell_of_row _ _ 0 _ _ _ IE.blk; have q1 := cell_of_row _ _ 1 _ _ _ IE.blk; have z0 : ∀ i, wE.frozen? ⟨w.heap.size, i, none⟩ = false := (fun i => by simp [World.frozen?, IE.blk]); have HIE := hide IE; clear IE))
      exact end14 rfl rfl (set2 (unhide HIE).blk _ _) ⟨by rw [unhide HQ]; exact ⟨by decide, rfl⟩, (unhide HIE).fr hBw _ _⟩
  obtain ⟨ho, hmo⟩ := hg
  rw [hmo] at hV
  have hpre : preT ss op.data.toList ms x0 x1 = .ok (-1, 1) := by rw [hpreD, if_pos ⟨ho, hmo⟩]
  subst ho
  clear hpreD hmo
  obtain ⟨r, hr⟩ : ∃ r, unsetL (fun nm => s.vars.contains nm) ((ms.drop 1).map WdM.wd) = r := ⟨_, rfl⟩
  have hR : stpT ss s.vars op.data.toList ms x0 x1 = endT r (-1) 1 := by unfold stpT; rw [hpre]; simp only; rw [hr]
  have hU : ∀ wx, In13 w wx → Calls Tryz.prog 29 #[.slice (some ⟨g, 2, none⟩) (n - 1) (cap - 1), .slice av s.vars.length cvv] wx (fun e w' => e = .returned (.int .i64 (plcV r)) ∧ Below wx.heap.size wx w') := fun wx h => by
    have := unset_doc g 1 (n - 1) cap (cap - 1) ms (.slice av s.vars.length cvv) s.vars B wx (unhide HWD wx h) (by omega) (unhide HVV wx h).2.2 hok (by omega) (by omega)
    rwa [hr] at this
  clear hpre hr
  cases r with
  | some p =>
    have HQ : Hid (stpT ss s.vars op.data.toList ms x0 x1 = .error (7, p)) := hide hR
    clear hR
    have s0 : (0 : Int) < (n : Int) := by omega
    have s0' : 0 < n := by omega
    have s6 : ¬ cap = 1 := by omega
    have tk1 : (0 : Int) ≤ (k : Int) := by omega
    have tk2 : (k : Int) < (k : Int) + 1 := by omega
    have tk3 : (k : Int) < ((k + 1 : Nat) : Int) := by omega
    clear hS hW hWr cl hst hlt m01
    go_enter Tryz.func14, Tryz.ntmps14
    go_upto_region 1 with fail
    rw [← hW0]
    have HZ0 : Hid (W0.heap.size = w.heap.size + 1) := hide (by rw [hW0]; simp)
    have HJ1 : Hid (In14 w (.string op) (.slice (some ⟨g, 2, none⟩) (n - 1) (cap - 1)) (-1) (x0.place : Int) (W0.alloc (.cells #[.string op, .slice (some ⟨g, 2, none⟩) (n - 1) (cap - 1), .int .i64 (-1), .int .i64 (x0.place : Int)] 78)).drew) := hide (by rw [hW0]; exact (In14.start w _ _ _ _).drew)
    clear hW0
    go_upto_region 2 with fail
    have kA : ∀ o, (W0.alloc o).cell? ⟨g, 1, none⟩ = some (.int .i64 (x0.place : Int)) := fun o => unhide HKC _ (I0.alloc o)
    have kB : ∀ o a0 a1 a2 a3, (((((W0.alloc o).setCell ⟨W0.heap.size, 0, none⟩ a0).setCell ⟨W0.heap.size, 1, none⟩ a1).setCell ⟨W0.heap.size, 2, none⟩ a2).setCell ⟨W0.heap.size, 3, none⟩ a3).cell? ⟨g, 1, none⟩ = some (.int .i64 (x0.place : Int)) := fun o a0 a1 a2 a3 => unhide HKC _ (((((I0.alloc o).set I0.big _).set I0.big _).set I0.big _).set I0.big _)
    go_region_held3 (fun wx => wx.cell? ⟨g, 1, none⟩ = some (.int .i64 (x0.place : Int))) (first | exact c01_w | exact kA _ | exact kB _ _ _ _ _) (fail)
    have J1 := unhide HJ1
    clear HJ1 kA kB
    generalize World.drew (World.alloc W0 _) = W1 at *
    have hz0 := unhide HZ0
    rw [hz0]
    clear HZ0 hz0 c01_w I0
    have I1 := J1.in13
    obtain ⟨ca1_, cb1_⟩ := unhide HK1 W1 I1
    go_upto_region 21 with (first
      | (go_at_call 11; refine (hP1 _ (by assumption)).mono ?_; rintro ev wa1 ⟨rfl, hba1⟩; have J2 := J1.below hba1; have I2 := J2.in13; obtain ⟨ca1, cb1⟩ := unhide HK1 wa1 I2)
      | (go_at_call 28; refine (hV _).mono ?_; clear hV; rintro ev wv ⟨rfl, hwv⟩; obtain rfl := hwv.symm))
    have l1' : wa1.cell? ⟨w.heap.size + 1, 1, none⟩ = some (.slice (some ⟨g, 2, none⟩) (n - 1) (cap - 1)) := cell_of_row _ _ 1 _ _ _ J2.stp
    obtain ⟨v3, v2, _⟩ := unhide HVV wa1 J2.in13
    have K1 := J2.in13.drew
    go_region_held3 (fun wx => wx.cell? ⟨w.heap.size + 1, 1, none⟩ = some (.slice (some ⟨g, 2, none⟩) (n - 1) (cap - 1)) ∧ wx.cell? ⟨gs, k * 4 + 3, none⟩ = some (.slice av s.vars.length cvv))
      (first | exact ⟨l1', v3⟩ | exact ⟨l1u, v3u⟩)
      (first
        | (go_at_call 29; refine (hU _ (by assumption)).mono ?_; rintro ev wu ⟨rfl, hbu⟩; have Ju := J2.drew.below hbu; have l1u : wu.cell? ⟨w.heap.size + 1, 1, none⟩ = some (.slice (some ⟨g, 2, none⟩) (n - 1) (cap - 1)) := cell_of_row _ _ 1 _ _ _ Ju.stp; obtain ⟨v3u, v2u, _⟩ := unhide HVV wu Ju.in13))
    have I9 := Ju.in13
    clear K1 l1' v3 v2 hU
    go_wp2_with (first
      | (go_at_call 9; refine (bad_any _ _ _).mono ?_; rintro ev wE ⟨rfl, hbE⟩; have IE : In13 w wE := In13.below (by assumption) hbE; have q0 := cell_of_row _ _ 0 _ _ _ IE.blk; have q1 := cell_of_row _ _ 1 _ _ _ IE.blk; have z0 : ∀ i, wE.frozen? ⟨w.heap.size, i, none⟩ = false := (fun i => by simp [World.frozen?, IE.blk]); have HIE := hide IE; clear IE))
    exact end14 rfl rfl (set2 (unhide HIE).blk _ _) ⟨by rw [unhide HQ]; exact ⟨by decide, rfl⟩, (unhide HIE).fr hBw _ _⟩
  | none =>
    have HQ : Hid (stpT ss s.vars op.data.toList ms x0 x1 = .ok (-1, 1)) := hide hR
    clear hR
    have s0 : (0 : Int) < (n : Int) := by omega
    have s0' : 0 < n := by omega
    have s6 : ¬ cap = 1 := by omega
    have tk1 : (0 : Int) ≤ (k : Int) := by omega
    have tk2 : (k : Int) < (k : Int) + 1 := by omega
    have tk3 : (k : Int) < ((k + 1 : Nat) : Int) := by omega
    clear hS hW hWr cl hst hlt m01
    go_enter Tryz.func14, Tryz.ntmps14
    go_upto_region 1 with fail
    rw [← hW0]
    have HZ0 : Hid (W0.heap.size = w.heap.size + 1) := hide (by rw [hW0]; simp)
    have HJ1 : Hid (In14 w (.string op) (.slice (some ⟨g, 2, none⟩) (n - 1) (cap - 1)) (-1) (x0.place : Int) (W0.alloc (.cells #[.string op, .slice (some ⟨g, 2, none⟩) (n - 1) (cap - 1), .int .i64 (-1), .int .i64 (x0.place : Int)] 78)).drew) := hide (by rw [hW0]; exact (In14.start w _ _ _ _).drew)
    clear hW0
    go_upto_region 2 with fail
    have kA : ∀ o, (W0.alloc o).cell? ⟨g, 1, none⟩ = some (.int .i64 (x0.place : Int)) := fun o => unhide HKC _ (I0.alloc o)
    have kB : ∀ o a0 a1 a2 a3, (((((W0.alloc o).setCell ⟨W0.heap.size, 0, none⟩ a0).setCell ⟨W0.heap.size, 1, none⟩ a1).setCell ⟨W0.heap.size, 2, none⟩ a2).setCell ⟨W0.heap.size, 3, none⟩ a3).cell? ⟨g, 1, none⟩ = some (.int .i64 (x0.place : Int)) := fun o a0 a1 a2 a3 => unhide HKC _ (((((I0.alloc o).set I0.big _).set I0.big _).set I0.big _).set I0.big _)
    go_region_held3 (fun wx => wx.cell? ⟨g, 1, none⟩ = some (.int .i64 (x0.place : Int))) (first | exact c01_w | exact kA _ | exact kB _ _ _ _ _) (fail)
    have J1 := unhide HJ1
    clear HJ1 kA kB
    generalize World.drew (World.alloc W0 _) = W1 at *
    have hz0 := unhide HZ0
    rw [hz0]
    clear HZ0 hz0 c01_w I0
    have I1 := J1.in13
    obtain ⟨ca1_, cb1_⟩ := unhide HK1 W1 I1
    go_upto_region 21 with (first
      | (go_at_call 11; refine (hP1 _ (by assumption)).mono ?_; rintro ev wa1 ⟨rfl, hba1⟩; have J2 := J1.below hba1; have I2 := J2.in13; obtain ⟨ca1, cb1⟩ := unhide HK1 wa1 I2)
      | (go_at_call 28; refine (hV _).mono ?_; clear hV; rintro ev wv ⟨rfl, hwv⟩; obtain rfl := hwv.symm))
    have l1' : wa1.cell? ⟨w.heap.size + 1, 1, none⟩ = some (.slice (some ⟨g, 2, none⟩) (n - 1) (cap - 1)) := cell_of_row _ _ 1 _ _ _ J2.stp
    obtain ⟨v3, v2, _⟩ := unhide HVV wa1 J2.in13
    have K1 := J2.in13.drew
    go_region_held3 (fun wx => wx.cell? ⟨w.heap.size + 1, 1, none⟩ = some (.slice (some ⟨g, 2, none⟩) (n - 1) (cap - 1)) ∧ wx.cell? ⟨gs, k * 4 + 3, none⟩ = some (.slice av s.vars.length cvv))
      (first | exact ⟨l1', v3⟩ | exact ⟨l1u, v3u⟩)
      (first
        | (go_at_call 29; refine (hU _ (by assumption)).mono ?_; rintro ev wu ⟨rfl, hbu⟩; have Ju := J2.drew.below hbu; have l1u : wu.cell? ⟨w.heap.size + 1, 1, none⟩ = some (.slice (some ⟨g, 2, none⟩) (n - 1) (cap - 1)) := cell_of_row _ _ 1 _ _ _ Ju.stp; obtain ⟨v3u, v2u, _⟩ := unhide HVV wu Ju.in13))
    have I9 := Ju.in13
    clear K1 l1' v3 v2 hU
    obtain ⟨ca1u, cb1u⟩ := unhide HK1 wu I9
    go_upto_region 26 with (first
      | (go_at_call 11; refine (hP1 _ (by assumption)).mono ?_; rintro ev wb ⟨rfl, hbb⟩; have Jb := Ju.below hbb; have Ib := Jb.in13; obtain ⟨cab, cbb⟩ := unhide HK1 wb Ib; obtain ⟨v3b, v2b, _⟩ := unhide HVV wb Ib))
    have Jc : Hid (In14 w (.string op) (.slice (some ⟨g, 2, none⟩) (n - 1) (cap - 1)) (-1) (x0.place : Int) (wb.alloc (.cells #[.string b1] 9))) := hide (Jb.alloc _)
    have HRV : Hid (NmR (wb.alloc (.cells #[.string b1] 9)) B (.slice av s.vars.length cvv) s.vars) := hide (unhide HVV _ (unhide Jc).in13).2.2
    have HDc : Hid (StD (wb.alloc (.cells #[.string b1] 9)) B (.slice (some ⟨gs, 0, none⟩) ss.length cv) ss) := hide (unhide HSD _ (unhide Jc).in13)
    have HWc : Hid (WsD (wb.alloc (.cells #[.string b1] 9)) B (.slice (some ⟨g, 0, none⟩) ms.length cap) ms) := hide (unhide HWD _ (unhide Jc).in13)
    have HKe : Hid (∀ we, (wb.alloc (.cells #[.string b1] 9)).grownBy we (Value.slice av s.vars.length cvv).ownBlock → we.heap[gs]? = (wb.alloc (.cells #[.string b1] 9)).heap[gs]? ∧ we.cell? ⟨gs, k * 4 + 3, none⟩ = some (.slice av s.vars.length cvv) ∧ we.frozen? ⟨gs, k * 4 + 3, none⟩ = false) := hide (fun we hg => by
      have hb := hg.block gs (World.ownsRow.lt (unhide HDc).row gs rfl).2 (fun e => row_apart (unhide HRV) (unhide HDc).row (by decide) gs e.symm rfl)
      refine ⟨hb, (World.cell?_of_block hb).trans (unhide HVV _ (unhide Jc).in13).1, ?_⟩
      rw [World.frozen?_of_block hb]
      exact World.ownsRow.frozenAt (unhide HDc).row _)
    have hBb : B ≤ wb.heap.size + 1 := by have := Jb.big; omega
    go_upto_region 27 with (first
      | (at_builtin; refine wpList_append_lies _ rfl _ _ 56 rfl B 9 i9 _ 1 16 Tryz.underlying56 hi9 hy90 hy91 hy92 rfl (by decide) _ s.vars.length (s.vars.map fun n => .string (bt n)) rfl (unhide HRV) ⟨wb.heap.size, 0, none⟩ 1 1 [.string b1] rfl rfl (by exact World.news_of_block (cs := #[.string b1]) (t := 9) (fr := (0, 0)) (heap_alloc_new _ _)) (by intro u hu; rw [List.mem_singleton] at hu; rw [hu]; rfl) (by omega) (by unfold maxLen; omega) (by omega) (by simpa using hBb) _ rfl ?_; intro ge ce we howne hgrowe hliese hgle; obtain ⟨ke0, ke1, ke2⟩ := unhide HKe we hgrowe; have HAe := hide howne; clear howne))
    have AE : Aft w B (we.setCell ⟨gs, k * 4 + 3, none⟩ (.slice (some ⟨ge, 0, none⟩) (s.vars.length + 1) ce)) := (((unhide Jc).in13.aft hBw).grow hgrowe (fun q hq => ⟨(unhide HVB q hq).1, by have := (unhide HVB q hq).2.1; omega, (unhide HVB q hq).2.2⟩)).set (unhide HGS).1 (by have := (unhide HGS).2.1; omega) (unhide HGS).2.2 _
    have SE : (we.setCell ⟨gs, k * 4 + 3, none⟩ (.slice (some ⟨ge, 0, none⟩) (s.vars.length + 1) ce)).heap[w.heap.size + 1]? = some (.cells #[.string op, .slice (some ⟨g, 2, none⟩) (n - 1) (cap - 1), .int .i64 (-1), .int .i64 (x0.place : Int)] 78 (0, 0)) := (Below.heap_setCell _ _ _ _ (show w.heap.size + 1 ≠ gs by have := (unhide HGS).2.1; omega)).trans ((hgrowe.block _ (unhide Jc).big (fun e => by have := (unhide HVB _ e.symm).2.1; omega)).trans (unhide Jc).stp)
    have DE : Hid (StD (we.setCell ⟨gs, k * 4 + 3, none⟩ (.slice (some ⟨ge, 0, none⟩) (s.vars.length + 1) ce)) B (.slice (some ⟨gs, 0, none⟩) (ss.set k ({ s with vv := .slice (some ⟨ge, 0, none⟩) (s.vars.length + 1) ce, vars := s.vars ++ [b1.data.toList] } : DsM)).length cv) (ss.set k ({ s with vv := .slice (some ⟨ge, 0, none⟩) (s.vars.length + 1) ce, vars := s.vars ++ [b1.data.toList] } : DsM))) := hide (by
      rw [List.length_set]
      exact (unhide HDc).env (t := b1.data.toList) hsk (by rw [bt_of]; exact unhide HAe) (by rw [hvv]; exact hgrowe) (by rw [hvv]; rcases hliese with h | h; exact .inl h; exact .inr (by omega)))
    have HWE : Hid (WsD (we.setCell ⟨gs, k * 4 + 3, none⟩ (.slice (some ⟨ge, 0, none⟩) (s.vars.length + 1) ce)) B (.slice (some ⟨g, 0, none⟩) ms.length cap) ms) := hide (by
      obtain ⟨cg, fg, hcg⟩ := kind_of (unhide HDc).row gs rfl
      exact (unhide HWc).kept ((KepW.grown (unhide HRV) hgrowe (by decide) (by decide)).trans (KepW.set _ (ke0.trans hcg) (by decide) (by decide))))
    have SKE : (ss.set k ({ s with vv := .slice (some ⟨ge, 0, none⟩) (s.vars.length + 1) ce, vars := s.vars ++ [b1.data.toList] } : DsM))[k]? = some ({ s with vv := .slice (some ⟨ge, 0, none⟩) (s.vars.length + 1) ce, vars := s.vars ++ [b1.data.toList] } : DsM) := by rw [List.getElem?_set_self (by omega)]
    generalize World.setCell we _ _ = WE at *
    have HD6 : Hid (StD (WE.alloc (.cells #[.string op, .slice (some ⟨g, 2, none⟩) (n - 1) (cap - 1), .int .i64 (-1), .int .i64 (x0.place : Int)] 78)).drew B (.slice (some ⟨gs, 0, none⟩) (ss.set k ({ s with vv := .slice (some ⟨ge, 0, none⟩) (s.vars.length + 1) ce, vars := s.vars ++ [b1.data.toList] } : DsM)).length cv) (ss.set k ({ s with vv := .slice (some ⟨ge, 0, none⟩) (s.vars.length + 1) ce, vars := s.vars ++ [b1.data.toList] } : DsM))) := hide ((unhide DE).below (drew_below _ _))
    have HRow : Hid ((WE.alloc (.cells #[.string op, .slice (some ⟨g, 2, none⟩) (n - 1) (cap - 1), .int .i64 (-1), .int .i64 (x0.place : Int)] 78)).drew.ownsRow B 78 4 (.slice sa s.steps.length sc) s.steps.length (dpC s.steps)) := hide (by have := ((unhide HD6).all ({ s with vv := .slice (some ⟨ge, 0, none⟩) (s.vars.length + 1) ce, vars := s.vars ++ [b1.data.toList] } : DsM) (List.mem_of_getElem? SKE)).steps; unfold SpR at this; rw [show ({ s with vv := .slice (some ⟨ge, 0, none⟩) (s.vars.length + 1) ce, vars := s.vars ++ [b1.data.toList] } : DsM).sv = .slice sa s.steps.length sc from hsv] at this; exact this)
    have HP6 : Hid (StpOk (WE.alloc (.cells #[.string op, .slice (some ⟨g, 2, none⟩) (n - 1) (cap - 1), .int .i64 (-1), .int .i64 (x0.place : Int)] 78)).drew B (⟨op.data.toList, .slice (some ⟨g, 2, none⟩) (n - 1) (cap - 1), .slice (some ⟨g, 0, none⟩) n cap, ms, 1, -1, x0.place⟩ : DpM)) := hide ⟨by rw [← hn]; exact (unhide HWE).below (drew_below _ _), ⟨g, cap, cap - 1, by rw [hn], congrArg (fun z => Value.slice (some ⟨g, 2, none⟩) z (cap - 1)) (show n - 1 = ms.length - 1 by rw [hn])⟩, by show 1 ≤ ms.length; omega, hok, by show ms.length ≤ 1500; omega⟩
    have hcs := StR.cell (unhide DE).row SKE 2 (by omega)
    have a0 : WE.cell? ⟨gs, k * 4 + 2, none⟩ = some (.slice sa s.steps.length sc) := by rw [hcs]; show some ({ s with vv := .slice (some ⟨ge, 0, none⟩) (s.vars.length + 1) ce, vars := s.vars ++ [b1.data.toList] } : DsM).sv = _; exact congrArg some hsv
    have a1 : (WE.alloc (.cells #[.string op, .slice (some ⟨g, 2, none⟩) (n - 1) (cap - 1), .int .i64 (-1), .int .i64 (x0.place : Int)] 78)).cell? ⟨gs, k * 4 + 2, none⟩ = some (.slice sa s.steps.length sc) := by
      exact (StR.cell (unhide HD6).row SKE 2 (by omega)).trans (congrArg some hsv)
    have be0 : WE.cell? ⟨w.heap.size + 1, 0, none⟩ = some (.string op) := cell_of_row _ _ 0 _ _ _ SE
    have be1 : WE.cell? ⟨w.heap.size + 1, 1, none⟩ = some (.slice (some ⟨g, 2, none⟩) (n - 1) (cap - 1)) := cell_of_row _ _ 1 _ _ _ SE
    have be2 : WE.cell? ⟨w.heap.size + 1, 2, none⟩ = some (.int .i64 (-1)) := cell_of_row _ _ 2 _ _ _ SE
    have be3 : WE.cell? ⟨w.heap.size + 1, 3, none⟩ = some (.int .i64 (x0.place : Int)) := cell_of_row _ _ 3 _ _ _ SE
    have HK6 : Hid (∀ w6, (WE.alloc (.cells #[.string op, .slice (some ⟨g, 2, none⟩) (n - 1) (cap - 1), .int .i64 (-1), .int .i64 (x0.place : Int)] 78)).drew.grownBy w6 (Value.slice sa s.steps.length sc).ownBlock → w6.cell? ⟨gs, k * 4 + 2, none⟩ = some (.slice sa s.steps.length sc) ∧ w6.frozen? ⟨gs, k * 4 + 2, none⟩ = false ∧ ∀ u, Aft w B (w6.setCell ⟨gs, k * 4 + 2, none⟩ u)) := hide (fun w6 hg => by
      have hb := hg.block gs (World.ownsRow.lt (unhide HD6).row gs rfl).2 (fun e => row_apart (unhide HRow) (unhide HD6).row (by decide) gs e.symm rfl)
      refine ⟨(World.cell?_of_block hb).trans a1, ?_, fun u => ((AE.alloc _).drew.grow hg (fun q hq => ⟨((unhide HSB) q hq).1, by have := ((unhide HSB) q hq).2.1; omega, ((unhide HSB) q hq).2.2⟩)).set (unhide HGS).1 (by have := (unhide HGS).2.1; omega) (unhide HGS).2.2 _⟩
      rw [World.frozen?_of_block hb]
      exact World.ownsRow.frozenAt (unhide HD6).row _)
    have hBW : B ≤ WE.heap.size + 1 := by have := AE.big; omega
    clear hcs
    go_upto_region 27 with fail
    go_region_law
      ((refine step_append_lies _ (by rfl) _ _ _ (by rfl) B 78 i0 _ 4 56 Tryz.underlying55 hi hj0 hj1 hj2 rfl (by decide) (.slice sa s.steps.length sc) s.steps.length (dpC s.steps) (by rfl) (by exact unhide HRow) ⟨WE.heap.size, 0, none⟩ 1 1 [.string op, .slice (some ⟨g, 2, none⟩) (n - 1) (cap - 1), .int .i64 (-1), .int .i64 (x0.place : Int)] (by rfl) (by rfl) (by exact World.news_of_block (cs := #[.string op, .slice (some ⟨g, 2, none⟩) (n - 1) (cap - 1), .int .i64 (-1), .int .i64 (x0.place : Int)]) (t := 78) (fr := (0, 0)) (new_drew _ _)) (one4 _ _ _ _ rfl rfl rfl rfl) (by omega) (by unfold maxLen; omega) (by omega) (by show B ≤ (WE.alloc _).heap.size; simpa using hBW) (WE.heap.size + 1) (by simp) ?_; intro gg cp1 w6 hown6 hgrow6 hlies hgl6; obtain ⟨kk1, kk2, kk3⟩ := unhide HK6 w6 hgrow6; have A6 := kk3 (.slice (some ⟨gg, 0, none⟩) (s.steps.length + 1) cp1); have A6' := A6.drew; have HA6 := hide hown6; clear hown6 kk3))
    all_goals
      try go_wp2_with (first
        | (go_at_call 15; refine (fine_any _).mono ?_; rintro ev w7 ⟨rfl, hb7⟩; have A7 : Aft w B w7 := Aft.below (by assumption) hb7; have q0 := cell_of_row _ _ 0 _ _ _ A7.blk; have q1 := cell_of_row _ _ 1 _ _ _ A7.blk; have z0 : ∀ i, w7.frozen? ⟨w.heap.size, i, none⟩ = false := (fun i => by simp [World.frozen?, A7.blk]); have HA7 := hide A7; clear A7))
      have hfin := (unhide HD6).add SKE (unhide HP6) (by rw [show DpM.cells (⟨op.data.toList, .slice (some ⟨g, 2, none⟩) (n - 1) (cap - 1), .slice (some ⟨g, 0, none⟩) n cap, ms, 1, -1, x0.place⟩ : DpM) = [.string op, .slice (some ⟨g, 2, none⟩) (n - 1) (cap - 1), .int .i64 (-1), .int .i64 (x0.place : Int)] by simp only [DpM.cells, bt_of]]; exact unhide HA6) (by show World.grownBy _ _ (Value.ownBlock ({ s with vv := .slice (some ⟨ge, 0, none⟩) (s.vars.length + 1) ce, vars := s.vars ++ [b1.data.toList] } : DsM).sv); rw [show ({ s with vv := .slice (some ⟨ge, 0, none⟩) (s.vars.length + 1) ce, vars := s.vars ++ [b1.data.toList] } : DsM).sv = .slice sa s.steps.length sc from hsv]; exact hgrow6) (by show Value.ownBlock ({ s with vv := .slice (some ⟨ge, 0, none⟩) (s.vars.length + 1) ce, vars := s.vars ++ [b1.data.toList] } : DsM).sv = _ ∨ _; rw [show ({ s with vv := .slice (some ⟨ge, 0, none⟩) (s.vars.length + 1) ce, vars := s.vars ++ [b1.data.toList] } : DsM).sv = .slice sa s.steps.length sc from hsv]; rcases hlies with h | h; exact .inl h; exact .inr (by rw [h]; show (WE.alloc _).heap.size ≤ _; simp))
      have hfin2 := (StD.below hfin (w' := w7) (by first | exact hb7 | exact below0 hb7)).keep27 (unhide HA7).blk (.int .i64 0) (.int .i64 (-1))
      exact end14 (v4 := .slice (some ⟨gs, 0, none⟩) (k + 1) cv) rfl rfl (set2 (unhide HA7).blk _ _) ⟨by rw [unhide HQ]; refine ⟨.slice (some ⟨gg, 0, none⟩) (s.steps.length + 1) cp1, .slice (some ⟨ge, 0, none⟩) (s.vars.length + 1) ce, .slice (some ⟨g, 2, none⟩) (n - 1) (cap - 1), rfl, ?_⟩; rw [List.length_set, hk, List.set_set] at hfin2; rw [if_pos (unhide HOP), unhide HT1]; exact hfin2, (unhide HA7).fr _ _⟩
end Go.Proofs.YtkikhmleffcajaaGreatDoor
