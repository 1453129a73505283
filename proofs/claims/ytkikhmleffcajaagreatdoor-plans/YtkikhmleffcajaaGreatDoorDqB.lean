import Derived.Test.YtkikhmleffcajaaGreatDoorJDcQ
namespace Go.Proofs.YtkikhmleffcajaaGreatDoor
open Go.RowKit Go.Maps
set_option maxHeartbeats 20000000 in
set_option maxRecDepth 10000 in
theorem from2 (v : Value) (ss : List DsM) (g cap : Nat) (x0 x1 : WdM) (B : Nat) (w : World) (hS : StD w B v ss) (hl : ss.length ≤ 5) (hvl : ∀ s ∈ ss, s.vars.length ≤ 1000) (hW : WsD w B (.slice (some ⟨g, 0, none⟩) 2 cap) [x0, x1]) (hok : ∀ m ∈ [x0, x1], AtOk m.xs ∧ m.xs.length ≤ 1500) (hBw : B ≤ w.heap.size) :
    Calls Tryz.prog 13 #[v, .slice (some ⟨g, 0, none⟩) 2 cap] w fun ev w' => FroD w' B ev ss (frmT ss 2 ((plainW x1.xs).getD []) [] [] x0.place x1.place 0 0) ∧ Fr5 B w w' := by
  obtain ⟨i0, hi, hj0, hj1, hj2⟩ := info_parts info56
  obtain ⟨av, nv, cv, hv⟩ := row_form hS.row
  subst hv
  obtain rfl : nv = ss.length := row_len hS.row
  have hlt := (World.ownsRow.lt hW.row g rfl).2
  have hr0 := hW.all x0 (by simp)
  have ho0 := hok x0 (by simp)
  have hr1 := hW.all x1 (by simp)
  have ho1 := hok x1 (by simp)
  have cl : ∀ j x d, [x0, x1][j]? = some x → d < 2 → w.cell? ⟨g, j * 2 + d, none⟩ = x.cellsD[d]? := fun j x d hj hd => by
    have hjl := (List.getElem?_eq_some_iff.1 hj).1
    rw [World.ownsRow.cellAt hW.row _ (by simp at hjl ⊢; omega), wdcD_at _ j x d hj hd]
  have m01 := cl 0 x0 1 rfl (by omega)
  have m10 := cl 1 x1 0 rfl (by omega)
  have m11 := cl 1 x1 1 rfl (by omega)
  obtain ⟨p0, v0, xs0⟩ := x0
  obtain ⟨p1, v1, xs1⟩ := x1
  obtain ⟨a0, n0, k0, hx0⟩ := row_form hr0
  simp only at hx0
  subst hx0
  obtain ⟨a1, n1, k1, hx1⟩ := row_form hr1
  simp only at hx1
  subst hx1
  have HKC : Hid (∀ wx, In13 w wx → wx.cell? ⟨g, 1, none⟩ = some (.int .i64 (p0 : Int)) ∧ wx.cell? ⟨g, 2, none⟩ = some (.slice a1 n1 k1) ∧ wx.cell? ⟨g, 3, none⟩ = some (.int .i64 (p1 : Int))) := hide (fun wx h => by
    have e := fun i => World.cell?_of_block (a := ⟨g, i, none⟩) (h.bel.block g hlt)
    exact ⟨(e 1).trans m01, (e 2).trans m10, (e 3).trans m11⟩)
  have HSD : Hid (∀ wx, In13 w wx → StD wx B (.slice av ss.length cv) ss) := hide (fun wx h => hS.below h.bel)
  have HSt : Hid (∀ wx, In13 w wx → StR wx B (.slice av ss.length cv) ss) := hide (fun wx h => (hS.below h.bel).row)
  have HOB := hide (own3 hS.row (by decide))
  have HVL := hide hvl
  have HS0 := hide hS
  obtain ⟨i9, hi9, hy90, hy91, hy92⟩ := info_parts info9
  obtain ⟨b1, hb1⟩ : ∃ b, bt ((plainW xs1).getD []) = b := ⟨_, rfl⟩
  have ht1 : (plainW xs1).getD [] = b1.data.toList := by rw [← hb1, bt_list]
  have hz1 : b1.size ≤ 1500 := by rw [← hb1, bt_size]; exact Nat.le_trans (plainW_getD xs1) ho1.2
  have hP1 : ∀ wx, In13 w wx → Calls Tryz.prog 11 #[.agg #[.slice a1 n1 k1, .int .i64 (p1 : Int)]] wx (fun ev w' => ev = .returned (.tuple #[.string b1, .bool (plainW xs1).isSome]) ∧ Below wx.heap.size wx w') := fun wx h => by
    have := plain_doc (.slice a1 n1 k1) xs1 p1 B wx (row_same hr1 fun q hq => h.bel.block q (World.ownsRow.lt hr1 q hq).2) ho1.1 ho1.2
    rwa [hb1] at this
  obtain ⟨o1, ho1'⟩ : ∃ o, (plainW xs1).isSome = o := ⟨_, rfl⟩
  rw [ho1'] at hP1
  simp only [ht1]
  clear hS hW hlt cl hvl hok m01 m10 m11 hr0 ho0 hr1 ho1 hb1 ht1 ho1'
  obtain ⟨W0, hW0⟩ : ∃ W0, W0 = w.alloc (.cells #[.int .i64 0, .int .i64 0] 28) := ⟨_, rfl⟩
  have I0 : In13 w W0 := by rw [hW0]; exact In13.start w
  obtain ⟨c01_w, c10_w, c11_w⟩ := unhide HKC W0 I0
  have hF : frmT ss 2 b1.data.toList [] [] p0 p1 0 0 = if stageNm b1.data.toList = false then .error (5, p1) else if callD ss b1.data.toList < 0 ∧ b1.data.toList ≠ wScratch then .error (6, p1) else if 2 = 4 ∧ (([] : List UInt8) = wScratch ∨ 0 ≤ callD ss []) then .error (6, 0) else if ss.length = 5 then .error (10, p0) else .ok ([], callD ss b1.data.toList) := by
    unfold frmT
    rw [if_neg (by rintro ⟨h, _⟩; omega), if_neg (by decide), if_neg (by rintro ⟨h, _⟩; exact absurd h (by decide))]
    rfl
  have hC1 := fun wx h => called_doc (.slice av ss.length cv) ss b1 B wx h (by omega)
  cases hs1 : stageNm b1.data.toList with
  | false =>
    have HQ : Hid (frmT ss 2 b1.data.toList [] [] p0 p1 0 0 = .error (5, p1)) := hide (by rw [hF, if_pos hs1])
    have hN1 := fun wx => stageName_doc b1 wx hz1
    rw [hs1] at hN1
    clear hF hs1
    go_enter Tryz.func13, Tryz.ntmps13
    go_upto_region 1 with fail
    rw [← hW0]
    clear hW0
    go_wp2_with (first
      | (go_at_call 11; refine (hP1 _ (by assumption)).mono ?_; clear hP1; rintro ev wa1 ⟨rfl, hba1⟩; have I1 : In13 w wa1 := In13.below (by assumption) hba1; obtain ⟨c01_1, c10_1, c11_1⟩ := unhide HKC wa1 I1)
      | (go_at_call 24; refine (hN1 _).mono ?_; clear hN1; rintro ev wn1 ⟨rfl, hwn1⟩; obtain rfl := hwn1.symm)
      | (go_at_call 25; refine (hC1 _ (unhide HSt _ (by assumption))).mono ?_; clear hC1; rintro ev wc1 ⟨rfl, hwc1⟩; obtain rfl := hwc1.symm)
      | (go_at_call 9; refine (bad_any _ _ _).mono ?_; rintro ev wE ⟨rfl, hbE⟩; have IE : In13 w wE := In13.below (by assumption) hbE; have q0 := cell_of_row _ _ 0 _ _ _ IE.blk; have q1 := cell_of_row _ _ 1 _ _ _ IE.blk; have z0 : ∀ i, wE.frozen? ⟨w.heap.size, i, none⟩ = false := (fun i => by simp [World.frozen?, IE.blk]); have HIE := hide IE; clear IE))
    exact end13 rfl rfl (set2 (unhide HIE).blk _ _) ⟨by rw [unhide HQ]; exact ⟨by decide, rfl⟩, (unhide HIE).fr hBw _ _⟩
  | true =>
  rw [if_neg (by rw [hs1]; decide)] at hF
  have hN1 := fun wx => stageName_doc b1 wx hz1
  rw [hs1] at hN1
  clear hs1
  obtain ⟨y1, hy1⟩ : ∃ y, callD ss b1.data.toList = y := ⟨_, rfl⟩
  have hrng := callD_rng ss b1.data.toList
  rw [hy1] at hF hrng hC1
  by_cases hbad : y1 < 0 ∧ b1.data.toList ≠ wScratch
  · obtain ⟨gk, hb⟩ := hbad
    have HQ : Hid (frmT ss 2 b1.data.toList [] [] p0 p1 0 0 = .error (6, p1)) := hide (by rw [hF, if_pos ⟨gk, hb⟩])
    have gs : (b1.toList == [115, 99, 114, 97, 116, 99, 104]) = false := by rw [ByteArray.toList_eq]; simpa using hb
    clear hF hb hy1
    go_enter Tryz.func13, Tryz.ntmps13
    go_upto_region 1 with fail
    rw [← hW0]
    clear hW0
    go_wp2_with (first
      | (go_at_call 11; refine (hP1 _ (by assumption)).mono ?_; clear hP1; rintro ev wa1 ⟨rfl, hba1⟩; have I1 : In13 w wa1 := In13.below (by assumption) hba1; obtain ⟨c01_1, c10_1, c11_1⟩ := unhide HKC wa1 I1)
      | (go_at_call 24; refine (hN1 _).mono ?_; clear hN1; rintro ev wn1 ⟨rfl, hwn1⟩; obtain rfl := hwn1.symm)
      | (go_at_call 25; refine (hC1 _ (unhide HSt _ (by assumption))).mono ?_; clear hC1; rintro ev wc1 ⟨rfl, hwc1⟩; obtain rfl := hwc1.symm)
      | (go_at_call 9; refine (bad_any _ _ _).mono ?_; rintro ev wE ⟨rfl, hbE⟩; have IE : In13 w wE := In13.below (by assumption) hbE; have q0 := cell_of_row _ _ 0 _ _ _ IE.blk; have q1 := cell_of_row _ _ 1 _ _ _ IE.blk; have z0 : ∀ i, wE.frozen? ⟨w.heap.size, i, none⟩ = false := (fun i => by simp [World.frozen?, IE.blk]); have HIE := hide IE; clear IE))
    exact end13 rfl rfl (set2 (unhide HIE).blk _ _) ⟨by rw [unhide HQ]; exact ⟨by decide, rfl⟩, (unhide HIE).fr hBw _ _⟩
  rw [if_neg hbad] at hF
  have gs : y1 < 0 → (b1.toList == [115, 99, 114, 97, 116, 99, 104]) = true := fun h => by
    rw [ByteArray.toList_eq]
    have : b1.data.toList = wScratch := Decidable.byContradiction fun e => hbad ⟨h, e⟩
    rw [this]; rfl
  clear hbad
  rw [if_neg (by rintro ⟨h, _⟩; exact absurd h (by decide))] at hF
  by_cases h5 : ss.length = 5
  · have HQ : Hid (frmT ss 2 b1.data.toList [] [] p0 p1 0 0 = .error (10, p0)) := hide (by rw [hF, if_pos h5])
    have g5 : ((ss.length : Int) == 5) = true := by simp; omega
    clear hF hy1 h5
    by_cases gk : y1 < 0
    · replace gs := gs gk
      go_enter Tryz.func13, Tryz.ntmps13
      go_upto_region 1 with fail
      rw [← hW0]
      clear hW0
      go_wp2_with (first
        | (go_at_call 11; refine (hP1 _ (by assumption)).mono ?_; clear hP1; rintro ev wa1 ⟨rfl, hba1⟩; have I1 : In13 w wa1 := In13.below (by assumption) hba1; obtain ⟨c01_1, c10_1, c11_1⟩ := unhide HKC wa1 I1)
        | (go_at_call 24; refine (hN1 _).mono ?_; clear hN1; rintro ev wn1 ⟨rfl, hwn1⟩; obtain rfl := hwn1.symm)
        | (go_at_call 25; refine (hC1 _ (unhide HSt _ (by assumption))).mono ?_; clear hC1; rintro ev wc1 ⟨rfl, hwc1⟩; obtain rfl := hwc1.symm)
        | (go_at_call 9; refine (bad_any _ _ _).mono ?_; rintro ev wE ⟨rfl, hbE⟩; have IE : In13 w wE := In13.below (by assumption) hbE; have q0 := cell_of_row _ _ 0 _ _ _ IE.blk; have q1 := cell_of_row _ _ 1 _ _ _ IE.blk; have z0 : ∀ i, wE.frozen? ⟨w.heap.size, i, none⟩ = false := (fun i => by simp [World.frozen?, IE.blk]); have HIE := hide IE; clear IE))
      exact end13 rfl rfl (set2 (unhide HIE).blk _ _) ⟨by rw [unhide HQ]; exact ⟨by decide, rfl⟩, (unhide HIE).fr hBw _ _⟩
    · clear gs
      go_enter Tryz.func13, Tryz.ntmps13
      go_upto_region 1 with fail
      rw [← hW0]
      clear hW0
      go_wp2_with (first
        | (go_at_call 11; refine (hP1 _ (by assumption)).mono ?_; clear hP1; rintro ev wa1 ⟨rfl, hba1⟩; have I1 : In13 w wa1 := In13.below (by assumption) hba1; obtain ⟨c01_1, c10_1, c11_1⟩ := unhide HKC wa1 I1)
        | (go_at_call 24; refine (hN1 _).mono ?_; clear hN1; rintro ev wn1 ⟨rfl, hwn1⟩; obtain rfl := hwn1.symm)
        | (go_at_call 25; refine (hC1 _ (unhide HSt _ (by assumption))).mono ?_; clear hC1; rintro ev wc1 ⟨rfl, hwc1⟩; obtain rfl := hwc1.symm)
        | (go_at_call 9; refine (bad_any _ _ _).mono ?_; rintro ev wE ⟨rfl, hbE⟩; have IE : In13 w wE := In13.below (by assumption) hbE; have q0 := cell_of_row _ _ 0 _ _ _ IE.blk; have q1 := cell_of_row _ _ 1 _ _ _ IE.blk; have z0 : ∀ i, wE.frozen? ⟨w.heap.size, i, none⟩ = false := (fun i => by simp [World.frozen?, IE.blk]); have HIE := hide IE; clear IE))
      exact end13 rfl rfl (set2 (unhide HIE).blk _ _) ⟨by rw [unhide HQ]; exact ⟨by decide, rfl⟩, (unhide HIE).fr hBw _ _⟩
  rw [if_neg h5] at hF
  have g5 : ((ss.length : Int) == 5) = false := by simp; omega
  clear h5
  by_cases gk : y1 < 0
  · replace gs := gs gk
    have gk' : ¬ 0 ≤ y1 := by omega
    have HQ : Hid (frmT ss 2 b1.data.toList [] [] p0 p1 0 0 = .ok ([], y1)) := hide hF
    have hvd : Hid (varsD ss y1 = []) := hide (by unfold varsD; rw [if_pos gk])
    have hnm : Hid ((⟨#[]⟩ : ByteArray) = bt []) := hide (rfl)
    clear hF hy1
    go_enter Tryz.func13, Tryz.ntmps13
    go_upto_region 1 with fail
    rw [← hW0]
    clear hW0
    go_upto_region 25 with (first
      | (go_at_call 11; refine (hP1 _ (by assumption)).mono ?_; clear hP1; rintro ev wa1 ⟨rfl, hba1⟩; have I1 : In13 w wa1 := In13.below (by assumption) hba1; obtain ⟨c01_1, c10_1, c11_1⟩ := unhide HKC wa1 I1)
      | (go_at_call 24; refine (hN1 _).mono ?_; clear hN1; rintro ev wn1 ⟨rfl, hwn1⟩; obtain rfl := hwn1.symm)
      | (go_at_call 25; refine (hC1 _ (unhide HSt _ (by assumption))).mono ?_; clear hC1; rintro ev wc1 ⟨rfl, hwc1⟩; obtain rfl := hwc1.symm))
    obtain ⟨W1, hW1⟩ : ∃ W1, W1 = wa1.alloc (.cells #[.string ⟨#[]⟩, .int .i64 y1, .slice none 0 0, .slice none 0 0] 58) := ⟨_, rfl⟩
    have J1 : In13 w W1 := by rw [hW1]; exact I1.alloc _
    have s0 : W1.heap[wa1.heap.size]? = some (.cells #[.string ⟨#[]⟩, .int .i64 y1, .slice none 0 0, .slice none 0 0] 58 (0, 0)) := by rw [hW1]; exact heap_alloc_new _ _
    rw [← hW1]
    clear hW1
    have u0 := cell_of_row _ _ 0 _ _ _ s0
    have u1 := cell_of_row _ _ 1 _ _ _ s0
    have u2 := cell_of_row _ _ 2 _ _ _ s0
    have u3 := cell_of_row _ _ 3 _ _ _ s0
    have J2 : Hid (In13 w (W1.alloc (.cells #[.string ⟨#[]⟩, .int .i64 y1, .slice none 0 0, .slice none 0 0] 58))) := hide (J1.alloc _)
    have HD : Hid (StD (W1.alloc (.cells #[.string ⟨#[]⟩, .int .i64 y1, .slice none 0 0, .slice none 0 0] 58)) B (.slice av ss.length cv) ss) := hide (unhide HSD _ (unhide J2))
    have HRow := hide (unhide HD).row
    clear s0
    go_wp2_with (first
      | (at_builtin; refine wpList_append_lies _ rfl _ _ 26 rfl B 58 i0 _ 4 72 Tryz.underlying26 hi hj0 hj1 hj2 rfl (by decide) _ ss.length (dsC ss) rfl (unhide HRow) ⟨W1.heap.size, 0, none⟩ 1 1 [.string ⟨#[]⟩, .int .i64 y1, .slice none 0 0, .slice none 0 0] rfl rfl (by exact World.news_of_block (cs := #[.string ⟨#[]⟩, .int .i64 y1, .slice none 0 0, .slice none 0 0]) (t := 58) (fr := (0, 0)) (heap_alloc_new _ _)) (by intro u hu; simp at hu; rcases hu with rfl | rfl | rfl | rfl <;> rfl) (by omega) (by unfold maxLen; omega) (by omega) (by exact Nat.le_trans hBw (Nat.le_of_succ_le (unhide J2).big)) _ rfl ?_; intro gg cp1 w6 hown6 hgrow6 hlies hgl6; have A6 : Hid (Aft w B w6) := hide ((unhide J2).grow hgrow6 hBw (unhide HOB)); have HA6 := hide hown6; clear hown6)
      | (go_at_call 15; refine (fine_any _).mono ?_; rintro ev w7 ⟨rfl, hb7⟩; have A7 : Aft w B w7 := (unhide A6).below hb7; have q0 := cell_of_row _ _ 0 _ _ _ A7.blk; have q1 := cell_of_row _ _ 1 _ _ _ A7.blk; have z0 : ∀ i, w7.frozen? ⟨w.heap.size, i, none⟩ = false := (fun i => by simp [World.frozen?, A7.blk]); have HA7 := hide A7; clear A7))
    exact end13 (v4 := .slice (some ⟨gg, 0, none⟩) (ss.length + 1) cp1) rfl rfl (set2 (unhide HA7).blk _ _) ⟨by rw [unhide HQ]; refine ⟨_, .slice none 0 0, rfl, ?_⟩; rw [unhide hvd]; exact (((unhide HD).snoc (s := ⟨[], y1, .slice none 0 0, [], .slice none 0 0, []⟩) (StgOk.fresh _ _ _ _) rfl (fun q hq => by cases hq) (by rw [show DsM.cells ⟨[], y1, .slice none 0 0, [], .slice none 0 0, []⟩ = [.string ⟨#[]⟩, .int .i64 y1, .slice none 0 0, .slice none 0 0] by simp only [DsM.cells, ← unhide hnm]]; exact unhide HA6) hgrow6).below hb7).keep27 (unhide HA7).blk _ _, (unhide HA7).fr _ _⟩
  clear gs
  have gk' : 0 ≤ y1 := by omega
  obtain ⟨j, rfl⟩ : ∃ j : Nat, y1 = (j : Int) := ⟨y1.toNat, by omega⟩
  have hjl : j < ss.length := by omega
  obtain ⟨sk, hsk⟩ : ∃ s, ss[j]? = some s := ⟨_, List.getElem?_eq_getElem hjl⟩
  have hskm := List.mem_of_getElem? hsk
  have hvd : Hid (varsD ss (j : Int) = sk.vars) := hide (by unfold varsD; rw [if_neg (by omega)]; simp [hsk])
  have HQ : Hid (frmT ss 2 b1.data.toList [] [] p0 p1 0 0 = .ok ([], (j : Int))) := hide hF
  have hnm : Hid ((⟨#[]⟩ : ByteArray) = bt []) := hide (rfl)
  have hvk := unhide HVL sk hskm
  obtain ⟨gs, cs, hgs, _, _⟩ := World.ownsRow.form (unhide HSt W0 I0) (by omega)
  injection hgs with e1 _ e3
  subst e1 e3
  have HC5 : Hid (∀ wx, In13 w wx → wx.cell? ⟨gs, j * 4 + 3, none⟩ = some sk.vv) := hide (fun wx h => StR.cell (unhide HSt wx h) hsk 3 (by omega))
  have HV : Hid (∀ wx, In13 w wx → NmR wx B sk.vv sk.vars) := hide (fun wx h => ((unhide HSD wx h).all sk hskm).vars)
  have HVB : Hid (∀ q, w.heap.size ≤ q → ∀ t ∈ ss, t.vv.ownBlock ≠ some q) := hide (fun q hq t ht e => by
    have := (World.ownsRow.lt ((unhide HS0).all t ht).vars q e).2; omega)
  have hnil := ((unhide HS0).all sk hskm).nil
  clear hF hy1
  rcases Nat.eq_zero_or_pos sk.vars.length with hv0 | hv0
  · have hvn : sk.vars = [] := List.eq_nil_of_length_eq_zero hv0
    have hvv : sk.vv = .slice none 0 0 := hnil hvn
    rw [hvn] at hvd
    rw [hvv] at HC5
    clear HV hnil hvn hvv hv0 hvk
    go_enter Tryz.func13, Tryz.ntmps13
    go_upto_region 1 with fail
    rw [← hW0]
    clear hW0
    go_upto_region 25 with (first
      | (go_at_call 11; refine (hP1 _ (by assumption)).mono ?_; clear hP1; rintro ev wa1 ⟨rfl, hba1⟩; have I1 : In13 w wa1 := In13.below (by assumption) hba1; obtain ⟨c01_1, c10_1, c11_1⟩ := unhide HKC wa1 I1)
      | (go_at_call 24; refine (hN1 _).mono ?_; clear hN1; rintro ev wn1 ⟨rfl, hwn1⟩; obtain rfl := hwn1.symm)
      | (go_at_call 25; refine (hC1 _ (unhide HSt _ (by assumption))).mono ?_; clear hC1; rintro ev wc1 ⟨rfl, hwc1⟩; obtain rfl := hwc1.symm))
    obtain ⟨W1, hW1⟩ : ∃ W1, W1 = wa1.alloc (.cells #[.string ⟨#[]⟩, .int .i64 (j : Int), .slice none 0 0, .slice none 0 0] 58) := ⟨_, rfl⟩
    have J1 : In13 w W1 := by rw [hW1]; exact I1.alloc _
    have s0 : W1.heap[wa1.heap.size]? = some (.cells #[.string ⟨#[]⟩, .int .i64 (j : Int), .slice none 0 0, .slice none 0 0] 58 (0, 0)) := by rw [hW1]; exact heap_alloc_new _ _
    have hlt1 : wa1.heap.size < W1.heap.size := by rw [hW1]; simp
    have hwa : w.heap.size + 1 ≤ wa1.heap.size := I1.big
    rw [← hW1]
    clear hW1
    have u3 := cell_of_row _ _ 3 _ _ _ s0
    have uz : ∀ i, W1.frozen? ⟨wa1.heap.size, i, none⟩ = false := (fun i => by simp [World.frozen?, s0])
    have v3 := unhide HC5 W1 J1
    have HS1 := hide s0
    clear s0
    go_upto_region 26 with fail
    go_region_law
      ((refine step_append_none (by rfl) _ _ _ (by rfl) B 9 i9 1 Tryz.underlying56 hi9 (.slice none 0 0) 0 [] (by rfl) (by exact World.ownsRow_nil _ _ _ _) (by rfl) ?_))
    all_goals
      try go_upto_region 27 with fail
      generalize hW2 : World.drew (World.setCell _ (⟨wa1.heap.size, 3, none⟩ : Addr) _) = W2
      have J2' : In13 w W2 := by rw [← hW2]; first | exact J1.set (by omega) _ | exact J1.drew.set (by omega) _ | exact (J1.set (by omega) _).drew | exact (J1.drew.set (by omega) _).drew
      have s2 : W2.heap[wa1.heap.size]? = some (.cells #[.string ⟨#[]⟩, .int .i64 (j : Int), .slice none 0 0, .slice none 0 0] 58 (0, 0)) := by rw [← hW2]; exact heap_setCell_same _ _ 3 _ _ _ (unhide HS1)
      clear hW2 u3 uz v3 J1 HS1
      have u0 := cell_of_row _ _ 0 _ _ _ s2
      have u1 := cell_of_row _ _ 1 _ _ _ s2
      have u2 := cell_of_row _ _ 2 _ _ _ s2
      have u3 := cell_of_row _ _ 3 _ _ _ s2
      have J2 : Hid (In13 w (W2.alloc (.cells #[.string ⟨#[]⟩, .int .i64 (j : Int), .slice none 0 0, .slice none 0 0] 58))) := hide (J2'.alloc _)
      have HD : Hid (StD (W2.alloc (.cells #[.string ⟨#[]⟩, .int .i64 (j : Int), .slice none 0 0, .slice none 0 0] 58)) B (.slice (some ⟨gs, 0, none⟩) ss.length cv) ss) := hide (unhide HSD _ (unhide J2))
      have HRow := hide (unhide HD).row
      clear s2
      go_wp2_with (first
        | (at_builtin; refine wpList_append_lies _ rfl _ _ 26 rfl B 58 i0 _ 4 72 Tryz.underlying26 hi hj0 hj1 hj2 rfl (by decide) _ ss.length (dsC ss) rfl (unhide HRow) ⟨W2.heap.size, 0, none⟩ 1 1 [.string ⟨#[]⟩, .int .i64 (j : Int), .slice none 0 0, .slice none 0 0] rfl rfl (by exact World.news_of_block (cs := #[.string ⟨#[]⟩, .int .i64 (j : Int), .slice none 0 0, .slice none 0 0]) (t := 58) (fr := (0, 0)) (heap_alloc_new _ _)) (by intro u hu; simp at hu; rcases hu with rfl | rfl | rfl | rfl <;> rfl) (by omega) (by unfold maxLen; omega) (by omega) (by exact Nat.le_trans hBw (Nat.le_of_succ_le (unhide J2).big)) _ rfl ?_; intro g7 cp1 w6 hown6 hgrow6 hlies hgl6; have A6 : Hid (Aft w B w6) := hide ((unhide J2).grow hgrow6 hBw (unhide HOB)); have HA6 := hide hown6; clear hown6)
        | (go_at_call 15; refine (fine_any _).mono ?_; rintro ev w7 ⟨rfl, hb7⟩; have A7 : Aft w B w7 := (unhide A6).below hb7; have q0 := cell_of_row _ _ 0 _ _ _ A7.blk; have q1 := cell_of_row _ _ 1 _ _ _ A7.blk; have z0 : ∀ i, w7.frozen? ⟨w.heap.size, i, none⟩ = false := (fun i => by simp [World.frozen?, A7.blk]); have HA7 := hide A7; clear A7))
      exact end13 (v4 := .slice (some ⟨g7, 0, none⟩) (ss.length + 1) cp1) rfl rfl (set2 (unhide HA7).blk _ _) ⟨by rw [unhide HQ]; refine ⟨_, .slice none 0 0, rfl, ?_⟩; rw [unhide hvd]; exact (((unhide HD).snoc (s := ⟨[], (j : Int), .slice none 0 0, [], .slice none 0 0, []⟩) (StgOk.fresh _ _ _ _) rfl (fun q hq => by cases hq) (by rw [show DsM.cells ⟨[], (j : Int), .slice none 0 0, [], .slice none 0 0, []⟩ = [.string ⟨#[]⟩, .int .i64 (j : Int), .slice none 0 0, .slice none 0 0] by simp only [DsM.cells, ← unhide hnm]]; exact unhide HA6) hgrow6).below hb7).keep27 (unhide HA7).blk _ _, (unhide HA7).fr _ _⟩
  · obtain ⟨gv, cvv, hvv, _, _⟩ := World.ownsRow.form (unhide HV W0 I0) hv0
    rw [hvv] at HC5 HV
    clear hnil
    go_enter Tryz.func13, Tryz.ntmps13
    go_upto_region 1 with fail
    rw [← hW0]
    clear hW0
    go_upto_region 25 with (first
      | (go_at_call 11; refine (hP1 _ (by assumption)).mono ?_; clear hP1; rintro ev wa1 ⟨rfl, hba1⟩; have I1 : In13 w wa1 := In13.below (by assumption) hba1; obtain ⟨c01_1, c10_1, c11_1⟩ := unhide HKC wa1 I1)
      | (go_at_call 24; refine (hN1 _).mono ?_; clear hN1; rintro ev wn1 ⟨rfl, hwn1⟩; obtain rfl := hwn1.symm)
      | (go_at_call 25; refine (hC1 _ (unhide HSt _ (by assumption))).mono ?_; clear hC1; rintro ev wc1 ⟨rfl, hwc1⟩; obtain rfl := hwc1.symm))
    obtain ⟨W1, hW1⟩ : ∃ W1, W1 = wa1.alloc (.cells #[.string ⟨#[]⟩, .int .i64 (j : Int), .slice none 0 0, .slice none 0 0] 58) := ⟨_, rfl⟩
    have J1 : In13 w W1 := by rw [hW1]; exact I1.alloc _
    have s0 : W1.heap[wa1.heap.size]? = some (.cells #[.string ⟨#[]⟩, .int .i64 (j : Int), .slice none 0 0, .slice none 0 0] 58 (0, 0)) := by rw [hW1]; exact heap_alloc_new _ _
    have hlt1 : wa1.heap.size < W1.heap.size := by rw [hW1]; simp
    have hwa : w.heap.size + 1 ≤ wa1.heap.size := I1.big
    rw [← hW1]
    clear hW1
    have u3 := cell_of_row _ _ 3 _ _ _ s0
    have uz : ∀ i, W1.frozen? ⟨wa1.heap.size, i, none⟩ = false := (fun i => by simp [World.frozen?, s0])
    have v3 := unhide HC5 W1 J1
    have HS1 := hide s0
    clear s0
    go_upto_region 26 with fail
    have HRV := hide (unhide HV W1 J1)
    go_region_law
      ((refine step_append_lies _ (by rfl) _ _ _ (by rfl) w.heap.size 9 i9 _ 1 16 Tryz.underlying56 hi9 hy90 hy91 hy92 rfl (by decide) (.slice none 0 0) 0 [] (by rfl) (by exact World.ownsRow_nil _ _ _ _) ⟨gv, 0, none⟩ sk.vars.length cvv (sk.vars.map fun n => .string (bt n)) (by rfl) (by simp) (by exact World.ownsRow.cells (unhide HRV) (g := gv) rfl) (by intro u hu; obtain ⟨x, _, rfl⟩ := List.mem_map.1 hu; rfl) hv0 (by unfold maxLen; omega) (by omega) (by show w.heap.size ≤ W1.heap.size; omega) W1.heap.size (by rfl) ?_; intro g6 cp6 w6 hown6 hgrow6 hlies hgl6; rw [Nat.zero_add] at hown6 ⊢; rw [List.nil_append] at hown6; have k3 : w6.cell? ⟨wa1.heap.size, 3, none⟩ = some (.slice none 0 0) := (World.cell?_of_block (hgrow6.block wa1.heap.size hlt1 (by simp [Value.ownBlock]))).trans u3; have kz : ∀ i, w6.frozen? ⟨wa1.heap.size, i, none⟩ = false := (fun i => (World.frozen?_of_block (hgrow6.block wa1.heap.size hlt1 (by simp [Value.ownBlock]))).trans (uz i)); have HA6 := hide hown6; clear hown6))
    all_goals
      try go_upto_region 27 with fail
      have J6 : In13 w w6 := by first | exact J1.grow0 hgrow6 | exact J1.drew.grow0 hgrow6
      have s6 : w6.heap[wa1.heap.size]? = some (.cells #[.string ⟨#[]⟩, .int .i64 (j : Int), .slice none 0 0, .slice none 0 0] 58 (0, 0)) := (hgrow6.block wa1.heap.size hlt1 (by simp [Value.ownBlock])).trans (unhide HS1)
      generalize hW2 : World.setCell _ (⟨wa1.heap.size, 3, none⟩ : Addr) _ = W2
      have J2' : In13 w W2 := by rw [← hW2]; first | exact J6.set (by omega) _ | exact J6.drew.set (by omega) _ | exact (J6.set (by omega) _).drew
      have s2 : W2.heap[wa1.heap.size]? = some (.cells #[.string ⟨#[]⟩, .int .i64 (j : Int), .slice none 0 0, .slice (some ⟨g6, 0, none⟩) sk.vars.length cp6] 58 (0, 0)) := by rw [← hW2]; exact heap_setCell_same _ _ 3 _ _ _ s6
      have hg6 : g6 ≠ wa1.heap.size := by rcases hlies with h | h; cases h; omega
      have HN2 : Hid (w.heap.size ≤ g6 ∧ NmR W2 w.heap.size (.slice (some ⟨g6, 0, none⟩) sk.vars.length cp6) sk.vars) := hide ⟨(World.ownsRow.lt (unhide HA6) g6 rfl).1, by
        have := row_same (w' := W2) (unhide HA6) (fun q hq => by
          have e : g6 = q := by simpa [Value.ownBlock] using hq
          subst e; rw [← hW2]; exact Below.heap_setCell _ _ _ _ hg6)
        show World.ownsRow _ _ _ _ _ _ _
        exact this⟩
      clear hW2 u3 uz v3 J1 HS1 hgrow6 hlies hgl6 k3 kz s6 J6 HA6 HRV hg6
      have u0 := cell_of_row _ _ 0 _ _ _ s2
      have u1 := cell_of_row _ _ 1 _ _ _ s2
      have u2 := cell_of_row _ _ 2 _ _ _ s2
      have u3 := cell_of_row _ _ 3 _ _ _ s2
      have J2 : Hid (In13 w (W2.alloc (.cells #[.string ⟨#[]⟩, .int .i64 (j : Int), .slice none 0 0, .slice (some ⟨g6, 0, none⟩) sk.vars.length cp6] 58))) := hide (J2'.alloc _)
      have HD : Hid (StD (W2.alloc (.cells #[.string ⟨#[]⟩, .int .i64 (j : Int), .slice none 0 0, .slice (some ⟨g6, 0, none⟩) sk.vars.length cp6] 58)) B (.slice (some ⟨gs, 0, none⟩) ss.length cv) ss) := hide (unhide HSD _ (unhide J2))
      have HRow := hide (unhide HD).row
      clear s2
      go_wp2_with (first
        | (at_builtin; refine wpList_append_lies _ rfl _ _ 26 rfl B 58 i0 _ 4 72 Tryz.underlying26 hi hj0 hj1 hj2 rfl (by decide) _ ss.length (dsC ss) rfl (unhide HRow) ⟨W2.heap.size, 0, none⟩ 1 1 [.string ⟨#[]⟩, .int .i64 (j : Int), .slice none 0 0, .slice (some ⟨g6, 0, none⟩) sk.vars.length cp6] rfl rfl (by exact World.news_of_block (cs := #[.string ⟨#[]⟩, .int .i64 (j : Int), .slice none 0 0, .slice (some ⟨g6, 0, none⟩) sk.vars.length cp6]) (t := 58) (fr := (0, 0)) (heap_alloc_new _ _)) (by intro u hu; simp at hu; rcases hu with rfl | rfl | rfl | rfl <;> rfl) (by omega) (by unfold maxLen; omega) (by omega) (by exact Nat.le_trans hBw (Nat.le_of_succ_le (unhide J2).big)) _ rfl ?_; intro g7 cp1 w6 hown6 hgrow6 hlies hgl6; have A6 : Hid (Aft w B w6) := hide ((unhide J2).grow hgrow6 hBw (unhide HOB)); have HA6 := hide hown6; clear hown6)
        | (go_at_call 15; refine (fine_any _).mono ?_; rintro ev w7 ⟨rfl, hb7⟩; have A7 : Aft w B w7 := (unhide A6).below hb7; have q0 := cell_of_row _ _ 0 _ _ _ A7.blk; have q1 := cell_of_row _ _ 1 _ _ _ A7.blk; have z0 : ∀ i, w7.frozen? ⟨w.heap.size, i, none⟩ = false := (fun i => by simp [World.frozen?, A7.blk]); have HA7 := hide A7; clear A7))
      exact end13 (v4 := .slice (some ⟨g7, 0, none⟩) (ss.length + 1) cp1) rfl rfl (set2 (unhide HA7).blk _ _) ⟨by rw [unhide HQ]; refine ⟨_, .slice (some ⟨g6, 0, none⟩) sk.vars.length cp6, rfl, ?_⟩; rw [unhide hvd]; exact (((unhide HD).snoc (s := ⟨[], (j : Int), .slice none 0 0, [], .slice (some ⟨g6, 0, none⟩) sk.vars.length cp6, sk.vars⟩) ⟨World.ownsRow_nil _ _ _ _, row_base (row_same (unhide HN2).2 fun q hq => Below.heap_alloc _ _ _ (World.ownsRow.lt (unhide HN2).2 q hq).2) hBw, fun e => by rw [e] at hv0; exact absurd hv0 (by decide), fun p hp => by simp at hp⟩ rfl (fun q hq t ht => unhide HVB q (by have e : g6 = q := by { simpa [Value.ownBlock] using hq }; have := (unhide HN2).1; omega) t ht) (by rw [show DsM.cells ⟨[], (j : Int), .slice none 0 0, [], .slice (some ⟨g6, 0, none⟩) sk.vars.length cp6, sk.vars⟩ = [.string ⟨#[]⟩, .int .i64 (j : Int), .slice none 0 0, .slice (some ⟨g6, 0, none⟩) sk.vars.length cp6] by simp only [DsM.cells, ← unhide hnm]]; exact unhide HA6) hgrow6).below hb7).keep27 (unhide HA7).blk _ _, (unhide HA7).fr _ _⟩
end Go.Proofs.YtkikhmleffcajaaGreatDoor
