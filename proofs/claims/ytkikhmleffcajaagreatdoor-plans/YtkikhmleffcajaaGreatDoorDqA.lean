import Derived.Test.YtkikhmleffcajaaGreatDoorJDcQ
namespace Go.Proofs.YtkikhmleffcajaaGreatDoor
open Go.RowKit Go.Maps
set_option maxHeartbeats 20000000 in
set_option maxRecDepth 10000 in
theorem from3 (v : Value) (ss : List DsM) (g cap : Nat) (x0 x1 x2 : WdM) (B : Nat) (w : World) (hS : StD w B v ss) (_ : ss.length ≤ 5) (hvl : ∀ s ∈ ss, s.vars.length ≤ 1000) (hW : WsD w B (.slice (some ⟨g, 0, none⟩) 3 cap) [x0, x1, x2]) (hok : ∀ m ∈ [x0, x1, x2], AtOk m.xs ∧ m.xs.length ≤ 1500) (hBw : B ≤ w.heap.size) :
    Calls Tryz.prog 13 #[v, .slice (some ⟨g, 0, none⟩) 3 cap] w fun ev w' => FroD w' B ev ss (frmT ss 3 ((plainW x1.xs).getD []) ((plainW x2.xs).getD []) [] x0.place x1.place x2.place 0) ∧ Fr5 B w w' := by
  obtain ⟨i0, hi, hj0, hj1, hj2⟩ := info_parts info56
  obtain ⟨av, nv, cv, hv⟩ := row_form hS.row
  subst hv
  obtain rfl : nv = ss.length := row_len hS.row
  have hlt := (World.ownsRow.lt hW.row g rfl).2
  have hr0 := hW.all x0 (by simp)
  have ho0 := hok x0 (by simp)
  have hr1 := hW.all x1 (by simp)
  have ho1 := hok x1 (by simp)
  have hr2 := hW.all x2 (by simp)
  have ho2 := hok x2 (by simp)
  have cl : ∀ j x d, [x0, x1, x2][j]? = some x → d < 2 → w.cell? ⟨g, j * 2 + d, none⟩ = x.cellsD[d]? := fun j x d hj hd => by
    have hjl := (List.getElem?_eq_some_iff.1 hj).1
    rw [World.ownsRow.cellAt hW.row _ (by simp at hjl ⊢; omega), wdcD_at _ j x d hj hd]
  have m01 := cl 0 x0 1 rfl (by omega)
  have m10 := cl 1 x1 0 rfl (by omega)
  have m11 := cl 1 x1 1 rfl (by omega)
  have m20 := cl 2 x2 0 rfl (by omega)
  have m21 := cl 2 x2 1 rfl (by omega)
  obtain ⟨p0, v0, xs0⟩ := x0
  obtain ⟨p1, v1, xs1⟩ := x1
  obtain ⟨p2, v2, xs2⟩ := x2
  obtain ⟨a0, n0, k0, hx0⟩ := row_form hr0
  simp only at hx0
  subst hx0
  obtain ⟨a1, n1, k1, hx1⟩ := row_form hr1
  simp only at hx1
  subst hx1
  obtain ⟨a2, n2, k2, hx2⟩ := row_form hr2
  simp only at hx2
  subst hx2
  have HKC : Hid (∀ wx, In13 w wx → wx.cell? ⟨g, 1, none⟩ = some (.int .i64 (p0 : Int)) ∧ wx.cell? ⟨g, 2, none⟩ = some (.slice a1 n1 k1) ∧ wx.cell? ⟨g, 3, none⟩ = some (.int .i64 (p1 : Int)) ∧ wx.cell? ⟨g, 4, none⟩ = some (.slice a2 n2 k2) ∧ wx.cell? ⟨g, 5, none⟩ = some (.int .i64 (p2 : Int))) := hide (fun wx h => by
    have e := fun i => World.cell?_of_block (a := ⟨g, i, none⟩) (h.bel.block g hlt)
    exact ⟨(e 1).trans m01, (e 2).trans m10, (e 3).trans m11, (e 4).trans m20, (e 5).trans m21⟩)
  have HSD : Hid (∀ wx, In13 w wx → StD wx B (.slice av ss.length cv) ss) := hide (fun wx h => hS.below h.bel)
  have HSt : Hid (∀ wx, In13 w wx → StR wx B (.slice av ss.length cv) ss) := hide (fun wx h => (hS.below h.bel).row)
  have HOB := hide (own3 hS.row (by decide))
  have HVL := hide hvl
  have HS0 := hide hS
  obtain ⟨i9, hi9, hy90, hy91, hy92⟩ := info_parts info9
  obtain ⟨b1, hb1⟩ : ∃ b, bt ((plainW xs1).getD []) = b := ⟨_, rfl⟩
  have ht1 : (plainW xs1).getD [] = b1.data.toList := by rw [← hb1, bt_list]
  have hz1 : b1.size ≤ 1500 := by rw [← hb1, bt_size]; exact Nat.le_trans (plainW_getD xs1) ho1.2
  have hP1 : ∀ wx, In13 w wx → Calls Tryz.prog 11 #[.agg #[.slice a1 n1 k1, .int .i64 (p1 : Int)]] wx (fun ev w' => ev = .returned (.tuple #[.string b1, .bool (plainW xs1).isSome]) ∧ Below wx.heap.size wx w') := fun wx h => by
    have := plain_doc (.slice a1 n1 k1) xs1 p1 B wx (row_same hr1 fun q hq => h.bel.block q (World.ownsRow.lt hr1 q hq).2) ho1.1 ho1.2
    rwa [hb1] at this
  obtain ⟨o1, ho1'⟩ : ∃ o, (plainW xs1).isSome = o := ⟨_, rfl⟩
  rw [ho1'] at hP1
  obtain ⟨b2, hb2⟩ : ∃ b, bt ((plainW xs2).getD []) = b := ⟨_, rfl⟩
  have ht2 : (plainW xs2).getD [] = b2.data.toList := by rw [← hb2, bt_list]
  have hz2 : b2.size ≤ 1500 := by rw [← hb2, bt_size]; exact Nat.le_trans (plainW_getD xs2) ho2.2
  have hP2 : ∀ wx, In13 w wx → Calls Tryz.prog 11 #[.agg #[.slice a2 n2 k2, .int .i64 (p2 : Int)]] wx (fun ev w' => ev = .returned (.tuple #[.string b2, .bool (plainW xs2).isSome]) ∧ Below wx.heap.size wx w') := fun wx h => by
    have := plain_doc (.slice a2 n2 k2) xs2 p2 B wx (row_same hr2 fun q hq => h.bel.block q (World.ownsRow.lt hr2 q hq).2) ho2.1 ho2.2
    rwa [hb2] at this
  obtain ⟨o2, ho2'⟩ : ∃ o, (plainW xs2).isSome = o := ⟨_, rfl⟩
  rw [ho2'] at hP2
  simp only [ht1, ht2]
  clear hS hW hlt cl hvl hok m01 m10 m11 m20 m21 hr0 ho0 hr1 ho1 hr2 ho2 hb1 ht1 ho1' hb2 ht2 ho2'
  obtain ⟨W0, hW0⟩ : ∃ W0, W0 = w.alloc (.cells #[.int .i64 0, .int .i64 0] 28) := ⟨_, rfl⟩
  have I0 : In13 w W0 := by rw [hW0]; exact In13.start w
  obtain ⟨c01_w, c10_w, c11_w, c20_w, c21_w⟩ := unhide HKC W0 I0
  by_cases h2 : b2.data.toList = wAS
  · have g2 : (b2.toList == [65, 83]) = true := by rw [ByteArray.toList_eq, h2]; rfl
    have HQ : Hid (frmT ss 3 b1.data.toList b2.data.toList [] p0 p1 p2 0 = .error (5, p0)) := hide (by unfold frmT; rw [if_neg (by rw [h2]; simp), if_pos rfl])
    clear h2 hP1
    go_enter Tryz.func13, Tryz.ntmps13
    go_upto_region 1 with fail
    rw [← hW0]
    clear hW0
    go_wp2_with (first
      | (go_at_call 11; refine (hP2 _ (by assumption)).mono ?_; clear hP2; rintro ev wa2 ⟨rfl, hba2⟩; have I2 : In13 w wa2 := In13.below (by assumption) hba2; obtain ⟨c01_2, c10_2, c11_2, c20_2, c21_2⟩ := unhide HKC wa2 I2)
      | (go_at_call 9; refine (bad_any _ _ _).mono ?_; rintro ev wE ⟨rfl, hbE⟩; have IE : In13 w wE := In13.below (by assumption) hbE; have q0 := cell_of_row _ _ 0 _ _ _ IE.blk; have q1 := cell_of_row _ _ 1 _ _ _ IE.blk; have z0 : ∀ i, wE.frozen? ⟨w.heap.size, i, none⟩ = false := (fun i => by simp [World.frozen?, IE.blk]); have HIE := hide IE; clear IE))
    exact end13 rfl rfl (set2 (unhide HIE).blk _ _) ⟨by rw [unhide HQ]; exact ⟨by decide, rfl⟩, (unhide HIE).fr hBw _ _⟩
  · have g2 : (b2.toList == [65, 83]) = false := by rw [ByteArray.toList_eq]; simpa using h2
    have HQ : Hid (frmT ss 3 b1.data.toList b2.data.toList [] p0 p1 p2 0 = .error (5, p2)) := hide (by unfold frmT; rw [if_pos ⟨by omega, h2⟩])
    clear h2 hP1
    go_enter Tryz.func13, Tryz.ntmps13
    go_upto_region 1 with fail
    rw [← hW0]
    clear hW0
    go_wp2_with (first
      | (go_at_call 11; refine (hP2 _ (by assumption)).mono ?_; clear hP2; rintro ev wa2 ⟨rfl, hba2⟩; have I2 : In13 w wa2 := In13.below (by assumption) hba2; obtain ⟨c01_2, c10_2, c11_2, c20_2, c21_2⟩ := unhide HKC wa2 I2)
      | (go_at_call 9; refine (bad_any _ _ _).mono ?_; rintro ev wE ⟨rfl, hbE⟩; have IE : In13 w wE := In13.below (by assumption) hbE; have q0 := cell_of_row _ _ 0 _ _ _ IE.blk; have q1 := cell_of_row _ _ 1 _ _ _ IE.blk; have z0 : ∀ i, wE.frozen? ⟨w.heap.size, i, none⟩ = false := (fun i => by simp [World.frozen?, IE.blk]); have HIE := hide IE; clear IE))
    exact end13 rfl rfl (set2 (unhide HIE).blk _ _) ⟨by rw [unhide HQ]; exact ⟨by decide, rfl⟩, (unhide HIE).fr hBw _ _⟩
end Go.Proofs.YtkikhmleffcajaaGreatDoor
