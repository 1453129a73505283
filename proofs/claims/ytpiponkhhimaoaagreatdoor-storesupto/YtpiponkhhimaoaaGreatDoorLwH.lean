import Derived.Test.YtpiponkhhimaoaaGreatDoorLwG
namespace Go.Proofs.YtpiponkhhimaoaaGreatDoor
open Go.RowKit Go.Maps Go.Sort Go.Shelf

set_option maxHeartbeats 2000000 in
set_option maxRecDepth 100000 in
theorem step_get (B wb n m : Nat) (which : Int) (name data : ByteArray) (ctx : Option Addr) (cn cc : Nat) (quota : Int) (w : World) (h : Wst w B wb n m) (hV : Vars w) (_ : 2 ≤ B) (hn : n ≤ 16777216) (hs : name.size ≤ 1048576) :
    Calls Tryz.prog 6 #[.pointer (some ⟨wb, 0, none⟩), .agg #[.int .i64 1, .int .i64 which, .string name, .string data, .slice ctx cn cc, .int .i64 quota]] w fun ev w' => ev = .returned (.bool true) ∧ Wst w' B wb n m ∧ Below B w w' := by
  obtain ⟨lb, sb, mb, yb, vf, vs, L, q, N, c, hT, hG, hq, hNl⟩ := h
  obtain ⟨W0, hW0⟩ : ∃ W0, W0 = w.alloc (.cells #[.int .i64 1, .int .i64 which, .string name, .string data, .slice ctx cn cc, .int .i64 quota] 32) := ⟨_, rfl⟩
  have hb0 : Below w.heap.size w W0 := by rw [hW0]; exact (Below.refl _ _).alloc (Nat.le_refl _) _
  have hx0 : W0.heap[w.heap.size]? = some (.cells #[.int .i64 1, .int .i64 which, .string name, .string data, .slice ctx cn cc, .int .i64 quota] 32 (0, 0)) := by rw [hW0]; exact heap_alloc_new _ _
  have HW := hide hW0
  have hT0 := hT.below hb0
  have hV0 := hV.below hb0
  have hLl := hG.len
  have hDs := digS_any B wb lb sb mb yb _ vf _ vs L q [] N c ⟨1, which, name, data, ctx, cn, cc, quota⟩ W0 hT0 (by omega) (fun b hb => by have := hG.size hb; omega) hs
  have x0 : W0.cell? ⟨w.heap.size, 0, none⟩ = some (.int .i64 1) := cell_of_row _ _ 0 _ _ _ hx0
  have x1 : W0.cell? ⟨w.heap.size, 1, none⟩ = some (.int .i64 which) := cell_of_row _ _ 1 _ _ _ hx0
  have x2 : W0.cell? ⟨w.heap.size, 2, none⟩ = some (.string name) := cell_of_row _ _ 2 _ _ _ hx0
  have x3 : W0.cell? ⟨w.heap.size, 3, none⟩ = some (.string data) := cell_of_row _ _ 3 _ _ _ hx0
  have x4 : W0.cell? ⟨w.heap.size, 4, none⟩ = some (.slice ctx cn cc) := cell_of_row _ _ 4 _ _ _ hx0
  have x5 : W0.cell? ⟨w.heap.size, 5, none⟩ = some (.int .i64 quota) := cell_of_row _ _ 5 _ _ _ hx0
  have HT0 := hide hT0
  have HV0 := hide hV0
  have HG := hide hG
  have HB0 : Hid (Below B w W0) := hide (hb0.mono (Nat.le_of_lt hT.blt))
  clear hW0 hT hT0 hG hV hV0 hx0 hb0
  go_enter Tryz.func6, Tryz.ntmps6
  go_upto_region 1 with fail
  rw [← unhide HW]
  clear HW
  go_upto_region 9 with (go_at_call 13; refine hDs.mono ?_; clear hDs; rintro ev w1 ⟨y, rfl, hys, hb1⟩)
  have hT1 := (unhide HT0).below hb1
  have hV1 := (unhide HV0).below hb1
  have c0 : w1.cell? ⟨wb, 0, none⟩ = some (.pointer (some ⟨lb, 0, none⟩)) := cell_of_row _ _ 0 _ _ _ hT1.both
  have hPg := pget_act lb sb mb _ L q [] y w1 hT1.x hys (fun b hb => by have := (unhide HG).data b hb; omega) hV1
  have HT1 := hide hT1
  have HB1 : Hid (Below B w w1) := hide ((unhide HB0).trans (hb1.mono (Nat.le_of_lt (unhide HT0).blt)))
  clear hT1 hV1 hb1 x0 x1 x2 x3 x4 x5
  go_upto_region 10 with (go_at_call 14; refine hPg.mono ?_; clear hPg; rintro ev w2 ⟨rfl, hb2⟩)
  have hT2 := (unhide HT1).below hb2
  have c1 : w2.cell? ⟨wb, 1, none⟩ = some (.pointer (some ⟨yb, 0, none⟩)) := cell_of_row _ _ 1 _ _ _ hT2.both
  have hRg := get_any yb vf _ vs L q [] N c y w2 hT2.y (by omega) hys (fun b hb => by have := (unhide HG).data b hb; omega)
  have HT2 := hide hT2
  have HB2 : Hid (Below B w w2) := hide ((unhide HB1).trans (hb2.mono (Nat.le_of_lt (unhide HT1).blt)))
  clear hT2 hb2 c0
  go_upto_region 11 with (go_at_call 15; refine hRg.mono ?_; clear hRg; rintro ev w3 ⟨rfl, hb3⟩)
  have hT3 := (unhide HT2).below hb3
  have HB3 : Hid (Below B w w3) := hide ((unhide HB2).trans (hb3.mono (Nat.le_of_lt (unhide HT2).blt)))
  have hAl := alike_any B wb lb sb mb yb _ vf _ vs L q [] N c w3 hT3 (by simp) (fun a ha => by simp at ha) (by omega) (fun b hb => by have h1 := (unhide HG).size hb; have h2 := (unhide HG).data b hb; omega)
  clear hT3 hb3 c1
  cases hv : (getV L y).2
  all_goals
    go_wp2_with (go_at_call 8; refine hAl.mono ?_; clear hAl; rintro ev w4 ⟨rfl, hT4, hB4⟩)
    go_ret
    exact ⟨rfl, ⟨lb, sb, mb, yb, vf, vs, L, q, N, c, hT4, unhide HG, hq, hNl⟩, (unhide HB3).trans hB4⟩
theorem dropAns_is (L : List Blb) (A : List Ac) (s : ByteArray) : ∃ r L' A', DropAns L A s r L' A' := by
  cases h : getB L s.data.toList with
  | none => exact ⟨_, _, _, .none h⟩
  | some b => exact ⟨_, _, _, .some (by rw [h]; rfl)⟩
theorem dropAns_good {L : List Blb} {s : ByteArray} {r : Bool} {L' : List Blb} {A' : List Ac} {n : Nat} (h : DropAns L [] s r L' A') (hg : Good L n) (hs : s.size ≤ 1048576) : Good L' n ∧ GoodA A' 1 := by
  cases h using DropAns.el with
  | none h => exact ⟨hg, goodA_nil _⟩
  | some h => exact ⟨hg.dropped _, goodA_drop hs⟩
theorem rdrop_any (yb : Nat) (vf va vs : Value) (L : List Blb) (q : Int) (A : List Ac) (N : List Blb) (c : Bool) (s : ByteArray) (w : World) (h : RSt w yb vf va vs L q A N c) (hA : A.length ≤ 1099511627) (hL : L.length ≤ 1099511627) {r : Bool} {L' : List Blb} {A' : List Ac} (hP : DropAns L A s r L' A') :
    Calls Tryz.prog 18 #[.pointer (some ⟨yb, 0, none⟩), .string s] w fun ev w' => ev = .returned (.bool r) ∧ KeepIs w yb vf va vs L' q A' N c w' := by
  refine (drop_any yb vf va vs L q A N c s w h hA hL).mono (fun ev w' h2 => ?_)
  rcases h2 with ⟨h1, h2, rfl⟩ | ⟨h1, h2, h3⟩
  · obtain ⟨rfl, rfl, rfl⟩ := hP.one (.none h1); exact ⟨h2, vf, va, h, RGoes.of_below (Below.refl _ _)⟩
  · obtain ⟨rfl, rfl, rfl⟩ := hP.one (.some h1); exact ⟨h2, h3⟩
theorem pdrop_is (lb sb mb : Nat) (v : Value) (L : List Blb) (q : Int) (A : List Ac) (s : ByteArray) (w : World) (h : XSt w lb sb mb v L q A) (hA : A.length ≤ 1099511627) (hs : s.size ≤ 1048576) (hV : Vars w) (hf : ∀ k, Own sb mb v k → 2 ≤ k) {r : Bool} {L' : List Blb} {A' : List Ac} (hP : DropAns L A s r L' A') :
    Calls Tryz.prog 17 #[.pointer (some ⟨lb, 0, none⟩), .string s] w fun ev w' => ev = .returned (.int .i64 (if r then 0 else 13)) ∧ PutX w lb sb mb v L' q A' w' := by
  refine (pdrop_act lb sb mb v L q A s w h hA hs hV hf).mono (fun ev w' h => ?_)
  obtain ⟨r2, L2, A2, HA, e1, e2⟩ := h
  obtain ⟨rfl, rfl, rfl⟩ := hP.one (unhide HA)
  exact ⟨e1, e2⟩
set_option maxHeartbeats 2000000 in
set_option maxRecDepth 100000 in
theorem step_drop (B wb n m : Nat) (which : Int) (name data : ByteArray) (ctx : Option Addr) (cn cc : Nat) (quota : Int) (w : World) (h : Wst w B wb n m) (hV : Vars w) (hB : 2 ≤ B) (hn : n ≤ 16777216) (hs : name.size ≤ 1048576) :
    Calls Tryz.prog 6 #[.pointer (some ⟨wb, 0, none⟩), .agg #[.int .i64 2, .int .i64 which, .string name, .string data, .slice ctx cn cc, .int .i64 quota]] w fun ev w' => ev = .returned (.bool true) ∧ Wst w' B wb n m ∧ Below B w w' := by
  obtain ⟨lb, sb, mb, yb, vf, vs, L, q, N, c, hT, hG, hq, hNl⟩ := h
  obtain ⟨W0, hW0⟩ : ∃ W0, W0 = w.alloc (.cells #[.int .i64 2, .int .i64 which, .string name, .string data, .slice ctx cn cc, .int .i64 quota] 32) := ⟨_, rfl⟩
  have hb0 : Below w.heap.size w W0 := by rw [hW0]; exact (Below.refl _ _).alloc (Nat.le_refl _) _
  have hx0 : W0.heap[w.heap.size]? = some (.cells #[.int .i64 2, .int .i64 which, .string name, .string data, .slice ctx cn cc, .int .i64 quota] 32 (0, 0)) := by rw [hW0]; exact heap_alloc_new _ _
  have HW := hide hW0
  have hT0 := hT.below hb0
  have hV0 := hV.below hb0
  have hLl := hG.len
  have hDs := named_any B wb lb sb mb yb _ vf _ vs L q [] N c ⟨2, which, name, data, ctx, cn, cc, quota⟩ W0 hT0 (by omega) (fun b hb => by have := hG.size hb; omega) hs
  have x0 : W0.cell? ⟨w.heap.size, 0, none⟩ = some (.int .i64 2) := cell_of_row _ _ 0 _ _ _ hx0
  have x1 : W0.cell? ⟨w.heap.size, 1, none⟩ = some (.int .i64 which) := cell_of_row _ _ 1 _ _ _ hx0
  have x2 : W0.cell? ⟨w.heap.size, 2, none⟩ = some (.string name) := cell_of_row _ _ 2 _ _ _ hx0
  have x3 : W0.cell? ⟨w.heap.size, 3, none⟩ = some (.string data) := cell_of_row _ _ 3 _ _ _ hx0
  have x4 : W0.cell? ⟨w.heap.size, 4, none⟩ = some (.slice ctx cn cc) := cell_of_row _ _ 4 _ _ _ hx0
  have x5 : W0.cell? ⟨w.heap.size, 5, none⟩ = some (.int .i64 quota) := cell_of_row _ _ 5 _ _ _ hx0
  have HT0 := hide hT0
  have HV0 := hide hV0
  have HG := hide hG
  have HB0 : Hid (Below B w W0) := hide (hb0.mono (Nat.le_of_lt hT.blt))
  clear hW0 hT hT0 hG hV hV0 hx0 hb0
  go_enter Tryz.func6, Tryz.ntmps6
  go_upto_region 1 with fail
  rw [← unhide HW]
  clear HW
  go_upto_region 14 with (go_at_call 16; refine hDs.mono ?_; clear hDs; rintro ev w1 ⟨y, rfl, hys, hb1⟩)
  have hT1 := (unhide HT0).below hb1
  have hV1 := (unhide HV0).below hb1
  have c0 : w1.cell? ⟨wb, 0, none⟩ = some (.pointer (some ⟨lb, 0, none⟩)) := cell_of_row _ _ 0 _ _ _ hT1.both
  obtain ⟨r, L', A', hAns⟩ := dropAns_is L [] y
  obtain ⟨hG', hA'⟩ := dropAns_good hAns (unhide HG) hys
  have hPd := pdrop_is lb sb mb _ L q [] y w1 hT1.x (by simp) hys hV1 (hT1.own23 hB) hAns
  have HT1 := hide hT1
  have HB1 : Hid (Below B w w1) := hide ((unhide HB0).trans (hb1.mono (Nat.le_of_lt (unhide HT0).blt)))
  have HGp := hide hG'
  have HAp := hide hA'
  have HAns := hide hAns
  clear hT1 hV1 hb1 x0 x1 x2 x3 x4 x5 hG' hA' hAns
  go_upto_region 15 with (go_at_call 17; refine hPd.mono ?_; clear hPd; rintro ev w2 ⟨rfl, hk2⟩)
  obtain ⟨v2, hX2, hG2⟩ := hk2
  have hY2 := (unhide HT1).left hG2
  have hw2 : w2.heap[wb]? = some (.cells #[.pointer (some ⟨lb, 0, none⟩), .pointer (some ⟨yb, 0, none⟩)] 45 (0, 0)) := (hG2.turn.block wb (unhide HT1).wlt (unhide HT1).wb_own).trans (unhide HT1).both
  have c1 : w2.cell? ⟨wb, 1, none⟩ = some (.pointer (some ⟨yb, 0, none⟩)) := cell_of_row _ _ 1 _ _ _ hw2
  have hRd := rdrop_any yb vf _ vs L q [] N c y w2 hY2 (by simp) (by omega) (unhide HAns)
  have HX2 := hide hX2
  have HG2 := hide hG2
  clear hX2 hG2 hY2 hw2 c0
  go_upto_region 16 with (go_at_call 18; refine hRd.mono ?_; clear hRd; rintro ev w3 ⟨rfl, hk3⟩)
  obtain ⟨vf3, va3, hY3, hR3⟩ := hk3
  obtain ⟨hT3, hB3⟩ := (unhide HT1).step (unhide HX2) (unhide HG2) hY3 hR3
  have hAl := alike_any B wb lb sb mb yb v2 vf3 va3 vs L' q A' N c w3 hT3 (by have := (unhide HAp).1; omega) (fun a ha => by have := (unhide HAp).2 a ha; omega) (by have := (unhide HGp).len; omega) (fun b hb => by have h1 := (unhide HGp).size hb; have h2 := (unhide HGp).data b hb; omega)
  have HB3 : Hid (Below B w w3) := hide ((unhide HB1).trans hB3)
  clear hY3 hR3 HX2 HG2 hT3 hB3 c1 HAns
  cases r
  all_goals
    go_wp2_with (go_at_call 8; refine hAl.mono ?_; clear hAl; rintro ev w4 ⟨rfl, hT4, hB4⟩)
    go_ret
    exact ⟨rfl, ⟨lb, sb, mb, yb, vf3, vs, L', q, N, c, hT4, unhide HGp, hq, hNl⟩, (unhide HB3).trans hB4⟩
end Go.Proofs.YtpiponkhhimaoaaGreatDoor
