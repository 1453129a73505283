import Derived.Test.YtpiponkhhimaoaaGreatDoorLwH
namespace Go.Proofs.YtpiponkhhimaoaaGreatDoor
open Go.RowKit Go.Maps Go.Sort Go.Shelf

/-- A world takes over the stores of another. -/
theorem Two.take {w w' : World} {B B2 wb wb2 lb lb2 sb2 mb2 yb yb2 : Nat} {v2 vf2 va2 vs2 : Value} {L2 : List Blb} {q2 : Int} {A2 : List Ac} {N2 : List Blb} {c2 : Bool} (h2 : Two w B2 wb2 lb2 sb2 mb2 yb2 v2 vf2 va2 vs2 L2 q2 A2 N2 c2) (hc : w.heap[wb]? = some (.cells #[.pointer (some ⟨lb, 0, none⟩), .pointer (some ⟨yb, 0, none⟩)] 45 (0, 0))) (hwb : wb < B2) (hB : B ≤ wb)
    (hw : w' = (w.setCell ⟨wb, 0, none⟩ (.pointer (some ⟨lb2, 0, none⟩))).setCell ⟨wb, 1, none⟩ (.pointer (some ⟨yb2, 0, none⟩))) : Two w' B wb lb2 sb2 mb2 yb2 v2 vf2 va2 vs2 L2 q2 A2 N2 c2 ∧ Below B w w' := by
  have hT : Turn (fun k => k = wb) w w' := by
    rw [hw]
    exact (Turn.of_set (S := fun k => k = wb) w ⟨wb, 0, none⟩ _ rfl).trans (Turn.of_set (S := fun k => k = wb) _ ⟨wb, 1, none⟩ _ rfl) (fun i hi => .inl hi)
  have hlt : wb < w.heap.size := (Array.getElem?_eq_some_iff.1 hc).1
  have hlb : lb2 ≠ wb := fun e => by have := h2.far lb2 (.inl (.inr rfl)); omega
  refine ⟨⟨?_, ⟨?_, ?_⟩, ?_, h2.acts, ?_⟩, ?_⟩
  · rw [hw]
    exact heap_setCell_same _ _ 1 _ _ _ (heap_setCell_same _ _ 0 _ _ _ hc)
  · exact (hT.block lb2 (Array.getElem?_eq_some_iff.1 h2.x.face).1 hlb).trans h2.x.face
  · exact h2.x.st.turn hT (fun k hk e => by have := h2.far k (.inl (.inl hk)); omega)
  · exact h2.y.turn hT (fun k hk e => by have := h2.far k (.inr (.inl hk)); omega)
  · rintro k (hk | hk | hk)
    · have := h2.far k (.inl hk); omega
    · have := h2.far k (.inr (.inl hk)); omega
    · omega
  · exact ⟨hT.os, hT.tape, hT.output, Nat.le_trans (by omega) hT.size, fun k hk => hT.block k (by omega) (by omega)⟩
set_option maxHeartbeats 2000000 in
set_option maxRecDepth 100000 in
theorem step_open (B wb n m : Nat) (which : Int) (name data : ByteArray) (ctx : Option Addr) (cn cc : Nat) (quota : Int) (w : World) (h : Wst w B wb n m) (hV : Vars w) (_ : 2 ≤ B) (hn : n ≤ 16777216) :
    Calls Tryz.prog 6 #[.pointer (some ⟨wb, 0, none⟩), .agg #[.int .i64 3, .int .i64 which, .string name, .string data, .slice ctx cn cc, .int .i64 quota]] w fun ev w' => ev = .returned (.bool true) ∧ Wst w' B wb n m ∧ Below B w w' := by
  obtain ⟨lb, sb, mb, yb, vf, vs, L, q, N, c, hT, hG, hq, hNl⟩ := h
  obtain ⟨W0, hW0⟩ : ∃ W0, W0 = w.alloc (.cells #[.int .i64 3, .int .i64 which, .string name, .string data, .slice ctx cn cc, .int .i64 quota] 32) := ⟨_, rfl⟩
  have hb0 : Below w.heap.size w W0 := by rw [hW0]; exact (Below.refl _ _).alloc (Nat.le_refl _) _
  have hx0 : W0.heap[w.heap.size]? = some (.cells #[.int .i64 3, .int .i64 which, .string name, .string data, .slice ctx cn cc, .int .i64 quota] 32 (0, 0)) := by rw [hW0]; exact heap_alloc_new _ _
  have HW := hide hW0
  have hT0 := hT.below hb0
  have hV0 := hV.below hb0
  have hLl := hG.len
  have hFi := lfiles_any lb sb mb _ L q [] W0.drew ⟨hT0.x.face, hT0.x.st.drew⟩ (by omega) (fun b hb => by have h1 := hG.size hb; have h2 := hG.data b hb; omega)
  have c0 : W0.cell? ⟨wb, 0, none⟩ = some (.pointer (some ⟨lb, 0, none⟩)) := cell_of_row _ _ 0 _ _ _ hT0.both
  have x0 : W0.cell? ⟨w.heap.size, 0, none⟩ = some (.int .i64 3) := cell_of_row _ _ 0 _ _ _ hx0
  have x5 : W0.cell? ⟨w.heap.size, 5, none⟩ = some (.int .i64 quota) := cell_of_row _ _ 5 _ _ _ hx0
  have hOp : ∀ w1, Below W0.heap.size W0 w1 → ∀ v1, OwnB w1 W0.heap.size v1 L → ∃ ao cap nn, v1 = .slice ao nn cap ∧ Calls Tryz.prog 5 #[.slice ao nn cap, .int .i64 quota] w1 fun ev w' => ∃ v, ev = .returned (.tuple #[v, .bool true]) ∧ OpenIs w1 L quota v w' ∧ Below w1.heap.size w1 w' := fun w1 hb1 v1 hO => by
    obtain ⟨ao, cap, nn, rfl, hnn, hr, _⟩ := ownB_row hO
    exact ⟨ao, cap, nn, rfl, opened_any ao cap nn L quota w1 hr (hide hnn) (by omega) (fun b hb => by have h1 := hG.size hb; have h2 := hG.data b hb; omega) (hV0.below hb1)⟩
  have HT0 := hide hT0
  have HG := hide hG
  have HB0 : Hid (Below B w W0) := hide (hb0.mono (Nat.le_of_lt hT.blt))
  clear hW0 hT hT0 hG hV hV0 hx0 hb0
  go_enter Tryz.func6, Tryz.ntmps6
  go_upto_region 1 with fail
  rw [← unhide HW]
  clear HW
  go_upto_region 18 with fail
  go_region_held3 (fun w' => w'.cell? ⟨wb, 0, none⟩ = some (.pointer (some ⟨lb, 0, none⟩)) ∧ w'.cell? ⟨w.heap.size, 5, none⟩ = some (.int .i64 quota))
    (first | (with_reducible exact ⟨p2, p3⟩) | (with_reducible exact ⟨p0, p1⟩) | (with_reducible exact ⟨c0, x5⟩) | go_keep)
    (first
      | (go_at_call 19; refine hFi.mono ?_; clear hFi; rintro ev w1 ⟨v1, rfl, hO1, hb1⟩; have hb1' : Below W0.heap.size W0 w1 := ⟨hb1.os, hb1.tape, hb1.output, hb1.size, hb1.block⟩; have p0 := cell_later hb1' c0; have p1 := cell_later hb1' x5; obtain ⟨ao, cap, nn, rfl, hOp1⟩ := hOp w1 hb1' v1 hO1; clear hOp)
      | (go_at_call 5; refine hOp1.mono ?_; clear hOp1; rintro ev w2 ⟨v2, rfl, hN2, hb2⟩; have p2 := cell_later hb2 p0; have p3 := cell_later hb2 p1))
  have hT1 := (unhide HT0).below hb1'
  have hT2 := hT1.below hb2
  have HB2 : Hid (Below B w w2) := hide ((unhide HB0).trans ((hb1'.trans (hb2.mono hb1'.size)).mono (Nat.le_of_lt (unhide HT0).blt)))
  have HT2 := hide hT2
  have hwl := hT1.wlt
  have hwB := hT1.far wb (.inr (.inr rfl))
  clear hT1 hT2 hO1 hb1 hb1' hb2 p0 p1 p2 p3 c0 x0 x5
  rcases hN2 with ⟨rfl, _⟩ | ⟨hF, hq2, wb2, lb2, sb2, mb2, yb2, vp2, vf2, va2, rfl, hTn⟩
  · have hAl := alike_any B wb lb sb mb yb _ vf _ vs L q [] N c w2 (unhide HT2) (by simp) (fun a ha => by simp at ha) (by omega) (fun b hb => by have h1 := (unhide HG).size hb; have h2 := (unhide HG).data b hb; omega)
    go_wp2_with (go_at_call 8; refine hAl.mono ?_; clear hAl; rintro ev w4 ⟨rfl, hT4, hB4⟩)
    go_ret
    exact ⟨rfl, ⟨lb, sb, mb, yb, vf, vs, L, q, N, c, hT4, unhide HG, hq, hNl⟩, (unhide HB2).trans hB4⟩
  · have hwc := (unhide HT2).both
    have y0 : w2.cell? ⟨wb, 0, none⟩ = some (.pointer (some ⟨lb, 0, none⟩)) := cell_of_row _ _ 0 _ _ _ hwc
    have y1 : w2.cell? ⟨wb, 1, none⟩ = some (.pointer (some ⟨yb, 0, none⟩)) := cell_of_row _ _ 1 _ _ _ hwc
    have z0 : w2.cell? ⟨wb2, 0, none⟩ = some (.pointer (some ⟨lb2, 0, none⟩)) := cell_of_row _ _ 0 _ _ _ hTn.both
    have z1 : w2.cell? ⟨wb2, 1, none⟩ = some (.pointer (some ⟨yb2, 0, none⟩)) := cell_of_row _ _ 1 _ _ _ hTn.both
    have g0 := frzD hwc 0
    have g1 := frzD hwc 1
    have hne : wb2 ≠ wb := fun e => by have := hTn.far wb2 (.inr (.inr rfl)); omega
    have hne2 : wb ≠ wb2 := hne.symm
    obtain ⟨w3, hw3⟩ : ∃ w3, w3 = (w2.setCell ⟨wb, 0, none⟩ (.pointer (some ⟨lb2, 0, none⟩))).setCell ⟨wb, 1, none⟩ (.pointer (some ⟨yb2, 0, none⟩)) := ⟨_, rfl⟩
    obtain ⟨hT3, hB3⟩ := hTn.take hwc hwl hwB hw3
    have hG3 : Good (remL (putAll L) (putAll L)) n := Good.opened hF (unhide HG).data (unhide HG).sz (unhide HG).len
    have hA3 : GoodA (remA (putAll L)) n := goodA_rem hF (unhide HG).len
    have hAl := alike_any B wb lb2 sb2 mb2 yb2 vp2 vf2 va2 _ _ quota _ [] false w3 hT3 (by have := hA3.1; omega) (fun a ha => by have := hA3.2 a ha; omega) (by have := hG3.len; omega) (fun b hb => by have h1 := hG3.size hb; have h2 := hG3.data b hb; omega)
    have HG3 := hide hG3
    have HB3 : Hid (Below B w w3) := hide ((unhide HB2).trans hB3)
    have HW3 := hide hw3
    clear hT3 hB3 hG3 hA3 hTn hwc hw3 hF
    go_upto_region 31 with fail
    rw [← unhide HW3]
    clear HW3 y0 y1 z0 z1 g0 g1
    go_wp2_with (go_at_call 8; refine hAl.mono ?_; clear hAl; rintro ev w4 ⟨rfl, hT4, hB4⟩)
    go_ret
    exact ⟨rfl, ⟨lb2, sb2, mb2, yb2, vf2, _, _, quota, [], false, hT4, unhide HG3, hq2, by simp⟩, (unhide HB3).trans hB4⟩
end Go.Proofs.YtpiponkhhimaoaaGreatDoor
