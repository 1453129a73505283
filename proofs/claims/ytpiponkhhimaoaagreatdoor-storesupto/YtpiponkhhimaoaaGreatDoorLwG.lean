import Derived.Test.YtpiponkhhimaoaaGreatDoorLwF
namespace Go.Proofs.YtpiponkhhimaoaaGreatDoor
open Go.RowKit Go.Maps Go.Sort Go.Shelf

/-- Both stores between two steps. -/
def Wst (w : World) (B wb n m : Nat) : Prop := ∃ (lb sb mb yb : Nat) (vf vs : Value) (L : List Blb) (q : Int) (N : List Blb) (c : Bool), Two w B wb lb sb mb yb (.slice none 0 0) vf (.slice none 0 0) vs L q [] N c ∧ Good L n ∧ (0 ≤ q ∧ q ≤ 16777216) ∧ N.length ≤ m
def Wst0 (w : World) (B wb n m : Nat) : Prop := ∃ (lb sb mb yb : Nat) (v vf va vs : Value) (L : List Blb) (q : Int) (N : List Blb) (c : Bool), Two w B wb lb sb mb yb v vf va vs L q [] N c ∧ Good L n ∧ (0 ≤ q ∧ q ≤ 16777216) ∧ N.length ≤ m
theorem Wst.any {w : World} {B wb n m : Nat} (h : Wst w B wb n m) : Wst0 w B wb n m := by
  obtain ⟨lb, sb, mb, yb, vf, vs, L, q, N, c, h⟩ := h
  exact ⟨lb, sb, mb, yb, _, vf, _, vs, L, q, N, c, h⟩
theorem putAns_is (L : List Blb) (q : Int) (A : List Ac) (d : ByteArray) : ∃ x r L' A', PutAns L q A d x r L' A' := by
  cases hv : (getV L (dig d)).2 with
  | true => exact ⟨_, _, _, _, .there hv⟩
  | false =>
    by_cases hq : ((szL (delB L (blobN (dig d)).data.toList) + d.size : Nat) : Int) > q
    · exact ⟨_, _, _, _, .full hv hq⟩
    · exact ⟨_, _, _, _, .kept hv (by omega)⟩
theorem putAns_good {L : List Blb} {q : Int} {d x : ByteArray} {r : Bool} {L' : List Blb} {A' : List Ac} {n : Nat} (h : PutAns L q [] d x r L' A') (hg : Good L n) (hd : d.size ≤ 16777216) (hq : q ≤ 16777216) : Good L' (n + 1) ∧ GoodA A' 4 := by
  cases h using PutAns.el with
  | there h => exact ⟨hg.mono (by omega), goodA_nil _⟩
  | full h h2 => exact ⟨hg.mono (by omega), goodA_nil _⟩
  | kept h h2 => exact ⟨hg.kept hd h2 hq, goodA_keep hd⟩
theorem rput_any (yb : Nat) (vf va vs : Value) (L : List Blb) (q : Int) (A : List Ac) (N : List Blb) (c : Bool) (d : ByteArray) (w : World) (h : RSt w yb vf va vs L q A N c) (hR : Rise L) (hA : A.length ≤ 1099511627) (hL : L.length ≤ 109951162) (hN : N.length ≤ 1099511627) (hd : d.size ≤ 1073741824) (hds : ∀ b ∈ L, b.data.size ≤ 1073741824) (hz : szL L ≤ 1099511627776) {x : ByteArray} {r : Bool} {L' : List Blb} {A' : List Ac} (hP : PutAns L q A d x r L' A') :
    Calls Tryz.prog 12 #[.pointer (some ⟨yb, 0, none⟩), .string d] w fun ev w' => ev = .returned (.tuple #[.string x, .bool r]) ∧ PutIs w yb vf va vs L' q A' N w' := by
  refine (put_any yb vf va vs L q A N c d w h hR hA hL hN hd hds hz).mono (fun ev w' h => ?_)
  rcases h with ⟨h1, h2, h3⟩ | ⟨h1, h2, h3, h4⟩ | ⟨h1, h2, h3, h4⟩
  · obtain ⟨rfl, rfl, rfl, rfl⟩ := hP.one (.there h1); exact ⟨h2, h3⟩
  · obtain ⟨rfl, rfl, rfl, rfl⟩ := hP.one (.full h1 h2); exact ⟨h3, h4⟩
  · obtain ⟨rfl, rfl, rfl, rfl⟩ := hP.one (.kept h1 h2); exact ⟨h3, h4⟩
theorem lput_is (lb sb mb : Nat) (v : Value) (L : List Blb) (q : Int) (A : List Ac) (d : ByteArray) (w : World) (h : XSt w lb sb mb v L q A) (hA : A.length ≤ 1099511627) (hL : L.length ≤ 1099511627) (hd : d.size ≤ 1073741824) (hds : ∀ b ∈ L, b.data.size ≤ 1073741824) (hz : szL L ≤ 1099511627776) (hV : Vars w) (hf : ∀ k, Own sb mb v k → 2 ≤ k) {x : ByteArray} {r : Bool} {L' : List Blb} {A' : List Ac} (hP : PutAns L q A d x r L' A') :
    Calls Tryz.prog 11 #[.pointer (some ⟨lb, 0, none⟩), .string d] w fun ev w' => ev = .returned (.tuple #[.string x, .int .i64 (if r then 0 else 12)]) ∧ PutX w lb sb mb v L' q A' w' := by
  refine (lput_act lb sb mb v L q A d w h hA hL hd hds hz hV hf).mono (fun ev w' h => ?_)
  obtain ⟨x2, r2, L2, A2, HA, e1, e2⟩ := h
  obtain ⟨rfl, rfl, rfl, rfl⟩ := hP.one (unhide HA)
  exact ⟨e1, e2⟩
theorem Two.own23 {w : World} {B wb lb sb mb yb : Nat} {v vf va vs : Value} {L : List Blb} {q : Int} {A : List Ac} {N : List Blb} {c : Bool} (h : Two w B wb lb sb mb yb v vf va vs L q A N c) (hB : 2 ≤ B) : ∀ k, Own sb mb v k → 2 ≤ k := fun k hk => Nat.le_trans hB (h.far k (.inl (.inl hk)))
set_option maxHeartbeats 2000000 in
set_option maxRecDepth 100000 in
theorem step_put (B wb n m : Nat) (which : Int) (name data : ByteArray) (ctx : Option Addr) (cn cc : Nat) (quota : Int) (w : World) (h : Wst0 w B wb n m) (hV : Vars w) (hB : 2 ≤ B) (hn : n ≤ 16777216) (hm : m ≤ 16777216) (hd : data.size ≤ 16777216) :
    Calls Tryz.prog 6 #[.pointer (some ⟨wb, 0, none⟩), .agg #[.int .i64 0, .int .i64 which, .string name, .string data, .slice ctx cn cc, .int .i64 quota]] w fun ev w' => ev = .returned (.bool true) ∧ Wst w' B wb (n + 1) (m + 1) ∧ Below B w w' := by
  obtain ⟨lb, sb, mb, yb, v, vf, va, vs, L, q, N, c, hT, hG, hq, hNl⟩ := h
  obtain ⟨W0, hW0⟩ : ∃ W0, W0 = w.alloc (.cells #[.int .i64 0, .int .i64 which, .string name, .string data, .slice ctx cn cc, .int .i64 quota] 32) := ⟨_, rfl⟩
  have hb0 : Below w.heap.size w W0 := by rw [hW0]; exact (Below.refl _ _).alloc (Nat.le_refl _) _
  have hx0 : W0.heap[w.heap.size]? = some (.cells #[.int .i64 0, .int .i64 which, .string name, .string data, .slice ctx cn cc, .int .i64 quota] 32 (0, 0)) := by rw [hW0]; exact heap_alloc_new _ _
  have HW := hide hW0
  obtain ⟨x, r, L', A', hAns⟩ := putAns_is L q [] data
  obtain ⟨hG', hA'⟩ := putAns_good hAns hG hd hq.2
  have hT0 := hT.below hb0
  have hlw : w.heap.size < W0.heap.size := (Array.getElem?_eq_some_iff.1 hx0).1
  have hLl := hG.len
  have hLx := lput_is lb sb mb _ L q [] data W0.drew ⟨hT0.x.face, hT0.x.st.drew⟩ (by simp) (by omega) (by omega) (fun b hb => by have := hG.data b hb; omega) (by have := hG.sz; omega) ⟨(hV.below hb0).ks, (hV.below hb0).err⟩ (hT.own23 hB) hAns
  have c0 : W0.cell? ⟨wb, 0, none⟩ = some (.pointer (some ⟨lb, 0, none⟩)) := cell_of_row _ _ 0 _ _ _ hT0.both
  have x0 : W0.cell? ⟨w.heap.size, 0, none⟩ = some (.int .i64 0) := cell_of_row _ _ 0 _ _ _ hx0
  have x3 : W0.cell? ⟨w.heap.size, 3, none⟩ = some (.string data) := cell_of_row _ _ 3 _ _ _ hx0
  have hwo := hT0.wb_own
  have hxo : ¬ Own sb mb v w.heap.size := by
    rintro (e | e | e)
    · have := hT.x.st.lt sb (.inl rfl); omega
    · have := hT.x.st.lt mb (.inr (.inl rfl)); omega
    · have := hT.x.st.lt w.heap.size (.inr (.inr e)); omega
  have hyl := hT.y.lt
  have HT0 := hide hT0
  have HV0 := hide (hV.below hb0)
  have HG := hide hG
  have HGp := hide hG'
  have HAp := hide hA'
  have HAns := hide hAns
  have HQ := hide hq
  have HB0 : Hid (Below B w W0) := hide (hb0.mono (Nat.le_of_lt hT.blt))
  have HNl := hide hNl
  clear hW0 hT hT0 hG hG' hA' hV hx0 hAns hq hb0 hNl
  cases r
  all_goals
    simp only [if_true, if_false, Bool.false_eq_true] at hLx
    go_enter Tryz.func6, Tryz.ntmps6
    go_upto_region 1 with fail
    rw [← unhide HW]
    clear HW
    go_upto_region 4 with fail
    go_region_held3 (fun w' => w'.cell? ⟨wb, 0, none⟩ = some (.pointer (some ⟨lb, 0, none⟩)) ∧ w'.cell? ⟨w.heap.size, 3, none⟩ = some (.string data))
      (first | (with_reducible exact ⟨p0, p1⟩) | (with_reducible exact ⟨c0, x3⟩) | go_keep)
      (first | (go_at_call 11; refine hLx.mono ?_; clear hLx; rintro ev w1 ⟨rfl, v1, hX1, hG1⟩; have p0 := hG1.turn.cell (w := W0.drew) c0 hwo; have p1 := hG1.turn.cell (w := W0.drew) x3 hxo))
    have hG1' : Goes W0 sb mb v w1 v1 := hG1.drew
    have hY1 := (unhide HT0).left hG1'
    have hw1 : w1.heap[wb]? = some (.cells #[.pointer (some ⟨lb, 0, none⟩), .pointer (some ⟨yb, 0, none⟩)] 45 (0, 0)) := (hG1'.turn.block wb (unhide HT0).wlt hwo).trans (unhide HT0).both
    have c1 : w1.cell? ⟨wb, 1, none⟩ = some (.pointer (some ⟨yb, 0, none⟩)) := cell_of_row _ _ 1 _ _ _ hw1
    have hRy := rput_any yb vf _ vs L q [] N c data w1.drew ⟨hY1.cells, hY1.files, hY1.acts, hY1.seen, hY1.apart⟩ (unhide HG).rise (by simp) (by omega) (by have := unhide HNl; omega) (by omega) (fun b hb => by have := (unhide HG).data b hb; omega) (by have := (unhide HG).sz; omega) (unhide HAns)
    have hro : ∀ k, RAll yb vf va vs k → k < w.heap.size := hyl
    have hw0r : ¬ ROwn yb va vs w.heap.size := fun hr => by have := hro _ (.inl hr); omega
    have hwbr : ¬ ROwn yb va vs wb := fun hr => (unhide HT0).wb_all (.inl hr)
    have HX1 := hide hX1
    have HG1 := hide hG1'
    clear hX1 hG1 hG1' hY1 hw1 p0 c0 x3 x0
    go_upto_region 5 with fail
    go_region_held3 (fun w' => w'.cell? ⟨wb, 1, none⟩ = some (.pointer (some ⟨yb, 0, none⟩)) ∧ w'.cell? ⟨w.heap.size, 3, none⟩ = some (.string data))
      (first | (with_reducible exact ⟨p2, p3⟩) | (with_reducible exact ⟨c1, p1⟩) | go_keep)
      (first | (go_at_call 12; refine hRy.mono ?_; clear hRy; rintro ev w2 ⟨rfl, vf2, va2, vs2, N2, c2, hY2, hR2, hl2⟩; have p2 := hR2.turn.cell (w := w1.drew) c1 hwbr; have p3 := hR2.turn.cell (w := w1.drew) p1 hw0r))
    have hR2' : RGoes w1 yb vf va vs w2 vf2 va2 vs2 := ⟨⟨hR2.turn.os, hR2.turn.tape, hR2.turn.output, hR2.turn.size, hR2.turn.block⟩, hR2.own, hR2.all⟩
    obtain ⟨hT2, hB2⟩ := (unhide HT0).step (unhide HX1) (unhide HG1) hY2 hR2'
    have hAl := alike_any B wb lb sb mb yb v1 vf2 va2 vs2 L' q A' N2 c2 w2 hT2 (by have := (unhide HAp).1; omega) (fun a ha => by have := (unhide HAp).2 a ha; omega) (by have := (unhide HGp).len; omega) (fun b hb => by have h1 := (unhide HGp).size hb; have h2 := (unhide HGp).data b hb; omega)
    have HB2 : Hid (Below B w w2) := hide ((unhide HB0).trans hB2)
    clear hY2 hR2 hR2' HX1 HG1 hT2 hB2 c1 p1 p2 p3
    go_wp2_with (go_at_call 8; refine hAl.mono ?_; clear hAl; rintro ev w3 ⟨rfl, hT3, hB3⟩)
    go_ret
    exact ⟨rfl, ⟨lb, sb, mb, yb, vf2, vs2, L', q, N2, c2, hT3, unhide HGp, unhide HQ, by have := unhide HNl; omega⟩, (unhide HB2).trans hB3⟩
end Go.Proofs.YtpiponkhhimaoaaGreatDoor
