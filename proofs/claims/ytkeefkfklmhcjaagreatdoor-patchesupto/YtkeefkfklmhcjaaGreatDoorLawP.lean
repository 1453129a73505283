import Derived.Test.YtkeefkfklmhcjaaGreatDoorPatY
import Derived.Test.YtkeefkfklmhcjaaGreatDoorPatZ
import Derived.Test.YtkeefkfklmhcjaaGreatDoorJRefE
import Derived.Test.YtkeefkfklmhcjaaGreatDoorJPatU
namespace Go.Proofs.YtkeefkfklmhcjaaGreatDoor
open Go.RowKit Go.Maps

/-- The change of the example. -/
def goneE : List Ent := [⟨⟨#[97]⟩, 4, 0, ⟨#[]⟩⟩]
theorem gone_small : Small goneE := fun e he => by
  simp only [goneE, List.mem_cons, List.not_mem_nil, or_false] at he
  subst he; decide
theorem gone_below (w : World) : Below w.heap.size w (w.alloc (.cells #[.string ⟨#[97]⟩, .int .i64 4, .int .i64 0, .string ⟨#[]⟩] 39)) := (Below.refl _ _).alloc (Nat.le_refl _) _
theorem gone_row (w : World) : ERow (w.alloc (.cells #[.string ⟨#[97]⟩, .int .i64 4, .int .i64 0, .string ⟨#[]⟩] 39)) (some ⟨w.heap.size, 0, none⟩) goneE := fun k e hk => by
  have hc : (w.alloc (.cells #[.string ⟨#[97]⟩, .int .i64 4, .int .i64 0, .string ⟨#[]⟩] 39)).heap[w.heap.size]? = some (.cells #[.string ⟨#[97]⟩, .int .i64 4, .int .i64 0, .string ⟨#[]⟩] 39 (0, 0)) := heap_alloc_new _ _
  have h0 : k = 0 := by
    have := (List.getElem?_eq_some_iff.1 hk).1
    simp [goneE] at this
    omega
  subst h0
  simp [goneE] at hk
  subst hk
  exact ⟨_, _, rfl, cell_of_row _ _ 0 _ _ _ hc, cell_of_row _ _ 1 _ _ _ hc, cell_of_row _ _ 2 _ _ _ hc, cell_of_row _ _ 3 _ _ _ hc⟩
theorem gone_fine : PFine treeE goneE := by
  refine ⟨.inl ⟨rfl, fun i hi => ?_⟩, .inl ⟨rfl, fun i hi => ?_⟩, .inl ⟨rfl, fun i hi => ?_⟩⟩
  · have h : i = 0 := by simp [goneE] at hi; omega
    subst h; decide +kernel
  · have h : i = 0 := by simp [goneE] at hi; omega
    subst h; decide +kernel
  · have h : i = 0 := by simp [goneE] at hi; omega
    subst h; decide +kernel
theorem gone_len : (patF treeE goneE).length = 1 := by decide +kernel
theorem fine_no {xa cs : List Ent} {c : Int} {i : Nat} (h : PFine xa cs) (he : PErr xa cs c i) : False := by
  obtain ⟨h1, h2, h3⟩ := h
  rcases he with ⟨_, h⟩ | ⟨_, _, h⟩ | ⟨_, _, _, h⟩
  · have := firstBadC_one h h1; omega
  · have := firstP_one h h2; omega
  · have := firstP_one h h3; omega
theorem gone_told {ks : List Ent} {e n : Int} (h : PPatIs treeE goneE ks e n) : ks.length = 1 ∧ e = 0 := by
  rcases h with ⟨i, _, _, _, h⟩ | ⟨_, c, i, _, _, _, h⟩ | ⟨_, _, h, _⟩ | ⟨_, _, _, rfl, rfl, _⟩
  · have := firstBad_one h tree_bad; omega
  · exact (fine_no gone_fine h).elim
  · rw [gone_len] at h; omega
  · exact ⟨gone_len, rfl⟩
/-- Both answers are the same. -/
theorem pats_meet {xa cs ks ks' : List Ent} {e n f m : Int} (hA : FirstBad xa (-1)) (hC : FirstBadC cs (-1)) (h1 : PPatIs xa cs ks e n) (h2 : RPat xa cs ks' f m) : ks' = ks ∧ f = e ∧ m = n := by
  rcases h1 with ⟨i, _, _, _, h⟩ | ⟨_, c, i, rfl, rfl, rfl, h⟩ | ⟨_, ⟨_, hm, hp⟩, hl, rfl, rfl, rfl⟩ | ⟨_, ⟨_, hm, hp⟩, hl, rfl, rfl, rfl⟩
  · have := firstBad_one h hA; omega
  · rcases h with ⟨_, h⟩ | ⟨rfl, _, h⟩ | ⟨rfl, _, hm, h⟩
    · have := firstBadC_one h hC; omega
    · rcases h2 with ⟨j, rfl, rfl, rfl, g⟩ | ⟨g, _⟩ | ⟨g, _⟩
      · exact ⟨rfl, rfl, firstP_one g h⟩
      · have := firstP_one h g; omega
      · have := firstP_one h g; omega
    · rcases h2 with ⟨j, _, _, _, g⟩ | ⟨_, j, rfl, rfl, rfl, g⟩ | ⟨_, g, _⟩
      · have := firstP_one g hm; omega
      · exact ⟨rfl, rfl, firstP_one g h⟩
      · have := firstP_one h g; omega
  · rcases h2 with ⟨j, _, _, _, g⟩ | ⟨_, j, _, _, _, g⟩ | ⟨_, _, g⟩
    · have := firstP_one g hm; omega
    · have := firstP_one g hp; omega
    · rcases g with ⟨_, rfl, rfl, rfl⟩ | ⟨g, _⟩
      · exact ⟨rfl, rfl, rfl⟩
      · omega
  · rcases h2 with ⟨j, _, _, _, g⟩ | ⟨_, j, _, _, _, g⟩ | ⟨_, _, g⟩
    · have := firstP_one g hm; omega
    · have := firstP_one g hp; omega
    · rcases g with ⟨g, _⟩ | ⟨_, rfl, rfl, rfl⟩
      · omega
      · exact ⟨rfl, rfl, rfl⟩
theorem rpat_len {xa cs ks : List Ent} {f m : Int} (h : RPat xa cs ks f m) : ks.length ≤ 40 := by
  rcases h with ⟨_, rfl, _⟩ | ⟨_, _, rfl, _⟩ | ⟨_, _, h⟩
  · simp
  · simp
  · rcases h with ⟨_, rfl, _⟩ | ⟨h, rfl, _⟩
    · simp
    · exact h
/-- The document's Patch, of any list. -/
theorem refP_any (ao : Option Addr) (ca na : Nat) (es : List Ent) (bo : Option Addr) (cb nb : Nat) (cs : List Ent) (w : World) (h0 : ao = none → na = 0 ∧ ca = 0) (hr : ERow w ao es) (HN : Hid (na = es.length)) (hn : na ≤ 40) (HT : Hid (TreeS es)) (HS : Hid (Small es)) (hrc : ERow w bo cs) (HNb : Hid (nb = cs.length)) (hnb : nb ≤ 80) (HSc : Hid (Small cs)) (HC : Hid (∀ c ∈ cs, chOk c = true)) :
    Calls Tryz.prog 17 #[.slice ao na ca, .slice bo nb cb] w fun ev w' => ∃ ao' cap' n' ks f m, ev = .returned (.tuple #[.slice ao' n' cap', .int .i64 f, .int .i64 m]) ∧ Hid (n' = ks.length) ∧ ERow w' ao' ks ∧ Hid (RPat es cs ks f m) ∧ Below w.heap.size w w' := by
  cases ao with
  | some a => exact refPatch_any a ca na es bo cb nb cs w hr HN hn HT HS hrc HNb hnb HSc HC
  | none =>
    obtain ⟨rfl, rfl⟩ := h0 rfl
    exact refPatch0_any 0 es bo cb nb cs w (hide (List.length_eq_zero_iff.1 (unhide HN).symm)) HN hn HT HS hrc HNb hnb HSc HC
set_option maxHeartbeats 4000000 in
set_option maxRecDepth 100000 in
theorem lawP_any (ao bo : Option Addr) (ca cb na nb : Nat) (xa cs : List Ent) (w : World) (h0 : ao = none → na = 0 ∧ ca = 0) (ha : ERow w ao xa) (hb : ERow w bo cs) (HNa : Hid (na = xa.length)) (HNb : Hid (nb = cs.length)) (hna : na ≤ 4294967280) (hnb : nb ≤ 4294967280) (hca : na ≤ ca) (hcb : nb ≤ cb) (HSa : Hid (Small xa)) (HSb : Hid (Small cs)) (hl : Laid w) :
    Calls Tryz.prog 5 #[.slice ao na ca, .slice bo nb cb] w fun ev w' => ev = .returned (.bool true) ∧ Below w.heap.size w w' := by
  have HA := hide ha
  have HB := hide hb
  have HL := hide hl
  have H0 := hide h0
  clear ha hb hl h0
  go_enter Tryz.func5, Tryz.ntmps5
  go_upto_region 2 with (first
    | (go_at_call 12; refine (treeE_any w).mono ?_; rintro ev w1 ⟨tq, tc, rfl, hrt, hb1⟩; have hbA := gone_below w1; have hrg := gone_row w1)
    | (go_at_call 15; refine (ppatch_any tq (some ⟨w1.heap.size, 0, none⟩) tc 1 3 1 treeE goneE _ (hrt.below hbA) hrg (hide rfl) (hide rfl) (by omega) (by omega) (Nat.le_refl _) (hide tree_small) (hide gone_small) (((unhide HL).below hb1).below hbA)).mono ?_; rintro ev w2 ⟨uo, uc, un, us, ue, um, rfl, HUN, _, HUP, hb2⟩))
  obtain ⟨hu1, rfl⟩ := gone_told (unhide HUP)
  obtain rfl : un = 1 := (unhide HUN).trans hu1
  have hB1 : Below w.heap.size w _ := hb1.trans (hbA.mono hb1.size)
  have hB2 := hB1.trans (hb2.mono hB1.size)
  clear HUP HUN hrt hrg hb1 hbA hb2 hu1 hB1
  go_upto_region 5 with (go_at_call 15; refine (ppatch_any ao bo ca cb na nb xa cs w2 ((unhide HA).below hB2) ((unhide HB).below hB2) HNa HNb hna hnb hcb HSa HSb ((unhide HL).below hB2)).mono ?_; rintro ev w3 ⟨vo, vc, vn, ks, e, n, rfl, HVN, HVR, HP, hb3⟩)
  have hB3 := hB2.trans (hb3.mono hB2.size)
  go_upto_region 7 with (first
    | (go_at_call 10; refine (wrong_any ao ca na xa w3 ((unhide HA).below hB3) HNa hna hca HSa).mono ?_; rintro ev w4 ⟨rx, rfl, HFX, hb4⟩; have hB4 := hB3.trans (hb4.mono hB3.size))
    | (go_at_call 16; refine (barred_any bo cb nb cs w4 ((unhide HB).below hB4) HNb hnb hcb HSb).mono ?_; rintro ev w5 ⟨ry, rfl, HFY, hb5⟩; have hB5 := hB4.trans (hb5.mono hB4.size)))
  have HVR5 : Hid (ERow w5 vo ks) := hide (((unhide HVR).below hb4).below hb5)
  clear HVR hb3 hb4 hb5 hB2 hB3 hB4
  have fin : (∃ i : Nat, rx = i ∧ vn = 0 ∧ e = 2 ∧ n = i) ∨ (rx = -1 ∧ ∃ i : Nat, ry = i ∧ vn = 0 ∧ e = 3 ∧ n = i) ∨ (rx = -1 ∧ ry = -1) := by
    rcases unhide HP with ⟨i, rfl, rfl, rfl, h⟩ | ⟨h, c, i, rfl, rfl, rfl, hp⟩ | ⟨h, hp, _⟩ | ⟨h, hp, _⟩
    · exact .inl ⟨i, firstBad_one (unhide HFX) h, unhide HVN, rfl, rfl⟩
    · rcases hp with ⟨rfl, hp⟩ | ⟨_, hp, _⟩ | ⟨_, hp, _⟩
      · exact .inr (.inl ⟨firstBad_one (unhide HFX) h, i, firstBadC_one (unhide HFY) hp, unhide HVN, rfl, rfl⟩)
      · exact .inr (.inr ⟨firstBad_one (unhide HFX) h, firstBadC_one (unhide HFY) hp⟩)
      · exact .inr (.inr ⟨firstBad_one (unhide HFX) h, firstBadC_one (unhide HFY) hp⟩)
    · exact .inr (.inr ⟨firstBad_one (unhide HFX) h, firstBadC_one (unhide HFY) hp.1⟩)
    · exact .inr (.inr ⟨firstBad_one (unhide HFX) h, firstBadC_one (unhide HFY) hp.1⟩)
  rcases fin with ⟨i, rfl, rfl, rfl, rfl⟩ | ⟨rfl, i, rfl, rfl, rfl, rfl⟩ | ⟨rfl, rfl⟩
  · have i0 : (0 : Int) ≤ (i : Int) := by omega
    clear HP HFX HFY HVN HVR5
    go_wp2_with fail
    go_ret
    exact ⟨rfl, hB5⟩
  · have i0 : (0 : Int) ≤ (i : Int) := by omega
    clear HP HFX HFY HVN HVR5
    go_wp2_with fail
    go_ret
    exact ⟨rfl, hB5⟩
  · have hT := tree_of (unhide HFX) (unhide HSa)
    have hC := okAll (unhide HFY)
    have hR := refP_any ao ca na xa bo cb nb cs w5 (unhide H0) ((unhide HA).below hB5) HNa (by have := hT.len; have := unhide HNa; omega) (hide (treeS_of hT.ok)) HSa ((unhide HB).below hB5) HNb (by have := hC.2; have := unhide HNb; omega) HSb (hide hC.1)
    clear hT hC
    go_upto_region 12 with (go_at_call 17; refine hR.mono ?_; clear hR; rintro ev w6 ⟨zo, zc, zn, zs, f, m, rfl, HZN, hzr, HRP, hb6⟩)
    obtain ⟨rfl, rfl, rfl⟩ := pats_meet (unhide HFX) (unhide HFY) (unhide HP) (unhide HRP)
    obtain rfl : zn = vn := (unhide HZN).trans (unhide HVN).symm
    have hz40 : zn ≤ 40 := by rw [unhide HZN]; exact rpat_len (unhide HRP)
    have hB6 := hB5.trans (hb6.mono hB5.size)
    have hS := sameE_any vo zo vc zc zn zs w6 ((unhide HVR5).below hb6) hzr HZN (by omega)
    clear HP HRP HFX HFY HVN HVR5 HZN hzr hb6
    go_wp2_with (go_at_call 18; refine hS.mono ?_; clear hS; rintro ev w7 ⟨rfl, hb7⟩)
    go_ret
    exact ⟨rfl, hB6.trans (hb7.mono hB6.size)⟩
end Go.Proofs.YtkeefkfklmhcjaaGreatDoor
