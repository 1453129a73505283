import Derived.Test.YtkeefkfklmhcjaaGreatDoorTop
namespace Go.Proofs.YtkeefkfklmhcjaaGreatDoor
open Go.RowKit Go.Maps

theorem diff_small {xa xb : List Ent} (ha : Tree xa) (hb : Tree xb) : (diffF xa xb).length ≤ 243 := by
  have h1 := diffF_len xa xb (allP xa xb)
  have h2 := allP_len ha hb
  rw [diffF]; omega
set_option maxHeartbeats 2000000 in
set_option maxRecDepth 100000 in
theorem law_any (ao bo : Option Addr) (ca cb na nb : Nat) (xa xb : List Ent) (w : World) (ha : ERow w ao xa) (hb : ERow w bo xb) (HNa : Hid (na = xa.length)) (HNb : Hid (nb = xb.length)) (hna : na ≤ 4294967280) (hnb : nb ≤ 4294967280) (hca : na ≤ ca) (hcb : nb ≤ cb) (HSa : Hid (Small xa)) (HSb : Hid (Small xb)) (hl : Laid w) :
    Calls Tryz.prog 4 #[.slice ao na ca, .slice bo nb cb] w fun ev w' => ev = .returned (.bool true) ∧ Below w.heap.size w w' := by
  have HA := hide ha
  have HB := hide hb
  have HL := hide hl
  clear ha hb hl
  go_enter Tryz.func4, Tryz.ntmps4
  go_upto_region 2 with (first
    | (go_at_call 12; refine (treeE_any w).mono ?_; rintro ev w1 ⟨tq, tc, rfl, hrt, hb1⟩)
    | (go_at_call 11; refine (pdiff_any none tq 0 tc 0 3 [] treeE w1 (erow_nil _ _) hrt (hide rfl) (hide rfl) (by omega) (by omega) (hide nil_small) (hide tree_small) ((unhide HL).below hb1)).mono ?_; rintro ev w2 ⟨v2, e2, n2, rfl, HP2, hb2⟩))
  obtain ⟨he2, B2, hO2⟩ : e2 = 0 ∧ ∃ B, OwnC w2 B v2 (diffF [] treeE) := by
    rcases unhide HP2 with ⟨i, hF, _⟩ | ⟨_, _, he, _, hO⟩
    · rcases hF with hF | ⟨_, hF⟩
      · have := firstBad_one hF nil_bad; omega
      · have := firstBad_one hF tree_bad; omega
    · exact ⟨he, hO⟩
  subst he2
  have hB2 : Below w.heap.size w w2 := hb1.trans (hb2.mono hb1.size)
  have HO2 := hide hO2
  have T0 : Hid (Tree []) := hide (tree_of nil_bad nil_small)
  have T1 : Hid (Tree treeE) := hide (tree_of tree_bad tree_small)
  clear HP2 hO2 hrt hb1 hb2
  go_upto_region 3 with (first
    | (go_at_call 12; refine (treeE_any w2).mono ?_; rintro ev w3 ⟨tq3, tc3, rfl, hrt3, hb3⟩)
    | (go_at_call 14; refine (refDiff_any none tq3 0 tc3 0 3 [] treeE w3 (erow_nil _ _) hrt3 (hide rfl) (hide rfl) T0 T1).mono ?_; rintro ev w4 ⟨v4, rfl, hO4, hb4⟩; obtain ⟨do2, dc2, dn2, rfl, HDN2, hdr2, _⟩ := ownC_row (((unhide HO2).later hb3).later hb4); obtain ⟨do4, dc4, dn4, rfl, HDN4, hdr4, _⟩ := ownC_row hO4; have hdn : dn2 = dn4 := ((unhide HDN2).trans (unhide HDN4).symm); subst hdn)
    | (go_at_call 13; refine (sameC_any do2 do4 dc2 dc4 dn2 _ w4 hdr2 hdr4 HDN2 (by have := diff_small (unhide T0) (unhide T1); rw [unhide HDN2]; omega)).mono ?_; rintro ev w5 ⟨rfl, hb5⟩))
  have hB5 : Below w.heap.size w w5 := hB2.trans ((hb3.trans ((hb4.trans (hb5.mono hb4.size)).mono hb3.size)).mono hB2.size)
  clear hdr2 hdr4 HDN2 HDN4 HO2 hO4 hrt3 hb3 hb4 hb5
  go_upto_region 8 with (first
    | (go_at_call 11; refine (pdiff_any ao bo ca cb na nb xa xb w5 ((unhide HA).below hB5) ((unhide HB).below hB5) HNa HNb hna hnb HSa HSb ((unhide HL).below hB5)).mono ?_; rintro ev w6 ⟨v6, e6, n6, rfl, HP6, hb6⟩; have hB6 := hB5.trans (hb6.mono hB5.size); have HW2 := hide (wrong_any bo cb nb xb))
    | (go_at_call_of 10 (Value.slice ao na ca); refine (wrong_any ao ca na xa w6 ((unhide HA).below hB6) HNa hna hca HSa).mono ?_; rintro ev w7 ⟨r7, rfl, HF7, hb7⟩; have hB7 := hB6.trans (hb7.mono hB6.size))
    | (go_at_call_of 10 (Value.slice bo nb cb); refine (wrong_any bo cb nb xb w7 ((unhide HB).below hB7) HNb hnb hcb HSb).mono ?_; rintro ev w8 ⟨r8, rfl, HF8, hb8⟩; have hB8 := hB7.trans (hb8.mono hB7.size)))
  clear HW2
  rcases unhide HP6 with ⟨i, hF, rfl, rfl, rfl⟩ | ⟨hF1, hF2, rfl, rfl, B, hO⟩
  · have i0 : (0 : Int) ≤ (i : Int) := by omega
    rcases hF with hF | ⟨hF1, hF2⟩
    · have e7 : r7 = (i : Int) := firstBad_one (unhide HF7) hF
      subst e7
      clear hF HP6 HF7 HF8 hb6 hb7 hb8
      go_wp2_with fail
      go_ret
      exact ⟨rfl, hB8⟩
    · have e7 : r7 = -1 := firstBad_one (unhide HF7) hF1
      have e8 : r8 = (i : Int) := firstBad_one (unhide HF8) hF2
      subst e7 e8
      clear hF1 hF2 HP6 HF7 HF8 hb6 hb7 hb8
      go_wp2_with fail
      go_ret
      exact ⟨rfl, hB8⟩
  · have e7 : r7 = -1 := firstBad_one (unhide HF7) hF1
    have e8 : r8 = -1 := firstBad_one (unhide HF8) hF2
    have TA : Hid (Tree xa) := hide (tree_of hF1 (unhide HSa))
    have TB : Hid (Tree xb) := hide (tree_of hF2 (unhide HSb))
    have HO8 := hide ((hO.later hb7).later hb8)
    subst e7 e8
    clear hF1 hF2 HP6 HF7 HF8 hO hb6 hb7 hb8
    go_wp2_with (first
      | (go_at_call 14; refine (refDiff_any ao bo ca cb na nb xa xb w8 ((unhide HA).below hB8) ((unhide HB).below hB8) HNa HNb TA TB).mono ?_; rintro ev w9 ⟨v9, rfl, hO9, hb9⟩; obtain ⟨fo, fc, fn, rfl, HFN, hfr, _⟩ := ownC_row ((unhide HO8).later hb9); obtain ⟨ko, kc, kn, rfl, HKN, hkr, _⟩ := ownC_row hO9; have hkn : fn = kn := ((unhide HFN).trans (unhide HKN).symm); subst hkn)
      | (go_at_call 13; refine (sameC_any fo ko fc kc fn _ w9 hfr hkr HFN (by have := diff_small (unhide TA) (unhide TB); rw [unhide HFN]; omega)).mono ?_; rintro ev w10 ⟨rfl, hb10⟩))
    go_ret
    exact ⟨rfl, hB8.trans ((hb9.trans (hb10.mono hb9.size)).mono hB8.size)⟩
end Go.Proofs.YtkeefkfklmhcjaaGreatDoor
