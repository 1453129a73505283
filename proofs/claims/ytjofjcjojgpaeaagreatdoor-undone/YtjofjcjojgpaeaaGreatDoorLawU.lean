import Derived.Test.YtjofjcjojgpaeaaGreatDoorJLst
import Derived.Test.YtjofjcjojgpaeaaGreatDoorJTelE
import Derived.Test.YtjofjcjojgpaeaaGreatDoorJPatY
import Derived.Test.YtjofjcjojgpaeaaGreatDoorJPatS
import Derived.Test.YtjofjcjojgpaeaaGreatDoorJRefH
namespace Go.Proofs.YtjofjcjojgpaeaaGreatDoor
open Go.RowKit Go.Maps

set_option maxHeartbeats 4000000 in
set_option maxRecDepth 100000 in
theorem lawU_any (ao bo : Option Addr) (ca cb na nb : Nat) (xs ys : List Tg) (w : World) (ha : TgRow w ao xs) (hb : TgRow w bo ys) (HNa : Hid (na = xs.length)) (HNb : Hid (nb = ys.length)) (hna : na ≤ 140737488351232) (hnb : nb ≤ 140737488351232) (hl : Laid w) :
    Calls Tryz.prog 3 #[.slice ao na ca, .slice bo nb cb] w fun ev w' => ev = .returned (.bool true) ∧ Below w.heap.size w w' := by
  have HB := hide hb
  have HL := hide hl
  have hRa := rawTree_any ao ca na xs w ha HNa hna
  clear ha hb hl
  go_enter Tryz.func3, Tryz.ntmps3
  go_upto_region 2 with (go_at_call 6; refine hRa.mono ?_; clear hRa; rintro ev w1 ⟨eo, ec1, en, xa, rfl, HEN, hea, hec, HTa, hb1⟩)
  have hRb := rawTree_any bo cb nb ys w1 ((unhide HB).below hb1) HNb hnb
  have HEA := hide hea
  clear HB hea
  go_upto_region 3 with (go_at_call 6; refine hRb.mono ?_; clear hRb; rintro ev w2 ⟨fo, fc, fn, xb, rfl, HFN, hfb, hfc, HTb, hb2⟩)
  have hB2 : Below w.heap.size w w2 := hb1.trans (hb2.mono hb1.size)
  have hLa : xa.length ≤ 17 := (unhide HTa).len
  have hLb : xb.length ≤ 17 := (unhide HTb).len
  have HFa : Hid (FirstBad xa (-1)) := hide (firstBad_of (unhide HTa).tree (by omega))
  have HFb : Hid (FirstBad xb (-1)) := hide (firstBad_of (unhide HTb).tree (by omega))
  have HSa : Hid (Small xa) := hide (unhide HTa).sizes
  have HSb : Hid (Small xb) := hide (unhide HTb).sizes
  have hen : en ≤ 17 := by rw [unhide HEN]; exact hLa
  have hfn : fn ≤ 17 := by rw [unhide HFN]; exact hLb
  have HEA2 := hide ((unhide HEA).below hb2)
  have HFB := hide hfb
  clear hfb HEA hb1 hb2
  have hD1 := pdiff_any eo fo ec1 fc en fn xa xb w2 (unhide HEA2) (unhide HFB) HEN HFN (by omega) (by omega) HSa HSb ((unhide HL).below hB2)
  go_upto_region 4 with (go_at_call 7; refine hD1.mono ?_; clear hD1; rintro ev w3 ⟨dv, de, dn, rfl, HD, hb3⟩)
  obtain ⟨rfl, rfl, B3, hO3⟩ : de = 0 ∧ dn = -1 ∧ ∃ B, OwnC w3 B dv (diffF xa xb) := by
    rcases unhide HD with ⟨i, h, _⟩ | ⟨_, _, h1, h2, h3⟩
    · rcases h with h | ⟨_, h⟩
      · have := firstBad_one h (unhide HFa); omega
      · have := firstBad_one h (unhide HFb); omega
    · exact ⟨h1, h2, h3⟩
  obtain ⟨go, gc, gn, rfl, HGN, hgr, hgc⟩ := ownC_row hO3
  have hB3 := hB2.trans (hb3.mono hB2.size)
  have HEA3 := hide ((unhide HEA2).below hb3)
  have HFB3 := hide ((unhide HFB).below hb3)
  have hgn : gn ≤ 80 := by rw [unhide HGN]; exact diff_len (unhide HTa).tree (unhide HTb).tree (by omega)
  have hP1 := ppatch_any eo go ec1 gc en gn xa (diffF xa xb) w3 (unhide HEA3) hgr HEN HGN (by omega) (by omega) hgc HSa (hide (diff_smallE (unhide HSa) (unhide HSb))) ((unhide HL).below hB3)
  clear HD hO3 hgr HGN hb3 HEA2 HFB
  go_upto_region 5 with (go_at_call 8; refine hP1.mono ?_; clear hP1; rintro ev w4 ⟨lo, lc, ln, ks, te, tm, rfl, HTN, HTR, HPP, hb4⟩)
  obtain ⟨hks, hte⟩ := und_told (unhide HTa).tree (unhide HTb).tree (unhide HFa) (by omega) (unhide HPP)
  rw [hks] at HTN HTR
  subst hte
  have hln : fn = ln := (unhide HFN).trans (unhide HTN).symm
  subst hln
  have hB4 := hB3.trans (hb4.mono hB3.size)
  have HEA4 := hide ((unhide HEA3).below hb4)
  have HFB4 := hide ((unhide HFB3).below hb4)
  have hS1 := sameE_any lo fo lc fc fn xb w4 (unhide HTR) (unhide HFB4) HFN (by omega)
  clear HPP HEA3 HFB3 hb4 hks HTN
  go_upto_region 6 with (go_at_call 9; refine hS1.mono ?_; clear hS1; rintro ev w5 ⟨rfl, hb5⟩)
  have hB5 := hB4.trans (hb5.mono hB4.size)
  have HEA5 := hide ((unhide HEA4).below hb5)
  have HFB5 := hide ((unhide HFB4).below hb5)
  have HTR5 := hide ((unhide HTR).below hb5)
  clear HEA4 HFB4 HTR hb5
  have hD2 := pdiff_any fo eo fc ec1 fn en xb xa w5 (unhide HFB5) (unhide HEA5) HFN HEN (by omega) (by omega) HSb HSa ((unhide HL).below hB5)
  go_upto_region 7 with (go_at_call 7; refine hD2.mono ?_; clear hD2; rintro ev w6 ⟨dv, de, dn, rfl, HD, hb6⟩)
  obtain ⟨rfl, rfl, B6, hO6⟩ : de = 0 ∧ dn = -1 ∧ ∃ B, OwnC w6 B dv (diffF xb xa) := by
    rcases unhide HD with ⟨i, h, _⟩ | ⟨_, _, h1, h2, h3⟩
    · rcases h with h | ⟨_, h⟩
      · have := firstBad_one h (unhide HFb); omega
      · have := firstBad_one h (unhide HFa); omega
    · exact ⟨h1, h2, h3⟩
  obtain ⟨ho, hc, hn, rfl, HHN, hhr, hhc⟩ := ownC_row hO6
  have hB6 := hB5.trans (hb6.mono hB5.size)
  have HEA6 := hide ((unhide HEA5).below hb6)
  have HTR6 := hide ((unhide HTR5).below hb6)
  have hhn : hn ≤ 80 := by rw [unhide HHN]; exact diff_len (unhide HTb).tree (unhide HTa).tree (by omega)
  have hP2 := ppatch_any lo ho lc hc fn hn xb (diffF xb xa) w6 (unhide HTR6) hhr HFN HHN (by omega) (by omega) hhc HSb (hide (diff_smallE (unhide HSb) (unhide HSa))) ((unhide HL).below hB6)
  clear HD hO6 hhr HHN hb6 HEA5 HFB5 HTR5
  go_upto_region 8 with (go_at_call 8; refine hP2.mono ?_; clear hP2; rintro ev w7 ⟨mo, mc, mn, ks2, te2, tm2, rfl, HMN, HMR, HPP2, hb7⟩)
  obtain ⟨hks, hte⟩ := und_told (unhide HTb).tree (unhide HTa).tree (unhide HFb) (by omega) (unhide HPP2)
  rw [hks] at HMN HMR
  subst hte
  have hmn : en = mn := (unhide HEN).trans (unhide HMN).symm
  subst hmn
  have hB7 := hB6.trans (hb7.mono hB6.size)
  have HEA7 := hide ((unhide HEA6).below hb7)
  have hS2 := sameE_any mo eo mc ec1 en xa w7 (unhide HMR) (unhide HEA7) HEN (by omega)
  clear HPP2 HEA6 HTR6 hb7 hks HMN HMR
  go_upto_region 9 with (go_at_call 9; refine hS2.mono ?_; clear hS2; rintro ev w8 ⟨rfl, hb8⟩)
  have hB8 := hB7.trans (hb8.mono hB7.size)
  have HEA8 := hide ((unhide HEA7).below hb8)
  clear HEA7 hb8
  have hD3 := pdiff_any eo eo ec1 ec1 en en xa xa w8 (unhide HEA8) (unhide HEA8) HEN HEN (by omega) (by omega) HSa HSa ((unhide HL).below hB8)
  go_upto_region 10 with (go_at_call 7; refine hD3.mono ?_; clear hD3; rintro ev w9 ⟨dv, de, dn, rfl, HD, hb9⟩)
  obtain ⟨rfl, rfl, B9, hO9⟩ : de = 0 ∧ dn = -1 ∧ ∃ B, OwnC w9 B dv (diffF xa xa) := by
    rcases unhide HD with ⟨i, h, _⟩ | ⟨_, _, h1, h2, h3⟩
    · rcases h with h | ⟨_, h⟩
      · have := firstBad_one h (unhide HFa); omega
      · have := firstBad_one h (unhide HFa); omega
    · exact ⟨h1, h2, h3⟩
  obtain ⟨no, nc, nn, rfl, HNN, _, _⟩ := ownC_row hO9
  obtain rfl : nn = 0 := by rw [unhide HNN, diff_same (unhide HTa).tree]; rfl
  have hB9 := hB8.trans (hb9.mono hB8.size)
  clear HD hO9 HNN hb9
  go_wp2_with fail
  go_ret
  exact ⟨rfl, hB9⟩
end Go.Proofs.YtjofjcjojgpaeaaGreatDoor
