import Derived.Test.YtkeefkfklmhcjaaGreatDoorRefE
import Derived.Test.YtkeefkfklmhcjaaGreatDoorRefF
import Derived.Test.YtkeefkfklmhcjaaGreatDoorDifA
namespace Go.Proofs.YtkeefkfklmhcjaaGreatDoor
open Go.RowKit

theorem refClr_is {c : Bool} (ao bo : Option Addr) (ca cb na nb : Nat) (xa xb : List Ent) (s : ByteArray) (w : World) (hc : Hid (clrF xa xb s.data.toList = c)) (ha : ERow w ao xa) (hb : ERow w bo xb) (HNa : Hid (na = xa.length)) (HNb : Hid (nb = xb.length)) (HTa : Hid (Tree xa)) (HTb : Hid (Tree xb)) :
    Calls Tryz.prog 35 #[.slice ao na ca, .slice bo nb cb, .string s] w fun ev w' => ev = .returned (.bool c) ∧ Below w.heap.size w w' := (unhide hc) ▸ refClr_any ao bo ca cb na nb xa xb s w ha hb HNa HNb HTa HTb
theorem kind_is (ao : Option Addr) (cap n : Nat) (es : List Ent) (p : ByteArray) (q : List UInt8) (w : World) (hr : ERow w ao es) (HN : Hid (n = es.length)) (hn : n ≤ 4294967280) (hp : Hid (p.data.toList = q)) :
    Calls Tryz.prog 31 #[.slice ao n cap, .string p] w fun ev w' => ∃ r : Int, ev = .returned (.int .i64 r) ∧ Hid (r = kindP es q) ∧ w' = w := (unhide hp) ▸ kind_any ao cap n es p w hr HN hn
set_option maxHeartbeats 4000000 in
set_option maxRecDepth 100000 in
theorem refDiff_any (ao bo : Option Addr) (ca cb na nb : Nat) (xa xb : List Ent) (w : World) (ha : ERow w ao xa) (hb : ERow w bo xb) (HNa : Hid (na = xa.length)) (HNb : Hid (nb = xb.length)) (HTa : Hid (Tree xa)) (HTb : Hid (Tree xb)) :
    Calls Tryz.prog 14 #[.slice ao na ca, .slice bo nb cb] w fun ev w' => ∃ v, ev = .returned v ∧ OwnC w' w.heap.size v (diffF xa xb) ∧ Below w.heap.size w w' := by
  obtain ⟨i0, hi, hz0, hz1, hz2⟩ := info_parts Tryz.info39
  have hna : na ≤ 40 := by rw [unhide HNa]; exact (unhide HTa).len
  have hnb : nb ≤ 40 := by rw [unhide HNb]; exact (unhide HTb).len
  have HA := hide ha
  have HB := hide hb
  clear ha hb
  go_enter Tryz.func14, Tryz.ntmps14
  go_upto_region 4 with (go_at_call 33; refine (both_any ao bo ca cb na nb xa xb w (unhide HA) (unhide HB) HNa HNb HTa HTb).mono ?_; rintro ev w1 ⟨g, cap, n, ps, rfl, HN, ht, HT, hb1⟩)
  have hn : n ≤ 81 := by
    have := allP_len (unhide HTa) (unhide HTb)
    rw [unhide HN, ← txts_len, unhide HT]; exact this
  have HTR := hide ht
  clear ht
  go_loopw [5, 7] (fun v i wr => ∃ (k : Nat) (ks : List Ent), k ≤ n ∧ i = .int .i64 k ∧ ks.length ≤ 3 * k ∧ OwnC wr w1.heap.size v ks ∧ Below w1.heap.size w1 wr ∧ Hid (ks = (((allP xa xb).take k).map (stepF xa xb)).flatten)) (fun _ i _ => n - (intOf i).toNat)
  case atStart => exact ⟨0, [], by omega, rfl, by simp, World.ownsRow_nil _ _ _ _, Below.refl _ _, hide (by simp)⟩
  case round =>
    obtain ⟨k, ks, hk, rfl, hkl, hown, hR3, HK⟩ := hrel
    have hB3 : Below w.heap.size w wr := hb1.trans (hR3.mono hb1.size)
    by_cases hlt : k < n
    · obtain ⟨b, hbk⟩ := get_lt (unhide HN) hlt
      obtain ⟨g', hg', cb'⟩ := (unhide HTR).below hR3 k b hbk
      cases hg'
      have hpk : (allP xa xb)[k]? = some b.data.toList := by rw [← unhide HT]; exact txts_get hbk
      have HP := hide (step_take hpk)
      have hmem := allP_mem.1 (List.mem_of_getElem? hpk)
      have hbs : b.size ≤ 1048576 := by
        rcases hmem with h | h | h
        · rw [Lib.size_eq, h]; simp
        · obtain ⟨e, he, hp⟩ := List.mem_map.1 h
          rw [Lib.size_eq, ← hp, ← Lib.size_eq]; exact ((unhide HTa).small e he).1
        · obtain ⟨e, he, hp⟩ := List.mem_map.1 h
          rw [Lib.size_eq, ← hp, ← Lib.size_eq]; exact ((unhide HTb).small e he).1
      have i0' : (0 : Int) ≤ (k : Int) := by omega
      have i1' : (k : Int) < (n : Int) := by omega
      have HO3 := hide hown
      have hAt1 := at_any ao ca na xa b wr ((unhide HA).below hB3) HNa (by omega)
      have hAt2 := at_any bo cb nb xb b wr ((unhide HB).below hB3) HNb (by omega)
      clear hbk hpk hmem hown
      go_upto_region 9 with (first
        | (go_at_call 34; refine hAt1.mono ?_; clear hAt1; rintro ev w2 ⟨x1, rfl, HX1, hw⟩; obtain rfl := hw.symm)
        | (go_at_call 34; refine hAt2.mono ?_; clear hAt2; rintro ev w3 ⟨x2, rfl, HX2, hw⟩; obtain rfl := hw.symm))

      rcases atIs_cases (unhide HX2) with ⟨rfl, hby⟩ | ⟨j, y, rfl, hjy, hby, hyp⟩
      · have HPu : Hid (putF xa xb b.data.toList = []) := hide (by simp [putF, hby])
        rcases atIs_cases (unhide HX1) with ⟨rfl, hax⟩ | ⟨i, x, rfl, hix, hax, hxp⟩
        · have HG : Hid (goneF xa xb b.data.toList = false) := hide (by simp [goneF, hax])
          clear hby hax
          go_quiet (fail)
          obtain ⟨w4, hw4⟩ : ∃ w4, wr.drewN nq = w4 := ⟨_, rfl⟩
          rw [hw4]
          have hR4 : Below w1.heap.size w1 w4 := by rw [← hw4]; exact below_drewN hR3 _
          have hB4 : Below w.heap.size w w4 := hb1.trans (hR4.mono hb1.size)
          have HO4 : Hid (OwnC w4 w1.heap.size u5 ks) := hide (by rw [← hw4]; exact unhide HO3)
          clear hw4
          cases hcl : clrF xa xb b.data.toList
          · have HC := hide hcl
            have HS : Hid (stepF xa xb b.data.toList = []) := hide (by rw [stepF, unhide HPu, hcl, unhide HG]; rfl)
            clear hcl
            go_wp2_with (first
        | (go_at_call 35; refine (refClr_is _ _ ca cb na nb xa xb b w4 HC ((unhide HA).below hB4) ((unhide HB).below hB4) HNa HNb HTa HTb).mono ?_; clear HC; rintro ev w5 ⟨rfl, hb5⟩; have hR5 := hR4.trans (hb5.mono hR4.size); have hB5 := hb1.trans (hR5.mono hb1.size); have HO5 := hide ((unhide HO4).later hb5); clear hb5))
            go_roundw
            case rel =>
              have hl : (ks).length ≤ 3 * (k + 1) := by
                have h3 := stepF_len xa xb b.data.toList
                rw [unhide HS] at h3
                simp at h3 ⊢
                omega
              have R : ks = (((allP xa xb).take (k + 1)).map (stepF xa xb)).flatten := by rw [unhide HP, ← unhide HK, unhide HS] <;> simp
              first
                | exact ⟨k + 1, ks, by omega, by go_num, hl, unhide HO5, hR5, hide R⟩
                | ((repeat apply Exists.intro); exact ⟨⟨k + 1, ks, by omega, by go_num, hl, unhide HO5, hR5, hide R⟩, rfl⟩)
            case measure => simp [intOf]; omega
          · have HC := hide hcl
            have HS : Hid (stepF xa xb b.data.toList = [(⟨b, 5, 0, ⟨#[]⟩⟩ : Ent)]) := hide (by rw [stepF, unhide HPu, hcl, unhide HG, ← mark_eq rfl]; rfl)
            clear hcl
            go_wp2_with (first
        | (go_at_call 35; refine (refClr_is _ _ ca cb na nb xa xb b w4 HC ((unhide HA).below hB4) ((unhide HB).below hB4) HNa HNb HTa HTb).mono ?_; clear HC; rintro ev w5 ⟨rfl, hb5⟩; have hR5 := hR4.trans (hb5.mono hR4.size); have hB5 := hb1.trans (hR5.mono hb1.size); have HO5 := hide ((unhide HO4).later hb5); clear hb5)
        | (at_builtin; refine wpList_append_own _ rfl _ _ 29 rfl w1.heap.size 39 i0 _ 4 48 Tryz.underlying29 hi hz0 hz1 hz2 rfl (by decide) _ _ _ rfl (World.ownsRow.alloc (unhide HO5) _) ⟨w5.heap.size, 0, none⟩ 1 1 (ec (⟨b, 5, 0, ⟨#[]⟩⟩ : Ent)) rfl rfl (World.news_of_block (cs := #[.string (⟨b, 5, 0, ⟨#[]⟩⟩ : Ent).path, .int .i64 (⟨b, 5, 0, ⟨#[]⟩⟩ : Ent).kind, .int .i64 (⟨b, 5, 0, ⟨#[]⟩⟩ : Ent).mode, .string (⟨b, 5, 0, ⟨#[]⟩⟩ : Ent).data]) (t := 39) (fr := (0, 0)) (heap_alloc_new _ _)) (ec_one _) (by unfold maxLen; (try simp only [List.length_append, List.length_cons, List.length_nil]); omega) (by (try simp only [List.length_append, List.length_cons, List.length_nil]); omega) (by have := hR5.size; simp; omega) ?_; intro v6 w6 hown6 hgrow6 _; have HO6 := hide (ownC_snoc hown6); have hR6 := ownC_below (unhide HO5) hR5 hgrow6; have hB6 := hb1.trans (hR6.mono hb1.size); clear hown6 hgrow6))
            go_roundw
            case rel =>
              have hl : (ks ++ [(⟨b, 5, 0, ⟨#[]⟩⟩ : Ent)]).length ≤ 3 * (k + 1) := by
                have h3 := stepF_len xa xb b.data.toList
                rw [unhide HS] at h3
                simp at h3 ⊢
                omega
              have R : ks ++ [(⟨b, 5, 0, ⟨#[]⟩⟩ : Ent)] = (((allP xa xb).take (k + 1)).map (stepF xa xb)).flatten := by rw [unhide HP, ← unhide HK, unhide HS] <;> simp
              first
                | exact ⟨k + 1, ks ++ [(⟨b, 5, 0, ⟨#[]⟩⟩ : Ent)], by omega, by go_num, hl, unhide HO6, hR6, hide R⟩
                | ((repeat apply Exists.intro); exact ⟨⟨k + 1, ks ++ [(⟨b, 5, 0, ⟨#[]⟩⟩ : Ent)], by omega, by go_num, hl, unhide HO6, hR6, hide R⟩, rfl⟩)
            case measure => simp [intOf]; omega
        · have hp0 : b.data.toList ≠ [] := by rw [← hxp]; exact ((unhide HTa).path (List.mem_of_getElem? hix)).1
          have HP0 := hide hp0
          have HC : Hid (clrF xa xb b.data.toList = false) := hide (by simp [clrF, kindP_at hp0, hby])
          have HC' := HC
          have HG : Hid (goneF xa xb b.data.toList = (decide (kindP xb (dirOf b.data.toList) = 1) && !clrF xa xb (dirOf b.data.toList))) := hide (by simp [goneF, hax, hby])
          have j0 : (0 : Int) ≤ (i : Int) := by omega
          clear hby hax hix hxp hp0
          go_quiet (fail)
          obtain ⟨w4, hw4⟩ : ∃ w4, wr.drewN nq = w4 := ⟨_, rfl⟩
          rw [hw4]
          have hR4 : Below w1.heap.size w1 w4 := by rw [← hw4]; exact below_drewN hR3 _
          have hB4 : Below w.heap.size w w4 := hb1.trans (hR4.mono hb1.size)
          have HO4 : Hid (OwnC w4 w1.heap.size u5 ks) := hide (by rw [← hw4]; exact unhide HO3)
          clear hw4
          by_cases hkd : kindP xb (dirOf b.data.toList) = 1
          · have HK1 := hide hkd
            cases hcd : clrF xa xb (dirOf b.data.toList)
            · have HCd := hide hcd
              have HS : Hid (stepF xa xb b.data.toList = [(⟨b, 4, 0, ⟨#[]⟩⟩ : Ent)]) := hide (by rw [stepF, unhide HPu, unhide HC', unhide HG, hkd, hcd, ← mark_eq rfl]; rfl)
              clear hcd hkd
              go_wp2_with (first
        | (go_at_call 35; refine (refClr_is _ _ ca cb na nb xa xb b w4 HC ((unhide HA).below hB4) ((unhide HB).below hB4) HNa HNb HTa HTb).mono ?_; clear HC; rintro ev w5 ⟨rfl, hb5⟩; have hR5 := hR4.trans (hb5.mono hR4.size); have hB5 := hb1.trans (hR5.mono hb1.size); have HO5 := hide ((unhide HO4).later hb5); clear hb5)
        | (go_at_call 30; refine (up_any b w5 (by omega) (unhide HP0)).mono ?_; rintro ev w6 ⟨dd, nn, rfl, HD, HNm, hb6⟩; have hR6 := hR5.trans (hb6.mono hR5.size); have hB6 := hb1.trans (hR6.mono hb1.size); have HO6 := hide ((unhide HO5).later hb6); clear hb6)
        | (go_at_call 35; refine (refClr_is (c := false) _ _ ca cb na nb xa xb dd w6 (hide (by rw [unhide HD]; exact unhide HCd)) ((unhide HA).below hB6) ((unhide HB).below hB6) HNa HNb HTa HTb).mono ?_; rintro ev w7 ⟨rfl, hb7⟩; have hR7 := hR6.trans (hb7.mono hR6.size); have hB7 := hb1.trans (hR7.mono hb1.size); have HO7 := hide ((unhide HO6).later hb7); clear hb7)
        | (go_at_call 31; refine (kind_is _ cb nb xb dd _ w7 ((unhide HB).below hB7) HNb (by omega) HD).mono ?_; rintro ev wk ⟨kd, rfl, HKd, hw⟩; obtain rfl := hw.symm; have ekd : kd = 1 := (by rw [unhide HKd]; exact unhide HK1); subst ekd)
        | (at_builtin; refine wpList_append_own _ rfl _ _ 29 rfl w1.heap.size 39 i0 _ 4 48 Tryz.underlying29 hi hz0 hz1 hz2 rfl (by decide) _ _ _ rfl (World.ownsRow.alloc (unhide HO7) _) ⟨w7.heap.size, 0, none⟩ 1 1 (ec (⟨b, 4, 0, ⟨#[]⟩⟩ : Ent)) rfl rfl (World.news_of_block (cs := #[.string (⟨b, 4, 0, ⟨#[]⟩⟩ : Ent).path, .int .i64 (⟨b, 4, 0, ⟨#[]⟩⟩ : Ent).kind, .int .i64 (⟨b, 4, 0, ⟨#[]⟩⟩ : Ent).mode, .string (⟨b, 4, 0, ⟨#[]⟩⟩ : Ent).data]) (t := 39) (fr := (0, 0)) (heap_alloc_new _ _)) (ec_one _) (by unfold maxLen; (try simp only [List.length_append, List.length_cons, List.length_nil]); omega) (by (try simp only [List.length_append, List.length_cons, List.length_nil]); omega) (by have := hR7.size; simp; omega) ?_; intro v8 w8 hown8 hgrow8 _; have HO8 := hide (ownC_snoc hown8); have hR8 := ownC_below (unhide HO7) hR7 hgrow8; have hB8 := hb1.trans (hR8.mono hb1.size); clear hown8 hgrow8))
              go_roundw
              case rel =>
                have hl : (ks ++ [(⟨b, 4, 0, ⟨#[]⟩⟩ : Ent)]).length ≤ 3 * (k + 1) := by
                  have h3 := stepF_len xa xb b.data.toList
                  rw [unhide HS] at h3
                  simp at h3 ⊢
                  omega
                have R : ks ++ [(⟨b, 4, 0, ⟨#[]⟩⟩ : Ent)] = (((allP xa xb).take (k + 1)).map (stepF xa xb)).flatten := by rw [unhide HP, ← unhide HK, unhide HS] <;> simp
                first
                  | exact ⟨k + 1, ks ++ [(⟨b, 4, 0, ⟨#[]⟩⟩ : Ent)], by omega, by go_num, hl, unhide HO8, hR8, hide R⟩
                  | ((repeat apply Exists.intro); exact ⟨⟨k + 1, ks ++ [(⟨b, 4, 0, ⟨#[]⟩⟩ : Ent)], by omega, by go_num, hl, unhide HO8, hR8, hide R⟩, rfl⟩)
              case measure => simp [intOf]; omega
            · have HCd := hide hcd
              have HS : Hid (stepF xa xb b.data.toList = []) := hide (by rw [stepF, unhide HPu, unhide HC', unhide HG, hkd, hcd]; rfl)
              clear hcd hkd
              go_wp2_with (first
        | (go_at_call 35; refine (refClr_is _ _ ca cb na nb xa xb b w4 HC ((unhide HA).below hB4) ((unhide HB).below hB4) HNa HNb HTa HTb).mono ?_; clear HC; rintro ev w5 ⟨rfl, hb5⟩; have hR5 := hR4.trans (hb5.mono hR4.size); have hB5 := hb1.trans (hR5.mono hb1.size); have HO5 := hide ((unhide HO4).later hb5); clear hb5)
        | (go_at_call 30; refine (up_any b w5 (by omega) (unhide HP0)).mono ?_; rintro ev w6 ⟨dd, nn, rfl, HD, HNm, hb6⟩; have hR6 := hR5.trans (hb6.mono hR5.size); have hB6 := hb1.trans (hR6.mono hb1.size); have HO6 := hide ((unhide HO5).later hb6); clear hb6)
        | (go_at_call 35; refine (refClr_is (c := true) _ _ ca cb na nb xa xb dd w6 (hide (by rw [unhide HD]; exact unhide HCd)) ((unhide HA).below hB6) ((unhide HB).below hB6) HNa HNb HTa HTb).mono ?_; rintro ev w7 ⟨rfl, hb7⟩; have hR7 := hR6.trans (hb7.mono hR6.size); have hB7 := hb1.trans (hR7.mono hb1.size); have HO7 := hide ((unhide HO6).later hb7); clear hb7)
        | (go_at_call 31; refine (kind_is _ cb nb xb dd _ w7 ((unhide HB).below hB7) HNb (by omega) HD).mono ?_; rintro ev wk ⟨kd, rfl, HKd, hw⟩; obtain rfl := hw.symm; have ekd : kd = 1 := (by rw [unhide HKd]; exact unhide HK1); subst ekd))
              go_roundw
              case rel =>
                have hl : (ks).length ≤ 3 * (k + 1) := by
                  have h3 := stepF_len xa xb b.data.toList
                  rw [unhide HS] at h3
                  simp at h3 ⊢
                  omega
                have R : ks = (((allP xa xb).take (k + 1)).map (stepF xa xb)).flatten := by rw [unhide HP, ← unhide HK, unhide HS] <;> simp
                first
                  | exact ⟨k + 1, ks, by omega, by go_num, hl, unhide HO7, hR7, hide R⟩
                  | ((repeat apply Exists.intro); exact ⟨⟨k + 1, ks, by omega, by go_num, hl, unhide HO7, hR7, hide R⟩, rfl⟩)
              case measure => simp [intOf]; omega
          · have HK1 := hide hkd
            have HS : Hid (stepF xa xb b.data.toList = []) := hide (by rw [stepF, unhide HPu, unhide HC', unhide HG, decide_eq_false hkd]; rfl)
            cases hcd : clrF xa xb (dirOf b.data.toList)
            · have HCd := hide hcd
              clear hcd hkd
              go_wp2_with (first
        | (go_at_call 35; refine (refClr_is _ _ ca cb na nb xa xb b w4 HC ((unhide HA).below hB4) ((unhide HB).below hB4) HNa HNb HTa HTb).mono ?_; clear HC; rintro ev w5 ⟨rfl, hb5⟩; have hR5 := hR4.trans (hb5.mono hR4.size); have hB5 := hb1.trans (hR5.mono hb1.size); have HO5 := hide ((unhide HO4).later hb5); clear hb5)
        | (go_at_call 30; refine (up_any b w5 (by omega) (unhide HP0)).mono ?_; rintro ev w6 ⟨dd, nn, rfl, HD, HNm, hb6⟩; have hR6 := hR5.trans (hb6.mono hR5.size); have hB6 := hb1.trans (hR6.mono hb1.size); have HO6 := hide ((unhide HO5).later hb6); clear hb6)
        | (go_at_call 35; refine (refClr_is (c := false) _ _ ca cb na nb xa xb dd w6 (hide (by rw [unhide HD]; exact unhide HCd)) ((unhide HA).below hB6) ((unhide HB).below hB6) HNa HNb HTa HTb).mono ?_; rintro ev w7 ⟨rfl, hb7⟩; have hR7 := hR6.trans (hb7.mono hR6.size); have hB7 := hb1.trans (hR7.mono hb1.size); have HO7 := hide ((unhide HO6).later hb7); clear hb7)
        | (go_at_call 31; refine (kind_is _ cb nb xb dd _ w7 ((unhide HB).below hB7) HNb (by omega) HD).mono ?_; rintro ev wk ⟨kd, rfl, HKd, hw⟩; obtain rfl := hw.symm; have ekd : ¬ kd = 1 := (by rw [unhide HKd]; exact unhide HK1); have ekd2 : (kd == 1) = false := (by simp [ekd])))
              go_roundw
              case rel =>
                have hl : (ks).length ≤ 3 * (k + 1) := by
                  have h3 := stepF_len xa xb b.data.toList
                  rw [unhide HS] at h3
                  simp at h3 ⊢
                  omega
                have R : ks = (((allP xa xb).take (k + 1)).map (stepF xa xb)).flatten := by rw [unhide HP, ← unhide HK, unhide HS] <;> simp
                first
                  | exact ⟨k + 1, ks, by omega, by go_num, hl, unhide HO7, hR7, hide R⟩
                  | ((repeat apply Exists.intro); exact ⟨⟨k + 1, ks, by omega, by go_num, hl, unhide HO7, hR7, hide R⟩, rfl⟩)
              case measure => simp [intOf]; omega
            · have HCd := hide hcd
              clear hcd hkd
              go_wp2_with (first
        | (go_at_call 35; refine (refClr_is _ _ ca cb na nb xa xb b w4 HC ((unhide HA).below hB4) ((unhide HB).below hB4) HNa HNb HTa HTb).mono ?_; clear HC; rintro ev w5 ⟨rfl, hb5⟩; have hR5 := hR4.trans (hb5.mono hR4.size); have hB5 := hb1.trans (hR5.mono hb1.size); have HO5 := hide ((unhide HO4).later hb5); clear hb5)
        | (go_at_call 30; refine (up_any b w5 (by omega) (unhide HP0)).mono ?_; rintro ev w6 ⟨dd, nn, rfl, HD, HNm, hb6⟩; have hR6 := hR5.trans (hb6.mono hR5.size); have hB6 := hb1.trans (hR6.mono hb1.size); have HO6 := hide ((unhide HO5).later hb6); clear hb6)
        | (go_at_call 35; refine (refClr_is (c := true) _ _ ca cb na nb xa xb dd w6 (hide (by rw [unhide HD]; exact unhide HCd)) ((unhide HA).below hB6) ((unhide HB).below hB6) HNa HNb HTa HTb).mono ?_; rintro ev w7 ⟨rfl, hb7⟩; have hR7 := hR6.trans (hb7.mono hR6.size); have hB7 := hb1.trans (hR7.mono hb1.size); have HO7 := hide ((unhide HO6).later hb7); clear hb7)
        | (go_at_call 31; refine (kind_is _ cb nb xb dd _ w7 ((unhide HB).below hB7) HNb (by omega) HD).mono ?_; rintro ev wk ⟨kd, rfl, HKd, hw⟩; obtain rfl := hw.symm; have ekd : ¬ kd = 1 := (by rw [unhide HKd]; exact unhide HK1); have ekd2 : (kd == 1) = false := (by simp [ekd])))
              go_roundw
              case rel =>
                have hl : (ks).length ≤ 3 * (k + 1) := by
                  have h3 := stepF_len xa xb b.data.toList
                  rw [unhide HS] at h3
                  simp at h3 ⊢
                  omega
                have R : ks = (((allP xa xb).take (k + 1)).map (stepF xa xb)).flatten := by rw [unhide HP, ← unhide HK, unhide HS] <;> simp
                first
                  | exact ⟨k + 1, ks, by omega, by go_num, hl, unhide HO7, hR7, hide R⟩
                  | ((repeat apply Exists.intro); exact ⟨⟨k + 1, ks, by omega, by go_num, hl, unhide HO7, hR7, hide R⟩, rfl⟩)
              case measure => simp [intOf]; omega
      · have hyl : j < xb.length := (List.getElem?_eq_some_iff.1 hjy).1
        have j0 : (0 : Int) ≤ (j : Int) := by omega
        have j1 : (j : Int) < (nb : Int) := by have := unhide HNb; omega
        have HG : Hid (goneF xa xb b.data.toList = false) := hide (by simp [goneF, hby])
        have hp0 : b.data.toList ≠ [] := by rw [← hyp]; exact ((unhide HTb).path (List.mem_of_getElem? hjy)).1
        obtain ⟨g2, o2, rfl, e0, e1, e2, e3⟩ := ((unhide HB).below hB3) j y hjy
        rcases atIs_cases (unhide HX1) with ⟨rfl, hax⟩ | ⟨i, x, rfl, hix, hax, hxp⟩
        · have HPu : Hid (putF xa xb b.data.toList = [y]) := hide (by simp [putF, hby, hax])
          have HC : Hid (clrF xa xb b.data.toList = false) := hide (by simp [clrF, kindP_at hp0, hax])
          have HS : Hid (stepF xa xb b.data.toList = [y]) := hide (by rw [stepF, unhide HPu, unhide HC, unhide HG]; rfl)
          go_quiet (fail)
          obtain ⟨w4, hw4⟩ : ∃ w4, wr.drewN nq = w4 := ⟨_, rfl⟩
          rw [hw4]
          have hR4 : Below w1.heap.size w1 w4 := by rw [← hw4]; exact below_drewN hR3 _
          have hB4 : Below w.heap.size w w4 := hb1.trans (hR4.mono hb1.size)
          have HO4 : Hid (OwnC w4 w1.heap.size u5 ks) := hide (by rw [← hw4]; exact unhide HO3)
          clear hw4
          obtain ⟨g3, o3, hg3, d0, d1, d2, d3⟩ := ((unhide HB).below hB4) j y hjy
          cases hg3
          clear hby hax hp0 hyp hjy hyl e0 e1 e2 e3
          go_wp2_with (first
        | (at_builtin; refine wpList_append_own _ rfl _ _ 29 rfl w1.heap.size 39 i0 _ 4 48 Tryz.underlying29 hi hz0 hz1 hz2 rfl (by decide) _ _ _ rfl (World.ownsRow.alloc (unhide HO4) _) ⟨w4.heap.size, 0, none⟩ 1 1 (ec y) rfl rfl (World.news_of_block (cs := #[.string y.path, .int .i64 y.kind, .int .i64 y.mode, .string y.data]) (t := 39) (fr := (0, 0)) (heap_alloc_new _ _)) (ec_one _) (by unfold maxLen; (try simp only [List.length_append, List.length_cons, List.length_nil]); omega) (by (try simp only [List.length_append, List.length_cons, List.length_nil]); omega) (by have := hR4.size; simp; omega) ?_; intro v5 w5 hown5 hgrow5 _; have HO5 := hide (ownC_snoc hown5); have hR5 := ownC_below (unhide HO4) hR4 hgrow5; have hB5 := hb1.trans (hR5.mono hb1.size); clear hown5 hgrow5)
        | (go_at_call 35; refine (refClr_is _ _ ca cb na nb xa xb b w5 HC ((unhide HA).below hB5) ((unhide HB).below hB5) HNa HNb HTa HTb).mono ?_; clear HC; rintro ev w6 ⟨rfl, hb6⟩; have hR6 := hR5.trans (hb6.mono hR5.size); have hB6 := hb1.trans (hR6.mono hb1.size); have HO6 := hide ((unhide HO5).later hb6); clear hb6))
          go_roundw
          case rel =>
            have hl : (ks ++ [y]).length ≤ 3 * (k + 1) := by
              have h3 := stepF_len xa xb b.data.toList
              rw [unhide HS] at h3
              simp at h3 ⊢
              omega
            have R : ks ++ [y] = (((allP xa xb).take (k + 1)).map (stepF xa xb)).flatten := by rw [unhide HP, ← unhide HK, unhide HS] <;> simp
            first
              | exact ⟨k + 1, ks ++ [y], by omega, by go_num, hl, unhide HO6, hR6, hide R⟩
              | ((repeat apply Exists.intro); exact ⟨⟨k + 1, ks ++ [y], by omega, by go_num, hl, unhide HO6, hR6, hide R⟩, rfl⟩)
          case measure => simp [intOf]; omega
        · have hxl : i < xa.length := (List.getElem?_eq_some_iff.1 hix).1
          have k0 : (0 : Int) ≤ (i : Int) := by omega
          have k1 : (i : Int) < (na : Int) := by have := unhide HNa; omega
          have k2 : ¬ (i : Int) < 0 := by omega
          obtain ⟨g1, o1, rfl, c0, c1, c2, c3⟩ := ((unhide HA).below hB3) i x hix
          have hq := neq49 x y
          cases heq : eqE x y
          · rw [heq] at hq
            have HPu : Hid (putF xa xb b.data.toList = [y]) := hide (by simp [putF, hby, hax, heq])
            go_quiet (fail)
            obtain ⟨w4, hw4⟩ : ∃ w4, wr.drewN nq = w4 := ⟨_, rfl⟩
            rw [hw4]
            have hR4 : Below w1.heap.size w1 w4 := by rw [← hw4]; exact below_drewN hR3 _
            have hB4 : Below w.heap.size w w4 := hb1.trans (hR4.mono hb1.size)
            have HO4 : Hid (OwnC w4 w1.heap.size u5 ks) := hide (by rw [← hw4]; exact unhide HO3)
            clear hw4
            obtain ⟨g3, o3, hg3, d0, d1, d2, d3⟩ := ((unhide HB).below hB4) j y hjy
            cases hg3
            clear hby hax hp0 hyp hjy hyl hix hxp hxl e0 e1 e2 e3 c0 c1 c2 c3 hq heq
            cases hcl : clrF xa xb b.data.toList
            · have HC := hide hcl
              have HS : Hid (stepF xa xb b.data.toList = [y]) := hide (by rw [stepF, unhide HPu, hcl, unhide HG]; rfl)
              clear hcl
              go_wp2_with (first
        | (at_builtin; refine wpList_append_own _ rfl _ _ 29 rfl w1.heap.size 39 i0 _ 4 48 Tryz.underlying29 hi hz0 hz1 hz2 rfl (by decide) _ _ _ rfl (World.ownsRow.alloc (unhide HO4) _) ⟨w4.heap.size, 0, none⟩ 1 1 (ec y) rfl rfl (World.news_of_block (cs := #[.string y.path, .int .i64 y.kind, .int .i64 y.mode, .string y.data]) (t := 39) (fr := (0, 0)) (heap_alloc_new _ _)) (ec_one _) (by unfold maxLen; (try simp only [List.length_append, List.length_cons, List.length_nil]); omega) (by (try simp only [List.length_append, List.length_cons, List.length_nil]); omega) (by have := hR4.size; simp; omega) ?_; intro v5 w5 hown5 hgrow5 _; have HO5 := hide (ownC_snoc hown5); have hR5 := ownC_below (unhide HO4) hR4 hgrow5; have hB5 := hb1.trans (hR5.mono hb1.size); clear hown5 hgrow5)
        | (go_at_call 35; refine (refClr_is _ _ ca cb na nb xa xb b w5 HC ((unhide HA).below hB5) ((unhide HB).below hB5) HNa HNb HTa HTb).mono ?_; clear HC; rintro ev w6 ⟨rfl, hb6⟩; have hR6 := hR5.trans (hb6.mono hR5.size); have hB6 := hb1.trans (hR6.mono hb1.size); have HO6 := hide ((unhide HO5).later hb6); clear hb6))
              go_roundw
              case rel =>
                have hl : (ks ++ [y]).length ≤ 3 * (k + 1) := by
                  have h3 := stepF_len xa xb b.data.toList
                  rw [unhide HS] at h3
                  simp at h3 ⊢
                  omega
                have R : ks ++ [y] = (((allP xa xb).take (k + 1)).map (stepF xa xb)).flatten := by rw [unhide HP, ← unhide HK, unhide HS] <;> simp
                first
                  | exact ⟨k + 1, ks ++ [y], by omega, by go_num, hl, unhide HO6, hR6, hide R⟩
                  | ((repeat apply Exists.intro); exact ⟨⟨k + 1, ks ++ [y], by omega, by go_num, hl, unhide HO6, hR6, hide R⟩, rfl⟩)
              case measure => simp [intOf]; omega
            · have HC := hide hcl
              have HS : Hid (stepF xa xb b.data.toList = [y] ++ [(⟨b, 5, 0, ⟨#[]⟩⟩ : Ent)]) := hide (by rw [stepF, unhide HPu, hcl, unhide HG, ← mark_eq rfl]; rfl)
              clear hcl
              go_wp2_with (first
        | (at_builtin; refine wpList_append_own _ rfl _ _ 29 rfl w1.heap.size 39 i0 _ 4 48 Tryz.underlying29 hi hz0 hz1 hz2 rfl (by decide) _ _ _ rfl (World.ownsRow.alloc (unhide HO4) _) ⟨w4.heap.size, 0, none⟩ 1 1 (ec y) rfl rfl (World.news_of_block (cs := #[.string y.path, .int .i64 y.kind, .int .i64 y.mode, .string y.data]) (t := 39) (fr := (0, 0)) (heap_alloc_new _ _)) (ec_one _) (by unfold maxLen; (try simp only [List.length_append, List.length_cons, List.length_nil]); omega) (by (try simp only [List.length_append, List.length_cons, List.length_nil]); omega) (by have := hR4.size; simp; omega) ?_; intro v5 w5 hown5 hgrow5 _; have HO5 := hide (ownC_snoc hown5); have hR5 := ownC_below (unhide HO4) hR4 hgrow5; have hB5 := hb1.trans (hR5.mono hb1.size); clear hown5 hgrow5)
        | (go_at_call 35; refine (refClr_is _ _ ca cb na nb xa xb b w5 HC ((unhide HA).below hB5) ((unhide HB).below hB5) HNa HNb HTa HTb).mono ?_; clear HC; rintro ev w6 ⟨rfl, hb6⟩; have hR6 := hR5.trans (hb6.mono hR5.size); have hB6 := hb1.trans (hR6.mono hb1.size); have HO6 := hide ((unhide HO5).later hb6); clear hb6)
        | (at_builtin; refine wpList_append_own _ rfl _ _ 29 rfl w1.heap.size 39 i0 _ 4 48 Tryz.underlying29 hi hz0 hz1 hz2 rfl (by decide) _ _ _ rfl (World.ownsRow.alloc (unhide HO6) _) ⟨w6.heap.size, 0, none⟩ 1 1 (ec (⟨b, 5, 0, ⟨#[]⟩⟩ : Ent)) rfl rfl (World.news_of_block (cs := #[.string (⟨b, 5, 0, ⟨#[]⟩⟩ : Ent).path, .int .i64 (⟨b, 5, 0, ⟨#[]⟩⟩ : Ent).kind, .int .i64 (⟨b, 5, 0, ⟨#[]⟩⟩ : Ent).mode, .string (⟨b, 5, 0, ⟨#[]⟩⟩ : Ent).data]) (t := 39) (fr := (0, 0)) (heap_alloc_new _ _)) (ec_one _) (by unfold maxLen; (try simp only [List.length_append, List.length_cons, List.length_nil]); omega) (by (try simp only [List.length_append, List.length_cons, List.length_nil]); omega) (by have := hR6.size; simp; omega) ?_; intro v7 w7 hown7 hgrow7 _; have HO7 := hide (ownC_snoc hown7); have hR7 := ownC_below (unhide HO6) hR6 hgrow7; have hB7 := hb1.trans (hR7.mono hb1.size); clear hown7 hgrow7))
              go_roundw
              case rel =>
                have hl : (ks ++ [y] ++ [(⟨b, 5, 0, ⟨#[]⟩⟩ : Ent)]).length ≤ 3 * (k + 1) := by
                  have h3 := stepF_len xa xb b.data.toList
                  rw [unhide HS] at h3
                  simp at h3 ⊢
                  omega
                have R : ks ++ [y] ++ [(⟨b, 5, 0, ⟨#[]⟩⟩ : Ent)] = (((allP xa xb).take (k + 1)).map (stepF xa xb)).flatten := by rw [unhide HP, ← unhide HK, unhide HS] <;> simp
                first
                  | exact ⟨k + 1, ks ++ [y] ++ [(⟨b, 5, 0, ⟨#[]⟩⟩ : Ent)], by omega, by go_num, hl, unhide HO7, hR7, hide R⟩
                  | ((repeat apply Exists.intro); exact ⟨⟨k + 1, ks ++ [y] ++ [(⟨b, 5, 0, ⟨#[]⟩⟩ : Ent)], by omega, by go_num, hl, unhide HO7, hR7, hide R⟩, rfl⟩)
              case measure => simp [intOf]; omega
          · rw [heq] at hq
            have HPu : Hid (putF xa xb b.data.toList = []) := hide (by simp [putF, hby, hax, heq])
            go_quiet (fail)
            obtain ⟨w4, hw4⟩ : ∃ w4, wr.drewN nq = w4 := ⟨_, rfl⟩
            rw [hw4]
            have hR4 : Below w1.heap.size w1 w4 := by rw [← hw4]; exact below_drewN hR3 _
            have hB4 : Below w.heap.size w w4 := hb1.trans (hR4.mono hb1.size)
            have HO4 : Hid (OwnC w4 w1.heap.size u5 ks) := hide (by rw [← hw4]; exact unhide HO3)
            clear hw4
            clear hby hax hp0 hyp hjy hyl hix hxp hxl e0 e1 e2 e3 c0 c1 c2 c3 hq heq
            cases hcl : clrF xa xb b.data.toList
            · have HC := hide hcl
              have HS : Hid (stepF xa xb b.data.toList = []) := hide (by rw [stepF, unhide HPu, hcl, unhide HG]; rfl)
              clear hcl
              go_wp2_with (first
        | (go_at_call 35; refine (refClr_is _ _ ca cb na nb xa xb b w4 HC ((unhide HA).below hB4) ((unhide HB).below hB4) HNa HNb HTa HTb).mono ?_; clear HC; rintro ev w5 ⟨rfl, hb5⟩; have hR5 := hR4.trans (hb5.mono hR4.size); have hB5 := hb1.trans (hR5.mono hb1.size); have HO5 := hide ((unhide HO4).later hb5); clear hb5))
              go_roundw
              case rel =>
                have hl : (ks).length ≤ 3 * (k + 1) := by
                  have h3 := stepF_len xa xb b.data.toList
                  rw [unhide HS] at h3
                  simp at h3 ⊢
                  omega
                have R : ks = (((allP xa xb).take (k + 1)).map (stepF xa xb)).flatten := by rw [unhide HP, ← unhide HK, unhide HS] <;> simp
                first
                  | exact ⟨k + 1, ks, by omega, by go_num, hl, unhide HO5, hR5, hide R⟩
                  | ((repeat apply Exists.intro); exact ⟨⟨k + 1, ks, by omega, by go_num, hl, unhide HO5, hR5, hide R⟩, rfl⟩)
              case measure => simp [intOf]; omega
            · have HC := hide hcl
              have HS : Hid (stepF xa xb b.data.toList = [(⟨b, 5, 0, ⟨#[]⟩⟩ : Ent)]) := hide (by rw [stepF, unhide HPu, hcl, unhide HG, ← mark_eq rfl]; rfl)
              clear hcl
              go_wp2_with (first
        | (go_at_call 35; refine (refClr_is _ _ ca cb na nb xa xb b w4 HC ((unhide HA).below hB4) ((unhide HB).below hB4) HNa HNb HTa HTb).mono ?_; clear HC; rintro ev w5 ⟨rfl, hb5⟩; have hR5 := hR4.trans (hb5.mono hR4.size); have hB5 := hb1.trans (hR5.mono hb1.size); have HO5 := hide ((unhide HO4).later hb5); clear hb5)
        | (at_builtin; refine wpList_append_own _ rfl _ _ 29 rfl w1.heap.size 39 i0 _ 4 48 Tryz.underlying29 hi hz0 hz1 hz2 rfl (by decide) _ _ _ rfl (World.ownsRow.alloc (unhide HO5) _) ⟨w5.heap.size, 0, none⟩ 1 1 (ec (⟨b, 5, 0, ⟨#[]⟩⟩ : Ent)) rfl rfl (World.news_of_block (cs := #[.string (⟨b, 5, 0, ⟨#[]⟩⟩ : Ent).path, .int .i64 (⟨b, 5, 0, ⟨#[]⟩⟩ : Ent).kind, .int .i64 (⟨b, 5, 0, ⟨#[]⟩⟩ : Ent).mode, .string (⟨b, 5, 0, ⟨#[]⟩⟩ : Ent).data]) (t := 39) (fr := (0, 0)) (heap_alloc_new _ _)) (ec_one _) (by unfold maxLen; (try simp only [List.length_append, List.length_cons, List.length_nil]); omega) (by (try simp only [List.length_append, List.length_cons, List.length_nil]); omega) (by have := hR5.size; simp; omega) ?_; intro v6 w6 hown6 hgrow6 _; have HO6 := hide (ownC_snoc hown6); have hR6 := ownC_below (unhide HO5) hR5 hgrow6; have hB6 := hb1.trans (hR6.mono hb1.size); clear hown6 hgrow6))
              go_roundw
              case rel =>
                have hl : (ks ++ [(⟨b, 5, 0, ⟨#[]⟩⟩ : Ent)]).length ≤ 3 * (k + 1) := by
                  have h3 := stepF_len xa xb b.data.toList
                  rw [unhide HS] at h3
                  simp at h3 ⊢
                  omega
                have R : ks ++ [(⟨b, 5, 0, ⟨#[]⟩⟩ : Ent)] = (((allP xa xb).take (k + 1)).map (stepF xa xb)).flatten := by rw [unhide HP, ← unhide HK, unhide HS] <;> simp
                first
                  | exact ⟨k + 1, ks ++ [(⟨b, 5, 0, ⟨#[]⟩⟩ : Ent)], by omega, by go_num, hl, unhide HO6, hR6, hide R⟩
                  | ((repeat apply Exists.intro); exact ⟨⟨k + 1, ks ++ [(⟨b, 5, 0, ⟨#[]⟩⟩ : Ent)], by omega, by go_num, hl, unhide HO6, hR6, hide R⟩, rfl⟩)
              case measure => simp [intOf]; omega
    · have HF : Hid (ks = diffF xa xb) := hide (by
        rw [unhide HK, diffF, List.take_of_length_le]
        rw [← unhide HT, txts_len, ← unhide HN]; omega)
      go_wp2_with fail
      go_ret
      exact ⟨_, rfl, by rw [← unhide HF]; exact hown.base hb1.size, hB3⟩
end Go.Proofs.YtkeefkfklmhcjaaGreatDoor
