import Derived.Test.YtkeefkfklmhcjaaGreatDoorJPatU
import Derived.Laws.AppendOwnNone
namespace Go.Proofs.YtkeefkfklmhcjaaGreatDoor
open Go.RowKit Go.Maps

set_option maxHeartbeats 2000000 in
set_option maxRecDepth 100000 in
theorem refPatch0_any (n : Nat) (es : List Ent) (bo : Option Addr) (cb nb : Nat) (cs : List Ent) (w : World) (HE0 : Hid (es = [])) (HN : Hid (n = es.length)) (hn : n ≤ 40) (HT : Hid (TreeS es)) (HS : Hid (Small es)) (hrc : ERow w bo cs) (HNb : Hid (nb = cs.length)) (hnb : nb ≤ 80) (HSc : Hid (Small cs)) (HC : Hid (∀ c ∈ cs, chOk c = true)) :
    Calls Tryz.prog 17 #[.slice none 0 0, .slice bo nb cb] w fun ev w' => ∃ ao' cap' n' ks f m, ev = .returned (.tuple #[.slice ao' n' cap', .int .i64 f, .int .i64 m]) ∧ Hid (n' = ks.length) ∧ ERow w' ao' ks ∧ Hid (RPat es cs ks f m) ∧ Below w.heap.size w w' := by
  obtain ⟨i0, hi, hz0, hz1, hz2⟩ := info_parts Tryz.info56
  go_enter Tryz.func17, Tryz.ntmps17
  go_upto_region 2 with (at_builtin; refine wpList_append_own_none rfl _ _ 22 rfl w.heap.size 56 i0 4 Tryz.underlying22 hi (.slice none 0 0) 0 [] rfl (World.ownsRow_nil _ _ _ _) rfl ?_)
  have hB1 : Below w.heap.size w w := Below.refl _ _
  have HN1 : Hid ((0 : Nat) = es.length) := hide (by rw [unhide HE0]; rfl)
  have hrow1 : ERow w none es := by rw [unhide HE0]; intro k e hk; simp at hk
  have hr := hrow1
  have HM0 := hide hrow1
  go_wp2_with fail
  go_loopw [7, 8] (fun v i wr => ∃ (k : Nat) (ao2 : Option Addr) (cap2 n2 : Nat), k ≤ nb ∧ i = .int .i64 k ∧ v = .slice ao2 n2 cap2 ∧ Hid (n2 = (marksF es (cs.take k)).length) ∧ ERow wr ao2 (marksF es (cs.take k)) ∧ Below w.heap.size w wr ∧ Hid (∀ j, j < k → mrkAt es cs j = false)) (fun _ i _ => nb - (intOf i).toNat)
  case atStart => exact ⟨0, none, 0, 0, by omega, rfl, rfl, HN1, unhide HM0, hB1, hide (by intro j hj; omega)⟩
  case round =>
    obtain ⟨k, ao2, cap2, n2, hk, rfl, rfl, HN2, hrow2, hb, HK⟩ := hrel
    by_cases hlt : k < nb
    · obtain ⟨c, he⟩ : ∃ c, cs[k]? = some c := ⟨cs[k]'(by have := unhide HNb; omega), List.getElem?_eq_getElem (by have := unhide HNb; omega)⟩
      obtain ⟨g2, o2, rfl, c0, c1, c2, c3⟩ := (hrc.below hb) k c he
      have j0 : (0 : Int) ≤ (k : Int) := by omega
      have j1 : (k : Int) < (nb : Int) := by omega
      have hs1 := (unhide HSc c (List.mem_of_getElem? he)).1
      have HLen : Hid (k < cs.length) := hide (by have := unhide HNb; omega)
      have HMk0 := hide (marks_snoc (t := es) he)
      have HTk : Hid (TreeS (marksF es (cs.take k))) := hide (marks_tree _ (unhide HT))
      have HPs : Hid (∀ e ∈ marksF es (cs.take k), isP e.path.data.toList = true) := hide (fun e h => (ent_parts ((unhide HTk).ent e h)).2.1)
      have hn2 : n2 ≤ 40 := by rw [unhide HN2]; exact Nat.le_trans (marks_len _ _) (by rw [← unhide HN]; exact hn)
      obtain ⟨W0, hW0⟩ : ∃ W0, W0 = wr.alloc (.cells #[.string c.path, .int .i64 c.kind, .int .i64 c.mode, .string c.data] 39) := ⟨_, rfl⟩
      have hB0w : Below wr.heap.size wr W0 := by rw [hW0]; exact (Below.refl _ _).alloc (Nat.le_refl _) _
      have hB0 := hb.trans (hB0w.mono hb.size)
      have q0 : W0.cell? ⟨wr.heap.size, 0, none⟩ = some (.string c.path) := by rw [hW0]; exact cell_of_row _ _ 0 _ _ _ (heap_alloc_new _ _)
      have q1 : W0.cell? ⟨wr.heap.size, 1, none⟩ = some (.int .i64 c.kind) := by rw [hW0]; exact cell_of_row _ _ 1 _ _ _ (heap_alloc_new _ _)
      have HEc := hide he
      clear he
      go_upto_region 6 with fail
      rw [← hW0]
      clear hW0 c0 c1 c2 c3
      by_cases h5 : c.kind = 5
      · rw [h5] at q1
        by_cases k1 : kindP es c.path.data.toList = 1
        · have C : Hid (mrkAt es cs k = false) := hide (by rw [mrkAt_eq (unhide HEc), mrkBad]; simp [h5, k1])
          have HMk : Hid (marksF es (cs.take (k + 1)) = wo (marksF es (cs.take k)) c.path.data.toList false) := hide (by rw [unhide HMk0, mark1, if_neg (by omega), if_pos h5])
          have HK1 := hide k1
          clear k1 h5
          go_wp2_with (first | (go_at_call 31; refine (kind_any _ _ _ es c.path _ (hr.below hB0) HN1 (by omega)).mono ?_; rintro ev w5 ⟨kd, rfl, HKD, hw⟩; obtain rfl := hw.symm; have hkd : kd = 1 := (unhide HKD).trans (unhide HK1); subst hkd) | (go_at_call 38; refine (without_any ao2 cap2 n2 (marksF es (cs.take k)) c.path false _ (hrow2.below hB0w) HN2 (by omega) hs1 HPs).mono ?_; rintro ev w6 ⟨ao3, cap3, n3, rfl, HN3, hrow3, hnc3, hb6⟩; have q1 := cell_later hb6 q1))
          have HNn : Hid (n3 = (marksF es (cs.take (k + 1))).length) := hide (by rw [unhide HMk]; exact unhide HN3)
          have HRn : ERow w6 ao3 (marksF es (cs.take (k + 1))) := by rw [unhide HMk]; exact hrow3
          have HBn : Below w.heap.size w w6 := hB0.trans (hb6.mono hB0.size)
          go_roundw
          case rel =>
            have R : ∀ j, j < k + 1 → mrkAt es cs j = false := fun j hj => by
              rcases Nat.lt_or_ge j k with h | h
              · exact unhide HK j h
              · have e9 : j = k := by omega
                rw [e9]; exact unhide C
            first
              | exact ⟨k + 1, _, _, _, by omega, by go_num, rfl, HNn, HRn, HBn, hide R⟩
              | ((repeat apply Exists.intro); exact ⟨⟨k + 1, _, _, _, by omega, by go_num, rfl, HNn, HRn, HBn, hide R⟩, rfl⟩)
          case measure => simp [intOf]; omega
        · have C : Hid (mrkAt es cs k = true) := hide (by rw [mrkAt_eq (unhide HEc), mrkBad]; simp [h5, k1])
          have HK1 := hide k1
          clear k1 h5
          go_wp2_with (go_at_call 31; refine (kind_any _ _ _ es c.path _ (hr.below hB0) HN1 (by omega)).mono ?_; rintro ev w5 ⟨kd, rfl, HKD, hw⟩; obtain rfl := hw.symm; have hkd : ¬ kd = 1 := (fun h => unhide HK1 ((unhide HKD).symm.trans h)); have hkd2 : (kd == 1) = false := (by simp [hkd]); have hkd3 : (kd != 1) = true := (by simp [hkd]))
          go_ret3
          exact ⟨none, 0, 0, [], 8, k, rfl, hide rfl, fun k e hk => by simp at hk, hide (.inl ⟨k, rfl, rfl, rfl, .inr ⟨k, rfl, unhide HLen, unhide C, unhide HK⟩⟩), hB0⟩
      · have h5' : (c.kind == 5) = false := by simp [h5]
        by_cases h4 : c.kind = 4
        · rw [h4] at q1
          by_cases k1 : kindP es c.path.data.toList = 0
          · have C : Hid (mrkAt es cs k = true) := hide (by rw [mrkAt_eq (unhide HEc), mrkBad]; simp [h4, k1])
            have HK1 := hide k1
            clear k1 h5 h5' h4
            go_wp2_with (go_at_call 31; refine (kind_any _ _ _ es c.path _ (hr.below hB0) HN1 (by omega)).mono ?_; rintro ev w5 ⟨kd, rfl, HKD, hw⟩; obtain rfl := hw.symm; have hkd : kd = 0 := (unhide HKD).trans (unhide HK1); subst hkd)
            go_ret3
            exact ⟨none, 0, 0, [], 8, k, rfl, hide rfl, fun k e hk => by simp at hk, hide (.inl ⟨k, rfl, rfl, rfl, .inr ⟨k, rfl, unhide HLen, unhide C, unhide HK⟩⟩), hB0⟩
          · have C : Hid (mrkAt es cs k = false) := hide (by rw [mrkAt_eq (unhide HEc), mrkBad]; simp [h4, k1])
            have HMk : Hid (marksF es (cs.take (k + 1)) = wo (marksF es (cs.take k)) c.path.data.toList true) := hide (by rw [unhide HMk0, mark1, if_pos h4])
            have HK1 := hide k1
            clear k1 h5 h5' h4
            go_wp2_with (first | (go_at_call 31; refine (kind_any _ _ _ es c.path _ (hr.below hB0) HN1 (by omega)).mono ?_; rintro ev w5 ⟨kd, rfl, HKD, hw⟩; obtain rfl := hw.symm; have hkd : ¬ kd = 0 := (fun h => unhide HK1 ((unhide HKD).symm.trans h)); have hkd2 : (kd == 0) = false := (by simp [hkd])) | (go_at_call 38; refine (without_any ao2 cap2 n2 (marksF es (cs.take k)) c.path true _ (hrow2.below hB0w) HN2 (by omega) hs1 HPs).mono ?_; rintro ev w6 ⟨ao3, cap3, n3, rfl, HN3, hrow3, hnc3, hb6⟩; have q1 := cell_later hb6 q1))
            have HNn : Hid (n3 = (marksF es (cs.take (k + 1))).length) := hide (by rw [unhide HMk]; exact unhide HN3)
            have HRn : ERow w6 ao3 (marksF es (cs.take (k + 1))) := by rw [unhide HMk]; exact hrow3
            have HBn : Below w.heap.size w w6 := hB0.trans (hb6.mono hB0.size)
            go_roundw
            case rel =>
              have R : ∀ j, j < k + 1 → mrkAt es cs j = false := fun j hj => by
                rcases Nat.lt_or_ge j k with h | h
                · exact unhide HK j h
                · have e9 : j = k := by omega
                  rw [e9]; exact unhide C
              first
                | exact ⟨k + 1, _, _, _, by omega, by go_num, rfl, HNn, HRn, HBn, hide R⟩
                | ((repeat apply Exists.intro); exact ⟨⟨k + 1, _, _, _, by omega, by go_num, rfl, HNn, HRn, HBn, hide R⟩, rfl⟩)
            case measure => simp [intOf]; omega
        · have h4' : (c.kind == 4) = false := by simp [h4]
          have C : Hid (mrkAt es cs k = false) := hide (by rw [mrkAt_eq (unhide HEc), mrkBad]; simp [h4, h5])
          have HMk : Hid (marksF es (cs.take (k + 1)) = marksF es (cs.take k)) := hide (by rw [unhide HMk0, mark1, if_neg h4, if_neg h5])
          go_wp2_with fail
          have HNn : Hid (n2 = (marksF es (cs.take (k + 1))).length) := hide (by rw [unhide HMk]; exact unhide HN2)
          have HRn : ERow W0 ao2 (marksF es (cs.take (k + 1))) := by rw [unhide HMk]; exact hrow2.below hB0w
          have HBn : Below w.heap.size w W0 := hB0
          go_roundw
          case rel =>
            have R : ∀ j, j < k + 1 → mrkAt es cs j = false := fun j hj => by
              rcases Nat.lt_or_ge j k with h | h
              · exact unhide HK j h
              · have e9 : j = k := by omega
                rw [e9]; exact unhide C
            first
              | exact ⟨k + 1, _, _, _, by omega, by go_num, rfl, HNn, HRn, HBn, hide R⟩
              | ((repeat apply Exists.intro); exact ⟨⟨k + 1, _, _, _, by omega, by go_num, rfl, HNn, HRn, HBn, hide R⟩, rfl⟩)
          case measure => simp [intOf]; omega
    · have HF1 : Hid (FirstP (mrkAt es cs) cs.length (-1)) := hide (.inl ⟨rfl, fun i hi => unhide HK i (by have := unhide HNb; omega)⟩)
      have hkc : cs.take k = cs := List.take_of_length_le (by have := unhide HNb; omega)
      rw [hkc] at HN2 hrow2
      obtain ⟨T, hT0⟩ : ∃ T, T = marksF es cs := ⟨_, rfl⟩
      rw [← hT0] at HN2 hrow2
      have HT0 := hide hT0
      have HTT : Hid (TreeS T ∧ T.length ≤ 40 ∧ Small T) := hide (by
        rw [hT0]
        exact ⟨marks_tree _ (unhide HT), Nat.le_trans (marks_len _ _) (by rw [← unhide HN]; exact hn), marks_small _ (unhide HS)⟩)
      have HR2 := hide hrow2
      clear hkc hT0 hrow2 HK
      go_wp2_with fail
      go_loopw [7, 10] (fun v i wr => ∃ (k2 : Nat) (ao3 : Option Addr) (cap3 n3 : Nat), k2 ≤ nb ∧ i = .int .i64 k2 ∧ v = .slice ao3 n3 cap3 ∧ Hid (n3 = (putsF T (cs.take k2)).length ∧ TreeS (putsF T (cs.take k2)) ∧ (putsF T (cs.take k2)).length ≤ 40 + k2 ∧ Small (putsF T (cs.take k2))) ∧ ERow wr ao3 (putsF T (cs.take k2)) ∧ Below w.heap.size w wr ∧ Hid (∀ j, j < k2 → putBad T cs j = false)) (fun _ i _ => nb - (intOf i).toNat)
      case atStart => exact ⟨0, ao2, cap2, n2, by omega, rfl, rfl, hide ⟨unhide HN2, (unhide HTT).1, (unhide HTT).2.1, (unhide HTT).2.2⟩, unhide HR2, hb, hide (by intro j hj; omega)⟩
      case round =>
        obtain ⟨k2, ao3, cap3, n3, hk2, rfl, rfl, HN3, hrow3, hb3, HK2⟩ := hrel
        by_cases hlt2 : k2 < nb
        · obtain ⟨c, he⟩ : ∃ c, cs[k2]? = some c := ⟨cs[k2]'(by have := unhide HNb; omega), List.getElem?_eq_getElem (by have := unhide HNb; omega)⟩
          obtain ⟨g2, o2, rfl, c0, c1, c2, c3⟩ := (hrc.below hb3) k2 c he
          have j0 : (0 : Int) ≤ (k2 : Int) := by omega
          have j1 : (k2 : Int) < (nb : Int) := by omega
          have hsc := unhide HSc c (List.mem_of_getElem? he)
          have hs1 := hsc.1
          have HSc1 := hide hsc
          have HLen : Hid (k2 < cs.length) := hide (by have := unhide HNb; omega)
          have HPk0 := hide (puts_snoc (t := T) he)
          have HCc := hide (unhide HC c (List.mem_of_getElem? he))
          have hn3 : n3 ≤ 200 := by rw [(unhide HN3).1]; have := (unhide HN3).2.2.1; omega
          obtain ⟨W0, hW0⟩ : ∃ W0, W0 = wr.alloc (.cells #[.string c.path, .int .i64 c.kind, .int .i64 c.mode, .string c.data] 39) := ⟨_, rfl⟩
          have hB0w : Below wr.heap.size wr W0 := by rw [hW0]; exact (Below.refl _ _).alloc (Nat.le_refl _) _
          have hB0 := hb3.trans (hB0w.mono hb3.size)
          have q0 : W0.cell? ⟨wr.heap.size, 0, none⟩ = some (.string c.path) := by rw [hW0]; exact cell_of_row _ _ 0 _ _ _ (heap_alloc_new _ _)
          have q1 : W0.cell? ⟨wr.heap.size, 1, none⟩ = some (.int .i64 c.kind) := by rw [hW0]; exact cell_of_row _ _ 1 _ _ _ (heap_alloc_new _ _)
          have q2 : W0.cell? ⟨wr.heap.size, 2, none⟩ = some (.int .i64 c.mode) := by rw [hW0]; exact cell_of_row _ _ 2 _ _ _ (heap_alloc_new _ _)
          have q3 : W0.cell? ⟨wr.heap.size, 3, none⟩ = some (.string c.data) := by rw [hW0]; exact cell_of_row _ _ 3 _ _ _ (heap_alloc_new _ _)
          have HEc := hide he
          have HR3 := hide (hrow3.below hB0w)
          clear he hsc hrow3
          go_upto_region 16 with fail
          rw [← hW0]
          clear hW0 c0 c1 c2 c3
          by_cases hmk : c.kind = 4 ∨ c.kind = 5
          · have C : Hid (putBad T cs k2 = false) := hide (by rw [putBad_eq (unhide HEc), decide_eq_true hmk]; rfl)
            have HMk : Hid (putsF T (cs.take (k2 + 1)) = putsF T (cs.take k2)) := hide (by rw [unhide HPk0, put1, if_pos hmk])
            have HNn : Hid (n3 = (putsF T (cs.take (k2 + 1))).length ∧ TreeS (putsF T (cs.take (k2 + 1))) ∧ (putsF T (cs.take (k2 + 1))).length ≤ 40 + (k2 + 1) ∧ Small (putsF T (cs.take (k2 + 1)))) := hide (by rw [unhide HMk]; have h := unhide HN3; exact ⟨h.1, h.2.1, by omega, h.2.2.2⟩)
            have HRn : ERow W0 ao3 (putsF T (cs.take (k2 + 1))) := by rw [unhide HMk]; exact unhide HR3
            have HBn : Below w.heap.size w W0 := hB0
            rcases hmk with h4 | h5
            · rw [h4] at q1
              clear h4
              go_wp2_with fail
              go_roundw
              case rel =>
                have R : ∀ j, j < k2 + 1 → putBad T cs j = false := fun j hj => by
                  rcases Nat.lt_or_ge j k2 with h | h
                  · exact unhide HK2 j h
                  · have e9 : j = k2 := by omega
                    rw [e9]; exact unhide C
                first
                  | exact ⟨k2 + 1, _, _, _, by omega, by go_num, rfl, HNn, HRn, HBn, hide R⟩
                  | ((repeat apply Exists.intro); exact ⟨⟨k2 + 1, _, _, _, by omega, by go_num, rfl, HNn, HRn, HBn, hide R⟩, rfl⟩)
              case measure => simp [intOf]; omega
            · rw [h5] at q1
              clear h5
              go_wp2_with fail
              go_roundw
              case rel =>
                have R : ∀ j, j < k2 + 1 → putBad T cs j = false := fun j hj => by
                  rcases Nat.lt_or_ge j k2 with h | h
                  · exact unhide HK2 j h
                  · have e9 : j = k2 := by omega
                    rw [e9]; exact unhide C
                first
                  | exact ⟨k2 + 1, _, _, _, by omega, by go_num, rfl, HNn, HRn, HBn, hide R⟩
                  | ((repeat apply Exists.intro); exact ⟨⟨k2 + 1, _, _, _, by omega, by go_num, rfl, HNn, HRn, HBn, hide R⟩, rfl⟩)
              case measure => simp [intOf]; omega
          · have h4 : ¬ c.kind = 4 := fun h => hmk (.inl h)
            have h5 : ¬ c.kind = 5 := fun h => hmk (.inr h)
            have h4' : (c.kind == 4) = false := by simp [h4]
            have h5' : (c.kind == 5) = false := by simp [h5]
            have HEn := hide (chOk_ent (unhide HCc) hmk)
            have HP0 : Hid (c.path.data.toList ≠ []) := hide (ent_parts (unhide HEn)).1
            have HMk := hide hmk
            clear hmk
            by_cases k1 : kindP (putsF T (cs.take k2)) (dirOf c.path.data.toList) = 1
            · have C : Hid (putBad T cs k2 = false) := hide (by rw [putBad_eq (unhide HEc), decide_eq_true k1]; simp)
              have HMe : Hid (putsF T (cs.take (k2 + 1)) = putE (putsF T (cs.take k2)) c) := hide (by rw [unhide HPk0, put1, if_neg (unhide HMk)])
              have HK1 := hide k1
              clear k1 h4 h5
              go_wp2_with (first
                | (go_at_call 30; refine (up_any c.path _ (by omega) (unhide HP0)).mono ?_; rintro ev w4 ⟨dd, nn, rfl, HD, HNm, hb4⟩; have q0 := cell_later hb4 q0; have q1 := cell_later hb4 q1; have q2 := cell_later hb4 q2; have q3 := cell_later hb4 q3)
                | (go_at_call 31; refine (kind_any _ _ _ (putsF T (cs.take k2)) dd _ ((unhide HR3).below hb4) (hide (unhide HN3).1) (by omega)).mono ?_; rintro ev w5 ⟨kd, rfl, HKD, hw⟩; obtain rfl := hw.symm; have hkd : kd = 1 := (by rw [unhide HKD, unhide HD]; exact unhide HK1); subst hkd)
                | (go_at_call 39; refine (refPut_any ao3 cap3 n3 (putsF T (cs.take k2)) c _ ((unhide HR3).below hb4) (hide (unhide HN3).1) (by omega) (hide (unhide HN3).2.1) (hide (unhide HN3).2.2.2) hs1).mono ?_; rintro ev w6 ⟨ao4, cap4, n4, rfl, HN4, hrow4, hnc4, hb6⟩))
              have hB4 := hB0.trans (hb4.mono hB0.size)
              have HNn : Hid (n4 = (putsF T (cs.take (k2 + 1))).length ∧ TreeS (putsF T (cs.take (k2 + 1))) ∧ (putsF T (cs.take (k2 + 1))).length ≤ 40 + (k2 + 1) ∧ Small (putsF T (cs.take (k2 + 1)))) := hide (by
                rw [unhide HMe]
                have h := unhide HN3
                refine ⟨unhide HN4, put_tree h.2.1 (unhide HEn) (unhide HK1), ?_, fun e he => ?_⟩
                · have := put_len (f := Ent.q) h.2.1.ord (bothE (putsF T (cs.take k2)) c) c
                  rw [putE]; omega
                · rcases put_mem.1 he with e1 | ⟨e1, _⟩
                  · rw [e1]; exact unhide HSc1
                  · exact h.2.2.2 e e1)
              have HRn : ERow w6 ao4 (putsF T (cs.take (k2 + 1))) := by rw [unhide HMe]; exact hrow4
              have HBn : Below w.heap.size w w6 := hB4.trans (hb6.mono hB4.size)
              go_roundw
              case rel =>
                have R : ∀ j, j < k2 + 1 → putBad T cs j = false := fun j hj => by
                  rcases Nat.lt_or_ge j k2 with h | h
                  · exact unhide HK2 j h
                  · have e9 : j = k2 := by omega
                    rw [e9]; exact unhide C
                first
                  | exact ⟨k2 + 1, _, _, _, by omega, by go_num, rfl, HNn, HRn, HBn, hide R⟩
                  | ((repeat apply Exists.intro); exact ⟨⟨k2 + 1, _, _, _, by omega, by go_num, rfl, HNn, HRn, HBn, hide R⟩, rfl⟩)
              case measure => simp [intOf]; omega
            · have C : Hid (putBad T cs k2 = true) := hide (by rw [putBad_eq (unhide HEc), decide_eq_false (unhide HMk), decide_eq_false k1]; rfl)
              have HK1 := hide k1
              clear k1 h4 h5
              go_wp2_with (first
                | (go_at_call 30; refine (up_any c.path _ (by omega) (unhide HP0)).mono ?_; rintro ev w4 ⟨dd, nn, rfl, HD, HNm, hb4⟩; have q0 := cell_later hb4 q0; have q1 := cell_later hb4 q1; have q2 := cell_later hb4 q2; have q3 := cell_later hb4 q3)
                | (go_at_call 31; refine (kind_any _ _ _ (putsF T (cs.take k2)) dd _ ((unhide HR3).below hb4) (hide (unhide HN3).1) (by omega)).mono ?_; rintro ev w5 ⟨kd, rfl, HKD, hw⟩; obtain rfl := hw.symm; have hkd : ¬ kd = 1 := (fun h => unhide HK1 (by rw [← unhide HD, ← unhide HKD]; exact h)); have hkd2 : (kd == 1) = false := (by simp [hkd]); have hkd3 : (kd != 1) = true := (by simp [hkd])))
              go_ret3
              refine ⟨none, 0, 0, [], 9, k2, rfl, hide rfl, fun k e hk => by simp at hk, hide (.inr (.inl ⟨unhide HF1, k2, rfl, rfl, rfl, ?_⟩)), hB0.trans (hb4.mono hB0.size)⟩
              rw [← unhide HT0]
              exact .inr ⟨k2, rfl, unhide HLen, unhide C, unhide HK2⟩
        · have hkc : cs.take k2 = cs := List.take_of_length_le (by have := unhide HNb; omega)
          rw [hkc] at HN3 hrow3
          have HF2 : Hid (FirstP (putBad (marksF es cs) cs) cs.length (-1)) := hide (by rw [← unhide HT0]; exact .inl ⟨rfl, fun i hi => unhide HK2 i (by have := unhide HNb; omega)⟩)
          have HPt : Hid (putsF T cs = patF es cs) := hide (by rw [patF, ← unhide HT0])
          have HR3 := hide hrow3
          clear hkc hrow3
          by_cases h40 : n3 ≤ 40
          · have i40 : (n3 : Int) ≤ 40 := by omega
            go_wp2_with fail
            go_ret3
            exact ⟨ao3, cap3, n3, patF es cs, 0, -1, rfl, hide (by rw [← unhide HPt]; exact (unhide HN3).1), (by rw [← unhide HPt]; exact unhide HR3), hide (.inr (.inr ⟨unhide HF1, unhide HF2, .inr ⟨(by rw [← unhide HPt, ← (unhide HN3).1]; exact h40), rfl, rfl, rfl⟩⟩)), hb3⟩
          · have i40 : ¬ (n3 : Int) ≤ 40 := by omega
            have i41 : (40 : Int) < (n3 : Int) := by omega
            go_wp2_with fail
            go_ret3
            exact ⟨none, 0, 0, [], 10, -1, rfl, hide rfl, fun k e hk => by simp at hk, hide (.inr (.inr ⟨unhide HF1, unhide HF2, .inl ⟨(by rw [← unhide HPt, ← (unhide HN3).1]; omega), rfl, rfl, rfl⟩⟩)), hb3⟩
end Go.Proofs.YtkeefkfklmhcjaaGreatDoor
