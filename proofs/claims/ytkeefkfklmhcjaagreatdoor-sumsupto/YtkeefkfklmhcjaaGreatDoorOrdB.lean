import Derived.Test.YtkeefkfklmhcjaaGreatDoorJOrdA
import Derived.Deep.DeepCutAuto
import Derived.Deep.RegionWith
import Derived.Deep.Draws
import Derived.Sort.Grow
namespace Go.Proofs.YtkeefkfklmhcjaaGreatDoor
open Go.RowKit
attribute [local go_sem] str_gtr

theorem get_lt {ps : List ByteArray} {n k : Nat} (hn : n = ps.length) (hk : k < n) : ∃ b, ps[k]? = some b := ⟨ps[k]'(by omega), List.getElem?_eq_getElem (by omega)⟩

set_option maxHeartbeats 1000000 in
theorem order_any (a b : ByteArray) (w : World) (ha : a.size ≤ 1073741824) (hb : b.size ≤ 1073741824) :
    Calls Tryz.prog 29 #[.string a, .string b] w fun e w' => ∃ n : Int, e = .returned (.int .i64 n) ∧ (n < 0 ↔ ltL (prt a.data.toList) (prt b.data.toList) = true) ∧ (n = 0 ↔ cmpT (prt a.data.toList) (prt b.data.toList) = 0) ∧ Below w.heap.size w w' := by
  go_enter Tryz.func29, Tryz.ntmps29
  go_upto_region 3 with (first
    | (go_at_call_of 52 (Value.string a); refine (parts_any a _ (by omega)).mono ?_; rintro ev w1 ⟨ao1, cap1, n1, ps1, rfl, ht1, HE1, HN1, hl1, hb1⟩)
    | (go_at_call_of 52 (Value.string b); refine (parts_any b _ (by omega)).mono ?_; rintro ev w2 ⟨ao2, cap2, n2, ps2, rfl, ht2, HE2, HN2, hl2, hb2⟩))
  have ht1 := ht1.below hb2
  have hB : Below w.heap.size w w2 := hb1.trans (hb2.mono hb1.size)
  have L1 : Hid ((prt a.data.toList).length = n1) := hide (by rw [← unhide HE1, txts_len, unhide HN1])
  have L2 : Hid ((prt b.data.toList).length = n2) := hide (by rw [← unhide HE2, txts_len, unhide HN2])
  clear hb1 hb2
  go_wp2_with fail
  go_loopw [7] (fun i wr => ∃ k d : Nat, k ≤ n1 ∧ k ≤ n2 ∧ i = .int .i64 k ∧ wr = w2.drewN d ∧ Hid (cmpT (prt a.data.toList) (prt b.data.toList) = cmpT ((prt a.data.toList).drop k) ((prt b.data.toList).drop k))) (fun i _ => n1 - (intOf i).toNat)
  case atStart => exact ⟨0, 0, by omega, by omega, rfl, rfl, hide rfl⟩
  case round =>
    obtain ⟨k, d, hk1, hk2, rfl, rfl, HK⟩ := hrel
    by_cases hlt : k < n1 ∧ k < n2
    · obtain ⟨x, hx⟩ := get_lt (unhide HN1) hlt.1
      obtain ⟨y, hy⟩ := get_lt (unhide HN2) hlt.2
      obtain ⟨g1, rfl, c1⟩ := ht1 k x hx
      obtain ⟨g2, rfl, c2⟩ := ht2 k y hy
      have HA := hide (cmpT_at (by rw [← unhide HE1]; exact txts_get hx : (prt a.data.toList)[k]? = some x.data.toList) (by rw [← unhide HE2]; exact txts_get hy : (prt b.data.toList)[k]? = some y.data.toList))
      have i1 : (k : Int) < n1 := by omega
      have i2 : (k : Int) < n2 := by omega
      have i0 : (0 : Int) ≤ k := by omega
      clear hx hy
      cases h1 : Op.bytesLess x.toList y.toList
      · cases h2 : (x.toList == y.toList)
        · go_wp2_with fail
          go_quiet (fail)
          go_wp2_with fail
          go_quiet (fail)
          go_wp2_with fail
          go_ret
          have R : cmpT (prt a.data.toList) (prt b.data.toList) = 1 := by rw [unhide HK, unhide HA, ← Lib.toList_data x, ← Lib.toList_data y, h1, h2]; simp
          exact ⟨1, rfl, by rw [← cmpT_lt, R], by rw [R], below_drewN (below_drewN (below_drewN hB _) _) _⟩
        · go_wp2_with fail
          go_quiet (fail)
          go_wp2_with fail
          go_quiet (fail)
          go_wp2_with fail
          go_roundw
          case rel =>
            have R : cmpT (prt a.data.toList) (prt b.data.toList) = cmpT ((prt a.data.toList).drop (k + 1)) ((prt b.data.toList).drop (k + 1)) := by
              rw [unhide HK, unhide HA, ← Lib.toList_data x, ← Lib.toList_data y, h1, h2]; simp
            first
              | exact ⟨k + 1, _, by omega, by omega, by go_num, rfl, hide R⟩
              | ((repeat apply Exists.intro); exact ⟨⟨k + 1, _, by omega, by omega, by go_num, rfl, hide R⟩, rfl⟩)
          case measure => simp [intOf]; omega
      · go_wp2_with fail
        go_quiet (fail)
        go_wp2_with fail
        go_ret
        have R : cmpT (prt a.data.toList) (prt b.data.toList) = -1 := by rw [unhide HK, unhide HA, ← Lib.toList_data x, ← Lib.toList_data y, h1]; simp
        exact ⟨-1, rfl, by rw [← cmpT_lt, R], by rw [R], below_drewN (below_drewN hB _) _⟩
    · have HA := hide (cmpT_end (x := prt a.data.toList) (y := prt b.data.toList) (k := k) (by rw [unhide L1, unhide L2]; omega) (by rw [unhide L1]; omega) (by rw [unhide L2]; omega))
      have hcase : n1 ≤ k ∨ (k < n1 ∧ n2 ≤ k) := by omega
      clear hlt
      rcases hcase with hc | ⟨hc1, hc2⟩
      all_goals
        go_wp2_with fail
        go_ret
        have R : cmpT (prt a.data.toList) (prt b.data.toList) = if n1 < n2 then -1 else if n1 = n2 then 0 else 1 := by rw [unhide HK, unhide HA, unhide L1, unhide L2]
        refine ⟨(n1 : Int) - n2, by simp, ?_, ?_, below_drewN hB _⟩
        · rw [← cmpT_lt, R]
          split <;> (try split) <;> omega
        · rw [R]
          split <;> (try split) <;> omega

set_option maxHeartbeats 1000000 in
theorem scmp_any (ao1 ao2 : Option Addr) (cap1 cap2 n1 n2 : Nat) (ps1 ps2 : List ByteArray) (w : World) (ht1 : TRow w ao1 ps1) (ht2 : TRow w ao2 ps2) (HN1 : Hid (n1 = ps1.length)) (HN2 : Hid (n2 = ps2.length)) (hl1 : n1 ≤ 4294967280) (hl2 : n2 ≤ 4294967280) :
    Calls Tryz.prog 103 #[.slice ao1 n1 cap1, .slice ao2 n2 cap2] w fun e w' => e = .returned (.int .i64 (cmpT (txts ps1) (txts ps2))) ∧ w' = w := by
  have L1 : Hid ((txts ps1).length = n1) := hide (by rw [txts_len, unhide HN1])
  have L2 : Hid ((txts ps2).length = n2) := hide (by rw [txts_len, unhide HN2])
  go_enter Tryz.func103, Tryz.ntmps103
  go_wp2
  go_loop [11] (fun i => ∃ k : Nat, k ≤ n1 ∧ k ≤ n2 ∧ i = .int .i64 k ∧ Hid (cmpT (txts ps1) (txts ps2) = cmpT ((txts ps1).drop k) ((txts ps2).drop k))) (fun i => n1 - (intOf i).toNat)
  case atStart => exact ⟨0, by omega, by omega, rfl, hide rfl⟩
  case round =>
    obtain ⟨k, hk1, hk2, rfl, HK⟩ := hrel
    by_cases hlt : k < n1
    · obtain ⟨x, hx⟩ := get_lt (unhide HN1) hlt
      obtain ⟨g1, rfl, c1⟩ := ht1 k x hx
      have i1 : (k : Int) < n1 := by omega
      have i0 : (0 : Int) ≤ k := by omega
      by_cases hlt2 : k < n2
      · obtain ⟨y, hy⟩ := get_lt (unhide HN2) hlt2
        obtain ⟨g2, rfl, c2⟩ := ht2 k y hy
        have HA := hide (cmpT_at (txts_get hx) (txts_get hy))
        have i2 : (k : Int) < n2 := by omega
        clear hx hy
        cases h1 : Op.bytesLess x.toList y.toList
        · cases h2 : (x.toList == y.toList)
          · have e : cmpS x.toList y.toList = 1 := by simp [cmpS, h1, h2]
            go_wp2_with (go_at_call 137; refine (cmp_any _ _ _).mono ?_; rintro ev w' ⟨rfl, hw⟩; obtain rfl := hw.symm)
            go_ret
            have R : cmpT (txts ps1) (txts ps2) = 1 := by rw [unhide HK, unhide HA, ← Lib.toList_data x, ← Lib.toList_data y, h1, h2]; simp
            exact ⟨by (rw [R]; try rfl), rfl⟩
          · have e : cmpS x.toList y.toList = 0 := by simp [cmpS, h1, h2]
            go_wp2_with (go_at_call 137; refine (cmp_any _ _ _).mono ?_; rintro ev w' ⟨rfl, hw⟩; obtain rfl := hw.symm)
            go_round
            case rel =>
              have R : cmpT (txts ps1) (txts ps2) = cmpT ((txts ps1).drop (k + 1)) ((txts ps2).drop (k + 1)) := by
                rw [unhide HK, unhide HA, ← Lib.toList_data x, ← Lib.toList_data y, h1, h2]; simp
              exact ⟨k + 1, by omega, by omega, by go_num, hide R⟩
            case measure => simp [intOf]; omega
        · have e : cmpS x.toList y.toList = -1 := by simp [cmpS, h1]
          go_wp2_with (go_at_call 137; refine (cmp_any _ _ _).mono ?_; rintro ev w' ⟨rfl, hw⟩; obtain rfl := hw.symm)
          go_ret
          have R : cmpT (txts ps1) (txts ps2) = -1 := by rw [unhide HK, unhide HA, ← Lib.toList_data x, ← Lib.toList_data y, h1]; simp
          exact ⟨by (rw [R]; try rfl), rfl⟩
      · have HA := hide (cmpT_end (x := txts ps1) (y := txts ps2) (k := k) (by rw [unhide L1, unhide L2]; omega) (by rw [unhide L1]; omega) (by rw [unhide L2]; omega))
        clear hx
        go_wp2
        go_ret
        have R : cmpT (txts ps1) (txts ps2) = 1 := by
          rw [unhide HK, unhide HA, unhide L1, unhide L2]
          split <;> (try split) <;> omega
        exact ⟨by (rw [R]; try rfl), rfl⟩
    · have HA := hide (cmpT_end (x := txts ps1) (y := txts ps2) (k := k) (by rw [unhide L1, unhide L2]; omega) (by rw [unhide L1]; omega) (by rw [unhide L2]; omega))
      by_cases hl : (n1 : Int) < n2
      · go_wp2
        go_ret
        have R : cmpT (txts ps1) (txts ps2) = -1 := by
          rw [unhide HK, unhide HA, unhide L1, unhide L2]
          split <;> (try split) <;> omega
        exact ⟨by (rw [R]; try rfl), rfl⟩
      · go_wp2
        go_ret
        have R : cmpT (txts ps1) (txts ps2) = 0 := by
          rw [unhide HK, unhide HA, unhide L1, unhide L2]
          split <;> (try split) <;> omega
        exact ⟨by (rw [R]; try rfl), rfl⟩

/-- Of the elements the world is told: nothing turns, one block may come. -/
theorem elems_grow (s : ByteArray) (m : Int) (w : World) (hs : s.size ≤ 4294967280) (hm : w.cell? ⟨15, 0, none⟩ = some (.int .i64 m)) :
    Calls Tryz.prog 104 #[.string s] w fun e w' => ∃ ao cap n ps, e = .returned (.slice ao n cap) ∧ TRow w' ao ps ∧ Hid (txts ps = prt s.data.toList) ∧ Hid (n = ps.length) ∧ n ≤ s.size + 1 ∧ Below w.heap.size w w' ∧ Hid (∃ os, w' = Go.Sort.grow w os) := by
  by_cases h : s.data.toList = []
  · refine (elems_nil s w h).mono ?_
    rintro e w' ⟨rfl, hw⟩
    obtain rfl := hw.symm
    exact ⟨none, 0, 0, [], rfl, trow_nil _ _, hide (by rw [h]; rfl), hide rfl, by omega, Below.refl _ _, hide ⟨#[], (Go.Sort.grow_empty w).symm⟩⟩
  · refine (elems_some s m w hs hm h).mono ?_
    rintro e w' ⟨g, cap, ps, rfl, h1, h2, h3, h4⟩
    have hl : ps.length ≤ s.size + 1 := by have := spl_len s.data.toList; rw [← h2, txts_len, ← Lib.size_eq] at this; exact this
    exact ⟨_, cap, _, ps, rfl, trow_of_own h1, hide (by rw [prt_ne h]; exact h2), hide rfl, hl, h3, hide h4⟩
set_option maxHeartbeats 400000 in
theorem compare_grow (a b : ByteArray) (m : Int) (w : World) (ha : a.size ≤ 1073741824) (hb : b.size ≤ 1073741824) (hm : w.cell? ⟨15, 0, none⟩ = some (.int .i64 m)) :
    Calls Tryz.prog 68 #[.string a, .string b] w fun e w' => e = .returned (.int .i64 (cmpT (prt a.data.toList) (prt b.data.toList))) ∧ (∃ os, w' = Go.Sort.grow w os) ∧ Below w.heap.size w w' := by
  have HM := hide hm
  clear hm
  go_enter Tryz.func68, Tryz.ntmps68
  go_wp2_with (first
    | (go_at_call_of 104 (Value.string a); refine (elems_grow a m _ (by omega) (unhide HM)).mono ?_; rintro ev w1 ⟨ao1, cap1, n1, ps1, rfl, ht1, HE1, HN1, hl1, hb1, HG1⟩)
    | (go_at_call_of 104 (Value.string b); refine (elems_grow b m _ (by omega) (cell_later hb1 (unhide HM))).mono ?_; rintro ev w2 ⟨ao2, cap2, n2, ps2, rfl, ht2, HE2, HN2, hl2, hb2, HG2⟩)
    | (go_at_call 103; refine (scmp_any _ _ _ _ _ _ ps1 ps2 _ (ht1.below hb2) ht2 HN1 HN2 (by omega) (by omega)).mono ?_; rintro ev w3 ⟨rfl, hw⟩; obtain rfl := hw.symm))
  go_ret
  obtain ⟨o1, h1⟩ := unhide HG1
  obtain ⟨o2, h2⟩ := unhide HG2
  refine ⟨by rw [← unhide HE1, ← unhide HE2]; rfl, ⟨o1 ++ o2, ?_⟩, hb1.trans (hb2.mono hb1.size)⟩
  rw [h2, h1, Go.Sort.grow_grow]
theorem compare_any (a b : ByteArray) (m : Int) (w : World) (ha : a.size ≤ 1073741824) (hb : b.size ≤ 1073741824) (hm : w.cell? ⟨15, 0, none⟩ = some (.int .i64 m)) :
    Calls Tryz.prog 68 #[.string a, .string b] w fun e w' => ∃ n : Int, e = .returned (.int .i64 n) ∧ (n < 0 ↔ ltL (prt a.data.toList) (prt b.data.toList) = true) ∧ Below w.heap.size w w' := by
  refine (compare_grow a b m w ha hb hm).mono ?_
  rintro e w' ⟨rfl, _, hb⟩
  exact ⟨_, rfl, cmpT_lt, hb⟩
end Go.Proofs.YtkeefkfklmhcjaaGreatDoor
