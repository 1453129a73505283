import Derived.Test.YtjofjcjojgpaeaaGreatDoorJEntB
import Derived.Deep.DeepCutAuto
import Derived.Deep.RegionWith
import Derived.Deep.Draws
import Derived.Sort.Grow
namespace Go.Proofs.YtjofjcjojgpaeaaGreatDoor
open Go.RowKit
attribute [local go_sem] str_gtr

theorem get_lt {ps : List ByteArray} {n k : Nat} (hn : n = ps.length) (hk : k < n) : ∃ b, ps[k]? = some b := ⟨ps[k]'(by omega), List.getElem?_eq_getElem (by omega)⟩

set_option maxHeartbeats 1000000 in
theorem scmp_any (ao1 ao2 : Option Addr) (cap1 cap2 n1 n2 : Nat) (ps1 ps2 : List ByteArray) (w : World) (ht1 : TRow w ao1 ps1) (ht2 : TRow w ao2 ps2) (HN1 : Hid (n1 = ps1.length)) (HN2 : Hid (n2 = ps2.length)) (hl1 : n1 ≤ 4294967280) (hl2 : n2 ≤ 4294967280) :
    Calls Tryz.prog 64 #[.slice ao1 n1 cap1, .slice ao2 n2 cap2] w fun e w' => e = .returned (.int .i64 (cmpT (txts ps1) (txts ps2))) ∧ w' = w := by
  have L1 : Hid ((txts ps1).length = n1) := hide (by rw [txts_len, unhide HN1])
  have L2 : Hid ((txts ps2).length = n2) := hide (by rw [txts_len, unhide HN2])
  go_enter Tryz.func64, Tryz.ntmps64
  go_wp2
  go_loop [11] (fun i => ∃ k : Nat, k ≤ n1 ∧ k ≤ n2 ∧ i = .int .i64 k ∧ Hid (cmpT (txts ps1) (txts ps2) = cmpT ((txts ps1).drop k) ((txts ps2).drop k))) (fun i => n1 - (intOf i).toNat)
  case atStart => exact ⟨0, by omega, by omega, rfl, hide rfl⟩
  case round =>
    obtain ⟨k, hk1, hk2, rfl, HK⟩ := hrel
    by_cases hlt : k < n1
    · obtain ⟨x, hx⟩ := get_lt (unhide HN1) hlt
      obtain ⟨g1, rfl, c1⟩ := ht1 k x hx
      have i1 : (k : Int) < n1 := by omega
      have i0 : (0 : Int) ≤ k := by omega
      by_cases hlt2 : k < n2
      · obtain ⟨y, hy⟩ := get_lt (unhide HN2) hlt2
        obtain ⟨g2, rfl, c2⟩ := ht2 k y hy
        have HA := hide (cmpT_at (txts_get hx) (txts_get hy))
        have i2 : (k : Int) < n2 := by omega
        clear hx hy
        cases h1 : Op.bytesLess x.toList y.toList
        · cases h2 : (x.toList == y.toList)
          · have e : cmpS x.toList y.toList = 1 := by simp [cmpS, h1, h2]
            go_wp2_with (go_at_call 90; refine (cmp_any _ _ _).mono ?_; rintro ev w' ⟨rfl, hw⟩; obtain rfl := hw.symm)
            go_ret
            have R : cmpT (txts ps1) (txts ps2) = 1 := by rw [unhide HK, unhide HA, ← Lib.toList_data x, ← Lib.toList_data y, h1, h2]; simp
            exact ⟨by (rw [R]; try rfl), rfl⟩
          · have e : cmpS x.toList y.toList = 0 := by simp [cmpS, h1, h2]
            go_wp2_with (go_at_call 90; refine (cmp_any _ _ _).mono ?_; rintro ev w' ⟨rfl, hw⟩; obtain rfl := hw.symm)
            go_round
            case rel =>
              have R : cmpT (txts ps1) (txts ps2) = cmpT ((txts ps1).drop (k + 1)) ((txts ps2).drop (k + 1)) := by
                rw [unhide HK, unhide HA, ← Lib.toList_data x, ← Lib.toList_data y, h1, h2]; simp
              exact ⟨k + 1, by omega, by omega, by go_num, hide R⟩
            case measure => simp [intOf]; omega
        · have e : cmpS x.toList y.toList = -1 := by simp [cmpS, h1]
          go_wp2_with (go_at_call 90; refine (cmp_any _ _ _).mono ?_; rintro ev w' ⟨rfl, hw⟩; obtain rfl := hw.symm)
          go_ret
          have R : cmpT (txts ps1) (txts ps2) = -1 := by rw [unhide HK, unhide HA, ← Lib.toList_data x, ← Lib.toList_data y, h1]; simp
          exact ⟨by (rw [R]; try rfl), rfl⟩
      · have HA := hide (cmpT_end (x := txts ps1) (y := txts ps2) (k := k) (by rw [unhide L1, unhide L2]; omega) (by rw [unhide L1]; omega) (by rw [unhide L2]; omega))
        clear hx
        go_wp2
        go_ret
        have R : cmpT (txts ps1) (txts ps2) = 1 := by
          rw [unhide HK, unhide HA, unhide L1, unhide L2]
          split <;> (try split) <;> omega
        exact ⟨by (rw [R]; try rfl), rfl⟩
    · have HA := hide (cmpT_end (x := txts ps1) (y := txts ps2) (k := k) (by rw [unhide L1, unhide L2]; omega) (by rw [unhide L1]; omega) (by rw [unhide L2]; omega))
      by_cases hl : (n1 : Int) < n2
      · go_wp2
        go_ret
        have R : cmpT (txts ps1) (txts ps2) = -1 := by
          rw [unhide HK, unhide HA, unhide L1, unhide L2]
          split <;> (try split) <;> omega
        exact ⟨by (rw [R]; try rfl), rfl⟩
      · go_wp2
        go_ret
        have R : cmpT (txts ps1) (txts ps2) = 0 := by
          rw [unhide HK, unhide HA, unhide L1, unhide L2]
          split <;> (try split) <;> omega
        exact ⟨by (rw [R]; try rfl), rfl⟩

/-- Of the elements the world is told: nothing turns, one block may come. -/
theorem elems_grow (s : ByteArray) (m : Int) (w : World) (hs : s.size ≤ 4294967280) (hm : w.cell? ⟨14, 0, none⟩ = some (.int .i64 m)) :
    Calls Tryz.prog 65 #[.string s] w fun e w' => ∃ ao cap n ps, e = .returned (.slice ao n cap) ∧ TRow w' ao ps ∧ Hid (txts ps = prt s.data.toList) ∧ Hid (n = ps.length) ∧ n ≤ s.size + 1 ∧ Below w.heap.size w w' ∧ Hid (∃ os, w' = Go.Sort.grow w os) := by
  by_cases h : s.data.toList = []
  · refine (elems_nil s w h).mono ?_
    rintro e w' ⟨rfl, hw⟩
    obtain rfl := hw.symm
    exact ⟨none, 0, 0, [], rfl, trow_nil _ _, hide (by rw [h]; rfl), hide rfl, by omega, Below.refl _ _, hide ⟨#[], (Go.Sort.grow_empty w).symm⟩⟩
  · refine (elems_some s m w hs hm h).mono ?_
    rintro e w' ⟨g, cap, ps, rfl, h1, h2, h3, h4⟩
    have hl : ps.length ≤ s.size + 1 := by have := spl_len s.data.toList; rw [← h2, txts_len, ← Lib.size_eq] at this; exact this
    exact ⟨_, cap, _, ps, rfl, trow_of_own h1, hide (by rw [prt_ne h]; exact h2), hide rfl, hl, h3, hide h4⟩
set_option maxHeartbeats 400000 in
theorem compare_grow (a b : ByteArray) (m : Int) (w : World) (ha : a.size ≤ 1073741824) (hb : b.size ≤ 1073741824) (hm : w.cell? ⟨14, 0, none⟩ = some (.int .i64 m)) :
    Calls Tryz.prog 36 #[.string a, .string b] w fun e w' => e = .returned (.int .i64 (cmpT (prt a.data.toList) (prt b.data.toList))) ∧ (∃ os, w' = Go.Sort.grow w os) ∧ Below w.heap.size w w' := by
  have HM := hide hm
  clear hm
  go_enter Tryz.func36, Tryz.ntmps36
  go_wp2_with (first
    | (go_at_call_of 65 (Value.string a); refine (elems_grow a m _ (by omega) (unhide HM)).mono ?_; rintro ev w1 ⟨ao1, cap1, n1, ps1, rfl, ht1, HE1, HN1, hl1, hb1, HG1⟩)
    | (go_at_call_of 65 (Value.string b); refine (elems_grow b m _ (by omega) (cell_later hb1 (unhide HM))).mono ?_; rintro ev w2 ⟨ao2, cap2, n2, ps2, rfl, ht2, HE2, HN2, hl2, hb2, HG2⟩)
    | (go_at_call 64; refine (scmp_any _ _ _ _ _ _ ps1 ps2 _ (ht1.below hb2) ht2 HN1 HN2 (by omega) (by omega)).mono ?_; rintro ev w3 ⟨rfl, hw⟩; obtain rfl := hw.symm))
  go_ret
  obtain ⟨o1, h1⟩ := unhide HG1
  obtain ⟨o2, h2⟩ := unhide HG2
  refine ⟨by rw [← unhide HE1, ← unhide HE2]; rfl, ⟨o1 ++ o2, ?_⟩, hb1.trans (hb2.mono hb1.size)⟩
  rw [h2, h1, Go.Sort.grow_grow]
theorem compare_any (a b : ByteArray) (m : Int) (w : World) (ha : a.size ≤ 1073741824) (hb : b.size ≤ 1073741824) (hm : w.cell? ⟨14, 0, none⟩ = some (.int .i64 m)) :
    Calls Tryz.prog 36 #[.string a, .string b] w fun e w' => ∃ n : Int, e = .returned (.int .i64 n) ∧ (n < 0 ↔ ltL (prt a.data.toList) (prt b.data.toList) = true) ∧ Below w.heap.size w w' := by
  refine (compare_grow a b m w ha hb hm).mono ?_
  rintro e w' ⟨rfl, _, hb⟩
  exact ⟨_, rfl, cmpT_lt, hb⟩
end Go.Proofs.YtjofjcjojgpaeaaGreatDoor

namespace Go.Proofs.YtjofjcjojgpaeaaGreatDoor
open Go.RowKit

theorem spl_app (a b : List UInt8) : spl (a ++ 47 :: b) = spl a ++ spl b := by
  induction a with
  | nil => simp [spl]
  | cons c r ih =>
    have hne := spl_ne r
    rw [List.cons_append, spl, ih, spl]
    split
    · rfl
    · cases h2 : spl r with
      | nil => exact absurd h2 hne
      | cons x y => simp
theorem spl_no {b : List UInt8} (h : 47 ∉ b) : spl b = [b] := by
  induction b with
  | nil => rfl
  | cons c r ih =>
    simp only [List.mem_cons, not_or] at h
    rw [spl, if_neg (Ne.symm h.1), ih h.2]; rfl
/-- The directory that a path is in, and its last element. -/
def dirOf (l : List UInt8) : List UInt8 := Lib.join ((spl l).dropLast) [47]
def nameOf (l : List UInt8) : List UInt8 := (spl l).getLastD []
theorem dir_no {b : List UInt8} (h : 47 ∉ b) : dirOf b = [] ∧ nameOf b = b := by
  rw [dirOf, nameOf, spl_no h]; exact ⟨rfl, rfl⟩
theorem dir_at {a b : List UInt8} (h : 47 ∉ b) : dirOf (a ++ 47 :: b) = a ∧ nameOf (a ++ 47 :: b) = b := by
  rw [dirOf, nameOf, spl_app, spl_no h]
  simp [spl_join]
theorem own_take {w : World} {B g cap : Nat} {ps : List ByteArray} (h : Own w B (.slice (some ⟨g, 0, none⟩) ps.length cap) ps) (n : Nat) (hn : n ≤ ps.length) : Own w B (.slice (some ⟨g, 0, none⟩) n cap) (ps.take n) := by
  have hl : (ps.take n).length = n := by simp; omega
  rcases h.2 with ⟨hv, _⟩ | ⟨g', cap', cur, hv, hbg, hg, hnc, hcm, hcs, htake⟩
  · cases hv
  · cases hv
    refine ⟨by simp, .inr ⟨g, cap, cur, by rw [hl], hbg, hg, by rw [hl]; omega, hcm, hcs, ?_⟩⟩
    rw [hl, Nat.mul_one, List.map_take, ← htake, List.take_take, Nat.mul_one, Nat.min_eq_left hn]
theorem ret2 {a b c d : ByteArray} (h1 : a = c) (h2 : b = d) : Ending.returned (.tuple #[.string a, .string b]) = .returned (.tuple #[.string c, .string d]) := by rw [h1, h2]

theorem byte_at (s : ByteArray) (j : Nat) (hj : j < s.size) : s.data[j]! = s.data.toList[j]'(by rw [← Lib.size_eq]; exact hj) := by
  have h : j < s.data.size := hj
  rw [getElem!_pos s.data j h]; simp
theorem lastB (s : ByteArray) : (Lib.lastIndexByte s 47 = -1 ∧ dirOf s.data.toList = [] ∧ nameOf s.data.toList = s.data.toList) ∨ (∃ i : Nat, i < s.size ∧ Lib.lastIndexByte s 47 = i ∧ dirOf s.data.toList = s.data.toList.take i ∧ nameOf s.data.toList = s.data.toList.drop (i + 1)) := by
  have hl := Lib.size_eq s
  rcases Lib.lastIndexByte_spec s 47 with ⟨h1, h2⟩ | ⟨i, hi, h1, h2, h3⟩
  · refine .inl ⟨h1, ?_⟩
    refine dir_no fun hm => ?_
    obtain ⟨j, hj, e⟩ := List.getElem_of_mem hm
    have := h2 j (by omega)
    rw [byte_at s j (by omega), e] at this
    exact this rfl
  · refine .inr ⟨i, hi, h1, ?_⟩
    have hc : s.data.toList[i]'(by omega) = 47 := by
      rw [byte_at s i hi] at h2
      exact UInt8.toNat_inj.1 (by have : (47 : UInt8).toNat = 47 := rfl; omega)
    have hsp : s.data.toList = s.data.toList.take i ++ 47 :: s.data.toList.drop (i + 1) := by
      rw [← hc, ← List.drop_eq_getElem_cons, List.take_append_drop]
    have hn : (47 : UInt8) ∉ s.data.toList.drop (i + 1) := fun hm => by
      obtain ⟨j, hj, e⟩ := List.getElem_of_mem hm
      rw [List.length_drop] at hj
      rw [List.getElem_drop] at e
      have := h3 (i + 1 + j) (by omega) (by omega)
      rw [byte_at s _ (by omega), e] at this
      exact this rfl
    have := dir_at (a := s.data.toList.take i) hn
    rw [← hsp] at this
    exact this

set_option maxHeartbeats 400000 in
theorem last_any (s : ByteArray) (w : World) (hs : s.size ≤ 1073741824) :
    Calls Tryz.prog 66 #[.string s] w fun e w' => ∃ d n : ByteArray, e = .returned (.tuple #[.string d, .string n]) ∧ Hid (d.data.toList = dirOf s.data.toList) ∧ Hid (n.data.toList = nameOf s.data.toList) ∧ Below w.heap.size w w' := by
  have hLI := fun w : World => Tryz.strings_LastIndex_one s ⟨#[47]⟩ rfl (by omega) w
  rcases lastB s with ⟨h1, h2, h3⟩ | ⟨i, hi, h1, h2, h3⟩
  · have HR := hide (And.intro h2 h3)
    have hz : Lib.lastIndexByte s (((⟨#[47]⟩ : ByteArray)[0]'(by decide)).toNat : Int) = -1 := h1
    simp only [hz] at hLI
    clear h1 h2 h3 hz
    go_enter Tryz.func66, Tryz.ntmps66
    go_wp2_with (go_at_call 92; refine (hLI _).mono ?_; rintro ev w' ⟨rfl, hw⟩; obtain rfl := hw.symm)
    go_ret2
    exact ⟨bs [], s, ret2 rfl rfl, hide (by rw [(unhide HR).1]; rfl), hide (unhide HR).2.symm, Below.refl _ _⟩
  · have HR := hide (And.intro h2 h3)
    have hz : Lib.lastIndexByte s (((⟨#[47]⟩ : ByteArray)[0]'(by decide)).toNat : Int) = (i : Int) := h1
    simp only [hz] at hLI
    have i0 : (0 : Int) ≤ (i : Int) := by omega
    have i1 : (i : Int) ≤ (s.size : Int) := by omega
    have i2 : (i : Int) + 1 ≤ (s.size : Int) := by omega
    have i3 : (0 : Int) ≤ (i : Int) + 1 := by omega
    clear h1 h2 h3 hz
    go_enter Tryz.func66, Tryz.ntmps66
    go_wp2_with (go_at_call 92; refine (hLI _).mono ?_; rintro ev w' ⟨rfl, hw⟩; obtain rfl := hw.symm)
    go_quiet (fail)
    go_wp2_with fail
    go_ret2
    refine ⟨_, _, ret2 rfl rfl, hide ?_, hide ?_, below_drewN (Below.refl _ _) _⟩
    · rw [Lib.extract_data, (unhide HR).1]; simp
    · rw [Lib.extract_data, (unhide HR).2, List.take_of_length_le (by rw [List.length_drop, ← Lib.size_eq]; omega)]
end Go.Proofs.YtjofjcjojgpaeaaGreatDoor
