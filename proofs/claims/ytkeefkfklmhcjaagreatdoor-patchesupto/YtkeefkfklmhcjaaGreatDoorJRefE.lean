import Derived.Test.YtkeefkfklmhcjaaGreatDoorDifP
import Derived.Test.YtkeefkfklmhcjaaGreatDoorChl
namespace Go.Proofs.YtkeefkfklmhcjaaGreatDoor
open Go.RowKit

theorem kids_small {es : List Ent} (h : Tree es) (p : List UInt8) : ∀ e ∈ kidsE es p, e.path.size ≤ 1048576 := fun e he => (h.small e (by rw [kidsE, List.mem_filter] at he; exact he.1)).1
set_option maxHeartbeats 1000000 in
set_option maxRecDepth 100000 in
theorem refClr_any (ao bo : Option Addr) (ca cb na nb : Nat) (xa xb : List Ent) (s : ByteArray) (w : World) (ha : ERow w ao xa) (hb : ERow w bo xb) (HNa : Hid (na = xa.length)) (HNb : Hid (nb = xb.length)) (HTa : Hid (Tree xa)) (HTb : Hid (Tree xb)) :
    Calls Tryz.prog 35 #[.slice ao na ca, .slice bo nb cb, .string s] w fun ev w' => ev = .returned (.bool (clrF xa xb s.data.toList)) ∧ Below w.heap.size w w' := by
  have hna : na ≤ 40 := by rw [unhide HNa]; exact (unhide HTa).len
  have hnb : nb ≤ 40 := by rw [unhide HNb]; exact (unhide HTb).len
  have hKa := kind_any ao ca na xa s w ha HNa (by omega)
  have hKb := kind_any bo cb nb xb s w hb HNb (by omega)
  by_cases ka : kindP xa s.data.toList = 1
  · by_cases kb : kindP xb s.data.toList = 1
    · have HC : Hid (clrF xa xb s.data.toList = ((kidsE xa s.data.toList).all (fun c => decide (kindP xb c.path.data.toList = 0)) && decide (1 < (kidsE xa s.data.toList).length))) := hide (by simp [clrF, ka, kb])
      have HKa := hide ka
      have HKb := hide kb
      clear ka kb
      go_enter Tryz.func35, Tryz.ntmps35
      go_upto_region 5 with (first
        | (go_at_call 31; refine hKa.mono ?_; clear hKa; rintro ev w1 ⟨k1, rfl, HK1, hw⟩; obtain rfl := hw.symm; have e1 : k1 = 1 := (by rw [unhide HK1]; exact unhide HKa); subst e1)
        | (go_at_call 31; refine hKb.mono ?_; clear hKb; rintro ev w1 ⟨k2, rfl, HK2, hw⟩; obtain rfl := hw.symm; have e2 : k2 = 1 := (by rw [unhide HK2]; exact unhide HKb); subst e2)
        | (go_at_call 51; refine (children_any ao ca na xa s _ ha HNa hna (hide (unhide HTa).small) (hide (fun e he => ((unhide HTa).path he).1))).mono ?_; rintro ev w4 ⟨ko, kc, nk, ks, rfl, HNk, hrow, HK, hb4⟩))
      have hnk : nk ≤ 40 := by rw [unhide HNk, unhide HK, kidsE]; have := List.length_filter_le (fun k => dirOf k.path.data.toList == s.data.toList) xa; have := (unhide HTa).len; omega
      go_loop [8] (fun i => ∃ k : Nat, k ≤ nk ∧ i = .int .i64 k ∧ Hid ((ks.take k).all (fun c => decide (kindP xb c.path.data.toList = 0)) = true)) (fun i => nk - (intOf i).toNat)
      case atStart => exact ⟨0, by omega, rfl, hide (by simp)⟩
      case round =>
        obtain ⟨k, hk, rfl, HA⟩ := hrel
        by_cases hlt : k < nk
        · obtain ⟨c, hc⟩ : ∃ c, ks[k]? = some c := ⟨ks[k]'(by have := unhide HNk; omega), List.getElem?_eq_getElem (by have := unhide HNk; omega)⟩
          obtain ⟨g, o, rfl, c0, _⟩ := hrow k c hc
          have i1 : (0 : Int) ≤ (k : Int) := by omega
          have i2 : (k : Int) < (nk : Int) := by omega
          have hKc := kind_any bo cb nb xb c.path w4 (hb.below hb4) HNb (by omega)
          have HT : Hid (ks.take (k + 1) = ks.take k ++ [c]) := hide (by rw [List.take_add_one, hc]; rfl)
          have HMm : Hid (c ∈ ks) := hide (List.mem_of_getElem? hc)
          clear hc
          by_cases kc0 : kindP xb c.path.data.toList = 0
          · have HK0 := hide kc0
            clear kc0
            go_wp2_with (go_at_call 31; refine hKc.mono ?_; clear hKc; rintro ev w5 ⟨k3, rfl, HK3, hw⟩; obtain rfl := hw.symm; have e3 : k3 = 0 := (by rw [unhide HK3]; exact unhide HK0); subst e3)
            go_round
            case rel => exact ⟨k + 1, by omega, by go_num, hide (by rw [unhide HT, List.all_append, unhide HA]; simp [unhide HK0])⟩
            case measure => simp [intOf]; omega
          · have HK0 := hide kc0
            clear kc0
            have HR : Hid (clrF xa xb s.data.toList = false) := hide (by
              rw [unhide HC]
              have : (kidsE xa s.data.toList).all (fun c => decide (kindP xb c.path.data.toList = 0)) = false := by
                rw [List.all_eq_false]
                refine ⟨c, by rw [← unhide HK]; exact unhide HMm, by simpa using unhide HK0⟩
              rw [this]; rfl)
            go_wp2_with (go_at_call 31; refine hKc.mono ?_; clear hKc; rintro ev w5 ⟨k3, rfl, HK3, hw⟩; obtain rfl := hw.symm; have e3 : ¬ k3 = 0 := (by rw [unhide HK3]; exact unhide HK0); have e4 : (k3 == 0) = false := (by simp [e3]))
            go_ret
            exact ⟨ret_bool (unhide HR).symm, hb4⟩
        · have HR : Hid (clrF xa xb s.data.toList = decide ((1 : Int) < (nk : Int))) := hide (by
            have h1 := unhide HA
            rw [List.take_of_length_le (by have := unhide HNk; omega)] at h1
            rw [unhide HC, ← unhide HK, h1, ← unhide HNk, Bool.true_and]
            rw [Bool.eq_iff_iff, decide_eq_true_iff, decide_eq_true_iff]; omega)
          go_wp2_with fail
          go_ret
          exact ⟨ret_bool (unhide HR).symm, hb4⟩
    · have HC : Hid (clrF xa xb s.data.toList = false) := hide (by simp [clrF, kb])
      have HKa := hide ka
      have HKb := hide kb
      clear ka kb
      go_enter Tryz.func35, Tryz.ntmps35
      go_wp2_with (first
        | (go_at_call 31; refine hKa.mono ?_; clear hKa; rintro ev w1 ⟨k1, rfl, HK1, hw⟩; obtain rfl := hw.symm; have e1 : k1 = 1 := (by rw [unhide HK1]; exact unhide HKa); subst e1)
        | (go_at_call 31; refine hKb.mono ?_; clear hKb; rintro ev w1 ⟨k2, rfl, HK2, hw⟩; obtain rfl := hw.symm; have e2 : ¬ k2 = 1 := (by rw [unhide HK2]; exact unhide HKb); have e3 : (k2 == 1) = false := (by simp [e2])))
      go_ret
      exact ⟨ret_bool (unhide HC).symm, Below.refl _ _⟩
  · have HC : Hid (clrF xa xb s.data.toList = false) := hide (by simp [clrF, ka])
    have HKa := hide ka
    clear ka
    go_enter Tryz.func35, Tryz.ntmps35
    go_wp2_with (first
      | (go_at_call 31; refine hKa.mono ?_; clear hKa; rintro ev w1 ⟨k1, rfl, HK1, hw⟩; obtain rfl := hw.symm; have e1 : ¬ k1 = 1 := (by rw [unhide HK1]; exact unhide HKa); have e3 : (k1 == 1) = false := (by simp [e1])))
    go_ret
    exact ⟨ret_bool (unhide HC).symm, Below.refl _ _⟩
set_option maxHeartbeats 1000000 in
/-- Two lists of changes that are alike. -/
theorem sameC_any (ao bo : Option Addr) (ca cb n : Nat) (ks : List Ent) (w : World) (ha : ERow w ao ks) (hb : ERow w bo ks) (HN : Hid (n = ks.length)) (hn : n ≤ 1000000) :
    Calls Tryz.prog 13 #[.slice ao n ca, .slice bo n cb] w fun ev w' => ev = .returned (.bool true) ∧ Below w.heap.size w w' := by
  go_enter Tryz.func13, Tryz.ntmps13
  go_upto_region 4 with fail
  go_loopw [5] (fun i wr => ∃ k d : Nat, k ≤ n ∧ i = .int .i64 k ∧ wr = w.drewN d) (fun i _ => n - (intOf i).toNat)
  case atStart => exact ⟨0, 0, by omega, rfl, rfl⟩
  case round =>
    obtain ⟨k, d, hk, rfl, rfl⟩ := hrel
    by_cases hlt : k < n
    · obtain ⟨e, he⟩ : ∃ e, ks[k]? = some e := ⟨ks[k]'(by have := unhide HN; omega), List.getElem?_eq_getElem (by have := unhide HN; omega)⟩
      obtain ⟨g, o, rfl, c0, c1, c2, c3⟩ := ha k e he
      obtain ⟨g', o', rfl, d0, d1, d2, d3⟩ := hb k e he
      have i1 : (0 : Int) ≤ (k : Int) := by omega
      have i2 : (k : Int) < (n : Int) := by omega
      have hq := neq39 e e
      rw [show eqE e e = true from eqE_iff.2 rfl] at hq
      clear he
      go_upto_region 6 with fail
      go_quiet (fail)
      go_wp2_with fail
      go_roundw
      case rel =>
        first
          | exact ⟨k + 1, _, by omega, by go_num, rfl⟩
          | ((repeat apply Exists.intro); exact ⟨⟨k + 1, _, by omega, by go_num, rfl⟩, rfl⟩)
      case measure => simp [intOf]; omega
    · go_wp2_with fail
      go_ret
      exact ⟨rfl, below_drewN (Below.refl _ _) _⟩
end Go.Proofs.YtkeefkfklmhcjaaGreatDoor

namespace Go.Proofs.YtkeefkfklmhcjaaGreatDoor
open Go.RowKit
set_option maxHeartbeats 1000000 in
/-- Two lists of entries that are alike. -/
theorem sameE_any (ao bo : Option Addr) (ca cb n : Nat) (ks : List Ent) (w : World) (ha : ERow w ao ks) (hb : ERow w bo ks) (HN : Hid (n = ks.length)) (hn : n ≤ 1000000) :
    Calls Tryz.prog 18 #[.slice ao n ca, .slice bo n cb] w fun ev w' => ev = .returned (.bool true) ∧ Below w.heap.size w w' := by
  go_enter Tryz.func18, Tryz.ntmps18
  go_upto_region 4 with fail
  go_loopw [5] (fun i wr => ∃ k d : Nat, k ≤ n ∧ i = .int .i64 k ∧ wr = w.drewN d) (fun i _ => n - (intOf i).toNat)
  case atStart => exact ⟨0, 0, by omega, rfl, rfl⟩
  case round =>
    obtain ⟨k, d, hk, rfl, rfl⟩ := hrel
    by_cases hlt : k < n
    · obtain ⟨e, he⟩ : ∃ e, ks[k]? = some e := ⟨ks[k]'(by have := unhide HN; omega), List.getElem?_eq_getElem (by have := unhide HN; omega)⟩
      obtain ⟨g, o, rfl, c0, c1, c2, c3⟩ := ha k e he
      obtain ⟨g', o', rfl, d0, d1, d2, d3⟩ := hb k e he
      have i1 : (0 : Int) ≤ (k : Int) := by omega
      have i2 : (k : Int) < (n : Int) := by omega
      have hq := neq49 e e
      rw [show eqE e e = true from eqE_iff.2 rfl] at hq
      clear he
      go_upto_region 6 with fail
      go_quiet (fail)
      go_wp2_with fail
      go_roundw
      case rel =>
        first
          | exact ⟨k + 1, _, by omega, by go_num, rfl⟩
          | ((repeat apply Exists.intro); exact ⟨⟨k + 1, _, by omega, by go_num, rfl⟩, rfl⟩)
      case measure => simp [intOf]; omega
    · go_wp2_with fail
      go_ret
      exact ⟨rfl, below_drewN (Below.refl _ _) _⟩
end Go.Proofs.YtkeefkfklmhcjaaGreatDoor
