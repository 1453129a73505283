import Derived.Test.YtkeefkfklmhcjaaGreatDoorJPckA
import Derived.Test.YtkeefkfklmhcjaaGreatDoorJOrdB
import Derived.BigQuiet
namespace Go.Proofs.YtkeefkfklmhcjaaGreatDoor
open Go.RowKit

/-- Bytes as a text. -/
def bt (l : List UInt8) : ByteArray := ⟨l.toArray⟩
theorem bt_of (s : ByteArray) : bt s.data.toList = s := by
  cases s; simp [bt]
theorem bt_app (a b : List UInt8) : bt a ++ bt b = bt (a ++ b) := by
  apply ByteArray.ext
  simp [bt, ByteArray.data_append]
theorem bt_size (a : List UInt8) : (bt a).size = a.length := by
  rw [Lib.size_eq]; simp [bt]
theorem bt_list (a : List UInt8) : (bt a).data.toList = a := by simp [bt]
theorem fill_more {l : List UInt8} {k : Nat} : l ++ List.replicate (k + 1) (0 : UInt8) = (l ++ List.replicate k 0) ++ [0] := by
  rw [List.replicate_succ', List.append_assoc]
theorem filledD_any (l : List UInt8) (n : Nat) (w : World) (_ : l.length ≤ 1073741824) (hn : n ≤ 1073741824) :
    Calls Tryz.prog 42 #[.string (bt l), .int .i64 n] w fun ev w' => ev = .returned (.string (bt (fillL l n))) ∧ w' = w := by
  go_enter Tryz.func42, Tryz.ntmps42
  go_wp2
  go_loop [0] (fun v => ∃ (k : Nat) (s : ByteArray), k ≤ n - l.length ∧ v = .string s ∧ Hid (s = bt (l ++ List.replicate k 0)) ∧ s.size = l.length + k) (fun v => match v with | .string s => n - s.size | _ => 0)
  case atStart => exact ⟨0, _, Nat.zero_le _, rfl, hide (by simp), by rw [bt_size]; rfl⟩
  case round =>
    obtain ⟨k, s, hk, rfl, HS, hz⟩ := hrel
    by_cases hlt : k < n - l.length
    · have i1 : (s.size : Int) < (n : Int) := by omega
      have HS2 : Hid (s ++ (⟨#[0]⟩ : ByteArray) = bt (l ++ List.replicate (k + 1) 0)) := hide (by
        rw [unhide HS, fill_more, ← bt_app]; rfl)
      have hz2 : (s ++ (⟨#[0]⟩ : ByteArray)).size = l.length + (k + 1) := by
        rw [ByteArray.size_append, hz]; rfl
      have HZ := hide hz2
      have HZ0 := hide hz
      have hlt2 : n - (s ++ (⟨#[0]⟩ : ByteArray)).size < n - s.size := by omega
      have HM := hide hlt2
      clear hz2 hlt2
      go_wp2
      go_round
      case rel => exact ⟨k + 1, _, by omega, rfl, HS2, unhide HZ⟩
      case measure => exact unhide HM
    · have i1 : (n : Int) ≤ (s.size : Int) := by omega
      have i2 : ¬ (s.size : Int) < (n : Int) := by omega
      have HF : Hid (s = bt (fillL l n)) := hide (by rw [unhide HS, fillL, show k = n - l.length by omega])
      go_wp2
      go_ret
      exact ⟨congrArg (fun t => Ending.returned (Value.string t)) (unhide HF), rfl⟩
theorem dig_more {v k : Nat} : List.replicate (k + 1) (48 : UInt8) ++ octL v = [48] ++ (List.replicate k 48 ++ octL v) := by
  rw [List.replicate_succ]; rfl
theorem digits_any (v n : Nat) (w : World) (hv : v ≤ 1073741824) (hn : n ≤ 1073741824) :
    Calls Tryz.prog 63 #[.int .i64 v, .int .i64 n] w fun ev w' => ev = .returned (.string (bt (digL v n))) ∧ w' = w := by
  go_enter Tryz.func63, Tryz.ntmps63
  go_upto_region 2 with (go_at_call 48; refine (octal_any v hv w).mono ?_; rintro ev w1 ⟨s0, rfl, HS0, hz0, rfl⟩)
  have hz1 : s0.size = (octL v).length := by rw [Lib.size_eq, unhide HS0]
  have hz2 : (octL v).length ≤ v + 1 := by omega
  have HB0 : Hid (s0 = bt (octL v)) := hide (by rw [← unhide HS0, bt_of])
  go_wp2_with fail
  go_loop [5] (fun x => ∃ (k : Nat) (s : ByteArray), k ≤ n - (octL v).length ∧ x = .string s ∧ Hid (s = bt (List.replicate k 48 ++ octL v)) ∧ s.size = (octL v).length + k) (fun x => match x with | .string s => n - s.size | _ => 0)
  case atStart => exact ⟨0, s0, Nat.zero_le _, rfl, hide (by simpa using unhide HB0), by omega⟩
  case round =>
    obtain ⟨k, s, hk, rfl, HS, hz⟩ := hrel
    by_cases hlt : k < n - (octL v).length
    · have i1 : (s.size : Int) < (n : Int) := by omega
      have HS2 : Hid ((⟨#[48]⟩ : ByteArray) ++ s = bt (List.replicate (k + 1) 48 ++ octL v)) := hide (by
        rw [unhide HS, dig_more, ← bt_app]; rfl)
      have hz3 : ((⟨#[48]⟩ : ByteArray) ++ s).size = (octL v).length + (k + 1) := by
        rw [ByteArray.size_append, hz]; show 1 + _ = _; omega
      have HZ := hide hz3
      have hlt2 : n - ((⟨#[48]⟩ : ByteArray) ++ s).size < n - s.size := by omega
      have HM := hide hlt2
      clear hz3 hlt2
      go_wp2
      go_round
      case rel => exact ⟨k + 1, _, by omega, rfl, HS2, unhide HZ⟩
      case measure => exact unhide HM
    · have i1 : (n : Int) ≤ (s.size : Int) := by omega
      have i2 : ¬ (s.size : Int) < (n : Int) := by omega
      have HF : Hid (s ++ (⟨#[0]⟩ : ByteArray) = bt (digL v n)) := hide (by rw [unhide HS, digL, show k = n - (octL v).length by omega, ← bt_app]; rfl)
      go_wp2
      go_ret
      exact ⟨congrArg (fun t => Ending.returned (Value.string t)) (unhide HF), rfl⟩
theorem inR_any (d r : ByteArray) (w : World) (hr : r.data.toList ≠ []) (_ : d.size ≤ 1073741824) (_ : r.size ≤ 1073741824) :
    Calls Tryz.prog 95 #[.string d, .string r] w fun ev w' => ev = .returned (.string (bt (inL d.data.toList r.data.toList))) ∧ w' = w := by
  have g2 : r.toList.isEmpty = false := by rw [Lib.toList_data]; simpa using hr
  by_cases hd : d.data.toList = []
  · have g1 : d.toList.isEmpty = true := by rw [Lib.toList_data]; simpa using hd
    have HF : Hid (d ++ r = bt (inL d.data.toList r.data.toList)) := hide (by rw [inL, if_pos hd, ← bt_of d, hd, ← bt_of r, bt_app, bt_list]; rfl)
    clear hd hr
    go_enter Tryz.func95, Tryz.ntmps95
    go_wp2
    go_ret
    exact ⟨congrArg (fun t => Ending.returned (Value.string t)) (unhide HF), rfl⟩
  · have g1 : d.toList.isEmpty = false := by rw [Lib.toList_data]; simpa using hd
    have HF : Hid (d ++ (⟨#[47]⟩ : ByteArray) ++ r = bt (inL d.data.toList r.data.toList)) := hide (by
      rw [inL, if_neg hd]
      conv => lhs; rw [← bt_of d, ← bt_of r, show (⟨#[47]⟩ : ByteArray) = bt [47] from rfl, bt_app, bt_app]
      simp)
    clear hd hr
    go_enter Tryz.func95, Tryz.ntmps95
    go_wp2
    go_ret
    exact ⟨congrArg (fun t => Ending.returned (Value.string t)) (unhide HF), rfl⟩
def slashAt (l : List UInt8) (k i : Nat) : Bool := decide (k ≤ i) && l.getD i 0 == 47
theorem slash_found {l : List UInt8} {k i : Nat} (hi : i < l.length) (h1 : slashAt l k i = true) (h2 : ∀ j, j < i → slashAt l k j = false) : slashFrom l k = some i := by
  unfold slashFrom
  rw [List.find?_eq_some_iff_getElem]
  refine ⟨h1, i, by simpa using hi, by simp, fun j hj => ?_⟩
  have := h2 j hj
  simp only [List.getElem_range, Bool.not_eq_true']
  exact this
theorem slash_none {l : List UInt8} {k : Nat} (h : ∀ j, j < l.length → slashAt l k j = false) : slashFrom l k = none := by
  unfold slashFrom
  rw [List.find?_eq_none]
  intro j hj
  have := h j (List.mem_range.1 hj)
  rw [slashAt] at this
  rw [this]; decide
theorem below_drewN2 {B : Nat} {w W : World} (n : Nat) (h : Below B w W) : Below B w (W.drewN n) := ⟨h.os, h.tape, h.output, h.size, h.block⟩
theorem ext_take (s : ByteArray) (k : Nat) : s.extract 0 k = bt (s.data.toList.take k) := by
  apply ByteArray.ext
  apply Array.ext'
  rw [ByteArray.data_extract, Array.toList_extract]
  simp [bt, List.extract]
theorem ext_drop (s : ByteArray) (k : Nat) : s.extract k s.size = bt (s.data.toList.drop k) := by
  apply ByteArray.ext
  apply Array.ext'
  rw [ByteArray.data_extract, Array.toList_extract]
  have h := Lib.size_eq s
  simp only [bt, List.extract]
  rw [List.take_of_length_le (by rw [List.length_drop]; omega)]
set_option maxHeartbeats 1000000 in
theorem splitR_any (l : List UInt8) (w : World) (hl : l.length ≤ 1073741824) :
    Calls Tryz.prog 62 #[.string (bt l)] w fun ev w' => ev = .returned (.tuple #[.string (bt (partL l).1), .string (bt (partL l).2)]) ∧ Below w.heap.size w w' := by
  obtain ⟨s, hs⟩ : ∃ s, s = bt l := ⟨_, rfl⟩
  have hsl : s.data.toList = l := by rw [hs, bt_list]
  have hsz : s.size = l.length := by rw [hs, bt_size]
  have HS := hide hs
  rw [← hs]
  clear hs
  by_cases h1 : l.length ≤ 100
  · have i1 : (s.size : Int) ≤ 100 := by omega
    have HF : Hid (partL l = ([], l)) := hide (by rw [partL, if_pos h1])
    clear h1 hsl
    go_enter Tryz.func62, Tryz.ntmps62
    go_wp2
    go_ret2
    refine ⟨?_, Below.refl _ _⟩
    rw [unhide HF, unhide HS]; rfl
  · have i1 : ¬ (s.size : Int) ≤ 100 := by omega
    have H1 := hide h1
    have HL := hide hsl
    have HZ := hide hsz
    have hs2 : s.size ≤ 1073741824 := by omega
    clear h1 hsl hsz
    go_enter Tryz.func62, Tryz.ntmps62
    go_wp2
    go_loopw [4] (fun i wr => ∃ k : Nat, k ≤ s.size ∧ i = .int .i64 k ∧ Hid (∀ j, j < k → slashAt l (l.length - 101) j = false) ∧ Below w.heap.size w wr) (fun i _ => s.size - (intOf i).toNat)
    case atStart => exact ⟨0, Nat.zero_le _, rfl, hide (fun j hj => by omega), Below.refl _ _⟩
    case round =>
      obtain ⟨k, hk, rfl, HK, hb⟩ := hrel
      by_cases hlt : k < s.size
      · have k0 : (0 : Int) ≤ (k : Int) := by omega
        have k1 : (k : Int) < (s.size : Int) := by omega
        have hgd : l.getD k 0 = s[k] := by
          have hk2 : k < l.length := by have := unhide HZ; omega
          rw [List.getD_eq_getElem?_getD, List.getElem?_eq_getElem hk2]
          show l[k] = s.data[k]
          have := unhide HL
          subst this
          simp
        by_cases hc : (s[k].toNat : Int) = 47
        · have hc8 : s[k] = 47 := UInt8.toNat_inj.1 (by have : (47 : UInt8).toNat = 47 := rfl; omega)
          have hc2 : ((s[k].toNat : Int) == 47) = true := by simp [hc]
          by_cases hn : (s.size : Int) - (k : Int) - 1 ≤ 100
          · have HF : Hid (partL l = (l.take k, l.drop (k + 1))) := hide (by
              rw [partL, if_neg (unhide H1), slash_found (by have := unhide HZ; omega) (by rw [slashAt, hgd, hc8, decide_eq_true (by have := unhide HZ; omega)]; rfl) (unhide HK)])
            have E1 : Hid (s.extract 0 k = bt (l.take k)) := hide (by rw [ext_take, unhide HL])
            have E2 : Hid (s.extract (k + 1) s.size = bt (l.drop (k + 1))) := hide (by rw [ext_drop, unhide HL])
            have k2 : (k : Int) + 1 ≤ (s.size : Int) := by omega
            have k3 : (k : Int) ≤ (s.size : Int) := by omega
            clear hgd hc8
            go_upto_region 7 with fail
            go_quiet (fail)
            go_wp2_with fail
            go_ret2
            refine ⟨?_, below_drewN2 _ hb⟩
            rw [unhide HF]
            exact ret2 (unhide E1) (unhide E2)
          · have HN : Hid (slashAt l (l.length - 101) k = false) := hide (by rw [slashAt, decide_eq_false (by have := unhide HZ; omega)]; rfl)
            clear hgd hc8
            go_wp2_with fail
            go_roundw
            case rel =>
              have R : ∀ j, j < k + 1 → slashAt l (l.length - 101) j = false := fun j hj => by
                rcases Nat.lt_or_ge j k with h | h
                · exact unhide HK j h
                · have e9 : j = k := by omega
                  rw [e9]; exact unhide HN
              first
                | exact ⟨k + 1, by omega, by go_num, hide R, hb⟩
                | ((repeat apply Exists.intro); exact ⟨⟨k + 1, by omega, by go_num, hide R, hb⟩, rfl⟩)
            case measure => simp [intOf]; omega
        · have hc2 : ((s[k].toNat : Int) == 47) = false := by simp [hc]
          have HN : Hid (slashAt l (l.length - 101) k = false) := hide (by
            rw [slashAt, hgd, beq_false_of_ne (fun e => hc (by rw [e]; rfl)), Bool.and_false])
          clear hgd
          go_wp2_with fail
          go_roundw
          case rel =>
            have R : ∀ j, j < k + 1 → slashAt l (l.length - 101) j = false := fun j hj => by
              rcases Nat.lt_or_ge j k with h | h
              · exact unhide HK j h
              · have e9 : j = k := by omega
                rw [e9]; exact unhide HN
            first
              | exact ⟨k + 1, by omega, by go_num, hide R, hb⟩
              | ((repeat apply Exists.intro); exact ⟨⟨k + 1, by omega, by go_num, hide R, hb⟩, rfl⟩)
          case measure => simp [intOf]; omega
      · have HF : Hid (partL l = ([], l)) := hide (by
          rw [partL, if_neg (unhide H1), slash_none (fun j hj => unhide HK j (by have := unhide HZ; omega))])
        go_wp2_with fail
        go_ret2
        refine ⟨?_, hb⟩
        rw [unhide HF, unhide HS]; rfl
theorem named_any (c : Ent) (w : World) (hs : c.path.size ≤ 1048576) (hp : c.kind = 4 → c.path.data.toList ≠ []) :
    Calls Tryz.prog 61 #[.agg #[.string c.path, .int .i64 c.kind, .int .i64 c.mode, .string c.data]] w fun ev w' => ev = .returned (.string (bt (nameL c))) ∧ Below w.heap.size w w' := by
  have hb0 : ∀ o, Below w.heap.size w (w.alloc o) := fun o => (Below.refl _ _).alloc (Nat.le_refl _) o
  by_cases h1 : c.kind = 1
  · have HF : Hid (c.path ++ (⟨#[47]⟩ : ByteArray) = bt (nameL c)) := hide (by
      rw [nameL, if_pos h1, ← bt_app, bt_of]; rfl)
    go_enter Tryz.func61, Tryz.ntmps61
    go_wp2
    go_ret
    exact ⟨congrArg (fun t => Ending.returned (Value.string t)) (unhide HF), hb0 _⟩
  · have h1' : (c.kind == 1) = false := by simp [h1]
    by_cases h4 : c.kind = 4
    · have HP := hide (hp h4)
      have HF : ∀ d n : ByteArray, d.data.toList = dirOf c.path.data.toList → n.data.toList = nameOf c.path.data.toList → bt (inL d.data.toList ((⟨#[46, 119, 104, 46]⟩ : ByteArray) ++ n).data.toList) = bt (nameL c) := fun d n hd hn => by
        rw [nameL, if_neg h1, if_pos h4, hd, ByteArray.data_append, Array.toList_append, hn]; rfl
      have HFh := hide HF
      have h4' : (c.kind == 4) = true := by simp [h4]
      clear hp HF
      go_enter Tryz.func61, Tryz.ntmps61
      go_wp2_with (first
        | (go_at_call 30; refine (up_any c.path _ (by omega) (unhide HP)).mono ?_; rintro ev w1 ⟨dd, nn, rfl, HD, HNm, hb1⟩; have hds : dd.size ≤ 1048576 := (by rw [Lib.size_eq, unhide HD]; have := dir_le c.path.data.toList; rw [Lib.size_eq] at hs; omega); have hns : nn.size ≤ 1048576 := (by rw [Lib.size_eq, unhide HNm]; have := name_le c.path.data.toList; rw [Lib.size_eq] at hs; omega))
        | (go_at_call 95; refine (inR_any dd ((⟨#[46, 119, 104, 46]⟩ : ByteArray) ++ nn) _ (by rw [ByteArray.data_append]; simp) (by omega) (by rw [ByteArray.size_append]; show 4 + _ ≤ _; omega)).mono ?_; rintro ev w2 ⟨rfl, hw⟩; obtain rfl := hw.symm))
      go_ret
      exact ⟨congrArg (fun t => Ending.returned (Value.string t)) (unhide HFh dd nn (unhide HD) (unhide HNm)), (hb0 _).trans (hb1.mono (hb0 _).size)⟩
    · have h4' : (c.kind == 4) = false := by simp [h4]
      by_cases h5 : c.kind = 5
      · have h5' : (c.kind == 5) = true := by simp [h5]
        have HF : Hid (bt (inL c.path.data.toList (⟨#[46, 119, 104, 46, 46, 119, 104, 46, 46, 111, 112, 113]⟩ : ByteArray).data.toList) = bt (nameL c)) := hide (by
          rw [nameL, if_neg h1, if_neg h4, if_pos h5]; rfl)
        go_enter Tryz.func61, Tryz.ntmps61
        go_wp2_with (go_at_call 95; refine (inR_any c.path ⟨#[46, 119, 104, 46, 46, 119, 104, 46, 46, 111, 112, 113]⟩ _ (by simp) (by omega) (by decide)).mono ?_; rintro ev w2 ⟨rfl, hw⟩; obtain rfl := hw.symm)
        go_ret
        exact ⟨congrArg (fun t => Ending.returned (Value.string t)) (unhide HF), hb0 _⟩
      · have h5' : (c.kind == 5) = false := by simp [h5]
        have HF : Hid (c.path = bt (nameL c)) := hide (by rw [nameL, if_neg h1, if_neg h4, if_neg h5, bt_of])
        go_enter Tryz.func61, Tryz.ntmps61
        go_wp2
        go_ret
        exact ⟨congrArg (fun t => Ending.returned (Value.string t)) (unhide HF), hb0 _⟩
end Go.Proofs.YtkeefkfklmhcjaaGreatDoor
