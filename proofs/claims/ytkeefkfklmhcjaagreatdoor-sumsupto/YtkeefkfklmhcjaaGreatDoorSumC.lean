import Derived.Test.YtkeefkfklmhcjaaGreatDoorJChl
namespace Go.Proofs.YtkeefkfklmhcjaaGreatDoor
open Go.RowKit

theorem flat_snoc {ks : List Ent} {k : Nat} {c : Ent} (g : Ent → List UInt8) (hc : ks[k]? = some c) : ((ks.take (k + 1)).map g).flatten = ((ks.take k).map g).flatten ++ g c := by
  rw [List.take_add_one, hc]; simp

set_option maxHeartbeats 2000000 in
theorem sum_any (ao : Option Addr) (cap n : Nat) (es : List Ent) (HT : Hid (Tree es)) (HN : Hid (n = es.length)) : ∀ (f : Nat) (e : Ent), Hid (Deep es f e) → ∀ w : World, ERow w ao es →
    Calls Tryz.prog 25 #[.slice ao n cap, .agg #[.string e.path, .int .i64 e.kind, .int .i64 e.mode, .string e.data]] w fun ev w' => ∃ s : ByteArray, ev = .returned (.string s) ∧ Hid (s.data.toList = sumF es f e) ∧ s.size = 64 ∧ Below w.heap.size w w' := by
  intro f
  induction f with
  | zero => intro e he; exact absurd rfl (deep_pos (unhide he))
  | succ f ih =>
    intro e HDp w hr
    have hone := deep_one (unhide HT) (unhide HDp)
    obtain ⟨m, hm⟩ : ∃ m : Nat, e.mode = (m : Int) := ⟨e.mode.toNat, by have := hone.mode; omega⟩
    have hm5 : m ≤ 511 := by have := hone.mode; omega
    have hmt : Hid (e.mode.toNat = m) := hide (by rw [hm]; rfl)
    have hs1 := hone.path
    have hs2 := hone.data
    have hn40 : n ≤ 40 := by rw [unhide HN]; exact (unhide HT).len
    have hB0 : ∀ o, Below w.heap.size w (w.alloc o) := fun o => (Below.refl _ _).alloc (Nat.le_refl _) o
    rw [hm]
    clear hone
    by_cases k2 : e.kind = 2
    · have HF : Hid (sumF es (f + 1) e = sha (fileT e)) := hide (by rw [sumF, if_pos k2])
      rw [k2]
      go_enter Tryz.func25, Tryz.ntmps25
      go_wp2_with (first
        | (go_at_call 48; refine (octal_any m (by omega) _).mono ?_; rintro ev w1 ⟨o1, rfl, HO, ho, hw⟩; obtain rfl := hw.symm)
        | (go_at_call 49; refine (decimal_any e.data.size (by omega) _).mono ?_; rintro ev w1 ⟨d1, rfl, HD, hd, hw⟩; obtain rfl := hw.symm)
        | (go_at_call 50; refine (digest_any _ ?_ _).mono ?_; (simp only [ByteArray.size_append]; show 5 + o1.size + 1 + d1.size + 1 + e.data.size ≤ _; omega); rintro ev w2 ⟨rfl, hb2⟩))
      go_ret
      refine ⟨_, rfl, hide ?_, ?_, (hB0 _).trans (hb2.mono (by simp))⟩
      · rw [unhide HF]
        show sha _ = _
        simp [unhide HO, unhide HD, fileT, unhide hmt]
      · show ((sha _).toArray).size = 64
        simp [sha_len]
    · by_cases k3 : e.kind = 3
      · have HF : Hid (sumF es (f + 1) e = sha (linkT e)) := hide (by rw [sumF, if_neg k2, if_pos k3])
        rw [k3]
        clear k2 k3
        go_enter Tryz.func25, Tryz.ntmps25
        go_wp2_with (first
          | (go_at_call 48; refine (octal_any m (by omega) _).mono ?_; rintro ev w1 ⟨o1, rfl, HO, ho, hw⟩; obtain rfl := hw.symm)
          | (go_at_call 50; refine (digest_any _ ?_ _).mono ?_; (simp only [ByteArray.size_append]; show 5 + e.data.size ≤ _; omega); rintro ev w2 ⟨rfl, hb2⟩))
        go_ret
        refine ⟨_, rfl, hide ?_, ?_, (hB0 _).trans (hb2.mono (by simp))⟩
        · rw [unhide HF]
          show sha _ = _
          simp [linkT]
        · show ((sha _).toArray).size = 64
          simp [sha_len]
      · have HF : Hid (sumF es (f + 1) e = sha (dirT e ++ ((kidsE es e.path.data.toList).map (kidT (sumF es f))).flatten)) := hide (by rw [sumF, if_neg k2, if_neg k3])
        have hrA := hr.below (hB0 (.cells #[.string e.path, .int .i64 e.kind, .int .i64 (m : Int), .string e.data] 56))
        go_enter Tryz.func25, Tryz.ntmps25
        go_upto_region 10 with (first
          | (go_at_call 48; refine (octal_any m (by omega) _).mono ?_; rintro ev w1 ⟨o1, rfl, HO, ho, hw⟩; obtain rfl := hw.symm)
          | (go_at_call 51; refine (children_any ao cap n es e.path _ hrA HN hn40 (hide (unhide HT).small) (hide (fun e he => ((unhide HT).path he).1))).mono ?_; rintro ev w4 ⟨ao', cap', n', ks, rfl, HN', hrow, HK, hb4⟩))
        have hB4 : Below w.heap.size w w4 := (hB0 _).trans (hb4.mono (by simp))
        have hn' : n' ≤ 40 := by rw [unhide HN', unhide HK, kidsE]; have := List.length_filter_le (fun k => dirOf k.path.data.toList == e.path.data.toList) es; have := (unhide HT).len; omega
        obtain ⟨S0, HS0⟩ : ∃ S0 : ByteArray, Hid (S0 = (⟨#[100, 105, 114, 32]⟩ : ByteArray) ++ o1 ++ ⟨#[10]⟩) := ⟨_, hide rfl⟩
        have HS1 : Hid (S0.data.toList = dirT e) := hide (by rw [unhide HS0]; simp only [data_append, unhide HO, dirT, unhide hmt])
        have hS0 : S0.size ≤ 600 := by rw [unhide HS0]; simp only [ByteArray.size_append]; show 4 + o1.size + 1 ≤ 600; omega
        rw [← unhide HS0]
        clear HS0 ho HO hrA hb4
        go_wp2_with fail
        go_loopw [7, 9] (fun v i wr => ∃ (k : Nat) (S : ByteArray), k ≤ n' ∧ i = .int .i64 k ∧ v = .string S ∧ Below w4.heap.size w4 wr ∧ S.size ≤ 600 + k * 1048700 ∧ Hid (S.data.toList = dirT e ++ ((ks.take k).map (kidT (sumF es f))).flatten)) (fun _ i _ => n' - (intOf i).toNat)
        case atStart => exact ⟨0, S0, by omega, rfl, rfl, Below.refl _ _, by omega, hide (by rw [unhide HS1]; simp)⟩
        case round =>
          obtain ⟨k, S, hk, rfl, rfl, hb, hSz, HS⟩ := hrel
          by_cases hlt : k < n'
          · obtain ⟨c, hc⟩ : ∃ c, ks[k]? = some c := ⟨ks[k]'(by have := unhide HN'; omega), List.getElem?_eq_getElem (by have := unhide HN'; omega)⟩
            obtain ⟨g, o, rfl, c0, c1, c2, c3⟩ := (hrow.below hb) k c hc
            have hmem : c ∈ kidsE es e.path.data.toList := by rw [← unhide HK]; exact List.mem_of_getElem? hc
            have HDc := hide (deep_kid (unhide HT).ok (unhide HDp) hmem)
            have hces : c ∈ es := by rw [kidsE, List.mem_filter] at hmem; exact hmem.1
            have hcs := ((unhide HT).small c hces).1
            have HP0 := hide ((unhide HT).path hces).1
            have i1 : (0 : Int) ≤ (k : Int) := by omega
            have i2 : (k : Int) < (n' : Int) := by omega
            have HFl := hide (flat_snoc (kidT (sumF es f)) hc)
            clear hc hmem hces
            go_upto_region 14 with (go_at_call 30; refine (up_any c.path _ (by omega) (unhide HP0)).mono ?_; rintro ev w5 ⟨dd, nn, rfl, HD, HNm, hb5⟩)
            have hB5 := hb.trans (hb5.mono hb.size)
            have c0 := cell_later hb5 c0
            have c1 := cell_later hb5 c1
            have c2 := cell_later hb5 c2
            have c3 := cell_later hb5 c3
            have hnn : nn.size ≤ 1048576 := by
              rw [Lib.size_eq, unhide HNm]
              exact Nat.le_trans (name_le _) (by rw [← Lib.size_eq]; exact hcs)
            have hr5 := hr.below (hB4.trans (hB5.mono hB4.size))
            clear hb5
            go_upto_region 15 with (go_at_call 25; refine (ih c HDc _ hr5).mono ?_; rintro ev w6 ⟨D, rfl, HDg, hDz, hb6⟩)
            have hB6 := hB5.trans (hb6.mono hB5.size)
            go_wp2_with fail
            go_roundw
            case rel =>
              have R1 : (S ++ nn ++ ⟨#[32]⟩ ++ D ++ ⟨#[10]⟩ : ByteArray).data.toList = dirT e ++ ((ks.take (k + 1)).map (kidT (sumF es f))).flatten := by
                simp only [data_append, unhide HS, unhide HNm, unhide HDg, unhide HFl, kidT, List.append_assoc]
              have R2 : (S ++ nn ++ ⟨#[32]⟩ ++ D ++ ⟨#[10]⟩ : ByteArray).size ≤ 600 + (k + 1) * 1048700 := by
                simp only [ByteArray.size_append]
                show S.size + nn.size + 1 + D.size + 1 ≤ _
                omega
              first
                | exact ⟨k + 1, _, by omega, by go_num, rfl, hB6, R2, hide R1⟩
                | ((repeat apply Exists.intro); exact ⟨⟨k + 1, _, by omega, by go_num, rfl, hB6, R2, hide R1⟩, rfl⟩)
            case measure => simp [intOf]; omega
          · have HSF : Hid (S.data.toList = dirT e ++ ((kidsE es e.path.data.toList).map (kidT (sumF es f))).flatten) := hide (by
              rw [unhide HS, List.take_of_length_le (by have := unhide HN'; omega), unhide HK])
            have hkz : k * 1048700 ≤ 40 * 1048700 := Nat.mul_le_mul_right _ (by omega)
            go_wp2_with (go_at_call 50; refine (digest_any S ?_ _).mono ?_; omega; rintro ev w2 ⟨rfl, hb2⟩)
            go_ret
            refine ⟨_, rfl, hide ?_, ?_, hB4.trans ((hb.trans (hb2.mono hb.size)).mono hB4.size)⟩
            · rw [unhide HF, ← unhide HSF]
            · show ((sha _).toArray).size = 64
              simp [sha_len]

set_option maxHeartbeats 400000 in
theorem refSum_any (ao : Option Addr) (cap n : Nat) (es : List Ent) (HT : Hid (Tree es)) (HN : Hid (n = es.length)) (w : World) (hr : ERow w ao es) :
    Calls Tryz.prog 9 #[.slice ao n cap] w fun ev w' => ∃ s : ByteArray, ev = .returned (.string s) ∧ Hid (s.data.toList = sumF es (es.length + 1) rootE) ∧ Below w.heap.size w w' := by
  go_enter Tryz.func9, Tryz.ntmps9
  go_wp2_with (first
    | (go_at_call 26; refine (root_any _).mono ?_; rintro ev w1 ⟨rfl, hb1⟩)
    | (go_at_call 25; refine (sum_any ao cap n es HT HN (es.length + 1) rootE (hide (deep_root es)) _ (hr.below hb1)).mono ?_; rintro ev w2 ⟨s, rfl, HS, _, hb2⟩))
  go_ret
  exact ⟨s, rfl, HS, hb1.trans (hb2.mono hb1.size)⟩
end Go.Proofs.YtkeefkfklmhcjaaGreatDoor
