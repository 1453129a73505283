import Derived.Test.YtjofjcjojgpaeaaGreatDoorJStrA
import Derived.BigQuiet
namespace Go.Proofs.YtjofjcjojgpaeaaGreatDoor
open Go.RowKit

def atR : Array Value := #[.int .i64 100, .int .i64 108, .int .i64 116, .int .i64 124, .int .i64 136, .int .i64 329, .int .i64 337]
def toR : Array Value := #[.int .i64 108, .int .i64 116, .int .i64 124, .int .i64 136, .int .i64 148, .int .i64 337, .int .i64 345]
theorem fld_row {q : Nat} (hq : q < 7) : ∃ a z : Nat, fldAt[q]? = some (a, z) ∧ atR[q]? = some (.int .i64 (a : Int)) ∧ toR[q]? = some (.int .i64 (z : Int)) ∧ a ≤ z ∧ z ≤ 512 := by
  have hcs : q = 0 ∨ q = 1 ∨ q = 2 ∨ q = 3 ∨ q = 4 ∨ q = 5 ∨ q = 6 := by omega
  rcases hcs with rfl | rfl | rfl | rfl | rfl | rfl | rfl <;> exact ⟨_, _, rfl, rfl, rfl, by omega, by omega⟩
theorem ne47 {x : UInt8} (h : x ≠ 47) : (x.toNat : Int) ≠ 47 := fun e => h (UInt8.toNat_inj.1 (by
  have : x.toNat = 47 := by omega
  rw [this]; rfl))
set_option maxHeartbeats 2000000 in
set_option maxRecDepth 100000 in
theorem ustar_any (b : ByteArray) (c : Ent) (w : World) (h : chOk c = true) (hl : b.data.toList = blockL c) :
    Calls Tryz.prog 12 #[.string b] w fun ev w' => ev = .returned (.tuple #[.int .i64 ((dataL c).length : Int), .bool true]) ∧ Below w.heap.size w w' := by
  have hC := us_c h hl
  have hU := us_b h hl
  have HS0 : Hid (sumTo b.data.toList 0 = 256) := hide (by simp [sumTo, sumL])
  have HSa : Hid (sumTo b.data.toList 512 = totalL c) := hide (by rw [hl]; exact sumTo_all h)
  have htl := (oct_f h).total
  have hblen : b.data.toList.length = 512 := by rw [hl]; exact (blk_f h).len
  obtain ⟨nm, hnm⟩ : ∃ n, n = (partL (nameL c)).2.length := ⟨_, rfl⟩
  obtain ⟨lk, hlk⟩ : ∃ n, n = (linkL c).length := ⟨_, rfl⟩
  obtain ⟨pf, hpf⟩ : ∃ n, n = (partL (nameL c)).1.length := ⟨_, rfl⟩
  obtain ⟨sz, hszd⟩ : ∃ n, n = (dataL c).length := ⟨_, rfl⟩
  obtain ⟨tot, htot⟩ : ∃ n, n = totalL c := ⟨_, rfl⟩
  obtain ⟨fl, hfl⟩ : ∃ n, n = flagL c := ⟨_, rfl⟩
  rw [← hnm, ← hlk, ← hpf, ← hszd] at hC hU
  rw [← htot] at hC HSa htl
  rw [← hfl] at hU
  rw [← hszd]
  clear hnm hlk hpf hszd htot hfl h hl
  obtain ⟨f, hf⟩ : ∃ f : Nat → Nat, f = sumTo b.data.toList := ⟨_, rfl⟩
  have HF0 : Hid (f 0 = 256) := hide (by rw [hf]; exact unhide HS0)
  have HFa : Hid (f 512 = tot) := hide (by rw [hf]; exact unhide HSa)
  have hsz := hC.size
  have HFs : Hid (∀ k (hk : k < b.size), (k < 148 ∨ 155 < k → f (k + 1) = f k + b[k].toNat) ∧ (148 ≤ k → k ≤ 155 → f (k + 1) = f k) ∧ f k ≤ 130816) := hide (fun k hk => by
    have e : b.data.toList[k]'(by omega) = b[k] := rfl
    rw [hf]
    refine ⟨fun h => ?_, fun h1 h2 => sumTo_mid h1 h2, sumTo_le hblen k⟩
    rcases h with h | h
    · rw [sumTo_lo h hblen, e]
    · rw [sumTo_hi h (by omega) hblen, e])
  clear hf HS0 HSa hblen
  have Kc1 := hide hC.c1
  have Kc2 := hide hC.c2
  have Kc3 := hide hC.c3
  have Kn1 := hide hC.n1
  have Kn2 := hide hC.n2
  have Kfs := hide hC.fs
  have Kv124 := hide hC.v124
  have Kv108 := hide hC.v108
  have Kv116 := hide hC.v116
  have Kv136 := hide hC.v136
  have Kv148 := hide hC.v148
  have HFL := hide hC.fl
  have hmg := hC.magic
  have HU := hide hU
  have nm0 : ¬ (nm : Int) = 0 := by have := hU.nmb; omega
  have nm1 : ((nm : Int) == 0) = false := by simpa using nm0
  have bz : (b.size : Int) = 512 := by omega
  clear hC hU
  go_enter Tryz.func12, Tryz.ntmps12
  go_upto_region 6 with (first
    | (go_at_call 24; (first | (refine (unhide Kc1 _).mono ?_; clear Kc1) | (refine (unhide Kc2 _).mono ?_; clear Kc2) | (refine (unhide Kc3 _).mono ?_; clear Kc3)); rintro ev w1 ⟨rfl, hw1⟩; obtain rfl := hw1.symm)
    | (go_at_call 13; (first | (refine (unhide Kn1 _).mono ?_; clear Kn1) | (refine (unhide Kn2 _).mono ?_; clear Kn2)); rintro ev w1 ⟨rfl, hw1⟩; obtain rfl := hw1.symm))
  go_upto_region 9 with fail
  obtain ⟨W1, hW1⟩ : ∃ W1, W1 = w.alloc (.cells atR 3) := ⟨_, rfl⟩
  have hA1 : W1.heap[w.heap.size]? = some (.cells atR 3 (0, 0)) := by rw [hW1]; exact heap_alloc_new _ _
  have hB1 : Below w.heap.size w W1 := by rw [hW1]; exact (Below.refl _ _).alloc (Nat.le_refl _) _
  rw [show w.alloc (.cells #[.int .i64 100, .int .i64 108, .int .i64 116, .int .i64 124, .int .i64 136, .int .i64 329, .int .i64 337] 3) = W1 from hW1.symm]
  clear hW1
  go_upto_region 10 with fail
  obtain ⟨W2, hW2⟩ : ∃ W2, W2 = W1.alloc (.cells toR 3) := ⟨_, rfl⟩
  have hA2 : W2.heap[W1.heap.size]? = some (.cells toR 3 (0, 0)) := by rw [hW2]; exact heap_alloc_new _ _
  have hB12 : Below W1.heap.size W1 W2 := by rw [hW2]; exact (Below.refl _ _).alloc (Nat.le_refl _) _
  have hlt1 : w.heap.size < W1.heap.size := by
    rcases Nat.lt_or_ge w.heap.size W1.heap.size with h | h
    · exact h
    · rw [Array.getElem?_eq_none h] at hA1; cases hA1
  have hA1' : W2.heap[w.heap.size]? = some (.cells atR 3 (0, 0)) := (hB12.block _ hlt1).trans hA1
  have hB2 : Below w.heap.size w W2 := hB1.trans (hB12.mono hB1.size)
  have HA1 := hide hA1'
  have HA2 := hide hA2
  rw [show W1.alloc (.cells #[.int .i64 108, .int .i64 116, .int .i64 124, .int .i64 136, .int .i64 148, .int .i64 337, .int .i64 345] 3) = W2 from hW2.symm]
  obtain ⟨R1, hR1⟩ : ∃ R, R = w.heap.size := ⟨_, rfl⟩
  obtain ⟨R2, hR2⟩ : ∃ R, R = W1.heap.size := ⟨_, rfl⟩
  rw [← hR1] at HA1
  rw [← hR2] at HA2
  rw [← hR1, ← hR2]
  have HB2 : Hid (Below R1 w W2) := hide (by rw [hR1]; exact hB2)
  clear hW2 hA1 hA1' hA2 hB1 hB12 hlt1 hB2 hR2
  have HR1 := hide hR1
  clear hR1
  go_wp2_with fail
  go_loopw [14] (fun j wr => ∃ q : Nat, q ≤ 7 ∧ j = .int .i64 q ∧ Below W2.heap.size W2 wr) (fun j _ => 7 - (intOf j).toNat)
  case atStart => exact ⟨0, by omega, rfl, Below.refl _ _⟩
  case round =>
    obtain ⟨q, hq, rfl, hbr⟩ := hrel
    by_cases hq7 : q < 7
    · obtain ⟨x, z, hp, h1, h2, hxz, hz⟩ := fld_row hq7
      have d1 := cell_later hbr (show W2.cell? ⟨R1, q, none⟩ = _ from (cell_of_row _ _ q _ _ _ (unhide HA1)).trans h1)
      have d2 := cell_later hbr (show W2.cell? ⟨R2, q, none⟩ = _ from (cell_of_row _ _ q _ _ _ (unhide HA2)).trans h2)
      have KF := hide (unhide HFL q _ hp)
      have q0 : (0 : Int) ≤ (q : Int) := by omega
      have q1 : (q : Int) < 7 := by omega
      have x0 : (0 : Int) ≤ (x : Int) := by omega
      have x1 : (x : Int) ≤ (z : Int) := by omega
      have z1 : (z : Int) ≤ 512 := by omega
      have HBR := hide hbr
      clear hp h1 h2 hbr
      go_upto_region 13 with fail
      go_quiet (first | (go_at_call 25; exact Calls.quiet_of_same (unhide KF _)))
      go_wp2_with fail
      go_roundw
      case rel => exact ⟨q + 1, by omega, by go_num, below_drewN2 nq (unhide HBR)⟩
      case measure => simp [intOf]; omega
    · have HBE0 : Below w.heap.size w wr := by
        have h1 := unhide HB2
        rw [unhide HR1] at h1
        exact h1.trans (hbr.mono h1.size)
      have HBEh := hide HBE0
      have hqe : q = 7 := by omega
      subst hqe
      clear hbr HBE0 HA1 HA2 HB2 HR1 HFL
      go_wp2_with fail
      go_loop [16, 17] (fun a i => ∃ k : Nat, k ≤ 512 ∧ i = .int .i64 k ∧ a = .int .i64 (f k : Nat)) (fun _ i => 512 - (intOf i).toNat)
      case atStart => exact ⟨0, by omega, rfl, by rw [unhide HF0]; rfl⟩
      case round =>
        obtain ⟨k, hk, rfl, rfl⟩ := hrel
        by_cases hk5 : k < 512
        · have hks : k < b.size := by omega
          obtain ⟨s1, s2, s3⟩ := unhide HFs k hks
          have m1 : f k ≤ 130816 := s3
          have hy256 := (b[k]).toNat_lt
          by_cases hlo : k < 148
          · have HN : Hid (f k + b[k].toNat = f (k + 1)) := hide (s1 (.inl hlo)).symm
            clear s1 s2 s3
            go_wp2_with fail
            go_round
            case rel => exact ⟨k + 1, by omega, by go_num, by rw [← unhide HN]; go_num⟩
            case measure => simp [intOf]; omega
          · by_cases hhi : 155 < k
            · have HN : Hid (f k + b[k].toNat = f (k + 1)) := hide (s1 (.inr hhi)).symm
              clear s1 s2 s3
              go_wp2_with fail
              go_round
              case rel => exact ⟨k + 1, by omega, by go_num, by rw [← unhide HN]; go_num⟩
              case measure => simp [intOf]; omega
            · have HN : Hid (f k = f (k + 1)) := hide (s2 (by omega) (by omega)).symm
              clear s1 s2 s3
              go_wp2_with fail
              go_round
              case rel => exact ⟨k + 1, by omega, by go_num, by rw [← unhide HN]⟩
              case measure => simp [intOf]; omega
        · obtain rfl : k = 512 := by omega
          have hft : (f 512 : Int) = (tot : Int) := by rw [unhide HFa]
          have hU := unhide HU
          have i155 := idx_run b 155 32 155 rfl hU.b155
          have i156 := idx_run b 156 fl 156 rfl hU.b156
          have sz1 := hU.szb
          obtain ⟨nm2, nm3⟩ := hU.nmb
          clear HFs HF0
          rcases hU.kind with rfl | rfl | rfl
          · obtain ⟨e1, e2, e3⟩ := hU.dir rfl
            subst e1 e2
            have inm := idx_run b ((nm : Int) - 1) 47 (nm - 1) (by have := hU.nmb; omega) e3
            rcases hU.slash with hp0 | ⟨px, py, px47, py47, e4, e5⟩
            · subst hp0
              clear hU HU
              go_wp2_with (first
                | (go_at_call 25; (first | (refine (unhide Kfs _).mono ?_; clear Kfs)); rintro ev w1 ⟨rfl, hw1⟩; obtain rfl := hw1.symm)
                | (go_at_call 26; (first | (refine (unhide Kv124 _).mono ?_; clear Kv124) | (refine (unhide Kv108 _).mono ?_; clear Kv108) | (refine (unhide Kv116 _).mono ?_; clear Kv116) | (refine (unhide Kv136 _).mono ?_; clear Kv136) | (refine (unhide Kv148 _).mono ?_; clear Kv148)); rintro ev w1 ⟨rfl, hw1⟩; obtain rfl := hw1.symm))
              go_ret2
              exact ⟨rfl, unhide HBEh⟩
            · have ip1 := idx_run b (344 + (pf : Int)) px (344 + pf) (by omega) e4
              have ip0 := idx_run b 0 py 0 rfl e5
              have px1 : ((px.toNat : Int) != 47) = true := bne_iff_ne.2 (ne47 px47)
              have py1 : ((py.toNat : Int) != 47) = true := bne_iff_ne.2 (ne47 py47)
              have pf2 := hU.pfb
              clear hU HU e4 e5
              by_cases hpf0 : pf = 0
              · subst hpf0
                go_wp2_with (first
                  | (go_at_call 25; (first | (refine (unhide Kfs _).mono ?_; clear Kfs)); rintro ev w1 ⟨rfl, hw1⟩; obtain rfl := hw1.symm)
                  | (go_at_call 26; (first | (refine (unhide Kv124 _).mono ?_; clear Kv124) | (refine (unhide Kv108 _).mono ?_; clear Kv108) | (refine (unhide Kv116 _).mono ?_; clear Kv116) | (refine (unhide Kv136 _).mono ?_; clear Kv136) | (refine (unhide Kv148 _).mono ?_; clear Kv148)); rintro ev w1 ⟨rfl, hw1⟩; obtain rfl := hw1.symm))
                go_ret2
                exact ⟨rfl, unhide HBEh⟩
              · have pf1 : ((pf : Int) == 0) = false := by simp; omega
                go_wp2_with (first
                  | (go_at_call 25; (first | (refine (unhide Kfs _).mono ?_; clear Kfs)); rintro ev w1 ⟨rfl, hw1⟩; obtain rfl := hw1.symm)
                  | (go_at_call 26; (first | (refine (unhide Kv124 _).mono ?_; clear Kv124) | (refine (unhide Kv108 _).mono ?_; clear Kv108) | (refine (unhide Kv116 _).mono ?_; clear Kv116) | (refine (unhide Kv136 _).mono ?_; clear Kv136) | (refine (unhide Kv148 _).mono ?_; clear Kv148)); rintro ev w1 ⟨rfl, hw1⟩; obtain rfl := hw1.symm))
                go_ret2
                exact ⟨rfl, unhide HBEh⟩
          · obtain ⟨e1, e2⟩ := hU.sym rfl
            subst e1
            have lk0 : (0 : Int) < (lk : Int) := by omega
            have lk1 : ((lk : Int) == 0) = false := by simp; omega
            rcases hU.slash with hp0 | ⟨px, py, px47, py47, e4, e5⟩
            · subst hp0
              clear hU HU
              go_wp2_with (first
                | (go_at_call 25; (first | (refine (unhide Kfs _).mono ?_; clear Kfs)); rintro ev w1 ⟨rfl, hw1⟩; obtain rfl := hw1.symm)
                | (go_at_call 26; (first | (refine (unhide Kv124 _).mono ?_; clear Kv124) | (refine (unhide Kv108 _).mono ?_; clear Kv108) | (refine (unhide Kv116 _).mono ?_; clear Kv116) | (refine (unhide Kv136 _).mono ?_; clear Kv136) | (refine (unhide Kv148 _).mono ?_; clear Kv148)); rintro ev w1 ⟨rfl, hw1⟩; obtain rfl := hw1.symm))
              go_ret2
              exact ⟨rfl, unhide HBEh⟩
            · have ip1 := idx_run b (344 + (pf : Int)) px (344 + pf) (by omega) e4
              have ip0 := idx_run b 0 py 0 rfl e5
              have px1 : ((px.toNat : Int) != 47) = true := bne_iff_ne.2 (ne47 px47)
              have py1 : ((py.toNat : Int) != 47) = true := bne_iff_ne.2 (ne47 py47)
              have pf2 := hU.pfb
              clear hU HU e4 e5
              by_cases hpf0 : pf = 0
              · subst hpf0
                go_wp2_with (first
                  | (go_at_call 25; (first | (refine (unhide Kfs _).mono ?_; clear Kfs)); rintro ev w1 ⟨rfl, hw1⟩; obtain rfl := hw1.symm)
                  | (go_at_call 26; (first | (refine (unhide Kv124 _).mono ?_; clear Kv124) | (refine (unhide Kv108 _).mono ?_; clear Kv108) | (refine (unhide Kv116 _).mono ?_; clear Kv116) | (refine (unhide Kv136 _).mono ?_; clear Kv136) | (refine (unhide Kv148 _).mono ?_; clear Kv148)); rintro ev w1 ⟨rfl, hw1⟩; obtain rfl := hw1.symm))
                go_ret2
                exact ⟨rfl, unhide HBEh⟩
              · have pf1 : ((pf : Int) == 0) = false := by simp; omega
                go_wp2_with (first
                  | (go_at_call 25; (first | (refine (unhide Kfs _).mono ?_; clear Kfs)); rintro ev w1 ⟨rfl, hw1⟩; obtain rfl := hw1.symm)
                  | (go_at_call 26; (first | (refine (unhide Kv124 _).mono ?_; clear Kv124) | (refine (unhide Kv108 _).mono ?_; clear Kv108) | (refine (unhide Kv116 _).mono ?_; clear Kv116) | (refine (unhide Kv136 _).mono ?_; clear Kv136) | (refine (unhide Kv148 _).mono ?_; clear Kv148)); rintro ev w1 ⟨rfl, hw1⟩; obtain rfl := hw1.symm))
                go_ret2
                exact ⟨rfl, unhide HBEh⟩
          · have e1 := hU.file rfl
            subst e1
            rcases hU.slash with hp0 | ⟨px, py, px47, py47, e4, e5⟩
            · subst hp0
              clear hU HU
              go_wp2_with (first
                | (go_at_call 25; (first | (refine (unhide Kfs _).mono ?_; clear Kfs)); rintro ev w1 ⟨rfl, hw1⟩; obtain rfl := hw1.symm)
                | (go_at_call 26; (first | (refine (unhide Kv124 _).mono ?_; clear Kv124) | (refine (unhide Kv108 _).mono ?_; clear Kv108) | (refine (unhide Kv116 _).mono ?_; clear Kv116) | (refine (unhide Kv136 _).mono ?_; clear Kv136) | (refine (unhide Kv148 _).mono ?_; clear Kv148)); rintro ev w1 ⟨rfl, hw1⟩; obtain rfl := hw1.symm))
              go_ret2
              exact ⟨rfl, unhide HBEh⟩
            · have ip1 := idx_run b (344 + (pf : Int)) px (344 + pf) (by omega) e4
              have ip0 := idx_run b 0 py 0 rfl e5
              have px1 : ((px.toNat : Int) != 47) = true := bne_iff_ne.2 (ne47 px47)
              have py1 : ((py.toNat : Int) != 47) = true := bne_iff_ne.2 (ne47 py47)
              have pf2 := hU.pfb
              clear hU HU e4 e5
              by_cases hpf0 : pf = 0
              · subst hpf0
                go_wp2_with (first
                  | (go_at_call 25; (first | (refine (unhide Kfs _).mono ?_; clear Kfs)); rintro ev w1 ⟨rfl, hw1⟩; obtain rfl := hw1.symm)
                  | (go_at_call 26; (first | (refine (unhide Kv124 _).mono ?_; clear Kv124) | (refine (unhide Kv108 _).mono ?_; clear Kv108) | (refine (unhide Kv116 _).mono ?_; clear Kv116) | (refine (unhide Kv136 _).mono ?_; clear Kv136) | (refine (unhide Kv148 _).mono ?_; clear Kv148)); rintro ev w1 ⟨rfl, hw1⟩; obtain rfl := hw1.symm))
                go_ret2
                exact ⟨rfl, unhide HBEh⟩
              · have pf1 : ((pf : Int) == 0) = false := by simp; omega
                go_wp2_with (first
                  | (go_at_call 25; (first | (refine (unhide Kfs _).mono ?_; clear Kfs)); rintro ev w1 ⟨rfl, hw1⟩; obtain rfl := hw1.symm)
                  | (go_at_call 26; (first | (refine (unhide Kv124 _).mono ?_; clear Kv124) | (refine (unhide Kv108 _).mono ?_; clear Kv108) | (refine (unhide Kv116 _).mono ?_; clear Kv116) | (refine (unhide Kv136 _).mono ?_; clear Kv136) | (refine (unhide Kv148 _).mono ?_; clear Kv148)); rintro ev w1 ⟨rfl, hw1⟩; obtain rfl := hw1.symm))
                go_ret2
                exact ⟨rfl, unhide HBEh⟩
end Go.Proofs.YtjofjcjojgpaeaaGreatDoor
