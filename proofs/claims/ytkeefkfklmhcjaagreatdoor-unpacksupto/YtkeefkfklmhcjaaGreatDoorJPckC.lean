import Derived.Test.YtkeefkfklmhcjaaGreatDoorPckB
import Derived.Deep.CutBlock
namespace Go.Proofs.YtkeefkfklmhcjaaGreatDoor
open Go.RowKit

theorem filledV_any (s : ByteArray) (n : Nat) (w : World) (hl : s.size ≤ 1048576) (hn : n ≤ 1048576) :
    Calls Tryz.prog 42 #[.string s, .int .i64 n] w fun ev w' => ∃ t : ByteArray, ev = .returned (.string t) ∧ Hid (t = bt (fillL s.data.toList n)) ∧ t.size ≤ 2097152 ∧ w' = w := by
  have h := filledD_any s.data.toList n w (by rw [← Lib.size_eq]; omega) (by omega)
  rw [bt_of] at h
  refine h.mono ?_
  rintro e w' ⟨rfl, rfl⟩
  refine ⟨_, rfl, hide rfl, ?_, rfl⟩
  rw [bt_size, fillL, List.length_append, List.length_replicate, ← Lib.size_eq]; omega
theorem digitsV_any (v n : Nat) (w : World) (hv : v ≤ 1048576) (hn : n ≤ 1048576) :
    Calls Tryz.prog 63 #[.int .i64 v, .int .i64 n] w fun ev w' => ∃ t : ByteArray, ev = .returned (.string t) ∧ Hid (t = bt (digL v n)) ∧ t.size ≤ 4194304 ∧ w' = w := by
  refine (digits_any v n w (by omega) (by omega)).mono ?_
  rintro e w' ⟨rfl, rfl⟩
  refine ⟨_, rfl, hide rfl, ?_, rfl⟩
  have := octL_len v
  rw [bt_size, digL, List.length_append, List.length_append, List.length_replicate]
  simp; omega
theorem bt_nil : (⟨#[]⟩ : ByteArray) = bt [] := rfl
theorem nil_list : (⟨#[]⟩ : ByteArray).data.toList = [] := rfl
/-- What is asked of a change that is packed. -/
structure PkC (c : Ent) (m : Nat) : Prop where
  mode : c.mode = (m : Int)
  m512 : m < 512
  path : c.path.size ≤ 1048576
  data : c.data.size ≤ 1048576
  gone : c.kind = 4 → c.path.data.toList ≠ []
  name : (nameL c).length ≤ 1048576
  rest : (partL (nameL c)).2.length ≤ 100
  ahead : (partL (nameL c)).1.length ≤ 155
  link : (linkL c).length ≤ 100
  file : (dataL c).length ≤ 4096
theorem head_len {c : Ent} {m : Nat} (h : PkC c m) : (headL c).length = 148 := by
  have h0 : (octL 0).length ≤ 7 := by rw [octL, if_pos (by omega)]; simp
  have h1 : (octL c.mode.toNat).length ≤ 7 := by
    have := octL_lt 2 c.mode.toNat (by have := h.mode; have := h.m512; simp; omega)
    omega
  have h2 : (octL (dataL c).length).length ≤ 11 := by
    have := octL_lt 4 (dataL c).length (by have := h.file; simp; omega)
    omega
  simp only [headL, List.length_append, fillL_len h.rest, digL_len h1, digL_len h0, digL_len h2, digL_len (v := 0) (n := 11) (by omega)]
theorem tail_len {c : Ent} {m : Nat} (h : PkC c m) : (tailL c).length = 356 := by
  have h0 : (octL 0).length ≤ 7 := by rw [octL, if_pos (by omega)]; simp
  simp only [tailL, List.length_append, fillL_len h.link, fillL_len h.ahead, digL_len h0, List.length_replicate, List.length_cons, List.length_nil, magicL]
theorem total_lt {c : Ent} {m : Nat} (h : PkC c m) : totalL c < 262144 := by
  have h1 := sumL_le (headL c)
  have h2 := sumL_le (tailL c)
  rw [head_len h] at h1
  rw [tail_len h] at h2
  rw [totalL]; omega
set_option maxHeartbeats 1000000 in
set_option maxRecDepth 100000 in
theorem refEntry_any (c : Ent) (m : Nat) (w : World) (HPk : Hid (PkC c m)) :
    Calls Tryz.prog 41 #[.agg #[.string c.path, .int .i64 c.kind, .int .i64 c.mode, .string c.data]] w fun ev w' => ∃ s : ByteArray, ev = .returned (.string s) ∧ Hid (s = bt (entryL c)) ∧ Below w.heap.size w w' := by
  have hC1 := (unhide HPk).path
  have hC2 := (unhide HPk).data
  have hm5 := (unhide HPk).m512
  obtain ⟨W0, hW0⟩ : ∃ W0, W0 = w.alloc (.cells #[.string c.path, .int .i64 c.kind, .int .i64 c.mode, .string c.data] 39) := ⟨_, rfl⟩
  have hB0 : Below w.heap.size w W0 := by rw [hW0]; exact (Below.refl _ _).alloc (Nat.le_refl _) _
  have q0 : W0.cell? ⟨w.heap.size, 0, none⟩ = some (.string c.path) := by rw [hW0]; exact cell_of_row _ _ 0 _ _ _ (heap_alloc_new _ _)
  have q1 : W0.cell? ⟨w.heap.size, 1, none⟩ = some (.int .i64 c.kind) := by rw [hW0]; exact cell_of_row _ _ 1 _ _ _ (heap_alloc_new _ _)
  have q2 : W0.cell? ⟨w.heap.size, 2, none⟩ = some (.int .i64 c.mode) := by rw [hW0]; exact cell_of_row _ _ 2 _ _ _ (heap_alloc_new _ _)
  have q3 : W0.cell? ⟨w.heap.size, 3, none⟩ = some (.string c.data) := by rw [hW0]; exact cell_of_row _ _ 3 _ _ _ (heap_alloc_new _ _)
  have hN := named_any c W0 hC1 (unhide HPk).gone
  go_enter Tryz.func41, Tryz.ntmps41
  go_upto_region 1 with fail
  rw [← hW0]
  clear hW0
  go_upto_region 6 with (first
    | (go_at_call 61; refine hN.mono ?_; clear hN; rintro ev w1 ⟨rfl, hb1⟩; have q1 := cell_later hb1 q1; have q2 := cell_later hb1 q2; have q3 := cell_later hb1 q3)
    | (go_at_call 62; refine (splitR_any (nameL c) w1 (by have := (unhide HPk).name; omega)).mono ?_; rintro ev w2 ⟨rfl, hb2⟩; have q1 := cell_later hb2 q1; have q2 := cell_later hb2 q2; have q3 := cell_later hb2 q3))
  obtain ⟨rs, hrs⟩ : ∃ rs, rs = bt (partL (nameL c)).2 := ⟨_, rfl⟩
  obtain ⟨hs, hhs⟩ : ∃ hs, hs = bt (partL (nameL c)).1 := ⟨_, rfl⟩
  rw [← hrs, ← hhs]
  have hrz : rs.size ≤ 100 := by rw [hrs, bt_size]; exact (unhide HPk).rest
  have haz : hs.size ≤ 155 := by rw [hhs, bt_size]; exact (unhide HPk).ahead
  have HRS := hide hrs
  have HAS := hide hhs
  have hB1 := hB0.trans (hb1.mono hB0.size)
  have hB2 := hB1.trans (hb2.mono hB1.size)
  clear hrs hhs hb1 hb2 hB0 hB1 q0
  obtain ⟨fs, hfs⟩ : ∃ fs, fs = bt [flagL c] := ⟨_, rfl⟩
  obtain ⟨ls, hls⟩ : ∃ ls, ls = bt (linkL c) := ⟨_, rfl⟩
  obtain ⟨ds, hds⟩ : ∃ ds, ds = bt (dataL c) := ⟨_, rfl⟩
  go_upto_block 0 with fail
  go_cut [6, 7, 8] from 32 to 43 (fun f l d wx => f = .string fs ∧ l = .string ls ∧ d = .string ds ∧ wx = w2)
  case first =>
    by_cases h1 : c.kind = 1
    · have E : Hid (fs = ⟨#[53]⟩ ∧ ls = ⟨#[]⟩ ∧ ds = ⟨#[]⟩) := hide (by rw [hfs, hls, hds]; simp [flagL, linkL, dataL, h1]; exact ⟨rfl, rfl⟩)
      have h1' : (c.kind == 1) = true := by simp [h1]
      clear h1 hfs hls hds
      go_wp2_with fail
      go_meet
      case rel => exact ⟨by rw [(unhide E).1], by rw [(unhide E).2.1], by rw [(unhide E).2.2], rfl⟩
    · have h1' : (c.kind == 1) = false := by simp [h1]
      by_cases h3 : c.kind = 3
      · have E : Hid (fs = ⟨#[50]⟩ ∧ ls = c.data ∧ ds = ⟨#[]⟩) := hide (by rw [hfs, hls, hds]; simp [flagL, linkL, dataL, h3, bt_of]; exact ⟨rfl, rfl⟩)
        have h3' : (c.kind == 3) = true := by simp [h3]
        clear h1 h3 hfs hls hds
        go_wp2_with fail
        go_meet
        case rel => exact ⟨by rw [(unhide E).1], by rw [(unhide E).2.1], by rw [(unhide E).2.2], rfl⟩
      · have h3' : (c.kind == 3) = false := by simp [h3]
        by_cases h2 : c.kind = 2
        · have E : Hid (fs = ⟨#[48]⟩ ∧ ls = ⟨#[]⟩ ∧ ds = c.data) := hide (by rw [hfs, hls, hds]; simp [flagL, linkL, dataL, h2, bt_of]; exact ⟨rfl, rfl⟩)
          have h2' : (c.kind == 2) = true := by simp [h2]
          clear h1 h3 h2 hfs hls hds
          go_wp2_with fail
          go_meet
          case rel => exact ⟨by rw [(unhide E).1], by rw [(unhide E).2.1], by rw [(unhide E).2.2], rfl⟩
        · have h2' : (c.kind == 2) = false := by simp [h2]
          have E : Hid (fs = ⟨#[48]⟩ ∧ ls = ⟨#[]⟩ ∧ ds = ⟨#[]⟩) := hide (by rw [hfs, hls, hds]; simp [flagL, linkL, dataL, h1, h2, h3]; exact ⟨rfl, rfl⟩)
          clear h1 h2 h3 hfs hls hds
          go_wp2_with fail
          go_meet
          case rel => exact ⟨by rw [(unhide E).1], by rw [(unhide E).2.1], by rw [(unhide E).2.2], rfl⟩
  case rest =>
    obtain ⟨rfl, rfl, rfl, hw⟩ := hcut
    obtain rfl := hw.symm
    have hfz : fs.size = 1 := by rw [hfs, bt_size]; rfl
    have hlz : ls.size ≤ 100 := by rw [hls, bt_size]; exact (unhide HPk).link
    have hdz : ds.size ≤ 4096 := by rw [hds, bt_size]; exact (unhide HPk).file
    have HFS := hide hfs
    have HLS := hide hls
    have HDS := hide hds
    rw [(unhide HPk).mode] at q2
    clear hfs hls hds
    go_upto_region 19 with (first
      | (go_at_call_of 42 (Value.string rs); refine (filledV_any rs 100 _ (by omega) (by omega)).mono ?_; rintro ev w3 ⟨a1, rfl, HA1, za1, hw⟩; obtain rfl := hw.symm)
      | (go_at_call_of 63 (Value.int .i64 (m : Int)); refine (digitsV_any m 7 _ (by omega) (by omega)).mono ?_; rintro ev w3 ⟨a2, rfl, HA2, za2, hw⟩; obtain rfl := hw.symm)
      | (go_at_call_of 63 (Value.int .i64 7); refine (digitsV_any 0 7 _ (by omega) (by omega)).mono ?_; rintro ev w3 ⟨a3, rfl, HA3, za3, hw⟩; obtain rfl := hw.symm)
      | (go_at_call_of 63 (Value.int .i64 (ds.size : Int)); refine (digitsV_any ds.size 11 _ (by omega) (by omega)).mono ?_; rintro ev w3 ⟨a4, rfl, HA4, za4, hw⟩; obtain rfl := hw.symm)
      | (go_at_call_of 63 (Value.int .i64 11); refine (digitsV_any 0 11 _ (by omega) (by omega)).mono ?_; rintro ev w3 ⟨a5, rfl, HA5, za5, hw⟩; obtain rfl := hw.symm))
    have hhz : a1.size + a2.size + a3.size + a3.size + a4.size + a5.size = 148 := by
      have h := head_len (unhide HPk)
      rw [unhide HA1, unhide HA2, unhide HA3, unhide HA4, unhide HA5]
      simp only [bt_size]
      rw [unhide HDS, bt_size, unhide HRS, bt_list]
      simp only [headL, List.length_append] at h
      have e : c.mode.toNat = m := by rw [(unhide HPk).mode]; rfl
      rw [e] at h
      exact h
    go_upto_region 20 with fail
    obtain ⟨H, hH⟩ : ∃ H, H = a1 ++ a2 ++ a3 ++ a3 ++ a4 ++ a5 := ⟨_, rfl⟩
    rw [← hH]
    have HH : Hid (H = bt (headL c)) := hide (by
      rw [hH, unhide HA1, unhide HA2, unhide HA3, unhide HA4, unhide HA5, unhide HDS, bt_size, unhide HRS, bt_list, bt_app, bt_app, bt_app, bt_app, bt_app]
      have e : c.mode.toNat = m := by rw [(unhide HPk).mode]; rfl
      rw [headL, e])
    have hHz : H.size = 148 := by rw [unhide HH, bt_size, head_len (unhide HPk)]
    clear hH hhz
    go_upto_region 24 with (first
      | (go_at_call_of 42 (Value.string ls); refine (filledV_any ls 100 _ (by omega) (by omega)).mono ?_; rintro ev w3 ⟨b1, rfl, HB1, zb1, hw⟩; obtain rfl := hw.symm)
      | (go_at_call_of 42 (Value.int .i64 64); refine (filledV_any ⟨#[]⟩ 64 _ (by decide) (by omega)).mono ?_; rintro ev w3 ⟨b2, rfl, HB2, zb2, hw⟩; obtain rfl := hw.symm)
      | (go_at_call_of 42 (Value.string hs); refine (filledV_any hs 155 _ (by omega) (by omega)).mono ?_; rintro ev w3 ⟨b3, rfl, HB3, zb3, hw⟩; obtain rfl := hw.symm)
      | (go_at_call_of 42 (Value.int .i64 12); refine (filledV_any ⟨#[]⟩ 12 _ (by decide) (by omega)).mono ?_; rintro ev w3 ⟨b4, rfl, HB4, zb4, hw⟩; obtain rfl := hw.symm))
    go_upto_region 25 with fail
    obtain ⟨T, hT⟩ : ∃ T, T = fs ++ b1 ++ (⟨#[117, 115, 116, 97, 114, 0, 48, 48]⟩ : ByteArray) ++ b2 ++ a3 ++ a3 ++ b3 ++ b4 := ⟨_, rfl⟩
    rw [← hT]
    have HT : Hid (T = bt (tailL c)) := hide (by
      rw [hT, unhide HB1, unhide HB2, unhide HB3, unhide HB4, unhide HA3, unhide HFS, unhide HLS, bt_list, unhide HAS, bt_list, show (⟨#[117, 115, 116, 97, 114, 0, 48, 48]⟩ : ByteArray) = bt magicL from rfl, bt_app, bt_app, bt_app, bt_app, bt_app, bt_app, bt_app]
      rw [tailL]; rfl)
    have hTz : T.size = 356 := by rw [unhide HT, bt_size, tail_len (unhide HPk)]
    clear hT
    go_wp2_with fail
    go_loop [20, 21] (fun t i => ∃ k : Nat, k ≤ H.size ∧ i = .int .i64 k ∧ t = .int .i64 ((256 + sumL ((headL c).take k) : Nat) : Int)) (fun _ i => H.size - (intOf i).toNat)
    case atStart => exact ⟨0, Nat.zero_le _, rfl, by simp [sumL]⟩
    case round =>
      obtain ⟨k, hk, rfl, rfl⟩ := hrel
      have hsl : sumL ((headL c).take k) ≤ 100000 := by
        have := sumL_le ((headL c).take k)
        rw [List.length_take] at this
        omega
      obtain ⟨t0, ht0⟩ : ∃ t0, t0 = 256 + sumL ((headL c).take k) := ⟨_, rfl⟩
      have ht1 : t0 ≤ 300000 := by omega
      by_cases hlt : k < H.size
      · have k0 : (0 : Int) ≤ (k : Int) := by omega
        have k1 : (k : Int) < (H.size : Int) := by omega
        obtain ⟨b, hb, hb2⟩ : ∃ b : Nat, b = H[k].toNat ∧ b < 256 := ⟨_, rfl, H[k].toNat_lt⟩
        have HSt : Hid (256 + sumL ((headL c).take (k + 1)) = t0 + b) := hide (by
          have hkl : k < (headL c).length := by have e := congrArg ByteArray.size (unhide HH); rw [bt_size] at e; omega
          have hgb : (headL c)[k] = H[k] := by
            have e := unhide HH
            subst e
            rfl
          rw [sumL_take hkl, hb, hgb, ht0]; omega)
        rw [← ht0]
        clear ht0 hsl
        rw [hb] at hb2 HSt
        clear hb
        go_wp2
        go_round
        case rel => exact ⟨k + 1, by omega, by go_num, by rw [unhide HSt]; go_num⟩
        case measure => simp [intOf]; omega
      · have HTt : Hid (t0 = 256 + sumL (headL c)) := hide (by
          rw [ht0, List.take_of_length_le (by have e := congrArg ByteArray.size (unhide HH); rw [bt_size] at e; omega)])
        rw [← ht0]
        clear ht0 hsl
        go_wp2_with fail
        obtain ⟨t1, ht1e⟩ : ∃ t1, t1 = t0 := ⟨_, rfl⟩
        rw [← ht1e] at HTt ht1 ⊢
        have HT1 := hide (unhide HTt)
        clear HTt ht1e hlt hk
        go_loop [20, 22] (fun t i => ∃ k : Nat, k ≤ T.size ∧ i = .int .i64 k ∧ t = .int .i64 ((t1 + sumL ((tailL c).take k) : Nat) : Int)) (fun _ i => T.size - (intOf i).toNat)
        case atStart => exact ⟨0, Nat.zero_le _, rfl, by simp [sumL]⟩
        case round =>
          obtain ⟨k, hk, rfl, rfl⟩ := hrel
          have hsl : sumL ((tailL c).take k) ≤ 100000 := by
            have := sumL_le ((tailL c).take k)
            rw [List.length_take] at this
            omega
          obtain ⟨t0, ht0⟩ : ∃ t0, t0 = t1 + sumL ((tailL c).take k) := ⟨_, rfl⟩
          have ht2 : t0 ≤ 600000 := by omega
          by_cases hlt : k < T.size
          · have k0 : (0 : Int) ≤ (k : Int) := by omega
            have k1 : (k : Int) < (T.size : Int) := by omega
            obtain ⟨b, hb, hb2⟩ : ∃ b : Nat, b = T[k].toNat ∧ b < 256 := ⟨_, rfl, T[k].toNat_lt⟩
            have HSt : Hid (t1 + sumL ((tailL c).take (k + 1)) = t0 + b) := hide (by
              have hkl : k < (tailL c).length := by have e := congrArg ByteArray.size (unhide HT); rw [bt_size] at e; omega
              have hgb : (tailL c)[k] = T[k] := by
                have e := unhide HT
                subst e
                rfl
              rw [sumL_take hkl, hb, hgb, ht0]; omega)
            rw [← ht0]
            clear ht0 hsl
            rw [hb] at hb2 HSt
            clear hb
            go_wp2
            go_round
            case rel => exact ⟨k + 1, by omega, by go_num, by rw [unhide HSt]; go_num⟩
            case measure => simp [intOf]; omega
          · have HTt : Hid (t0 = t1 + sumL (tailL c)) := hide (by
              rw [ht0, List.take_of_length_le (by have e := congrArg ByteArray.size (unhide HT); rw [bt_size] at e; omega)])
            rw [← ht0]
            clear ht0 hsl
            go_wp2_with fail
            have HTo : Hid (t0 = totalL c) := hide (by rw [unhide HTt, unhide HT1, totalL])
            obtain ⟨r, hr⟩ : ∃ r, r = ds.size % 512 := ⟨_, rfl⟩
            obtain ⟨pd, hpd⟩ : ∃ pd, pd = (512 - r) % 512 := ⟨_, rfl⟩
            have hr5 : r < 512 := by omega
            have hp5 : pd < 512 := by omega
            have e1 : (ds.size : Int).tmod 512 = (r : Int) := by
              rw [hr]; exact Int.ofNat_tmod ds.size 512
            have e2 : ((512 : Int) - (r : Int)).tmod 512 = (pd : Int) := by
              rw [hpd, show ((512 : Int) - (r : Int)) = ((512 - r : Nat) : Int) by omega]; exact Int.ofNat_tmod (512 - r) 512
            have HPd : Hid (pd = padL (dataL c).length) := hide (by
              rw [hpd, hr, padL, unhide HDS, bt_size])
            clear hr hpd HTt hlt hk
            go_wp2_with (first
              | (go_at_call_of 63 (Value.int .i64 (t0 : Int)); refine (digitsV_any t0 6 _ (by omega) (by omega)).mono ?_; rintro ev w3 ⟨g1, rfl, HG1, zg1, hw⟩; obtain rfl := hw.symm)
              | (go_at_call_of 42 (Value.int .i64 (pd : Int)); refine (filledV_any ⟨#[]⟩ pd _ (by decide) (by omega)).mono ?_; rintro ev w3 ⟨g2, rfl, HG2, zg2, hw⟩; obtain rfl := hw.symm))
            go_ret
            refine ⟨_, rfl, hide ?_, hB2⟩
            rw [unhide HG1, unhide HG2, unhide HH, unhide HT, unhide HDS, unhide HTo, show (⟨#[32]⟩ : ByteArray) = bt [32] from rfl, bt_app, bt_app, bt_app, bt_app, bt_app, unhide HPd, entryL]
            rfl
end Go.Proofs.YtkeefkfklmhcjaaGreatDoor

namespace Go.Proofs.YtkeefkfklmhcjaaGreatDoor
open Go.RowKit

theorem entry_len {c : Ent} {m : Nat} (h : PkC c m) : (entryL c).length ≤ 6000 := by
  have h1 := octL_lt 5 (totalL c) (by have := total_lt h; simp; omega)
  have h2 := h.file
  have h3 : padL (dataL c).length < 512 := Nat.mod_lt _ (by omega)
  simp only [entryL, List.length_append, head_len h, tail_len h, digL_len h1, List.length_replicate, List.length_cons, List.length_nil]
  omega
theorem flatE_snoc {cs : List Ent} {k : Nat} {c : Ent} (h : cs[k]? = some c) : ((cs.take (k + 1)).map entryL).flatten = ((cs.take k).map entryL).flatten ++ entryL c := by
  rw [List.take_add_one, h]; simp
set_option maxHeartbeats 1000000 in
theorem refPack_any (ao : Option Addr) (cap n : Nat) (cs : List Ent) (w : World) (hr : ERow w ao cs) (HN : Hid (n = cs.length)) (hn : n ≤ 80) (HC : Hid (∀ c ∈ cs, ∃ m, PkC c m)) :
    Calls Tryz.prog 20 #[.slice ao n cap] w fun ev w' => ∃ s : ByteArray, ev = .returned (.string s) ∧ Hid (s = bt (packL cs)) ∧ Below w.heap.size w w' := by
  go_enter Tryz.func20, Tryz.ntmps20
  go_wp2_with fail
  go_loopw [3, 4] (fun v i wr => ∃ (k : Nat) (s : ByteArray), k ≤ n ∧ i = .int .i64 k ∧ v = .string s ∧ Hid (s = bt ((cs.take k).map entryL).flatten) ∧ s.size ≤ k * 6000 ∧ Below w.heap.size w wr) (fun _ i _ => n - (intOf i).toNat)
  case atStart => exact ⟨0, ⟨#[]⟩, by omega, rfl, rfl, hide (by simp [bt]), by decide, Below.refl _ _⟩
  case round =>
    obtain ⟨k, s, hk, rfl, rfl, HS, hz, hb⟩ := hrel
    by_cases hlt : k < n
    · obtain ⟨c, hc⟩ : ∃ c, cs[k]? = some c := ⟨cs[k]'(by have := unhide HN; omega), List.getElem?_eq_getElem (by have := unhide HN; omega)⟩
      obtain ⟨g, o, rfl, c0, c1, c2, c3⟩ := (hr.below hb) k c hc
      obtain ⟨m, hm⟩ := unhide HC c (List.mem_of_getElem? hc)
      have HFl := hide (flatE_snoc hc)
      have hel := entry_len hm
      have hE := refEntry_any c m wr (hide hm)
      have i1 : (0 : Int) ≤ (k : Int) := by omega
      have i2 : (k : Int) < (n : Int) := by omega
      clear hc hm
      go_upto_region 6 with (go_at_call 41; refine hE.mono ?_; clear hE; rintro ev w1 ⟨t, rfl, HT, hb1⟩)
      have htz : t.size ≤ 6000 := by rw [unhide HT, bt_size]; exact hel
      have hz2 : (s ++ t).size ≤ (k + 1) * 6000 := by rw [ByteArray.size_append]; omega
      have HS2 : Hid (s ++ t = bt ((cs.take (k + 1)).map entryL).flatten) := hide (by rw [unhide HFl, unhide HS, unhide HT, bt_app])
      have hB := hb.trans (hb1.mono hb.size)
      have HZ := hide hz2
      clear hz2 hel
      go_wp2_with fail
      go_roundw
      case rel =>
        first
          | exact ⟨k + 1, _, by omega, by go_num, rfl, HS2, unhide HZ, hB⟩
          | ((repeat apply Exists.intro); exact ⟨⟨k + 1, _, by omega, by go_num, rfl, HS2, unhide HZ, hB⟩, rfl⟩)
      case measure => simp [intOf]; omega
    · have HF : Hid (s = bt (cs.map entryL).flatten) := hide (by rw [unhide HS, List.take_of_length_le (by have := unhide HN; omega)])
      clear hr
      go_wp2_with (go_at_call 42; refine (filledV_any ⟨#[]⟩ 1024 _ (by decide) (by omega)).mono ?_; rintro ev w3 ⟨g1, rfl, HG, zg, hw⟩; obtain rfl := hw.symm)
      go_ret
      refine ⟨_, rfl, hide ?_, hb⟩
      rw [unhide HF, unhide HG, bt_app, packL]; rfl
end Go.Proofs.YtkeefkfklmhcjaaGreatDoor
