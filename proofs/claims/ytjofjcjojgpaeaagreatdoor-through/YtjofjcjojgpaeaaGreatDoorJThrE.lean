import Derived.Test.YtjofjcjojgpaeaaGreatDoorThrD
import Derived.Test.YtjofjcjojgpaeaaGreatDoorJEqS
import Derived.BigQuiet
namespace Go.Proofs.YtjofjcjojgpaeaaGreatDoor
open Go.RowKit

theorem pad_up (n : Nat) : n + padL n = (n + 511) / 512 * 512 := by unfold padL; omega
theorem entry_up {c : Ent} (h : chOk c = true) : (entryL c).length = 512 + ((dataL c).length + 511) / 512 * 512 := by
  rw [entry_all, List.length_append, (blk_f h).len, List.length_append, List.length_replicate, ← pad_up]
/-- Where the header of a change begins. -/
def hdAt (D : List Ent) (k : Nat) : Nat := (flatE (D.take k)).length
structure HdF (t : ByteArray) (D : List Ent) (k : Nat) (c : Ent) : Prop where
  blk : (t.extract (hdAt D k) (hdAt D k + 512)).data.toList = blockL c
  nxt : hdAt D (k + 1) = hdAt D k + 512 + ((dataL c).length + 511) / 512 * 512
  len : hdAt D (k + 1) + 1024 ≤ t.size
theorem hd_f {t : ByteArray} {D : List Ent} (ht : t.data.toList = packL D) (hd : Chain D) {k : Nat} {c : Ent} (hk : D[k]? = some c) : HdF t D k c := by
  have hc : chOk c = true := chain_ch hd (List.mem_of_getElem? hk)
  have e1 : D.take (k + 1) = D.take k ++ [c] := by rw [List.take_add_one, hk]; rfl
  have en : hdAt D (k + 1) = hdAt D k + (entryL c).length := by rw [hdAt, e1, flatE_snoc', List.length_append]; rfl
  have ep : packL D = flatE (D.take (k + 1)) ++ (flatE (D.drop (k + 1)) ++ endL) := by
    rw [← List.append_assoc, ← flatE_app, List.take_append_drop]; rfl
  refine ⟨?_, ?_, ?_⟩
  · rw [ext_fldT, Nat.add_sub_cancel_left, ht, ep]
    refine fld_at (A := flatE (D.take k)) (B := blockL c) ?_ rfl (blk_f hc).len
    rw [e1, flatE_snoc', entry_all]
    simp only [List.append_assoc, List.prefix_append_right_inj, List.prefix_append]
  · rw [en, entry_up hc]; omega
  · rw [Lib.size_eq, ht, ep, List.length_append, List.length_append]
    have : endL.length = 1024 := by rw [endL, List.length_replicate]
    rw [hdAt]; omega
theorem hd_end {t : ByteArray} {D : List Ent} (ht : t.data.toList = packL D) : t.size = hdAt D D.length + 1024 ∧ ∀ b ∈ (t.extract (hdAt D D.length) t.size).data.toList, b = 0 := by
  have ep : packL D = flatE D ++ List.replicate 1024 0 := rfl
  have e : hdAt D D.length = (flatE D).length := by rw [hdAt, List.take_length]
  constructor
  · rw [Lib.size_eq, ht, ep, List.length_append, List.length_replicate, e]
  · intro b hb
    rw [ext_drop, bt_list, ht, ep, e, List.drop_left] at hb
    exact (List.mem_replicate.1 hb).2
theorem flat_mod : ∀ {D : List Ent}, (∀ c ∈ D, chOk c = true) → (flatE D).length % 512 = 0
  | [], _ => by simp [flatE]
  | c :: D, h => by
    have h1 := flat_mod (D := D) (fun x hx => h x (List.mem_cons_of_mem _ hx))
    rw [flatE_cons, List.length_append, entry_up (h c (by simp))]; omega
theorem hd_mod {t : ByteArray} {D : List Ent} (ht : t.data.toList = packL D) (hd : Chain D) : t.size % 512 = 0 := by
  have h1 := flat_mod (D := D) (fun c hc => chain_ch hd hc)
  have h2 := (hd_end ht).1
  rw [hdAt, List.take_length] at h2
  omega
end Go.Proofs.YtjofjcjojgpaeaaGreatDoor

namespace Go.Proofs.YtjofjcjojgpaeaaGreatDoor
open Go.RowKit Go.Maps

theorem LaidU.laidH {w : World} (h : LaidU w) : Laid w := ⟨h.err, h.rd.pk.max⟩
theorem LaidU.laidKH {w : World} (h : LaidU w) : LaidK w := ⟨h.err, h.rd.pk⟩
set_option maxHeartbeats 2000000 in
set_option maxRecDepth 100000 in
theorem lawH_any (ao bo : Option Addr) (ca cb na nb : Nat) (xs ys : List Tg) (w : World) (ha : TgRow w ao xs) (hb : TgRow w bo ys) (HNa : Hid (na = xs.length)) (HNb : Hid (nb = ys.length)) (hna : na ≤ 140737488351232) (hnb : nb ≤ 140737488351232) (hl : LaidU w) :
    Calls Tryz.prog 4 #[.slice ao na ca, .slice bo nb cb] w fun ev w' => ev = .returned (.bool true) ∧ Below w.heap.size w w' := by
  have HB := hide hb
  have HL := hide hl
  have hRa := rawTree_any ao ca na xs w ha HNa hna
  clear ha hb hl
  go_enter Tryz.func4, Tryz.ntmps4
  go_upto_region 2 with (go_at_call 6; refine hRa.mono ?_; clear hRa; rintro ev w1 ⟨eo, ec1, en, xa, rfl, HEN, hea, hec, HTa, hb1⟩)
  have hRb := rawTree_any bo cb nb ys w1 ((unhide HB).below hb1) HNb hnb
  have HEA := hide hea
  clear HB hea
  go_upto_region 3 with (go_at_call 6; refine hRb.mono ?_; clear hRb; rintro ev w2 ⟨fo, fc, fn, xb, rfl, HFN, hfb, hfc, HTb, hb2⟩)
  have hB2 : Below w.heap.size w w2 := hb1.trans (hb2.mono hb1.size)
  have hLa : xa.length ≤ 17 := (unhide HTa).len
  have hLb : xb.length ≤ 17 := (unhide HTb).len
  have HFa : Hid (FirstBad xa (-1)) := hide (firstBad_of (unhide HTa).tree (by omega))
  have HFb : Hid (FirstBad xb (-1)) := hide (firstBad_of (unhide HTb).tree (by omega))
  have hen : en ≤ 17 := by rw [unhide HEN]; exact hLa
  have hfn : fn ≤ 17 := by rw [unhide HFN]; exact hLb
  have HEA2 := hide ((unhide HEA).below hb2)
  have HFB := hide hfb
  have hD1 := pdiff_any eo fo ec1 fc en fn xa xb w2 (unhide HEA2) (unhide HFB) HEN HFN (by omega) (by omega) (hide (unhide HTa).sizes) (hide (unhide HTb).sizes) ((unhide HL).below hB2).laidH
  clear hfb HEA hb1 hb2
  go_upto_region 4 with (go_at_call 7; refine hD1.mono ?_; clear hD1; rintro ev w3 ⟨dv, de, dn, rfl, HD, hb3⟩)
  obtain ⟨rfl, rfl, B3, hO3⟩ : de = 0 ∧ dn = -1 ∧ ∃ B, OwnC w3 B dv (diffF xa xb) := by
    rcases unhide HD with ⟨i, h, _⟩ | ⟨_, _, h1, h2, h3⟩
    · rcases h with h | ⟨_, h⟩
      · have := firstBad_one h (unhide HFa); omega
      · have := firstBad_one h (unhide HFb); omega
    · exact ⟨h1, h2, h3⟩
  obtain ⟨D, hD⟩ : ∃ D, D = diffF xa xb := ⟨_, rfl⟩
  rw [← hD] at hO3
  have hch : Chain D := by rw [hD]; exact chain_bad.2 (diff_fine (unhide HTa).tree (unhide HTb).tree (by omega))
  obtain ⟨go, gc, gn, rfl, HGN, hgr, hgc⟩ := ownC_row hO3
  have hB3 := hB2.trans (hb3.mono hB2.size)
  have hgn : gn ≤ 80 := by rw [unhide HGN]; exact chain_len hch
  have HCh := hide hch
  have HL3 := hide ((unhide HL).below hB3)
  have HPk := hide (pPack_any go gc gn D w3 hgr HGN (by omega) hgc (hide (chain_small hch)) (unhide HL3).laidKH (hide (fun hF => by rw [unhide HGN]; exact all_pkg hF)))
  have HGR := hide hgr
  clear HD hO3 hgr hD hch HFa HFb HTa HTb HEN HFN HEA2 HFB hb3 hB2
  go_upto_region 5 with (go_at_call 10; refine (unhide HPk).mono ?_; rintro ev w4 ⟨t, e4, k4, rfl, HPP, hb4⟩)
  obtain ⟨hT, rfl, rfl⟩ : t = bt (packL D) ∧ e4 = 0 ∧ k4 = -1 := by
    rcases unhide HPP with ⟨h, h0, h1, _⟩ | ⟨i, _, _, _, h⟩
    · exact ⟨h, h0, h1⟩
    · have := firstBadC_one h (chain_bad.1 (unhide HCh)); omega
  have htz : 1024 ≤ t.size ∧ t.size ≤ 481024 := by rw [hT, bt_size]; exact pack_len (unhide HCh)
  have HTl : Hid (t.data.toList = packL D) := hide (by rw [hT, bt_list])
  have hB4 := hB3.trans (hb4.mono hB3.size)
  have HL4 := hide ((unhide HL3).below hb4)
  have HGR4 := hide ((unhide HGR).below hb4)
  clear HPP HPk hT hb4 HL3 HGR hB3
  go_upto_region 6 with (go_at_call 11; refine (pUnpack_any t w4 (unhide HL4) (by omega)).mono ?_; rintro ev w5 ⟨v5, e5, n5, rfl, HP5, hb5⟩)
  have hUD : UnpOk t.data.toList D := by rw [unhide HTl]; exact pack_unp (unhide HCh)
  obtain ⟨rfl, rfl, B5, hO5⟩ : e5 = 0 ∧ n5 = -1 ∧ ∃ B, OwnC w5 B v5 D := by
    rcases unhide HP5 with ⟨cs, hO, h0, h1, hU⟩ | ⟨i, _, _, _, hU⟩
    · exact ⟨h0, h1, _, unp_ok hUD hU ▸ hO⟩
    · exact (unp_no hUD hU).elim
  obtain ⟨mo, mc, mn, rfl, HMN, hmr, hmc⟩ := ownC_row hO5
  have hmg : gn = mn := (unhide HGN).trans (unhide HMN).symm
  subst hmg
  have hB5 := hB4.trans (hb5.mono hB4.size)
  have HGR5 := hide ((unhide HGR4).below hb5)
  have HMR5 := hide hmr
  have hmod : t.size % 512 = 0 := hd_mod (unhide HTl) (unhide HCh)
  have hmod1 : ((t.size : Int)).tmod 512 = 0 := by rw [Int.tmod_eq_emod_of_nonneg (by omega)]; omega
  have hmod2 : ((t.size : Int)) % 512 = 0 := by omega
  have hsz2 : ¬ (t.size : Int) < 1024 := by omega
  have t1 : (t.size : Int) ≤ 481024 := by omega
  clear HP5 hO5 hmr hUD HGR4 HL4 hb5 hB4
  go_upto_region 9 with fail
  obtain ⟨g, hg⟩ : ∃ g : Nat → Nat, g = hdAt D := ⟨_, rfl⟩
  have HG0 : Hid (g 0 = 0) := hide (by rw [hg]; rfl)
  have HGE : Hid (t.size = g gn + 1024 ∧ ∀ b ∈ (t.extract (g gn) t.size).data.toList, b = 0) := hide (by rw [hg, unhide HGN]; exact hd_end (unhide HTl))
  have HGS : Hid (∀ k, k < gn → ∃ c, chOk c = true ∧ (t.extract (g k) (g k + 512)).data.toList = blockL c ∧ g (k + 1) = g k + 512 + ((dataL c).length + 511) / 512 * 512 ∧ g (k + 1) + 1024 ≤ t.size ∧ (dataL c).length ≤ 4096) := hide (fun k hk => by
    have hk2 : k < D.length := by rw [← unhide HGN]; exact hk
    have hc := chain_ch (unhide HCh) (List.getElem_mem hk2)
    have h1 := hd_f (unhide HTl) (unhide HCh) (List.getElem?_eq_getElem hk2)
    rw [hg]
    exact ⟨D[k], hc, h1.blk, h1.nxt, h1.len, (oct_f hc).file⟩)
  have HB5 := hide hB5
  clear hg HTl HCh hB5 hmod hmod1 hmod2
  go_loopw [16] (fun j wr => ∃ q d : Nat, q ≤ gn ∧ j = .int .i64 q ∧ wr = w5.drewN d) (fun j _ => gn - (intOf j).toNat)
  case atStart => exact ⟨0, 0, by omega, rfl, rfl⟩
  case round =>
    obtain ⟨q, d, hq, rfl, rfl⟩ := hrel
    by_cases hqn : q < gn
    · obtain ⟨e, he⟩ : ∃ e, D[q]? = some e := ⟨D[q]'(by have := unhide HGN; omega), List.getElem?_eq_getElem (by have := unhide HGN; omega)⟩
      obtain ⟨y, o, rfl, c0, c1, c2, c3⟩ := unhide HGR5 q e he
      obtain ⟨y', o', rfl, d0, d1, d2, d3⟩ := unhide HMR5 q e he
      have i1 : (0 : Int) ≤ (q : Int) := by omega
      have i2 : (q : Int) < (gn : Int) := by omega
      have hn := neq39 e e
      rw [show eqE e e = true from eqE_iff.2 rfl] at hn
      clear he
      go_upto_region 11 with fail
      go_quiet (fail)
      go_wp2_with fail
      go_roundw
      case rel =>
        first
          | exact ⟨q + 1, _, by omega, by go_num, rfl⟩
          | ((repeat apply Exists.intro); exact ⟨⟨q + 1, _, by omega, by go_num, rfl⟩, rfl⟩)
      case measure => simp [intOf]; omega
    · obtain ⟨W6, hW6⟩ : ∃ W6, W6 = w5.drewN d := ⟨_, rfl⟩
      have hB6 : Below w.heap.size w W6 := by rw [hW6]; exact below_drewN2 d (unhide HB5)
      rw [← hW6]
      have HB6 := hide hB6
      clear hW6 hB6 HGR5 HMR5 HB5
      go_wp2_with fail
      go_loopw [17, 18] (fun iv kv wr => ∃ k : Nat, k ≤ gn ∧ kv = .int .i64 k ∧ iv = .int .i64 (g k : Nat) ∧ Below W6.heap.size W6 wr) (fun _ kv _ => gn - (intOf kv).toNat)
      case atStart => exact ⟨0, by omega, rfl, by rw [unhide HG0]; rfl, Below.refl _ _⟩
      case round =>
        obtain ⟨k, hk, rfl, rfl, hbr⟩ := hrel
        by_cases hkn : k < gn
        · obtain ⟨c, hc, hbl, hnx, hle, hfl⟩ := unhide HGS k hkn
          obtain ⟨sz, hsz⟩ : ∃ n, n = (dataL c).length := ⟨_, rfl⟩
          have HUS := hide (fun W => ustar_any (t.extract (g k) (g k + 512)) c W hc hbl)
          rw [← hsz] at HUS hnx hfl
          clear hsz hbl hc
          obtain ⟨u, hu⟩ : ∃ u, u = (sz + 511) / 512 := ⟨_, rfl⟩
          rw [← hu] at hnx
          have hu1 : ((sz : Int) + 511).tdiv 512 = (u : Int) := by rw [Int.tdiv_eq_ediv_of_nonneg (by omega)]; omega
          have hu2 : ((sz : Int) + 511) / 512 = (u : Int) := by omega
          have hub : u ≤ 9 := by omega
          have HNX := hide hnx
          obtain ⟨i, hi⟩ : ∃ i, i = g k := ⟨_, rfl⟩
          rw [← hi] at HUS hnx ⊢
          have i0 : (0 : Int) ≤ (i : Int) := by omega
          have i1 : (i : Int) + 512 ≤ (t.size : Int) := by omega
          have i2 : (i : Int) ≤ (i : Int) + 512 := by omega
          have i3 : (i : Int) + 512 + (u : Int) * 512 ≤ (t.size : Int) := by omega
          have i4 : ¬ (t.size : Int) < (i : Int) + 512 := by omega
          have i5 : ¬ (t.size : Int) < (i : Int) + 512 + (u : Int) * 512 := by omega
          have HI := hide hi
          have HBR := hide hbr
          clear hu hi hnx hle hbr
          go_wp2_with (go_at_call 12; refine (unhide HUS _).mono ?_; rintro ev w7 ⟨rfl, hb7⟩)
          have hB7 : Below W6.heap.size W6 w7 := (unhide HBR).trans (hb7.mono (unhide HBR).size)
          go_roundw
          case rel =>
            have R : Value.int .i64 ((i : Int) + 512 + (u : Int) * 512) = .int .i64 ((g (k + 1) : Nat) : Int) := by rw [unhide HNX, ← unhide HI]; go_num
            first
              | exact ⟨k + 1, by omega, by go_num, R, hB7⟩
              | ((repeat apply Exists.intro); exact ⟨⟨k + 1, by omega, by go_num, R, hB7⟩, rfl⟩)
          case measure => simp [intOf]; omega
        · obtain rfl : k = gn := by omega
          obtain ⟨hz, hz2⟩ := unhide HGE
          have HZ := hide hz2
          obtain ⟨i, hi⟩ : ∃ i, i = g k := ⟨_, rfl⟩
          rw [← hi] at hz HZ ⊢
          have i0 : (0 : Int) ≤ (i : Int) := by omega
          have i1 : (i : Int) ≤ (t.size : Int) := by omega
          have i2 : (t.size : Int) - (i : Int) = 1024 := by omega
          have hB8 : Below w.heap.size w wr := (unhide HB6).trans (hbr.mono (unhide HB6).size)
          have hxz : (t.extract i t.size).size ≤ 1073741824 := by rw [ByteArray.size_extract]; omega
          have HX := hide hxz
          clear hz hz2 hi hbr hxz htz hsz2
          go_wp2_with (go_at_call 13; refine (nghts_any _ _ (unhide HX) (unhide HZ)).mono ?_; rintro ev w7 ⟨rfl, hw7⟩; obtain rfl := hw7.symm)
          go_ret
          exact ⟨rfl, hB8⟩
end Go.Proofs.YtjofjcjojgpaeaaGreatDoor
