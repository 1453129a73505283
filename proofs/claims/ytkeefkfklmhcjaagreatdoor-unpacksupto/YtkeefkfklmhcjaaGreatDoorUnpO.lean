import Derived.Test.YtkeefkfklmhcjaaGreatDoorJUnpM
import Derived.Test.YtkeefkfklmhcjaaGreatDoorJMid
namespace Go.Proofs.YtkeefkfklmhcjaaGreatDoor
open Go.RowKit

theorem byte_getD (s : ByteArray) (k : Nat) (h : k < s.size) : s.data.toList.getD k 0 = s[k] := by
  rw [List.getD_eq_getElem?_getD, List.getElem?_eq_getElem (by rw [← Lib.size_eq]; exact h)]
  rfl
theorem byte_is {c : UInt8} {n : Nat} (hn : n < 256) : c = UInt8.ofNat n ↔ (c.toNat : Int) = n := by
  constructor
  · rintro rfl; rw [UInt8.toNat_ofNat']; omega
  · intro h
    apply UInt8.toNat_inj.1
    rw [UInt8.toNat_ofNat']
    omega
theorem said_gone {s : List UInt8} {p : ByteArray} (h5 : s.getD 156 0 ≠ 53) (h2 : s.getD 156 0 ≠ 50) (ho : nameOf (nmR s) ≠ opqL) (hw : Lib.hasPrefix (nameOf (nmR s)) whL = true) (hp : p = bt (inR (dirOf (nmR s)) ((nameOf (nmR s)).drop 4))) : SaidIs s ⟨p, 4, numR (fldL s 100 7), ⟨#[]⟩⟩ := by
  have hz : p.size ≤ 1048576 := by
    rw [hp, bt_size]
    have h1 := inR_len (dirOf (nmR s)) ((nameOf (nmR s)).drop 4)
    have h3 := dir_le (nmR s)
    have h4 := name_le (nmR s)
    have h6 := nmR_len s
    rw [List.length_drop] at h1
    omega
  refine ⟨fun c' r h e => ?_, hz, Nat.zero_le _⟩
  obtain ⟨a, b, c, _⟩ := said_other h r e h5 h2
  have hu : unmL (nmR s) = (inL (dirOf (nmR s)) ((nameOf (nmR s)).drop 4), 4) := by rw [unmL, if_neg ho, hw]; rfl
  rw [hu] at a
  injection a with a1 a2
  have hd : (nameOf (nmR s)).drop 4 ≠ [] := by
    have hs := said_fld h r
    rw [← e] at hs
    have hpn : c'.path.data.toList ≠ [] := fun x => by have := (chOk_path h).2 x; omega
    have he := (up_join (chOk_path h).1 hpn).2
    have hn : nameL c' = inL (dirOf c'.path.data.toList) (whL ++ nameOf c'.path.data.toList) := by simp [nameL, ← a2]
    have h47 : (47 : UInt8) ∉ whL ++ nameOf c'.path.data.toList := by
      simp only [List.mem_append, not_or]; exact ⟨by decide, fun e => (elt_all he 47 e).2 rfl⟩
    rw [hs.name, hn, (dir_in h47).2]
    exact (elt_no he).2
  refine ent_eq ?_ a2 b ?_
  · show p = _
    rw [hp, inR_in hd, a1, bt_of]
  · show (⟨#[]⟩ : ByteArray) = _
    rw [← bt_of c'.data, c (by omega)]; rfl
theorem numR_lt (l : List UInt8) (hl : l.length ≤ 12) : -1 ≤ numR l ∧ numR l < 68719476736 := by
  unfold numR
  split
  · rename_i h
    have := octV_lt l h
    have h8 : (8 : Nat) ^ l.length ≤ 8 ^ 12 := Nat.pow_le_pow_right (by omega) hl
    have h12 : (8 : Nat) ^ 12 = 68719476736 := by decide
    omega
  · omega
set_option maxHeartbeats 4000000 in
set_option maxRecDepth 100000 in
theorem said_any (s : ByteArray) (w : World) (h512 : 512 ≤ s.size) (hs : s.size ≤ 1073741824) :
    Calls Tryz.prog 65 #[.string s] w fun ev w' => ∃ c : Ent, ev = .returned (.agg #[.string c.path, .int .i64 c.kind, .int .i64 c.mode, .string c.data]) ∧ Hid (SaidIs s.data.toList c) ∧ Below w.heap.size w w' := by
  obtain ⟨W0, hW0⟩ : ∃ W0, W0 = w.alloc (.cells #[.string ⟨#[]⟩, .int .i64 0, .int .i64 0, .string ⟨#[]⟩] 39) := ⟨_, rfl⟩
  have hB0 : Below w.heap.size w W0 := by rw [hW0]; exact (Below.refl _ _).alloc (Nat.le_refl _) _
  have hq0 : W0.heap[w.heap.size]? = some (.cells #[.string ⟨#[]⟩, .int .i64 0, .int .i64 0, .string ⟨#[]⟩] 39 (0, 0)) := by rw [hW0]; exact heap_alloc_new _ _
  have hs0 : w.heap.size < W0.heap.size := by rw [hW0, World.size_alloc]; omega
  have i500 : (500 : Int) ≤ (s.size : Int) := by omega
  have i100 : (100 : Int) ≤ (s.size : Int) := by omega
  have i107 : (107 : Int) ≤ (s.size : Int) := by omega
  have i135 : (135 : Int) ≤ (s.size : Int) := by omega
  have i156 : (156 : Int) < (s.size : Int) := by omega
  have n156 : 156 < s.size := by omega
  have i257 : (257 : Int) ≤ (s.size : Int) := by omega
  obtain ⟨s1, hs1⟩ : ∃ x, x = s.extract 345 500 := ⟨_, rfl⟩
  obtain ⟨s2, hs2⟩ : ∃ x, x = s.extract 0 100 := ⟨_, rfl⟩
  obtain ⟨s3, hs3⟩ : ∃ x, x = s.extract 100 107 := ⟨_, rfl⟩
  obtain ⟨s4, hs4⟩ : ∃ x, x = s.extract 124 135 := ⟨_, rfl⟩
  obtain ⟨s5, hs5⟩ : ∃ x, x = s.extract 157 257 := ⟨_, rfl⟩
  have l1 : s1.data.toList = fldL s.data.toList 345 155 := by rw [hs1, ext_fld]
  have l2 : s2.data.toList = fldL s.data.toList 0 100 := by rw [hs2, ext_fld]
  have l3 : s3.data.toList = fldL s.data.toList 100 7 := by rw [hs3, ext_fld]
  have l4 : s4.data.toList = fldL s.data.toList 124 11 := by rw [hs4, ext_fld]
  have l5 : s5.data.toList = fldL s.data.toList 157 100 := by rw [hs5, ext_fld]
  have z1 : s1.size ≤ 155 := by rw [Lib.size_eq, l1]; exact fld_le _ _ _
  have z2 : s2.size ≤ 100 := by rw [Lib.size_eq, l2]; exact fld_le _ _ _
  have z3 : s3.size ≤ 7 := by rw [Lib.size_eq, l3]; exact fld_le _ _ _
  have z4 : s4.size ≤ 11 := by rw [Lib.size_eq, l4]; exact fld_le _ _ _
  have z5 : s5.size ≤ 100 := by rw [Lib.size_eq, l5]; exact fld_le _ _ _
  have L1 := hide l1
  have L2 := hide l2
  have L3 := hide l3
  have L4 := hide l4
  have L5 := hide l5
  have E1 := hide hs1
  have E2 := hide hs2
  have E3 := hide hs3
  have E4 := hide hs4
  have E5 := hide hs5
  have HW0 := hide hW0
  have HQ0 := hide hq0
  clear l1 l2 l3 l4 l5 hs1 hs2 hs3 hs4 hs5 hW0 hq0
  go_enter Tryz.func65, Tryz.ntmps65
  go_upto_region 1 with fail
  rw [← unhide HW0]
  clear HW0
  go_upto_region 6 with (first
    | (go_at_call 97; rw [← unhide E1]; refine (upTo_any s1 W0 (by omega)).mono ?_; rintro ev w1 ⟨ta, rfl, HTa, hw⟩; obtain rfl := hw.symm)
    | (go_at_call 97; rw [← unhide E2]; refine (upTo_any s2 W0 (by omega)).mono ?_; rintro ev w1 ⟨tn, rfl, HTn, hw⟩; obtain rfl := hw.symm; have za : ta.size ≤ 155 := (by rw [unhide HTa, bt_size]; have := upN_len s1.data.toList; rw [← Lib.size_eq] at this; omega); have zn : tn.size ≤ 100 := (by rw [unhide HTn, bt_size]; have := upN_len s2.data.toList; rw [← Lib.size_eq] at this; omega))
    | (go_at_call 95; refine (refIn_any ta tn W0 (by omega) (by omega)).mono ?_; rintro ev w1 ⟨nm, rfl, HNm0, hw⟩; obtain rfl := hw.symm)
    | (go_at_call 98; rw [← unhide E3]; refine (numR_any s3 W0 (by omega)).mono ?_; rintro ev w1 ⟨m, rfl, HM0, hw⟩; obtain rfl := hw.symm)
    | (go_at_call 98; rw [← unhide E4]; refine (numR_any s4 W0 (by omega)).mono ?_; rintro ev w1 ⟨n, rfl, HN0, hw⟩; obtain rfl := hw.symm))
  have HNm : Hid (nm = bt (nmR s.data.toList)) := hide (by rw [unhide HNm0, unhide HTa, unhide HTn, bt_list, bt_list, unhide L1, unhide L2]; rfl)
  have HM : Hid (m = numR (fldL s.data.toList 100 7)) := hide (by rw [unhide HM0, unhide L3])
  have HN : Hid (n = numR (fldL s.data.toList 124 11)) := hide (by rw [unhide HN0, unhide L4])
  have hnz : nm.size ≤ 256 := by rw [unhide HNm, bt_size]; exact nmR_len _
  clear HNm0 HM0 HN0 HTa HTn L1 L2 L3 L4 E1 E2 E3 E4 z1 z2 z3 z4 za zn i500 i100 i107 i135
  obtain ⟨W1, hW1⟩ : ∃ W1, W1 = W0.alloc (.cells #[.string nm, .int .i64 0, .int .i64 m, .string ⟨#[]⟩] 39) := ⟨_, rfl⟩
  go_upto_region 7 with fail
  rw [← hW1]
  have hB01 : Below W0.heap.size W0 W1 := by rw [hW1]; exact (Below.refl _ _).alloc (Nat.le_refl _) _
  have hB1 : Below w.heap.size w W1 := hB0.trans (hB01.mono hB0.size)
  have hq := (by rw [hW1]; exact heap_alloc_new _ _ : W1.heap[W0.heap.size]? = some (.cells #[.string nm, .int .i64 0, .int .i64 m, .string ⟨#[]⟩] 39 (0, 0)))
  have hz := keepC_below hB01 _ _ _ _ (unhide HQ0)
  have HHq := hide hq
  have HHz := hide hz
  have hne : W0.heap.size ≠ w.heap.size := by omega
  have hne2 : w.heap.size ≠ W0.heap.size := by omega
  have HGet := hide (byte_getD s 156 n156)
  clear hW1 hB01 HQ0 hB0
  by_cases k5 : s[156] = 53
  · have HK5 : Hid (s.data.toList.getD 156 0 = 53) := hide ((unhide HGet).trans k5)
    have g1 : (s[156].toNat : Int) = 53 := by rw [k5]; rfl
    clear k5
    have q0 : W1.cell? ⟨W0.heap.size, 0, none⟩ = some (.string nm) := cell_of_row _ _ 0 _ _ _ hq
    have q1 : W1.cell? ⟨W0.heap.size, 1, none⟩ = some (.int .i64 0) := cell_of_row _ _ 1 _ _ _ hq
    have q2 : W1.cell? ⟨W0.heap.size, 2, none⟩ = some (.int .i64 m) := cell_of_row _ _ 2 _ _ _ hq
    have q3 : W1.cell? ⟨W0.heap.size, 3, none⟩ = some (.string ⟨#[]⟩) := cell_of_row _ _ 3 _ _ _ hq
    have f0 := frz hq 0
    have f1 := frz hq 1
    have f2 := frz hq 2
    have f3 := frz hq 3
    have z0 : W1.cell? ⟨w.heap.size, 0, none⟩ = some (.string ⟨#[]⟩) := cell_of_row _ _ 0 _ _ _ hz
    have z1 : W1.cell? ⟨w.heap.size, 1, none⟩ = some (.int .i64 0) := cell_of_row _ _ 1 _ _ _ hz
    have z2 : W1.cell? ⟨w.heap.size, 2, none⟩ = some (.int .i64 0) := cell_of_row _ _ 2 _ _ _ hz
    have z3 : W1.cell? ⟨w.heap.size, 3, none⟩ = some (.string ⟨#[]⟩) := cell_of_row _ _ 3 _ _ _ hz
    have y0 := frz hz 0
    have y1 := frz hz 1
    have y2 := frz hz 2
    have y3 := frz hz 3
    clear hq hz
    by_cases hn0 : nm.size = 0
    · have i0 : ¬ (0 : Int) < (nm.size : Int) := by omega
      have HF := hide (said_dir (p := nm) (unhide HK5) (by
        have e : (nmR s.data.toList).length = 0 := by rw [← bt_size, ← unhide HNm]; exact hn0
        rw [List.length_eq_zero_iff.1 e, unhide HNm, List.length_eq_zero_iff.1 e]; rfl))
      rw [← unhide HM] at HF
      clear hn0
      go_wp2_with fail
      exact bodyPost_ret (v := .agg #[.string nm, .int .i64 1, .int .i64 m, .string ⟨#[]⟩]) (by simp [results, Tryz.results65, go_sem, z0, z1, z2, z3]) rfl ⟨⟨nm, 1, m, ⟨#[]⟩⟩, rfl, HF, below_z4 (below_q hB1 hs0)⟩
    · obtain ⟨k, hk⟩ : ∃ k, nm.size = k + 1 := ⟨nm.size - 1, by omega⟩
      obtain ⟨p, hp⟩ : ∃ p, p = nm.extract 0 k := ⟨_, rfl⟩
      have HF := hide (said_dir (p := p) (unhide HK5) (by
        rw [hp, ext_take, unhide HNm, bt_list]
        have : (nmR s.data.toList).length = k + 1 := by rw [← bt_size, ← unhide HNm]; exact hk
        rw [this]; rfl))
      rw [← unhide HM] at HF
      have i0 : (0 : Int) < (nm.size : Int) := by omega
      have i1 : (nm.size : Int) - 1 = (k : Int) := by omega
      have i2 : (0 : Int) ≤ (k : Int) := by omega
      have i3 : (k : Int) ≤ (nm.size : Int) := by omega
      have HP := hide hp
      clear hn0 hk hp
      go_wp2_with fail
      rw [← unhide HP]
      exact bodyPost_ret (v := .agg #[.string p, .int .i64 1, .int .i64 m, .string ⟨#[]⟩]) (by simp [results, Tryz.results65, go_sem, z0, z1, z2, z3]) rfl ⟨⟨p, 1, m, ⟨#[]⟩⟩, rfl, HF, below_z4 (below_q (below_q hB1 hs0) hs0)⟩
  · have HK5 : Hid (s.data.toList.getD 156 0 ≠ 53) := hide (fun e => k5 ((unhide HGet).symm.trans e))
    have g1 : ((s[156].toNat : Int) == 53) = false := by
      simp only [beq_eq_false_iff_ne, ne_eq]; exact fun e => k5 ((byte_is (n := 53) (by omega)).2 e)
    clear k5
    by_cases k2 : s[156] = 50
    · have HK2 : Hid (s.data.toList.getD 156 0 = 50) := hide ((unhide HGet).trans k2)
      have g2 : (s[156].toNat : Int) = 50 := by rw [k2]; rfl
      clear k2 g1
      have q0 : W1.cell? ⟨W0.heap.size, 0, none⟩ = some (.string nm) := cell_of_row _ _ 0 _ _ _ hq
      have q1 : W1.cell? ⟨W0.heap.size, 1, none⟩ = some (.int .i64 0) := cell_of_row _ _ 1 _ _ _ hq
      have q2 : W1.cell? ⟨W0.heap.size, 2, none⟩ = some (.int .i64 m) := cell_of_row _ _ 2 _ _ _ hq
      have q3 : W1.cell? ⟨W0.heap.size, 3, none⟩ = some (.string ⟨#[]⟩) := cell_of_row _ _ 3 _ _ _ hq
      have f0 := frz hq 0
      have f1 := frz hq 1
      have f2 := frz hq 2
      have f3 := frz hq 3
      have z0 : W1.cell? ⟨w.heap.size, 0, none⟩ = some (.string ⟨#[]⟩) := cell_of_row _ _ 0 _ _ _ hz
      have z1 : W1.cell? ⟨w.heap.size, 1, none⟩ = some (.int .i64 0) := cell_of_row _ _ 1 _ _ _ hz
      have z2 : W1.cell? ⟨w.heap.size, 2, none⟩ = some (.int .i64 0) := cell_of_row _ _ 2 _ _ _ hz
      have z3 : W1.cell? ⟨w.heap.size, 3, none⟩ = some (.string ⟨#[]⟩) := cell_of_row _ _ 3 _ _ _ hz
      have y0 := frz hz 0
      have y1 := frz hz 1
      have y2 := frz hz 2
      have y3 := frz hz 3
      clear hq hz
      go_wp2_with (go_at_call 97; rw [← unhide E5]; refine (upTo_any s5 _ (by omega)).mono ?_; rintro ev w1 ⟨t, rfl, HT, hw⟩; obtain rfl := hw.symm)
      have HF := hide (said_link (p := nm) (d := t) (unhide HK2) (unhide HNm) (by rw [unhide HT, unhide L5]))
      rw [← unhide HM] at HF
      exact bodyPost_ret (v := .agg #[.string nm, .int .i64 3, .int .i64 m, .string t]) (by simp [results, Tryz.results65, go_sem, z0, z1, z2, z3]) rfl ⟨⟨nm, 3, m, t⟩, rfl, HF, below_z4 (below_q (below_q hB1 hs0) hs0)⟩
    · have HK2 : Hid (s.data.toList.getD 156 0 ≠ 50) := hide (fun e => k2 ((unhide HGet).symm.trans e))
      have g2 : ((s[156].toNat : Int) == 50) = false := by
        simp only [beq_eq_false_iff_ne, ne_eq]; exact fun e => k2 ((byte_is (n := 50) (by omega)).2 e)
      clear k2 hq hz
      go_upto_region 18 with (go_at_call 77; refine (cut_form nm W1 (by omega)).mono ?_; rintro ev w2 ⟨g, cap, ps, rfl, hown, ht, hb2⟩)
      have HT := hide ht
      have hnp : ps ≠ [] := by rintro rfl; exact spl_ne _ ht.symm
      have hl : ps.length ≤ nm.size + 1 := by have := spl_len nm.data.toList; rw [← ht, txts_len, ← Lib.size_eq] at this; exact this
      obtain ⟨q, hq⟩ : ∃ q, ps.length = q + 1 := ⟨ps.length - 1, by have := List.length_pos_iff.2 hnp; omega⟩
      obtain ⟨x, hx⟩ : ∃ x, ps[q]? = some x := ⟨ps[q]'(by omega), List.getElem?_eq_getElem (by omega)⟩
      have c1 := own_cell hown hx
      have HP := hide (own_take hown q (by omega))
      have hcap : (q : Int) ≤ cap := by
        rcases hown.2 with ⟨hv, _⟩ | ⟨g', cap', cur, hv, hbg, hg, hnc, _⟩
        · cases hv
        · cases hv; omega
      have HJ : Hid (Lib.join (txts (ps.take q)) [47] = dirOf nm.data.toList) := hide (by
        rw [dirOf, ← unhide HT, txts, txts, List.map_take, List.dropLast_eq_take, List.length_map, hq]; rfl)
      have HX : Hid (x.data.toList = nameOf nm.data.toList) := hide (by
        have h2 : (txts ps)[q]? = some x.data.toList := txts_get hx
        rw [nameOf, ← unhide HT, List.getLastD_eq_getLast?, List.getLast?_eq_getElem?, txts_len, hq, Nat.add_sub_cancel, h2]; rfl)
      have HD : Hid ((dirOf nm.data.toList).length ≤ nm.size) := hide (by rw [Lib.size_eq]; exact dir_le _)
      have hxz : x.size ≤ 256 := by rw [Lib.size_eq, unhide HX]; have := name_le nm.data.toList; rw [← Lib.size_eq] at this; omega
      rw [hq]
      have hwq : IntKind.i64.wrap (((q + 1 : Nat) : Int) - 1) = (q : Int) := by rw [show ((q + 1 : Nat) : Int) - 1 = (q : Int) from by omega]; exact wrap_i64 _ (by omega)
      have hq0 : (0 : Int) ≤ (q : Int) := by omega
      have hq1 : (q : Int) < ((q + 1 : Nat) : Int) := by omega
      have hqc : 0 ≤ (q : Int) ∧ (q : Int) ≤ cap := ⟨hq0, hcap⟩
      have hlq : q ≤ 256 := by omega
      have hB2 : Below w.heap.size w w2 := hB1.trans (hb2.mono hB1.size)
      have HHq := hide (keepC_below hb2 _ _ _ _ (unhide HHq))
      have HHz := hide (keepC_below hb2 _ _ _ _ (unhide HHz))
      clear hx ht hnp hl hq hown hb2 hB1
      obtain ⟨dd, hdd⟩ : ∃ dd, dd = bs (Lib.join (txts (ps.take q)) [47]) := ⟨_, rfl⟩
      have HJd : Hid (dd.data.toList = dirOf nm.data.toList) := hide (by rw [hdd, data_bs, unhide HJ])
      have hdz : dd.size ≤ 256 := by rw [Lib.size_eq, unhide HJd]; have := unhide HD; omega
      have HDD := hide hdd
      clear hdd
      go_upto_region 20 with (go_at_call 55; refine (joined_at _ _ W1.heap.size q _ _ (unhide HP) (by omega) ?_).mono ?_; (rw [unhide HJ]; have := unhide HD; omega); rintro ev w3 ⟨rfl, hw3⟩; obtain rfl := hw3.symm)
      rw [← unhide HDD]
      have HBg := hide (begins_any x ⟨#[46, 119, 104, 46]⟩ w2)
      have HNl : Hid (nm.data.toList = nmR s.data.toList) := hide (by rw [unhide HNm, bt_list])
      by_cases ho : nameOf nm.data.toList = opqL
      · have g3 : (x.toList == [46, 119, 104, 46, 46, 119, 104, 46, 46, 111, 112, 113]) = true := by rw [Lib.toList_data, unhide HX, ho]; decide
        have HF := hide (said_mark (p := dd) (k := 5) (unhide HK5) (unhide HK2) (by rw [← unhide HNl, unmL, if_pos ho, unhide HJd]) (by decide))
        rw [← unhide HM] at HF
        have hq := unhide HHq
        have hz := unhide HHz
        have q0 : w2.cell? ⟨W0.heap.size, 0, none⟩ = some (.string nm) := cell_of_row _ _ 0 _ _ _ hq
        have q1 : w2.cell? ⟨W0.heap.size, 1, none⟩ = some (.int .i64 0) := cell_of_row _ _ 1 _ _ _ hq
        have q2 : w2.cell? ⟨W0.heap.size, 2, none⟩ = some (.int .i64 m) := cell_of_row _ _ 2 _ _ _ hq
        have q3 : w2.cell? ⟨W0.heap.size, 3, none⟩ = some (.string ⟨#[]⟩) := cell_of_row _ _ 3 _ _ _ hq
        have f0 := frz hq 0
        have f1 := frz hq 1
        have f2 := frz hq 2
        have f3 := frz hq 3
        have z0 : w2.cell? ⟨w.heap.size, 0, none⟩ = some (.string ⟨#[]⟩) := cell_of_row _ _ 0 _ _ _ hz
        have z1 : w2.cell? ⟨w.heap.size, 1, none⟩ = some (.int .i64 0) := cell_of_row _ _ 1 _ _ _ hz
        have z2 : w2.cell? ⟨w.heap.size, 2, none⟩ = some (.int .i64 0) := cell_of_row _ _ 2 _ _ _ hz
        have z3 : w2.cell? ⟨w.heap.size, 3, none⟩ = some (.string ⟨#[]⟩) := cell_of_row _ _ 3 _ _ _ hz
        have y0 := frz hz 0
        have y1 := frz hz 1
        have y2 := frz hz 2
        have y3 := frz hz 3
        clear hq hz ho
        go_wp2_with (go_at_call 59; refine (unhide HBg).mono ?_; rintro ev w3 ⟨rfl, hw3⟩; obtain rfl := hw3.symm)
        exact bodyPost_ret (v := .agg #[.string dd, .int .i64 5, .int .i64 m, .string ⟨#[]⟩]) (by simp [results, Tryz.results65, go_sem, z0, z1, z2, z3]) rfl ⟨⟨dd, 5, m, ⟨#[]⟩⟩, rfl, HF, below_z4 hB2⟩
      · have g3 : (x.toList == [46, 119, 104, 46, 46, 119, 104, 46, 46, 111, 112, 113]) = false := by rw [Lib.toList_data, unhide HX]; simpa [opqL] using ho
        have e4 : (⟨#[46, 119, 104, 46]⟩ : ByteArray).data.toList = whL := rfl
        rw [e4, unhide HX] at HBg
        cases hh : Lib.hasPrefix (nameOf nm.data.toList) whL with
        | true =>
          rw [hh] at HBg
          have hx4 : 4 ≤ x.size := by
            have h9 := hh
            rw [Lib.hasPrefix, List.isPrefixOf_iff_prefix, ← unhide HX] at h9
            have := h9.length_le
            rw [← Lib.size_eq] at this; exact this
          obtain ⟨xx, hxx⟩ : ∃ xx, xx = x.extract 4 x.size := ⟨_, rfl⟩
          have HXX := hide hxx
          have hxl : xx.data.toList = (nameOf nm.data.toList).drop 4 := by rw [hxx, ext_drop, bt_list, unhide HX]
          have hxxz : xx.size ≤ 256 := by rw [hxx, ByteArray.size_extract]; omega
          have HF : Hid (∀ p : ByteArray, p = bt (inR dd.data.toList xx.data.toList) → SaidIs s.data.toList ⟨p, 4, m, ⟨#[]⟩⟩) := hide (fun p hp => by
            rw [unhide HM]
            refine said_gone (unhide HK5) (unhide HK2) ?_ ?_ ?_
            · rw [← unhide HNl]; exact ho
            · rw [← unhide HNl]; exact hh
            · rw [hp, unhide HJd, hxl, unhide HNl])
          have i4 : (4 : Int) ≤ (x.size : Int) := by omega
          have hq := unhide HHq
          have hz := unhide HHz
          have q0 : w2.cell? ⟨W0.heap.size, 0, none⟩ = some (.string nm) := cell_of_row _ _ 0 _ _ _ hq
          have q1 : w2.cell? ⟨W0.heap.size, 1, none⟩ = some (.int .i64 0) := cell_of_row _ _ 1 _ _ _ hq
          have q2 : w2.cell? ⟨W0.heap.size, 2, none⟩ = some (.int .i64 m) := cell_of_row _ _ 2 _ _ _ hq
          have q3 : w2.cell? ⟨W0.heap.size, 3, none⟩ = some (.string ⟨#[]⟩) := cell_of_row _ _ 3 _ _ _ hq
          have f0 := frz hq 0
          have f1 := frz hq 1
          have f2 := frz hq 2
          have f3 := frz hq 3
          have z0 : w2.cell? ⟨w.heap.size, 0, none⟩ = some (.string ⟨#[]⟩) := cell_of_row _ _ 0 _ _ _ hz
          have z1 : w2.cell? ⟨w.heap.size, 1, none⟩ = some (.int .i64 0) := cell_of_row _ _ 1 _ _ _ hz
          have z2 : w2.cell? ⟨w.heap.size, 2, none⟩ = some (.int .i64 0) := cell_of_row _ _ 2 _ _ _ hz
          have z3 : w2.cell? ⟨w.heap.size, 3, none⟩ = some (.string ⟨#[]⟩) := cell_of_row _ _ 3 _ _ _ hz
          have y0 := frz hz 0
          have y1 := frz hz 1
          have y2 := frz hz 2
          have y3 := frz hz 3
          clear hq hz ho hh hxl hxx
          go_wp2_with (first
            | (go_at_call 59; refine (unhide HBg).mono ?_; rintro ev w3 ⟨rfl, hw3⟩; obtain rfl := hw3.symm)
            | (go_at_call 95; rw [← unhide HXX]; refine (refIn_any dd xx w2 (by omega) (by omega)).mono ?_; rintro ev w4 ⟨p, rfl, HPp, hw4⟩; obtain rfl := hw4.symm))
          exact bodyPost_ret (v := .agg #[.string p, .int .i64 4, .int .i64 m, .string ⟨#[]⟩]) (by simp [results, Tryz.results65, go_sem, z0, z1, z2, z3]) rfl ⟨⟨p, 4, m, ⟨#[]⟩⟩, rfl, hide (unhide HF p (unhide HPp)), below_z4 hB2⟩
        | false =>
          rw [hh] at HBg
          have HF : Hid (∀ d : ByteArray, d.size ≤ 1048576 → (∀ v : Nat, n = (v : Int) → v ≤ 4096 → 512 + v ≤ s.size → d = bt (fldL s.data.toList 512 v)) → SaidIs s.data.toList ⟨nm, 2, m, d⟩) := hide (fun d hdz hd => by
            rw [unhide HM]
            refine said_file (unhide HK5) (unhide HK2) ?_ hdz fun v h1 h2 h3 => hd v ((unhide HN).trans h1) h2 (by rw [Lib.size_eq]; exact h3)
            rw [← unhide HNl, unmL, if_neg ho, hh]; rfl)
          obtain ⟨n0, n1⟩ : -1 ≤ n ∧ n < 68719476736 := by
            rw [unhide HN]; exact numR_lt _ (Nat.le_trans (fld_le _ _ _) (by omega))
          have hq := unhide HHq
          have hz := unhide HHz
          have q0 : w2.cell? ⟨W0.heap.size, 0, none⟩ = some (.string nm) := cell_of_row _ _ 0 _ _ _ hq
          have q1 : w2.cell? ⟨W0.heap.size, 1, none⟩ = some (.int .i64 0) := cell_of_row _ _ 1 _ _ _ hq
          have q2 : w2.cell? ⟨W0.heap.size, 2, none⟩ = some (.int .i64 m) := cell_of_row _ _ 2 _ _ _ hq
          have q3 : w2.cell? ⟨W0.heap.size, 3, none⟩ = some (.string ⟨#[]⟩) := cell_of_row _ _ 3 _ _ _ hq
          have f0 := frz hq 0
          have f1 := frz hq 1
          have f2 := frz hq 2
          have f3 := frz hq 3
          have z0 : w2.cell? ⟨w.heap.size, 0, none⟩ = some (.string ⟨#[]⟩) := cell_of_row _ _ 0 _ _ _ hz
          have z1 : w2.cell? ⟨w.heap.size, 1, none⟩ = some (.int .i64 0) := cell_of_row _ _ 1 _ _ _ hz
          have z2 : w2.cell? ⟨w.heap.size, 2, none⟩ = some (.int .i64 0) := cell_of_row _ _ 2 _ _ _ hz
          have z3 : w2.cell? ⟨w.heap.size, 3, none⟩ = some (.string ⟨#[]⟩) := cell_of_row _ _ 3 _ _ _ hz
          have y0 := frz hz 0
          have y1 := frz hz 1
          have y2 := frz hz 2
          have y3 := frz hz 3
          clear hq hz ho hh
          by_cases hn0 : 0 < n
          · by_cases hn4 : n ≤ 4096
            · by_cases hns : 512 + n ≤ (s.size : Int)
              · obtain ⟨e, he⟩ := Int.eq_ofNat_of_zero_le (by omega : 0 ≤ 512 + n)
                obtain ⟨d, hd⟩ : ∃ d, d = s.extract 512 e := ⟨_, rfl⟩
                have HDt := hide hd
                have hv1 : (512 : Int) ≤ (e : Int) := by omega
                have hv2 : (e : Int) ≤ (s.size : Int) := by omega
                have HR : Hid (SaidIs s.data.toList ⟨nm, 2, m, d⟩) := hide (unhide HF d (by rw [hd, ByteArray.size_extract]; omega) (fun v' e1 _ _ => by
                  have : e = 512 + v' := by omega
                  rw [hd, ← bt_of (s.extract 512 e), ext_fld, this, Nat.add_sub_cancel_left]))
                have he' : wrap64 (512 + n) = (e : Int) := by unfold wrap64; omega
                have he2 : IntKind.i64.wrap (512 + n) = (e : Int) := by rw [he]; exact wrap_i64 _ (by omega)
                clear hd HF
                go_upto_region 26 with (go_at_call 59; refine (unhide HBg).mono ?_; rintro ev w3 ⟨rfl, hw3⟩; obtain rfl := hw3.symm)
                go_wp2_with fail
                rw [← unhide HDt]
                exact bodyPost_ret (v := .agg #[.string nm, .int .i64 2, .int .i64 m, .string d]) (by simp [results, Tryz.results65, go_sem, z0, z1, z2, z3]) rfl ⟨⟨nm, 2, m, d⟩, rfl, HR, below_z4 (below_q (below_q hB2 hs0) hs0)⟩
              · have HR : Hid (SaidIs s.data.toList ⟨nm, 2, m, ⟨#[]⟩⟩) := hide (unhide HF _ (Nat.zero_le _) (fun v e1 e2 e3 => absurd e3 (by omega)))
                go_wp2_with (go_at_call 59; refine (unhide HBg).mono ?_; rintro ev w3 ⟨rfl, hw3⟩; obtain rfl := hw3.symm)
                exact bodyPost_ret (v := .agg #[.string nm, .int .i64 2, .int .i64 m, .string ⟨#[]⟩]) (by simp [results, Tryz.results65, go_sem, z0, z1, z2, z3]) rfl ⟨⟨nm, 2, m, ⟨#[]⟩⟩, rfl, HR, below_z4 (below_q hB2 hs0)⟩
            · have HR : Hid (SaidIs s.data.toList ⟨nm, 2, m, ⟨#[]⟩⟩) := hide (unhide HF _ (Nat.zero_le _) (fun v e1 e2 e3 => absurd e2 (by omega)))
              go_wp2_with (go_at_call 59; refine (unhide HBg).mono ?_; rintro ev w3 ⟨rfl, hw3⟩; obtain rfl := hw3.symm)
              exact bodyPost_ret (v := .agg #[.string nm, .int .i64 2, .int .i64 m, .string ⟨#[]⟩]) (by simp [results, Tryz.results65, go_sem, z0, z1, z2, z3]) rfl ⟨⟨nm, 2, m, ⟨#[]⟩⟩, rfl, HR, below_z4 (below_q hB2 hs0)⟩
          · have HR : Hid (SaidIs s.data.toList ⟨nm, 2, m, ⟨#[]⟩⟩) := hide (unhide HF _ (Nat.zero_le _) (fun v e1 e2 e3 => by
              have : v = 0 := by omega
              subst this; simp [fldL, bt]))
            go_wp2_with (go_at_call 59; refine (unhide HBg).mono ?_; rintro ev w3 ⟨rfl, hw3⟩; obtain rfl := hw3.symm)
            exact bodyPost_ret (v := .agg #[.string nm, .int .i64 2, .int .i64 m, .string ⟨#[]⟩]) (by simp [results, Tryz.results65, go_sem, z0, z1, z2, z3]) rfl ⟨⟨nm, 2, m, ⟨#[]⟩⟩, rfl, HR, below_z4 (below_q hB2 hs0)⟩
end Go.Proofs.YtkeefkfklmhcjaaGreatDoor
