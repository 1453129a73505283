import Derived.Test.YtjofjcjojgpaeaaGreatDoorJUnpA
import Derived.Test.YtjofjcjojgpaeaaGreatDoorJUnpC
import Derived.Deep.RegionHeld3
import Derived.Test.YtjofjcjojgpaeaaGreatDoorJChl
namespace Go.Proofs.YtjofjcjojgpaeaaGreatDoor
open Go.RowKit

/-- What a field's number is: of octal digits what they tell. -/
def NumIs (t : List UInt8) (v : Int) : Prop := t ≠ [] → t.all isOct = true → v = (octV t : Nat)
theorem upN_len (l : List UInt8) : (upN l).length ≤ l.length := by
  unfold upN; exact (List.takeWhile_prefix _).length_le
theorem fld_le (s : List UInt8) (o n : Nat) : (fldL s o n).length ≤ n := by rw [fldL, List.length_take]; omega
set_option maxRecDepth 10000 in
theorem number_any (b o n : Nat) (xs : List UInt8) (m : Int) (te : Nat) (pe : Value) (w : World) (hk : Blk w b xs) (h : o + n ≤ 512) (h0 : 0 < n) (h12 : n ≤ 12) (hm : w.cell? ⟨14, 0, none⟩ = some (.int .i64 m)) (hv : w.cell? ⟨16, 0, none⟩ = some (.iface te pe)) :
    Calls Tryz.prog 111 #[.pointer (some ⟨b, 0, none⟩), .agg #[.int .i64 (o : Nat), .int .i64 (n : Nat)]] w fun ev w' => ∃ v : Int, ev = .returned (.int .i64 v) ∧ Hid (NumIs (upN (fldL xs o n)) v) ∧ Below w.heap.size w w' := by
  have hb0 : Below w.heap.size w (w.alloc (.cells #[.int .i64 (o : Nat), .int .i64 (n : Nat)] 168)) := (Below.refl _ _).alloc (Nat.le_refl _) _
  have HT := hide (text_any b o n xs m _ (hk.below hb0) h h0 (cell_later hb0 hm))
  have HV := hide (cell_later hb0 hv)
  have HZ := hide (Nat.le_trans (upN_len (fldL xs o n)) (fld_le xs o n))
  clear hk hm hv
  go_enter Tryz.func111, Tryz.ntmps111
  go_upto_region 2 with (first
    | (go_at_call 140; refine (unhide HT).mono ?_; rintro ev w1 ⟨s, rfl, HS, hb1⟩; have hsz : s.size ≤ 12 := (by rw [unhide HS, bt_size]; have := unhide HZ; omega))
    | (go_at_call 143; refine (parseInt_any s te pe w1 hsz (cell_later hb1 (unhide HV))).mono ?_; rintro ev w2 ⟨v, er, rfl, HO, hb2⟩))
  have hB1 := hb0.trans (hb1.mono hb0.size)
  have hB2 := hB1.trans (hb2.mono hB1.size)
  obtain ⟨⟨x, rfl⟩, he, ho⟩ := unhide HO
  have HP : Hid (upN (fldL xs o n) ≠ [] → (upN (fldL xs o n)).all isOct = true → er = .nilIface ∧ x = (octV (upN (fldL xs o n)) : Nat)) := hide (fun a b => by
    have e : s.data.toList = upN (fldL xs o n) := by rw [unhide HS, bt_list]
    rw [e] at ho
    have := ho a b
    exact ⟨this.1, by have := this.2; injection this⟩)
  clear HO ho
  rcases he with rfl | ⟨N, rfl⟩
  · have HQ : Hid (NumIs (upN (fldL xs o n)) x) := hide (fun a b => (unhide HP a b).2)
    clear HP
    go_wp2_with fail
    go_ret
    exact ⟨_, rfl, HQ, hB2⟩
  · have HQ : Hid (∀ y : Int, NumIs (upN (fldL xs o n)) y) := hide (fun y a b => by have := (unhide HP a b).1; cases this)
    clear HP
    go_wp2_with fail
    go_ret
    exact ⟨_, rfl, hide (unhide HQ _), hB2⟩
theorem joined_name (d r : ByteArray) (w : World) (_ : d.size ≤ 1073741824) (_ : r.size ≤ 1073741824) :
    Calls Tryz.prog 139 #[.string d, .string r] w fun ev w' => ∃ s : ByteArray, ev = .returned (.string s) ∧ Hid (s = bt (inL d.data.toList r.data.toList)) ∧ w' = w := by
  by_cases hd : d.data.toList = []
  · have g1 : d.toList.isEmpty = true := by rw [Lib.toList_data]; simpa using hd
    have HF : Hid (r = bt (inL d.data.toList r.data.toList)) := hide (by rw [inL, if_pos hd, bt_of])
    clear hd
    go_enter Tryz.func139, Tryz.ntmps139
    go_wp2
    go_ret
    exact ⟨_, rfl, HF, rfl⟩
  · have g1 : d.toList.isEmpty = false := by rw [Lib.toList_data]; simpa using hd
    have HF : Hid (d ++ (⟨#[47]⟩ : ByteArray) ++ r = bt (inL d.data.toList r.data.toList)) := hide (by
      rw [inL, if_neg hd]
      conv => lhs; rw [← bt_of d, ← bt_of r, show (⟨#[47]⟩ : ByteArray) = bt [47] from rfl, bt_app, bt_app]
      simp)
    clear hd
    go_enter Tryz.func139, Tryz.ntmps139
    go_wp2
    go_ret
    exact ⟨_, rfl, HF, rfl⟩
theorem dirPath_any (s : ByteArray) (w : World) (hs : s.size ≤ 1073741824) :
    Calls Tryz.prog 141 #[.string s] w fun ev w' => ∃ t : ByteArray, ev = .returned (.string t) ∧ Hid (t = bt (Lib.trimSuffix s.data.toList [47])) ∧ w' = w := by
  have h := Tryz.strings_TrimSuffix s ⟨#[47]⟩ w (by omega)
  go_enter Tryz.func141, Tryz.ntmps141
  go_wp2_with (go_at_call 161; refine h.mono ?_; clear h; rintro ev w1 ⟨rfl, hw⟩; obtain rfl := hw.symm)
  go_ret
  exact ⟨_, rfl, hide rfl, rfl⟩
set_option maxHeartbeats 400000 in
theorem hasPrefixI_any (s p : ByteArray) (w : World) :
    Calls Tryz.prog 144 #[.string s, .string p] w fun e w' => e = .returned (.bool (Lib.hasPrefix s.data.toList p.data.toList)) ∧ w' = w := by
  have H := hide (Lib.hasPrefix_raw s p)
  go_enter Tryz.func144, Tryz.ntmps144
  go_wp2
  · go_ret
    exact ⟨ret_bool (by rw [← unhide H]; simp [*]), rfl⟩
  · go_ret
    exact ⟨ret_bool (by rw [← unhide H]; simp [*]), rfl⟩
theorem pre_le {s p : ByteArray} (h : Lib.hasPrefix s.data.toList p.data.toList = true) : p.size ≤ s.size := by
  rw [Lib.hasPrefix, List.isPrefixOf_iff_prefix] at h
  rw [Lib.size_eq, Lib.size_eq]; exact h.length_le
theorem cutPre_any (s p : ByteArray) (w : World) :
    Calls Tryz.prog 88 #[.string s, .string p] w fun ev w' => ∃ t : ByteArray, ev = .returned (.tuple #[.string t, .bool (Lib.hasPrefix s.data.toList p.data.toList)]) ∧ Hid (t = bt (Lib.trimPrefix s.data.toList p.data.toList)) ∧ w' = w := by
  have hI : Calls Tryz.prog 112 #[.string s, .string p] w fun ev w' => ∃ t : ByteArray, ev = .returned (.tuple #[.string t, .bool (Lib.hasPrefix s.data.toList p.data.toList)]) ∧ Hid (t = bt (Lib.trimPrefix s.data.toList p.data.toList)) ∧ w' = w := by
    have hP := hasPrefixI_any s p w
    cases hh : Lib.hasPrefix s.data.toList p.data.toList with
    | false =>
      have HF : Hid (s = bt (Lib.trimPrefix s.data.toList p.data.toList)) := hide (by rw [Lib.trimPrefix, hh]; simp [bt_of])
      rw [hh] at hP
      go_enter Tryz.func112, Tryz.ntmps112
      go_wp2_with (go_at_call 144; refine hP.mono ?_; clear hP; rintro ev w1 ⟨rfl, hw⟩; obtain rfl := hw.symm)
      go_ret2
      exact ⟨_, rfl, HF, rfl⟩
    | true =>
      have HF : Hid (s.extract p.size s.size = bt (Lib.trimPrefix s.data.toList p.data.toList)) := hide (by rw [ext_drop, Lib.trimPrefix, hh, Lib.size_eq]; rfl)
      have hle := pre_le hh
      have i0 : (0 : Int) ≤ (p.size : Int) := by omega
      have i1 : (p.size : Int) ≤ (s.size : Int) := by omega
      rw [hh] at hP
      clear hh
      go_enter Tryz.func112, Tryz.ntmps112
      go_wp2_with (go_at_call 144; refine hP.mono ?_; clear hP; rintro ev w1 ⟨rfl, hw⟩; obtain rfl := hw.symm)
      go_ret2
      exact ⟨_, rfl, HF, rfl⟩
  go_enter Tryz.func88, Tryz.ntmps88
  go_wp2_with (go_at_call 112; refine hI.mono ?_; clear hI; rintro ev w1 ⟨t, rfl, HT, hw⟩; obtain rfl := hw.symm)
  go_ret2
  exact ⟨t, rfl, HT, rfl⟩
theorem opq_list : (⟨#[46, 119, 104, 46, 46, 119, 104, 46, 46, 111, 112, 113]⟩ : ByteArray).data.toList = opqL := rfl
set_option maxRecDepth 10000 in
theorem unmarked_any (s : ByteArray) (w : World) (hs : s.size ≤ 1048576) :
    Calls Tryz.prog 142 #[.string s] w fun ev w' => ∃ (t : ByteArray) (k : Int), ev = .returned (.tuple #[.string t, .int .i64 k]) ∧ Hid (t = bt (unmL s.data.toList).1 ∧ k = (unmL s.data.toList).2) ∧ Below w.heap.size w w' := by
  have hL := last_any s w (by omega)
  go_enter Tryz.func142, Tryz.ntmps142
  go_upto_region 2 with (go_at_call 66; refine hL.mono ?_; clear hL; rintro ev w1 ⟨d, n, rfl, HD, HN, hb1⟩)
  have hds : d.size ≤ 1048576 := by rw [Lib.size_eq, unhide HD]; have := dir_le s.data.toList; rw [Lib.size_eq] at hs; omega
  have hns : n.size ≤ 1048576 := by rw [Lib.size_eq, unhide HN]; have := name_le s.data.toList; rw [Lib.size_eq] at hs; omega
  by_cases ho : nameOf s.data.toList = opqL
  · have g1 : (n.toList == [46, 119, 104, 46, 46, 119, 104, 46, 46, 111, 112, 113]) = true := by rw [Lib.toList_data, unhide HN, ho]; decide
    have HF : Hid (d = bt (unmL s.data.toList).1 ∧ (5 : Int) = (unmL s.data.toList).2) := hide (by rw [unmL, if_pos ho, ← unhide HD, bt_of]; exact ⟨rfl, rfl⟩)
    clear ho
    go_wp2_with fail
    go_ret2
    exact ⟨_, _, rfl, HF, hb1⟩
  · have g1 : (n.toList == [46, 119, 104, 46, 46, 119, 104, 46, 46, 111, 112, 113]) = false := by rw [Lib.toList_data, unhide HN]; simpa [opqL] using ho
    have hC := cutPre_any n ⟨#[46, 119, 104, 46]⟩ w1
    rw [show (⟨#[46, 119, 104, 46]⟩ : ByteArray).data.toList = whL from rfl, unhide HN] at hC
    cases hh : Lib.hasPrefix (nameOf s.data.toList) whL with
    | true =>
      have HU : Hid (unmL s.data.toList = (inL (dirOf s.data.toList) ((nameOf s.data.toList).drop 4), 4)) := hide (by rw [unmL, if_neg ho, hh]; rfl)
      have HTr : Hid (Lib.trimPrefix (nameOf s.data.toList) whL = (nameOf s.data.toList).drop 4) := hide (by rw [Lib.trimPrefix, hh]; rfl)
      rw [hh] at hC
      clear ho hh
      go_wp2_with (first
        | (go_at_call 88; refine hC.mono ?_; clear hC; rintro ev w2 ⟨t, rfl, HT, hw⟩; obtain rfl := hw.symm; have htl : t.data.toList = (nameOf s.data.toList).drop 4 := (by rw [unhide HT, bt_list, unhide HTr]); have HTL := hide htl; have hts : t.size ≤ 1048576 := (by rw [Lib.size_eq, htl, List.length_drop, ← unhide HN, ← Lib.size_eq]; omega); clear htl)
        | (go_at_call 133; refine (join_any d t w1 (by omega) (by omega)).mono ?_; rintro ev w3 ⟨rfl, hw⟩; obtain rfl := hw.symm))
      go_ret2
      exact ⟨_, _, rfl, hide ⟨by rw [unhide HU, unhide HTL, unhide HD], by rw [unhide HU]⟩, hb1⟩
    | false =>
      have HF : Hid (s = bt (unmL s.data.toList).1 ∧ (2 : Int) = (unmL s.data.toList).2) := hide (by rw [unmL, if_neg ho, hh]; exact ⟨(bt_of s).symm, rfl⟩)
      rw [hh] at hC
      clear ho hh
      go_wp2_with (go_at_call 88; refine hC.mono ?_; clear hC; rintro ev w2 ⟨t, rfl, HT, hw⟩; obtain rfl := hw.symm)
      go_ret2
      exact ⟨_, _, rfl, HF, hb1⟩
end Go.Proofs.YtjofjcjojgpaeaaGreatDoor

namespace Go.Proofs.YtjofjcjojgpaeaaGreatDoor
open Go.RowKit

/-- What a header says: the path, the kind, the data of a Link. -/
def chgL (b : List UInt8) : List UInt8 × Int × List UInt8 :=
  if upN (fldL b 156 1) = [53] then (Lib.trimSuffix (nmL b) [47], 1, [])
  else if upN (fldL b 156 1) = [50] then (nmL b, 3, upN (fldL b 157 100))
  else if upN (fldL b 156 1) = [48] then ((unmL (nmL b)).1, (unmL (nmL b)).2, [])
  else ([], 0, [])
/-- A change that a header says. -/
structure ChgIs (xs : List UInt8) (c : Ent) : Prop where
  path : c.path = bt (chgL xs).1
  kind : c.kind = (chgL xs).2.1
  data : c.data = bt (chgL xs).2.2
  mode : NumIs (upN (fldL xs 100 8)) c.mode
/-- What reading asks of the world. -/
structure Rd (w : World) : Prop where
  pk : Pk w
  syn : ∃ (te : Nat) (pe : Value), w.cell? ⟨16, 0, none⟩ = some (.iface te pe)
theorem Rd.below {w w' : World} (h : Rd w) (hb : Below w.heap.size w w') : Rd w' := by
  obtain ⟨te, pe, hv⟩ := h.syn
  exact ⟨h.pk.below hb, te, pe, cell_later hb hv⟩
theorem Rd.f {w : World} (h : Rd w) {b o n : Nat} (ht : (b, o, n) ∈ fieldTab) : w.cell? ⟨b, 0, none⟩ = some (.int .i64 (o : Nat)) ∧ w.cell? ⟨b, 1, none⟩ = some (.int .i64 (n : Nat)) := h.pk.f ht
theorem text_rd (b o n : Nat) (xs : List UInt8) (w : World) (hk : Blk w b xs) (hR : Rd w) (h : o + n ≤ 512) (h0 : 0 < n) :
    Calls Tryz.prog 140 #[.pointer (some ⟨b, 0, none⟩), .agg #[.int .i64 (o : Nat), .int .i64 (n : Nat)]] w fun ev w' => ∃ s : ByteArray, ev = .returned (.string s) ∧ Hid (s = bt (upN (fldL xs o n)) ∧ s.size ≤ n) ∧ Below w.heap.size w w' := by
  obtain ⟨m, hm⟩ := hR.pk.max
  refine (text_any b o n xs m w hk h h0 hm).mono ?_
  rintro e w' ⟨s, rfl, HS, hb⟩
  exact ⟨s, rfl, hide ⟨unhide HS, by rw [unhide HS, bt_size]; exact Nat.le_trans (upN_len _) (fld_le _ _ _)⟩, hb⟩
theorem number_rd (b o n : Nat) (xs : List UInt8) (w : World) (hk : Blk w b xs) (hR : Rd w) (h : o + n ≤ 512) (h0 : 0 < n) (h12 : n ≤ 12) :
    Calls Tryz.prog 111 #[.pointer (some ⟨b, 0, none⟩), .agg #[.int .i64 (o : Nat), .int .i64 (n : Nat)]] w fun ev w' => ∃ v : Int, ev = .returned (.int .i64 v) ∧ Hid (NumIs (upN (fldL xs o n)) v) ∧ Below w.heap.size w w' := by
  obtain ⟨m, hm⟩ := hR.pk.max
  obtain ⟨te, pe, hv⟩ := hR.syn
  exact number_any b o n xs m te pe w hk h h0 h12 hm hv
theorem Blk.drew {w : World} {b : Nat} {xs : List UInt8} (h : Blk w b xs) : Blk w.drew b xs := h
theorem Rd.drew {w : World} (h : Rd w) : Rd w.drew := h.below ⟨rfl, rfl, rfl, Nat.le_refl _, fun _ _ => rfl⟩
theorem nm_sizes {sa sn s : ByteArray} (ha : sa.size ≤ 155) (hn : sn.size ≤ 100) (h : s = bt (inL sa.data.toList sn.data.toList)) : s.size ≤ 256 := by
  rw [Lib.size_eq] at ha hn
  rw [h, bt_size, inL]
  split
  · omega
  · rw [List.length_append, List.length_cons]; omega
theorem below_z4 {w w5 : World} {v0 v1 v2 v3 : Value} (h : Below w.heap.size w w5) : Below w.heap.size w ((((w5.setCell ⟨w.heap.size, 0, none⟩ v0).setCell ⟨w.heap.size, 1, none⟩ v1).setCell ⟨w.heap.size, 2, none⟩ v2).setCell ⟨w.heap.size, 3, none⟩ v3) :=
  (((h.setCell (p := ⟨w.heap.size, 0, none⟩) (Nat.le_refl _) _).setCell (p := ⟨w.heap.size, 1, none⟩) (Nat.le_refl _) _).setCell (p := ⟨w.heap.size, 2, none⟩) (Nat.le_refl _) _).setCell (p := ⟨w.heap.size, 3, none⟩) (Nat.le_refl _) _
theorem below_q {w w5 : World} {g k : Nat} {v0 : Value} (h : Below w.heap.size w w5) (hg : w.heap.size < g) : Below w.heap.size w (w5.setCell ⟨g, k, none⟩ v0) :=
  h.setCell (p := ⟨g, k, none⟩) (Nat.le_of_lt hg) _
set_option maxHeartbeats 2000000 in
set_option maxRecDepth 10000 in
theorem change_any (b : Nat) (xs : List UInt8) (w : World) (hk : Blk w b xs) (hR : Rd w) :
    Calls Tryz.prog 110 #[.pointer (some ⟨b, 0, none⟩)] w fun ev w' => ∃ c : Ent, ev = .returned (.agg #[.string c.path, .int .i64 c.kind, .int .i64 c.mode, .string c.data]) ∧ Hid (ChgIs xs c) ∧ Below w.heap.size w w' := by
  obtain ⟨W0, hW0⟩ : ∃ W0, W0 = w.alloc (.cells #[.string ⟨#[]⟩, .int .i64 0, .int .i64 0, .string ⟨#[]⟩] 37) := ⟨_, rfl⟩
  have hB0 : Below w.heap.size w W0 := by rw [hW0]; exact (Below.refl _ _).alloc (Nat.le_refl _) _
  have hq0 : W0.heap[w.heap.size]? = some (.cells #[.string ⟨#[]⟩, .int .i64 0, .int .i64 0, .string ⟨#[]⟩] 37 (0, 0)) := by rw [hW0]; exact heap_alloc_new _ _
  have hR0 := hR.below hB0
  obtain ⟨a0, a1⟩ := hR0.f (b := 9) (o := 345) (n := 155) (by decide)
  obtain ⟨n0, n1⟩ := hR0.f (b := 10) (o := 0) (n := 100) (by decide)
  have HK0 := hide (hk.below hB0)
  have HR0 := hide hR0
  have HQ0 := hide hq0
  clear hk hR hR0 hq0
  go_enter Tryz.func110, Tryz.ntmps110
  go_upto_region 1 with fail
  rw [← hW0]
  clear hW0
  go_region_held3 (fun w' => w'.cell? ⟨9, 0, none⟩ = some (.int .i64 345) ∧ w'.cell? ⟨9, 1, none⟩ = some (.int .i64 155) ∧ w'.cell? ⟨10, 0, none⟩ = some (.int .i64 0) ∧ w'.cell? ⟨10, 1, none⟩ = some (.int .i64 100))
    (first | exact ⟨a0, a1, n0, n1⟩ | exact ⟨c0, c1, m0, m1⟩ | exact ⟨d0, d1, e0, e1⟩ | go_keep)
    (first
      | (go_at_call_of 140 (Value.int IntKind.i64 345); refine (text_rd b 345 155 xs _ ?_ ?_ ?_ ?_).mono ?_; (exact (unhide HK0).drew); (exact (unhide HR0).drew); omega; omega; rintro ev w1 ⟨sa, rfl, HSA, hb1⟩; have c0 := cell_later (chain0 hb1) a0; have c1 := cell_later (chain0 hb1) a1; have m0 := cell_later (chain0 hb1) n0; have m1 := cell_later (chain0 hb1) n1)
      | (go_at_call_of 140 (Value.int IntKind.i64 0); refine (text_rd b 0 100 xs _ ?_ ?_ ?_ ?_).mono ?_; (exact (unhide HK0).below (chain0 hb1)); (exact (unhide HR0).below (chain0 hb1)); omega; omega; rintro ev w2 ⟨sn, rfl, HSN, hb2⟩; have d0 := cell_later hb2 c0; have d1 := cell_later hb2 c1; have e0 := cell_later hb2 m0; have e1 := cell_later hb2 m1)
      | (go_at_call 139; refine (joined_name sa sn _ ?_ ?_).mono ?_; (have := (unhide HSA).2; omega); (have := (unhide HSN).2; omega); rintro ev w3 ⟨s, rfl, HS, hw⟩; obtain rfl := hw.symm))
  have hB2 : Below w.heap.size w w2 := hB0.trans (((chain0 hb1).trans (hb2.mono (chain0 hb1).size)).mono hB0.size)
  have hB02 : Below W0.heap.size W0 w2 := (chain0 hb1).trans (hb2.mono (chain0 hb1).size)
  have HNm : Hid (s = bt (nmL xs)) := hide (by rw [unhide HS, (unhide HSA).1, (unhide HSN).1, bt_list, bt_list]; rfl)
  have hsz : s.size ≤ 256 := nm_sizes (unhide HSA).2 (unhide HSN).2 (unhide HS)
  have HK2 := hide ((unhide HK0).below hB02)
  have hR2 := (unhide HR0).below hB02
  have HQ2 := hide (keepC_below hB02 _ _ _ _ (unhide HQ0))
  have p0 : w2.cell? ⟨1, 0, none⟩ = some (.int .i64 100) := (hR2.f (b := 1) (o := 100) (n := 8) (by decide)).1
  have p1 : w2.cell? ⟨1, 1, none⟩ = some (.int .i64 8) := (hR2.f (b := 1) (o := 100) (n := 8) (by decide)).2
  have HR2 := hide hR2
  clear hR2 HK0 HR0 HQ0 HSA HSN HS hb1 hb2 hB02 a0 a1 n0 n1 c0 c1 m0 m1 d0 d1 e0 e1 hB0
  go_upto_region 3 with (go_at_call 111; refine (number_rd b 100 8 xs w2 (unhide HK2) (unhide HR2) (by omega) (by omega) (by omega)).mono ?_; rintro ev w3 ⟨v, rfl, HV, hb3⟩)
  obtain ⟨W3, hW3⟩ : ∃ W3, W3 = w3.alloc (.cells #[.string ⟨#[]⟩, .int .i64 0, .int .i64 v, .string ⟨#[]⟩] 37) := ⟨_, rfl⟩
  rw [← hW3]
  have hB3 : Below w3.heap.size w3 W3 := by rw [hW3]; exact (Below.refl _ _).alloc (Nat.le_refl _) _
  have hB23 : Below w2.heap.size w2 W3 := hb3.trans (hB3.mono hb3.size)
  have hq3 : W3.heap[w3.heap.size]? = some (.cells #[.string ⟨#[]⟩, .int .i64 0, .int .i64 v, .string ⟨#[]⟩] 37 (0, 0)) := by rw [hW3]; exact heap_alloc_new _ _
  have HQ3 := hide hq3
  have HK3 := hide ((unhide HK2).below hB23)
  have hR3 := (unhide HR2).below hB23
  have HZ3 := hide (keepC_below hB23 _ _ _ _ (unhide HQ2))
  have p0 : W3.cell? ⟨11, 0, none⟩ = some (.int .i64 156) := (hR3.f (b := 11) (o := 156) (n := 1) (by decide)).1
  have p1 : W3.cell? ⟨11, 1, none⟩ = some (.int .i64 1) := (hR3.f (b := 11) (o := 156) (n := 1) (by decide)).2
  have HR3 := hide hR3
  have hB3w : Below w.heap.size w W3 := hB2.trans (hB23.mono hB2.size)
  have hlt0 : w.heap.size < w3.heap.size := Nat.lt_of_lt_of_le (Array.getElem?_eq_some_iff.1 (unhide HQ2)).1 hb3.size
  clear hR3 HK2 HR2 HQ2 hb3 hB23 hq3 hW3 hB3 hB2
  go_upto_region 4 with (go_at_call 140; refine (text_rd b 156 1 xs W3 (unhide HK3) (unhide HR3) (by omega) (by omega)).mono ?_; rintro ev w4 ⟨kt, rfl, HKT, hb4⟩)
  have hkl : kt.data.toList = upN (fldL xs 156 1) := by rw [(unhide HKT).1, bt_list]
  have hq := keepC_below hb4 _ _ _ _ (unhide HQ3)
  have hz := keepC_below hb4 _ _ _ _ (unhide HZ3)
  have q0 : w4.cell? ⟨w3.heap.size, 0, none⟩ = some (.string ⟨#[]⟩) := cell_of_row _ _ 0 _ _ _ hq
  have q1 : w4.cell? ⟨w3.heap.size, 1, none⟩ = some (.int .i64 0) := cell_of_row _ _ 1 _ _ _ hq
  have q2 : w4.cell? ⟨w3.heap.size, 2, none⟩ = some (.int .i64 v) := cell_of_row _ _ 2 _ _ _ hq
  have q3 : w4.cell? ⟨w3.heap.size, 3, none⟩ = some (.string ⟨#[]⟩) := cell_of_row _ _ 3 _ _ _ hq
  have f0 := frz hq 0
  have f1 := frz hq 1
  have f2 := frz hq 2
  have f3 := frz hq 3
  have z0 : w4.cell? ⟨w.heap.size, 0, none⟩ = some (.string ⟨#[]⟩) := cell_of_row _ _ 0 _ _ _ hz
  have z1 : w4.cell? ⟨w.heap.size, 1, none⟩ = some (.int .i64 0) := cell_of_row _ _ 1 _ _ _ hz
  have z2 : w4.cell? ⟨w.heap.size, 2, none⟩ = some (.int .i64 0) := cell_of_row _ _ 2 _ _ _ hz
  have z3 : w4.cell? ⟨w.heap.size, 3, none⟩ = some (.string ⟨#[]⟩) := cell_of_row _ _ 3 _ _ _ hz
  have y0 := frz hz 0
  have y1 := frz hz 1
  have y2 := frz hz 2
  have y3 := frz hz 3
  have hB4 : Below w.heap.size w w4 := hB3w.trans (hb4.mono hB3w.size)
  have hne : w3.heap.size ≠ w.heap.size := by omega
  have hne2 : w.heap.size ≠ w3.heap.size := by omega
  have HKL := hide hkl
  have HHq := hide hq
  have HHz := hide hz
  clear hkl hq hz HQ3 HZ3 p0 p1
  by_cases k5 : upN (fldL xs 156 1) = [53]
  · have g1 : (kt.toList == [53]) = true := by rw [Lib.toList_data, unhide HKL, k5]; decide
    have HC : Hid (chgL xs = (Lib.trimSuffix (nmL xs) [47], 1, [])) := hide (by rw [chgL, if_pos k5])
    clear k5
    go_wp2_with (go_at_call 141; refine (dirPath_any s w4 (by omega)).mono ?_; rintro ev w5 ⟨t, rfl, HT, hw⟩; obtain rfl := hw.symm)
    refine bodyPost_ret (v := .agg #[.string t, .int .i64 1, .int .i64 v, .string ⟨#[]⟩]) (by simp [results, Tryz.results110, go_sem, z0, z1, z2, z3]) rfl ⟨⟨t, 1, v, ⟨#[]⟩⟩, rfl, hide ⟨?_, ?_, ?_, unhide HV⟩, below_z4 (below_q (below_q hB4 hlt0) hlt0)⟩
    · rw [unhide HC]; show t = _; rw [unhide HT, unhide HNm, bt_list]
    · rw [unhide HC]
    · rw [unhide HC]; rfl
  · have g1 : (kt.toList == [53]) = false := by rw [Lib.toList_data, unhide HKL]; simpa using k5
    by_cases k2 : upN (fldL xs 156 1) = [50]
    · have g2 : (kt.toList == [50]) = true := by rw [Lib.toList_data, unhide HKL, k2]; decide
      have HC : Hid (chgL xs = (nmL xs, 3, upN (fldL xs 157 100))) := hide (by rw [chgL, if_neg k5, if_pos k2])
      have hR4 := (unhide HR3).below hb4
      have p0 : w4.cell? ⟨12, 0, none⟩ = some (.int .i64 157) := (hR4.f (b := 12) (o := 157) (n := 100) (by decide)).1
      have p1 : w4.cell? ⟨12, 1, none⟩ = some (.int .i64 100) := (hR4.f (b := 12) (o := 157) (n := 100) (by decide)).2
      have HT4 := hide (text_rd b 157 100 xs w4 ((unhide HK3).below hb4) hR4 (by omega) (by omega))
      clear k5 k2 hR4
      go_wp2_with (go_at_call 140; refine (unhide HT4).mono ?_; rintro ev w5 ⟨t, rfl, HT, hb5⟩; have hq := keepC_below hb5 _ _ _ _ (unhide HHq); have hz := keepC_below hb5 _ _ _ _ (unhide HHz); have q0 : w5.cell? ⟨w3.heap.size, 0, none⟩ = some (.string ⟨#[]⟩) := cell_of_row _ _ 0 _ _ _ hq; have q1 : w5.cell? ⟨w3.heap.size, 1, none⟩ = some (.int .i64 0) := cell_of_row _ _ 1 _ _ _ hq; have q2 : w5.cell? ⟨w3.heap.size, 2, none⟩ = some (.int .i64 v) := cell_of_row _ _ 2 _ _ _ hq; have q3 : w5.cell? ⟨w3.heap.size, 3, none⟩ = some (.string ⟨#[]⟩) := cell_of_row _ _ 3 _ _ _ hq; have f0 := frz hq 0; have f1 := frz hq 1; have f2 := frz hq 2; have f3 := frz hq 3; have z0 : w5.cell? ⟨w.heap.size, 0, none⟩ = some (.string ⟨#[]⟩) := cell_of_row _ _ 0 _ _ _ hz; have z1 : w5.cell? ⟨w.heap.size, 1, none⟩ = some (.int .i64 0) := cell_of_row _ _ 1 _ _ _ hz; have z2 : w5.cell? ⟨w.heap.size, 2, none⟩ = some (.int .i64 0) := cell_of_row _ _ 2 _ _ _ hz; have z3 : w5.cell? ⟨w.heap.size, 3, none⟩ = some (.string ⟨#[]⟩) := cell_of_row _ _ 3 _ _ _ hz; have y0 := frz hz 0; have y1 := frz hz 1; have y2 := frz hz 2; have y3 := frz hz 3; have hB5 := hB4.trans (hb5.mono hB4.size); clear hq hz)
      refine bodyPost_ret (v := .agg #[.string s, .int .i64 3, .int .i64 v, .string t]) (by simp [results, Tryz.results110, go_sem, z0, z1, z2, z3]) rfl ⟨⟨s, 3, v, t⟩, rfl, hide ⟨?_, ?_, ?_, unhide HV⟩, below_z4 (below_q (below_q (below_q hB5 hlt0) hlt0) hlt0)⟩
      · rw [unhide HC]; exact unhide HNm
      · rw [unhide HC]
      · rw [unhide HC]; exact (unhide HT).1
    · have g2 : (kt.toList == [50]) = false := by rw [Lib.toList_data, unhide HKL]; simpa using k2
      by_cases k0 : upN (fldL xs 156 1) = [48]
      · have g3 : (kt.toList == [48]) = true := by rw [Lib.toList_data, unhide HKL, k0]; decide
        have HC : Hid (chgL xs = ((unmL (nmL xs)).1, (unmL (nmL xs)).2, [])) := hide (by rw [chgL, if_neg k5, if_neg k2, if_pos k0])
        have HU := hide (unmarked_any s w4 (by omega))
        clear k5 k2 k0
        go_wp2_with (go_at_call 142; refine (unhide HU).mono ?_; rintro ev w5 ⟨t, k, rfl, HT, hb5⟩; have hq := keepC_below hb5 _ _ _ _ (unhide HHq); have hz := keepC_below hb5 _ _ _ _ (unhide HHz); have q0 : w5.cell? ⟨w3.heap.size, 0, none⟩ = some (.string ⟨#[]⟩) := cell_of_row _ _ 0 _ _ _ hq; have q1 : w5.cell? ⟨w3.heap.size, 1, none⟩ = some (.int .i64 0) := cell_of_row _ _ 1 _ _ _ hq; have q2 : w5.cell? ⟨w3.heap.size, 2, none⟩ = some (.int .i64 v) := cell_of_row _ _ 2 _ _ _ hq; have q3 : w5.cell? ⟨w3.heap.size, 3, none⟩ = some (.string ⟨#[]⟩) := cell_of_row _ _ 3 _ _ _ hq; have f0 := frz hq 0; have f1 := frz hq 1; have f2 := frz hq 2; have f3 := frz hq 3; have z0 : w5.cell? ⟨w.heap.size, 0, none⟩ = some (.string ⟨#[]⟩) := cell_of_row _ _ 0 _ _ _ hz; have z1 : w5.cell? ⟨w.heap.size, 1, none⟩ = some (.int .i64 0) := cell_of_row _ _ 1 _ _ _ hz; have z2 : w5.cell? ⟨w.heap.size, 2, none⟩ = some (.int .i64 0) := cell_of_row _ _ 2 _ _ _ hz; have z3 : w5.cell? ⟨w.heap.size, 3, none⟩ = some (.string ⟨#[]⟩) := cell_of_row _ _ 3 _ _ _ hz; have y0 := frz hz 0; have y1 := frz hz 1; have y2 := frz hz 2; have y3 := frz hz 3; have hB5 := hB4.trans (hb5.mono hB4.size); clear hq hz)
        refine bodyPost_ret (v := .agg #[.string t, .int .i64 k, .int .i64 v, .string ⟨#[]⟩]) (by simp [results, Tryz.results110, go_sem, z0, z1, z2, z3]) rfl ⟨⟨t, k, v, ⟨#[]⟩⟩, rfl, hide ⟨?_, ?_, ?_, unhide HV⟩, below_z4 (below_q (below_q hB5 hlt0) hlt0)⟩
        · rw [unhide HC]; show t = _; rw [(unhide HT).1, unhide HNm, bt_list]
        · rw [unhide HC]; show k = _; rw [(unhide HT).2, unhide HNm, bt_list]
        · rw [unhide HC]; rfl
      · have g3 : (kt.toList == [48]) = false := by rw [Lib.toList_data, unhide HKL]; simpa using k0
        have HC : Hid (chgL xs = ([], 0, [])) := hide (by rw [chgL, if_neg k5, if_neg k2, if_neg k0])
        clear k5 k2 k0
        go_wp2_with fail
        refine bodyPost_ret (v := .agg #[.string ⟨#[]⟩, .int .i64 0, .int .i64 v, .string ⟨#[]⟩]) (by simp [results, Tryz.results110, go_sem, z0, z1, z2, z3]) rfl ⟨⟨⟨#[]⟩, 0, v, ⟨#[]⟩⟩, rfl, hide ⟨?_, ?_, ?_, unhide HV⟩, below_z4 hB4⟩
        · rw [unhide HC]; rfl
        · rw [unhide HC]
        · rw [unhide HC]; rfl
end Go.Proofs.YtjofjcjojgpaeaaGreatDoor
