import Derived.Test.YtjofjcjojgpaeaaGreatDoorJOctA
namespace Go.Proofs.YtjofjcjojgpaeaaGreatDoor
open Go.RowKit

/-- What a header's makers ask of the world. -/
structure Pk (w : World) : Prop where
  flds : Flds w
  bru : w.cell? ⟨21, 7, none⟩ = some (.int .u8 3)
  max : ∃ m : Int, w.cell? ⟨14, 0, none⟩ = some (.int .i64 m)
theorem Pk.below {w w' : World} (h : Pk w) (hb : Below w.heap.size w w') : Pk w' := by
  obtain ⟨m, hm⟩ := h.max
  exact ⟨h.flds.below hb, cell_later hb h.bru, m, cell_later hb hm⟩
theorem Pk.grown {w w' : World} {b : Nat} (h : Pk w) (hg : w.grownBy w' (some b)) (hb : 21 < b) : Pk w' := by
  obtain ⟨m, hm⟩ := h.max
  exact ⟨h.flds.grown hg (by omega), cell_grown hg h.bru (by show 21 ≠ b; omega), m, cell_grown hg hm (by show 14 ≠ b; omega)⟩
theorem Pk.f {w : World} (h : Pk w) {b o n : Nat} (ht : (b, o, n) ∈ fieldTab) : w.cell? ⟨b, 0, none⟩ = some (.int .i64 (o : Nat)) ∧ w.cell? ⟨b, 1, none⟩ = some (.int .i64 (n : Nat)) := h.flds.at ht
theorem over_len {s : ByteArray} {X : List UInt8} {n : Nat} (hX : X.length = n) (hs : s.size ≤ n) : (s.data.toList ++ X.drop s.size).length = n := by
  rw [List.length_append, List.length_drop, ← Lib.size_eq]; omega
set_option maxHeartbeats 1000000 in
set_option maxRecDepth 10000 in
theorem setName_any (h : Hd) (ok : HdOk h) (l : List UInt8) (b : Nat) (w : World) (hk : Blk w b (hdB h)) (hP : Pk w) (hb : 21 < b) (hl : l.length ≤ 1048576) (hp : l.length ≤ 100 ∨ ∃ i, slashFrom l (l.length - 101) = some i) (hr : (partL l).2.length ≤ 100) (ha : (partL l).1.length ≤ 155) :
    Calls Tryz.prog 103 #[.pointer (some ⟨b, 0, none⟩), .string (bt l)] w fun ev w' => ev = .returned (.tuple #[]) ∧ Hid (Blk w' b (hdB { h with ah := (partL l).1 ++ h.ah.drop (partL l).1.length, nm := (partL l).2 ++ h.nm.drop (partL l).2.length })) ∧ w.grownBy w' (some b) := by
  obtain ⟨mx, hm⟩ := hP.max
  have hQ := parted_any l mx w hl hP.flds hm hp
  have HK := hide hk
  have HP := hide hP
  clear hk hP hm hp
  go_enter Tryz.func103, Tryz.ntmps103
  go_upto_region 1 with (go_at_call 132; refine hQ.mono ?_; clear hQ; rintro ev w1 ⟨rfl, hb1⟩)
  obtain ⟨sa, hsa⟩ : ∃ sa, sa = bt (partL l).1 := ⟨_, rfl⟩
  obtain ⟨sr, hsr⟩ : ∃ sr, sr = bt (partL l).2 := ⟨_, rfl⟩
  rw [← hsa, ← hsr]
  have haz : sa.size = (partL l).1.length := by rw [hsa, bt_size]
  have hrz : sr.size = (partL l).2.length := by rw [hsr, bt_size]
  have hP1 := (unhide HP).below hb1
  have f0 : w1.cell? ⟨9, 0, none⟩ = some (.int .i64 345) := (hP1.f (b := 9) (o := 345) (n := 155) (by decide)).1
  have f1 : w1.cell? ⟨9, 1, none⟩ = some (.int .i64 155) := (hP1.f (b := 9) (o := 345) (n := 155) (by decide)).2
  have hT := txt_ah h ok sa b w1 ((unhide HK).below hb1) (by omega)
  have HP1 := hide hP1
  have HSA := hide hsa
  have HSR := hide hsr
  have HAZ := hide haz
  have HRZ := hide hrz
  have hr2 : sr.size ≤ 100 := by omega
  clear hP1 hsa hsr haz hrz
  go_upto_region 2 with (go_at_call 107; refine hT.mono ?_; clear hT; rintro ev w2 ⟨rfl, HB2, hg2⟩)
  have hP2 := (unhide HP1).grown hg2 hb
  have g0 : w2.cell? ⟨10, 0, none⟩ = some (.int .i64 0) := (hP2.f (b := 10) (o := 0) (n := 100) (by decide)).1
  have g1 : w2.cell? ⟨10, 1, none⟩ = some (.int .i64 100) := (hP2.f (b := 10) (o := 0) (n := 100) (by decide)).2
  have ok2 : HdOk { h with ah := sa.data.toList ++ h.ah.drop sa.size } := { ok with ah := over_len ok.ah (by have := unhide HAZ; omega) }
  have hT2 := txt_nm _ ok2 sr b w2 (unhide HB2) hr2
  clear hP2 f0 f1
  go_wp2_with (go_at_call 107; refine hT2.mono ?_; clear hT2; rintro ev w3 ⟨rfl, HB3, hg3⟩)
  go_end0
  refine ⟨rfl, hide ?_, grown_trans (grown_below hb1) (grown_trans hg2 hg3)⟩
  have h9 := unhide HB3
  rw [show sa.data.toList = (partL l).1 by rw [unhide HSA, bt_list], show sr.data.toList = (partL l).2 by rw [unhide HSR, bt_list], unhide HAZ, unhide HRZ] at h9
  exact h9
/-- What a kind alone has. -/
def kindH (h : Hd) (c : Ent) : Hd :=
  if c.kind = 1 then { h with kd := [53] }
  else if c.kind = 3 then { h with lk := c.data.data.toList ++ h.lk.drop c.data.size, kd := [50] }
  else if c.kind = 2 then { h with sz := digL c.data.size 11, kd := [48] }
  else { h with kd := [48] }
theorem kd_one {h : Hd} (ok : HdOk h) (x : UInt8) : (⟨#[x]⟩ : ByteArray).data.toList ++ h.kd.drop (⟨#[x]⟩ : ByteArray).size = [x] := by
  rw [List.drop_of_length_le (by rw [ok.kd]; exact Nat.le_refl _)]; rfl
set_option maxHeartbeats 1000000 in
set_option maxRecDepth 10000 in
theorem setKind_any (h : Hd) (ok : HdOk h) (c : Ent) (b : Nat) (w : World) (hk : Blk w b (hdB h)) (hP : Pk w) (hb : 21 < b) (hkd : c.kind = 1 ∨ c.kind = 2 ∨ c.kind = 3 ∨ c.kind = 4 ∨ c.kind = 5) (hl : c.kind = 3 → c.data.size ≤ 100) (hf : c.kind = 2 → c.data.size ≤ 4096) :
    Calls Tryz.prog 106 #[.pointer (some ⟨b, 0, none⟩), .agg #[.string c.path, .int .i64 c.kind, .int .i64 c.mode, .string c.data]] w fun ev w' => ev = .returned (.tuple #[]) ∧ Hid (Blk w' b (hdB (kindH h c))) ∧ w.grownBy w' (some b) := by
  have hbl : b < w.heap.size := (Array.getElem?_eq_some_iff.1 hk.1).1
  obtain ⟨W0, hW0⟩ : ∃ W0, W0 = w.alloc (.cells #[.string c.path, .int .i64 c.kind, .int .i64 c.mode, .string c.data] 37) := ⟨_, rfl⟩
  have hB0 : Below w.heap.size w W0 := by rw [hW0]; exact (Below.refl _ _).alloc (Nat.le_refl _) _
  have q1 : W0.cell? ⟨w.heap.size, 1, none⟩ = some (.int .i64 c.kind) := by rw [hW0]; exact cell_of_row _ _ 1 _ _ _ (heap_alloc_new _ _)
  have q3 : W0.cell? ⟨w.heap.size, 3, none⟩ = some (.string c.data) := by rw [hW0]; exact cell_of_row _ _ 3 _ _ _ (heap_alloc_new _ _)
  have hk0 := hk.below hB0
  have hP0 := hP.below hB0
  have f0 : W0.cell? ⟨11, 0, none⟩ = some (.int .i64 156) := (hP0.f (b := 11) (o := 156) (n := 1) (by decide)).1
  have f1 : W0.cell? ⟨11, 1, none⟩ = some (.int .i64 1) := (hP0.f (b := 11) (o := 156) (n := 1) (by decide)).2
  have HK0 := hide hk0
  have HP0 := hide hP0
  have hne : w.heap.size ≠ b := by omega
  clear hk hP hk0 hP0
  go_enter Tryz.func106, Tryz.ntmps106
  go_upto_region 1 with fail
  rw [← hW0]
  clear hW0
  by_cases h1 : c.kind = 1
  · have HF : Hid (kindH h c = { h with kd := [53] }) := hide (by rw [kindH, if_pos h1])
    have hT := txt_kd h ok ⟨#[53]⟩ b W0 (unhide HK0) (by decide)
    rw [kd_one ok] at hT
    rw [h1] at q1
    clear h1 hkd hl hf
    go_wp2_with (go_at_call 107; refine hT.mono ?_; clear hT; rintro ev w2 ⟨rfl, HB2, hg2⟩)
    go_end0
    exact ⟨rfl, hide (by rw [unhide HF]; exact unhide HB2), grown_trans (grown_below hB0) hg2⟩
  · have h1' : (c.kind == 1) = false := by simp [h1]
    by_cases h3 : c.kind = 3
    · have HF : Hid (kindH h c = { h with lk := c.data.data.toList ++ h.lk.drop c.data.size, kd := [50] }) := hide (by rw [kindH, if_neg h1, if_pos h3])
      have hd := hl h3
      have g0 : W0.cell? ⟨12, 0, none⟩ = some (.int .i64 157) := ((unhide HP0).f (b := 12) (o := 157) (n := 100) (by decide)).1
      have g1 : W0.cell? ⟨12, 1, none⟩ = some (.int .i64 100) := ((unhide HP0).f (b := 12) (o := 157) (n := 100) (by decide)).2
      have hT := txt_lk h ok c.data b W0 (unhide HK0) hd
      have ok2 : HdOk { h with lk := c.data.data.toList ++ h.lk.drop c.data.size } := { ok with lk := over_len ok.lk hd }
      have hT2 := fun w2 hk2 => txt_kd _ ok2 ⟨#[50]⟩ b w2 hk2 (by decide)
      rw [h3] at q1
      clear h1 h3 h1' hkd hl hf
      go_wp2_with (first
        | (go_at_call_of 107 (Value.string c.data); refine hT.mono ?_; clear hT; rintro ev w2 ⟨rfl, HB2, hg2⟩; have f0 := cell_grown hg2 f0 (by show 11 ≠ b; omega); have f1 := cell_grown hg2 f1 (by show 11 ≠ b; omega))
        | (go_at_call 107; refine (hT2 w2 (unhide HB2)).mono ?_; rintro ev w3 ⟨rfl, HB3, hg3⟩))
      go_end0
      refine ⟨rfl, hide ?_, grown_trans (grown_below hB0) (grown_trans hg2 hg3)⟩
      rw [unhide HF]
      have h9 := unhide HB3
      rw [kd_one ok2] at h9
      exact h9
    · have h3' : (c.kind == 3) = false := by simp [h3]
      by_cases h2 : c.kind = 2
      · have HF : Hid (kindH h c = { h with sz := digL c.data.size 11, kd := [48] }) := hide (by rw [kindH, if_neg h1, if_neg h3, if_pos h2])
        have hd := hf h2
        have g0 : W0.cell? ⟨4, 0, none⟩ = some (.int .i64 124) := ((unhide HP0).f (b := 4) (o := 124) (n := 12) (by decide)).1
        have g1 : W0.cell? ⟨4, 1, none⟩ = some (.int .i64 12) := ((unhide HP0).f (b := 4) (o := 124) (n := 12) (by decide)).2
        have hT := num_sz h ok c.data.size b W0 (unhide HK0) (by omega) (unhide HP0).bru
        have ok2 : HdOk { h with sz := digL c.data.size 11 } := { ok with sz := digL_len (by have := octL_lt 4 c.data.size (by simp; omega); omega) }
        have hT2 := fun w2 hk2 => txt_kd _ ok2 ⟨#[48]⟩ b w2 hk2 (by decide)
        rw [h2] at q1
        clear h1 h3 h1' h3' h2 hkd hl hf
        go_wp2_with (first
          | (go_at_call 105; refine hT.mono ?_; clear hT; rintro ev w2 ⟨rfl, HB2, hg2⟩; have f0 := cell_grown hg2 f0 (by show 11 ≠ b; omega); have f1 := cell_grown hg2 f1 (by show 11 ≠ b; omega))
          | (go_at_call 107; refine (hT2 w2 (unhide HB2)).mono ?_; rintro ev w3 ⟨rfl, HB3, hg3⟩))
        go_end0
        refine ⟨rfl, hide ?_, grown_trans (grown_below hB0) (grown_trans hg2 hg3)⟩
        rw [unhide HF]
        have h9 := unhide HB3
        rw [kd_one ok2] at h9
        exact h9
      · have HF : Hid (kindH h c = { h with kd := [48] }) := hide (by rw [kindH, if_neg h1, if_neg h3, if_neg h2])
        have hT := txt_kd h ok ⟨#[48]⟩ b W0 (unhide HK0) (by decide)
        rw [kd_one ok] at hT
        have h45 : c.kind = 4 ∨ c.kind = 5 := by omega
        rcases h45 with h4 | h4
        all_goals
          rw [h4] at q1
          clear h1 h3 h2 h1' h3' hkd hl hf h4
          go_wp2_with (go_at_call 107; refine hT.mono ?_; clear hT; rintro ev w2 ⟨rfl, HB2, hg2⟩)
          go_end0
          exact ⟨rfl, hide (by rw [unhide HF]; exact unhide HB2), grown_trans (grown_below hB0) hg2⟩
end Go.Proofs.YtjofjcjojgpaeaaGreatDoor

namespace Go.Proofs.YtjofjcjojgpaeaaGreatDoor
open Go.RowKit

def blankH (h : Hd) : Hd := { h with ck := List.replicate 8 32 }
def checkH (h : Hd) : Hd := { h with ck := digL (sumL (hdB (blankH h))) 6 ++ [32] }
theorem blk_cell {w : World} {b : Nat} {xs : List UInt8} (h : Blk w b xs) {k : Nat} (hk : k < xs.length) : w.cell? ⟨b, k, none⟩ = some (.int .u8 (xs[k].toNat : Int)) := by
  refine (cell_of_row _ _ k _ _ _ h.1).trans ?_
  rw [List.getElem?_toArray, Lib.byteCells, List.getElem?_map, List.getElem?_eq_getElem hk]; rfl
theorem check_eq (h : Hd) (x : List UInt8) (y : UInt8) : hdB { h with ck := x ++ [y] } = (h.nm ++ h.md ++ h.us ++ h.gr ++ h.sz ++ h.tm) ++ x ++ ([y] ++ (h.kd ++ h.lk ++ h.mg ++ h.nn ++ h.d1 ++ h.d2 ++ h.ah ++ h.en)) := by
  simp [hdB, List.append_assoc]
set_option maxHeartbeats 1000000 in
set_option maxRecDepth 10000 in
theorem setCheck_any (h : Hd) (ok : HdOk h) (b : Nat) (w : World) (hk : Blk w b (hdB h)) (hP : Pk w) (hb : 21 < b) :
    Calls Tryz.prog 108 #[.pointer (some ⟨b, 0, none⟩)] w fun ev w' => ev = .returned (.tuple #[]) ∧ Hid (Blk w' b (hdB (checkH h))) ∧ w.grownBy w' (some b) := by
  have f0 : w.cell? ⟨13, 0, none⟩ = some (.int .i64 148) := (hP.f (b := 13) (o := 148) (n := 8) (by decide)).1
  have f1 : w.cell? ⟨13, 1, none⟩ = some (.int .i64 8) := (hP.f (b := 13) (o := 148) (n := 8) (by decide)).2
  have HK := hide hk
  have HP := hide hP
  obtain ⟨bl, hbl⟩ : ∃ bl, bl = bt (List.replicate 8 32) := ⟨_, rfl⟩
  have hblz : bl.size = 8 := by rw [hbl, bt_size]; rfl
  have hRp : ∀ w0 : World, Calls Tryz.prog 109 #[.string ⟨#[32]⟩, .int .i64 8] w0 fun ev w' => ev = .returned (.string bl) ∧ Below w0.heap.size w0 w' := fun w0 => by
    rw [hbl]; exact repeat_any 32 8 w0 (by omega)
  have HRp := hide hRp
  have HBL := hide hbl
  clear hk hP hbl hRp
  go_enter Tryz.func108, Tryz.ntmps108
  go_upto_region 0 with fail
  go_region_held3 (fun w' => w'.cell? ⟨13, 0, none⟩ = some (.int .i64 148) ∧ w'.cell? ⟨13, 1, none⟩ = some (.int .i64 8)) (first | (with_reducible exact ⟨f0, f1⟩) | (with_reducible exact ⟨p0, p1⟩) | (with_reducible exact ⟨r0, r1⟩) | go_keep)
    (first
      | (go_at_call 109; refine (unhide HRp _).mono ?_; rintro ev w1 ⟨rfl, hb1⟩; have p0 := cell_later (chain0 hb1) f0; have p1 := cell_later (chain0 hb1) f1)
      | (go_at_call 107; refine (txt_ck h ok bl b w1 ((unhide HK).below (chain0 hb1)) (by omega)).mono ?_; rintro ev w2 ⟨rfl, HB2, hg2⟩; have r0 := cell_grown hg2 p0 (by show 13 ≠ b; omega); have r1 := cell_grown hg2 p1 (by show 13 ≠ b; omega)))
  have HB3 : Hid (Blk w2 b (hdB (blankH h))) := hide (by
    have h9 := unhide HB2
    rw [hblz, List.drop_of_length_le (by rw [ok.ck]; exact Nat.le_refl _), List.append_nil, unhide HBL, bt_list] at h9
    exact h9)
  obtain ⟨xs, hxs⟩ : ∃ xs, xs = hdB (blankH h) := ⟨_, rfl⟩
  have HXS := hide hxs
  rw [← hxs] at HB3
  have hxl := (unhide HB3).2
  clear HB2 hxs
  go_wp2_with fail
  go_loop [2, 15] (fun t i => ∃ k : Nat, k ≤ 512 ∧ i = .int .i64 k ∧ t = .int .i64 ((sumL (xs.take k) : Nat) : Int)) (fun _ i => 512 - (intOf i).toNat)
  case atStart => exact ⟨0, by omega, rfl, by simp [sumL]⟩
  case round =>
    obtain ⟨k, hk, rfl, rfl⟩ := hrel
    have hsl : sumL (xs.take k) ≤ 130560 := by
      have := sumL_le (xs.take k)
      rw [List.length_take] at this
      omega
    obtain ⟨t0, ht0⟩ : ∃ t0, t0 = sumL (xs.take k) := ⟨_, rfl⟩
    have ht1 : t0 ≤ 130560 := by omega
    by_cases hlt : k < 512
    · have hkl : k < xs.length := by omega
      have hc := blk_cell (unhide HB3) hkl
      obtain ⟨y, hy, hy2⟩ : ∃ y : Nat, y = xs[k].toNat ∧ y < 256 := ⟨_, rfl, xs[k].toNat_lt⟩
      rw [← hy] at hc
      have HSt : Hid (sumL (xs.take (k + 1)) = t0 + y) := hide (by rw [sumL_take hkl, ht0, hy])
      have k0 : (0 : Int) ≤ (k : Int) := by omega
      have k1 : (k : Int) < 512 := by omega
      rw [← ht0]
      clear ht0 hsl hy hkl hxl
      go_wp2
      go_round
      case rel => exact ⟨k + 1, by omega, by go_num, by rw [unhide HSt]; go_num⟩
      case measure => simp [intOf]; omega
    · have HTt : Hid (t0 = sumL xs) := hide (by rw [ht0, List.take_of_length_le (by omega)])
      rw [← ht0]
      have hcs : (octL t0).length + 1 ≤ 7 := by have := octL_lt 5 t0 (by simp; omega); omega
      have hN := setNumber_any b 148 7 t0 (h.nm ++ h.md ++ h.us ++ h.gr ++ h.sz ++ h.tm) (List.replicate 7 32) ([32] ++ (h.kd ++ h.lk ++ h.mg ++ h.nn ++ h.d1 ++ h.d2 ++ h.ah ++ h.en)) w2
        (by rw [← check_eq]; have h9 := unhide HB3; rw [unhide HXS] at h9; exact h9) (by simp [ok.nm, ok.md, ok.us, ok.gr, ok.sz, ok.tm]) (by simp) (by omega) (by omega) hcs (cell_grown hg2 (cell_later (chain0 hb1) (unhide HP).bru) (by show 21 ≠ b; omega))
      rw [← check_eq] at hN
      have k9 : ¬ (k : Int) < 512 := by omega
      clear ht0 hsl hxl hcs hk hlt
      go_wp2_with (go_at_call 105; refine hN.mono ?_; clear hN; rintro ev w3 ⟨rfl, HB4, hg3⟩)
      go_end0
      refine ⟨rfl, hide ?_, grown_trans (grown_below (chain0 hb1)) (grown_trans hg2 hg3)⟩
      have h9 := unhide HB4
      rw [unhide HTt, unhide HXS] at h9
      exact h9
end Go.Proofs.YtjofjcjojgpaeaaGreatDoor
