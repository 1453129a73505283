import Derived.Test.YtkeefkfklmhcjaaGreatDoorPckH
namespace Go.Proofs.YtkeefkfklmhcjaaGreatDoor
open Go.RowKit

def blankH (h : Hd) : Hd := { h with ck := List.replicate 8 32 }
def checkH (h : Hd) : Hd := { h with ck := digL (sumL (hdB (blankH h))) 6 ++ [32] }
theorem blk_cell {w : World} {b : Nat} {xs : List UInt8} (h : Blk w b xs) {k : Nat} (hk : k < xs.length) : w.cell? ⟨b, k, none⟩ = some (.int .u8 (xs[k].toNat : Int)) := by
  refine (cell_of_row _ _ k _ _ _ h.1).trans ?_
  rw [List.getElem?_toArray, Lib.byteCells, List.getElem?_map, List.getElem?_eq_getElem hk]; rfl
theorem check_eq (h : Hd) (x : List UInt8) (y : UInt8) : hdB { h with ck := x ++ [y] } = (h.nm ++ h.md ++ h.us ++ h.gr ++ h.sz ++ h.tm) ++ x ++ ([y] ++ (h.kd ++ h.lk ++ h.mg ++ h.nn ++ h.d1 ++ h.d2 ++ h.ah ++ h.en)) := by
  simp [hdB, List.append_assoc]
set_option maxHeartbeats 1000000 in
set_option maxRecDepth 10000 in
theorem setCheck_any (h : Hd) (ok : HdOk h) (b : Nat) (w : World) (hk : Blk w b (hdB h)) (hP : Pk w) (hb : 20 < b) :
    Calls Tryz.prog 160 #[.pointer (some ⟨b, 0, none⟩)] w fun ev w' => ev = .returned (.tuple #[]) ∧ Hid (Blk w' b (hdB (checkH h))) ∧ w.grownBy w' (some b) := by
  have f0 : w.cell? ⟨14, 0, none⟩ = some (.int .i64 148) := (hP.f (b := 14) (o := 148) (n := 8) (by decide)).1
  have f1 : w.cell? ⟨14, 1, none⟩ = some (.int .i64 8) := (hP.f (b := 14) (o := 148) (n := 8) (by decide)).2
  have HK := hide hk
  have HP := hide hP
  obtain ⟨bl, hbl⟩ : ∃ bl, bl = bt (List.replicate 8 32) := ⟨_, rfl⟩
  have hblz : bl.size = 8 := by rw [hbl, bt_size]; rfl
  have hRp : ∀ w0 : World, Calls Tryz.prog 142 #[.string ⟨#[32]⟩, .int .i64 8] w0 fun ev w' => ev = .returned (.string bl) ∧ Below w0.heap.size w0 w' := fun w0 => by
    rw [hbl]; exact repeat_any 32 8 w0 (by omega)
  have HRp := hide hRp
  have HBL := hide hbl
  clear hk hP hbl hRp
  go_enter Tryz.func160, Tryz.ntmps160
  go_upto_region 0 with fail
  go_region_held3 (fun w' => w'.cell? ⟨14, 0, none⟩ = some (.int .i64 148) ∧ w'.cell? ⟨14, 1, none⟩ = some (.int .i64 8)) (first | (with_reducible exact ⟨f0, f1⟩) | (with_reducible exact ⟨p0, p1⟩) | (with_reducible exact ⟨r0, r1⟩) | go_keep)
    (first
      | (go_at_call 142; refine (unhide HRp _).mono ?_; rintro ev w1 ⟨rfl, hb1⟩; have p0 := cell_later (chain0 hb1) f0; have p1 := cell_later (chain0 hb1) f1)
      | (go_at_call 159; refine (txt_ck h ok bl b w1 ((unhide HK).below (chain0 hb1)) (by omega)).mono ?_; rintro ev w2 ⟨rfl, HB2, hg2⟩; have r0 := cell_grown hg2 p0 (by show 14 ≠ b; omega); have r1 := cell_grown hg2 p1 (by show 14 ≠ b; omega)))
  have HB3 : Hid (Blk w2 b (hdB (blankH h))) := hide (by
    have h9 := unhide HB2
    rw [hblz, List.drop_of_length_le (by rw [ok.ck]; exact Nat.le_refl _), List.append_nil, unhide HBL, bt_list] at h9
    exact h9)
  obtain ⟨xs, hxs⟩ : ∃ xs, xs = hdB (blankH h) := ⟨_, rfl⟩
  have HXS := hide hxs
  rw [← hxs] at HB3
  have hxl := (unhide HB3).2
  clear HB2 hxs
  go_wp2_with fail
  go_loop [2, 15] (fun t i => ∃ k : Nat, k ≤ 512 ∧ i = .int .i64 k ∧ t = .int .i64 ((sumL (xs.take k) : Nat) : Int)) (fun _ i => 512 - (intOf i).toNat)
  case atStart => exact ⟨0, by omega, rfl, by simp [sumL]⟩
  case round =>
    obtain ⟨k, hk, rfl, rfl⟩ := hrel
    have hsl : sumL (xs.take k) ≤ 130560 := by
      have := sumL_le (xs.take k)
      rw [List.length_take] at this
      omega
    obtain ⟨t0, ht0⟩ : ∃ t0, t0 = sumL (xs.take k) := ⟨_, rfl⟩
    have ht1 : t0 ≤ 130560 := by omega
    by_cases hlt : k < 512
    · have hkl : k < xs.length := by omega
      have hc := blk_cell (unhide HB3) hkl
      obtain ⟨y, hy, hy2⟩ : ∃ y : Nat, y = xs[k].toNat ∧ y < 256 := ⟨_, rfl, xs[k].toNat_lt⟩
      rw [← hy] at hc
      have HSt : Hid (sumL (xs.take (k + 1)) = t0 + y) := hide (by rw [sumL_take hkl, ht0, hy])
      have k0 : (0 : Int) ≤ (k : Int) := by omega
      have k1 : (k : Int) < 512 := by omega
      rw [← ht0]
      clear ht0 hsl hy hkl hxl
      go_wp2
      go_round
      case rel => exact ⟨k + 1, by omega, by go_num, by rw [unhide HSt]; go_num⟩
      case measure => simp [intOf]; omega
    · have HTt : Hid (t0 = sumL xs) := hide (by rw [ht0, List.take_of_length_le (by omega)])
      rw [← ht0]
      have hcs : (octL t0).length + 1 ≤ 7 := by have := octL_lt 5 t0 (by simp; omega); omega
      have hN := setNumber_any b 148 7 t0 (h.nm ++ h.md ++ h.us ++ h.gr ++ h.sz ++ h.tm) (List.replicate 7 32) ([32] ++ (h.kd ++ h.lk ++ h.mg ++ h.nn ++ h.d1 ++ h.d2 ++ h.ah ++ h.en)) w2
        (by rw [← check_eq]; have h9 := unhide HB3; rw [unhide HXS] at h9; exact h9) (by simp [ok.nm, ok.md, ok.us, ok.gr, ok.sz, ok.tm]) (by simp) (by omega) (by omega) hcs (cell_grown hg2 (cell_later (chain0 hb1) (unhide HP).bru) (by show 20 ≠ b; omega))
      rw [← check_eq] at hN
      have k9 : ¬ (k : Int) < 512 := by omega
      clear ht0 hsl hxl hcs hk hlt
      go_wp2_with (go_at_call 157; refine hN.mono ?_; clear hN; rintro ev w3 ⟨rfl, HB4, hg3⟩)
      go_end0
      refine ⟨rfl, hide ?_, grown_trans (grown_below (chain0 hb1)) (grown_trans hg2 hg3)⟩
      have h9 := unhide HB4
      rw [unhide HTt, unhide HXS] at h9
      exact h9
end Go.Proofs.YtkeefkfklmhcjaaGreatDoor
