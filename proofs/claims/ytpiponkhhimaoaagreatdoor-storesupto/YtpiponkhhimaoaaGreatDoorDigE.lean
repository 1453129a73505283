import Derived.Test.YtpiponkhhimaoaaGreatDoorDigD
namespace Go.Proofs.YtpiponkhhimaoaaGreatDoor
open Go.RowKit

theorem mixB_ok (v : St) (l : List UInt8) : (mixB v l).ok := St.add_ok _ _
/-- So many blocks of a text, one behind the other. -/
def mixN (v : St) (l : List UInt8) : Nat → St
  | 0 => v
  | n + 1 => mixB (mixN v l n) ((l.drop (64 * n)).take 64)
theorem mixN_ok {v : St} (h : v.ok) (l : List UInt8) : ∀ n, (mixN v l n).ok
  | 0 => h
  | _ + 1 => mixB_ok _ _

theorem mix_at (x : St) (hx : x.ok) (s : ByteArray) (hs : s.size = 64) (w : World) (hK : KsLie w) :
    Calls Tryz.prog 179 #[.agg #[.int .u32 x.a, .int .u32 x.b, .int .u32 x.c, .int .u32 x.d, .int .u32 x.e, .int .u32 x.f, .int .u32 x.g, .int .u32 x.q], .string s] w fun ev w' => ∃ y : St, ev = .returned (.agg #[.int .u32 y.a, .int .u32 y.b, .int .u32 y.c, .int .u32 y.d, .int .u32 y.e, .int .u32 y.f, .int .u32 y.g, .int .u32 y.q]) ∧ Hid (y = mixB x s.data.toList) ∧ Below w.heap.size w w' := by
  refine (mix_any x hx s hs w hK).mono ?_
  rintro ev w' ⟨rfl, hb⟩
  exact ⟨_, rfl, hide rfl, hb⟩

theorem keep8 {w : World} {g k : Nat} {o : Obj} (y : St) (h : w.heap[k]? = some o) (hk : k ≠ g) :
    ((((((((w.setCell ⟨g, 0, none⟩ (.int .u32 y.a)).setCell ⟨g, 1, none⟩ (.int .u32 y.b)).setCell ⟨g, 2, none⟩ (.int .u32 y.c)).setCell ⟨g, 3, none⟩ (.int .u32 y.d)).setCell ⟨g, 4, none⟩ (.int .u32 y.e)).setCell ⟨g, 5, none⟩ (.int .u32 y.f)).setCell ⟨g, 6, none⟩ (.int .u32 y.g)).setCell ⟨g, 7, none⟩ (.int .u32 y.q)).heap[k]? = some o := by
  repeat rw [heap_setCell_other _ _ _ _ hk]
  exact h

attribute [local go_sem] setCell_drewN alloc_drewN
attribute [local go_sem] Go.wp_at_zero Go.wp_at_succ

set_option maxHeartbeats 1000000 in
set_option maxRecDepth 100000 in
theorem mixAll_any (v : St) (hv : v.ok) (s : ByteArray) (n : Nat) (hs : s.size = 64 * n) (hn : n ≤ 1073741824) (w : World) (hK : KsLie w) :
    Calls Tryz.prog 151 #[.agg v.arr, .string s] w fun ev w' => ev = .returned (.agg (mixN v s.data.toList n).arr) ∧ Below w.heap.size w w' := by
  have h1w : 1 < w.heap.size := World.block_lt_of_cell? _ _ (hK 0 (by decide))
  have HK := hide hK
  have HS := hide hs
  clear hK hs
  go_enter Tryz.func151, Tryz.ntmps151
  go_wp2_with fail
  generalize hW0 : (w.alloc _).alloc _ = W0
  have hs0 : W0.heap[w.heap.size]? = some (.cells v.arr 241 (0, 0)) := by rw [← hW0]; exact heap_alloc2_old _ _ _
  have hr0 : W0.heap[w.heap.size + 1]? = some (.cells (St.arr ⟨0, 0, 0, 0, 0, 0, 0, 0⟩) 241 (0, 0)) := by rw [← hW0]; exact heap_alloc2_new _ _ _
  have hB0 : Below w.heap.size w W0 := by rw [← hW0]; exact ((Below.refl _ _).alloc (Nat.le_refl _) _).alloc (by simp) _
  clear hW0
  go_loopw [5] (fun i wr => ∃ (k : Nat) (x : St), k ≤ n ∧ i = .int .i64 (64 * (k : Int)) ∧ Hid x.ok ∧ wr.heap[w.heap.size]? = some (.cells x.arr 241 (0, 0)) ∧ wr.heap[w.heap.size + 1]? = some (.cells (St.arr ⟨0, 0, 0, 0, 0, 0, 0, 0⟩) 241 (0, 0)) ∧ Below w.heap.size w wr ∧ Hid (x = mixN v s.data.toList k)) (fun i _ => n - (intOf i / 64).toNat)
  case atStart => exact ⟨0, v, by omega, rfl, hide hv, hs0, hr0, hB0, hide rfl⟩
  case round =>
    obtain ⟨k, x, hk, rfl, HX, hblk, hblr, hbl, HR⟩ := hrel
    have hsz := unhide HS
    by_cases hlt : k < n
    · obtain ⟨⟨c0, c1, c2, c3, c4, c5, c6, c7⟩, fz⟩ := cells8 hblk
      have h64 : 64 * (k : Int) < s.size := by omega
      have h65 : 64 * (k : Int) + 64 ≤ s.size := by omega
      have hk0 : (0 : Int) ≤ 64 * (k : Int) := by omega
      have hw : IntKind.i64.wrap (64 * (k : Int) + 64) = 64 * (k : Int) + 64 := by rw [show (64 * (k : Int) + 64) = ((64 * k + 64 : Nat) : Int) from by omega]; exact wrap_i64 _ (by omega)
      have hzr : w.heap.size < wr.heap.size := (Array.getElem?_eq_some_iff.1 hblk).1
      clear hsz
      go_wp2_with fail
      go_region_with (first
        | (go_at_call 179; refine (mix_at x (unhide HX) _ (by rw [ByteArray.size_extract]; have := unhide HS; omega) _ ?_).mono ?_; exact ((unhide HK).below (Below.drew hbl)); rintro ev w6 ⟨y, rfl, HY, hb6⟩; obtain ⟨⟨d0, d1, d2, d3, d4, d5, d6, d7⟩, fz6⟩ := cells8 ((hb6.block w.heap.size (by simpa using hzr)).trans hblk); have HB6 := hide hb6; clear hb6))
      all_goals
        go_wp2
        go_roundw
        case rel =>
          have R1 : y.ok := by rw [unhide HY]; exact mixB_ok _ _
          have R2 : y = mixN v s.data.toList (k + 1) := by
            have e := unhide HY
            rw [Lib.extract_data, show 64 * k + 64 - 64 * k = 64 from by omega] at e
            rw [e, unhide HR]; rfl
          have h6 := unhide HB6
          have hzz : w.heap.size + 1 < wr.heap.size := (Array.getElem?_eq_some_iff.1 hblr).1
          have R4 : w6.heap[w.heap.size]? = some (.cells x.arr 241 (0, 0)) := (h6.block w.heap.size (by simpa using hzr)).trans hblk
          have R5 : w6.heap[w.heap.size + 1]? = some (.cells (St.arr ⟨0, 0, 0, 0, 0, 0, 0, 0⟩) 241 (0, 0)) := (h6.block (w.heap.size + 1) (by simpa using hzz)).trans hblr
          have h7 := h6.mono (B' := w.heap.size) (by simpa using Nat.le_of_lt hzr)
          have R3 : Below w.heap.size w w6 := ⟨h7.os.trans hbl.os, h7.tape.trans hbl.tape, h7.output.trans hbl.output, Nat.le_trans hbl.size h7.size, fun j hj => (h7.block j hj).trans (hbl.block j hj)⟩
          have R6 := keep8 y R5 (Nat.succ_ne_self w.heap.size)
          first
            | exact ⟨k + 1, y, by omega, by go_num, hide R1, block8 y R4, R6, below8 y R3 (Nat.le_refl _), hide R2⟩
            | ((repeat apply Exists.intro); exact ⟨⟨k + 1, y, by omega, by go_num, hide R1, block8 y R4, R6, below8 y R3 (Nat.le_refl _), hide R2⟩, rfl⟩)
        case measure => simp [intOf]; omega
    · obtain rfl : k = n := by omega
      clear hsz
      have hin8 : (Tryz.prog.info? 241).map (·.size) = some x.arr.size := info88
      have hon8 := arr_one x
      have hth := there_all hblr x.arr.size (Nat.le_refl 8)
      have hfin : Hid ((wr.setCells (w.heap.size + 1) 0 x.arr.toList).heap[w.heap.size + 1]? = some (.cells x.arr 241 (0, 0))) := hide (heap_setCells_all hblr rfl)
      have hbel : Hid (Below w.heap.size w (wr.setCells (w.heap.size + 1) 0 x.arr.toList)) := hide (below_setCells (Nat.le_succ _) _ _ _ hbl)
      have hnl : ¬ (64 * (k : Int) < s.size) := by have := unhide HS; omega
      clear hblr
      go_wp2_with (first
        | (refine wpList_load_row rfl 241 (.tmp 2) rfl w.heap.size rfl 241 x.arr (0, 0) _ hblk Tryz.underlying241 rfl hin8 ?_)
        | (refine wpList_store_mid rfl 241 (.tmp 4) (.tmp 19) rfl (w.heap.size + 1) 0 x.arr rfl rfl hth hin8 hon8 ?_))
      refine bodyPost_ret (v := .agg x.arr) (results_cell_row Tryz.results151 _ _ (w.heap.size + 1) 241 x.arr (0, 0) _ rfl (unhide hfin) Tryz.underlying241 rfl hin8) rfl ⟨?_, unhide hbel⟩
      rw [unhide HR]

/-- The state that it begins with. -/
def H0 : St := ⟨1779033703, 3144134277, 1013904242, 2773480762, 1359893119, 2600822924, 528734635, 1541459225⟩
theorem H0_ok : H0.ok := by unfold St.ok H0; decide
set_option maxHeartbeats 400000 in
theorem start_any (w : World) : Calls Tryz.prog 152 #[] w fun ev w' => ev = .returned (.agg H0.arr) ∧ Below w.heap.size w w' := by
  go_enter Tryz.func152, Tryz.ntmps152
  go_wp2
  refine bodyPost_ret (v := .agg H0.arr) (by simp [results, Tryz.results152, go_sem, H0, St.arr]) rfl ⟨rfl, ?_⟩
  exact (Below.refl _ _).alloc (Nat.le_refl _) _
end Go.Proofs.YtpiponkhhimaoaaGreatDoor
