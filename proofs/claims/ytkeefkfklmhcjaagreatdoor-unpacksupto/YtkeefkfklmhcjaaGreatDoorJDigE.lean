import Derived.Test.YtkeefkfklmhcjaaGreatDoorJDigC
import Derived.Test.YtkeefkfklmhcjaaGreatDoorShelfB
namespace Go.Proofs.YtkeefkfklmhcjaaGreatDoor
open Go.RowKit

theorem mixB_ok (v : St) (l : List UInt8) : (mixB v l).ok := St.add_ok _ _
/-- So many blocks of a text, one behind the other. -/
def mixN (v : St) (l : List UInt8) : Nat → St
  | 0 => v
  | n + 1 => mixB (mixN v l n) ((l.drop (64 * n)).take 64)
theorem mixN_ok {v : St} (h : v.ok) (l : List UInt8) : ∀ n, (mixN v l n).ok
  | 0 => h
  | _ + 1 => mixB_ok _ _

theorem mix_at (x : St) (hx : x.ok) (s : ByteArray) (hs : s.size = 64) (w : World) (hK : KsLie w) :
    Calls Tryz.prog 140 #[.agg #[.int .u32 x.a, .int .u32 x.b, .int .u32 x.c, .int .u32 x.d, .int .u32 x.e, .int .u32 x.f, .int .u32 x.g, .int .u32 x.q], .string s] w fun ev w' => ∃ y : St, ev = .returned (.agg #[.int .u32 y.a, .int .u32 y.b, .int .u32 y.c, .int .u32 y.d, .int .u32 y.e, .int .u32 y.f, .int .u32 y.g, .int .u32 y.q]) ∧ Hid (y = mixB x s.data.toList) ∧ Below w.heap.size w w' := by
  refine (mix_any x hx s hs w hK).mono ?_
  rintro ev w' ⟨rfl, hb⟩
  exact ⟨_, rfl, hide rfl, hb⟩

theorem keep8 {w : World} {g k : Nat} {o : Obj} (y : St) (h : w.heap[k]? = some o) (hk : k ≠ g) :
    ((((((((w.setCell ⟨g, 0, none⟩ (.int .u32 y.a)).setCell ⟨g, 1, none⟩ (.int .u32 y.b)).setCell ⟨g, 2, none⟩ (.int .u32 y.c)).setCell ⟨g, 3, none⟩ (.int .u32 y.d)).setCell ⟨g, 4, none⟩ (.int .u32 y.e)).setCell ⟨g, 5, none⟩ (.int .u32 y.f)).setCell ⟨g, 6, none⟩ (.int .u32 y.g)).setCell ⟨g, 7, none⟩ (.int .u32 y.q)).heap[k]? = some o := by
  repeat rw [heap_setCell_other _ _ _ _ hk]
  exact h

attribute [local go_sem] setCell_drewN alloc_drewN
attribute [local go_sem] Go.wp_at_zero Go.wp_at_succ

set_option maxHeartbeats 1000000 in
set_option maxRecDepth 100000 in
theorem mixAll_any (v : St) (hv : v.ok) (s : ByteArray) (n : Nat) (hs : s.size = 64 * n) (hn : n ≤ 1073741824) (w : World) (hK : KsLie w) :
    Calls Tryz.prog 107 #[.agg v.arr, .string s] w fun ev w' => ev = .returned (.agg (mixN v s.data.toList n).arr) ∧ Below w.heap.size w w' := by
  have h1w : 9 < w.heap.size := World.block_lt_of_cell? _ _ (hK 0 (by decide))
  have HK := hide hK
  have HS := hide hs
  clear hK hs
  go_enter Tryz.func107, Tryz.ntmps107
  go_wp2_with fail
  generalize hW0 : (w.alloc _).alloc _ = W0
  have hs0 : W0.heap[w.heap.size]? = some (.cells v.arr 142 (0, 0)) := by rw [← hW0]; exact heap_alloc2_old _ _ _
  have hr0 : W0.heap[w.heap.size + 1]? = some (.cells (St.arr ⟨0, 0, 0, 0, 0, 0, 0, 0⟩) 142 (0, 0)) := by rw [← hW0]; exact heap_alloc2_new _ _ _
  have hB0 : Below w.heap.size w W0 := by rw [← hW0]; exact ((Below.refl _ _).alloc (Nat.le_refl _) _).alloc (by simp) _
  clear hW0
  go_loopw [5] (fun i wr => ∃ (k : Nat) (x : St), k ≤ n ∧ i = .int .i64 (64 * (k : Int)) ∧ Hid x.ok ∧ wr.heap[w.heap.size]? = some (.cells x.arr 142 (0, 0)) ∧ wr.heap[w.heap.size + 1]? = some (.cells (St.arr ⟨0, 0, 0, 0, 0, 0, 0, 0⟩) 142 (0, 0)) ∧ Below w.heap.size w wr ∧ Hid (x = mixN v s.data.toList k)) (fun i _ => n - (intOf i / 64).toNat)
  case atStart => exact ⟨0, v, by omega, rfl, hide hv, hs0, hr0, hB0, hide rfl⟩
  case round =>
    obtain ⟨k, x, hk, rfl, HX, hblk, hblr, hbl, HR⟩ := hrel
    have hsz := unhide HS
    by_cases hlt : k < n
    · obtain ⟨⟨c0, c1, c2, c3, c4, c5, c6, c7⟩, fz⟩ := cells8 hblk
      have h64 : 64 * (k : Int) < s.size := by omega
      have h65 : 64 * (k : Int) + 64 ≤ s.size := by omega
      have hk0 : (0 : Int) ≤ 64 * (k : Int) := by omega
      have hw : IntKind.i64.wrap (64 * (k : Int) + 64) = 64 * (k : Int) + 64 := by rw [show (64 * (k : Int) + 64) = ((64 * k + 64 : Nat) : Int) from by omega]; exact wrap_i64 _ (by omega)
      have hzr : w.heap.size < wr.heap.size := (Array.getElem?_eq_some_iff.1 hblk).1
      clear hsz
      go_wp2_with fail
      go_region_with (first
        | (go_at_call 140; refine (mix_at x (unhide HX) _ (by rw [ByteArray.size_extract]; have := unhide HS; omega) _ ?_).mono ?_; exact ((unhide HK).below (Below.drew hbl)); rintro ev w6 ⟨y, rfl, HY, hb6⟩; obtain ⟨⟨d0, d1, d2, d3, d4, d5, d6, d7⟩, fz6⟩ := cells8 ((hb6.block w.heap.size (by simpa using hzr)).trans hblk); have HB6 := hide hb6; clear hb6))
      all_goals
        go_wp2
        go_roundw
        case rel =>
          have R1 : y.ok := by rw [unhide HY]; exact mixB_ok _ _
          have R2 : y = mixN v s.data.toList (k + 1) := by
            have e := unhide HY
            rw [Lib.extract_data, show 64 * k + 64 - 64 * k = 64 from by omega] at e
            rw [e, unhide HR]; rfl
          have h6 := unhide HB6
          have hzz : w.heap.size + 1 < wr.heap.size := (Array.getElem?_eq_some_iff.1 hblr).1
          have R4 : w6.heap[w.heap.size]? = some (.cells x.arr 142 (0, 0)) := (h6.block w.heap.size (by simpa using hzr)).trans hblk
          have R5 : w6.heap[w.heap.size + 1]? = some (.cells (St.arr ⟨0, 0, 0, 0, 0, 0, 0, 0⟩) 142 (0, 0)) := (h6.block (w.heap.size + 1) (by simpa using hzz)).trans hblr
          have h7 := h6.mono (B' := w.heap.size) (by simpa using Nat.le_of_lt hzr)
          have R3 : Below w.heap.size w w6 := ⟨h7.os.trans hbl.os, h7.tape.trans hbl.tape, h7.output.trans hbl.output, Nat.le_trans hbl.size h7.size, fun j hj => (h7.block j hj).trans (hbl.block j hj)⟩
          have R6 := keep8 y R5 (Nat.succ_ne_self w.heap.size)
          first
            | exact ⟨k + 1, y, by omega, by go_num, hide R1, block8 y R4, R6, below8 y R3 (Nat.le_refl _), hide R2⟩
            | ((repeat apply Exists.intro); exact ⟨⟨k + 1, y, by omega, by go_num, hide R1, block8 y R4, R6, below8 y R3 (Nat.le_refl _), hide R2⟩, rfl⟩)
        case measure => simp [intOf]; omega
    · obtain rfl : k = n := by omega
      clear hsz
      have hin8 : (Tryz.prog.info? 142).map (·.size) = some x.arr.size := info88
      have hon8 := arr_one x
      have hth := there_all hblr x.arr.size (Nat.le_refl 8)
      have hfin : Hid ((wr.setCells (w.heap.size + 1) 0 x.arr.toList).heap[w.heap.size + 1]? = some (.cells x.arr 142 (0, 0))) := hide (heap_setCells_all hblr rfl)
      have hbel : Hid (Below w.heap.size w (wr.setCells (w.heap.size + 1) 0 x.arr.toList)) := hide (below_setCells (Nat.le_succ _) _ _ _ hbl)
      have hnl : ¬ (64 * (k : Int) < s.size) := by have := unhide HS; omega
      clear hblr
      go_wp2_with (first
        | (refine wpList_load_row rfl 142 (.tmp 2) rfl w.heap.size rfl 142 x.arr (0, 0) _ hblk Tryz.underlying142 rfl hin8 ?_)
        | (refine wpList_store_mid rfl 142 (.tmp 4) (.tmp 19) rfl (w.heap.size + 1) 0 x.arr rfl rfl hth hin8 hon8 ?_))
      refine bodyPost_ret (v := .agg x.arr) (results_cell_row Tryz.results107 _ _ (w.heap.size + 1) 142 x.arr (0, 0) _ rfl (unhide hfin) Tryz.underlying142 rfl hin8) rfl ⟨?_, unhide hbel⟩
      rw [unhide HR]

/-- The state that it begins with. -/
def H0 : St := ⟨1779033703, 3144134277, 1013904242, 2773480762, 1359893119, 2600822924, 528734635, 1541459225⟩
theorem H0_ok : H0.ok := by unfold St.ok H0; decide
set_option maxHeartbeats 400000 in
theorem start_any (w : World) : Calls Tryz.prog 108 #[] w fun ev w' => ev = .returned (.agg H0.arr) ∧ Below w.heap.size w w' := by
  go_enter Tryz.func108, Tryz.ntmps108
  go_wp2
  refine bodyPost_ret (v := .agg H0.arr) (by simp [results, Tryz.results108, go_sem, H0, St.arr]) rfl ⟨rfl, ?_⟩
  exact (Below.refl _ _).alloc (Nat.le_refl _) _
end Go.Proofs.YtkeefkfklmhcjaaGreatDoor

namespace Go.Proofs.YtkeefkfklmhcjaaGreatDoor
open Go.RowKit

theorem builder_later {T e : TypeId} {B b : Nat} {p : Value} {bs : List Value} {w w' : World} (h : Lib.BuilderAt T e B b p bs w) (hb : Below w.heap.size w w') : Lib.BuilderAt T e B b p bs w' := by
  obtain ⟨h1, v, h2, h3, h4⟩ := h
  refine ⟨h1, v, (hb.block b (Array.getElem?_eq_some_iff.1 h2).1).trans h2, h3.kept (grown_of_below hb) ?_, h4⟩
  cases hv : v.ownBlock <;> simp
/-- A Builder of the call's own that holds this text. -/
def Bld (B b : Nat) (l : List UInt8) (w : World) : Prop := Lib.IsBuilder 132 5 B b (Lib.byteCells l) w ∧ B ≤ w.heap.size
theorem Bld.later {B b : Nat} {l : List UInt8} {w w' : World} (h : Bld B b l w) (hb : Below w.heap.size w w') : Bld B b l w' := by
  refine ⟨?_, Nat.le_trans h.2 hb.size⟩
  rcases h.1 with h1 | h1
  · exact .inl (builder_later h1 hb)
  · exact .inr (builder_later h1 hb)
theorem bld_new (w : World) : Bld w.heap.size w.heap.size [] (w.alloc (.cells #[.pointer none, .slice none 0 0] 132)) :=
  ⟨.inl ⟨Nat.le_refl _, .slice none 0 0, heap_alloc_new _ _, World.ownsRow_nil _ _ _ _, by simp [Value.ownBlock]⟩, by simp⟩
theorem byteCells_len (l : List UInt8) : (Lib.byteCells l).length = l.length := by simp [Lib.byteCells]
theorem wb (B b : Nat) (l : List UInt8) (c : Int) (x : UInt8) (w : World) (h : Bld B b l w) (hc : c = (x.toNat : Int)) (hl : l.length ≤ 4294967296) :
    Calls Tryz.prog 141 #[.pointer (some ⟨b, 0, none⟩), .int .u8 c] w fun e w' => e = .returned .nilIface ∧ Bld B b (l ++ [x]) w' ∧ Below B w w' := by
  subst hc
  refine (Tryz.Builder_WriteByte B b _ _ w h.1 (by rw [byteCells_len]; omega) h.2).mono ?_
  rintro e w' ⟨rfl, hb, hbl⟩
  refine ⟨rfl, ⟨.inr ?_, Nat.le_trans h.2 hbl.size⟩, hbl⟩
  simpa [Lib.byteCells] using hb
theorem ws (B b : Nat) (l : List UInt8) (s : ByteArray) (w : World) (h : Bld B b l w) (hl : l.length + s.size ≤ 4294967296) :
    Calls Tryz.prog 91 #[.pointer (some ⟨b, 0, none⟩), .string s] w fun e w' => e = .returned (.tuple #[.int .i64 s.size, .nilIface]) ∧ Bld B b (l ++ s.data.toList) w' ∧ Below B w w' := by
  refine (Tryz.Builder_WriteString B b _ _ w h.1 (by rw [byteCells_len]; omega) h.2).mono ?_
  rintro e w' ⟨rfl, hb, hbl⟩
  refine ⟨rfl, ⟨.inr ?_, Nat.le_trans h.2 hbl.size⟩, hbl⟩
  simpa [Lib.byteCells, Lib.strCells] using hb
theorem wstr (B b : Nat) (l : List UInt8) (w : World) (h : Bld B b l w) :
    Calls Tryz.prog 94 #[.pointer (some ⟨b, 0, none⟩)] w fun e w' => e = .returned (.string ⟨l.toArray⟩) ∧ Below B w w' :=
  Tryz.Builder_String_any B b l w h.1 h.2

/-- How many noughts; the bytes of the length; what is left of a text, filled up. -/
def zer (r : Nat) : Nat := (64 - (r + 9) % 64) % 64
def lenB (n j : Nat) : UInt8 := UInt8.ofNat (n * 8 / 2 ^ (56 - 8 * j))
def lenBs (n k : Nat) : List UInt8 := (List.range k).map (lenB n)
def fil (l : List UInt8) (n : Nat) : List UInt8 := l ++ [128] ++ List.replicate (zer l.length) 0 ++ lenBs n 8
theorem lenB0 (n : Nat) : ((lenB n 0).toNat : Int) = (n : Int) * 8 / 72057594037927936 % 256 := by
  have : (lenB n 0).toNat = n * 8 / 72057594037927936 % 256 := by simp [lenB]
  rw [this]; omega
theorem lenB1 (n : Nat) : ((lenB n 1).toNat : Int) = (n : Int) * 8 / 281474976710656 % 256 := by
  have : (lenB n 1).toNat = n * 8 / 281474976710656 % 256 := by simp [lenB]
  rw [this]; omega
theorem lenB2 (n : Nat) : ((lenB n 2).toNat : Int) = (n : Int) * 8 / 1099511627776 % 256 := by
  have : (lenB n 2).toNat = n * 8 / 1099511627776 % 256 := by simp [lenB]
  rw [this]; omega
theorem lenB3 (n : Nat) : ((lenB n 3).toNat : Int) = (n : Int) * 8 / 4294967296 % 256 := by
  have : (lenB n 3).toNat = n * 8 / 4294967296 % 256 := by simp [lenB]
  rw [this]; omega
theorem lenB4 (n : Nat) : ((lenB n 4).toNat : Int) = (n : Int) * 8 / 16777216 % 256 := by
  have : (lenB n 4).toNat = n * 8 / 16777216 % 256 := by simp [lenB]
  rw [this]; omega
theorem lenB5 (n : Nat) : ((lenB n 5).toNat : Int) = (n : Int) * 8 / 65536 % 256 := by
  have : (lenB n 5).toNat = n * 8 / 65536 % 256 := by simp [lenB]
  rw [this]; omega
theorem lenB6 (n : Nat) : ((lenB n 6).toNat : Int) = (n : Int) * 8 / 256 % 256 := by
  have : (lenB n 6).toNat = n * 8 / 256 % 256 := by simp [lenB]
  rw [this]; omega
theorem lenB7 (n : Nat) : ((lenB n 7).toNat : Int) = (n : Int) * 8 / 1 % 256 := by
  have : (lenB n 7).toNat = n * 8 / 1 % 256 := by simp [lenB]
  rw [this]; omega
theorem lenBs_succ (n k : Nat) : lenBs n (k + 1) = lenBs n k ++ [lenB n k] := by simp [lenBs, List.range_succ]
theorem lenBs_len (n k : Nat) : (lenBs n k).length = k := by simp [lenBs]
theorem rep_noughts (c : Nat) : Lib.repeatL [0] c = List.replicate c 0 := by
  induction c with
  | zero => rfl
  | succ c ih => rw [Lib.repeatL, ih, List.replicate_succ]; rfl

set_option maxHeartbeats 1000000 in
set_option maxRecDepth 100000 in
theorem filled_any (s : ByteArray) (n : Nat) (hs : s.size ≤ 64) (hn : n ≤ 1073741824) (w : World) :
    Calls Tryz.prog 109 #[.string s, .int .i64 n] w fun ev w' => ev = .returned (.string ⟨(fil s.data.toList n).toArray⟩) ∧ Below w.heap.size w w' := by
  have hz : (64 - (s.size + 9) % 64) % 64 = zer s.data.toList.length := by rw [← Lib.size_eq]; rfl
  obtain ⟨z, hzz⟩ : ∃ z, z = zer s.data.toList.length := ⟨_, rfl⟩
  have HZ := hide hzz
  have hz64 : z < 64 := by rw [hzz, ← hz]; exact Nat.mod_lt _ (by decide)
  have hzi : ((64 - ((s.size : Int) + 1 + 8) % 64) % 64) = (z : Int) := by rw [hzz, ← hz]; omega
  have HL : Hid (s.data.toList.length = s.size) := hide (Lib.size_eq s).symm
  have hb0 := bld_new w
  clear hz hzz
  go_enter Tryz.func109, Tryz.ntmps109
  go_wp2_with fail
  refine (ws _ _ _ _ _ hb0 (by simp; omega)).mono ?_
  rintro ev w1 ⟨rfl, hb1, hl1⟩
  clear hb0
  go_wp2_with fail
  refine (wb _ _ _ _ 128 _ hb1 (by decide) (by simp; have := unhide HL; omega)).mono ?_
  rintro ev w2 ⟨rfl, hb2, hl2⟩
  go_wp2_with fail
  refine (Tryz.strings_Repeat _ z _ (by omega) (by show 1 * z ≤ _; omega)).mono ?_
  rintro ev w3 ⟨rfl, hl3⟩
  have hb3 := hb2.later hl3
  go_wp2_with fail
  refine (ws _ _ _ _ _ hb3 ?_).mono ?_
  · have := unhide HL
    have e : (⟨(Lib.repeatL (⟨#[0]⟩ : ByteArray).data.toList z).toArray⟩ : ByteArray).size = z := by rw [Lib.size_eq]; show (Lib.repeatL [0] z).length = z; rw [rep_noughts]; simp
    rw [e]; simp; omega
  rintro ev w4 ⟨rfl, hb4, hl4⟩
  have hB4 : Below w.heap.size w w4 := ((((Below.refl _ _).alloc (Nat.le_refl _) _).trans (hl1.trans hl2)).trans (hl3.mono hb2.2)).trans hl4
  have hpre : Hid (([] ++ s.data.toList ++ [128] ++ (⟨(Lib.repeatL (⟨#[0]⟩ : ByteArray).data.toList z).toArray⟩ : ByteArray).data.toList) = s.data.toList ++ [128] ++ List.replicate (zer s.data.toList.length) 0) := hide (by
    show [] ++ s.data.toList ++ [128] ++ Lib.repeatL [0] z = _
    rw [rep_noughts, unhide HZ]; rfl)
  generalize hP : ([] ++ s.data.toList ++ [128] ++ (⟨(Lib.repeatL (⟨#[0]⟩ : ByteArray).data.toList z).toArray⟩ : ByteArray).data.toList) = Pre at *
  have hPl : Hid (Pre.length ≤ 200) := hide (by rw [unhide hpre]; simp only [List.length_append, List.length_cons, List.length_nil, List.length_replicate]; have := unhide HL; have := unhide HZ; omega)
  clear hP hb1 hb2 hb3 hl1 hl2 hl3 hl4
  go_wp2_with fail
  go_loopw [8] (fun i wr => ∃ k : Nat, k ≤ 8 ∧ i = .int .i64 (7 - (k : Int)) ∧ Bld w.heap.size w.heap.size (Pre ++ lenBs n k) wr ∧ Below w.heap.size w wr) (fun i _ => (intOf i + 1).toNat)
  case atStart => exact ⟨0, by omega, rfl, by simpa [lenBs] using hb4, hB4⟩
  case round =>
    obtain ⟨k, hk, rfl, hbr, hbl⟩ := hrel
    by_cases hlt : k < 8
    · match k, hlt, hbr with
      | 0, _, hbr =>
        go_wp2_with (go_at_call 141; refine (wb _ _ _ _ (lenB n 0) _ hbr ?_ ?_).mono ?_; (first | exact (lenB0 n).symm | (rw [lenB0]; omega)); (rw [List.length_append, lenBs_len]; have := unhide hPl; omega); rintro ev w5 ⟨rfl, hb5, hl5⟩; rw [List.append_assoc, ← lenBs_succ] at hb5)
        go_roundw
        case rel => exact ⟨1, by omega, by go_num, hb5, hbl.trans hl5⟩
        case measure => simp [intOf]
      | 1, _, hbr =>
        go_wp2_with (go_at_call 141; refine (wb _ _ _ _ (lenB n 1) _ hbr ?_ ?_).mono ?_; (first | exact (lenB1 n).symm | (rw [lenB1]; omega)); (rw [List.length_append, lenBs_len]; have := unhide hPl; omega); rintro ev w5 ⟨rfl, hb5, hl5⟩; rw [List.append_assoc, ← lenBs_succ] at hb5)
        go_roundw
        case rel => exact ⟨2, by omega, by go_num, hb5, hbl.trans hl5⟩
        case measure => simp [intOf]
      | 2, _, hbr =>
        go_wp2_with (go_at_call 141; refine (wb _ _ _ _ (lenB n 2) _ hbr ?_ ?_).mono ?_; (first | exact (lenB2 n).symm | (rw [lenB2]; omega)); (rw [List.length_append, lenBs_len]; have := unhide hPl; omega); rintro ev w5 ⟨rfl, hb5, hl5⟩; rw [List.append_assoc, ← lenBs_succ] at hb5)
        go_roundw
        case rel => exact ⟨3, by omega, by go_num, hb5, hbl.trans hl5⟩
        case measure => simp [intOf]
      | 3, _, hbr =>
        go_wp2_with (go_at_call 141; refine (wb _ _ _ _ (lenB n 3) _ hbr ?_ ?_).mono ?_; (first | exact (lenB3 n).symm | (rw [lenB3]; omega)); (rw [List.length_append, lenBs_len]; have := unhide hPl; omega); rintro ev w5 ⟨rfl, hb5, hl5⟩; rw [List.append_assoc, ← lenBs_succ] at hb5)
        go_roundw
        case rel => exact ⟨4, by omega, by go_num, hb5, hbl.trans hl5⟩
        case measure => simp [intOf]
      | 4, _, hbr =>
        go_wp2_with (go_at_call 141; refine (wb _ _ _ _ (lenB n 4) _ hbr ?_ ?_).mono ?_; (first | exact (lenB4 n).symm | (rw [lenB4]; omega)); (rw [List.length_append, lenBs_len]; have := unhide hPl; omega); rintro ev w5 ⟨rfl, hb5, hl5⟩; rw [List.append_assoc, ← lenBs_succ] at hb5)
        go_roundw
        case rel => exact ⟨5, by omega, by go_num, hb5, hbl.trans hl5⟩
        case measure => simp [intOf]
      | 5, _, hbr =>
        go_wp2_with (go_at_call 141; refine (wb _ _ _ _ (lenB n 5) _ hbr ?_ ?_).mono ?_; (first | exact (lenB5 n).symm | (rw [lenB5]; omega)); (rw [List.length_append, lenBs_len]; have := unhide hPl; omega); rintro ev w5 ⟨rfl, hb5, hl5⟩; rw [List.append_assoc, ← lenBs_succ] at hb5)
        go_roundw
        case rel => exact ⟨6, by omega, by go_num, hb5, hbl.trans hl5⟩
        case measure => simp [intOf]
      | 6, _, hbr =>
        go_wp2_with (go_at_call 141; refine (wb _ _ _ _ (lenB n 6) _ hbr ?_ ?_).mono ?_; (first | exact (lenB6 n).symm | (rw [lenB6]; omega)); (rw [List.length_append, lenBs_len]; have := unhide hPl; omega); rintro ev w5 ⟨rfl, hb5, hl5⟩; rw [List.append_assoc, ← lenBs_succ] at hb5)
        go_roundw
        case rel => exact ⟨7, by omega, by go_num, hb5, hbl.trans hl5⟩
        case measure => simp [intOf]
      | 7, _, hbr =>
        go_wp2_with (go_at_call 141; refine (wb _ _ _ _ (lenB n 7) _ hbr ?_ ?_).mono ?_; (first | exact (lenB7 n).symm | (rw [lenB7]; omega)); (rw [List.length_append, lenBs_len]; have := unhide hPl; omega); rintro ev w5 ⟨rfl, hb5, hl5⟩; rw [List.append_assoc, ← lenBs_succ] at hb5)
        go_roundw
        case rel => exact ⟨8, by omega, by go_num, hb5, hbl.trans hl5⟩
        case measure => simp [intOf]
    · obtain rfl : k = 8 := by omega
      have HF : Hid (Pre ++ lenBs n 8 = fil s.data.toList n) := hide (by rw [unhide hpre]; rfl)
      go_wp2_with (go_at_call 94; refine (wstr _ _ _ _ hbr).mono ?_; rintro ev w6 ⟨rfl, hl6⟩)
      go_ret
      exact ⟨congrArg (fun l : List UInt8 => Ending.returned (.string ⟨l.toArray⟩)) (unhide HF), hbl.trans hl6⟩
end Go.Proofs.YtkeefkfklmhcjaaGreatDoor
