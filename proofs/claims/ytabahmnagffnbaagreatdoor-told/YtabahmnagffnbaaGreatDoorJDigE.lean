import Derived.Test.YtabahmnagffnbaaGreatDoorDigD
import Derived.Shelf.Strings.Builder1
import Derived.Shelf.Strings.Builder2
import Derived.Shelf.Small.Bits
import Derived.Shelf.Strings.BuilderF
import Derived.Shelf.Strings.BuilderK
import Derived.Shelf.Utf8.RuneCount
import Derived.Shelf.Strconv.Itoa0
import Derived.Shelf.Strconv.Itoa1
import Derived.Shelf.LaysM
import Derived.Shelf.Strconv.Itoa2
import Derived.Shelf.Strconv.Itoa3
import Derived.Shelf.Strconv.Itoa4
import Derived.Shelf.Strings.Search1
import Derived.Shelf.Strings.Search2
import Derived.Shelf.Strings.Search3
import Derived.Shelf.Strings.Count
import Derived.Shelf.Strings.Shaped
import Derived.Shelf.Strings.LastIndex
import Derived.Shelf.Strings.Prefix
import Derived.Shelf.Strings.Split
import Derived.Shelf.Strings.SplitShaped
import Derived.Shelf.Unicode.Decode
import Derived.Shelf.Strings.RuneCount
import Derived.Shelf.Strings.Explode
import Derived.Shelf.Bits.Mul64
import Derived.Shelf.Strings.Repeat
import Derived.Shelf.Unicode.DecodeSlow
import Derived.Shelf.Unicode.DecodeAny
import Derived.Test.YtabahmnagffnbaaGreatDoorProg
namespace Go.Proofs.YtabahmnagffnbaaGreatDoor
open Go.RowKit

theorem mixB_ok (v : St) (l : List UInt8) : (mixB v l).ok := St.add_ok _ _
/-- So many blocks of a text, one behind the other. -/
def mixN (v : St) (l : List UInt8) : Nat → St
  | 0 => v
  | n + 1 => mixB (mixN v l n) ((l.drop (64 * n)).take 64)
theorem mixN_ok {v : St} (h : v.ok) (l : List UInt8) : ∀ n, (mixN v l n).ok
  | 0 => h
  | _ + 1 => mixB_ok _ _

theorem mix_at (x : St) (hx : x.ok) (s : ByteArray) (hs : s.size = 64) (w : World) (hK : KsLie w) :
    Calls Tryz.prog 82 #[.agg #[.int .u32 x.a, .int .u32 x.b, .int .u32 x.c, .int .u32 x.d, .int .u32 x.e, .int .u32 x.f, .int .u32 x.g, .int .u32 x.q], .string s] w fun ev w' => ∃ y : St, ev = .returned (.agg #[.int .u32 y.a, .int .u32 y.b, .int .u32 y.c, .int .u32 y.d, .int .u32 y.e, .int .u32 y.f, .int .u32 y.g, .int .u32 y.q]) ∧ Hid (y = mixB x s.data.toList) ∧ Below w.heap.size w w' := by
  refine (mix_any x hx s hs w hK).mono ?_
  rintro ev w' ⟨rfl, hb⟩
  exact ⟨_, rfl, hide rfl, hb⟩

theorem keep8 {w : World} {g k : Nat} {o : Obj} (y : St) (h : w.heap[k]? = some o) (hk : k ≠ g) :
    ((((((((w.setCell ⟨g, 0, none⟩ (.int .u32 y.a)).setCell ⟨g, 1, none⟩ (.int .u32 y.b)).setCell ⟨g, 2, none⟩ (.int .u32 y.c)).setCell ⟨g, 3, none⟩ (.int .u32 y.d)).setCell ⟨g, 4, none⟩ (.int .u32 y.e)).setCell ⟨g, 5, none⟩ (.int .u32 y.f)).setCell ⟨g, 6, none⟩ (.int .u32 y.g)).setCell ⟨g, 7, none⟩ (.int .u32 y.q)).heap[k]? = some o := by
  repeat rw [heap_setCell_other _ _ _ _ hk]
  exact h

attribute [local go_sem] setCell_drewN alloc_drewN
attribute [local go_sem] Go.wp_at_zero Go.wp_at_succ

set_option maxHeartbeats 1000000 in
set_option maxRecDepth 100000 in
theorem mixAll_any (v : St) (hv : v.ok) (s : ByteArray) (n : Nat) (hs : s.size = 64 * n) (hn : n ≤ 1073741824) (w : World) (hK : KsLie w) :
    Calls Tryz.prog 55 #[.agg v.arr, .string s] w fun ev w' => ev = .returned (.agg (mixN v s.data.toList n).arr) ∧ Below w.heap.size w w' := by
  have h1w : 1 < w.heap.size := World.block_lt_of_cell? _ _ (hK 0 (by decide))
  have HK := hide hK
  have HS := hide hs
  clear hK hs
  go_enter Tryz.func55, Tryz.ntmps55
  go_wp2_with fail
  generalize hW0 : (w.alloc _).alloc _ = W0
  have hs0 : W0.heap[w.heap.size]? = some (.cells v.arr 109 (0, 0)) := by rw [← hW0]; exact heap_alloc2_old _ _ _
  have hr0 : W0.heap[w.heap.size + 1]? = some (.cells (St.arr ⟨0, 0, 0, 0, 0, 0, 0, 0⟩) 109 (0, 0)) := by rw [← hW0]; exact heap_alloc2_new _ _ _
  have hB0 : Below w.heap.size w W0 := by rw [← hW0]; exact ((Below.refl _ _).alloc (Nat.le_refl _) _).alloc (by simp) _
  clear hW0
  go_loopw [5] (fun i wr => ∃ (k : Nat) (x : St), k ≤ n ∧ i = .int .i64 (64 * (k : Int)) ∧ Hid x.ok ∧ wr.heap[w.heap.size]? = some (.cells x.arr 109 (0, 0)) ∧ wr.heap[w.heap.size + 1]? = some (.cells (St.arr ⟨0, 0, 0, 0, 0, 0, 0, 0⟩) 109 (0, 0)) ∧ Below w.heap.size w wr ∧ Hid (x = mixN v s.data.toList k)) (fun i _ => n - (intOf i / 64).toNat)
  case atStart => exact ⟨0, v, by omega, rfl, hide hv, hs0, hr0, hB0, hide rfl⟩
  case round =>
    obtain ⟨k, x, hk, rfl, HX, hblk, hblr, hbl, HR⟩ := hrel
    have hsz := unhide HS
    by_cases hlt : k < n
    · obtain ⟨⟨c0, c1, c2, c3, c4, c5, c6, c7⟩, fz⟩ := cells8 hblk
      have h64 : 64 * (k : Int) < s.size := by omega
      have h65 : 64 * (k : Int) + 64 ≤ s.size := by omega
      have hk0 : (0 : Int) ≤ 64 * (k : Int) := by omega
      have hw : IntKind.i64.wrap (64 * (k : Int) + 64) = 64 * (k : Int) + 64 := by rw [show (64 * (k : Int) + 64) = ((64 * k + 64 : Nat) : Int) from by omega]; exact wrap_i64 _ (by omega)
      have hzr : w.heap.size < wr.heap.size := (Array.getElem?_eq_some_iff.1 hblk).1
      clear hsz
      go_wp2_with fail
      go_region_with (first
        | (go_at_call 82; refine (mix_at x (unhide HX) _ (by rw [ByteArray.size_extract]; have := unhide HS; omega) _ ?_).mono ?_; exact ((unhide HK).below (Below.drew hbl)); rintro ev w6 ⟨y, rfl, HY, hb6⟩; obtain ⟨⟨d0, d1, d2, d3, d4, d5, d6, d7⟩, fz6⟩ := cells8 ((hb6.block w.heap.size (by simpa using hzr)).trans hblk); have HB6 := hide hb6; clear hb6))
      all_goals
        go_wp2
        go_roundw
        case rel =>
          have R1 : y.ok := by rw [unhide HY]; exact mixB_ok _ _
          have R2 : y = mixN v s.data.toList (k + 1) := by
            have e := unhide HY
            rw [Lib.extract_data, show 64 * k + 64 - 64 * k = 64 from by omega] at e
            rw [e, unhide HR]; rfl
          have h6 := unhide HB6
          have hzz : w.heap.size + 1 < wr.heap.size := (Array.getElem?_eq_some_iff.1 hblr).1
          have R4 : w6.heap[w.heap.size]? = some (.cells x.arr 109 (0, 0)) := (h6.block w.heap.size (by simpa using hzr)).trans hblk
          have R5 : w6.heap[w.heap.size + 1]? = some (.cells (St.arr ⟨0, 0, 0, 0, 0, 0, 0, 0⟩) 109 (0, 0)) := (h6.block (w.heap.size + 1) (by simpa using hzz)).trans hblr
          have h7 := h6.mono (B' := w.heap.size) (by simpa using Nat.le_of_lt hzr)
          have R3 : Below w.heap.size w w6 := ⟨h7.os.trans hbl.os, h7.tape.trans hbl.tape, h7.output.trans hbl.output, Nat.le_trans hbl.size h7.size, fun j hj => (h7.block j hj).trans (hbl.block j hj)⟩
          have R6 := keep8 y R5 (Nat.succ_ne_self w.heap.size)
          first
            | exact ⟨k + 1, y, by omega, by go_num, hide R1, block8 y R4, R6, below8 y R3 (Nat.le_refl _), hide R2⟩
            | ((repeat apply Exists.intro); exact ⟨⟨k + 1, y, by omega, by go_num, hide R1, block8 y R4, R6, below8 y R3 (Nat.le_refl _), hide R2⟩, rfl⟩)
        case measure => simp [intOf]; omega
    · obtain rfl : k = n := by omega
      clear hsz
      have hin8 : (Tryz.prog.info? 109).map (·.size) = some x.arr.size := info88
      have hon8 := arr_one x
      have hth := there_all hblr x.arr.size (Nat.le_refl 8)
      have hfin : Hid ((wr.setCells (w.heap.size + 1) 0 x.arr.toList).heap[w.heap.size + 1]? = some (.cells x.arr 109 (0, 0))) := hide (heap_setCells_all hblr rfl)
      have hbel : Hid (Below w.heap.size w (wr.setCells (w.heap.size + 1) 0 x.arr.toList)) := hide (below_setCells (Nat.le_succ _) _ _ _ hbl)
      have hnl : ¬ (64 * (k : Int) < s.size) := by have := unhide HS; omega
      clear hblr
      go_wp2_with (first
        | (refine wpList_load_row rfl 109 (.tmp 2) rfl w.heap.size rfl 109 x.arr (0, 0) _ hblk Tryz.underlying109 rfl hin8 ?_)
        | (refine wpList_store_mid rfl 109 (.tmp 4) (.tmp 19) rfl (w.heap.size + 1) 0 x.arr rfl rfl hth hin8 hon8 ?_))
      refine bodyPost_ret (v := .agg x.arr) (results_cell_row Tryz.results55 _ _ (w.heap.size + 1) 109 x.arr (0, 0) _ rfl (unhide hfin) Tryz.underlying109 rfl hin8) rfl ⟨?_, unhide hbel⟩
      rw [unhide HR]

/-- The state that it begins with. -/
def H0 : St := ⟨1779033703, 3144134277, 1013904242, 2773480762, 1359893119, 2600822924, 528734635, 1541459225⟩
theorem H0_ok : H0.ok := by unfold St.ok H0; decide
set_option maxHeartbeats 400000 in
theorem start_any (w : World) : Calls Tryz.prog 56 #[] w fun ev w' => ev = .returned (.agg H0.arr) ∧ Below w.heap.size w w' := by
  go_enter Tryz.func56, Tryz.ntmps56
  go_wp2
  refine bodyPost_ret (v := .agg H0.arr) (by simp [results, Tryz.results56, go_sem, H0, St.arr]) rfl ⟨rfl, ?_⟩
  exact (Below.refl _ _).alloc (Nat.le_refl _) _
end Go.Proofs.YtabahmnagffnbaaGreatDoor

namespace Go.Proofs
open Go.Shelf
def Tryz.lays169_ren : Go.Shelf.Ren := ⟨fun | 169 => 63 | n => n, fun | 70 => 114 | 9 => 9 | 0 => 0 | 72 => 117 | 37 => 115 | 127 => 146 | 3 => 3 | 5 => 5 | n => n, fun | n => n⟩
theorem Tryz.lays169 : Go.Proofs.Lays.n169 Tryz.prog Tryz.lays169_ren := {
  mixed := by kernel_rfl
  f169 := Tryz.func63.trans (congrArg some (by kernel_rfl))
  t0 := Tryz.underlying0
  a0 := Tryz.isAgg0
  z0 := Tryz.sizeOf0
  v0 := Tryz.zeroValue0
  t3 := Tryz.underlying3
  a3 := Tryz.isAgg3
  z3 := Tryz.sizeOf3
  v3 := Tryz.zeroValue3
  t9 := Tryz.underlying9
  a9 := Tryz.isAgg9
  z9 := Tryz.sizeOf9
  v9 := Tryz.zeroValue9
  t37 := Tryz.underlying115
  a37 := Tryz.isAgg115
  z37 := Tryz.sizeOf115
  v37 := Tryz.zeroValue115
  t70 := Tryz.underlying114
  a70 := Tryz.isAgg114
  z70 := Tryz.sizeOf114
  v70 := Tryz.zeroValue114
  t72 := Tryz.underlying117
  a72 := Tryz.isAgg117
  z72 := Tryz.sizeOf117
  v72 := Tryz.zeroValue117
  t127 := Tryz.underlying146
  a127 := Tryz.isAgg146
  z127 := Tryz.sizeOf146
  v127 := Tryz.zeroValue146 }
theorem Tryz.Builder_Extra_169 : Builder.Extra Tryz.prog Tryz.lays169_ren := {
  sizeBuilder := by kernel_rfl
  liesBuilder := by kernel_rfl
  t5 := Tryz.underlying5
  a5 := Tryz.isAgg5
  z5 := Tryz.sizeOf5
  v5 := Tryz.zeroValue5
  infoByte := by kernel_rfl
  cellsByte := by kernel_rfl
  sizeByte := by kernel_rfl
  neB5 := by decide }
open Go.RowKit in
theorem Tryz.Builder_String_any (B b : Nat) (l : List UInt8) (w : World) (h : Lib.IsBuilder 117 5 B b (Lib.byteCells l) w) (hBw : B ≤ w.heap.size) :
    Calls Tryz.prog 63 #[.pointer (some ⟨b, 0, none⟩)] w fun e w' => e = .returned (.string ⟨l.toArray⟩) ∧ Below B w w' := Any.Builder_String_any Tryz.lays169 Tryz.Builder_Extra_169 B b l w h hBw
def Tryz.lays105_ren : Go.Shelf.Ren := ⟨fun | 105 => 84 | 212 => 102 | 99 => 43 | 165 => 103 | 166 => 61 | 170 => 104 | 169 => 63 | 263 => 118 | 264 => 119 | 206 => 76 | 240 => 87 | 241 => 120 | 276 => 106 | 277 => 141 | n => n, fun | 9 => 9 | 3 => 3 | 4 => 4 | 20 => 20 | 0 => 0 | 46 => 161 | 109 => 162 | 5 => 5 | 72 => 117 | 76 => 118 | 51 => 107 | 146 => 171 | 53 => 150 | 148 => 176 | 70 => 114 | 37 => 115 | 75 => 41 | 127 => 146 | 164 => 76 | 80 => 55 | n => n, fun | n => n⟩
theorem Tryz.lays105 : Go.Proofs.Lays.n105 Tryz.prog Tryz.lays105_ren := {
  mixed := by kernel_rfl
  f99 := Tryz.func43.trans (congrArg some (by kernel_rfl))
  f105 := Tryz.func84.trans (congrArg some (by kernel_rfl))
  f165 := Tryz.func103.trans (congrArg some (by kernel_rfl))
  f166 := Tryz.func61.trans (congrArg some (by kernel_rfl))
  f169 := Tryz.func63.trans (congrArg some (by kernel_rfl))
  f170 := Tryz.func104.trans (congrArg some (by kernel_rfl))
  f206 := Tryz.func76.trans (congrArg some (by kernel_rfl))
  f212 := Tryz.func102.trans (congrArg some (by kernel_rfl))
  f240 := Tryz.func87.trans (congrArg some (by kernel_rfl))
  f241 := Tryz.func120.trans (congrArg some (by kernel_rfl))
  f263 := Tryz.func118.trans (congrArg some (by kernel_rfl))
  f264 := Tryz.func119.trans (congrArg some (by kernel_rfl))
  f276 := Tryz.func106.trans (congrArg some (by kernel_rfl))
  f277 := Tryz.func141.trans (congrArg some (by kernel_rfl))
  t0 := Tryz.underlying0
  a0 := Tryz.isAgg0
  z0 := Tryz.sizeOf0
  v0 := Tryz.zeroValue0
  t3 := Tryz.underlying3
  a3 := Tryz.isAgg3
  z3 := Tryz.sizeOf3
  v3 := Tryz.zeroValue3
  t4 := Tryz.underlying4
  a4 := Tryz.isAgg4
  z4 := Tryz.sizeOf4
  v4 := Tryz.zeroValue4
  t5 := Tryz.underlying5
  a5 := Tryz.isAgg5
  z5 := Tryz.sizeOf5
  v5 := Tryz.zeroValue5
  t9 := Tryz.underlying9
  a9 := Tryz.isAgg9
  z9 := Tryz.sizeOf9
  v9 := Tryz.zeroValue9
  t20 := Tryz.underlying20
  a20 := Tryz.isAgg20
  z20 := Tryz.sizeOf20
  v20 := Tryz.zeroValue20
  t37 := Tryz.underlying115
  a37 := Tryz.isAgg115
  z37 := Tryz.sizeOf115
  v37 := Tryz.zeroValue115
  t46 := Tryz.underlying161
  a46 := Tryz.isAgg161
  z46 := Tryz.sizeOf161
  v46 := Tryz.zeroValue161
  t51 := Tryz.underlying107
  a51 := Tryz.isAgg107
  z51 := Tryz.sizeOf107
  v51 := Tryz.zeroValue107
  t53 := Tryz.underlying150
  a53 := Tryz.isAgg150
  z53 := Tryz.sizeOf150
  v53 := Tryz.zeroValue150
  t70 := Tryz.underlying114
  a70 := Tryz.isAgg114
  z70 := Tryz.sizeOf114
  v70 := Tryz.zeroValue114
  t72 := Tryz.underlying117
  a72 := Tryz.isAgg117
  z72 := Tryz.sizeOf117
  v72 := Tryz.zeroValue117
  t75 := Tryz.underlying41
  a75 := Tryz.isAgg41
  z75 := Tryz.sizeOf41
  v75 := Tryz.zeroValue41
  t76 := Tryz.underlying118
  a76 := Tryz.isAgg118
  z76 := Tryz.sizeOf118
  v76 := Tryz.zeroValue118
  t109 := Tryz.underlying162
  a109 := Tryz.isAgg162
  z109 := Tryz.sizeOf162
  v109 := Tryz.zeroValue162
  t127 := Tryz.underlying146
  a127 := Tryz.isAgg146
  z127 := Tryz.sizeOf146
  v127 := Tryz.zeroValue146
  t146 := Tryz.underlying171
  a146 := Tryz.isAgg171
  z146 := Tryz.sizeOf171
  v146 := Tryz.zeroValue171
  t148 := Tryz.underlying176
  a148 := Tryz.isAgg176
  z148 := Tryz.sizeOf176
  v148 := Tryz.zeroValue176
  t164 := Tryz.underlying76
  a164 := Tryz.isAgg76
  z164 := Tryz.sizeOf76
  v164 := Tryz.zeroValue76 }
theorem Tryz.Builder_Extra_105 : Builder.Extra Tryz.prog Tryz.lays105_ren := {
  sizeBuilder := by kernel_rfl
  liesBuilder := by kernel_rfl
  t5 := Tryz.underlying5
  a5 := Tryz.isAgg5
  z5 := Tryz.sizeOf5
  v5 := Tryz.zeroValue5
  infoByte := by kernel_rfl
  cellsByte := by kernel_rfl
  sizeByte := by kernel_rfl
  neB5 := by decide }
open Go.RowKit Go.Lib in
theorem Tryz.strings_Repeat (s : ByteArray) (c : Nat) (w : World) (hc : c ≤ 9223372036854775807) (hlen : s.size * c ≤ 140737488355328) :
    Calls Tryz.prog 84 #[.string s, .int .i64 c] w fun e w' => e = .returned (.string ⟨(Lib.repeatL s.data.toList c).toArray⟩) ∧ Below w.heap.size w w' := Any.strings_Repeat Tryz.lays105 Tryz.Builder_Extra_105 s c w hc hlen
end Go.Proofs

namespace Go.Proofs
open Go.Shelf Go.RowKit
def Tryz.renB : Go.Shelf.Ren := ⟨fun | 167 => 83 | n => Tryz.lays105_ren.f n, Tryz.lays105_ren.t, Tryz.lays105_ren.g⟩
theorem Tryz.laysB : Go.Proofs.Lays.n167 Tryz.prog Tryz.renB := {
  mixed := Tryz.lays105.mixed
  f167 := Tryz.func83.trans (congrArg some (by kernel_rfl))
  f240 := Tryz.func87.trans (congrArg some (by kernel_rfl))
  f276 := Tryz.func106.trans (congrArg some (by kernel_rfl))
  t0 := Tryz.lays105.t0
  a0 := Tryz.lays105.a0
  z0 := Tryz.lays105.z0
  v0 := Tryz.lays105.v0
  t4 := Tryz.lays105.t4
  a4 := Tryz.lays105.a4
  z4 := Tryz.lays105.z4
  v4 := Tryz.lays105.v4
  t5 := Tryz.lays105.t5
  a5 := Tryz.lays105.a5
  z5 := Tryz.lays105.z5
  v5 := Tryz.lays105.v5
  t9 := Tryz.lays105.t9
  a9 := Tryz.lays105.a9
  z9 := Tryz.lays105.z9
  v9 := Tryz.lays105.v9
  t20 := Tryz.lays105.t20
  a20 := Tryz.lays105.a20
  z20 := Tryz.lays105.z20
  v20 := Tryz.lays105.v20
  t37 := Tryz.lays105.t37
  a37 := Tryz.lays105.a37
  z37 := Tryz.lays105.z37
  v37 := Tryz.lays105.v37
  t70 := Tryz.lays105.t70
  a70 := Tryz.lays105.a70
  z70 := Tryz.lays105.z70
  v70 := Tryz.lays105.v70
  t72 := Tryz.lays105.t72
  a72 := Tryz.lays105.a72
  z72 := Tryz.lays105.z72
  v72 := Tryz.lays105.v72
  t75 := Tryz.lays105.t75
  a75 := Tryz.lays105.a75
  z75 := Tryz.lays105.z75
  v75 := Tryz.lays105.v75
  t164 := Tryz.lays105.t164
  a164 := Tryz.lays105.a164
  z164 := Tryz.lays105.z164
  v164 := Tryz.lays105.v164 }
theorem Tryz.extraB : Builder.Extra Tryz.prog Tryz.renB := {
  sizeBuilder := by kernel_rfl
  liesBuilder := by kernel_rfl
  t5 := Tryz.underlying5
  a5 := Tryz.isAgg5
  z5 := Tryz.sizeOf5
  v5 := Tryz.zeroValue5
  infoByte := by kernel_rfl
  cellsByte := by kernel_rfl
  sizeByte := by kernel_rfl
  neB5 := by decide }
theorem Tryz.Builder_WriteByte (B b : Nat) (bs : List Value) (c : Int) (w : World) (h : Lib.IsBuilder 117 5 B b bs w) (hlen : bs.length + 1 ≤ 140737488355328) (hBw : B ≤ w.heap.size) :
    Calls Tryz.prog 83 #[.pointer (some ⟨b, 0, none⟩), .int .u8 c] w fun e w' => e = .returned .nilIface ∧ (Lib.BuilderAt 117 5 B b (.pointer (some ⟨b, 0, none⟩)) (bs ++ [.int .u8 c]) w' ∧ Below B w w') := Any.Builder_WriteByte Tryz.laysB Tryz.extraB B b bs c w h hlen hBw
theorem Tryz.Builder_WriteString (B b : Nat) (bs : List Value) (s : ByteArray) (w : World) (h : Lib.IsBuilder 117 5 B b bs w) (hlen : bs.length + s.size ≤ 140737488355328) (hBw : B ≤ w.heap.size) :
    Calls Tryz.prog 61 #[.pointer (some ⟨b, 0, none⟩), .string s] w fun e w' => e = .returned (.tuple #[.int .i64 s.size, .nilIface]) ∧ (Lib.BuilderAt 117 5 B b (.pointer (some ⟨b, 0, none⟩)) (bs ++ Lib.strCells s) w' ∧ Below B w w') := Any.Builder_WriteString { Tryz.lays105 with } Tryz.Builder_Extra_105 B b bs s w h hlen hBw
end Go.Proofs
