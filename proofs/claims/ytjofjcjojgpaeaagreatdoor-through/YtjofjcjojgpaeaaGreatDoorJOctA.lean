import Derived.Test.YtjofjcjojgpaeaaGreatDoorJLeaf
import Derived.Lib.ConvBytes
import Derived.Shelf.Bits.Mul64
import Derived.Handy
import Derived.Test.YtjofjcjojgpaeaaGreatDoorShaP
import Derived.Test.YtjofjcjojgpaeaaGreatDoorJOctP
import Derived.Laws.BitsAllLaws
import Derived.Test.YtjofjcjojgpaeaaGreatDoorJTreeP
import Derived.Shelf.Strings.Builder1
import Derived.Shelf.Strings.Builder2
import Derived.Shelf.Small.Bits
import Derived.Shelf.Strings.BuilderF
import Derived.Shelf.Strings.BuilderK
import Derived.Shelf.Utf8.RuneCount
import Derived.Shelf.Strconv.Itoa0
import Derived.Shelf.Strconv.Itoa1
import Derived.Shelf.LaysM
import Derived.Shelf.Strconv.Itoa2
import Derived.Shelf.Strconv.Itoa3
import Derived.Shelf.Strconv.Itoa4
import Derived.Shelf.Strings.Search1
import Derived.Shelf.Strings.Search2
import Derived.Shelf.Strings.Search3
import Derived.Shelf.Strings.Count
import Derived.Shelf.Strings.Shaped
import Derived.Shelf.Strings.LastIndex
import Derived.Shelf.Strings.Prefix
import Derived.Shelf.Strings.Split
import Derived.Shelf.Strings.SplitShaped
import Derived.Shelf.Unicode.Decode
import Derived.Shelf.Strings.RuneCount
import Derived.Shelf.Strings.Explode
import Derived.Shelf.Strings.Repeat
import Derived.Shelf.Unicode.DecodeSlow
import Derived.Shelf.Unicode.DecodeAny
import Derived.Test.YtjofjcjojgpaeaaGreatDoorProg
import Derived.Test.YtjofjcjojgpaeaaGreatDoorJPckE
namespace Go.Proofs.YtjofjcjojgpaeaaGreatDoor
open Go.RowKit

theorem pow2_8 (w : World) : Calls Tryz.prog 200 #[.int .i64 8] w fun ev w' => ev = .returned (.bool true) ∧ w' = w := by
  have e1 : bits .and .i64 8 7 = 0 := by rfl
  go_enter Tryz.func200, Tryz.ntmps200
  go_wp2
  go_ret
  simp
theorem tz64_8 (w : World) (h : w.cell? ⟨21, 7, none⟩ = some (.int .u8 3)) : Calls Tryz.prog 211 #[.int .u64 8] w fun ev w' => ev = .returned (.int .i64 3) ∧ w' = w := by
  have e1 : IntKind.u64.wrap (-8) = 18446744073709551608 := by rfl
  have e2 : bits .and .u64 8 18446744073709551608 = 8 := by rfl
  have e3 : IntKind.u64.wrap (8 * 285870213051353865) = 2286961704410830920 := by rfl
  go_enter Tryz.func211, Tryz.ntmps211
  go_wp2
  go_ret
  exact ⟨rfl, rfl⟩
theorem tz_8 (w : World) (h : w.cell? ⟨21, 7, none⟩ = some (.int .u8 3)) : Calls Tryz.prog 201 #[.int .u64 8] w fun ev w' => ev = .returned (.int .i64 3) ∧ w' = w := by
  go_enter Tryz.func201, Tryz.ntmps201
  go_wp2_with (go_at_call 211; refine (tz64_8 _ h).mono ?_; rintro ev w1 ⟨rfl, rfl⟩)
  go_ret
  exact ⟨rfl, rfl⟩

end Go.Proofs.YtjofjcjojgpaeaaGreatDoor
namespace Go.Proofs.YtjofjcjojgpaeaaGreatDoor
open Go.RowKit

def digs : ByteArray := ⟨#[48, 49, 50, 51, 52, 53, 54, 55, 56, 57, 97, 98, 99, 100, 101, 102, 103, 104, 105, 106, 107, 108, 109, 110, 111, 112, 113, 114, 115, 116, 117, 118, 119, 120, 121, 122]⟩
theorem digs_lt {m : Nat} (h : m < 8) : m < digs.size := Nat.lt_of_lt_of_le h (by decide)
theorem digs_at : ∀ (m : Nat) (h : m < 8), digs[m]'(digs_lt h) = UInt8.ofNat (48 + m)
  | 0, _ => rfl
  | 1, _ => rfl
  | 2, _ => rfl
  | 3, _ => rfl
  | 4, _ => rfl
  | 5, _ => rfl
  | 6, _ => rfl
  | 7, _ => rfl
theorem and7 (m : Nat) (h : m < 262144) : bits .and .u64 (m : Int) 7 = ((m % 8 : Nat) : Int) := by
  have hx : m &&& 7 = m % 8 := Nat.and_two_pow_sub_one_eq_mod m 3
  show IntKind.u64.wrap ((BitVec.ofInt 64 (m : Int) &&& BitVec.ofInt 64 ((7 : Nat) : Int)).toNat : Int) = _
  rw [BitVec.toNat_and, ofInt_i64 m (by omega), ofInt_i64 7 (by omega), hx]
  simp [IntKind.wrap, IntKind.bits, IntKind.signed]
  omega
theorem wp_atW {P : Program} {c : Code} {Q : Exit → Act → World → Prop} {a : Act} {W W' : World} (h : W' = W) (hw : Code.wp P c Q a W') : Code.wp P c Q a W := h ▸ hw
def encU (b : UInt8) : Value := .int .u8 (b.toNat : Int)
/-- The digits behind place k of the buffer. -/
def OctIn (w : World) (B k : Nat) (ds : List UInt8) : Prop := w.heap[B]? = some (.cells (List.replicate k (Value.int .u8 0) ++ ds.map encU).toArray 244 (0, 0)) ∧ k + ds.length = 65
theorem oct_start (w : World) : OctIn (w.alloc (Obj.cells Tryz.zeroCells244 244)) w.heap.size 65 [] := ⟨(heap_alloc_new _ _).trans rfl, rfl⟩
theorem set_mid (z : Nat) (x v : Value) (l : List Value) : (List.replicate (z + 1) x ++ l).set z v = List.replicate z x ++ v :: l := by
  rw [List.replicate_succ', List.append_assoc, List.set_append_right _ _ (by simp)]
  simp
theorem oct_put {w : World} {B z : Nat} {ds : List UInt8} (h : OctIn w B (z + 1) ds) (d : UInt8) : OctIn (w.setCell ⟨B, z, none⟩ (encU d)) B z (d :: ds) := by
  refine ⟨?_, by have := h.2; simp only [List.length_cons]; omega⟩
  rw [heap_setCell_same _ _ _ _ _ _ h.1, List.setIfInBounds_toArray, set_mid]
  rfl
theorem oct_cell {w : World} {B z : Nat} {ds : List UInt8} (h : OctIn w B (z + 1) ds) : w.cell? ⟨B, z, none⟩ = some (.int .u8 0) ∧ w.frozen? ⟨B, z, none⟩ = false := by
  refine ⟨?_, frozen_of_row _ _ _ _ _ h.1⟩
  rw [cell_of_row _ _ _ _ _ _ h.1]
  simp [List.getElem?_append]
theorem oct_back {w : World} {B z : Nat} {ds : List UInt8} (h : OctIn w B z ds) (cap : Nat) : (convert 41 9 (.slice (some ⟨B, z, none⟩) ds.length cap)).run Tryz.prog w = .ok (.string ⟨ds.toArray⟩) w := by
  refine run_convert_bytes_back (P := Tryz.prog) w 41 9 5 ⟨B, z, none⟩ cap ds Tryz.underlying41 Tryz.underlying5 Tryz.underlying9 (fun j hj => ?_)
  rw [Addr.add_lit]
  rw [cell_of_row _ _ _ _ _ _ h.1]
  simp [hj, encU]
set_option maxRecDepth 100000 in
theorem bits_any (n : Nat) (w : World) (hn : n < 262144) (h : w.cell? ⟨21, 7, none⟩ = some (.int .u8 3)) : Calls Tryz.prog 182 #[.slice none 0 0, .int .u64 (n : Int), .int .i64 8, .bool false, .bool false] w fun ev w' => ∃ s : ByteArray, ev = .returned (.tuple #[.slice none 0 0, .string s]) ∧ Hid (s.data.toList = octL n) ∧ Below w.heap.size w w' := by
  have hb0 : Below w.heap.size w (w.alloc (Obj.cells Tryz.zeroCells244 244)) := (Below.refl _ _).alloc (Nat.le_refl _) _
  have h7 : (w.alloc (Obj.cells Tryz.zeroCells244 244)).cell? ⟨21, 7, none⟩ = some (.int .u8 3) := cell_later hb0 h
  have ho0 := hide (oct_start w)
  go_enter Tryz.func182, Tryz.ntmps182
  go_wp2_with (first | (go_at_call 200; refine (pow2_8 _).mono ?_; rintro ev w1 ⟨rfl, rfl⟩) | (go_at_call 201; refine (tz_8 _ h7).mono ?_; rintro ev w1 ⟨rfl, rfl⟩))
  go_loopw [1, 13] (fun u i wr => ∃ (m k : Nat) (ds : List UInt8), u = .int .u64 (m : Int) ∧ i = .int .i64 (k : Int) ∧ Hid (OctIn wr w.heap.size k ds) ∧ Below w.heap.size w wr ∧ Hid (octL n = octL m ++ ds) ∧ (k = 65 ∧ m < 262144 ∨ k = 64 ∧ m < 32768 ∨ k = 63 ∧ m < 4096 ∨ k = 62 ∧ m < 512 ∨ k = 61 ∧ m < 64 ∨ k = 60 ∧ m < 8)) (fun u _ _ => (intOf u).toNat)
  case atStart => exact ⟨n, 65, [], rfl, rfl, ho0, hb0, hide (by simp), .inl ⟨rfl, hn⟩⟩
  case round =>
    obtain ⟨m, k, ds, rfl, rfl, HO, hb, HL, hc⟩ := hrel
    obtain ⟨z, HZ⟩ : ∃ z, Hid (k = z + 1) := ⟨k - 1, hide (by omega)⟩
    have w1 : IntKind.i64.wrap ((k : Int) - 1) = (z : Int) := by have := unhide HZ; rw [IntKind.wrap_i64] <;> omega
    have z0 : (0 : Int) ≤ (z : Int) := by omega
    have z1 : (z : Int) < 65 := by have := unhide HZ; omega
    have z2 : z ≤ 65 := by omega
    have HO2 : Hid (OctIn wr w.heap.size (z + 1) ds) := hide (by rw [← unhide HZ]; exact unhide HO)
    have c1 := (oct_cell (unhide HO2)).1
    have c2 := (oct_cell (unhide HO2)).2
    have HC := hide hc
    clear hc HO
    by_cases hm : m < 8
    · have hm2 : (m : Int) < 8 := by omega
      have m0 : (0 : Int) ≤ (m : Int) := by omega
      have m1 : (m : Int) < 36 := by omega
      have z3 : (z : Int) ≤ 65 := by omega
      have z4 : ¬ 65 = z := by omega
      have z5 : ¬ z = 65 := by omega
      go_upto_region 30 with fail
      obtain ⟨W', hW⟩ : ∃ W', W' = wr.setCell ⟨w.heap.size, z, none⟩ (.int .u8 ((digs[m]'(digs_lt hm)).toNat : Int)) := ⟨_, rfl⟩
      have HW : Hid (OctIn W' w.heap.size z (UInt8.ofNat (48 + m) :: ds)) := hide (by rw [hW, digs_at m hm]; exact oct_put (unhide HO2) _)
      have hbW : Below w.heap.size w W' := by rw [hW]; exact hb.setCell (p := ⟨w.heap.size, z, none⟩) (Nat.le_refl _) _
      refine wp_atW hW ?_
      clear hW
      have hcv := oct_back (unhide HW) (65 - z)
      have hlen : (UInt8.ofNat (48 + m) :: ds).length = 65 - z := by have := (unhide HW).2; omega
      rw [hlen] at hcv
      have HF : Hid ((UInt8.ofNat (48 + m) :: ds).toArray.toList = octL n) := hide (by rw [unhide HL, octL, if_pos hm]; simp)
      generalize (UInt8.ofNat (48 + m) :: ds).toArray = fin at hcv HF
      clear hlen
      go_wp2
      go_ret2
      exact ⟨_, rfl, HF, hbW⟩
    · have hm2 : (8 : Int) ≤ (m : Int) := by omega
      obtain ⟨r, er⟩ : ∃ r, r = m % 8 := ⟨_, rfl⟩
      obtain ⟨q, eq⟩ : ∃ q, q = m / 8 := ⟨_, rfl⟩
      have r8 : r < 8 := by omega
      have m0 : (0 : Int) ≤ (r : Int) := by omega
      have m1 : (r : Int) < 36 := by omega
      have m512 : m < 262144 := by have := unhide HC; omega
      have a7 : bits .and .u64 (m : Int) 7 = (r : Int) := by rw [and7 m m512, ← er]
      have d8 : (m : Int) / 8 = (q : Int) := by omega
      have HR : Hid (octL m = octL q ++ [UInt8.ofNat (48 + r)]) := hide (by rw [octL, if_neg hm, ← er, ← eq])
      have HQ : Hid (q < m ∧ (z = 64 ∧ q < 32768 ∨ z = 63 ∧ q < 4096 ∨ z = 62 ∧ q < 512 ∨ z = 61 ∧ q < 64 ∨ z = 60 ∧ q < 8)) := hide (by have := unhide HC; have := unhide HZ; omega)
      clear er eq
      go_wp2
      go_roundw
      case rel => exact ⟨q, z, _, rfl, rfl, hide (oct_put (unhide HO2) _), hb.setCell (p := ⟨w.heap.size, z, none⟩) (Nat.le_refl _) _, hide (by rw [unhide HL, unhide HR, ← digs_at r r8]; simp; rfl), by have := unhide HQ; omega⟩
      case measure => have := (unhide HQ).1; simp [intOf]; omega
end Go.Proofs.YtjofjcjojgpaeaaGreatDoor

namespace Go.Proofs.YtjofjcjojgpaeaaGreatDoor
open Go.RowKit
set_option maxRecDepth 100000 in
theorem fmtB_any (n : Nat) (w : World) (hn : n < 262144) (h : w.cell? ⟨21, 7, none⟩ = some (.int .u8 3)) : Calls Tryz.prog 157 #[.int .i64 (n : Int), .int .i64 8] w fun ev w' => ∃ s : ByteArray, ev = .returned (.string s) ∧ Hid (s.data.toList = octL n) ∧ Below w.heap.size w w' := by
  have e1 : IntKind.u64.wrap (n : Int) = (n : Int) := by rw [IntKind.wrap_u64]; omega
  have e2 : (0 : Int) ≤ (n : Int) := by omega
  have e3 : ¬ (n : Int) < 0 := by omega
  go_enter Tryz.func157, Tryz.ntmps157
  go_wp2_with (go_at_call 182; refine (bits_any n _ hn h).mono ?_; rintro ev w1 ⟨s, rfl, HS, hb⟩)
  go_ret
  exact ⟨_, rfl, HS, hb⟩
theorem fmt_any (n : Nat) (w : World) (hn : n < 262144) (h : w.cell? ⟨21, 7, none⟩ = some (.int .u8 3)) : Calls Tryz.prog 134 #[.int .i64 (n : Int), .int .i64 8] w fun ev w' => ∃ s : ByteArray, ev = .returned (.string s) ∧ Hid (s.data.toList = octL n) ∧ Below w.heap.size w w' := by
  go_enter Tryz.func134, Tryz.ntmps134
  go_wp2_with (go_at_call 157; refine (fmtB_any n _ hn h).mono ?_; rintro ev w1 ⟨s, rfl, HS, hb⟩)
  go_ret
  exact ⟨_, rfl, HS, hb⟩
end Go.Proofs.YtjofjcjojgpaeaaGreatDoor

namespace Go.Proofs
open Go.Shelf
def Tryz.lays169_ren : Go.Shelf.Ren := ⟨fun | 169 => 58 | n => n, fun | 70 => 107 | 9 => 9 | 0 => 0 | 72 => 109 | 37 => 41 | 127 => 151 | 3 => 3 | 5 => 5 | n => n, fun | n => n⟩
theorem Tryz.lays169 : Go.Proofs.Lays.n169 Tryz.prog Tryz.lays169_ren := {
  mixed := by kernel_rfl
  f169 := Tryz.func58.trans (congrArg some (by kernel_rfl))
  t0 := Tryz.underlying0
  a0 := Tryz.isAgg0
  z0 := Tryz.sizeOf0
  v0 := Tryz.zeroValue0
  t3 := Tryz.underlying3
  a3 := Tryz.isAgg3
  z3 := Tryz.sizeOf3
  v3 := Tryz.zeroValue3
  t9 := Tryz.underlying9
  a9 := Tryz.isAgg9
  z9 := Tryz.sizeOf9
  v9 := Tryz.zeroValue9
  t37 := Tryz.underlying41
  a37 := Tryz.isAgg41
  z37 := Tryz.sizeOf41
  v37 := Tryz.zeroValue41
  t70 := Tryz.underlying107
  a70 := Tryz.isAgg107
  z70 := Tryz.sizeOf107
  v70 := Tryz.zeroValue107
  t72 := Tryz.underlying109
  a72 := Tryz.isAgg109
  z72 := Tryz.sizeOf109
  v72 := Tryz.zeroValue109
  t127 := Tryz.underlying151
  a127 := Tryz.isAgg151
  z127 := Tryz.sizeOf151
  v127 := Tryz.zeroValue151 }
theorem Tryz.Builder_Extra_169 : Builder.Extra Tryz.prog Tryz.lays169_ren := {
  sizeBuilder := by kernel_rfl
  liesBuilder := by kernel_rfl
  t5 := Tryz.underlying5
  a5 := Tryz.isAgg5
  z5 := Tryz.sizeOf5
  v5 := Tryz.zeroValue5
  infoByte := by kernel_rfl
  cellsByte := by kernel_rfl
  sizeByte := by kernel_rfl
  neB5 := by decide }
open Go.RowKit in
theorem Tryz.Builder_String_any (B b : Nat) (l : List UInt8) (w : World) (h : Lib.IsBuilder 109 5 B b (Lib.byteCells l) w) (hBw : B ≤ w.heap.size) :
    Calls Tryz.prog 58 #[.pointer (some ⟨b, 0, none⟩)] w fun e w' => e = .returned (.string ⟨l.toArray⟩) ∧ Below B w w' := Any.Builder_String_any Tryz.lays169 Tryz.Builder_Extra_169 B b l w h hBw
def Tryz.lays105_ren : Go.Shelf.Ren := ⟨fun | 105 => 109 | 212 => 136 | 99 => 113 | 165 => 137 | 166 => 55 | 170 => 138 | 169 => 58 | 263 => 158 | 264 => 159 | 206 => 144 | 240 => 83 | 241 => 160 | 276 => 102 | 277 => 183 | n => n, fun | 9 => 9 | 3 => 3 | 4 => 4 | 20 => 20 | 0 => 0 | 46 => 158 | 109 => 193 | 5 => 5 | 72 => 109 | 76 => 110 | 51 => 185 | 146 => 202 | 53 => 187 | 148 => 215 | 70 => 107 | 37 => 41 | 75 => 52 | 127 => 151 | 164 => 88 | 80 => 113 | n => n, fun | n => n⟩
theorem Tryz.lays105 : Go.Proofs.Lays.n105 Tryz.prog Tryz.lays105_ren := {
  mixed := by kernel_rfl
  f99 := Tryz.func113.trans (congrArg some (by kernel_rfl))
  f105 := Tryz.func109.trans (congrArg some (by kernel_rfl))
  f165 := Tryz.func137.trans (congrArg some (by kernel_rfl))
  f166 := Tryz.func55.trans (congrArg some (by kernel_rfl))
  f169 := Tryz.func58.trans (congrArg some (by kernel_rfl))
  f170 := Tryz.func138.trans (congrArg some (by kernel_rfl))
  f206 := Tryz.func144.trans (congrArg some (by kernel_rfl))
  f212 := Tryz.func136.trans (congrArg some (by kernel_rfl))
  f240 := Tryz.func83.trans (congrArg some (by kernel_rfl))
  f241 := Tryz.func160.trans (congrArg some (by kernel_rfl))
  f263 := Tryz.func158.trans (congrArg some (by kernel_rfl))
  f264 := Tryz.func159.trans (congrArg some (by kernel_rfl))
  f276 := Tryz.func102.trans (congrArg some (by kernel_rfl))
  f277 := Tryz.func183.trans (congrArg some (by kernel_rfl))
  t0 := Tryz.underlying0
  a0 := Tryz.isAgg0
  z0 := Tryz.sizeOf0
  v0 := Tryz.zeroValue0
  t3 := Tryz.underlying3
  a3 := Tryz.isAgg3
  z3 := Tryz.sizeOf3
  v3 := Tryz.zeroValue3
  t4 := Tryz.underlying4
  a4 := Tryz.isAgg4
  z4 := Tryz.sizeOf4
  v4 := Tryz.zeroValue4
  t5 := Tryz.underlying5
  a5 := Tryz.isAgg5
  z5 := Tryz.sizeOf5
  v5 := Tryz.zeroValue5
  t9 := Tryz.underlying9
  a9 := Tryz.isAgg9
  z9 := Tryz.sizeOf9
  v9 := Tryz.zeroValue9
  t20 := Tryz.underlying20
  a20 := Tryz.isAgg20
  z20 := Tryz.sizeOf20
  v20 := Tryz.zeroValue20
  t37 := Tryz.underlying41
  a37 := Tryz.isAgg41
  z37 := Tryz.sizeOf41
  v37 := Tryz.zeroValue41
  t46 := Tryz.underlying158
  a46 := Tryz.isAgg158
  z46 := Tryz.sizeOf158
  v46 := Tryz.zeroValue158
  t51 := Tryz.underlying185
  a51 := Tryz.isAgg185
  z51 := Tryz.sizeOf185
  v51 := Tryz.zeroValue185
  t53 := Tryz.underlying187
  a53 := Tryz.isAgg187
  z53 := Tryz.sizeOf187
  v53 := Tryz.zeroValue187
  t70 := Tryz.underlying107
  a70 := Tryz.isAgg107
  z70 := Tryz.sizeOf107
  v70 := Tryz.zeroValue107
  t72 := Tryz.underlying109
  a72 := Tryz.isAgg109
  z72 := Tryz.sizeOf109
  v72 := Tryz.zeroValue109
  t75 := Tryz.underlying52
  a75 := Tryz.isAgg52
  z75 := Tryz.sizeOf52
  v75 := Tryz.zeroValue52
  t76 := Tryz.underlying110
  a76 := Tryz.isAgg110
  z76 := Tryz.sizeOf110
  v76 := Tryz.zeroValue110
  t109 := Tryz.underlying193
  a109 := Tryz.isAgg193
  z109 := Tryz.sizeOf193
  v109 := Tryz.zeroValue193
  t127 := Tryz.underlying151
  a127 := Tryz.isAgg151
  z127 := Tryz.sizeOf151
  v127 := Tryz.zeroValue151
  t146 := Tryz.underlying202
  a146 := Tryz.isAgg202
  z146 := Tryz.sizeOf202
  v146 := Tryz.zeroValue202
  t148 := Tryz.underlying215
  a148 := Tryz.isAgg215
  z148 := Tryz.sizeOf215
  v148 := Tryz.zeroValue215
  t164 := Tryz.underlying88
  a164 := Tryz.isAgg88
  z164 := Tryz.sizeOf88
  v164 := Tryz.zeroValue88 }
theorem Tryz.Builder_Extra_105 : Builder.Extra Tryz.prog Tryz.lays105_ren := {
  sizeBuilder := by kernel_rfl
  liesBuilder := by kernel_rfl
  t5 := Tryz.underlying5
  a5 := Tryz.isAgg5
  z5 := Tryz.sizeOf5
  v5 := Tryz.zeroValue5
  infoByte := by kernel_rfl
  cellsByte := by kernel_rfl
  sizeByte := by kernel_rfl
  neB5 := by decide }
open Go.RowKit Go.Lib in
theorem Tryz.strings_Repeat (s : ByteArray) (c : Nat) (w : World) (hc : c ≤ 9223372036854775807) (hlen : s.size * c ≤ 140737488355328) :
    Calls Tryz.prog 109 #[.string s, .int .i64 c] w fun e w' => e = .returned (.string ⟨(Lib.repeatL s.data.toList c).toArray⟩) ∧ Below w.heap.size w w' := Any.strings_Repeat Tryz.lays105 Tryz.Builder_Extra_105 s c w hc hlen
end Go.Proofs

namespace Go.Proofs.YtjofjcjojgpaeaaGreatDoor
open Go.RowKit

theorem rep_one (x : UInt8) (c : Nat) : Lib.repeatL [x] c = List.replicate c x := by
  induction c with
  | zero => rfl
  | succ c ih => simp [Lib.repeatL, List.replicate_succ] at ih ⊢; exact ih
theorem repeat_any (x : UInt8) (c : Nat) (w : World) (hc : c ≤ 1048576) :
    Calls Tryz.prog 109 #[.string ⟨#[x]⟩, .int .i64 c] w fun ev w' => ev = .returned (.string (bt (List.replicate c x))) ∧ Below w.heap.size w w' := by
  refine (Tryz.strings_Repeat ⟨#[x]⟩ c w (by omega) (by show 1 * c ≤ _; omega)).mono ?_
  rintro e w' ⟨rfl, hb⟩
  refine ⟨?_, hb⟩
  rw [show (⟨#[x]⟩ : ByteArray).data.toList = [x] from rfl, rep_one]; rfl
set_option maxHeartbeats 1000000 in
set_option maxRecDepth 10000 in
theorem setNumber_any (b o n v : Nat) (A X B : List UInt8) (w : World) (hk : Blk w b (A ++ X ++ B)) (hA : A.length = o) (hX : X.length = n) (h0 : 0 < n) (hv : v < 262144) (hd : (octL v).length + 1 ≤ n) (h20 : w.cell? ⟨21, 7, none⟩ = some (.int .u8 3)) :
    Calls Tryz.prog 105 #[.pointer (some ⟨b, 0, none⟩), .agg #[.int .i64 (o : Nat), .int .i64 (n : Nat)], .int .i64 v] w fun ev w' => ev = .returned (.tuple #[]) ∧ Hid (Blk w' b (A ++ digL v (n - 1) ++ B)) ∧ w.grownBy w' (some b) := by
  have hl := hk.2
  simp only [List.length_append] at hl
  have hn5 : n ≤ 512 := by omega
  have HK := hide hk
  have HA := hide hA
  have HX := hide hX
  obtain ⟨W0, hW0⟩ : ∃ W0, W0 = w.alloc (.cells #[.int .i64 (o : Nat), .int .i64 (n : Nat)] 168) := ⟨_, rfl⟩
  have hB0 : Below w.heap.size w W0 := by rw [hW0]; exact (Below.refl _ _).alloc (Nat.le_refl _) _
  have q0 : W0.cell? ⟨w.heap.size, 0, none⟩ = some (.int .i64 (o : Nat)) := by rw [hW0]; exact cell_of_row _ _ 0 _ _ _ (heap_alloc_new _ _)
  have q1 : W0.cell? ⟨w.heap.size, 1, none⟩ = some (.int .i64 (n : Nat)) := by rw [hW0]; exact cell_of_row _ _ 1 _ _ _ (heap_alloc_new _ _)
  have hf := fmt_any v W0 hv (cell_later hB0 h20)
  clear hk hA hX hl h20
  go_enter Tryz.func105, Tryz.ntmps105
  go_upto_region 1 with fail
  rw [← hW0]
  clear hW0
  go_upto_region 2 with (go_at_call 134; refine hf.mono ?_; clear hf; rintro ev w1 ⟨ds, rfl, HDS, hb1⟩; have q0 := cell_later hb1 q0; have q1 := cell_later hb1 q1)
  have hdz : ds.size = (octL v).length := by rw [Lib.size_eq, unhide HDS]
  obtain ⟨z, hz⟩ : ∃ z : Nat, z = n - 1 - (octL v).length := ⟨_, rfl⟩
  have e1 : (n : Int) - 1 - (ds.size : Int) = (z : Int) := by omega
  have hz5 : z ≤ 512 := by omega
  have HZ := hide hz
  have HDZ := hide hdz
  have hds5 : ds.size ≤ 512 := by omega
  have hB1 := hB0.trans (hb1.mono hB0.size)
  clear hz hd hdz
  have hRp := repeat_any 48 z w1 (by omega)
  go_upto_region 3 with (go_at_call 109; refine hRp.mono ?_; clear hRp; rintro ev w2 ⟨rfl, hb2⟩; have q0 := cell_later hb2 q0; have q1 := cell_later hb2 q1)
  obtain ⟨zs, hzs⟩ : ∃ zs, zs = bt (List.replicate z 48) := ⟨_, rfl⟩
  rw [← hzs]
  have hzz : zs.size = z := by rw [hzs, bt_size, List.length_replicate]
  have hB2 := hB1.trans (hb2.mono hB1.size)
  have HT : Hid ((zs ++ ds ++ (⟨#[0]⟩ : ByteArray)).data.toList = digL v (n - 1)) := hide (by
    rw [hzs, ← bt_of ds, unhide HDS, show (⟨#[0]⟩ : ByteArray) = bt [0] from rfl, bt_app, bt_app, bt_list, digL, unhide HZ])
  have hsz : (zs ++ ds ++ (⟨#[0]⟩ : ByteArray)).size = n := by
    have := unhide HZ
    have := unhide HDZ
    rw [ByteArray.size_append, ByteArray.size_append, hzz]
    show z + ds.size + 1 = n
    omega
  have hS := setText_any b o n A X B (zs ++ ds ++ (⟨#[0]⟩ : ByteArray)) w2 ((unhide HK).below hB2) (unhide HA) (unhide HX) (by omega) h0
  have HSZ := hide hsz
  clear hzs hsz
  go_wp2_with (go_at_call 107; refine hS.mono ?_; clear hS; rintro ev w3 ⟨rfl, HB3, hg3⟩)
  go_end0
  refine ⟨rfl, hide ?_, grown_trans (grown_below hB2) hg3⟩
  have h := unhide HB3
  rw [unhide HT, unhide HSZ, List.drop_of_length_le (by rw [unhide HX]; exact Nat.le_refl _), List.append_nil] at h
  exact h
/-- The parts of a header. -/
structure Hd where
  nm : List UInt8
  md : List UInt8
  us : List UInt8
  gr : List UInt8
  sz : List UInt8
  tm : List UInt8
  ck : List UInt8
  kd : List UInt8
  lk : List UInt8
  mg : List UInt8
  nn : List UInt8
  d1 : List UInt8
  d2 : List UInt8
  ah : List UInt8
  en : List UInt8
/-- A header's bytes. -/
def hdB (h : Hd) : List UInt8 := h.nm ++ (h.md ++ (h.us ++ (h.gr ++ (h.sz ++ (h.tm ++ (h.ck ++ (h.kd ++ (h.lk ++ (h.mg ++ (h.nn ++ (h.d1 ++ (h.d2 ++ (h.ah ++ (h.en))))))))))))))
structure HdOk (h : Hd) : Prop where
  nm : h.nm.length = 100
  md : h.md.length = 8
  us : h.us.length = 8
  gr : h.gr.length = 8
  sz : h.sz.length = 12
  tm : h.tm.length = 12
  ck : h.ck.length = 8
  kd : h.kd.length = 1
  lk : h.lk.length = 100
  mg : h.mg.length = 8
  nn : h.nn.length = 64
  d1 : h.d1.length = 8
  d2 : h.d2.length = 8
  ah : h.ah.length = 155
  en : h.en.length = 12
def hd0 : Hd := ⟨List.replicate 100 0, List.replicate 8 0, List.replicate 8 0, List.replicate 8 0, List.replicate 12 0, List.replicate 12 0, List.replicate 8 0, List.replicate 1 0, List.replicate 100 0, List.replicate 8 0, List.replicate 64 0, List.replicate 8 0, List.replicate 8 0, List.replicate 155 0, List.replicate 12 0⟩
theorem hd0_ok : HdOk hd0 := ⟨rfl, rfl, rfl, rfl, rfl, rfl, rfl, rfl, rfl, rfl, rfl, rfl, rfl, rfl, rfl⟩
theorem hd0_eq : hdB hd0 = List.replicate 512 0 := by decide +kernel
theorem hdr_nm (h : Hd) (x : List UInt8) : hdB { h with nm := x } = (([] : List UInt8)) ++ x ++ (h.md ++ h.us ++ h.gr ++ h.sz ++ h.tm ++ h.ck ++ h.kd ++ h.lk ++ h.mg ++ h.nn ++ h.d1 ++ h.d2 ++ h.ah ++ h.en) := by
  simp [hdB, List.append_assoc]
theorem at_nm {h : Hd} (_ : HdOk h) : (([] : List UInt8)).length = 0 := by
  simp []
theorem txt_nm (h : Hd) (ok : HdOk h) (s : ByteArray) (b : Nat) (w : World) (hk : Blk w b (hdB h)) (hs : s.size ≤ 100) :
    Calls Tryz.prog 107 #[.pointer (some ⟨b, 0, none⟩), .agg #[.int .i64 0, .int .i64 100], .string s] w fun ev w' => ev = .returned (.tuple #[]) ∧ Hid (Blk w' b (hdB { h with nm := s.data.toList ++ h.nm.drop s.size })) ∧ w.grownBy w' (some b) := by
  rw [hdr_nm]
  exact setText_any b 0 100 _ h.nm _ s w (by rw [← hdr_nm]; exact hk) (at_nm ok) ok.nm hs (by omega)
theorem hdr_md (h : Hd) (x : List UInt8) : hdB { h with md := x } = (h.nm) ++ x ++ (h.us ++ h.gr ++ h.sz ++ h.tm ++ h.ck ++ h.kd ++ h.lk ++ h.mg ++ h.nn ++ h.d1 ++ h.d2 ++ h.ah ++ h.en) := by
  simp [hdB, List.append_assoc]
theorem at_md {h : Hd} (ok : HdOk h) : (h.nm).length = 100 := by
  simp [ok.nm]
theorem txt_md (h : Hd) (ok : HdOk h) (s : ByteArray) (b : Nat) (w : World) (hk : Blk w b (hdB h)) (hs : s.size ≤ 8) :
    Calls Tryz.prog 107 #[.pointer (some ⟨b, 0, none⟩), .agg #[.int .i64 100, .int .i64 8], .string s] w fun ev w' => ev = .returned (.tuple #[]) ∧ Hid (Blk w' b (hdB { h with md := s.data.toList ++ h.md.drop s.size })) ∧ w.grownBy w' (some b) := by
  rw [hdr_md]
  exact setText_any b 100 8 _ h.md _ s w (by rw [← hdr_md]; exact hk) (at_md ok) ok.md hs (by omega)
theorem num_md (h : Hd) (ok : HdOk h) (v b : Nat) (w : World) (hk : Blk w b (hdB h)) (hv : v < 262144) (h20 : w.cell? ⟨21, 7, none⟩ = some (.int .u8 3)) :
    Calls Tryz.prog 105 #[.pointer (some ⟨b, 0, none⟩), .agg #[.int .i64 100, .int .i64 8], .int .i64 v] w fun ev w' => ev = .returned (.tuple #[]) ∧ Hid (Blk w' b (hdB { h with md := digL v 7 })) ∧ w.grownBy w' (some b) := by
  rw [hdr_md]
  exact setNumber_any b 100 8 v _ h.md _ w (by rw [← hdr_md]; exact hk) (at_md ok) ok.md (by omega) hv (by have := octL_lt 5 v (by simpa using hv); omega) h20
theorem hdr_us (h : Hd) (x : List UInt8) : hdB { h with us := x } = (h.nm ++ h.md) ++ x ++ (h.gr ++ h.sz ++ h.tm ++ h.ck ++ h.kd ++ h.lk ++ h.mg ++ h.nn ++ h.d1 ++ h.d2 ++ h.ah ++ h.en) := by
  simp [hdB, List.append_assoc]
theorem at_us {h : Hd} (ok : HdOk h) : (h.nm ++ h.md).length = 108 := by
  simp [ok.nm, ok.md]
theorem txt_us (h : Hd) (ok : HdOk h) (s : ByteArray) (b : Nat) (w : World) (hk : Blk w b (hdB h)) (hs : s.size ≤ 8) :
    Calls Tryz.prog 107 #[.pointer (some ⟨b, 0, none⟩), .agg #[.int .i64 108, .int .i64 8], .string s] w fun ev w' => ev = .returned (.tuple #[]) ∧ Hid (Blk w' b (hdB { h with us := s.data.toList ++ h.us.drop s.size })) ∧ w.grownBy w' (some b) := by
  rw [hdr_us]
  exact setText_any b 108 8 _ h.us _ s w (by rw [← hdr_us]; exact hk) (at_us ok) ok.us hs (by omega)
theorem num_us (h : Hd) (ok : HdOk h) (v b : Nat) (w : World) (hk : Blk w b (hdB h)) (hv : v < 262144) (h20 : w.cell? ⟨21, 7, none⟩ = some (.int .u8 3)) :
    Calls Tryz.prog 105 #[.pointer (some ⟨b, 0, none⟩), .agg #[.int .i64 108, .int .i64 8], .int .i64 v] w fun ev w' => ev = .returned (.tuple #[]) ∧ Hid (Blk w' b (hdB { h with us := digL v 7 })) ∧ w.grownBy w' (some b) := by
  rw [hdr_us]
  exact setNumber_any b 108 8 v _ h.us _ w (by rw [← hdr_us]; exact hk) (at_us ok) ok.us (by omega) hv (by have := octL_lt 5 v (by simpa using hv); omega) h20
theorem hdr_gr (h : Hd) (x : List UInt8) : hdB { h with gr := x } = (h.nm ++ h.md ++ h.us) ++ x ++ (h.sz ++ h.tm ++ h.ck ++ h.kd ++ h.lk ++ h.mg ++ h.nn ++ h.d1 ++ h.d2 ++ h.ah ++ h.en) := by
  simp [hdB, List.append_assoc]
theorem at_gr {h : Hd} (ok : HdOk h) : (h.nm ++ h.md ++ h.us).length = 116 := by
  simp [ok.nm, ok.md, ok.us]
theorem txt_gr (h : Hd) (ok : HdOk h) (s : ByteArray) (b : Nat) (w : World) (hk : Blk w b (hdB h)) (hs : s.size ≤ 8) :
    Calls Tryz.prog 107 #[.pointer (some ⟨b, 0, none⟩), .agg #[.int .i64 116, .int .i64 8], .string s] w fun ev w' => ev = .returned (.tuple #[]) ∧ Hid (Blk w' b (hdB { h with gr := s.data.toList ++ h.gr.drop s.size })) ∧ w.grownBy w' (some b) := by
  rw [hdr_gr]
  exact setText_any b 116 8 _ h.gr _ s w (by rw [← hdr_gr]; exact hk) (at_gr ok) ok.gr hs (by omega)
theorem num_gr (h : Hd) (ok : HdOk h) (v b : Nat) (w : World) (hk : Blk w b (hdB h)) (hv : v < 262144) (h20 : w.cell? ⟨21, 7, none⟩ = some (.int .u8 3)) :
    Calls Tryz.prog 105 #[.pointer (some ⟨b, 0, none⟩), .agg #[.int .i64 116, .int .i64 8], .int .i64 v] w fun ev w' => ev = .returned (.tuple #[]) ∧ Hid (Blk w' b (hdB { h with gr := digL v 7 })) ∧ w.grownBy w' (some b) := by
  rw [hdr_gr]
  exact setNumber_any b 116 8 v _ h.gr _ w (by rw [← hdr_gr]; exact hk) (at_gr ok) ok.gr (by omega) hv (by have := octL_lt 5 v (by simpa using hv); omega) h20
theorem hdr_sz (h : Hd) (x : List UInt8) : hdB { h with sz := x } = (h.nm ++ h.md ++ h.us ++ h.gr) ++ x ++ (h.tm ++ h.ck ++ h.kd ++ h.lk ++ h.mg ++ h.nn ++ h.d1 ++ h.d2 ++ h.ah ++ h.en) := by
  simp [hdB, List.append_assoc]
theorem at_sz {h : Hd} (ok : HdOk h) : (h.nm ++ h.md ++ h.us ++ h.gr).length = 124 := by
  simp [ok.nm, ok.md, ok.us, ok.gr]
theorem txt_sz (h : Hd) (ok : HdOk h) (s : ByteArray) (b : Nat) (w : World) (hk : Blk w b (hdB h)) (hs : s.size ≤ 12) :
    Calls Tryz.prog 107 #[.pointer (some ⟨b, 0, none⟩), .agg #[.int .i64 124, .int .i64 12], .string s] w fun ev w' => ev = .returned (.tuple #[]) ∧ Hid (Blk w' b (hdB { h with sz := s.data.toList ++ h.sz.drop s.size })) ∧ w.grownBy w' (some b) := by
  rw [hdr_sz]
  exact setText_any b 124 12 _ h.sz _ s w (by rw [← hdr_sz]; exact hk) (at_sz ok) ok.sz hs (by omega)
theorem num_sz (h : Hd) (ok : HdOk h) (v b : Nat) (w : World) (hk : Blk w b (hdB h)) (hv : v < 262144) (h20 : w.cell? ⟨21, 7, none⟩ = some (.int .u8 3)) :
    Calls Tryz.prog 105 #[.pointer (some ⟨b, 0, none⟩), .agg #[.int .i64 124, .int .i64 12], .int .i64 v] w fun ev w' => ev = .returned (.tuple #[]) ∧ Hid (Blk w' b (hdB { h with sz := digL v 11 })) ∧ w.grownBy w' (some b) := by
  rw [hdr_sz]
  exact setNumber_any b 124 12 v _ h.sz _ w (by rw [← hdr_sz]; exact hk) (at_sz ok) ok.sz (by omega) hv (by have := octL_lt 5 v (by simpa using hv); omega) h20
theorem hdr_tm (h : Hd) (x : List UInt8) : hdB { h with tm := x } = (h.nm ++ h.md ++ h.us ++ h.gr ++ h.sz) ++ x ++ (h.ck ++ h.kd ++ h.lk ++ h.mg ++ h.nn ++ h.d1 ++ h.d2 ++ h.ah ++ h.en) := by
  simp [hdB, List.append_assoc]
theorem at_tm {h : Hd} (ok : HdOk h) : (h.nm ++ h.md ++ h.us ++ h.gr ++ h.sz).length = 136 := by
  simp [ok.nm, ok.md, ok.us, ok.gr, ok.sz]
theorem txt_tm (h : Hd) (ok : HdOk h) (s : ByteArray) (b : Nat) (w : World) (hk : Blk w b (hdB h)) (hs : s.size ≤ 12) :
    Calls Tryz.prog 107 #[.pointer (some ⟨b, 0, none⟩), .agg #[.int .i64 136, .int .i64 12], .string s] w fun ev w' => ev = .returned (.tuple #[]) ∧ Hid (Blk w' b (hdB { h with tm := s.data.toList ++ h.tm.drop s.size })) ∧ w.grownBy w' (some b) := by
  rw [hdr_tm]
  exact setText_any b 136 12 _ h.tm _ s w (by rw [← hdr_tm]; exact hk) (at_tm ok) ok.tm hs (by omega)
theorem num_tm (h : Hd) (ok : HdOk h) (v b : Nat) (w : World) (hk : Blk w b (hdB h)) (hv : v < 262144) (h20 : w.cell? ⟨21, 7, none⟩ = some (.int .u8 3)) :
    Calls Tryz.prog 105 #[.pointer (some ⟨b, 0, none⟩), .agg #[.int .i64 136, .int .i64 12], .int .i64 v] w fun ev w' => ev = .returned (.tuple #[]) ∧ Hid (Blk w' b (hdB { h with tm := digL v 11 })) ∧ w.grownBy w' (some b) := by
  rw [hdr_tm]
  exact setNumber_any b 136 12 v _ h.tm _ w (by rw [← hdr_tm]; exact hk) (at_tm ok) ok.tm (by omega) hv (by have := octL_lt 5 v (by simpa using hv); omega) h20
theorem hdr_ck (h : Hd) (x : List UInt8) : hdB { h with ck := x } = (h.nm ++ h.md ++ h.us ++ h.gr ++ h.sz ++ h.tm) ++ x ++ (h.kd ++ h.lk ++ h.mg ++ h.nn ++ h.d1 ++ h.d2 ++ h.ah ++ h.en) := by
  simp [hdB, List.append_assoc]
theorem at_ck {h : Hd} (ok : HdOk h) : (h.nm ++ h.md ++ h.us ++ h.gr ++ h.sz ++ h.tm).length = 148 := by
  simp [ok.nm, ok.md, ok.us, ok.gr, ok.sz, ok.tm]
theorem txt_ck (h : Hd) (ok : HdOk h) (s : ByteArray) (b : Nat) (w : World) (hk : Blk w b (hdB h)) (hs : s.size ≤ 8) :
    Calls Tryz.prog 107 #[.pointer (some ⟨b, 0, none⟩), .agg #[.int .i64 148, .int .i64 8], .string s] w fun ev w' => ev = .returned (.tuple #[]) ∧ Hid (Blk w' b (hdB { h with ck := s.data.toList ++ h.ck.drop s.size })) ∧ w.grownBy w' (some b) := by
  rw [hdr_ck]
  exact setText_any b 148 8 _ h.ck _ s w (by rw [← hdr_ck]; exact hk) (at_ck ok) ok.ck hs (by omega)
theorem hdr_kd (h : Hd) (x : List UInt8) : hdB { h with kd := x } = (h.nm ++ h.md ++ h.us ++ h.gr ++ h.sz ++ h.tm ++ h.ck) ++ x ++ (h.lk ++ h.mg ++ h.nn ++ h.d1 ++ h.d2 ++ h.ah ++ h.en) := by
  simp [hdB, List.append_assoc]
theorem at_kd {h : Hd} (ok : HdOk h) : (h.nm ++ h.md ++ h.us ++ h.gr ++ h.sz ++ h.tm ++ h.ck).length = 156 := by
  simp [ok.nm, ok.md, ok.us, ok.gr, ok.sz, ok.tm, ok.ck]
theorem txt_kd (h : Hd) (ok : HdOk h) (s : ByteArray) (b : Nat) (w : World) (hk : Blk w b (hdB h)) (hs : s.size ≤ 1) :
    Calls Tryz.prog 107 #[.pointer (some ⟨b, 0, none⟩), .agg #[.int .i64 156, .int .i64 1], .string s] w fun ev w' => ev = .returned (.tuple #[]) ∧ Hid (Blk w' b (hdB { h with kd := s.data.toList ++ h.kd.drop s.size })) ∧ w.grownBy w' (some b) := by
  rw [hdr_kd]
  exact setText_any b 156 1 _ h.kd _ s w (by rw [← hdr_kd]; exact hk) (at_kd ok) ok.kd hs (by omega)
theorem hdr_lk (h : Hd) (x : List UInt8) : hdB { h with lk := x } = (h.nm ++ h.md ++ h.us ++ h.gr ++ h.sz ++ h.tm ++ h.ck ++ h.kd) ++ x ++ (h.mg ++ h.nn ++ h.d1 ++ h.d2 ++ h.ah ++ h.en) := by
  simp [hdB, List.append_assoc]
theorem at_lk {h : Hd} (ok : HdOk h) : (h.nm ++ h.md ++ h.us ++ h.gr ++ h.sz ++ h.tm ++ h.ck ++ h.kd).length = 157 := by
  simp [ok.nm, ok.md, ok.us, ok.gr, ok.sz, ok.tm, ok.ck, ok.kd]
theorem txt_lk (h : Hd) (ok : HdOk h) (s : ByteArray) (b : Nat) (w : World) (hk : Blk w b (hdB h)) (hs : s.size ≤ 100) :
    Calls Tryz.prog 107 #[.pointer (some ⟨b, 0, none⟩), .agg #[.int .i64 157, .int .i64 100], .string s] w fun ev w' => ev = .returned (.tuple #[]) ∧ Hid (Blk w' b (hdB { h with lk := s.data.toList ++ h.lk.drop s.size })) ∧ w.grownBy w' (some b) := by
  rw [hdr_lk]
  exact setText_any b 157 100 _ h.lk _ s w (by rw [← hdr_lk]; exact hk) (at_lk ok) ok.lk hs (by omega)
theorem hdr_mg (h : Hd) (x : List UInt8) : hdB { h with mg := x } = (h.nm ++ h.md ++ h.us ++ h.gr ++ h.sz ++ h.tm ++ h.ck ++ h.kd ++ h.lk) ++ x ++ (h.nn ++ h.d1 ++ h.d2 ++ h.ah ++ h.en) := by
  simp [hdB, List.append_assoc]
theorem at_mg {h : Hd} (ok : HdOk h) : (h.nm ++ h.md ++ h.us ++ h.gr ++ h.sz ++ h.tm ++ h.ck ++ h.kd ++ h.lk).length = 257 := by
  simp [ok.nm, ok.md, ok.us, ok.gr, ok.sz, ok.tm, ok.ck, ok.kd, ok.lk]
theorem txt_mg (h : Hd) (ok : HdOk h) (s : ByteArray) (b : Nat) (w : World) (hk : Blk w b (hdB h)) (hs : s.size ≤ 8) :
    Calls Tryz.prog 107 #[.pointer (some ⟨b, 0, none⟩), .agg #[.int .i64 257, .int .i64 8], .string s] w fun ev w' => ev = .returned (.tuple #[]) ∧ Hid (Blk w' b (hdB { h with mg := s.data.toList ++ h.mg.drop s.size })) ∧ w.grownBy w' (some b) := by
  rw [hdr_mg]
  exact setText_any b 257 8 _ h.mg _ s w (by rw [← hdr_mg]; exact hk) (at_mg ok) ok.mg hs (by omega)
theorem hdr_d1 (h : Hd) (x : List UInt8) : hdB { h with d1 := x } = (h.nm ++ h.md ++ h.us ++ h.gr ++ h.sz ++ h.tm ++ h.ck ++ h.kd ++ h.lk ++ h.mg ++ h.nn) ++ x ++ (h.d2 ++ h.ah ++ h.en) := by
  simp [hdB, List.append_assoc]
theorem at_d1 {h : Hd} (ok : HdOk h) : (h.nm ++ h.md ++ h.us ++ h.gr ++ h.sz ++ h.tm ++ h.ck ++ h.kd ++ h.lk ++ h.mg ++ h.nn).length = 329 := by
  simp [ok.nm, ok.md, ok.us, ok.gr, ok.sz, ok.tm, ok.ck, ok.kd, ok.lk, ok.mg, ok.nn]
theorem txt_d1 (h : Hd) (ok : HdOk h) (s : ByteArray) (b : Nat) (w : World) (hk : Blk w b (hdB h)) (hs : s.size ≤ 8) :
    Calls Tryz.prog 107 #[.pointer (some ⟨b, 0, none⟩), .agg #[.int .i64 329, .int .i64 8], .string s] w fun ev w' => ev = .returned (.tuple #[]) ∧ Hid (Blk w' b (hdB { h with d1 := s.data.toList ++ h.d1.drop s.size })) ∧ w.grownBy w' (some b) := by
  rw [hdr_d1]
  exact setText_any b 329 8 _ h.d1 _ s w (by rw [← hdr_d1]; exact hk) (at_d1 ok) ok.d1 hs (by omega)
theorem num_d1 (h : Hd) (ok : HdOk h) (v b : Nat) (w : World) (hk : Blk w b (hdB h)) (hv : v < 262144) (h20 : w.cell? ⟨21, 7, none⟩ = some (.int .u8 3)) :
    Calls Tryz.prog 105 #[.pointer (some ⟨b, 0, none⟩), .agg #[.int .i64 329, .int .i64 8], .int .i64 v] w fun ev w' => ev = .returned (.tuple #[]) ∧ Hid (Blk w' b (hdB { h with d1 := digL v 7 })) ∧ w.grownBy w' (some b) := by
  rw [hdr_d1]
  exact setNumber_any b 329 8 v _ h.d1 _ w (by rw [← hdr_d1]; exact hk) (at_d1 ok) ok.d1 (by omega) hv (by have := octL_lt 5 v (by simpa using hv); omega) h20
theorem hdr_d2 (h : Hd) (x : List UInt8) : hdB { h with d2 := x } = (h.nm ++ h.md ++ h.us ++ h.gr ++ h.sz ++ h.tm ++ h.ck ++ h.kd ++ h.lk ++ h.mg ++ h.nn ++ h.d1) ++ x ++ (h.ah ++ h.en) := by
  simp [hdB, List.append_assoc]
theorem at_d2 {h : Hd} (ok : HdOk h) : (h.nm ++ h.md ++ h.us ++ h.gr ++ h.sz ++ h.tm ++ h.ck ++ h.kd ++ h.lk ++ h.mg ++ h.nn ++ h.d1).length = 337 := by
  simp [ok.nm, ok.md, ok.us, ok.gr, ok.sz, ok.tm, ok.ck, ok.kd, ok.lk, ok.mg, ok.nn, ok.d1]
theorem txt_d2 (h : Hd) (ok : HdOk h) (s : ByteArray) (b : Nat) (w : World) (hk : Blk w b (hdB h)) (hs : s.size ≤ 8) :
    Calls Tryz.prog 107 #[.pointer (some ⟨b, 0, none⟩), .agg #[.int .i64 337, .int .i64 8], .string s] w fun ev w' => ev = .returned (.tuple #[]) ∧ Hid (Blk w' b (hdB { h with d2 := s.data.toList ++ h.d2.drop s.size })) ∧ w.grownBy w' (some b) := by
  rw [hdr_d2]
  exact setText_any b 337 8 _ h.d2 _ s w (by rw [← hdr_d2]; exact hk) (at_d2 ok) ok.d2 hs (by omega)
theorem num_d2 (h : Hd) (ok : HdOk h) (v b : Nat) (w : World) (hk : Blk w b (hdB h)) (hv : v < 262144) (h20 : w.cell? ⟨21, 7, none⟩ = some (.int .u8 3)) :
    Calls Tryz.prog 105 #[.pointer (some ⟨b, 0, none⟩), .agg #[.int .i64 337, .int .i64 8], .int .i64 v] w fun ev w' => ev = .returned (.tuple #[]) ∧ Hid (Blk w' b (hdB { h with d2 := digL v 7 })) ∧ w.grownBy w' (some b) := by
  rw [hdr_d2]
  exact setNumber_any b 337 8 v _ h.d2 _ w (by rw [← hdr_d2]; exact hk) (at_d2 ok) ok.d2 (by omega) hv (by have := octL_lt 5 v (by simpa using hv); omega) h20
theorem hdr_ah (h : Hd) (x : List UInt8) : hdB { h with ah := x } = (h.nm ++ h.md ++ h.us ++ h.gr ++ h.sz ++ h.tm ++ h.ck ++ h.kd ++ h.lk ++ h.mg ++ h.nn ++ h.d1 ++ h.d2) ++ x ++ (h.en) := by
  simp [hdB, List.append_assoc]
theorem at_ah {h : Hd} (ok : HdOk h) : (h.nm ++ h.md ++ h.us ++ h.gr ++ h.sz ++ h.tm ++ h.ck ++ h.kd ++ h.lk ++ h.mg ++ h.nn ++ h.d1 ++ h.d2).length = 345 := by
  simp [ok.nm, ok.md, ok.us, ok.gr, ok.sz, ok.tm, ok.ck, ok.kd, ok.lk, ok.mg, ok.nn, ok.d1, ok.d2]
theorem txt_ah (h : Hd) (ok : HdOk h) (s : ByteArray) (b : Nat) (w : World) (hk : Blk w b (hdB h)) (hs : s.size ≤ 155) :
    Calls Tryz.prog 107 #[.pointer (some ⟨b, 0, none⟩), .agg #[.int .i64 345, .int .i64 155], .string s] w fun ev w' => ev = .returned (.tuple #[]) ∧ Hid (Blk w' b (hdB { h with ah := s.data.toList ++ h.ah.drop s.size })) ∧ w.grownBy w' (some b) := by
  rw [hdr_ah]
  exact setText_any b 345 155 _ h.ah _ s w (by rw [← hdr_ah]; exact hk) (at_ah ok) ok.ah hs (by omega)
end Go.Proofs.YtjofjcjojgpaeaaGreatDoor
