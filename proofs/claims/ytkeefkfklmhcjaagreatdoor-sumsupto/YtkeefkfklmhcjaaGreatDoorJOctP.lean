import Derived.Test.YtkeefkfklmhcjaaGreatDoorTreeP
import Derived.Test.YtkeefkfklmhcjaaGreatDoorJLeaf
import Derived.Lib.ConvBytes
import Derived.Shelf.Bits.Mul64
import Derived.Handy
import Derived.Test.YtkeefkfklmhcjaaGreatDoorShaP
import Derived.Laws.BitsAllLaws
import Derived.Test.YtkeefkfklmhcjaaGreatDoorShelfC
namespace Go.Proofs.YtkeefkfklmhcjaaGreatDoor
open Go.RowKit

def octL (n : Nat) : List UInt8 := if n < 8 then [UInt8.ofNat (48 + n)] else octL (n / 8) ++ [UInt8.ofNat (48 + n % 8)]
def decL (n : Nat) : List UInt8 := if n < 10 then [UInt8.ofNat (48 + n)] else decL (n / 10) ++ [UInt8.ofNat (48 + n % 10)]
end Go.Proofs.YtkeefkfklmhcjaaGreatDoor

namespace Go.Proofs.YtkeefkfklmhcjaaGreatDoor
open Go.RowKit

theorem pow2_8 (w : World) : Calls Tryz.prog 228 #[.int .i64 8] w fun ev w' => ev = .returned (.bool true) ∧ w' = w := by
  have e1 : bits .and .i64 8 7 = 0 := by rfl
  go_enter Tryz.func228, Tryz.ntmps228
  go_wp2
  go_ret
  simp
theorem tz64_8 (w : World) (h : w.cell? ⟨20, 7, none⟩ = some (.int .u8 3)) : Calls Tryz.prog 250 #[.int .u64 8] w fun ev w' => ev = .returned (.int .i64 3) ∧ w' = w := by
  have e1 : IntKind.u64.wrap (-8) = 18446744073709551608 := by rfl
  have e2 : bits .and .u64 8 18446744073709551608 = 8 := by rfl
  have e3 : IntKind.u64.wrap (8 * 285870213051353865) = 2286961704410830920 := by rfl
  go_enter Tryz.func250, Tryz.ntmps250
  go_wp2
  go_ret
  exact ⟨rfl, rfl⟩
theorem tz_8 (w : World) (h : w.cell? ⟨20, 7, none⟩ = some (.int .u8 3)) : Calls Tryz.prog 229 #[.int .u64 8] w fun ev w' => ev = .returned (.int .i64 3) ∧ w' = w := by
  go_enter Tryz.func229, Tryz.ntmps229
  go_wp2_with (go_at_call 250; refine (tz64_8 _ h).mono ?_; rintro ev w1 ⟨rfl, rfl⟩)
  go_ret
  exact ⟨rfl, rfl⟩

end Go.Proofs.YtkeefkfklmhcjaaGreatDoor
namespace Go.Proofs.YtkeefkfklmhcjaaGreatDoor
open Go.RowKit

def digs : ByteArray := ⟨#[48, 49, 50, 51, 52, 53, 54, 55, 56, 57, 97, 98, 99, 100, 101, 102, 103, 104, 105, 106, 107, 108, 109, 110, 111, 112, 113, 114, 115, 116, 117, 118, 119, 120, 121, 122]⟩
theorem digs_lt {m : Nat} (h : m < 8) : m < digs.size := Nat.lt_of_lt_of_le h (by decide)
theorem digs_at : ∀ (m : Nat) (h : m < 8), digs[m]'(digs_lt h) = UInt8.ofNat (48 + m)
  | 0, _ => rfl
  | 1, _ => rfl
  | 2, _ => rfl
  | 3, _ => rfl
  | 4, _ => rfl
  | 5, _ => rfl
  | 6, _ => rfl
  | 7, _ => rfl
theorem and7 (m : Nat) (h : m < 262144) : bits .and .u64 (m : Int) 7 = ((m % 8 : Nat) : Int) := by
  have hx : m &&& 7 = m % 8 := Nat.and_two_pow_sub_one_eq_mod m 3
  show IntKind.u64.wrap ((BitVec.ofInt 64 (m : Int) &&& BitVec.ofInt 64 ((7 : Nat) : Int)).toNat : Int) = _
  rw [BitVec.toNat_and, ofInt_i64 m (by omega), ofInt_i64 7 (by omega), hx]
  simp [IntKind.wrap, IntKind.bits, IntKind.signed]
  omega
theorem wp_atW {P : Program} {c : Code} {Q : Exit → Act → World → Prop} {a : Act} {W W' : World} (h : W' = W) (hw : Code.wp P c Q a W') : Code.wp P c Q a W := h ▸ hw
def encU (b : UInt8) : Value := .int .u8 (b.toNat : Int)
/-- The digits behind place k of the buffer. -/
def OctIn (w : World) (B k : Nat) (ds : List UInt8) : Prop := w.heap[B]? = some (.cells (List.replicate k (Value.int .u8 0) ++ ds.map encU).toArray 256 (0, 0)) ∧ k + ds.length = 65
theorem oct_start (w : World) : OctIn (w.alloc (Obj.cells Tryz.zeroCells256 256)) w.heap.size 65 [] := ⟨(heap_alloc_new _ _).trans rfl, rfl⟩
theorem set_mid (z : Nat) (x v : Value) (l : List Value) : (List.replicate (z + 1) x ++ l).set z v = List.replicate z x ++ v :: l := by
  rw [List.replicate_succ', List.append_assoc, List.set_append_right _ _ (by simp)]
  simp
theorem oct_put {w : World} {B z : Nat} {ds : List UInt8} (h : OctIn w B (z + 1) ds) (d : UInt8) : OctIn (w.setCell ⟨B, z, none⟩ (encU d)) B z (d :: ds) := by
  refine ⟨?_, by have := h.2; simp only [List.length_cons]; omega⟩
  rw [heap_setCell_same _ _ _ _ _ _ h.1, List.setIfInBounds_toArray, set_mid]
  rfl
theorem oct_cell {w : World} {B z : Nat} {ds : List UInt8} (h : OctIn w B (z + 1) ds) : w.cell? ⟨B, z, none⟩ = some (.int .u8 0) ∧ w.frozen? ⟨B, z, none⟩ = false := by
  refine ⟨?_, frozen_of_row _ _ _ _ _ h.1⟩
  rw [cell_of_row _ _ _ _ _ _ h.1]
  simp [List.getElem?_append]
theorem oct_back {w : World} {B z : Nat} {ds : List UInt8} (h : OctIn w B z ds) (cap : Nat) : (convert 46 9 (.slice (some ⟨B, z, none⟩) ds.length cap)).run Tryz.prog w = .ok (.string ⟨ds.toArray⟩) w := by
  refine run_convert_bytes_back (P := Tryz.prog) w 46 9 5 ⟨B, z, none⟩ cap ds Tryz.underlying46 Tryz.underlying5 Tryz.underlying9 (fun j hj => ?_)
  rw [Addr.add_lit]
  rw [cell_of_row _ _ _ _ _ _ h.1]
  simp [hj, encU]
set_option maxRecDepth 100000 in
theorem bits_any (n : Nat) (w : World) (hn : n < 262144) (h : w.cell? ⟨20, 7, none⟩ = some (.int .u8 3)) : Calls Tryz.prog 207 #[.slice none 0 0, .int .u64 (n : Int), .int .i64 8, .bool false, .bool false] w fun ev w' => ∃ s : ByteArray, ev = .returned (.tuple #[.slice none 0 0, .string s]) ∧ Hid (s.data.toList = octL n) ∧ Below w.heap.size w w' := by
  have hb0 : Below w.heap.size w (w.alloc (Obj.cells Tryz.zeroCells256 256)) := (Below.refl _ _).alloc (Nat.le_refl _) _
  have h7 : (w.alloc (Obj.cells Tryz.zeroCells256 256)).cell? ⟨20, 7, none⟩ = some (.int .u8 3) := cell_later hb0 h
  have ho0 := hide (oct_start w)
  go_enter Tryz.func207, Tryz.ntmps207
  go_wp2_with (first | (go_at_call 228; refine (pow2_8 _).mono ?_; rintro ev w1 ⟨rfl, rfl⟩) | (go_at_call 229; refine (tz_8 _ h7).mono ?_; rintro ev w1 ⟨rfl, rfl⟩))
  go_loopw [1, 13] (fun u i wr => ∃ (m k : Nat) (ds : List UInt8), u = .int .u64 (m : Int) ∧ i = .int .i64 (k : Int) ∧ Hid (OctIn wr w.heap.size k ds) ∧ Below w.heap.size w wr ∧ Hid (octL n = octL m ++ ds) ∧ (k = 65 ∧ m < 262144 ∨ k = 64 ∧ m < 32768 ∨ k = 63 ∧ m < 4096 ∨ k = 62 ∧ m < 512 ∨ k = 61 ∧ m < 64 ∨ k = 60 ∧ m < 8)) (fun u _ _ => (intOf u).toNat)
  case atStart => exact ⟨n, 65, [], rfl, rfl, ho0, hb0, hide (by simp), .inl ⟨rfl, hn⟩⟩
  case round =>
    obtain ⟨m, k, ds, rfl, rfl, HO, hb, HL, hc⟩ := hrel
    obtain ⟨z, HZ⟩ : ∃ z, Hid (k = z + 1) := ⟨k - 1, hide (by omega)⟩
    have w1 : IntKind.i64.wrap ((k : Int) - 1) = (z : Int) := by have := unhide HZ; rw [IntKind.wrap_i64] <;> omega
    have z0 : (0 : Int) ≤ (z : Int) := by omega
    have z1 : (z : Int) < 65 := by have := unhide HZ; omega
    have z2 : z ≤ 65 := by omega
    have HO2 : Hid (OctIn wr w.heap.size (z + 1) ds) := hide (by rw [← unhide HZ]; exact unhide HO)
    have c1 := (oct_cell (unhide HO2)).1
    have c2 := (oct_cell (unhide HO2)).2
    have HC := hide hc
    clear hc HO
    by_cases hm : m < 8
    · have hm2 : (m : Int) < 8 := by omega
      have m0 : (0 : Int) ≤ (m : Int) := by omega
      have m1 : (m : Int) < 36 := by omega
      have z3 : (z : Int) ≤ 65 := by omega
      have z4 : ¬ 65 = z := by omega
      have z5 : ¬ z = 65 := by omega
      go_upto_region 30 with fail
      obtain ⟨W', hW⟩ : ∃ W', W' = wr.setCell ⟨w.heap.size, z, none⟩ (.int .u8 ((digs[m]'(digs_lt hm)).toNat : Int)) := ⟨_, rfl⟩
      have HW : Hid (OctIn W' w.heap.size z (UInt8.ofNat (48 + m) :: ds)) := hide (by rw [hW, digs_at m hm]; exact oct_put (unhide HO2) _)
      have hbW : Below w.heap.size w W' := by rw [hW]; exact hb.setCell (p := ⟨w.heap.size, z, none⟩) (Nat.le_refl _) _
      refine wp_atW hW ?_
      clear hW
      have hcv := oct_back (unhide HW) (65 - z)
      have hlen : (UInt8.ofNat (48 + m) :: ds).length = 65 - z := by have := (unhide HW).2; omega
      rw [hlen] at hcv
      have HF : Hid ((UInt8.ofNat (48 + m) :: ds).toArray.toList = octL n) := hide (by rw [unhide HL, octL, if_pos hm]; simp)
      generalize (UInt8.ofNat (48 + m) :: ds).toArray = fin at hcv HF
      clear hlen
      go_wp2
      go_ret2
      exact ⟨_, rfl, HF, hbW⟩
    · have hm2 : (8 : Int) ≤ (m : Int) := by omega
      obtain ⟨r, er⟩ : ∃ r, r = m % 8 := ⟨_, rfl⟩
      obtain ⟨q, eq⟩ : ∃ q, q = m / 8 := ⟨_, rfl⟩
      have r8 : r < 8 := by omega
      have m0 : (0 : Int) ≤ (r : Int) := by omega
      have m1 : (r : Int) < 36 := by omega
      have m512 : m < 262144 := by have := unhide HC; omega
      have a7 : bits .and .u64 (m : Int) 7 = (r : Int) := by rw [and7 m m512, ← er]
      have d8 : (m : Int) / 8 = (q : Int) := by omega
      have HR : Hid (octL m = octL q ++ [UInt8.ofNat (48 + r)]) := hide (by rw [octL, if_neg hm, ← er, ← eq])
      have HQ : Hid (q < m ∧ (z = 64 ∧ q < 32768 ∨ z = 63 ∧ q < 4096 ∨ z = 62 ∧ q < 512 ∨ z = 61 ∧ q < 64 ∨ z = 60 ∧ q < 8)) := hide (by have := unhide HC; have := unhide HZ; omega)
      clear er eq
      go_wp2
      go_roundw
      case rel => exact ⟨q, z, _, rfl, rfl, hide (oct_put (unhide HO2) _), hb.setCell (p := ⟨w.heap.size, z, none⟩) (Nat.le_refl _) _, hide (by rw [unhide HL, unhide HR, ← digs_at r r8]; simp; rfl), by have := unhide HQ; omega⟩
      case measure => have := (unhide HQ).1; simp [intOf]; omega
end Go.Proofs.YtkeefkfklmhcjaaGreatDoor

namespace Go.Proofs.YtkeefkfklmhcjaaGreatDoor
open Go.RowKit
set_option maxRecDepth 100000 in
theorem fmtB_any (n : Nat) (w : World) (hn : n < 262144) (h : w.cell? ⟨20, 7, none⟩ = some (.int .u8 3)) : Calls Tryz.prog 174 #[.int .i64 (n : Int), .int .i64 8] w fun ev w' => ∃ s : ByteArray, ev = .returned (.string s) ∧ Hid (s.data.toList = octL n) ∧ Below w.heap.size w w' := by
  have e1 : IntKind.u64.wrap (n : Int) = (n : Int) := by rw [IntKind.wrap_u64]; omega
  have e2 : (0 : Int) ≤ (n : Int) := by omega
  have e3 : ¬ (n : Int) < 0 := by omega
  go_enter Tryz.func174, Tryz.ntmps174
  go_wp2_with (go_at_call 207; refine (bits_any n _ hn h).mono ?_; rintro ev w1 ⟨s, rfl, HS, hb⟩)
  go_ret
  exact ⟨_, rfl, HS, hb⟩
theorem fmt_any (n : Nat) (w : World) (hn : n < 262144) (h : w.cell? ⟨20, 7, none⟩ = some (.int .u8 3)) : Calls Tryz.prog 143 #[.int .i64 (n : Int), .int .i64 8] w fun ev w' => ∃ s : ByteArray, ev = .returned (.string s) ∧ Hid (s.data.toList = octL n) ∧ Below w.heap.size w w' := by
  go_enter Tryz.func143, Tryz.ntmps143
  go_wp2_with (go_at_call 174; refine (fmtB_any n _ hn h).mono ?_; rintro ev w1 ⟨s, rfl, HS, hb⟩)
  go_ret
  exact ⟨_, rfl, HS, hb⟩
end Go.Proofs.YtkeefkfklmhcjaaGreatDoor
