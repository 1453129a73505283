import Derived.Test.YtjofjcjojgpaeaaGreatDoorJDigC
import Derived.Test.YtjofjcjojgpaeaaGreatDoorJOctA
namespace Go.Proofs.YtjofjcjojgpaeaaGreatDoor
open Go.RowKit

theorem mixB_ok (v : St) (l : List UInt8) : (mixB v l).ok := St.add_ok _ _
/-- So many blocks of a text, one behind the other. -/
def mixN (v : St) (l : List UInt8) : Nat → St
  | 0 => v
  | n + 1 => mixB (mixN v l n) ((l.drop (64 * n)).take 64)
theorem mixN_ok {v : St} (h : v.ok) (l : List UInt8) : ∀ n, (mixN v l n).ok
  | 0 => h
  | _ + 1 => mixB_ok _ _

theorem keep8 {w : World} {g k : Nat} {o : Obj} (y : St) (h : w.heap[k]? = some o) (hk : k ≠ g) :
    ((((((((w.setCell ⟨g, 0, none⟩ (.int .u32 y.a)).setCell ⟨g, 1, none⟩ (.int .u32 y.b)).setCell ⟨g, 2, none⟩ (.int .u32 y.c)).setCell ⟨g, 3, none⟩ (.int .u32 y.d)).setCell ⟨g, 4, none⟩ (.int .u32 y.e)).setCell ⟨g, 5, none⟩ (.int .u32 y.f)).setCell ⟨g, 6, none⟩ (.int .u32 y.g)).setCell ⟨g, 7, none⟩ (.int .u32 y.q)).heap[k]? = some o := by
  repeat rw [heap_setCell_other _ _ _ _ hk]
  exact h

attribute [local go_sem] setCell_drewN alloc_drewN
attribute [local go_sem] Go.wp_at_zero Go.wp_at_succ

/-- The state that it begins with. -/
def H0 : St := ⟨1779033703, 3144134277, 1013904242, 2773480762, 1359893119, 2600822924, 528734635, 1541459225⟩
theorem H0_ok : H0.ok := by unfold St.ok H0; decide
end Go.Proofs.YtjofjcjojgpaeaaGreatDoor

namespace Go.Proofs
open Go.Shelf Go.RowKit
theorem Tryz.Builder_WriteString (B b : Nat) (bs : List Value) (s : ByteArray) (w : World) (h : Lib.IsBuilder 109 5 B b bs w) (hlen : bs.length + s.size ≤ 140737488355328) (hBw : B ≤ w.heap.size) :
    Calls Tryz.prog 55 #[.pointer (some ⟨b, 0, none⟩), .string s] w fun e w' => e = .returned (.tuple #[.int .i64 s.size, .nilIface]) ∧ (Lib.BuilderAt 109 5 B b (.pointer (some ⟨b, 0, none⟩)) (bs ++ Lib.strCells s) w' ∧ Below B w w') := Any.Builder_WriteString { Tryz.lays105 with } Tryz.Builder_Extra_105 B b bs s w h hlen hBw
end Go.Proofs

namespace Go.Proofs.YtjofjcjojgpaeaaGreatDoor
open Go.RowKit

theorem builder_later {T e : TypeId} {B b : Nat} {p : Value} {bs : List Value} {w w' : World} (h : Lib.BuilderAt T e B b p bs w) (hb : Below w.heap.size w w') : Lib.BuilderAt T e B b p bs w' := by
  obtain ⟨h1, v, h2, h3, h4⟩ := h
  refine ⟨h1, v, (hb.block b (Array.getElem?_eq_some_iff.1 h2).1).trans h2, h3.kept (grown_of_below hb) ?_, h4⟩
  cases hv : v.ownBlock <;> simp
/-- A Builder of the call's own that holds this text. -/
def Bld (B b : Nat) (l : List UInt8) (w : World) : Prop := Lib.IsBuilder 109 5 B b (Lib.byteCells l) w ∧ B ≤ w.heap.size
theorem Bld.later {B b : Nat} {l : List UInt8} {w w' : World} (h : Bld B b l w) (hb : Below w.heap.size w w') : Bld B b l w' := by
  refine ⟨?_, Nat.le_trans h.2 hb.size⟩
  rcases h.1 with h1 | h1
  · exact .inl (builder_later h1 hb)
  · exact .inr (builder_later h1 hb)
theorem bld_new (w : World) : Bld w.heap.size w.heap.size [] (w.alloc (.cells #[.pointer none, .slice none 0 0] 109)) :=
  ⟨.inl ⟨Nat.le_refl _, .slice none 0 0, heap_alloc_new _ _, World.ownsRow_nil _ _ _ _, by simp [Value.ownBlock]⟩, by simp⟩
theorem byteCells_len (l : List UInt8) : (Lib.byteCells l).length = l.length := by simp [Lib.byteCells]
theorem ws (B b : Nat) (l : List UInt8) (s : ByteArray) (w : World) (h : Bld B b l w) (hl : l.length + s.size ≤ 4294967296) :
    Calls Tryz.prog 55 #[.pointer (some ⟨b, 0, none⟩), .string s] w fun e w' => e = .returned (.tuple #[.int .i64 s.size, .nilIface]) ∧ Bld B b (l ++ s.data.toList) w' ∧ Below B w w' := by
  refine (Tryz.Builder_WriteString B b _ _ w h.1 (by rw [byteCells_len]; omega) h.2).mono ?_
  rintro e w' ⟨rfl, hb, hbl⟩
  refine ⟨rfl, ⟨.inr ?_, Nat.le_trans h.2 hbl.size⟩, hbl⟩
  simpa [Lib.byteCells, Lib.strCells] using hb
theorem wstr (B b : Nat) (l : List UInt8) (w : World) (h : Bld B b l w) :
    Calls Tryz.prog 58 #[.pointer (some ⟨b, 0, none⟩)] w fun e w' => e = .returned (.string ⟨l.toArray⟩) ∧ Below B w w' :=
  Tryz.Builder_String_any B b l w h.1 h.2

/-- How many noughts; the bytes of the length; what is left of a text, filled up. -/
def zer (r : Nat) : Nat := (64 - (r + 9) % 64) % 64
def lenB (n j : Nat) : UInt8 := UInt8.ofNat (n * 8 / 2 ^ (56 - 8 * j))
def lenBs (n k : Nat) : List UInt8 := (List.range k).map (lenB n)
def fil (l : List UInt8) (n : Nat) : List UInt8 := l ++ [128] ++ List.replicate (zer l.length) 0 ++ lenBs n 8
theorem lenB0 (n : Nat) : ((lenB n 0).toNat : Int) = (n : Int) * 8 / 72057594037927936 % 256 := by
  have : (lenB n 0).toNat = n * 8 / 72057594037927936 % 256 := by simp [lenB]
  rw [this]; omega
theorem lenB1 (n : Nat) : ((lenB n 1).toNat : Int) = (n : Int) * 8 / 281474976710656 % 256 := by
  have : (lenB n 1).toNat = n * 8 / 281474976710656 % 256 := by simp [lenB]
  rw [this]; omega
theorem lenB2 (n : Nat) : ((lenB n 2).toNat : Int) = (n : Int) * 8 / 1099511627776 % 256 := by
  have : (lenB n 2).toNat = n * 8 / 1099511627776 % 256 := by simp [lenB]
  rw [this]; omega
theorem lenB3 (n : Nat) : ((lenB n 3).toNat : Int) = (n : Int) * 8 / 4294967296 % 256 := by
  have : (lenB n 3).toNat = n * 8 / 4294967296 % 256 := by simp [lenB]
  rw [this]; omega
theorem lenB4 (n : Nat) : ((lenB n 4).toNat : Int) = (n : Int) * 8 / 16777216 % 256 := by
  have : (lenB n 4).toNat = n * 8 / 16777216 % 256 := by simp [lenB]
  rw [this]; omega
theorem lenB5 (n : Nat) : ((lenB n 5).toNat : Int) = (n : Int) * 8 / 65536 % 256 := by
  have : (lenB n 5).toNat = n * 8 / 65536 % 256 := by simp [lenB]
  rw [this]; omega
theorem lenB6 (n : Nat) : ((lenB n 6).toNat : Int) = (n : Int) * 8 / 256 % 256 := by
  have : (lenB n 6).toNat = n * 8 / 256 % 256 := by simp [lenB]
  rw [this]; omega
theorem lenB7 (n : Nat) : ((lenB n 7).toNat : Int) = (n : Int) * 8 / 1 % 256 := by
  have : (lenB n 7).toNat = n * 8 / 1 % 256 := by simp [lenB]
  rw [this]; omega
theorem lenBs_succ (n k : Nat) : lenBs n (k + 1) = lenBs n k ++ [lenB n k] := by simp [lenBs, List.range_succ]
theorem lenBs_len (n k : Nat) : (lenBs n k).length = k := by simp [lenBs]
theorem rep_noughts (c : Nat) : Lib.repeatL [0] c = List.replicate c 0 := by
  induction c with
  | zero => rfl
  | succ c ih => rw [Lib.repeatL, ih, List.replicate_succ]; rfl

end Go.Proofs.YtjofjcjojgpaeaaGreatDoor
