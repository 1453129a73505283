import Derived.Test.YtabahmnagffnbaaGreatDoorJDigH
import Derived.Lib.ConvBytes
import Derived.Laws.IdiomStrings
import Derived.Test.YtabahmnagffnbaaGreatDoorJStoA
namespace Go.Proofs.YtabahmnagffnbaaGreatDoor
open Go.RowKit

theorem Tryz.info5 : (Tryz.prog.info? 5).map (fun i => (i.zero, i.size, i.bytes)) = some (some (.int .u8 0), 1, 1) := by kernel_rfl
/-- A row of bytes that the call made (it may bear a conversion's mark behind its end). -/
structure RowB (w : World) (B g cap : Nat) (l : List UInt8) : Prop where
  low : B ≤ g
  lt : g < w.heap.size
  len : l.length ≤ cap
  cell : ∀ j c, l[j]? = some c → w.cell? ⟨g, j, none⟩ = some (.int .u8 (c.toNat : Int))
  room : ∀ j, j < cap → (w.cell? ⟨g, j, none⟩).isSome = true ∧ w.frozen? ⟨g, j, none⟩ = false
theorem RowB.below {w w' : World} {B g cap : Nat} {l : List UInt8} (h : RowB w B g cap l) (hb : Below w.heap.size w w') : RowB w' B g cap l := by
  have hc : ∀ j, w'.cell? ⟨g, j, none⟩ = w.cell? ⟨g, j, none⟩ := fun j => World.cell?_of_block (hb.block g h.lt)
  have hf : ∀ j, w'.frozen? ⟨g, j, none⟩ = w.frozen? ⟨g, j, none⟩ := fun j => by unfold World.frozen?; rw [hb.block g h.lt]
  exact ⟨h.low, Nat.lt_of_lt_of_le h.lt hb.size, h.len, fun j c hj => (hc j).trans (h.cell j c hj), fun j hj => by rw [hc j, hf j]; exact h.room j hj⟩
theorem RowB.alloc {w : World} {B g cap : Nat} {l : List UInt8} (h : RowB w B g cap l) (o : Obj) : RowB (w.alloc o) B g cap l := h.below ((Below.refl _ _).alloc (Nat.le_refl _) o)
theorem rowB_conv (w : World) (s : ByteArray) : RowB (Lib.bytesWorld w 5 s) w.heap.size w.heap.size (grownCap w s.size 0 5) s.data.toList := by
  have hs : (Lib.bytesCells w 5 s).size = grownCap w s.size 0 5 := by
    have := grownCap_ge w s.size 0 5
    simp [Lib.bytesCells]; omega
  refine ⟨Nat.le_refl _, by rw [Lib.bytesWorld_size]; omega, by rw [← Lib.size_eq]; exact grownCap_ge w s.size 0 5, fun j c hj => ?_, fun j hj => ⟨?_, ?_⟩⟩
  · have hl : j < s.size := by rw [Lib.size_eq]; exact (List.getElem?_eq_some_iff.1 hj).1
    rw [Lib.bytesWorld_cell w 5 s j hl, List.getD_eq_getElem?_getD, hj]; rfl
  · rw [cell_of_row _ _ _ _ _ _ (Lib.bytesWorld_at_new w 5 s)]
    rw [Array.getElem?_eq_getElem (by omega)]; rfl
  · unfold World.frozen?
    simp only [Lib.bytesWorld_at_new]
    rw [hs]
    simp; omega
theorem below_conv (w : World) (s : ByteArray) : Below w.heap.size w (Lib.bytesWorld w 5 s) :=
  ⟨rfl, rfl, rfl, by rw [Lib.bytesWorld_size]; omega, fun j hj => Lib.bytesWorld_at_old w 5 s j hj⟩

theorem wpList_appB (w : World) {ops : Array Oper} {rest : List Oper} {o : Oper} {a : Act} {Q : Exit → Act → World → Prop} (hgd : o.guard = none) (s x : Operand)
    (ho : o.op = .call { callee := .builtin .append, args := #[s, x], argTypes := #[115, 115] }) (B g cap n : Nat) (l : List UInt8) (c : UInt8) (hn : n = l.length)
    (hs : a.eval s = .slice (some ⟨g, 0, none⟩) n cap) (hr : RowB w B g cap l) (gn : Nat) (hx : a.eval x = .slice (some ⟨gn, 0, none⟩) 1 1)
    (hc : w.cell? ⟨gn, 0, none⟩ = some (.int .u8 (c.toNat : Int))) (hl : l.length ≤ 4294967296) (hB : B ≤ w.heap.size)
    (h : ∀ g' cap' w', RowB w' B g' cap' (l ++ [c]) → Below B w w' → wpList Tryz.prog ops Q rest (a.put o.dst (.slice (some ⟨g', 0, none⟩) (n + 1) cap')) w') : wpList Tryz.prog ops Q (o :: rest) a w := by
  subst hn
  obtain ⟨i0, hi, hz0, hz1, hz2⟩ := info_parts Tryz.info5
  have hnews : ∀ j u, [Value.int .u8 (c.toNat : Int)][j]? = some u → w.cell? ((⟨gn, 0, none⟩ : Addr).add j) = some u := fun j u hj => by
    match j with
    | 0 => simp at hj; subst hj; exact hc
    | j + 1 => simp at hj
  have h1 : ∀ u ∈ [Value.int .u8 (c.toNat : Int)], u.oneCell' = true := fun u hu => by simp at hu; subst hu; rfl
  refine wpList_plain hgd fun K hK => ?_
  by_cases hroom : l.length + 1 ≤ cap
  · have hsp : ∀ j, j < [Value.int .u8 (c.toNat : Int)].length → (w.cell? ⟨g, 0 + l.length * i0.size + j, none⟩).isSome = true ∧ w.frozen? ⟨g, 0 + l.length * i0.size + j, none⟩ = false := fun j hj => by
      have : j = 0 := by simp at hj; exact hj
      subst this
      rw [hz1, show 0 + l.length * 1 + 0 = l.length from by omega]
      exact hr.room _ (by omega)
    have hrun := run_append_room_cells (P := Tryz.prog) w 115 o.type 5 i0 Tryz.underlying115 hi g 0 l.length cap ⟨gn, 0, none⟩ 1 1 [.int .u8 (c.toNat : Int)] (by rw [hz1]; rfl) hnews h1 hroom (fun j hj => (hsp j hj).1) (fun j hj => (hsp j hj).2)
    unfold Oper.wp execOp
    simp only [ho, resolve, invoke, builtin, Sem.run_bind, Sem.run_pure, Result.andThen_ok, List.map_toArray, List.map_cons, List.map_nil, hs, hx, hrun]
    have hw : w.setCells g (0 + l.length * i0.size) [.int .u8 (c.toNat : Int)] = w.setCell ⟨g, l.length, none⟩ (.int .u8 (c.toNat : Int)) := by
      rw [hz1, show 0 + l.length * 1 = l.length from by omega]; rfl
    rw [hw]
    refine hK _ _ (h g cap _ ⟨hr.low, by simpa using hr.lt, by simpa using hroom, fun j d hj => ?_, fun j hj => ⟨?_, ?_⟩⟩ ((Below.refl _ _).setCell hr.low _))
    · by_cases hjl : j = l.length
      · subst hjl
        rw [List.getElem?_concat_length] at hj
        cases hj
        exact World.cell?_setCell_same' _ _ _ (hr.room _ (by omega)).1
      · rw [World.cell?_setCell_other (h := show (⟨g, l.length, none⟩ : Addr) ≠ ⟨g, j, none⟩ from fun e => by cases e; exact hjl rfl)]
        refine hr.cell j d ?_
        rw [List.getElem?_append_left] at hj
        · exact hj
        · have := (List.getElem?_eq_some_iff.1 hj).1
          simp at this; omega
    · by_cases hjl : j = l.length
      · subst hjl
        rw [World.cell?_setCell_same' _ _ _ (hr.room _ hj).1]; rfl
      · rw [World.cell?_setCell_other (h := show (⟨g, l.length, none⟩ : Addr) ≠ ⟨g, j, none⟩ from fun e => by cases e; exact hjl rfl)]
        exact (hr.room j hj).1
    · rw [World.frozen?_setCell]; exact (hr.room j hj).2
  · have holds : ∀ j u, (Lib.byteCells l)[j]? = some u → w.cell? ((⟨g, 0, none⟩ : Addr).add j) = some u := fun j u hj => by
      rw [Lib.byteCells, List.getElem?_map, Option.map_eq_some_iff] at hj
      obtain ⟨d, hd, rfl⟩ := hj
      have hadd : (⟨g, 0, none⟩ : Addr).add j = ⟨g, j, none⟩ := by unfold Addr.add; split <;> simp_all
      rw [hadd]
      exact hr.cell j d hd
    obtain ⟨v', w', hrun, r1, r2⟩ := run_append_arg_grows (P := Tryz.prog) w 115 o.type 5 i0 (.int .u8 0) 1 1 Tryz.underlying115 hi hz0 hz1 hz2 rfl (by decide) ⟨g, 0, none⟩ l.length cap (Lib.byteCells l) (by simp [Lib.byteCells]) holds ⟨gn, 0, none⟩ 1 1 [.int .u8 (c.toNat : Int)] rfl hnews (by omega) (by unfold maxLen; omega) (by omega)
    unfold Oper.wp execOp
    simp only [ho, resolve, invoke, builtin, Sem.run_bind, Sem.run_pure, Result.andThen_ok, List.map_toArray, List.map_cons, List.map_nil, hs, hx, hrun]
    rcases r1.2 with ⟨_, h0⟩ | ⟨g', cap', cur, rfl, hbg, hg, hnc, hcm, hcs, htake⟩
    · omega
    · refine hK _ _ (h g' cap' w' ⟨Nat.le_trans hB hbg, (Array.getElem?_eq_some_iff.1 hg).1, by simpa using hnc, fun j d hj => ?_, fun j hj => ⟨?_, frozen_of_row w' g' j _ _ hg⟩⟩ ⟨r2.os, r2.tape, r2.output, r2.size, fun k hk => r2.block k (by omega) (by simp)⟩)
      · have hjl : j < (l ++ [c]).length := (List.getElem?_eq_some_iff.1 hj).1
        rw [World.ownsRow.cellAt r1 j (by simp at hjl; omega)]
        have e : Lib.byteCells l ++ [Value.int .u8 (c.toNat : Int)] = Lib.byteCells (l ++ [c]) := by simp [Lib.byteCells]
        rw [e, Lib.byteCells, List.getElem?_map, hj]; rfl
      · rw [cell_of_row w' g' j _ _ _ hg, Array.getElem?_eq_getElem (by omega)]; rfl
theorem wpList_appV (w : World) {ops : Array Oper} {rest : List Oper} {o : Oper} {a : Act} {Q : Exit → Act → World → Prop} (hgd : o.guard = none) (s x : Operand)
    (ho : o.op = .call { callee := .builtin .append, args := #[s, x], argTypes := #[115, 115] }) (B g cap n : Nat) (l : List UInt8) (c : UInt8) (hn : n = l.length)
    (hs : a.eval s = .slice (some ⟨g, 0, none⟩) n cap) (hr : RowB w B g cap l) (gn : Nat) (hx : a.eval x = .slice (some ⟨gn, 0, none⟩) 1 1) (vc : Int)
    (hc : w.cell? ⟨gn, 0, none⟩ = some (.int .u8 vc)) (hl : l.length ≤ 4294967296) (hv : vc = (c.toNat : Int)) (hB : B ≤ w.heap.size)
    (h : ∀ g' cap' w', RowB w' B g' cap' (l ++ [c]) → Below B w w' → wpList Tryz.prog ops Q rest (a.put o.dst (.slice (some ⟨g', 0, none⟩) (n + 1) cap')) w') : wpList Tryz.prog ops Q (o :: rest) a w := by
  subst hv
  exact wpList_appB w hgd s x ho B g cap n l c hn hs hr gn hx hc hl hB h
end Go.Proofs.YtabahmnagffnbaaGreatDoor

namespace Go.Proofs.YtabahmnagffnbaaGreatDoor
open Go.RowKit

def lenOfV : Value → Nat
  | .slice _ n _ => n
  | _ => 0

theorem hixi0 (w : World) : (Instr.index 9 (.string ⟨#[48, 49, 50, 51, 52, 53, 54, 55, 56, 57, 97, 98, 99, 100, 101, 102]⟩) (.int .i64 0)).run Tryz.prog w = .ok (.int .u8 48) w := by kernel_rfl
theorem hixi1 (w : World) : (Instr.index 9 (.string ⟨#[48, 49, 50, 51, 52, 53, 54, 55, 56, 57, 97, 98, 99, 100, 101, 102]⟩) (.int .i64 1)).run Tryz.prog w = .ok (.int .u8 49) w := by kernel_rfl
theorem hixi2 (w : World) : (Instr.index 9 (.string ⟨#[48, 49, 50, 51, 52, 53, 54, 55, 56, 57, 97, 98, 99, 100, 101, 102]⟩) (.int .i64 2)).run Tryz.prog w = .ok (.int .u8 50) w := by kernel_rfl
theorem hixi3 (w : World) : (Instr.index 9 (.string ⟨#[48, 49, 50, 51, 52, 53, 54, 55, 56, 57, 97, 98, 99, 100, 101, 102]⟩) (.int .i64 3)).run Tryz.prog w = .ok (.int .u8 51) w := by kernel_rfl
theorem hixi4 (w : World) : (Instr.index 9 (.string ⟨#[48, 49, 50, 51, 52, 53, 54, 55, 56, 57, 97, 98, 99, 100, 101, 102]⟩) (.int .i64 4)).run Tryz.prog w = .ok (.int .u8 52) w := by kernel_rfl
theorem hixi5 (w : World) : (Instr.index 9 (.string ⟨#[48, 49, 50, 51, 52, 53, 54, 55, 56, 57, 97, 98, 99, 100, 101, 102]⟩) (.int .i64 5)).run Tryz.prog w = .ok (.int .u8 53) w := by kernel_rfl
theorem hixi6 (w : World) : (Instr.index 9 (.string ⟨#[48, 49, 50, 51, 52, 53, 54, 55, 56, 57, 97, 98, 99, 100, 101, 102]⟩) (.int .i64 6)).run Tryz.prog w = .ok (.int .u8 54) w := by kernel_rfl
theorem hixi7 (w : World) : (Instr.index 9 (.string ⟨#[48, 49, 50, 51, 52, 53, 54, 55, 56, 57, 97, 98, 99, 100, 101, 102]⟩) (.int .i64 7)).run Tryz.prog w = .ok (.int .u8 55) w := by kernel_rfl
theorem hixi8 (w : World) : (Instr.index 9 (.string ⟨#[48, 49, 50, 51, 52, 53, 54, 55, 56, 57, 97, 98, 99, 100, 101, 102]⟩) (.int .i64 8)).run Tryz.prog w = .ok (.int .u8 56) w := by kernel_rfl
theorem hixi9 (w : World) : (Instr.index 9 (.string ⟨#[48, 49, 50, 51, 52, 53, 54, 55, 56, 57, 97, 98, 99, 100, 101, 102]⟩) (.int .i64 9)).run Tryz.prog w = .ok (.int .u8 57) w := by kernel_rfl
theorem hixi10 (w : World) : (Instr.index 9 (.string ⟨#[48, 49, 50, 51, 52, 53, 54, 55, 56, 57, 97, 98, 99, 100, 101, 102]⟩) (.int .i64 10)).run Tryz.prog w = .ok (.int .u8 97) w := by kernel_rfl
theorem hixi11 (w : World) : (Instr.index 9 (.string ⟨#[48, 49, 50, 51, 52, 53, 54, 55, 56, 57, 97, 98, 99, 100, 101, 102]⟩) (.int .i64 11)).run Tryz.prog w = .ok (.int .u8 98) w := by kernel_rfl
theorem hixi12 (w : World) : (Instr.index 9 (.string ⟨#[48, 49, 50, 51, 52, 53, 54, 55, 56, 57, 97, 98, 99, 100, 101, 102]⟩) (.int .i64 12)).run Tryz.prog w = .ok (.int .u8 99) w := by kernel_rfl
theorem hixi13 (w : World) : (Instr.index 9 (.string ⟨#[48, 49, 50, 51, 52, 53, 54, 55, 56, 57, 97, 98, 99, 100, 101, 102]⟩) (.int .i64 13)).run Tryz.prog w = .ok (.int .u8 100) w := by kernel_rfl
theorem hixi14 (w : World) : (Instr.index 9 (.string ⟨#[48, 49, 50, 51, 52, 53, 54, 55, 56, 57, 97, 98, 99, 100, 101, 102]⟩) (.int .i64 14)).run Tryz.prog w = .ok (.int .u8 101) w := by kernel_rfl
theorem hixi15 (w : World) : (Instr.index 9 (.string ⟨#[48, 49, 50, 51, 52, 53, 54, 55, 56, 57, 97, 98, 99, 100, 101, 102]⟩) (.int .i64 15)).run Tryz.prog w = .ok (.int .u8 102) w := by kernel_rfl
theorem hixi (d : Nat) (hd : d < 16) (w : World) : (Instr.index 9 (.string ⟨#[48, 49, 50, 51, 52, 53, 54, 55, 56, 57, 97, 98, 99, 100, 101, 102]⟩) (.int .i64 (d : Int))).run Tryz.prog w = .ok (.int .u8 ((hexd d).toNat : Int)) w := by
  have h : d = 0 ∨ d = 1 ∨ d = 2 ∨ d = 3 ∨ d = 4 ∨ d = 5 ∨ d = 6 ∨ d = 7 ∨ d = 8 ∨ d = 9 ∨ d = 10 ∨ d = 11 ∨ d = 12 ∨ d = 13 ∨ d = 14 ∨ d = 15 := by omega
  rcases h with rfl | rfl | rfl | rfl | rfl | rfl | rfl | rfl | rfl | rfl | rfl | rfl | rfl | rfl | rfl | rfl
  · exact hixi0 w
  · exact hixi1 w
  · exact hixi2 w
  · exact hixi3 w
  · exact hixi4 w
  · exact hixi5 w
  · exact hixi6 w
  · exact hixi7 w
  · exact hixi8 w
  · exact hixi9 w
  · exact hixi10 w
  · exact hixi11 w
  · exact hixi12 w
  · exact hixi13 w
  · exact hixi14 w
  · exact hixi15 w
/-- A row of bytes that the call made. -/
def OwnBy (w : World) (B : Nat) (v : Value) (l : List UInt8) : Prop := w.ownsRow B 5 1 v l.length (Lib.byteCells l)
theorem ownBy_snoc {w : World} {B : Nat} {v : Value} {l : List UInt8} {c : UInt8} (h : w.ownsRow B 5 1 v (l.length + 1) (Lib.byteCells l ++ [.int .u8 (c.toNat : Int)])) : OwnBy w B v (l ++ [c]) := by
  unfold OwnBy
  simpa [Lib.byteCells] using h
theorem ownBy_form {w : World} {B : Nat} {v : Value} {l : List UInt8} (h : OwnBy w B v l) (hn : l ≠ []) : ∃ g cap, v = .slice (some ⟨g, 0, none⟩) l.length cap ∧ ∀ j (hj : j < l.length), w.cell? ((⟨g, 0, none⟩ : Addr).add j) = some (.int .u8 (l[j].toNat : Int)) := by
  rcases h.2 with ⟨_, h0⟩ | ⟨g, cap, cur, rfl, _⟩
  · exact absurd (List.length_eq_zero_iff.1 h0) hn
  · refine ⟨g, cap, rfl, fun j hj => ?_⟩
    exact World.ownsRow.cells h rfl j _ (by rw [Lib.byteCells, List.getElem?_map, List.getElem?_eq_getElem hj]; rfl)

attribute [local go_sem] setCell_drewN alloc_drewN
attribute [local go_sem] Go.wp_at_zero Go.wp_at_succ

end Go.Proofs.YtabahmnagffnbaaGreatDoor

namespace Go.Proofs.YtabahmnagffnbaaGreatDoor
open Go.RowKit Go.Maps

theorem one_old' {w w1 : World} {o : Obj} {row : Option Nat} (hg : (w.alloc o).grownBy w1 row) {k : Nat} (hk : k < w.heap.size) (hr : row ≠ some k) : w1.heap[k]? = w.heap[k]? :=
  (hg.block k (by show _ < (w.alloc _).heap.size; simp; omega) (fun e => hr e.symm)).trans (Below.heap_alloc _ _ _ hk)
end Go.Proofs.YtabahmnagffnbaaGreatDoor

namespace Go.Proofs.YtabahmnagffnbaaGreatDoor
open Go.RowKit Go.Maps

/-- The name of the file that is written first, as the document makes it. -/
def asideR (s : ByteArray) : ByteArray := ⟨#[116]⟩ ++ s.extract 1 s.size
def keepR (L : List Blb) (s d : ByteArray) : List Blb := putB (delB (putB L ⟨asideR s, d⟩) (asideR s).data.toList) ⟨s, d⟩
def keepB (s d : ByteArray) : List Ac := [⟨1, asideR s, nul, d⟩, ⟨2, asideR s, nul, nul⟩, ⟨3, asideR s, s, nul⟩, ⟨4, nul, nul, nul⟩]
theorem szL_yes {L : List Blb} {k : Nat} {e : Blb} {x : List UInt8} (he : L[k]? = some e) (h : e.nm ≠ x) : szL (delB (L.take (k + 1)) x) = szL (delB (L.take k) x) + e.data.size := by
  rw [del_yes he h, szL_append]; simp [szL]
theorem szL_le_del (L : List Blb) (x : List UInt8) (k : Nat) : szL (delB (L.take k) x) ≤ szL L := by
  have h1 : ∀ M : List Blb, szL (delB M x) ≤ szL M := fun M => by
    induction M with
    | nil => exact Nat.le_refl _
    | cons b r ih =>
      rw [szL_cons]
      by_cases h : b.nm = x
      · rw [delB, List.filter_cons_of_neg (by simp [h])]; rw [delB] at ih; omega
      · rw [delB, List.filter_cons_of_pos (by simp [h]), szL_cons]; rw [delB] at ih; omega
  have h2 : szL (L.take k) ≤ szL L := by
    have e : szL L = szL (L.take k) + szL (L.drop k) := by rw [← szL_append, List.take_append_drop]
    omega
  exact Nat.le_trans (h1 _) h2
end Go.Proofs.YtabahmnagffnbaaGreatDoor

namespace Go.Proofs.YtabahmnagffnbaaGreatDoor
open Go.RowKit Go.Maps

/-- What 'Get' tells. -/
def getV (L : List Blb) (s : ByteArray) : ByteArray × Bool := match getB L (blobN s).data.toList with
  | some b => if sha b.data.data.toList = s.data.toList then (b.data, true) else (nul, false)
  | none => (nul, false)
theorem file_none {L : List Blb} {x : List UInt8} {r : Int} (h : FileIs L x r) (hg : getB L x = none) : r = -1 := by
  rcases h with ⟨e, _⟩ | ⟨k, b, _, _, _, e⟩
  · exact e
  · rw [hg] at e; cases e
theorem file_some {L : List Blb} {x : List UInt8} {r : Int} {b : Blb} (h : FileIs L x r) (hg : getB L x = some b) : ∃ k : Nat, r = k ∧ L[k]? = some b := by
  rcases h with ⟨_, e⟩ | ⟨k, b', e1, e2, _, e⟩
  · rw [hg] at e; cases e
  · rw [hg] at e; cases e; exact ⟨k, e1, e2⟩
/-- The names of blobs. -/
theorem ba_ext {a b : ByteArray} (h : a.data.toList = b.data.toList) : a = b := by
  cases a; cases b
  simpa using h
theorem aside_blob (x : ByteArray) : asideN (blobN x) = asideR (blobN x) := by
  apply ba_ext
  have e : (⟨#[98, 47]⟩ : ByteArray).size = 2 := rfl
  simp [asideN, asideR, blobN, e]
  rw [show 1 + x.size = x.size + 1 from by omega, List.take_succ_cons]
  simp
theorem del_put {M : List Blb} {b : Blb} {x : List UInt8} (h : b.nm ≠ x) : delB (putB M b) x = putB (delB M x) b := by
  unfold delB putB
  rw [List.filter_append, List.filter_cons_of_pos (by simpa using h), List.filter_filter, List.filter_filter, List.filter_filter, List.filter_filter]
  congr 1
  · exact List.filter_congr fun z _ => Bool.and_comm _ _
  · congr 1
    exact List.filter_congr fun z _ => Bool.and_comm _ _
theorem keep_blob (L : List Blb) (x d : ByteArray) : keepL L (blobN x) d = keepR L (blobN x) d := by
  rw [keepL, keepR, del_put, aside_blob]
  intro e
  simp only [Blb.nm] at e
  rw [blobN_bytes, aside_blob] at e
  simp [asideR, blobN] at e
theorem keepA_blob (x d : ByteArray) : keepA (blobN x) d = keepB (blobN x) d := by rw [keepA, keepB, aside_blob]
/-- The digest of a text. -/
def dig (d : ByteArray) : ByteArray := ⟨(sha d.data.toList).toArray⟩
theorem dig_size (d : ByteArray) : (dig d).size = 64 := by
  show (sha d.data.toList).toArray.size = 64
  rw [List.size_toArray, sha_len]
end Go.Proofs.YtabahmnagffnbaaGreatDoor

namespace Go.Proofs.YtabahmnagffnbaaGreatDoor
open Go.RowKit Go.Maps

theorem blob_get (L : List Blb) (s : ByteArray) : (blobV L s).2 = (getV L s).2 := by
  unfold blobV getV
  cases getB L (blobN s).data.toList with
  | none => rfl
  | some b => by_cases h : sha b.data.data.toList = s.data.toList <;> simp [h]
theorem blob_data (L : List Blb) (s : ByteArray) (h : (getV L s).2 = true) : (blobV L s).1 = (getV L s).1 := by
  unfold getV at h
  unfold blobV getV
  cases hg : getB L (blobN s).data.toList with
  | none => simp [hg] at h
  | some b =>
    rw [hg] at h
    simp only at h ⊢
    by_cases hq : sha b.data.data.toList = s.data.toList
    · simp [hq]
    · simp [hq] at h
theorem get_data (L : List Blb) (s : ByteArray) (h : (getV L s).2 = false) : (getV L s).1 = nul := by
  unfold getV at h ⊢
  cases hg : getB L (blobN s).data.toList with
  | none => rfl
  | some b =>
    rw [hg] at h
    simp only at h ⊢
    by_cases hq : sha b.data.data.toList = s.data.toList
    · simp [hq] at h
    · simp [hq]
/-- What a call does to the program's store. -/
def PutP (w : World) (sb mb : Nat) (v : Value) (L' : List Blb) (q : Int) (A' : List Ac) (w' : World) : Prop := ∃ v', PSt w' sb mb v' L' q A' ∧ Goes w sb mb v w' v'
theorem PutP.same {w w' : World} {sb mb : Nat} {v : Value} {L : List Blb} {q : Int} {A : List Ac} (h : PSt w sb mb v L q A) (hb : Below w.heap.size w w') : PutP w sb mb v L q A w' := ⟨v, h.below hb, Goes.of_below hb⟩
set_option maxHeartbeats 1000000 in
set_option maxRecDepth 100000 in
theorem put_act (sb mb : Nat) (v : Value) (L : List Blb) (q : Int) (A : List Ac) (d : ByteArray) (w : World) (h : PSt w sb mb v L q A) (hA : A.length ≤ 1099511627) (hL : L.length ≤ 1099511627) (hd : d.size ≤ 1073741824) (hds : ∀ b ∈ L, b.data.size ≤ 1073741824) (hz : szL L ≤ 1099511627776) (hK : KsLie w) :
    Calls Tryz.prog 23 #[.pointer (some ⟨sb, 0, none⟩), .string d] w fun ev w' =>
      ((getV L (dig d)).2 = true ∧ ev = .returned (.tuple #[.string (dig d), .nilIface]) ∧ PutP w sb mb v L q A w') ∨
      ((getV L (dig d)).2 = false ∧ (szL (delB L (blobN (dig d)).data.toList) + d.size : Nat) > q ∧ ev = .returned (.tuple #[.string emp, .iface 29 (.int .i64 12)]) ∧ PutP w sb mb v L q A w') ∨
      ((getV L (dig d)).2 = false ∧ (szL (delB L (blobN (dig d)).data.toList) + d.size : Nat) ≤ q ∧ ev = .returned (.tuple #[.string (dig d), .nilIface]) ∧ PutP w sb mb v (keepL L (blobN (dig d)) d) q (A ++ keepA (blobN (dig d)) d) w') := by
  have hO : Calls Tryz.prog 31 #[.string d] w (fun ev w' => ev = .returned (.string (dig d)) ∧ Below w.heap.size w w') := of_any d hd w hK
  have hsz := dig_size d
  have hbs : (blobN (dig d)).size = 66 := by rw [blobN, ByteArray.size_append, dig_size]; rfl
  have HP := hide h
  have HK := hide hK
  have hB : ∀ w1, Below w.heap.size w w1 → Calls Tryz.prog 37 #[.pointer (some ⟨sb, 0, none⟩), .string (dig d)] w1 fun ev w' => ev = .returned (.tuple #[.string (blobV L (dig d)).1, .bool (getV L (dig d)).2]) ∧ Below w1.heap.size w1 w' := fun w1 hb1 => by
    rw [← blob_get]; exact blob_act sb mb v L q A (dig d) w1 (h.below hb1) (by omega) hds (hK.below hb1)
  clear h hK
  cases hv : (getV L (dig d)).2 with
  | true =>
    rw [hv] at hB
    go_enter Tryz.func23, Tryz.ntmps23
    go_wp2_with (first
      | (go_at_call 31; refine hO.mono ?_; clear hO; rintro ev w1 ⟨rfl, hb1⟩)
      | (go_at_call 37; refine (hB _ hb1).mono ?_; clear hB; rintro ev w2 ⟨rfl, hb2⟩))
    go_ret2
    exact .inl ⟨by simp, rfl, PutP.same (unhide HP) (hb1.trans (hb2.mono hb1.size))⟩
  | false =>
    rw [hv] at hB
    by_cases hgq : q < ((szL (delB L (blobN (dig d)).data.toList) + d.size : Nat) : Int)
    · have hK : ∀ w2, PSt w2 sb mb v L q A → Calls Tryz.prog 38 #[.pointer (some ⟨sb, 0, none⟩), .string (blobN (dig d)), .string d] w2 fun ev w' => ev = .returned (.iface 29 (.int .i64 12)) ∧ Below w2.heap.size w2 w' := fun w2 h2 =>
        (keep_act sb mb v L q A (blobN (dig d)) d w2 h2 hA hL (by omega) (by omega) hd hz).mono (fun ev w' h => by
          rcases h with ⟨_, e1, e2⟩ | ⟨hle, _⟩
          · exact ⟨e1, e2⟩
          · omega)
      have HGQ := hide hgq
      clear hgq
      go_enter Tryz.func23, Tryz.ntmps23
      go_wp2_with (first
        | (go_at_call 31; refine hO.mono ?_; clear hO; rintro ev w1 ⟨rfl, hb1⟩)
        | (go_at_call 37; refine (hB _ hb1).mono ?_; clear hB; rintro ev w2 ⟨rfl, hb2⟩; have hB2 := hb1.trans (hb2.mono hb1.size))
        | (go_at_call 38; refine (hK _ ((unhide HP).below hB2)).mono ?_; clear hK; rintro ev w3 ⟨rfl, hb3⟩))
      go_ret2
      exact .inr (.inl ⟨by simp, unhide HGQ, rfl, PutP.same (unhide HP) (hB2.trans (hb3.mono hB2.size))⟩)
    · have hK : ∀ w2, PSt w2 sb mb v L q A → Calls Tryz.prog 38 #[.pointer (some ⟨sb, 0, none⟩), .string (blobN (dig d)), .string d] w2 fun ev w' => ev = .returned .nilIface ∧ PutP w2 sb mb v (keepL L (blobN (dig d)) d) q (A ++ keepA (blobN (dig d)) d) w' := fun w2 h2 =>
        (keep_act sb mb v L q A (blobN (dig d)) d w2 h2 hA hL (by omega) (by omega) hd hz).mono (fun ev w' h => by
          rcases h with ⟨hle, _⟩ | ⟨_, e1, e2⟩
          · omega
          · exact ⟨e1, e2⟩)
      have HGQ : Hid (((szL (delB L (blobN (dig d)).data.toList) + d.size : Nat) : Int) ≤ q) := hide (by omega)
      clear hgq
      go_enter Tryz.func23, Tryz.ntmps23
      go_wp2_with (first
        | (go_at_call 31; refine hO.mono ?_; clear hO; rintro ev w1 ⟨rfl, hb1⟩)
        | (go_at_call 37; refine (hB _ hb1).mono ?_; clear hB; rintro ev w2 ⟨rfl, hb2⟩; have hB2 := hb1.trans (hb2.mono hb1.size))
        | (go_at_call 38; refine (hK _ ((unhide HP).below hB2)).mono ?_; clear hK; rintro ev w3 ⟨rfl, hk3⟩))
      go_ret2
      obtain ⟨v3, hP3, hG3⟩ := hk3
      exact .inr (.inr ⟨by simp, unhide HGQ, rfl, v3, hP3, (Goes.of_below hB2).trans hG3⟩)
set_option maxRecDepth 100000 in
theorem get_act (sb mb : Nat) (v : Value) (L : List Blb) (q : Int) (A : List Ac) (s : ByteArray) (w : World) (h : PSt w sb mb v L q A) (hs : s.size ≤ 1048576) (hds : ∀ b ∈ L, b.data.size ≤ 1073741824) (hK : KsLie w) :
    Calls Tryz.prog 25 #[.pointer (some ⟨sb, 0, none⟩), .string s] w fun ev w' =>
      ((getV L s).2 = true ∧ ev = .returned (.tuple #[.string (getV L s).1, .nilIface]) ∧ Below w.heap.size w w') ∨
      ((getV L s).2 = false ∧ ev = .returned (.tuple #[.string emp, .iface 29 (.int .i64 13)]) ∧ Below w.heap.size w w') := by
  have hB := blob_act sb mb v L q A s w h hs hds hK
  rw [blob_get] at hB
  clear h hK
  cases hv : (getV L s).2 with
  | true =>
    rw [hv, blob_data L s hv] at hB
    have hsz : (getV L s).1.size ≤ 1073741824 := by
      unfold getV
      cases hg : getB L (blobN s).data.toList with
      | none => exact Nat.zero_le _
      | some b =>
        have := hds b (get_some hg).1
        simp only
        split
        · exact this
        · exact Nat.zero_le _
    go_enter Tryz.func25, Tryz.ntmps25
    go_wp2_with (first
      | (go_at_call 37; refine hB.mono ?_; clear hB; rintro ev w2 ⟨rfl, hb2⟩)
      | (go_at_call 26; refine (clone_at _ _ hsz).mono ?_; rintro ev w3 ⟨rfl, hb3⟩))
    go_ret2
    exact .inl ⟨by simp, rfl, hb2.trans (hb3.mono hb2.size)⟩
  | false =>
    rw [hv] at hB
    go_enter Tryz.func25, Tryz.ntmps25
    go_wp2_with (go_at_call 37; refine hB.mono ?_; clear hB; rintro ev w2 ⟨rfl, hb2⟩)
    go_ret2
    exact .inr ⟨by simp, rfl, hb2⟩
end Go.Proofs.YtabahmnagffnbaaGreatDoor
