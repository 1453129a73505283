import Derived.Test.YtkeefkfklmhcjaaGreatDoorRefB
import Derived.Test.YtkeefkfklmhcjaaGreatDoorDigH
import Derived.Lib.ConvBytes
import Derived.Laws.IdiomStrings
namespace Go.Proofs.YtkeefkfklmhcjaaGreatDoor
open Go.RowKit

theorem Tryz.info5 : (Tryz.prog.info? 5).map (fun i => (i.zero, i.size, i.bytes)) = some (some (.int .u8 0), 1, 1) := by kernel_rfl
/-- A row of bytes that the call made (it may bear a conversion's mark behind its end). -/
structure RowB (w : World) (B g cap : Nat) (l : List UInt8) : Prop where
  low : B ≤ g
  lt : g < w.heap.size
  len : l.length ≤ cap
  cell : ∀ j c, l[j]? = some c → w.cell? ⟨g, j, none⟩ = some (.int .u8 (c.toNat : Int))
  room : ∀ j, j < cap → (w.cell? ⟨g, j, none⟩).isSome = true ∧ w.frozen? ⟨g, j, none⟩ = false
theorem RowB.below {w w' : World} {B g cap : Nat} {l : List UInt8} (h : RowB w B g cap l) (hb : Below w.heap.size w w') : RowB w' B g cap l := by
  have hc : ∀ j, w'.cell? ⟨g, j, none⟩ = w.cell? ⟨g, j, none⟩ := fun j => World.cell?_of_block (hb.block g h.lt)
  have hf : ∀ j, w'.frozen? ⟨g, j, none⟩ = w.frozen? ⟨g, j, none⟩ := fun j => by unfold World.frozen?; rw [hb.block g h.lt]
  exact ⟨h.low, Nat.lt_of_lt_of_le h.lt hb.size, h.len, fun j c hj => (hc j).trans (h.cell j c hj), fun j hj => by rw [hc j, hf j]; exact h.room j hj⟩
theorem RowB.alloc {w : World} {B g cap : Nat} {l : List UInt8} (h : RowB w B g cap l) (o : Obj) : RowB (w.alloc o) B g cap l := h.below ((Below.refl _ _).alloc (Nat.le_refl _) o)
theorem rowB_conv (w : World) (s : ByteArray) : RowB (Lib.bytesWorld w 5 s) w.heap.size w.heap.size (grownCap w s.size 0 5) s.data.toList := by
  have hs : (Lib.bytesCells w 5 s).size = grownCap w s.size 0 5 := by
    have := grownCap_ge w s.size 0 5
    simp [Lib.bytesCells]; omega
  refine ⟨Nat.le_refl _, by rw [Lib.bytesWorld_size]; omega, by rw [← Lib.size_eq]; exact grownCap_ge w s.size 0 5, fun j c hj => ?_, fun j hj => ⟨?_, ?_⟩⟩
  · have hl : j < s.size := by rw [Lib.size_eq]; exact (List.getElem?_eq_some_iff.1 hj).1
    rw [Lib.bytesWorld_cell w 5 s j hl, List.getD_eq_getElem?_getD, hj]; rfl
  · rw [cell_of_row _ _ _ _ _ _ (Lib.bytesWorld_at_new w 5 s)]
    rw [Array.getElem?_eq_getElem (by omega)]; rfl
  · unfold World.frozen?
    simp only [Lib.bytesWorld_at_new]
    rw [hs]
    simp; omega
theorem below_conv (w : World) (s : ByteArray) : Below w.heap.size w (Lib.bytesWorld w 5 s) :=
  ⟨rfl, rfl, rfl, by rw [Lib.bytesWorld_size]; omega, fun j hj => Lib.bytesWorld_at_old w 5 s j hj⟩

theorem wpList_appB (w : World) {ops : Array Oper} {rest : List Oper} {o : Oper} {a : Act} {Q : Exit → Act → World → Prop} (hgd : o.guard = none) (s x : Operand)
    (ho : o.op = .call { callee := .builtin .append, args := #[s, x], argTypes := #[46, 46] }) (B g cap n : Nat) (l : List UInt8) (c : UInt8) (hn : n = l.length)
    (hs : a.eval s = .slice (some ⟨g, 0, none⟩) n cap) (hr : RowB w B g cap l) (gn : Nat) (hx : a.eval x = .slice (some ⟨gn, 0, none⟩) 1 1)
    (hc : w.cell? ⟨gn, 0, none⟩ = some (.int .u8 (c.toNat : Int))) (hl : l.length ≤ 4294967296) (hB : B ≤ w.heap.size)
    (h : ∀ g' cap' w', RowB w' B g' cap' (l ++ [c]) → Below B w w' → wpList Tryz.prog ops Q rest (a.put o.dst (.slice (some ⟨g', 0, none⟩) (n + 1) cap')) w') : wpList Tryz.prog ops Q (o :: rest) a w := by
  subst hn
  obtain ⟨i0, hi, hz0, hz1, hz2⟩ := info_parts Tryz.info5
  have hnews : ∀ j u, [Value.int .u8 (c.toNat : Int)][j]? = some u → w.cell? ((⟨gn, 0, none⟩ : Addr).add j) = some u := fun j u hj => by
    match j with
    | 0 => simp at hj; subst hj; exact hc
    | j + 1 => simp at hj
  have h1 : ∀ u ∈ [Value.int .u8 (c.toNat : Int)], u.oneCell' = true := fun u hu => by simp at hu; subst hu; rfl
  refine wpList_plain hgd fun K hK => ?_
  by_cases hroom : l.length + 1 ≤ cap
  · have hsp : ∀ j, j < [Value.int .u8 (c.toNat : Int)].length → (w.cell? ⟨g, 0 + l.length * i0.size + j, none⟩).isSome = true ∧ w.frozen? ⟨g, 0 + l.length * i0.size + j, none⟩ = false := fun j hj => by
      have : j = 0 := by simp at hj; exact hj
      subst this
      rw [hz1, show 0 + l.length * 1 + 0 = l.length from by omega]
      exact hr.room _ (by omega)
    have hrun := run_append_room_cells (P := Tryz.prog) w 46 o.type 5 i0 Tryz.underlying46 hi g 0 l.length cap ⟨gn, 0, none⟩ 1 1 [.int .u8 (c.toNat : Int)] (by rw [hz1]; rfl) hnews h1 hroom (fun j hj => (hsp j hj).1) (fun j hj => (hsp j hj).2)
    unfold Oper.wp execOp
    simp only [ho, resolve, invoke, builtin, Sem.run_bind, Sem.run_pure, Result.andThen_ok, List.map_toArray, List.map_cons, List.map_nil, hs, hx, hrun]
    have hw : w.setCells g (0 + l.length * i0.size) [.int .u8 (c.toNat : Int)] = w.setCell ⟨g, l.length, none⟩ (.int .u8 (c.toNat : Int)) := by
      rw [hz1, show 0 + l.length * 1 = l.length from by omega]; rfl
    rw [hw]
    refine hK _ _ (h g cap _ ⟨hr.low, by simpa using hr.lt, by simpa using hroom, fun j d hj => ?_, fun j hj => ⟨?_, ?_⟩⟩ ((Below.refl _ _).setCell hr.low _))
    · by_cases hjl : j = l.length
      · subst hjl
        rw [List.getElem?_concat_length] at hj
        cases hj
        exact World.cell?_setCell_same' _ _ _ (hr.room _ (by omega)).1
      · rw [World.cell?_setCell_other (h := show (⟨g, l.length, none⟩ : Addr) ≠ ⟨g, j, none⟩ from fun e => by cases e; exact hjl rfl)]
        refine hr.cell j d ?_
        rw [List.getElem?_append_left] at hj
        · exact hj
        · have := (List.getElem?_eq_some_iff.1 hj).1
          simp at this; omega
    · by_cases hjl : j = l.length
      · subst hjl
        rw [World.cell?_setCell_same' _ _ _ (hr.room _ hj).1]; rfl
      · rw [World.cell?_setCell_other (h := show (⟨g, l.length, none⟩ : Addr) ≠ ⟨g, j, none⟩ from fun e => by cases e; exact hjl rfl)]
        exact (hr.room j hj).1
    · rw [World.frozen?_setCell]; exact (hr.room j hj).2
  · have holds : ∀ j u, (Lib.byteCells l)[j]? = some u → w.cell? ((⟨g, 0, none⟩ : Addr).add j) = some u := fun j u hj => by
      rw [Lib.byteCells, List.getElem?_map, Option.map_eq_some_iff] at hj
      obtain ⟨d, hd, rfl⟩ := hj
      have hadd : (⟨g, 0, none⟩ : Addr).add j = ⟨g, j, none⟩ := by unfold Addr.add; split <;> simp_all
      rw [hadd]
      exact hr.cell j d hd
    obtain ⟨v', w', hrun, r1, r2⟩ := run_append_arg_grows (P := Tryz.prog) w 46 o.type 5 i0 (.int .u8 0) 1 1 Tryz.underlying46 hi hz0 hz1 hz2 rfl (by decide) ⟨g, 0, none⟩ l.length cap (Lib.byteCells l) (by simp [Lib.byteCells]) holds ⟨gn, 0, none⟩ 1 1 [.int .u8 (c.toNat : Int)] rfl hnews (by omega) (by unfold maxLen; omega) (by omega)
    unfold Oper.wp execOp
    simp only [ho, resolve, invoke, builtin, Sem.run_bind, Sem.run_pure, Result.andThen_ok, List.map_toArray, List.map_cons, List.map_nil, hs, hx, hrun]
    rcases r1.2 with ⟨_, h0⟩ | ⟨g', cap', cur, rfl, hbg, hg, hnc, hcm, hcs, htake⟩
    · omega
    · refine hK _ _ (h g' cap' w' ⟨Nat.le_trans hB hbg, (Array.getElem?_eq_some_iff.1 hg).1, by simpa using hnc, fun j d hj => ?_, fun j hj => ⟨?_, frozen_of_row w' g' j _ _ hg⟩⟩ ⟨r2.os, r2.tape, r2.output, r2.size, fun k hk => r2.block k (by omega) (by simp)⟩)
      · have hjl : j < (l ++ [c]).length := (List.getElem?_eq_some_iff.1 hj).1
        rw [World.ownsRow.cellAt r1 j (by simp at hjl; omega)]
        have e : Lib.byteCells l ++ [Value.int .u8 (c.toNat : Int)] = Lib.byteCells (l ++ [c]) := by simp [Lib.byteCells]
        rw [e, Lib.byteCells, List.getElem?_map, hj]; rfl
      · rw [cell_of_row w' g' j _ _ _ hg, Array.getElem?_eq_getElem (by omega)]; rfl
theorem wpList_appV (w : World) {ops : Array Oper} {rest : List Oper} {o : Oper} {a : Act} {Q : Exit → Act → World → Prop} (hgd : o.guard = none) (s x : Operand)
    (ho : o.op = .call { callee := .builtin .append, args := #[s, x], argTypes := #[46, 46] }) (B g cap n : Nat) (l : List UInt8) (c : UInt8) (hn : n = l.length)
    (hs : a.eval s = .slice (some ⟨g, 0, none⟩) n cap) (hr : RowB w B g cap l) (gn : Nat) (hx : a.eval x = .slice (some ⟨gn, 0, none⟩) 1 1) (vc : Int)
    (hc : w.cell? ⟨gn, 0, none⟩ = some (.int .u8 vc)) (hl : l.length ≤ 4294967296) (hv : vc = (c.toNat : Int)) (hB : B ≤ w.heap.size)
    (h : ∀ g' cap' w', RowB w' B g' cap' (l ++ [c]) → Below B w w' → wpList Tryz.prog ops Q rest (a.put o.dst (.slice (some ⟨g', 0, none⟩) (n + 1) cap')) w') : wpList Tryz.prog ops Q (o :: rest) a w := by
  subst hv
  exact wpList_appB w hgd s x ho B g cap n l c hn hs hr gn hx hc hl hB h
end Go.Proofs.YtkeefkfklmhcjaaGreatDoor
