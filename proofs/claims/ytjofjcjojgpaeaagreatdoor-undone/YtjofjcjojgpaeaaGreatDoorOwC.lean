import Derived.Test.YtjofjcjojgpaeaaGreatDoorJChl
namespace Go.Proofs.YtjofjcjojgpaeaaGreatDoor
open Go.RowKit Go.Maps

theorem Tryz.info37 : (Tryz.prog.info? 37).map (fun i => (i.zero, i.size, i.bytes)) = some (some (.agg #[.string ByteArray.empty, .int .i64 0, .int .i64 0, .string ByteArray.empty]), 4, 48) := by kernel_rfl
/-- A row of changes that the call made. -/
def OwnC (w : World) (B : Nat) (v : Value) (ks : List Ent) : Prop := w.ownsRow B 37 4 v ks.length (entC ks)
theorem ownC_row {w : World} {B : Nat} {v : Value} {ks : List Ent} (h : OwnC w B v ks) : ∃ ao cap n, v = .slice ao n cap ∧ Hid (n = ks.length) ∧ ERow w ao ks ∧ n ≤ cap := by
  rcases h.2 with ⟨rfl, h0⟩ | ⟨g, cap, cur, rfl, hb, hg, hnc, _⟩
  · have : ks = [] := List.length_eq_zero_iff.1 h0
    subst this
    exact ⟨none, 0, 0, rfl, hide rfl, fun k e hk => by simp at hk, Nat.le_refl _⟩
  · refine ⟨some ⟨g, 0, none⟩, cap, ks.length, rfl, hide rfl, fun k e hk => ?_, hnc⟩
    have hk' : k < ks.length := (List.getElem?_eq_some_iff.1 hk).1
    obtain ⟨h1, h2, h3, h4⟩ := entC_get hk
    refine ⟨g, 0, rfl, ?_, ?_, ?_, ?_⟩
    · rw [Nat.zero_add, World.ownsRow.cellAt h _ (by omega), h1]
    · rw [Nat.zero_add, World.ownsRow.cellAt h _ (by omega), h2]
    · rw [Nat.zero_add, World.ownsRow.cellAt h _ (by omega), h3]
    · rw [Nat.zero_add, World.ownsRow.cellAt h _ (by omega), h4]
theorem OwnC.later {w w' : World} {B : Nat} {v : Value} {ks : List Ent} (h : OwnC w B v ks) (hb : Below w.heap.size w w') : OwnC w' B v ks :=
  World.ownsRow.kept (row := none) h ⟨hb.os, hb.tape, hb.output, hb.size, fun k hk _ => hb.block k hk⟩ (by cases v.ownBlock <;> simp)
theorem ownC_snoc {w : World} {B : Nat} {v : Value} {ks : List Ent} {e : Ent} (h : w.ownsRow B 37 4 v (ks.length + 1) (entC ks ++ ec e)) : OwnC w B v (ks ++ [e]) := by
  unfold OwnC
  rw [List.length_append, show entC (ks ++ [e]) = entC ks ++ ec e from by simp [entC]]
  exact h
theorem ec_oneC (e : Ent) : ∀ y ∈ ec e, y.oneCell' = true := fun y hy => by
  simp [ec] at hy
  rcases hy with rfl | rfl | rfl | rfl <;> rfl
theorem ownC_below {w W w1 : World} {v : Value} {ks : List Ent} {o : Obj} (h : OwnC W w.heap.size v ks) (hb : Below w.heap.size w W) (hg : (W.alloc o).grownBy w1 v.ownBlock) : Below w.heap.size w w1 :=
  (hb.alloc hb.size o).grown hg (by have := hb.size; simp; omega) (fun q hq => (World.ownsRow.lt h q hq).1)
theorem OwnC.base {w : World} {B B' : Nat} {v : Value} {ks : List Ent} (h : OwnC w B v ks) (hb : B' ≤ B) : OwnC w B' v ks := by
  refine ⟨h.1, ?_⟩
  rcases h.2 with h1 | ⟨g, cap, cur, h1, h2, h3⟩
  · exact .inl h1
  · exact .inr ⟨g, cap, cur, h1, Nat.le_trans hb h2, h3⟩
end Go.Proofs.YtjofjcjojgpaeaaGreatDoor
