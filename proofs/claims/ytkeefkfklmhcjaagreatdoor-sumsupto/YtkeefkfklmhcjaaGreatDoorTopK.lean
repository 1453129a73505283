import Derived.Test.YtkeefkfklmhcjaaGreatDoorTell
import Derived.Test.YtkeefkfklmhcjaaGreatDoorOfA
namespace Go.Proofs.YtkeefkfklmhcjaaGreatDoor
open Go.RowKit Go.Maps

theorem as_hit_b (q t : Addr) (old : Value) (B : Nat) (w : World) (hg : w.cell? ⟨0, 0, none⟩ = some (.iface 150 (.agg #[.pointer (some ⟨23, 50, none⟩)]))) (ht0 : w.cell? t = some old) (hf0 : w.frozen? t = false) (hB : B ≤ t.block) :
    Calls Tryz.prog 47 #[.iface 83 (.pointer (some q)), .iface 85 (.pointer (some t))] w fun ev w' => ev = .returned (.bool true) ∧ w'.cell? t = some (.pointer (some q)) ∧ Below B w w' := by
  have htl : t.block < w.heap.size := World.block_lt_of_cell? _ _ ht0
  refine (as_hit q t old w hg ht0 hf0).mono ?_
  rintro e w' ⟨rfl, rfl⟩
  refine ⟨rfl, ?_, (((((Below.refl _ _).alloc (by omega) _).alloc (by simp; omega) _).alloc (by simp; omega) _).alloc (by simp; omega) _).setCell hB _⟩
  refine World.cell?_setCell_same _ _ _ (u := old) (by rw [World.cell?_alloc_lt _ _ t (by simp; omega), World.cell?_alloc_lt _ _ t (by simp; omega), World.cell?_alloc_lt _ _ t (by simp; omega), World.cell?_alloc_lt _ _ t htl]; exact ht0)
set_option maxHeartbeats 2000000 in
theorem tell_at (q : Nat) (e n : Int) (w : World) (hg : w.cell? ⟨0, 0, none⟩ = some (.iface 150 (.agg #[.pointer (some ⟨23, 50, none⟩)]))) (h0 : w.cell? ⟨q, 0, none⟩ = some (.int .i64 e)) (h1 : w.cell? ⟨q, 1, none⟩ = some (.int .i64 n)) :
    Calls Tryz.prog 24 #[.iface 83 (.pointer (some ⟨q, 0, none⟩))] w fun ev w' => ev = .returned (.tuple #[.int .i64 e, .int .i64 n]) ∧ Below w.heap.size w w' := by
  have hlt : 0 < w.heap.size := World.block_lt_of_cell? _ _ hg
  have hq : q < w.heap.size := World.block_lt_of_cell? _ _ h0
  go_enter Tryz.func24, Tryz.ntmps24
  go_wp2_with fail
  refine (as_hit_b ⟨q, 0, none⟩ ⟨w.heap.size, 0, none⟩ (.pointer none) w.heap.size _ ?hgA ?htA ?hfA (Nat.le_refl _)).mono ?_
  case hgA => rw [World.cell?_alloc_lt _ _ ⟨0, 0, none⟩ (by simp), World.cell?_alloc_lt _ _ ⟨0, 0, none⟩ hlt]; exact hg
  case htA => rw [World.cell?_alloc_lt _ _ ⟨w.heap.size, 0, none⟩ (by simp)]; simp
  case hfA => rw [World.frozen?_alloc_old _ _ ⟨w.heap.size, 0, none⟩ (by simp)]; simp
  rintro ev w1 ⟨rfl, hc1, hb1⟩
  have hbw : Below w.heap.size w w1 := (((Below.refl _ _).alloc (Nat.le_refl _) _).alloc (by simp) _).trans hb1
  have d0 : w1.cell? ⟨q, 0, none⟩ = some (.int .i64 e) := cell_later hbw h0
  have d1 : w1.cell? ⟨q, 1, none⟩ = some (.int .i64 n) := cell_later hbw h1
  clear hb1
  go_upto_region 6 with fail
  go_quiet (fail)
  go_wp2
  go_ret2
  exact ⟨rfl, hbw.os, hbw.tape, hbw.output, hbw.size, hbw.block⟩
/-- What is laid, and what is told of the world ahead of a call. -/
structure Laid (w : World) : Prop where
  err : w.cell? ⟨0, 0, none⟩ = some (.iface 150 (.agg #[.pointer (some ⟨23, 50, none⟩)]))
  max : ∃ m : Int, w.cell? ⟨15, 0, none⟩ = some (.int .i64 m)
theorem Laid.below {w w' : World} (h : Laid w) (hb : Below w.heap.size w w') : Laid w' := by
  obtain ⟨m, hm⟩ := h.max
  exact ⟨cell_later hb h.err, m, cell_later hb hm⟩
/-- The example. -/
def treeE : List Ent := [⟨⟨#[97]⟩, 1, 493, ⟨#[]⟩⟩, ⟨⟨#[97, 47, 120]⟩, 2, 420, ⟨#[104, 105]⟩⟩, ⟨⟨#[108]⟩, 3, 0, ⟨#[97, 47, 120]⟩⟩]
theorem tree_bad : FirstBad treeE (-1) := .inl ⟨rfl, fun i hi => by
  have h : i = 0 ∨ i = 1 ∨ i = 2 := by simp [treeE] at hi; omega
  rcases h with rfl | rfl | rfl <;> decide +kernel⟩
theorem tree_small : Small treeE := fun e he => by
  simp only [treeE, List.mem_cons, List.not_mem_nil, or_false] at he
  rcases he with rfl | rfl | rfl <;> decide
theorem nil_bad : FirstBad [] (-1) := .inl ⟨rfl, fun i hi => absurd hi (by simp)⟩
theorem nil_small : Small [] := fun e he => by simp at he
theorem erow_nil (w : World) (ao : Option Addr) : ERow w ao [] := fun k e hk => by simp at hk
theorem treeE_any (w : World) : Calls Tryz.prog 12 #[] w fun ev w' => ∃ ao cap, ev = .returned (.slice ao 3 cap) ∧ ERow w' ao treeE ∧ Below w.heap.size w w' := by
  go_enter Tryz.func12, Tryz.ntmps12
  go_wp2
  go_ret
  refine ⟨_, _, rfl, fun k e hk => ?_, (Below.refl _ _).alloc (Nat.le_refl _) _⟩
  have hk3 : k < 3 := (List.getElem?_eq_some_iff.1 hk).1
  have hc : ∀ j, (w.alloc (.cells #[.string ⟨#[97]⟩, .int .i64 1, .int .i64 493, .string ⟨#[]⟩, .string ⟨#[97, 47, 120]⟩, .int .i64 2, .int .i64 420, .string ⟨#[104, 105]⟩, .string ⟨#[108]⟩, .int .i64 3, .int .i64 0, .string ⟨#[97, 47, 120]⟩] 56)).cell? ⟨w.heap.size, j, none⟩ = (#[.string ⟨#[97]⟩, .int .i64 1, .int .i64 493, .string ⟨#[]⟩, .string ⟨#[97, 47, 120]⟩, .int .i64 2, .int .i64 420, .string ⟨#[104, 105]⟩, .string ⟨#[108]⟩, .int .i64 3, .int .i64 0, .string ⟨#[97, 47, 120]⟩] : Array Value)[j]? := fun j => cell_of_row _ _ j _ _ _ (heap_alloc_new _ _)
  refine ⟨w.heap.size, 0, rfl, ?_⟩
  have h : k = 0 ∨ k = 1 ∨ k = 2 := by omega
  rcases h with rfl | rfl | rfl
  all_goals
    simp only [treeE, List.getElem?_cons_zero, List.getElem?_cons_succ, Option.some.injEq] at hk
    subst hk
    exact ⟨hc _, hc _, hc _, hc _⟩
end Go.Proofs.YtkeefkfklmhcjaaGreatDoor
