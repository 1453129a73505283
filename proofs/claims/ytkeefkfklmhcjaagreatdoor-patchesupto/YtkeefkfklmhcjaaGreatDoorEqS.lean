import Derived.Test.YtkeefkfklmhcjaaGreatDoorEntC
import Derived.Laws.StructEq
namespace Go.Proofs.YtkeefkfklmhcjaaGreatDoor
open Go.RowKit

/-- Are two entries alike? -/
def eqE (a b : Ent) : Bool := a.path.toList == b.path.toList && (a.kind == b.kind && (a.mode == b.mode && a.data.toList == b.data.toList))
theorem eqE_iff {a b : Ent} : eqE a b = true ↔ a = b := by
  obtain ⟨⟨⟨p⟩⟩, k, m, ⟨⟨d⟩⟩⟩ := a
  obtain ⟨⟨⟨q⟩⟩, k', m', ⟨⟨e⟩⟩⟩ := b
  simp [eqE, Lib.toList_data]
def entV (e : Ent) : Array Value := #[.string e.path, .int .i64 e.kind, .int .i64 e.mode, .string e.data]
theorem fields49 : Tryz.prog.fieldsOf 56 = Tryz.prog.fieldsOf 38 := by kernel_rfl
theorem fields39 : Tryz.prog.fieldsOf 39 = Tryz.prog.fieldsOf 38 := by kernel_rfl
theorem fields38 : (Tryz.prog.fieldsOf 38).toList.map (fun f => (f.name, f.type, f.offset)) = [("Path", 9, 0), ("Kind", 3, 1), ("Mode", 3, 2), ("Data", 9, 3)] := by kernel_rfl
theorem four_of {l : List Field} {a b c d : String × TypeId × Nat} (h : l.map (fun f => (f.name, f.type, f.offset)) = [a, b, c, d]) : ∃ f1 f2 f3 f4 : Field, l = [f1, f2, f3, f4] ∧ (f1.name = a.1 ∧ f1.type = a.2.1 ∧ f1.offset = a.2.2) ∧ (f2.name = b.1 ∧ f2.type = b.2.1 ∧ f2.offset = b.2.2) ∧ (f3.name = c.1 ∧ f3.type = c.2.1 ∧ f3.offset = c.2.2) ∧ (f4.name = d.1 ∧ f4.type = d.2.1 ∧ f4.offset = d.2.2) := by
  match l, h with
  | [f1, f2, f3, f4], h =>
    simp only [List.map_cons, List.map_nil, List.cons.injEq, and_true] at h
    obtain ⟨rfl, rfl, rfl, rfl⟩ := h
    exact ⟨f1, f2, f3, f4, rfl, ⟨rfl, rfl, rfl⟩, ⟨rfl, rfl, rfl⟩, ⟨rfl, rfl, rfl⟩, ⟨rfl, rfl, rfl⟩⟩
theorem eqFields38 (a b : Ent) (w : World) : (Op.eqFields 9999 (entV a) (entV b) (Tryz.prog.fieldsOf 38).toList).run Tryz.prog w = .ok (eqE a b) w := by
  obtain ⟨f1, f2, f3, f4, he, ⟨n1, t1, o1⟩, ⟨n2, t2, o2⟩, ⟨n3, t3, o3⟩, ⟨n4, t4, o4⟩⟩ := four_of fields38
  rw [he]
  simp only [Op.eqFields, n1, n2, n3, n4, t1, t2, t3, t4, o1, o2, o3, o4, entV]
  have u9 := Tryz.underlying9
  have u3 := Tryz.underlying3
  cases h1 : (a.path.toList == b.path.toList)
  · simp [go_sem, part, u9, h1, eqE, Result.andThen]
  · cases h2 : (a.kind == b.kind)
    · simp [go_sem, part, u9, u3, h1, h2, eqE, Result.andThen]
    · cases h3 : (a.mode == b.mode)
      · simp [go_sem, part, u9, u3, h1, h2, h3, eqE, Result.andThen]
      · cases h4 : (a.data.toList == b.data.toList)
        · simp [go_sem, part, u9, u3, h1, h2, h3, h4, eqE, Result.andThen]
        · simp [go_sem, part, u9, u3, h1, h2, h3, h4, eqE, Result.andThen]
theorem struct49 : Tryz.prog.underlying 56 = some (.struct (Tryz.prog.fieldsOf 56)) := by kernel_rfl
theorem struct39 : Tryz.prog.underlying 39 = some (.struct (Tryz.prog.fieldsOf 39)) := by kernel_rfl
theorem stood49 : Tryz.prog.stoodInHeld 56 = false := by kernel_rfl
theorem stood39 : Tryz.prog.stoodInHeld 39 = false := by kernel_rfl
set_option maxRecDepth 100000 in
theorem eql49 (a b : Ent) (w : World) : (binOp .eql 56 (.agg #[.string a.path, .int .i64 a.kind, .int .i64 a.mode, .string a.data]) (.agg #[.string b.path, .int .i64 b.kind, .int .i64 b.mode, .string b.data])).run Tryz.prog w = .ok (.bool (eqE a b)) w := by
  rw [run_eql_struct, run_equalIn_struct w 9999 56 _ _ struct49 stood49, fields49]
  have h := eqFields38 a b w
  unfold entV at h
  rw [h]
  rfl
set_option maxRecDepth 100000 in
theorem neq49 (a b : Ent) (w : World) : (binOp .neq 56 (.agg #[.string a.path, .int .i64 a.kind, .int .i64 a.mode, .string a.data]) (.agg #[.string b.path, .int .i64 b.kind, .int .i64 b.mode, .string b.data])).run Tryz.prog w = .ok (.bool (!eqE a b)) w := by
  rw [run_neq_struct, run_equalIn_struct w 9999 56 _ _ struct49 stood49, fields49]
  have h := eqFields38 a b w
  unfold entV at h
  rw [h]
  rfl
set_option maxRecDepth 100000 in
theorem neq39 (a b : Ent) (w : World) : (binOp .neq 39 (.agg #[.string a.path, .int .i64 a.kind, .int .i64 a.mode, .string a.data]) (.agg #[.string b.path, .int .i64 b.kind, .int .i64 b.mode, .string b.data])).run Tryz.prog w = .ok (.bool (!eqE a b)) w := by
  rw [run_neq_struct, run_equalIn_struct w 9999 39 _ _ struct39 stood39, fields39]
  have h := eqFields38 a b w
  unfold entV at h
  rw [h]
  rfl
end Go.Proofs.YtkeefkfklmhcjaaGreatDoor
