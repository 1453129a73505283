import Derived.Test.YtjofjcjojgpaeaaGreatDoorJMid
import Derived.Test.YtjofjcjojgpaeaaGreatDoorJEntC
import Derived.Deep.Slices
import Derived.ChangeSame
import Derived.Test.YtjofjcjojgpaeaaGreatDoorJPatP
namespace Go.Proofs.YtjofjcjojgpaeaaGreatDoor
open Go.RowKit Go.ChangeShapes Go.WideShapes Go.Deep

/-- How an entry reads. -/
def litE {H : Type} (e : Ent) : DataW H := .agg [.lit (.string e.path.data.toList), .lit (.int .i64 e.kind), .lit (.int .i64 e.mode), .lit (.string e.data.data.toList)]
def Ent.cells (e : Ent) : List Value := [.string e.path, .int .i64 e.kind, .int .i64 e.mode, .string e.data]
structure OkE (e : Ent) : Prop where
  path : e.path.size ≤ maxLen
  kind : (Lit.int .i64 e.kind).wf = true
  mode : (Lit.int .i64 e.mode).wf = true
  data : e.data.size ≤ maxLen
theorem Tryz.cellsOf47 : Tryz.prog.cellsOf 47 = 4 := by kernel_rfl
theorem Tryz.cellsOf9 : Tryz.prog.cellsOf 9 = 1 := by kernel_rfl
theorem Tryz.cellsOf3 : Tryz.prog.cellsOf 3 = 1 := by kernel_rfl
theorem four {α : Type} {l : List α} (h : l.length = 4) : ∃ a b c d, l = [a, b, c, d] := by
  match l, h with
  | [a, b, c, d], _ => exact ⟨a, b, c, d, rfl⟩
section
variable {H : Type} {enc : TypeId × Value → H} {w : World} {base : Nat} {spare : Nat → Bool} {held : Bool}
theorem open_ent {fuel : Nat} {cs : List Value} {x : DataW H × List MemPlace} (h : DataW.trod enc Tryz.prog w base spare held fuel 47 cs = some x) : ∃ e : Ent, cs = e.cells ∧ x = (litE e, []) ∧ OkE e := by
  obtain ⟨xs, n, rfl, hx, hl, hxl, hf⟩ := DataW.trod_struct Tryz.underlying47 h
  rw [Tryz.cellsOf47] at hl
  have hx4 : xs.length = 4 := hxl
  clear hxl h
  obtain ⟨y0, y1, y2, y3, rfl⟩ := four hx4
  obtain ⟨v0, v1, v2, v3, rfl⟩ := four hl
  · skip
    have g0 : DataW.trod enc Tryz.prog w base spare held n 9 (List.take (Tryz.prog.cellsOf 9) (List.drop 0 [v0, v1, v2, v3])) = some y0 := hf 0 _ rfl
    rw [Tryz.cellsOf9] at g0
    replace g0 : DataW.trod enc Tryz.prog w base spare held n 9 [v0] = some y0 := g0
    have g1 : DataW.trod enc Tryz.prog w base spare held n 3 (List.take (Tryz.prog.cellsOf 3) (List.drop 1 [v0, v1, v2, v3])) = some y1 := hf 1 _ rfl
    rw [Tryz.cellsOf3] at g1
    replace g1 : DataW.trod enc Tryz.prog w base spare held n 3 [v1] = some y1 := g1
    have g2 : DataW.trod enc Tryz.prog w base spare held n 3 (List.take (Tryz.prog.cellsOf 3) (List.drop 2 [v0, v1, v2, v3])) = some y2 := hf 2 _ rfl
    rw [Tryz.cellsOf3] at g2
    replace g2 : DataW.trod enc Tryz.prog w base spare held n 3 [v2] = some y2 := g2
    have g3 : DataW.trod enc Tryz.prog w base spare held n 9 (List.take (Tryz.prog.cellsOf 9) (List.drop 3 [v0, v1, v2, v3])) = some y3 := hf 3 _ rfl
    rw [Tryz.cellsOf9] at g3
    replace g3 : DataW.trod enc Tryz.prog w base spare held n 9 [v3] = some y3 := g3
    obtain ⟨s0, e0, rfl, z0⟩ := DataW.trod_string Tryz.underlying9 g0
    obtain ⟨k1, e1, rfl, z1⟩ := DataW.trod_int Tryz.underlying3 g1
    obtain ⟨k2, e2, rfl, z2⟩ := DataW.trod_int Tryz.underlying3 g2
    obtain ⟨s3, e3, rfl, z3⟩ := DataW.trod_string Tryz.underlying9 g3
    have q0 : v0 = .string s0 := by simpa using e0
    subst q0
    have q1 : v1 = .int .i64 k1 := by simpa using e1
    subst q1
    have q2 : v2 = .int .i64 k2 := by simpa using e2
    subst q2
    have q3 : v3 = .string s3 := by simpa using e3
    subst q3
    exact ⟨⟨s0, k1, k2, s3⟩, rfl, hx.trans (by simp [litE]), ⟨z0, z1, z2, z3⟩⟩
theorem shut_ent {e : Ent} (h : OkE e) : DataW.trod enc Tryz.prog w base spare held 2 47 e.cells = some (litE e, []) := by
  have := trod_struct_mk (enc := enc) (w := w) (base := base) (spare := spare) (held := held) (n := 1) (cs := e.cells) (xs := [(.lit (.string e.path.data.toList), []), (.lit (.int .i64 e.kind), []), (.lit (.int .i64 e.mode), []), (.lit (.string e.data.data.toList), [])]) Tryz.underlying47 (by rw [Tryz.cellsOf47]; rfl) (by
    simp [Ent.cells, Tryz.cellsOf9, Tryz.cellsOf3, DataW.trod, Tryz.underlying9, Tryz.underlying3, h.path, h.kind, h.mode, h.data])
  simpa [litE] using this
/-- A list of entries that was handed in. -/
theorem open_ents {v : Value} {d : DataW H} {p : List MemPlace} (hv : v.cells.toList = [v]) (h : DataW.Trod enc Tryz.prog w 0 (fun _ => true) true 23 v d p) :
    (v = .slice none 0 0 ∧ d = .nil ∧ p = []) ∨ ∃ (a : Addr) (len cap : Nat) (E : Nat → Ent), v = .slice (some a) len cap ∧ len ≤ cap ∧ cap ≤ maxLen ∧ d = .slice ((List.range len).map fun i => litE (E i)) ((List.range (cap - len)).map fun j => litE (E (len + j))) ∧ p = MemPlace.row a (cap * 4) ∧
      ∀ i, i < cap → OkE (E i) ∧ a.spot = none ∧ w.cells? 0 (a.add (i * 4)) 4 = some (E i).cells := by
  obtain ⟨fuel, hf⟩ := h
  rw [hv] at hf
  rcases open_slice Tryz.underlying23 hf with ⟨h1, h2⟩ | ⟨a, len, cap, m, n, D, Pl, h1, _, hl, hm, hmm, h2, hx⟩
  · cases h2
    exact .inl ⟨List.singleton_inj.1 h1, rfl, rfl⟩
  · right
    obtain rfl : m = cap := hmm
    have each : ∀ i, i < m → ∃ e : Ent, D i = litE e ∧ Pl i = [] ∧ OkE e ∧ a.spot = none ∧ w.cells? 0 (a.add (i * 4)) 4 = some e.cells := by
      intro i hi
      obtain ⟨cs', g1, g2⟩ := hx i hi
      rw [Tryz.cellsOf47] at g1
      obtain ⟨e, rfl, g3, g4⟩ := open_ent g2
      have g5 : D i = litE e := congrArg Prod.fst g3
      have g6 : Pl i = [] := congrArg Prod.snd g3
      refine ⟨e, g5, g6, g4, ?_, g1⟩
      obtain ⟨cs0, q1, q2⟩ := hx 0 (Nat.lt_of_le_of_lt (Nat.zero_le _) hi)
      simp only [Tryz.cellsOf47, Nat.zero_mul, Addr.add_zero'] at q1
      obtain ⟨e0, rfl, _, _⟩ := open_ent q2
      have q3 := (World.cells?_some q1).2.2 0 (by decide)
      simp only [Addr.add_zero'] at q3
      cases hs : a.spot with
      | none => rfl
      | some y =>
        unfold World.cell? at q3
        rw [hs] at q3
        split at q3 <;> simp [Ent.cells] at q3
    haveI : Inhabited Ent := ⟨⟨ByteArray.empty, 0, 0, ByteArray.empty⟩⟩; haveI : Inhabited Tg := ⟨⟨0, 0, 0, ByteArray.empty⟩⟩; obtain ⟨E, hE⟩ := choose_lt each
    cases h2
    refine ⟨a, len, m, E, List.singleton_inj.1 h1, hl, hm, ?_, ?_, fun i hi => ⟨(hE i hi).2.2.1, (hE i hi).2.2.2.1, (hE i hi).2.2.2.2⟩⟩
    · rw [List.map_congr_left (fun i hi => (hE i (by have := List.mem_range.1 hi; omega)).1), List.map_congr_left (fun j hj => (hE (len + j) (by have := List.mem_range.1 hj; omega)).1)]
    · rw [Tryz.cellsOf47, flatMap_congr_range (fun i hi => (hE i hi).2.1), List.flatMap_eq_nil_iff.2 (fun _ _ => rfl), List.append_nil]
theorem flat_none (n : Nat) : (List.range n).flatMap (fun _ => ([] : List MemPlace)) = [] := List.flatMap_eq_nil_iff.2 (fun _ _ => rfl)
theorem shut_ents {a : Addr} {len cap : Nat} {E : Nat → Ent} (hl : len ≤ cap) (hm : cap ≤ maxLen) (hsp : spare a.block = true) (hx : ∀ i, i < cap → OkE (E i) ∧ w.cells? 0 (a.add (i * 4)) 4 = some (E i).cells) :
    DataW.Trod enc Tryz.prog w 0 spare held 23 (.slice (some a) len cap) (.slice ((List.range len).map fun i => litE (E i)) ((List.range (cap - len)).map fun j => litE (E (len + j)))) (MemPlace.row a (cap * 4)) := by
  have h := shut_slice_whole (enc := enc) (w := w) (base := 0) (held := held) Tryz.underlying23 (Nat.zero_le _) hl hm hsp (fun i => litE (E i)) (fun _ => []) (fun i hi => ⟨(E i).cells, 2, by rw [Tryz.cellsOf47]; exact (hx i hi).2, shut_ent (hx i hi).1⟩)
  rw [Tryz.cellsOf47, flat_none, List.append_nil] at h
  exact h
end
end Go.Proofs.YtjofjcjojgpaeaaGreatDoor

namespace Go.Proofs.YtjofjcjojgpaeaaGreatDoor
open Go.RowKit Go.ChangeShapes Go.WideShapes Go.Deep

/-- How a raw thing reads. -/
def litT {H : Type} (e : Tg) : DataW H := .agg [.lit (.int .i64 e.a), .lit (.int .i64 e.b), .lit (.int .i64 e.c), .lit (.string e.d.data.toList)]
def Tg.cells (e : Tg) : List Value := [.int .i64 e.a, .int .i64 e.b, .int .i64 e.c, .string e.d]
structure OkT (e : Tg) : Prop where
  a : (Lit.int .i64 e.a).wf = true
  b : (Lit.int .i64 e.b).wf = true
  c : (Lit.int .i64 e.c).wf = true
  d : e.d.size ≤ maxLen
theorem Tryz.cellsOf49 : Tryz.prog.cellsOf 49 = 4 := by kernel_rfl
section
variable {H : Type} {enc : TypeId × Value → H} {w : World} {base : Nat} {spare : Nat → Bool} {held : Bool}
theorem open_tg {fuel : Nat} {cs : List Value} {x : DataW H × List MemPlace} (h : DataW.trod enc Tryz.prog w base spare held fuel 49 cs = some x) : ∃ e : Tg, cs = e.cells ∧ x = (litT e, []) ∧ OkT e := by
  obtain ⟨xs, n, rfl, hx, hl, hxl, hf⟩ := DataW.trod_struct Tryz.underlying49 h
  rw [Tryz.cellsOf49] at hl
  have hx4 : xs.length = 4 := hxl
  clear hxl h
  obtain ⟨y0, y1, y2, y3, rfl⟩ := four hx4
  obtain ⟨v0, v1, v2, v3, rfl⟩ := four hl
  · skip
    have g0 : DataW.trod enc Tryz.prog w base spare held n 3 (List.take (Tryz.prog.cellsOf 3) (List.drop 0 [v0, v1, v2, v3])) = some y0 := hf 0 _ rfl
    rw [Tryz.cellsOf3] at g0
    replace g0 : DataW.trod enc Tryz.prog w base spare held n 3 [v0] = some y0 := g0
    have g1 : DataW.trod enc Tryz.prog w base spare held n 3 (List.take (Tryz.prog.cellsOf 3) (List.drop 1 [v0, v1, v2, v3])) = some y1 := hf 1 _ rfl
    rw [Tryz.cellsOf3] at g1
    replace g1 : DataW.trod enc Tryz.prog w base spare held n 3 [v1] = some y1 := g1
    have g2 : DataW.trod enc Tryz.prog w base spare held n 3 (List.take (Tryz.prog.cellsOf 3) (List.drop 2 [v0, v1, v2, v3])) = some y2 := hf 2 _ rfl
    rw [Tryz.cellsOf3] at g2
    replace g2 : DataW.trod enc Tryz.prog w base spare held n 3 [v2] = some y2 := g2
    have g3 : DataW.trod enc Tryz.prog w base spare held n 9 (List.take (Tryz.prog.cellsOf 9) (List.drop 3 [v0, v1, v2, v3])) = some y3 := hf 3 _ rfl
    rw [Tryz.cellsOf9] at g3
    replace g3 : DataW.trod enc Tryz.prog w base spare held n 9 [v3] = some y3 := g3
    obtain ⟨k0, e0, rfl, z0⟩ := DataW.trod_int Tryz.underlying3 g0
    obtain ⟨k1, e1, rfl, z1⟩ := DataW.trod_int Tryz.underlying3 g1
    obtain ⟨k2, e2, rfl, z2⟩ := DataW.trod_int Tryz.underlying3 g2
    obtain ⟨s3, e3, rfl, z3⟩ := DataW.trod_string Tryz.underlying9 g3
    have q0 : v0 = .int .i64 k0 := by simpa using e0
    subst q0
    have q1 : v1 = .int .i64 k1 := by simpa using e1
    subst q1
    have q2 : v2 = .int .i64 k2 := by simpa using e2
    subst q2
    have q3 : v3 = .string s3 := by simpa using e3
    subst q3
    exact ⟨⟨k0, k1, k2, s3⟩, rfl, hx.trans (by simp [litT]), ⟨z0, z1, z2, z3⟩⟩
theorem shut_tg {e : Tg} (h : OkT e) : DataW.trod enc Tryz.prog w base spare held 2 49 e.cells = some (litT e, []) := by
  have := trod_struct_mk (enc := enc) (w := w) (base := base) (spare := spare) (held := held) (n := 1) (cs := e.cells) (xs := [(.lit (.int .i64 e.a), []), (.lit (.int .i64 e.b), []), (.lit (.int .i64 e.c), []), (.lit (.string e.d.data.toList), [])]) Tryz.underlying49 (by rw [Tryz.cellsOf49]; rfl) (by
    simp [Tg.cells, Tryz.cellsOf9, Tryz.cellsOf3, DataW.trod, Tryz.underlying9, Tryz.underlying3, h.a, h.b, h.c, h.d])
  simpa [litT] using this
/-- A list of raw things that was handed in. -/
theorem open_tgs {v : Value} {d : DataW H} {p : List MemPlace} (hv : v.cells.toList = [v]) (h : DataW.Trod enc Tryz.prog w 0 (fun _ => true) true 22 v d p) :
    (v = .slice none 0 0 ∧ d = .nil ∧ p = []) ∨ ∃ (a : Addr) (len cap : Nat) (E : Nat → Tg), v = .slice (some a) len cap ∧ len ≤ cap ∧ cap ≤ maxLen ∧ d = .slice ((List.range len).map fun i => litT (E i)) ((List.range (cap - len)).map fun j => litT (E (len + j))) ∧ p = MemPlace.row a (cap * 4) ∧
      ∀ i, i < cap → OkT (E i) ∧ a.spot = none ∧ w.cells? 0 (a.add (i * 4)) 4 = some (E i).cells := by
  obtain ⟨fuel, hf⟩ := h
  rw [hv] at hf
  rcases open_slice Tryz.underlying22 hf with ⟨h1, h2⟩ | ⟨a, len, cap, m, n, D, Pl, h1, _, hl, hm, hmm, h2, hx⟩
  · cases h2
    exact .inl ⟨List.singleton_inj.1 h1, rfl, rfl⟩
  · right
    obtain rfl : m = cap := hmm
    have each : ∀ i, i < m → ∃ e : Tg, D i = litT e ∧ Pl i = [] ∧ OkT e ∧ a.spot = none ∧ w.cells? 0 (a.add (i * 4)) 4 = some e.cells := by
      intro i hi
      obtain ⟨cs', g1, g2⟩ := hx i hi
      rw [Tryz.cellsOf49] at g1
      obtain ⟨e, rfl, g3, g4⟩ := open_tg g2
      have g5 : D i = litT e := congrArg Prod.fst g3
      have g6 : Pl i = [] := congrArg Prod.snd g3
      refine ⟨e, g5, g6, g4, ?_, g1⟩
      obtain ⟨cs0, q1, q2⟩ := hx 0 (Nat.lt_of_le_of_lt (Nat.zero_le _) hi)
      simp only [Tryz.cellsOf49, Nat.zero_mul, Addr.add_zero'] at q1
      obtain ⟨e0, rfl, _, _⟩ := open_tg q2
      have q3 := (World.cells?_some q1).2.2 0 (by decide)
      simp only [Addr.add_zero'] at q3
      cases hs : a.spot with
      | none => rfl
      | some y =>
        unfold World.cell? at q3
        rw [hs] at q3
        split at q3 <;> simp [Tg.cells] at q3
    haveI : Inhabited Ent := ⟨⟨ByteArray.empty, 0, 0, ByteArray.empty⟩⟩; haveI : Inhabited Tg := ⟨⟨0, 0, 0, ByteArray.empty⟩⟩; obtain ⟨E, hE⟩ := choose_lt each
    cases h2
    refine ⟨a, len, m, E, List.singleton_inj.1 h1, hl, hm, ?_, ?_, fun i hi => ⟨(hE i hi).2.2.1, (hE i hi).2.2.2.1, (hE i hi).2.2.2.2⟩⟩
    · rw [List.map_congr_left (fun i hi => (hE i (by have := List.mem_range.1 hi; omega)).1), List.map_congr_left (fun j hj => (hE (len + j) (by have := List.mem_range.1 hj; omega)).1)]
    · rw [Tryz.cellsOf49, flatMap_congr_range (fun i hi => (hE i hi).2.1), List.flatMap_eq_nil_iff.2 (fun _ _ => rfl), List.append_nil]
theorem shut_tgs {a : Addr} {len cap : Nat} {E : Nat → Tg} (hl : len ≤ cap) (hm : cap ≤ maxLen) (hsp : spare a.block = true) (hx : ∀ i, i < cap → OkT (E i) ∧ w.cells? 0 (a.add (i * 4)) 4 = some (E i).cells) :
    DataW.Trod enc Tryz.prog w 0 spare held 22 (.slice (some a) len cap) (.slice ((List.range len).map fun i => litT (E i)) ((List.range (cap - len)).map fun j => litT (E (len + j)))) (MemPlace.row a (cap * 4)) := by
  have h := shut_slice_whole (enc := enc) (w := w) (base := 0) (held := held) Tryz.underlying22 (Nat.zero_le _) hl hm hsp (fun i => litT (E i)) (fun _ => []) (fun i hi => ⟨(E i).cells, 2, by rw [Tryz.cellsOf49]; exact (hx i hi).2, shut_tg (hx i hi).1⟩)
  rw [Tryz.cellsOf49, flat_none, List.append_nil] at h
  exact h
end
end Go.Proofs.YtjofjcjojgpaeaaGreatDoor
