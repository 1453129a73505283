import Derived.Test.YtjofjcjojgpaeaaGreatDoorJEntB
import Derived.Test.YtjofjcjojgpaeaaGreatDoorJOrdB
import Derived.Deep.RegionHeld3
namespace Go.Proofs.YtjofjcjojgpaeaaGreatDoor
open Go.RowKit

/-- The entries of a row of theirs. -/
def ERow (w : World) (ao : Option Addr) (es : List Ent) : Prop := ∀ k e, es[k]? = some e → ∃ g o, ao = some ⟨g, o, none⟩ ∧ w.cell? ⟨g, o + k * 4, none⟩ = some (.string e.path) ∧ w.cell? ⟨g, o + k * 4 + 1, none⟩ = some (.int .i64 e.kind) ∧ w.cell? ⟨g, o + k * 4 + 2, none⟩ = some (.int .i64 e.mode) ∧ w.cell? ⟨g, o + k * 4 + 3, none⟩ = some (.string e.data)
theorem ERow.below {w w' : World} {ao : Option Addr} {es : List Ent} (h : ERow w ao es) (hb : Below w.heap.size w w') : ERow w' ao es := fun k e hk => by
  obtain ⟨g, o, h1, h2, h3, h4, h5⟩ := h k e hk
  exact ⟨g, o, h1, cell_later hb h2, cell_later hb h3, cell_later hb h4, cell_later hb h5⟩
theorem ERow.take {w : World} {ao : Option Addr} {es : List Ent} (h : ERow w ao es) (n : Nat) : ERow w ao (es.take n) := fun k e hk => by
  rw [List.getElem?_take] at hk
  split at hk
  · exact h k e hk
  · cases hk
/-- The number of the first entry at a path. -/
def AtIs (es : List Ent) (p : List UInt8) (r : Int) : Prop := (r = -1 ∧ ∀ e ∈ es, e.path.data.toList ≠ p) ∨ ∃ (i : Nat) (e : Ent), r = i ∧ es[i]? = some e ∧ e.path.data.toList = p ∧ ∀ e' ∈ es.take i, e'.path.data.toList ≠ p

/-- The kind of what stands at a path (0: nothing). -/
def kindP (es : List Ent) (p : List UInt8) : Int := if p = [] then 1 else match es.find? (fun e => e.path.data.toList == p) with
  | some e => e.kind
  | none => 0
theorem kindP_miss {es : List Ent} {p : List UInt8} (hp : p ≠ []) (h : ∀ e ∈ es, e.path.data.toList ≠ p) : kindP es p = 0 := by
  have : es.find? (fun e => e.path.data.toList == p) = none := by
    rw [List.find?_eq_none]; intro e he; simpa using h e he
  rw [kindP, if_neg hp, this]
theorem find_first {es : List Ent} {p : List UInt8} {i : Nat} {e : Ent} (h1 : es[i]? = some e) (h2 : e.path.data.toList = p) (h3 : ∀ e' ∈ es.take i, e'.path.data.toList ≠ p) : es.find? (fun e => e.path.data.toList == p) = some e := by
  have hsp : es = es.take i ++ e :: es.drop (i + 1) := by
    rw [← drop_at h1, List.take_append_drop]
  rw [hsp, List.find?_append, List.find?_eq_none.2 (by intro e' he'; simpa using h3 e' he')]
  simp [h2]
theorem kindP_hit {es : List Ent} {p : List UInt8} (hp : p ≠ []) {i : Nat} {e : Ent} (h1 : es[i]? = some e) (h2 : e.path.data.toList = p) (h3 : ∀ e' ∈ es.take i, e'.path.data.toList ≠ p) : kindP es p = e.kind := by
  rw [kindP, if_neg hp, find_first h1 h2 h3]

end Go.Proofs.YtjofjcjojgpaeaaGreatDoor

namespace Go.Proofs.YtjofjcjojgpaeaaGreatDoor
open Go.RowKit

/-- Entries of a size that the proof bears. -/
def Small (es : List Ent) : Prop := ∀ e ∈ es, e.path.size ≤ 1048576 ∧ e.data.size ≤ 1048576
/-- May the entry of this number stand where it stands? -/
def okAt (es : List Ent) (i : Nat) : Bool := match es[i]? with
  | none => false
  | some e => decide (i < 40) && entOk e && (decide (i = 0) || match es[i - 1]? with
    | none => false
    | some d => ltL (prt d.path.data.toList) (prt e.path.data.toList)) && decide (kindP (es.take i) (dirOf e.path.data.toList) = 1)
/-- The number of the first entry that may not; -1: all may. -/
def FirstBad (es : List Ent) (r : Int) : Prop := (r = -1 ∧ ∀ i, i < es.length → okAt es i = true) ∨ ∃ i : Nat, r = i ∧ i < es.length ∧ okAt es i = false ∧ ∀ j, j < i → okAt es j = true
theorem firstBad_one {es : List Ent} {r s : Int} (h1 : FirstBad es r) (h2 : FirstBad es s) : r = s := by
  rcases h1 with ⟨rfl, a1⟩ | ⟨i, rfl, a1, a2, a3⟩ <;> rcases h2 with ⟨rfl, b1⟩ | ⟨j, rfl, b1, b2, b3⟩
  · rfl
  · rw [a1 j b1] at b2; cases b2
  · rw [b1 i a1] at a2; cases a2
  · rcases Nat.lt_trichotomy i j with h | h | h
    · rw [b3 i h] at a2; cases a2
    · rw [h]
    · rw [a3 j h] at b2; cases b2
theorem firstBad_at {es : List Ent} {i : Nat} (hi : i < es.length) (h1 : okAt es i = false) (h2 : ∀ j, j < i → okAt es j = true) : FirstBad es i := .inr ⟨i, rfl, hi, h1, h2⟩
theorem ok_lt {es : List Ent} {i : Nat} (h : okAt es i = true) : i < 40 := by
  unfold okAt at h
  split at h
  · cases h
  · simp only [Bool.and_eq_true, decide_eq_true_eq] at h; exact h.1.1.1
theorem okAt_eq {es : List Ent} {i : Nat} {e : Ent} (h : es[i]? = some e) : okAt es i = (decide (i < 40) && entOk e && (decide (i = 0) || match es[i - 1]? with
    | none => false
    | some d => ltL (prt d.path.data.toList) (prt e.path.data.toList)) && decide (kindP (es.take i) (dirOf e.path.data.toList) = 1)) := by
  unfold okAt; rw [h]
/-- The same, wherever the list ends. -/
def okG (es : List Ent) (i : Nat) : Bool := match es[i]? with
  | none => false
  | some e => entOk e && (decide (i = 0) || match es[i - 1]? with
    | none => false
    | some d => ltL (prt d.path.data.toList) (prt e.path.data.toList)) && decide (kindP (es.take i) (dirOf e.path.data.toList) = 1)
theorem okG_of {es : List Ent} {i : Nat} (h : okAt es i = true) : okG es i = true := by
  unfold okAt at h
  unfold okG
  split at h
  · cases h
  · simp only [Bool.and_eq_true] at h ⊢
    exact ⟨⟨h.1.1.2, h.1.2⟩, h.2⟩
theorem okG_eq {es : List Ent} {i : Nat} {e : Ent} (h : es[i]? = some e) : okG es i = (entOk e && (decide (i = 0) || match es[i - 1]? with
    | none => false
    | some d => ltL (prt d.path.data.toList) (prt e.path.data.toList)) && decide (kindP (es.take i) (dirOf e.path.data.toList) = 1)) := by
  unfold okG; rw [h]
theorem all_lt {es : List Ent} {k : Nat} (h : ∀ j, j < k → okAt es j = true) : k ≤ 40 := by
  cases k with
  | zero => omega
  | succ k => have := ok_lt (h k (by omega)); omega

attribute [local go_sem] setCell_drewN alloc_drewN

end Go.Proofs.YtjofjcjojgpaeaaGreatDoor
