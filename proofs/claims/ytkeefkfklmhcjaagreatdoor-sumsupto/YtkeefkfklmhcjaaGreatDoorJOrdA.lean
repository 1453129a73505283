import Derived.Test.YtkeefkfklmhcjaaGreatDoorIs
import Derived.Deep.QuietTactic
import Derived.BigQuiet
import Derived.Test.YtkeefkfklmhcjaaGreatDoorJPlain
import Derived.WalkSmall
import Derived.Deep.DeepCutAuto
import Derived.Deep.Draws
namespace Go.Proofs.YtkeefkfklmhcjaaGreatDoor
open Go.RowKit

/-- Tree order: element by element. -/
def ltL : List (List UInt8) → List (List UInt8) → Bool
  | _, [] => false
  | [], _ :: _ => true
  | x :: xs, y :: ys => Op.bytesLess x y || (x == y && ltL xs ys)
theorem drop_at {α : Type} {l : List α} {k : Nat} {a : α} (h : l[k]? = some a) : l.drop k = a :: l.drop (k + 1) := by
  obtain ⟨hk, rfl⟩ := List.getElem?_eq_some_iff.1 h
  exact List.drop_eq_getElem_cons hk
theorem ltL_at {x y : List (List UInt8)} {k : Nat} {a b : List UInt8} (ha : x[k]? = some a) (hb : y[k]? = some b) : ltL (x.drop k) (y.drop k) = (Op.bytesLess a b || (a == b && ltL (x.drop (k + 1)) (y.drop (k + 1)))) := by
  rw [drop_at ha, drop_at hb, ltL]
theorem ltL_end {x y : List (List UInt8)} {k : Nat} (h : x.length ≤ k ∨ y.length ≤ k) : ltL (x.drop k) (y.drop k) = decide (x.length ≤ k ∧ k < y.length) := by
  by_cases h2 : y.length ≤ k
  · rw [List.drop_of_length_le (l := y) h2]
    have : ¬ (x.length ≤ k ∧ k < y.length) := by omega
    simp only [this, decide_false]
    cases x.drop k <;> rfl
  · have hx : x.length ≤ k := by omega
    have hy : k < y.length := by omega
    rw [List.drop_of_length_le (l := x) hx, List.drop_eq_getElem_cons hy, ltL]
    simp [hx, hy]
/-- Tree order as a number. -/
def cmpT (x y : List (List UInt8)) : Int := if ltL x y = true then -1 else if x = y then 0 else 1
theorem cmpT_at {x y : List (List UInt8)} {k : Nat} {a b : List UInt8} (ha : x[k]? = some a) (hb : y[k]? = some b) : cmpT (x.drop k) (y.drop k) = if Op.bytesLess a b = true then -1 else if (a == b) = true then cmpT (x.drop (k + 1)) (y.drop (k + 1)) else 1 := by
  unfold cmpT
  rw [ltL_at ha hb, drop_at ha, drop_at hb]
  cases h1 : Op.bytesLess a b with
  | true => simp
  | false =>
    cases h2 : (a == b) with
    | false =>
      have : a ≠ b := by simpa using h2
      simp [this]
    | true =>
      have : a = b := by simpa using h2
      simp [this]
theorem cmpT_end {x y : List (List UInt8)} {k : Nat} (h : x.length ≤ k ∨ y.length ≤ k) (hx : k ≤ x.length) (hy : k ≤ y.length) : cmpT (x.drop k) (y.drop k) = if x.length < y.length then -1 else if x.length = y.length then 0 else 1 := by
  unfold cmpT
  rw [ltL_end h]
  by_cases h1 : x.length < y.length
  · have : x.length ≤ k ∧ k < y.length := by omega
    simp [h1, this]
  · have : ¬ (x.length ≤ k ∧ k < y.length) := by omega
    by_cases h2 : x.length = y.length
    · rw [List.drop_of_length_le (l := x) (by omega), List.drop_of_length_le (l := y) (by omega)]
      simp [h2]
    · have hne : x.drop k ≠ y.drop k := fun e => by
        have := congrArg List.length e
        rw [List.length_drop, List.length_drop] at this
        omega
      simp [this, h1, h2, hne]
theorem cmpT_lt {x y : List (List UInt8)} : cmpT x y < 0 ↔ ltL x y = true := by
  unfold cmpT
  split
  · rename_i h; simp [h]
  · rename_i h
    split <;> simp [h]
/-- The texts of a row of theirs. -/
def TRow (w : World) (ao : Option Addr) (ps : List ByteArray) : Prop := ∀ k b, ps[k]? = some b → ∃ g, ao = some ⟨g, 0, none⟩ ∧ w.cell? ⟨g, k, none⟩ = some (.string b)
theorem TRow.below {w w' : World} {ao : Option Addr} {ps : List ByteArray} (h : TRow w ao ps) (hb : Below w.heap.size w w') : TRow w' ao ps := fun k b hk => by
  obtain ⟨g, h1, h2⟩ := h k b hk
  exact ⟨g, h1, cell_later hb h2⟩
theorem trow_of_own {w : World} {B g cap : Nat} {ps : List ByteArray} (h : Own w B (.slice (some ⟨g, 0, none⟩) ps.length cap) ps) : TRow w (some ⟨g, 0, none⟩) ps := fun _ _ hk => ⟨g, rfl, own_cell h hk⟩
theorem trow_nil (w : World) (ao : Option Addr) : TRow w ao [] := fun k b hk => by simp at hk

theorem parts_any (s : ByteArray) (w : World) (hs : s.size ≤ 4294967280) :
    Calls Tryz.prog 52 #[.string s] w fun e w' => ∃ ao cap n ps, e = .returned (.slice ao n cap) ∧ TRow w' ao ps ∧ Hid (txts ps = prt s.data.toList) ∧ Hid (n = ps.length) ∧ n ≤ s.size + 1 ∧ Below w.heap.size w w' := by
  by_cases h : s.data.toList = []
  · refine (parts_nil s w h).mono ?_
    rintro e w' ⟨rfl, hw⟩
    obtain rfl := hw.symm
    exact ⟨none, 0, 0, [], rfl, trow_nil _ _, hide (by rw [h]; rfl), hide rfl, by omega, Below.refl _ _⟩
  · refine (parts_some s w hs h).mono ?_
    rintro e w' ⟨g, cap, ps, rfl, h1, h2, h3⟩
    have hl : ps.length ≤ s.size + 1 := by have := spl_len s.data.toList; rw [← h2, txts_len, ← Lib.size_eq] at this; exact this
    exact ⟨_, cap, _, ps, rfl, trow_of_own h1, hide (by rw [prt_ne h]; exact h2), hide rfl, hl, h3⟩
theorem elems_any (s : ByteArray) (m : Int) (w : World) (hs : s.size ≤ 4294967280) (hm : w.cell? ⟨15, 0, none⟩ = some (.int .i64 m)) :
    Calls Tryz.prog 104 #[.string s] w fun e w' => ∃ ao cap n ps, e = .returned (.slice ao n cap) ∧ TRow w' ao ps ∧ Hid (txts ps = prt s.data.toList) ∧ Hid (n = ps.length) ∧ n ≤ s.size + 1 ∧ Below w.heap.size w w' := by
  by_cases h : s.data.toList = []
  · refine (elems_nil s w h).mono ?_
    rintro e w' ⟨rfl, hw⟩
    obtain rfl := hw.symm
    exact ⟨none, 0, 0, [], rfl, trow_nil _ _, hide (by rw [h]; rfl), hide rfl, by omega, Below.refl _ _⟩
  · refine (elems_some s m w hs hm h).mono ?_
    rintro e w' ⟨g, cap, ps, rfl, h1, h2, h3, _⟩
    have hl : ps.length ≤ s.size + 1 := by have := spl_len s.data.toList; rw [← h2, txts_len, ← Lib.size_eq] at this; exact this
    exact ⟨_, cap, _, ps, rfl, trow_of_own h1, hide (by rw [prt_ne h]; exact h2), hide rfl, hl, h3⟩

theorem str_gtr (t : TypeId) (a b : ByteArray) : binOp .gtr t (.string a) (.string b) = pure (.bool !(Op.bytesLess a.toList b.toList || a.toList == b.toList)) := by simp [binOp, Op.stringOp]
attribute [local go_sem] str_gtr

theorem bl_ne {a b : List UInt8} (h : Op.bytesLess a b = true) : (a == b) = false := by
  rw [beq_eq_false_iff_ne]
  rintro rfl
  induction a with
  | nil => simp [Op.bytesLess] at h
  | cons c r ih => simp [Op.bytesLess] at h; exact ih h

theorem isNaN_any (s : ByteArray) (w : World) : Calls Tryz.prog 165 #[.string s] w fun e w' => e = .returned (.bool false) ∧ w' = w := by
  go_enter Tryz.func165, Tryz.ntmps165
  go_wp2
  go_ret
  exact ⟨rfl, rfl⟩
/-- What cmp.Compare answers. -/
def cmpS (a b : List UInt8) : Int := if Op.bytesLess a b = true then -1 else if (a == b) = true then 0 else 1
theorem cmp_any (a b : ByteArray) (w : World) : Calls Tryz.prog 137 #[.string a, .string b] w fun e w' => e = .returned (.int .i64 (cmpS a.toList b.toList)) ∧ w' = w := by
  cases h1 : Op.bytesLess a.toList b.toList
  · cases h2 : (a.toList == b.toList)
    · have C : Hid (cmpS a.toList b.toList = 1) := hide (by simp [cmpS, h1, h2])
      go_enter Tryz.func137, Tryz.ntmps137
      go_wp2_with (go_at_call 165; refine (isNaN_any _ _).mono ?_; rintro ev w' ⟨rfl, hw⟩; obtain rfl := hw.symm)
      go_ret
      exact ⟨by rw [unhide C]; rfl, rfl⟩
    · have C : Hid (cmpS a.toList b.toList = 0) := hide (by simp [cmpS, h1, h2])
      go_enter Tryz.func137, Tryz.ntmps137
      go_wp2_with (go_at_call 165; refine (isNaN_any _ _).mono ?_; rintro ev w' ⟨rfl, hw⟩; obtain rfl := hw.symm)
      go_ret
      exact ⟨by rw [unhide C]; rfl, rfl⟩
  · have C : Hid (cmpS a.toList b.toList = -1) := hide (by simp [cmpS, h1])
    go_enter Tryz.func137, Tryz.ntmps137
    go_wp2_with (go_at_call 165; refine (isNaN_any _ _).mono ?_; rintro ev w' ⟨rfl, hw⟩; obtain rfl := hw.symm)
    go_ret
    exact ⟨by rw [unhide C]; rfl, rfl⟩
end Go.Proofs.YtkeefkfklmhcjaaGreatDoor

namespace Go.Proofs.YtkeefkfklmhcjaaGreatDoor
open Go.RowKit

theorem wrap_i64 (n : Nat) (h : n < 9223372036854775808) : IntKind.i64.wrap (n : Int) = n := by
  simp [IntKind.wrap, IntKind.bits, IntKind.signed]
  omega
theorem setCell_drewN (W : World) (n : Nat) (a : Addr) (v : Value) : (W.drewN n).setCell a v = (W.setCell a v).drewN n := rfl
theorem alloc_drewN (W : World) (n : Nat) (o : Obj) : (W.drewN n).alloc o = (W.alloc o).drewN n := rfl
theorem chain0 {w w1 : World} (h : Below w.drew.heap.size w.drew w1) : Below w.heap.size w w1 := ⟨h.os, h.tape, h.output, h.size, h.block⟩
theorem chainA {w w1 : World} {o : Obj} (h : Below (w.alloc o).drew.heap.size (w.alloc o).drew w1) : Below w.heap.size w w1 :=
  ((Below.refl _ _).alloc (Nat.le_refl _) o).trans (Below.mono (B' := w.heap.size) (chain0 h) (by simp))
theorem grown_of_below {w w' : World} (h : Below w.heap.size w w') : w.grownBy w' none := ⟨h.os, h.tape, h.output, h.size, fun k hk _ => h.block k hk⟩
end Go.Proofs.YtkeefkfklmhcjaaGreatDoor
