import Derived.Test.YtjofjcjojgpaeaaGreatDoorJMid
import Derived.Deep.QuietTactic
import Derived.BigQuiet
import Derived.Test.YtjofjcjojgpaeaaGreatDoorJAs
import Derived.WalkSmall
import Derived.Deep.DeepCutAuto
import Derived.Deep.Draws
namespace Go.Proofs.YtjofjcjojgpaeaaGreatDoor
open Go.RowKit

def entOk (e : Ent) : Bool := e.path.data.toList != [] && isP e.path.data.toList && goodE e

set_option maxHeartbeats 1000000 in
theorem isEntry_any (e : Ent) (m : Int) (w : World) (hm : w.cell? ⟨14, 0, none⟩ = some (.int .i64 m)) :
    Calls Tryz.prog 35 #[.agg #[.string e.path, .int .i64 e.kind, .int .i64 e.mode, .string e.data]] w fun ev w' => ev = .returned (.bool (entOk e)) ∧ Below w.heap.size w w' := by
  obtain ⟨path, kind, mode, data⟩ := e
  simp only at ⊢
  have hml := World.block_lt_of_cell? _ _ hm
  have HB : ∀ o, Below w.heap.size w (w.alloc o) := fun o => (Below.refl _ _).alloc (Nat.le_refl _) o
  have HM : Hid (∀ o, (w.alloc o).cell? ⟨14, 0, none⟩ = some (.int .i64 m)) := hide (fun o => cell_later (HB o) hm)
  clear hm
  by_cases p0 : path.data.toList = []
  · have C : Hid (entOk ⟨path, kind, mode, data⟩ = false) := hide (by simp [entOk, p0])
    have g1 : path.toList.isEmpty = true := by rw [Lib.toList_data, p0]; rfl
    clear p0
    go_enter Tryz.func35, Tryz.ntmps35
    go_wp2
    go_ret
    exact ⟨ret_bool (unhide C).symm, HB _⟩
  · have g1 : path.toList.isEmpty = false := by rw [Lib.toList_data]; simpa using p0
    cases hp : isP path.data.toList
    · have C : Hid (entOk ⟨path, kind, mode, data⟩ = false) := hide (by simp [entOk, hp])
      clear p0
      go_enter Tryz.func35, Tryz.ntmps35
      go_wp2_with (go_at_call 61; refine (is_any _ m _ (unhide HM _)).mono ?_; rintro ev w1 ⟨rfl, hb1⟩)
      go_ret
      exact ⟨ret_bool (unhide C).symm, (HB _).trans (hb1.mono (by simp))⟩
    · have CC : Hid (entOk ⟨path, kind, mode, data⟩ = goodE ⟨path, kind, mode, data⟩) := hide (by simp [entOk, hp, p0])
      clear p0
      go_enter Tryz.func35, Tryz.ntmps35
      go_upto_region 3 with (go_at_call 61; refine (is_any _ m _ (unhide HM _)).mono ?_; rintro ev w1 ⟨rfl, hb1⟩)
      have hq := (hb1.block w.heap.size (by simp)).trans (heap_alloc_new _ _)
      have q1 := cell_of_row w1 w.heap.size 1 _ _ _ hq
      have q2 := cell_of_row w1 w.heap.size 2 _ _ _ hq
      have q3 := cell_of_row w1 w.heap.size 3 _ _ _ hq
      simp only [List.getElem?_toArray, List.getElem?_cons_succ, List.getElem?_cons_zero] at q1 q2 q3
      have hB1 : Below w.heap.size w w1 := (HB _).trans (hb1.mono (by simp))
      clear hq hb1 HB HM
      by_cases k1 : kind = 1
      · subst k1
        by_cases h0 : data.data.toList = []
        · have C : Hid (goodE ⟨path, 1, mode, data⟩ = modeOk mode) := hide (by simp [goodE, h0])
          have g2 : data.toList.isEmpty = true := by rw [Lib.toList_data, h0]; rfl
          clear h0
          cases hmo : modeOk mode
          all_goals
            go_wp2_with (go_at_call 62; refine (isMode_any _ _).mono ?_; rintro ev w' ⟨rfl, hw⟩; obtain rfl := hw.symm)
            go_ret
            exact ⟨ret_bool (by rw [unhide CC, unhide C, hmo]), hB1⟩
        · have C : Hid (goodE ⟨path, 1, mode, data⟩ = false) := hide (by simp only [goodE, if_true, beq_eq_false_iff_ne.2 h0, Bool.and_false])
          have g2 : data.toList.isEmpty = false := by rw [Lib.toList_data]; simpa using h0
          clear h0
          cases hmo : modeOk mode
          all_goals
            go_wp2_with (go_at_call 62; refine (isMode_any _ _).mono ?_; rintro ev w' ⟨rfl, hw⟩; obtain rfl := hw.symm)
            go_ret
            exact ⟨ret_bool (by rw [unhide CC, unhide C]), hB1⟩
      · by_cases k2 : kind = 2
        · subst k2
          clear k1
          by_cases h0 : (data.size : Int) ≤ 4096
          · have C : Hid (goodE ⟨path, 2, mode, data⟩ = modeOk mode) := hide (by have : data.size ≤ 4096 := (by omega); simp [goodE, this])
            cases hmo : modeOk mode
            all_goals
              go_wp2_with (go_at_call 62; refine (isMode_any _ _).mono ?_; rintro ev w' ⟨rfl, hw⟩; obtain rfl := hw.symm)
              go_ret
              exact ⟨ret_bool (by rw [unhide CC, unhide C, hmo]), hB1⟩
          · have C : Hid (goodE ⟨path, 2, mode, data⟩ = false) := hide (by simp [goodE]; intro _; omega)
            cases hmo : modeOk mode
            all_goals
              go_wp2_with (go_at_call 62; refine (isMode_any _ _).mono ?_; rintro ev w' ⟨rfl, hw⟩; obtain rfl := hw.symm)
              go_ret
              exact ⟨ret_bool (by rw [unhide CC, unhide C]; try exact decide_eq_false (by omega)), hB1⟩
        · by_cases k3 : kind = 3
          · subst k3
            clear k1 k2
            by_cases hz : mode = 0
            · subst hz
              have C : Hid (goodE ⟨path, 3, 0, data⟩ = tgt data.data.toList) := hide (by simp [goodE])
              go_wp2_with (go_at_call 63; refine (isTg_any _ _).mono ?_; rintro ev w' ⟨rfl, hw⟩; obtain rfl := hw.symm)
              go_ret
              exact ⟨ret_bool (by rw [unhide CC, unhide C]), hB1⟩
            · have C : Hid (goodE ⟨path, 3, mode, data⟩ = false) := hide (by simp [goodE, hz])
              go_wp2
              go_ret
              exact ⟨ret_bool (by rw [unhide CC, unhide C]), hB1⟩
          · have C : Hid (goodE ⟨path, kind, mode, data⟩ = false) := hide (by simp [goodE, k1, k2, k3])
            go_wp2
            go_ret
            exact ⟨ret_bool (by rw [unhide CC, unhide C]), hB1⟩
end Go.Proofs.YtjofjcjojgpaeaaGreatDoor

namespace Go.Proofs.YtjofjcjojgpaeaaGreatDoor
open Go.RowKit

/-- Tree order: element by element. -/
def ltL : List (List UInt8) → List (List UInt8) → Bool
  | _, [] => false
  | [], _ :: _ => true
  | x :: xs, y :: ys => Op.bytesLess x y || (x == y && ltL xs ys)
theorem drop_at {α : Type} {l : List α} {k : Nat} {a : α} (h : l[k]? = some a) : l.drop k = a :: l.drop (k + 1) := by
  obtain ⟨hk, rfl⟩ := List.getElem?_eq_some_iff.1 h
  exact List.drop_eq_getElem_cons hk
theorem ltL_at {x y : List (List UInt8)} {k : Nat} {a b : List UInt8} (ha : x[k]? = some a) (hb : y[k]? = some b) : ltL (x.drop k) (y.drop k) = (Op.bytesLess a b || (a == b && ltL (x.drop (k + 1)) (y.drop (k + 1)))) := by
  rw [drop_at ha, drop_at hb, ltL]
theorem ltL_end {x y : List (List UInt8)} {k : Nat} (h : x.length ≤ k ∨ y.length ≤ k) : ltL (x.drop k) (y.drop k) = decide (x.length ≤ k ∧ k < y.length) := by
  by_cases h2 : y.length ≤ k
  · rw [List.drop_of_length_le (l := y) h2]
    have : ¬ (x.length ≤ k ∧ k < y.length) := by omega
    simp only [this, decide_false]
    cases x.drop k <;> rfl
  · have hx : x.length ≤ k := by omega
    have hy : k < y.length := by omega
    rw [List.drop_of_length_le (l := x) hx, List.drop_eq_getElem_cons hy, ltL]
    simp [hx, hy]
/-- Tree order as a number. -/
def cmpT (x y : List (List UInt8)) : Int := if ltL x y = true then -1 else if x = y then 0 else 1
theorem cmpT_at {x y : List (List UInt8)} {k : Nat} {a b : List UInt8} (ha : x[k]? = some a) (hb : y[k]? = some b) : cmpT (x.drop k) (y.drop k) = if Op.bytesLess a b = true then -1 else if (a == b) = true then cmpT (x.drop (k + 1)) (y.drop (k + 1)) else 1 := by
  unfold cmpT
  rw [ltL_at ha hb, drop_at ha, drop_at hb]
  cases h1 : Op.bytesLess a b with
  | true => simp
  | false =>
    cases h2 : (a == b) with
    | false =>
      have : a ≠ b := by simpa using h2
      simp [this]
    | true =>
      have : a = b := by simpa using h2
      simp [this]
theorem cmpT_end {x y : List (List UInt8)} {k : Nat} (h : x.length ≤ k ∨ y.length ≤ k) (hx : k ≤ x.length) (hy : k ≤ y.length) : cmpT (x.drop k) (y.drop k) = if x.length < y.length then -1 else if x.length = y.length then 0 else 1 := by
  unfold cmpT
  rw [ltL_end h]
  by_cases h1 : x.length < y.length
  · have : x.length ≤ k ∧ k < y.length := by omega
    simp [h1, this]
  · have : ¬ (x.length ≤ k ∧ k < y.length) := by omega
    by_cases h2 : x.length = y.length
    · rw [List.drop_of_length_le (l := x) (by omega), List.drop_of_length_le (l := y) (by omega)]
      simp [h2]
    · have hne : x.drop k ≠ y.drop k := fun e => by
        have := congrArg List.length e
        rw [List.length_drop, List.length_drop] at this
        omega
      simp [this, h1, h2, hne]
theorem cmpT_lt {x y : List (List UInt8)} : cmpT x y < 0 ↔ ltL x y = true := by
  unfold cmpT
  split
  · rename_i h; simp [h]
  · rename_i h
    split <;> simp [h]
/-- The texts of a row of theirs. -/
def TRow (w : World) (ao : Option Addr) (ps : List ByteArray) : Prop := ∀ k b, ps[k]? = some b → ∃ g, ao = some ⟨g, 0, none⟩ ∧ w.cell? ⟨g, k, none⟩ = some (.string b)
theorem TRow.below {w w' : World} {ao : Option Addr} {ps : List ByteArray} (h : TRow w ao ps) (hb : Below w.heap.size w w') : TRow w' ao ps := fun k b hk => by
  obtain ⟨g, h1, h2⟩ := h k b hk
  exact ⟨g, h1, cell_later hb h2⟩
theorem trow_of_own {w : World} {B g cap : Nat} {ps : List ByteArray} (h : Own w B (.slice (some ⟨g, 0, none⟩) ps.length cap) ps) : TRow w (some ⟨g, 0, none⟩) ps := fun _ _ hk => ⟨g, rfl, own_cell h hk⟩
theorem trow_nil (w : World) (ao : Option Addr) : TRow w ao [] := fun k b hk => by simp at hk

theorem elems_any (s : ByteArray) (m : Int) (w : World) (hs : s.size ≤ 4294967280) (hm : w.cell? ⟨14, 0, none⟩ = some (.int .i64 m)) :
    Calls Tryz.prog 65 #[.string s] w fun e w' => ∃ ao cap n ps, e = .returned (.slice ao n cap) ∧ TRow w' ao ps ∧ Hid (txts ps = prt s.data.toList) ∧ Hid (n = ps.length) ∧ n ≤ s.size + 1 ∧ Below w.heap.size w w' := by
  by_cases h : s.data.toList = []
  · refine (elems_nil s w h).mono ?_
    rintro e w' ⟨rfl, hw⟩
    obtain rfl := hw.symm
    exact ⟨none, 0, 0, [], rfl, trow_nil _ _, hide (by rw [h]; rfl), hide rfl, by omega, Below.refl _ _⟩
  · refine (elems_some s m w hs hm h).mono ?_
    rintro e w' ⟨g, cap, ps, rfl, h1, h2, h3, _⟩
    have hl : ps.length ≤ s.size + 1 := by have := spl_len s.data.toList; rw [← h2, txts_len, ← Lib.size_eq] at this; exact this
    exact ⟨_, cap, _, ps, rfl, trow_of_own h1, hide (by rw [prt_ne h]; exact h2), hide rfl, hl, h3⟩

theorem str_gtr (t : TypeId) (a b : ByteArray) : binOp .gtr t (.string a) (.string b) = pure (.bool !(Op.bytesLess a.toList b.toList || a.toList == b.toList)) := by simp [binOp, Op.stringOp]
attribute [local go_sem] str_gtr

theorem bl_ne {a b : List UInt8} (h : Op.bytesLess a b = true) : (a == b) = false := by
  rw [beq_eq_false_iff_ne]
  rintro rfl
  induction a with
  | nil => simp [Op.bytesLess] at h
  | cons c r ih => simp [Op.bytesLess] at h; exact ih h

theorem isNaN_any (s : ByteArray) (w : World) : Calls Tryz.prog 115 #[.string s] w fun e w' => e = .returned (.bool false) ∧ w' = w := by
  go_enter Tryz.func115, Tryz.ntmps115
  go_wp2
  go_ret
  exact ⟨rfl, rfl⟩
/-- What cmp.Compare answers. -/
def cmpS (a b : List UInt8) : Int := if Op.bytesLess a b = true then -1 else if (a == b) = true then 0 else 1
theorem cmp_any (a b : ByteArray) (w : World) : Calls Tryz.prog 90 #[.string a, .string b] w fun e w' => e = .returned (.int .i64 (cmpS a.toList b.toList)) ∧ w' = w := by
  cases h1 : Op.bytesLess a.toList b.toList
  · cases h2 : (a.toList == b.toList)
    · have C : Hid (cmpS a.toList b.toList = 1) := hide (by simp [cmpS, h1, h2])
      go_enter Tryz.func90, Tryz.ntmps90
      go_wp2_with (go_at_call 115; refine (isNaN_any _ _).mono ?_; rintro ev w' ⟨rfl, hw⟩; obtain rfl := hw.symm)
      go_ret
      exact ⟨by rw [unhide C]; rfl, rfl⟩
    · have C : Hid (cmpS a.toList b.toList = 0) := hide (by simp [cmpS, h1, h2])
      go_enter Tryz.func90, Tryz.ntmps90
      go_wp2_with (go_at_call 115; refine (isNaN_any _ _).mono ?_; rintro ev w' ⟨rfl, hw⟩; obtain rfl := hw.symm)
      go_ret
      exact ⟨by rw [unhide C]; rfl, rfl⟩
  · have C : Hid (cmpS a.toList b.toList = -1) := hide (by simp [cmpS, h1])
    go_enter Tryz.func90, Tryz.ntmps90
    go_wp2_with (go_at_call 115; refine (isNaN_any _ _).mono ?_; rintro ev w' ⟨rfl, hw⟩; obtain rfl := hw.symm)
    go_ret
    exact ⟨by rw [unhide C]; rfl, rfl⟩
end Go.Proofs.YtjofjcjojgpaeaaGreatDoor

namespace Go.Proofs.YtjofjcjojgpaeaaGreatDoor
open Go.RowKit

theorem wrap_i64 (n : Nat) (h : n < 9223372036854775808) : IntKind.i64.wrap (n : Int) = n := by
  simp [IntKind.wrap, IntKind.bits, IntKind.signed]
  omega
theorem setCell_drewN (W : World) (n : Nat) (a : Addr) (v : Value) : (W.drewN n).setCell a v = (W.setCell a v).drewN n := rfl
theorem alloc_drewN (W : World) (n : Nat) (o : Obj) : (W.drewN n).alloc o = (W.alloc o).drewN n := rfl
theorem chain0 {w w1 : World} (h : Below w.drew.heap.size w.drew w1) : Below w.heap.size w w1 := ⟨h.os, h.tape, h.output, h.size, h.block⟩
theorem chainA {w w1 : World} {o : Obj} (h : Below (w.alloc o).drew.heap.size (w.alloc o).drew w1) : Below w.heap.size w w1 :=
  ((Below.refl _ _).alloc (Nat.le_refl _) o).trans (Below.mono (B' := w.heap.size) (chain0 h) (by simp))
theorem grown_of_below {w w' : World} (h : Below w.heap.size w w') : w.grownBy w' none := ⟨h.os, h.tape, h.output, h.size, fun k hk _ => h.block k hk⟩
end Go.Proofs.YtjofjcjojgpaeaaGreatDoor
