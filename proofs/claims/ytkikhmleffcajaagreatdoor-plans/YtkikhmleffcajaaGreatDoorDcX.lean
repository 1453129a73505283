import Derived.Test.YtkikhmleffcajaaGreatDoorJDcV
import Derived.Test.YtkikhmleffcajaaGreatDoorDqA
import Derived.Test.YtkikhmleffcajaaGreatDoorDqB
import Derived.Test.YtkikhmleffcajaaGreatDoorDqC
import Derived.Test.YtkikhmleffcajaaGreatDoorDrA
import Derived.Test.YtkikhmleffcajaaGreatDoorDrB
import Derived.Test.YtkikhmleffcajaaGreatDoorDrC
import Derived.Test.YtkikhmleffcajaaGreatDoorDrD
namespace Go.Proofs.YtkikhmleffcajaaGreatDoor
open Go.RowKit Go.Maps

theorem from_doc (v : Value) (ss : List DsM) (g n cap : Nat) (ms : List WdM) (B : Nat) (w : World) (hS : StD w B v ss) (hl : ss.length ≤ 5) (hvl : ∀ s ∈ ss, s.vars.length ≤ 1000) (hW : WsD w B (.slice (some ⟨g, 0, none⟩) n cap) ms) (hn : ms.length = n) (h2 : 2 ≤ n) (h4 : n ≤ 4) (hok : ∀ m ∈ ms, AtOk m.xs ∧ m.xs.length ≤ 1500) (hBw : B ≤ w.heap.size) :
    Calls Tryz.prog 13 #[v, .slice (some ⟨g, 0, none⟩) n cap] w fun ev w' => FroD w' B ev ss (frmM ss ms) ∧ Fr5 B w w' := by
  match ms, hn with
  | [a, b], hn => subst hn; exact from2 v ss g cap a b B w hS hl hvl hW hok hBw
  | [a, b, c], hn => subst hn; exact from3 v ss g cap a b c B w hS hl hvl hW hok hBw
  | [a, b, c, d], hn => subst hn; exact from4 v ss g cap a b c d B w hS hl hvl hW hok hBw
  | [], hn => simp at hn; omega
  | [a], hn => simp at hn; omega
  | a :: b :: c :: d :: e :: r, hn => simp at hn; omega
theorem beq_list (op : ByteArray) (l : List UInt8) : (op.toList == l) = decide (op.data.toList = l) := by
  rw [ByteArray.toList_eq, Bool.eq_iff_iff]; simp
theorem step_doc (op : ByteArray) (ss : List DsM) (k : Nat) (s : DsM) (gs cv g n cap : Nat) (ms : List WdM) (x0 x1 : WdM) (B : Nat) (w : World) (hS : StD w B (.slice (some ⟨gs, 0, none⟩) (k + 1) cv) ss) (hk : ss.length = k + 1) (hsk : ss[k]? = some s) (hl : k + 1 ≤ 5) (hvl : s.vars.length ≤ 1000) (hsl : s.steps.length ≤ 1000)
    (hW : WsD w B (.slice (some ⟨g, 0, none⟩) n cap) ms) (hn : ms.length = n) (h2 : 2 ≤ n) (hnl : n ≤ 1500) (hcap : n ≤ cap) (hcm : cap ≤ maxLen) (h0 : ms[0]? = some x0) (h1 : ms[1]? = some x1) (hok : ∀ m ∈ ms, AtOk m.xs ∧ m.xs.length ≤ 1500) (hBw : B ≤ w.heap.size)
    (o : Nat) (ho : opN op.data.toList = some o) (hhi : (n : Int) - 1 ≤ (ruleT o).2.1) :
    Calls Tryz.prog 14 #[.slice (some ⟨gs, 0, none⟩) (k + 1) cv, .string op, .slice (some ⟨g, 0, none⟩) n cap] w fun ev w' => StpD w' B ev (.slice (some ⟨gs, 0, none⟩) (k + 1) cv) ss k s op.data.toList (.slice (some ⟨g, 0, none⟩) n cap) ms x0 x1 (stpT ss s.vars op.data.toList ms x0 x1) ∧ Fr5 B w w' := by
  obtain ⟨c1, c4, c6, c0⟩ := op_is ho
  by_cases e1 : o = 1
  · have hop := c1.2 e1
    exact step_copy op ss k s gs cv g n cap ms x0 x1 B w hS hk hsk hl hvl hsl hW hn h2 hnl hcap hcm h0 h1 hok hBw (by rw [beq_list, hop]; rfl) (by rw [beq_list, hop]; rfl) (by rw [beq_list, hop]; rfl) hop
  by_cases e4 : o = 4
  · have hop := c4.2 e4
    subst e4
    have hn3 : n ≤ 3 := by
      have : (n : Int) - 1 ≤ 2 := hhi
      omega
    by_cases hn' : n = 3
    · obtain ⟨x2, hx2⟩ : ∃ x2, ms[2]? = some x2 := ⟨_, List.getElem?_eq_getElem (by omega)⟩
      exact step_mkdir3 op ss k s gs cv g n cap ms x0 x1 B w hS hk hsk hl hvl hsl hW hn h2 hnl hcap hcm h0 h1 hok hBw (by rw [beq_list, hop]; rfl) (by rw [beq_list, hop]; rfl) (by rw [beq_list, hop]; rfl) x2 hx2 hn' hop
    · have hx2 : ms[2]? = none := List.getElem?_eq_none_iff.2 (by omega)
      exact step_mkdir2 op ss k s gs cv g n cap ms x0 x1 B w hS hk hsk hl hvl hsl hW hn h2 hnl hcap hcm h0 h1 hok hBw (by rw [beq_list, hop]; rfl) (by rw [beq_list, hop]; rfl) (by rw [beq_list, hop]; rfl) (by simp; omega) (by unfold preT; rw [if_neg (by rw [hop]; decide), if_pos hop, hx2]) (by rw [hop]; decide)
  by_cases e6 : o = 6
  · have hop := c6.2 e6
    exact step_env op ss k s gs cv g n cap ms x0 x1 B w hS hk hsk hl hvl hsl hW hn h2 hnl hcap hcm h0 h1 hok hBw (by rw [beq_list, hop]; rfl) (by rw [beq_list, hop]; rfl) (by rw [beq_list, hop]; rfl) hop
  have n1 : ¬ op.data.toList = wCOPY := fun e => e1 (c1.1 e)
  have n4 : ¬ op.data.toList = wMKDIR := fun e => e4 (c4.1 e)
  have n6 : ¬ op.data.toList = wENV := fun e => e6 (c6.1 e)
  exact step_other op ss k s gs cv g n cap ms x0 x1 B w hS hk hsk hl hvl hsl hW hn h2 hnl hcap hcm h0 h1 hok hBw (by rw [beq_list]; simpa using n1) (by rw [beq_list]; simpa using n4) (by rw [beq_list]; simpa using n6) (by unfold preT; rw [if_neg n1, if_neg n4, if_neg n6]) n6
/-- How much room a slice has. -/
theorem row_caps {w : World} {B e z n : Nat} {v : Value} {xs : List Value} (h : w.ownsRow B e z v n xs) (hn : 0 < n) : ∃ g cap, v = .slice (some ⟨g, 0, none⟩) n cap ∧ n ≤ cap ∧ cap ≤ maxLen := by
  rcases h.2 with ⟨_, h0⟩ | ⟨g, cap, cur, hv, _, _, h1, h2, _⟩
  · omega
  · exact ⟨g, cap, hv, h1, h2⟩
/-- What the document's Parse answers. -/
def ParD (w' : World) (B : Nat) (ev : Ending) (r : Res (List Stg)) : Prop := match r with
  | .error (e, p) => e ≠ 0 ∧ ev = .returned (.tuple #[.slice none 0 0, fltV e p])
  | .ok st => ∃ v ss, ev = .returned (.tuple #[v, fltV 0 (-1)]) ∧ StD w' B v ss ∧ Rel ss st ∧ ss.length ≤ 5 ∧ ∀ s ∈ ss, s.steps.length ≤ 24
/-- The worlds inside of Parse. -/
structure In5 (w wr : World) (v : Value) (ss : List DsM) (st : List Stg) (c : Nat) : Prop where
  in13 : In13 w wr
  std : StD wr (w.heap.size + 1) v ss
  rel : Rel ss st
  size : c = sizeG st
  le : c ≤ 24
  len : ss.length ≤ 5
  bnd : ∀ s ∈ ss, s.vars.length ≤ c ∧ s.steps.length ≤ c
theorem In5.below {w wr w2 : World} {v : Value} {ss : List DsM} {st : List Stg} {c : Nat} (h : In5 w wr v ss st c) (hb : Below wr.heap.size wr w2) : In5 w w2 v ss st c :=
  ⟨h.in13.below hb, h.std.below hb, h.rel, h.size, h.le, h.len, h.bnd⟩
theorem end5 {tm : Array Value} {W : World} {b : Nat} {d0 d1 v4 : Value} {R : Ending → World → Prop} (h4 : tm[2]?.getD undef = v4) (h5 : tm[3]?.getD undef = .pointer (some ⟨b, 0, none⟩))
    (hb : W.heap[b]? = some (.cells #[d0, d1] 28 (0, 0))) (hR : R (.returned (.tuple #[v4, .agg #[d0, d1]])) W) : bodyPost Tryz.prog Tryz.f5 R .ret { tmps := tm, defers := [] } W := by
  have e2 : W.cell? ⟨b, 0, none⟩ = some d0 := cell_of_row _ _ 0 _ _ _ hb
  have e3 : W.cell? ⟨b, 1, none⟩ = some d1 := cell_of_row _ _ 1 _ _ _ hb
  refine ⟨rfl, _, ?_, hR⟩
  simp only [results, Tryz.results5]
  simp [go_sem, h4, h5, e2, e3]
theorem file_stop {l : List UInt8} {st : List Stg} {k : Nat} (h : ¬ k < l.length) : fileG l st k = if st = [] then .error (5, l.length) else .ok st := by
  rw [fileG, if_neg h]
theorem file_lin {l : List UInt8} {st : List Stg} {k : Nat} (h : k < l.length) : fileG l st k = match linG l [] k with
    | .error e => .error e
    | .ok (ws, t) => if k < t then (if ws = [] then fileG l st t else match takeG st ws with
      | .error e => .error e
      | .ok st' => fileG l st' t) else .error (5, k) := by
  rw [fileG, if_pos h]
  cases linG l [] k with
  | error e => rfl
  | ok x =>
    obtain ⟨ws, t⟩ := x
    by_cases hk : k < t
    · simp only [hk, if_true, dif_pos]; rfl
    · simp [hk]
end Go.Proofs.YtkikhmleffcajaaGreatDoor
