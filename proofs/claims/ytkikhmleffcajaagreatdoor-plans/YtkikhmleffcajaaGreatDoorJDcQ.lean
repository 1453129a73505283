import Derived.Test.YtkikhmleffcajaaGreatDoorJDcM
import Derived.Laws.AppendOwnNone
import Derived.Deep.RegionLaw
import Derived.Deep.RegionHeld3
import Derived.Deep.AppendLies
namespace Go.Proofs.YtkikhmleffcajaaGreatDoor
open Go.RowKit Go.Maps

/-- The worlds inside of from and step, ahead of what is appended. -/
structure In13 (w wx : World) : Prop where
  blk : wx.heap[w.heap.size]? = some (.cells #[.int .i64 0, .int .i64 0] 28 (0, 0))
  bel : Below w.heap.size w wx
  big : w.heap.size + 1 ≤ wx.heap.size
theorem In13.below {w wx w2 : World} (h : In13 w wx) (hb : Below wx.heap.size wx w2) : In13 w w2 :=
  ⟨(hb.block _ h.big).trans h.blk, h.bel.trans (hb.mono h.bel.size), Nat.le_trans h.big hb.size⟩
theorem In13.alloc {w wx : World} (h : In13 w wx) (o : Obj) : In13 w (wx.alloc o) := h.below ((Below.refl _ _).alloc (Nat.le_refl _) _)
theorem In13.drew {w wx : World} (h : In13 w wx) : In13 w wx.drew := ⟨h.blk, h.bel.drew, h.big⟩
theorem In13.start (w : World) : In13 w (w.alloc (.cells #[.int .i64 0, .int .i64 0] 28)) := ⟨heap_alloc_new _ _, (Below.refl _ _).alloc (Nat.le_refl _) _, by simp⟩
/-- Faults are kept. -/
def Kep27 (w w' : World) : Prop := ∀ (q : Nat) (c : Array Value) (t : Nat) (fz : Nat × Nat), w.heap[q]? = some (Obj.cells c t fz) → (t = 28 ∨ t = 47) → w'.heap[q]? = w.heap[q]?
def No27 (w : World) (q : Nat) : Prop := ∀ (c : Array Value) (t : Nat) (fz : Nat × Nat), w.heap[q]? = some (Obj.cells c t fz) → ¬ (t = 28 ∨ t = 47)
structure Fr5 (B : Nat) (w w' : World) : Prop where
  bel : Below B w w'
  kep : Kep27 w w'
theorem heap_lt {w : World} {q : Nat} {o : Obj} (h : w.heap[q]? = some o) : q < w.heap.size := by
  rcases Nat.lt_or_ge q w.heap.size with h' | h'
  · exact h'
  · rw [Array.getElem?_eq_none h'] at h; cases h
theorem Kep27.below {w w' : World} (hb : Below w.heap.size w w') : Kep27 w w' := fun q _ _ _ h _ => hb.block q (heap_lt h)
theorem own3 {w : World} {B e z n : Nat} {v : Value} {xs : List Value} (h : w.ownsRow B e z v n xs) (he : ¬ (e = 28 ∨ e = 47)) : ∀ q, v.ownBlock = some q → B ≤ q ∧ q < w.heap.size ∧ No27 w q := fun q hq => by
  obtain ⟨h1, h2⟩ := World.ownsRow.lt h q hq
  refine ⟨h1, h2, fun c t fz hc => ?_⟩
  obtain ⟨c', fz', hc'⟩ := kind_of h q hq
  rw [hc'] at hc
  injection hc with hc
  injection hc with _ hc _
  rw [← hc]; exact he
theorem In13.fr {w wx : World} {B : Nat} (h : In13 w wx) (hB : B ≤ w.heap.size) (x y : Value) : Fr5 B w ((wx.setCell ⟨w.heap.size, 0, none⟩ x).setCell ⟨w.heap.size, 1, none⟩ y) :=
  ⟨below2 (h.bel.mono hB) hB _ _, Kep27.below (below2 h.bel (Nat.le_refl _) _ _)⟩
/-- The worlds behind what is appended. -/
structure Aft (w : World) (B : Nat) (wx : World) : Prop where
  blk : wx.heap[w.heap.size]? = some (.cells #[.int .i64 0, .int .i64 0] 28 (0, 0))
  bel : Below B w wx
  big : w.heap.size + 1 ≤ wx.heap.size
  low : B ≤ w.heap.size
  kep : Kep27 w wx
theorem Aft.below {w wx w2 : World} {B : Nat} (h : Aft w B wx) (hb : Below wx.heap.size wx w2) : Aft w B w2 :=
  ⟨(hb.block _ h.big).trans h.blk, h.bel.trans (hb.mono (by have := h.big; have := h.low; omega)), Nat.le_trans h.big hb.size, h.low, fun q c t fz hq ht => (hb.block q (heap_lt ((h.kep q c t fz hq ht).trans hq))).trans (h.kep q c t fz hq ht)⟩
theorem Aft.grow {w wx w6 : World} {B : Nat} {r : Option Nat} (h : Aft w B wx) (hg : wx.grownBy w6 r) (hr : ∀ q, r = some q → B ≤ q ∧ q ≠ w.heap.size ∧ No27 w q) : Aft w B w6 :=
  ⟨(hg.block _ h.big (fun e => (hr _ e.symm).2.1 rfl)).trans h.blk, h.bel.grown hg (by have := h.big; have := h.low; omega) (fun q hq => (hr q hq).1), Nat.le_trans h.big hg.size, h.low, fun q c t fz hq ht => (hg.block q (heap_lt ((h.kep q c t fz hq ht).trans hq)) (fun e => (hr q e.symm).2.2 c t fz hq ht)).trans (h.kep q c t fz hq ht)⟩
theorem In13.aft {w wx : World} {B : Nat} (h : In13 w wx) (hB : B ≤ w.heap.size) : Aft w B wx := ⟨h.blk, h.bel.mono hB, h.big, hB, Kep27.below h.bel⟩
theorem In13.grow {w wx w6 : World} {B : Nat} {r : Option Nat} (h : In13 w wx) (hg : wx.grownBy w6 r) (hB : B ≤ w.heap.size) (hr : ∀ q, r = some q → B ≤ q ∧ q < w.heap.size ∧ No27 w q) : Aft w B w6 :=
  (h.aft hB).grow hg (fun q hq => ⟨(hr q hq).1, by have := (hr q hq).2.1; omega, (hr q hq).2.2⟩)
theorem Aft.fr {w wx : World} {B : Nat} (h : Aft w B wx) (x y : Value) : Fr5 B w ((wx.setCell ⟨w.heap.size, 0, none⟩ x).setCell ⟨w.heap.size, 1, none⟩ y) :=
  ⟨below2 h.bel h.low _ _, fun q c t fz hq ht => by
    have hne : q ≠ w.heap.size := by have := heap_lt hq; omega
    rw [Below.heap_setCell _ _ _ _ hne, Below.heap_setCell _ _ _ _ hne]; exact h.kep q c t fz hq ht⟩
theorem In13.set {w wx : World} (h : In13 w wx) {b i : Nat} (hb : w.heap.size + 1 ≤ b) (u : Value) : In13 w (wx.setCell ⟨b, i, none⟩ u) :=
  ⟨(Below.heap_setCell _ _ _ _ (show w.heap.size ≠ b by omega)).trans h.blk, h.bel.setCell (p := ⟨b, i, none⟩) (show w.heap.size ≤ b by omega) _, by have := h.big; simpa using this⟩
theorem In13.grow0 {w wx w6 : World} (h : In13 w wx) (hg : wx.grownBy w6 none) : In13 w w6 :=
  ⟨(hg.block _ h.big (by simp)).trans h.blk, h.bel.grown hg h.bel.size (fun q hq => by cases hq), Nat.le_trans h.big hg.size⟩
theorem end13 {tm : Array Value} {W : World} {b : Nat} {d0 d1 v4 : Value} {R : Ending → World → Prop} (h4 : tm[4]?.getD undef = v4) (h5 : tm[5]?.getD undef = .pointer (some ⟨b, 0, none⟩))
    (hb : W.heap[b]? = some (.cells #[d0, d1] 28 (0, 0))) (hR : R (.returned (.tuple #[v4, .agg #[d0, d1]])) W) : bodyPost Tryz.prog Tryz.f13 R .ret { tmps := tm, defers := [] } W := by
  have e2 : W.cell? ⟨b, 0, none⟩ = some d0 := cell_of_row _ _ 0 _ _ _ hb
  have e3 : W.cell? ⟨b, 1, none⟩ = some d1 := cell_of_row _ _ 1 _ _ _ hb
  refine ⟨rfl, _, ?_, hR⟩
  simp only [results, Tryz.results13]
  simp [go_sem, h4, h5, e2, e3]
theorem info56 : (Tryz.prog.info? 58).map (fun i => (i.zero, i.size, i.bytes)) = some (some (.agg #[.string ⟨#[]⟩, .int .i64 0, .slice none 0 0, .slice none 0 0]), 4, 72) := by kernel_rfl
theorem info9 : (Tryz.prog.info? 9).map (fun i => (i.zero, i.size, i.bytes)) = some (some (.string ⟨#[]⟩), 1, 16) := by kernel_rfl
theorem step_append_none {P : Program} {w : World} {ops : Array Oper} {o : Oper} {a : Act} {K : Act → World → Prop} {Q : Exit → Act → World → Prop} {E : Prop} (hgd : o.guard = none) (s x : Operand) (t : TypeId)
    (ho : o.op = .call { callee := .builtin .append, args := #[s, x], argTypes := #[t, t] })
    (base : Nat) (e : TypeId) (i : TypeInfo) (size : Nat) (ht : P.underlying t = some (.slice e)) (hi : P.info? e = some i)
    (v : Value) (n : Nat) (xs : List Value) (hs : a.eval s = v) (hown : w.ownsRow base e size v n xs) (hx : a.eval x = .slice none 0 0)
    (h : K (a.put o.dst v) w) : if Region.wanted o (yielded ops a.tmps) = true then Oper.wp P o a w K Q else E := by
  rw [if_pos (by simp [Region.wanted, hgd])]
  have hrun := run_append_owned_none (P := P) (w := w) base t o.type e i size ht hi v n xs hown
  unfold Oper.wp
  simp [execOp, ho, resolve, invoke, builtin, hs, hx, hrun, Result.andThen]
  exact h
theorem StgOk.fresh (w : World) (B : Nat) (nm : List UInt8) (k : Int) : StgOk w B ⟨nm, k, .slice none 0 0, [], .slice none 0 0, []⟩ :=
  ⟨World.ownsRow_nil _ _ _ _, World.ownsRow_nil _ _ _ _, fun _ => rfl, fun p hp => by simp at hp⟩
theorem StD.keep27 {w : World} {B : Nat} {v : Value} {ss : List DsM} (h : StD w B v ss) {b : Nat} {c : Array Value} {fz : Nat × Nat} (hb : w.heap[b]? = some (.cells c 28 fz)) (x y : Value) : StD ((w.setCell ⟨b, 0, none⟩ x).setCell ⟨b, 1, none⟩ y) B v ss := by
  have hne : ∀ (q : Nat) (c' : Array Value) (t : Nat) (fz' : Nat × Nat), w.heap[q]? = some (Obj.cells c' t fz') → t ≠ 28 → ((w.setCell ⟨b, 0, none⟩ x).setCell ⟨b, 1, none⟩ y).heap[q]? = w.heap[q]? := fun q c' t fz' hq ht => by
    have : q ≠ b := fun e => by
      subst e; rw [hb] at hq
      injection hq with hq
      injection hq with _ hq _
      exact ht hq.symm
    rw [Below.heap_setCell _ _ _ _ this, Below.heap_setCell _ _ _ _ this]
  have hrow : ∀ {e z n : Nat} {u : Value} {xs : List Value}, w.ownsRow B e z u n xs → e ≠ 28 → ∀ q, u.ownBlock = some q → ((w.setCell ⟨b, 0, none⟩ x).setCell ⟨b, 1, none⟩ y).heap[q]? = w.heap[q]? := fun h' he q hq => by
    obtain ⟨c', fz', hc'⟩ := kind_of h' q hq
    exact hne q c' _ fz' hc' he
  exact ⟨row_same h.row (hrow h.row (by decide)), fun s hs => (h.all s hs).kept (fun q c' t fz' hq ht => hne q c' t fz' hq (by rcases ht with rfl | rfl <;> decide)) (hrow (h.all s hs).steps (by decide)) (hrow (h.all s hs).vars (by decide)), h.asv, h.avv⟩
/-- What the document's from makes of texts. -/
def frmT (ss : List DsM) (n : Nat) (t1 t2 t3 : List UInt8) (p0 p1 p2 p3 : Nat) : Res (List UInt8 × Int) :=
  if 2 < n ∧ t2 ≠ wAS then .error (5, p2)
  else if n = 3 then .error (5, p0)
  else if n = 4 ∧ stageNm t3 = false then .error (5, p3)
  else if stageNm t1 = false then .error (5, p1)
  else if callD ss t1 < 0 ∧ t1 ≠ wScratch then .error (6, p1)
  else if n = 4 ∧ (t3 = wScratch ∨ 0 ≤ callD ss t3) then .error (6, p3)
  else if ss.length = 5 then .error (10, p0)
  else .ok (if n = 4 then t3 else [], callD ss t1)
/-- The variables that a new stage begins with. -/
def varsD (ss : List DsM) (k : Int) : List (List UInt8) := if k < 0 then [] else match ss[k.toNat]? with
  | some s => s.vars
  | none => []
/-- What the document's from answers. -/
def FroD (w' : World) (B : Nat) (ev : Ending) (ss : List DsM) (r : Res (List UInt8 × Int)) : Prop := match r with
  | .error (e, p) => e ≠ 0 ∧ ev = .returned (.tuple #[.slice none 0 0, fltV e p])
  | .ok (nm, k) => ∃ v' vv, ev = .returned (.tuple #[v', fltV 0 (-1)]) ∧ StD w' B v' (ss ++ [⟨nm, k, .slice none 0 0, [], vv, varsD ss k⟩])
theorem sn_ne {t : List UInt8} (h : stageNm t = true) : t ≠ [] := fun e => by subst e; exact absurd h (by decide)
end Go.Proofs.YtkikhmleffcajaaGreatDoor

namespace Go.Proofs.YtkikhmleffcajaaGreatDoor
open Go.RowKit Go.Maps

/-- The worlds inside of step, ahead of what is appended. -/
structure In14 (w : World) (op lv : Value) (st p : Int) (wx : World) : Prop where
  in13 : In13 w wx
  stp : wx.heap[w.heap.size + 1]? = some (.cells #[op, lv, .int .i64 st, .int .i64 p] 78 (0, 0))
  big : w.heap.size + 2 ≤ wx.heap.size
theorem In14.below {w wx w2 : World} {op lv : Value} {st p : Int} (h : In14 w op lv st p wx) (hb : Below wx.heap.size wx w2) : In14 w op lv st p w2 :=
  ⟨h.in13.below hb, (hb.block _ (by have := h.big; omega)).trans h.stp, Nat.le_trans h.big hb.size⟩
theorem In14.alloc {w wx : World} {op lv : Value} {st p : Int} (h : In14 w op lv st p wx) (o : Obj) : In14 w op lv st p (wx.alloc o) := h.below ((Below.refl _ _).alloc (Nat.le_refl _) _)
theorem In14.drew {w wx : World} {op lv : Value} {st p : Int} (h : In14 w op lv st p wx) : In14 w op lv st p wx.drew := ⟨h.in13.drew, h.stp, h.big⟩
theorem In14.start (w : World) (op lv : Value) (st p : Int) : In14 w op lv st p ((w.alloc (.cells #[.int .i64 0, .int .i64 0] 28)).alloc (.cells #[op, lv, .int .i64 st, .int .i64 p] 78)) :=
  ⟨(In13.start w).alloc _, by
    have := heap_alloc_new (w.alloc (.cells #[.int .i64 0, .int .i64 0] 28)) (.cells #[op, lv, .int .i64 st, .int .i64 p] 78)
    rw [World.size_alloc] at this; exact this, by simp⟩
theorem In14.set1 {w wx : World} {op lv : Value} {st p : Int} (h : In14 w op lv st p wx) (lv' : Value) : In14 w op lv' st p (wx.setCell ⟨w.heap.size + 1, 1, none⟩ lv') :=
  ⟨h.in13.set (Nat.le_refl _) _, heap_setCell_same _ _ 1 _ _ _ h.stp, by have := h.big; simpa using this⟩
theorem In14.set2 {w wx : World} {op lv : Value} {st p : Int} (h : In14 w op lv st p wx) (st' : Int) : In14 w op lv st' p (wx.setCell ⟨w.heap.size + 1, 2, none⟩ (.int .i64 st')) :=
  ⟨h.in13.set (Nat.le_refl _) _, heap_setCell_same _ _ 2 _ _ _ h.stp, by have := h.big; simpa using this⟩
theorem end14 {tm : Array Value} {W : World} {b : Nat} {d0 d1 v4 : Value} {R : Ending → World → Prop} (h4 : tm[6]?.getD undef = v4) (h5 : tm[7]?.getD undef = .pointer (some ⟨b, 0, none⟩))
    (hb : W.heap[b]? = some (.cells #[d0, d1] 28 (0, 0))) (hR : R (.returned (.tuple #[v4, .agg #[d0, d1]])) W) : bodyPost Tryz.prog Tryz.f14 R .ret { tmps := tm, defers := [] } W := by
  have e2 : W.cell? ⟨b, 0, none⟩ = some d0 := cell_of_row _ _ 0 _ _ _ hb
  have e3 : W.cell? ⟨b, 1, none⟩ = some d1 := cell_of_row _ _ 1 _ _ _ hb
  refine ⟨rfl, _, ?_, hR⟩
  simp only [results, Tryz.results14]
  simp [go_sem, h4, h5, e2, e3]
theorem info58 : (Tryz.prog.info? 78).map (fun i => (i.zero, i.size, i.bytes)) = some (some (.agg #[.string ⟨#[]⟩, .slice none 0 0, .int .i64 0, .int .i64 0]), 4, 56) := by kernel_rfl
abbrev wCOPY : List UInt8 := [67, 79, 80, 89]
abbrev wMKDIR : List UInt8 := [77, 75, 68, 73, 82]
theorem new_drew (w : World) (o : Obj) : (w.alloc o).drew.heap[w.heap.size]? = some o := heap_alloc_new w o
theorem Aft.set {w wx : World} {B b i : Nat} (h : Aft w B wx) (hb : B ≤ b) (hne : b ≠ w.heap.size) (h27 : No27 w b) (u : Value) : Aft w B (wx.setCell ⟨b, i, none⟩ u) :=
  ⟨(Below.heap_setCell _ _ _ _ (show w.heap.size ≠ b by omega)).trans h.blk, h.bel.setCell (p := ⟨b, i, none⟩) hb _, by have := h.big; simpa using this, h.low, fun q c t fz hq ht => (Below.heap_setCell _ _ _ _ (show q ≠ b from fun e => h27 c t fz (by rw [← e]; exact hq) ht)).trans (h.kep q c t fz hq ht)⟩
theorem Aft.drew {w wx : World} {B : Nat} (h : Aft w B wx) : Aft w B wx.drew := ⟨h.blk, h.bel.drew, h.big, h.low, h.kep⟩
theorem Aft.alloc {w wx : World} {B : Nat} (h : Aft w B wx) (o : Obj) : Aft w B (wx.alloc o) := h.below ((Below.refl _ _).alloc (Nat.le_refl _) _)
theorem drew_below (w : World) (o : Obj) : Below w.heap.size w (w.alloc o).drew := ((Below.refl _ _).alloc (Nat.le_refl _) _).drew
theorem one4 (a b c d : Value) (ha : a.oneCell' = true) (hb : b.oneCell' = true) (hc : c.oneCell' = true) (hd : d.oneCell' = true) : ∀ u ∈ [a, b, c, d], u.oneCell' = true := fun u hu => by
  simp at hu; rcases hu with rfl | rfl | rfl | rfl <;> assumption
/-- What the document's step asks of its words first: the stage, and how many words are left out. -/
def preT (ss : List DsM) (op : List UInt8) (ms : List WdM) (x0 x1 : WdM) : Res (Int × Nat) :=
  if op = wCOPY then takG ss x1.xs ms.length x0.place x1.place
  else if op = wMKDIR then (match ms[2]? with
    | none => .ok (-1, 1)
    | some x2 => match plainW x2.xs with
      | some t => if modeN t = true then .ok (-1, 1) else .error (5, x2.place)
      | none => .error (5, x2.place))
  else if op = wENV then (match plainW x1.xs with
    | some t => if isVarN t = true then .ok (-1, 1) else .error (5, x1.place)
    | none => .error (5, x1.place))
  else .ok (-1, 1)
def endT (r : Option Nat) (k : Int) (d : Nat) : Res (Int × Nat) := match r with
  | some p => .error (7, p)
  | none => .ok (k, d)
def stpT (ss : List DsM) (vars : List (List UInt8)) (op : List UInt8) (ms : List WdM) (x0 x1 : WdM) : Res (Int × Nat) := match preT ss op ms x0 x1 with
  | .error e => .error e
  | .ok (k, d) => endT (unsetL (fun nm => vars.contains nm) ((ms.drop d).map WdM.wd)) k d
/-- What the document's step answers. -/
def StpD (w' : World) (B : Nat) (ev : Ending) (v : Value) (ss : List DsM) (k : Nat) (s : DsM) (op : List UInt8) (wv : Value) (ms : List WdM) (x0 x1 : WdM) (r : Res (Int × Nat)) : Prop := match r with
  | .error (e, p) => e ≠ 0 ∧ ev = .returned (.tuple #[.slice none 0 0, fltV e p])
  | .ok (st, d) => ∃ sv vv lv, ev = .returned (.tuple #[v, fltV 0 (-1)]) ∧ StD w' B v (ss.set k ⟨s.name, s.base, sv, s.steps ++ [⟨op, lv, wv, ms, d, st, x0.place⟩], vv, if op = wENV then s.vars ++ [(plainW x1.xs).getD []] else s.vars⟩)
end Go.Proofs.YtkikhmleffcajaaGreatDoor
