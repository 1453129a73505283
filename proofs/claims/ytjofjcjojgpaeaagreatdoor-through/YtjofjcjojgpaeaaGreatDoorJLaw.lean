import Derived.RangeFuncNested
import Derived.RangeFuncBound
import Derived.RangeFuncCalls
import Derived.RangeFuncLeaves
import Derived.Shelf.Abstract
import Derived.Shelf.RegionOpen
import Derived.WalkKit
import Derived.OwnWalkIn
import Derived.TacticsInMore
import Derived.LoopNIn
import Derived.LoopIn
import Derived.Shelf.SlIter.Nil
import Derived.Shelf.SortM.Plain
import Derived.Shelf.SortM.SortNone
import Derived.Ground.GgzProg
import Derived.Ground.SlgmProg
import Derived.Test.YtjofjcjojgpaeaaGreatDoorProg
import Derived.Test.YtjofjcjojgpaeaaGreatDoorJInA
namespace Go.Proofs.YtjofjcjojgpaeaaGreatDoor
open Go.RowKit

theorem yield_deep {m m' : Nat} {P : Program} {l : Nat} {args : Array Value} {W : World} {R : Ending → World → Prop} (h : YieldAt Fence.wide m P l args W R) : YieldAt Fence.wide m' P l args W R := by
  obtain ⟨fn, tmps, assign, body, hy, hF, hR⟩ := h
  exact ⟨fn, tmps, assign, body, hy, hF, fun c cs _ => hR c cs (room_wide _)⟩
/-- The block of the row that a box's slice lies in. -/
def rowAt (W : World) (Bb k : Nat) : Prop := ∃ o s n cap, W.cell? ⟨Bb, 0, none⟩ = some (.slice (some ⟨k, o, s⟩) n cap)
/-- What a round keeps: all but a box, and the row of its slice. -/
structure Kc (Bb : Nat) (W W' : World) : Prop where
  size : W.heap.size ≤ W'.heap.size
  keep : ∀ k o, W.heap[k]? = some o → (o.isCells = true ∨ o.isWalk = true) → k ≠ Bb → ¬ rowAt W Bb k → W'.heap[k]? = some o
  row : ∀ k, rowAt W' Bb k → rowAt W Bb k ∨ (W.heap.size ≤ k ∧ k < W'.heap.size)
theorem Kc.refl (Bb : Nat) (W : World) : Kc Bb W W := ⟨Nat.le_refl _, fun _ _ h _ _ _ => h, fun _ h => .inl h⟩
theorem Kc.trans {Bb : Nat} {A B C : World} (h : Kc Bb A B) (k : Kc Bb B C) : Kc Bb A C := by
  refine ⟨Nat.le_trans h.size k.size, fun i o h1 h2 h3 h4 => k.keep i o (h.keep i o h1 h2 h3 h4) h2 h3 fun hr => ?_, fun i hi => ?_⟩
  · have hi := (Array.getElem?_eq_some_iff.1 h1).1
    rcases h.row i hr with h5 | h5
    · exact h4 h5
    · omega
  · rcases k.row i hi with h1 | h1
    · rcases h.row i h1 with h2 | h2
      · exact .inl h2
      · exact .inr ⟨h2.1, Nat.lt_of_lt_of_le h2.2 k.size⟩
    · exact .inr ⟨Nat.le_trans h.size h1.1, h1.2⟩
theorem cell_put {W : World} {l : Nat} (o' : Obj) {a : Addr} (h : a.block ≠ l) : (W.putObj l o').cell? a = W.cell? a := by
  unfold World.cell?
  rw [World.putObj_heap_other h]
theorem cell_block {W W' : World} {a : Addr} (h : W'.heap[a.block]? = W.heap[a.block]?) : W'.cell? a = W.cell? a := by
  unfold World.cell?
  rw [h]
theorem Kc.put {Bb : Nat} (W : World) (l : Nat) (o o' : Obj) (hl : Bb < l) (h : W.heap[l]? = some o) (h1 : o.isCells = false) (h2 : o.isWalk = false) : Kc Bb W (W.putObj l o') := by
  refine ⟨by simp, fun k x hk hx _ _ => ?_, fun k hk => .inl ?_⟩
  · have e : k ≠ l := by
      rintro rfl
      rw [h] at hk
      cases hk
      rw [h1, h2] at hx
      rcases hx with hx | hx <;> cases hx
    rw [World.putObj_heap_other e]; exact hk
  · obtain ⟨a, s, n, c, e⟩ := hk
    rw [cell_put o' (by show Bb ≠ l; omega)] at e
    exact ⟨a, s, n, c, e⟩
/-- All that was there lies as it lay. -/
theorem Kc.below {Bb : Nat} {W W' : World} (hb : Below W.heap.size W W') (h : Bb < W.heap.size) : Kc Bb W W' := by
  refine ⟨hb.size, fun k o hk _ _ _ => (hb.block k (Array.getElem?_eq_some_iff.1 hk).1).trans hk, fun k hk => .inl ?_⟩
  obtain ⟨a, s, n, c, e⟩ := hk
  rw [cell_block (W := W) (hb.block Bb h)] at e
  exact ⟨a, s, n, c, e⟩
theorem keeps_below {W W' : World} (hb : Below W.heap.size W W') : KeepsOthers W W' := ⟨hb.size, fun k _ hk _ => (hb.block k (Array.getElem?_eq_some_iff.1 hk).1).trans hk⟩
/-- A block that no round turns. -/
def Away (Bb : Nat) (W : World) (k : Nat) : Prop := k < W.heap.size ∧ k ≠ Bb ∧ ¬ rowAt W Bb k
theorem Kc.away {Bb : Nat} {W W' : World} {k : Nat} (h : Kc Bb W W') (ha : Away Bb W k) : Away Bb W' k :=
  ⟨Nat.lt_of_lt_of_le ha.1 h.size, ha.2.1, fun hr => by
    rcases h.row k hr with h1 | h1
    · exact ha.2.2 h1
    · have := ha.1; omega⟩
theorem Kc.at {Bb : Nat} {W W' : World} {k : Nat} {o : Obj} (h : Kc Bb W W') (ha : Away Bb W k) (hk : W.heap[k]? = some o) (ho : o.isCells = true ∨ o.isWalk = true) : W'.heap[k]? = some o := h.keep k o hk ho ha.2.1 ha.2.2
/-- The box's slice lies in a block that is there. -/
def RowIn (Bb : Nat) (W : World) : Prop := Bb < W.heap.size ∧ ∀ k, rowAt W Bb k → k < W.heap.size
theorem Kc.rowIn {Bb : Nat} {W W' : World} (h : Kc Bb W W') (hr : RowIn Bb W) : RowIn Bb W' :=
  ⟨Nat.lt_of_lt_of_le hr.1 h.size, fun k hk => by
    rcases h.row k hk with h1 | h1
    · exact Nat.lt_of_lt_of_le (hr.2 k h1) h.size
    · exact h1.2⟩
/-- What is new is no box, and no row of its. -/
theorem away_new {Bb : Nat} {W W' : World} {g : Nat} (hr : RowIn Bb W) (hb : Below W.heap.size W W') (hg : W.heap.size ≤ g) (hg2 : g < W'.heap.size) : Away Bb W' g :=
  ⟨hg2, by have := hr.1; omega, fun hk => by
    obtain ⟨a, s, n, c, e⟩ := hk
    rw [cell_block (W := W) (hb.block Bb hr.1)] at e
    have := hr.2 g ⟨a, s, n, c, e⟩
    omega⟩
/-- What a loop holds hangs on the blocks below a number, on its box, and on the row of the box's slice. -/
structure Kept (Bb B0 : Nat) (W W' : World) : Prop where
  os : W'.os = W.os
  tape : W'.tape = W.tape
  output : W'.output = W.output
  size : W.heap.size ≤ W'.heap.size
  block : ∀ k, k < W.heap.size → (k < B0 ∨ k = Bb ∨ rowAt W Bb k) → W'.heap[k]? = W.heap[k]?
theorem Kept.below {Bb B0 : Nat} {W W' : World} (h : Below W.heap.size W W') : Kept Bb B0 W W' := ⟨h.os, h.tape, h.output, h.size, fun k hk _ => h.block k hk⟩
theorem Kept.mono {Bb B0 B1 : Nat} {W W' : World} (h : Kept Bb B1 W W') (hb : B0 ≤ B1) : Kept Bb B0 W W' := ⟨h.os, h.tape, h.output, h.size, fun k hk hc => h.block k hk (by
  rcases hc with hc | hc
  · exact .inl (by omega)
  · exact .inr hc)⟩
theorem Kept.put {Bb B0 l : Nat} {W : World} (o' : Obj) (h1 : B0 ≤ l) (h2 : l ≠ Bb) (h3 : ¬ rowAt W Bb l) : Kept Bb B0 W (W.putObj l o') :=
  ⟨rfl, rfl, rfl, by simp, fun k _ hc => World.putObj_heap_other (fun e => by
    subst e
    rcases hc with hc | hc | hc
    · omega
    · exact h2 hc
    · exact h3 hc)⟩
theorem Kept.set {Bb B0 : Nat} {W : World} {p : Addr} (v : Value) (h1 : B0 ≤ p.block) (h2 : p.block ≠ Bb) (h3 : ¬ rowAt W Bb p.block) : Kept Bb B0 W (W.setCell p v) :=
  ⟨rfl, rfl, rfl, (KeepsWalks.setCell W p v).size, fun k _ hc => Below.heap_setCell _ _ _ k (fun e => by
    subst e
    rcases hc with hc | hc | hc
    · omega
    · exact h2 hc
    · exact h3 hc)⟩
/-- The row of the box's slice is cells. -/
def RowC (Bb : Nat) (W : World) : Prop := ∀ k, rowAt W Bb k → ∃ o : Obj, W.heap[k]? = some o ∧ o.isCells = true
/-- What abides all that leaves it what it hangs on. -/
structure Stay {β : Type} (Bb B0 : Nat) (J : β → World → Prop) : Prop where
  go : ∀ s W W', J s W → Kept Bb B0 W W' → J s W'
  row : ∀ s W, J s W → RowC Bb W
theorem Stay.mono {β : Type} {Bb B0 B1 : Nat} {J : β → World → Prop} (h : Stay Bb B0 J) (hb : B0 ≤ B1) : Stay Bb B1 J := ⟨fun s W W' hs hk => h.go s W W' hs (hk.mono hb), h.row⟩
/-- An iterator that hands over all that it has, to a loop that is never left: it may run loops of its own. -/
def SeqAll {α : Type} (Bb : Nat) (F : Fence) (n : Nat) (P : Program) (g : Nat) (lb : Array Value) (encs : α → Array Value) (xs : List α) (w : World) : Prop :=
  ∀ (l : Nat) (J : List α → World → Prop) (W : World), Below w.heap.size w W → Stay Bb W.heap.size J →
    (∀ pre x W1, J pre W1 → pre ++ [x] <+: xs → YieldAt F (n - 1) P l (encs x) W1 fun e W' => e = .returned (.bool true) ∧ J (pre ++ [x]) W' ∧ KeepsOthers W1 W' ∧ Kc Bb W1 W') →
    J [] W → CallsIn F n P g (#[.func (.yield l) #[] #[]] ++ lb) W fun e W' => (∃ v, e = .returned v) ∧ J xs W'
/-- A range over such an iterator: one walk of the body. -/
theorem range_all {F : Fence} {n : Nat} {P : Program} {α : Type} {g : Operand} {ps : Array Tmp} {assign body : Code} {Q : Exit → Act → World → Prop} {a : Act} {w : World} {Bb : Nat}
    (hro : F.round = none) (h1 : 1 ≤ n) {gf : Nat} {lb : Array Value} (hg : a.eval g = .func (.func gf) #[] lb) (hFg : F.fn gf) (eg : ∀ args w, (callFunc gf args).run P w = .ok (.enter gf args) w)
    {encs : α → Array Value} {xs : List α} {w0 : World} (hseq : SeqAll Bb F (n - 1) P gf lb encs xs w0) (hBb : Bb < w.heap.size) (hb0 : Below w0.heap.size w0 w) (hps : ∀ x, (encs x).size = ps.size)
    (I : List α → World → Prop) (hI : Stay Bb w.heap.size I) (h0 : I [] w) (f : Array Value → α → Array Value)
    (hassign : ∀ (l : Nat) (x : α) (W : World) (K : Act → World → Prop), K { tmps := f a.tmps x, defers := [] } W →
      assign.wpIn (F.inRound l) (n - 1 - 1) P (Exit.then K (fun _ _ _ => False)) { tmps := (ps.zip (encs x)).foldl (fun t (p, v) => t.setIfInBounds p v) a.tmps, defers := [] } W)
    (hbody : ∀ (l : Nat) (pre : List α) (x : α) (W : World), I pre W → pre ++ [x] <+: xs → body.wpIn (F.inRound l) (n - 1 - 1) P (ownPostK (Kc Bb) I (fun _ _ _ => False) (pre ++ [x]) W) { tmps := f a.tmps x, defers := [] } W)
    (hdone : ∀ (D : Nat) (W : World), w.heap.size ≤ D → I xs W → W.heap[D]? = some (.deferred (some [])) → Q .normal { a with defers := { target := .collected D, args := #[] } :: a.defers } W) :
    (Code.rangeFunc g ps assign body).wpIn F n P Q a w := by
  refine wpIn_rangeFunc fun fn hfn => ?_
  rw [hro]
  obtain ⟨D, hD⟩ : ∃ D, w.heap.size = D := ⟨_, rfl⟩
  obtain ⟨R, hR⟩ : ∃ R : LoopState → Loop, ∀ st, R st = { state := st, pending := none, fn, tmps := a.tmps, params := ps, assign, body, defers := D } := ⟨_, fun _ => rfl⟩
  obtain ⟨V, hV⟩ : ∃ V, V = (w.alloc (.deferred (some []))).alloc (.loop (R .ready)) := ⟨_, rfl⟩
  have sV : V.heap.size = D + 2 := by rw [hV]; simp [hD]
  have vL : V.heap[D + 1]? = some (.loop (R .ready)) := by
    have := World.alloc_heap_new (w.alloc (.deferred (some []))) (.loop (R .ready))
    rw [World.size_alloc, hD] at this
    rw [hV]; exact this
  have vD : V.heap[D]? = some (.deferred (some [])) := by
    have := World.alloc_heap_new w (.deferred (some []))
    rw [hD] at this
    rw [hV]; exact (Below.heap_alloc _ _ _ (by simp [hD])).trans this
  have wV : Below w.heap.size w V := by
    rw [hV]; exact ((Below.refl _ w).alloc (Nat.le_refl _) _).alloc (by simp) _
  have bV : Below w0.heap.size w0 V := hb0.trans (wV.mono hb0.size)
  have hIV : I [] V := hI.go _ _ _ h0 (Kept.below wV)
  rw [hD] at hI hBb
  -- a block that is no cells is not the row
  have nor : ∀ {s W l o}, I s W → W.heap[l]? = some o → o.isCells = false → ¬ rowAt W Bb l := fun {s W l o} hs hl hc hr => by
    obtain ⟨o', h2, h3⟩ := hI.row s W hs l hr
    rw [hl] at h2; cases h2; rw [hc] at h3; cases h3
  have put : ∀ {s W o} (o' : Obj), I s W → W.heap[D + 1]? = some o → o.isCells = false → I s (W.putObj (D + 1) o') := fun {s W o} o' hs hl hc =>
    hI.go s W _ hs (Kept.put o' (by omega) (by omega) (nor hs hl hc))
  have hJ : Stay Bb V.heap.size (fun pre W => I pre W ∧ W.heap[D + 1]? = some (.loop (R .ready)) ∧ W.heap[D]? = some (.deferred (some []))) := by
    refine ⟨fun s A B hs hk => ?_, fun s W hs => hI.row s W hs.1⟩
    rw [sV] at hk
    exact ⟨hI.go s A B hs.1 (hk.mono (by omega)), (hk.block _ (Array.getElem?_eq_some_iff.1 hs.2.1).1 (.inl (by omega))).trans hs.2.1, (hk.block _ (Array.getElem?_eq_some_iff.1 hs.2.2).1 (.inl (by omega))).trans hs.2.2⟩
  have hcall := hseq (D + 1) _ V bV hJ ?round ⟨hIV, vL, vD⟩
  case round =>
    rintro pre x W ⟨hi, hl, hk⟩ hlen
    have hlt : D + 1 < W.heap.size := (Array.getElem?_eq_some_iff.1 hl).1
    have hy := run_yield (P := P) (args := encs x) hl (by rw [hR]; exact hps x)
    rw [hR] at hy
    have bL : (W.putObj (D + 1) (.loop { R .ready with state := .busy })).heap[D + 1]? = some (.loop { R .ready with state := .busy }) := World.putObj_heap_same hlt
    have bD : (W.putObj (D + 1) (.loop { R .ready with state := .busy })).heap[D]? = some (.deferred (some [])) := (World.putObj_heap_other (by omega)).trans hk
    refine ⟨fn, _, assign, body, hy, roundIn_of_wpIn hfn (hassign _ x W _ ⟨_, run_beginRound hl (by rw [hR]), ?_⟩)⟩
    refine wpIn_mono (hbody _ pre x _ (put _ hi hl rfl) hlen) ?_
    rintro e a3 W3 hp
    cases e with
    | normal =>
      obtain ⟨hk3, hkp3, hi3⟩ := hp
      have cL := hk3.same _ _ bL rfl
      have cE := run_endRound (P := P) none cL
      rw [hR] at cE cL
      have c3 : D + 1 < W3.heap.size := (Array.getElem?_eq_some_iff.1 cL).1
      refine ⟨_, _, cE, rfl, ⟨put _ hi3 cL rfl, ?_, (World.putObj_heap_other (by omega)).trans (hk3.same _ _ bD rfl)⟩, ⟨?_, fun k o hko hoc => ?_⟩, ?_⟩
      · rw [hR]; exact World.putObj_heap_same c3
      · exact Nat.le_trans (by simp) (Nat.le_trans hk3.size (by simp))
      · by_cases hkl : k = D + 1
        · subst hkl
          rw [hl] at hko
          cases hko
          rw [hR]; exact World.putObj_heap_same c3
        · exact (World.putObj_heap_other hkl).trans (hk3.same _ _ ((World.putObj_heap_other hkl).trans hko) hoc)
      · exact ((Kc.put W _ _ _ (by omega) hl rfl rfl).trans hkp3).trans (Kc.put _ _ _ _ (by omega) cL rfl rfl)
    | ret => exact hp.2.elim
    | exit id => exact hp.2.elim
    | goto t => exact hp.2.elim
    | panic ch => exact hp.elim
    | outgrown => exact hp.elim
  refine ⟨D + 1, [{ target := .collected D, args := #[] }], V, { target := .fn (.func gf) lb, args := #[.func (.yield (D + 1)) #[] #[]] }, V, gf,
    #[.func (.yield (D + 1)) #[] #[]] ++ lb, V, ?_, ?_, ?_, ?_, fun _ => h1, ?_⟩
  · have e : V = (w.alloc (.deferred (some []))).alloc (.loop { state := .ready, pending := none, fn, tmps := a.tmps, params := ps, assign, body, defers := w.heap.size }) := by rw [hV, hR, hD]
    rw [e, ← hD]
    exact run_enterLoop_outer _ _ _ _ _
  · simp only [resolve, hg]
    simp [go_sem]
  · intro f' hf'; simp [Target.leads] at hf'; subst hf'; exact hFg
  · simp [invoke, go_sem, eg]
  · refine hcall.mono ?_
    rintro e W2 ⟨⟨v, rfl⟩, hi, hl, hk⟩
    have cE := run_endLoop (P := P) hl (by rw [hR]; simp)
    rw [hR] at cE
    exact ⟨none, _, cE, hdone _ _ (by omega) (put _ hi hl rfl) ((World.putObj_heap_other (by omega)).trans hk)⟩
theorem Kc.setNew {Bb : Nat} {w W : World} {p : Addr} (h : Kc Bb w W) (v : Value) (hB : Bb < w.heap.size) (hp : w.heap.size ≤ p.block) : Kc Bb w (W.setCell p v) := by
  have hs := (KeepsWalks.setCell W p v).size
  have hne : ∀ k, k < w.heap.size → (W.setCell p v).heap[k]? = W.heap[k]? := fun k hk => Below.heap_setCell _ _ _ k (fun e => by omega)
  refine ⟨Nat.le_trans h.size hs, fun k o h1 h2 h3 h4 => (hne k (Array.getElem?_eq_some_iff.1 h1).1).trans (h.keep k o h1 h2 h3 h4), fun k hk => ?_⟩
  obtain ⟨a, s, n, c, e⟩ := hk
  rw [cell_block (W := W) (hne Bb hB)] at e
  rcases h.row k ⟨a, s, n, c, e⟩ with h5 | h5
  · exact .inl h5
  · exact .inr ⟨h5.1, Nat.lt_of_lt_of_le h5.2 hs⟩
theorem Kc.putNew {Bb : Nat} {w W : World} {l : Nat} (h : Kc Bb w W) (o : Obj) (hB : Bb < w.heap.size) (hp : w.heap.size ≤ l) : Kc Bb w (W.putObj l o) := by
  have hne : ∀ k, k < w.heap.size → (W.putObj l o).heap[k]? = W.heap[k]? := fun k hk => World.putObj_heap_other (by omega)
  refine ⟨Nat.le_trans h.size (by simp), fun k o h1 h2 h3 h4 => (hne k (Array.getElem?_eq_some_iff.1 h1).1).trans (h.keep k o h1 h2 h3 h4), fun k hk => ?_⟩
  obtain ⟨a, s, n, c, e⟩ := hk
  rw [cell_block (W := W) (hne Bb hB)] at e
  rcases h.row k ⟨a, s, n, c, e⟩ with h5 | h5
  · exact .inl h5
  · exact .inr ⟨h5.1, by simpa using h5.2⟩
theorem keeps_putNew {w W : World} {l : Nat} (h : KeepsOthers w W) (o : Obj) (hp : w.heap.size ≤ l) : KeepsOthers w (W.putObj l o) :=
  ⟨Nat.le_trans h.size (by simp), fun k o' h1 h2 => (World.putObj_heap_other (by have := (Array.getElem?_eq_some_iff.1 h1).1; omega)).trans (h.same k o' h1 h2)⟩
theorem Kc.kept {Bb B0 : Nat} {w W W' : World} (h : Kc Bb w W) (hB : Bb < w.heap.size) (hk : Kept Bb B0 W W') (h0 : w.heap.size ≤ B0) : Kc Bb w W' := by
  have hne : ∀ k, k < w.heap.size → W'.heap[k]? = W.heap[k]? := fun k hk' => hk.block k (Nat.lt_of_lt_of_le hk' h.size) (.inl (by omega))
  refine ⟨Nat.le_trans h.size hk.size, fun k o h1 h2 h3 h4 => (hne k (Array.getElem?_eq_some_iff.1 h1).1).trans (h.keep k o h1 h2 h3 h4), fun k hr => ?_⟩
  obtain ⟨a, s, n, c, e⟩ := hr
  rw [cell_block (W := W) (hne Bb hB)] at e
  rcases h.row k ⟨a, s, n, c, e⟩ with h5 | h5
  · exact .inl h5
  · exact .inr ⟨h5.1, Nat.lt_of_lt_of_le h5.2 hk.size⟩
theorem keeps_kept {Bb B0 : Nat} {w W W' : World} (h : KeepsOthers w W) (hk : Kept Bb B0 W W') (h0 : w.heap.size ≤ B0) : KeepsOthers w W' :=
  ⟨Nat.le_trans h.size hk.size, fun k o h1 h2 => (hk.block k (Nat.lt_of_lt_of_le (Array.getElem?_eq_some_iff.1 h1).1 h.size) (.inl (by have := (Array.getElem?_eq_some_iff.1 h1).1; omega))).trans (h.same k o h1 h2)⟩
end Go.Proofs.YtjofjcjojgpaeaaGreatDoor

namespace Go.Proofs
open Go.RowKit Go.Maps Go.Sort Go.Shelf

def Tryz.keys119_ren : Go.Shelf.Ren := ⟨fun | 7 => 98 | 10 => 131 | n => n, fun | 23 => 77 | 26 => 9 | 3 => 64 | 28 => 162 | 0 => 0 | 27 => 161 | 33 => 40 | 4 => 4 | n => n, fun | n => n⟩
theorem Tryz.keys119 : Go.Proofs.SlLaysZ.n7 Tryz.prog Tryz.keys119_ren := {
  mixed := by kernel_rfl
  f7 := ⟨Tryz.f98.name, by decide, Tryz.func98.trans (congrArg some (by kernel_rfl))⟩
  f10 := ⟨Tryz.f131.name, by decide, Tryz.func131.trans (congrArg some (by kernel_rfl))⟩
  t0 := Tryz.underlying0
  a0 := Tryz.isAgg0
  z0 := Tryz.sizeOf0
  v0 := Tryz.zeroValue0
  t4 := Tryz.underlying4
  a4 := Tryz.isAgg4
  z4 := Tryz.sizeOf4
  v4 := Tryz.zeroValue4
  t23 := Tryz.underlying77
  a23 := Tryz.isAgg77
  z23 := Tryz.sizeOf77
  v23 := Tryz.zeroValue77
  t26 := Tryz.underlying9
  a26 := Tryz.isAgg9
  z26 := Tryz.sizeOf9
  v26 := Tryz.zeroValue9
  t27 := Tryz.underlying161
  a27 := Tryz.isAgg161
  z27 := Tryz.sizeOf161
  v27 := Tryz.zeroValue161
  t28 := Tryz.underlying162
  a28 := Tryz.isAgg162
  z28 := Tryz.sizeOf162
  v28 := Tryz.zeroValue162
  t33 := Tryz.underlying40
  a33 := Tryz.isAgg40
  z33 := Tryz.sizeOf40
  v33 := Tryz.zeroValue40 }
def Tryz.sorted118_ren : Go.Shelf.Ren := ⟨fun | 6 => 97 | 8 => 129 | 9 => 130 | 11 => 154 | 13 => 94 | 12 => 155 | 23 => 127 | 24 => 128 | 14 => 169 | 15 => 170 | 16 => 171 | 17 => 172 | 18 => 173 | 19 => 174 | 20 => 175 | 21 => 176 | 22 => 177 | 25 => 195 | 26 => 150 | 27 => 151 | 28 => 196 | 29 => 197 | 30 => 115 | 31 => 209 | n => n, fun | 26 => 9 | 28 => 162 | 24 => 43 | 0 => 0 | 3 => 3 | 37 => 158 | 48 => 185 | 50 => 187 | 4 => 4 | 40 => 179 | 39 => 178 | 45 => 38 | 5 => 5 | 9 => 9 | 51 => 204 | 55 => 208 | 57 => 220 | 58 => 221 | 33 => 40 | n => n, fun | n => n⟩
theorem Tryz.sorted118 : Go.Proofs.SlLaysZ.n6 Tryz.prog Tryz.sorted118_ren := {
  mixed := by kernel_rfl
  f6 := ⟨Tryz.f97.name, by decide, Tryz.func97.trans (congrArg some (by kernel_rfl))⟩
  f8 := ⟨Tryz.f129.name, by decide, Tryz.func129.trans (congrArg some (by kernel_rfl))⟩
  f11 := ⟨Tryz.f154.name, by decide, Tryz.func154.trans (congrArg some (by kernel_rfl))⟩
  t0 := Tryz.underlying0
  a0 := Tryz.isAgg0
  z0 := Tryz.sizeOf0
  v0 := Tryz.zeroValue0
  t24 := Tryz.underlying43
  a24 := Tryz.isAgg43
  z24 := Tryz.sizeOf43
  v24 := Tryz.zeroValue43
  t26 := Tryz.underlying9
  a26 := Tryz.isAgg9
  z26 := Tryz.sizeOf9
  v26 := Tryz.zeroValue9
  t28 := Tryz.underlying162
  a28 := Tryz.isAgg162
  z28 := Tryz.sizeOf162
  v28 := Tryz.zeroValue162
  i26 := by kernel_rfl }
def Tryz.sort140_ren : Go.Shelf.Ren := ⟨fun | 6 => 130 | 8 => 94 | 9 => 155 | 19 => 127 | 20 => 128 | 21 => 169 | 22 => 170 | 23 => 171 | 24 => 172 | 25 => 173 | 26 => 174 | 27 => 175 | 28 => 176 | 29 => 177 | 36 => 195 | 31 => 150 | 32 => 151 | 37 => 196 | 38 => 197 | 39 => 115 | 41 => 209 | n => n, fun | 27 => 43 | 29 => 9 | 3 => 3 | 32 => 158 | 26 => 43 | 0 => 0 | 44 => 185 | 46 => 187 | 4 => 4 | 36 => 179 | 35 => 178 | 41 => 38 | 5 => 5 | 9 => 9 | 53 => 204 | 57 => 208 | 63 => 220 | 64 => 221 | n => n, fun | n => n⟩
theorem Tryz.sort140 : Go.Proofs.SlLaysM.n6 Tryz.prog Tryz.sort140_ren := {
  mixed := by kernel_rfl
  f6 := ⟨Tryz.f130.name, by decide, Tryz.func130.trans (congrArg some (by kernel_rfl))⟩
  f8 := Tryz.func94.trans (congrArg some (by kernel_rfl))
  f9 := ⟨Tryz.f155.name, by decide, Tryz.func155.trans (congrArg some (by kernel_rfl))⟩
  f19 := Tryz.func127.trans (congrArg some (by kernel_rfl))
  f20 := Tryz.func128.trans (congrArg some (by kernel_rfl))
  f21 := ⟨Tryz.f169.name, by decide, Tryz.func169.trans (congrArg some (by kernel_rfl))⟩
  f22 := ⟨Tryz.f170.name, by decide, Tryz.func170.trans (congrArg some (by kernel_rfl))⟩
  f23 := ⟨Tryz.f171.name, by decide, Tryz.func171.trans (congrArg some (by kernel_rfl))⟩
  f24 := ⟨Tryz.f172.name, by decide, Tryz.func172.trans (congrArg some (by kernel_rfl))⟩
  f25 := ⟨Tryz.f173.name, by decide, Tryz.func173.trans (congrArg some (by kernel_rfl))⟩
  f26 := ⟨Tryz.f174.name, by decide, Tryz.func174.trans (congrArg some (by kernel_rfl))⟩
  f27 := ⟨Tryz.f175.name, by decide, Tryz.func175.trans (congrArg some (by kernel_rfl))⟩
  f28 := ⟨Tryz.f176.name, by decide, Tryz.func176.trans (congrArg some (by kernel_rfl))⟩
  f29 := ⟨Tryz.f177.name, by decide, Tryz.func177.trans (congrArg some (by kernel_rfl))⟩
  f31 := Tryz.func150.trans (congrArg some (by kernel_rfl))
  f32 := Tryz.func151.trans (congrArg some (by kernel_rfl))
  f36 := ⟨Tryz.f195.name, by decide, Tryz.func195.trans (congrArg some (by kernel_rfl))⟩
  f37 := ⟨Tryz.f196.name, by decide, Tryz.func196.trans (congrArg some (by kernel_rfl))⟩
  f38 := ⟨Tryz.f197.name, by decide, Tryz.func197.trans (congrArg some (by kernel_rfl))⟩
  f39 := ⟨Tryz.f115.name, by decide, Tryz.func115.trans (congrArg some (by kernel_rfl))⟩
  f41 := ⟨Tryz.f209.name, by decide, Tryz.func209.trans (congrArg some (by kernel_rfl))⟩
  t0 := Tryz.underlying0
  a0 := Tryz.isAgg0
  z0 := Tryz.sizeOf0
  v0 := Tryz.zeroValue0
  t3 := Tryz.underlying3
  a3 := Tryz.isAgg3
  z3 := Tryz.sizeOf3
  v3 := Tryz.zeroValue3
  t4 := Tryz.underlying4
  a4 := Tryz.isAgg4
  z4 := Tryz.sizeOf4
  v4 := Tryz.zeroValue4
  t5 := Tryz.underlying5
  a5 := Tryz.isAgg5
  z5 := Tryz.sizeOf5
  v5 := Tryz.zeroValue5
  t9 := Tryz.underlying9
  a9 := Tryz.isAgg9
  z9 := Tryz.sizeOf9
  v9 := Tryz.zeroValue9
  t26 := Tryz.underlying43
  a26 := Tryz.isAgg43
  z26 := Tryz.sizeOf43
  v26 := Tryz.zeroValue43
  t27 := Tryz.underlying43
  a27 := Tryz.isAgg43
  z27 := Tryz.sizeOf43
  v27 := Tryz.zeroValue43
  t29 := Tryz.underlying9
  a29 := Tryz.isAgg9
  z29 := Tryz.sizeOf9
  v29 := Tryz.zeroValue9
  t32 := Tryz.underlying158
  a32 := Tryz.isAgg158
  z32 := Tryz.sizeOf158
  v32 := Tryz.zeroValue158
  t35 := Tryz.underlying178
  a35 := Tryz.isAgg178
  z35 := Tryz.sizeOf178
  v35 := Tryz.zeroValue178
  t36 := Tryz.underlying179
  a36 := Tryz.isAgg179
  z36 := Tryz.sizeOf179
  v36 := Tryz.zeroValue179
  t41 := Tryz.underlying38
  a41 := Tryz.isAgg38
  z41 := Tryz.sizeOf38
  v41 := Tryz.zeroValue38
  t44 := Tryz.underlying185
  a44 := Tryz.isAgg185
  z44 := Tryz.sizeOf185
  v44 := Tryz.zeroValue185
  t46 := Tryz.underlying187
  a46 := Tryz.isAgg187
  z46 := Tryz.sizeOf187
  v46 := Tryz.zeroValue187
  t53 := Tryz.underlying204
  a53 := Tryz.isAgg204
  z53 := Tryz.sizeOf204
  v53 := Tryz.zeroValue204
  t57 := Tryz.underlying208
  a57 := Tryz.isAgg208
  z57 := Tryz.sizeOf208
  v57 := Tryz.zeroValue208
  t63 := Tryz.underlying220
  a63 := Tryz.isAgg220
  z63 := Tryz.sizeOf220
  v63 := Tryz.zeroValue220
  t64 := Tryz.underlying221
  a64 := Tryz.isAgg221
  z64 := Tryz.sizeOf221
  v64 := Tryz.zeroValue221 }

theorem Tryz.sorts118 (m : Nat) : AnyZ.SortsIn Tryz.prog Tryz.sorted118_ren Fence.wide m :=
  ⟨fun blk off cap ss W hH hblk hsz => callsIn_wide.2 (AnyM.slices_Sort_string Tryz.sort140 blk off cap ss W hH hblk hsz),
   fun p cap W => callsIn_wide.2 (AnyM.slices_Sort_string_none Tryz.sort140 p cap W)⟩

theorem Tryz.maps_Keys_119 (mb : Option Nat) (W : World) : CallsIn Fence.wide 5 Tryz.prog 98 #[.map mb] W fun e w' => e = .returned (.func (.func 131) #[] #[.pointer (some ⟨W.heap.size, 0, none⟩)]) ∧ w' = W.alloc (.cells #[.map mb] 77) :=
  AnyZ.keys_in Tryz.keys119 Fence.wide 5 trivial rfl mb W

set_option maxHeartbeats 1000000 in
theorem Tryz.slices_Sorted_keys_118_119 {H : Type} (b nn : Nat) (D0 : DataW H) (R : Value → Option (DataW H × List MemPlace)) (w : World) (hown : w.ownsMap Tryz.prog 9 R b nn D0) (hmax : Maps.size D0 ≤ maxLen) (hbytes : Maps.size D0 * 16 ≤ 140737488355328) :
    CallsIn Fence.wide 5 Tryz.prog 97 #[.func (.func 131) #[] #[.pointer (some ⟨w.heap.size, 0, none⟩)]] (w.alloc (.cells #[.map (some b)] 77)) fun e w' => ∃ (v : Value) (ss : List (List UInt8)), e = .returned v ∧ ss.Perm (strKeys D0) ∧
      w'.ownsRow (w.alloc (.cells #[.map (some b)] 77)).heap.size 9 1 v ss.length ((ss.mergeSort (fun x y => decide (x ≤ y))).map encStr) ∧ (v = .slice none 0 0 ↔ ss = []) ∧ Below (w.alloc (.cells #[.map (some b)] 77)).heap.size (w.alloc (.cells #[.map (some b)] 77)) w' := by
  have hbl := hown.lt
  have hseq : SeqGives Fence.wide 2 Tryz.prog 131 #[.pointer (some ⟨w.heap.size, 0, none⟩)] encStr (fun ss => ss.Perm (strKeys D0)) (Maps.size D0) (w.alloc (.cells #[.map (some b)] 77)) :=
    AnyZ.keys_gives (ρ := Tryz.keys119_ren) { Tryz.keys119 with } Fence.wide _ trivial rfl (by omega) w.heap.size b nn D0 _ (by simp) (by simp) (by
      obtain ⟨es, clock, hb, Ft, hs, hD⟩ := hown
      exact ⟨es, clock, (Below.heap_alloc _ _ b hbl).trans hb, Ft, hs, hD⟩)
  exact AnyZ.sorted_in Tryz.sorted118 Fence.wide 5 trivial trivial trivial trivial rfl (by omega) (Tryz.sorts118 _) (enters_of Tryz.func130 (by kernel_rfl) rfl) 131 #[.pointer (some ⟨w.heap.size, 0, none⟩)] trivial (enters_of Tryz.func131 (by kernel_rfl) rfl) _ _ hmax hbytes _ hseq
end Go.Proofs

namespace Go.Proofs.YtjofjcjojgpaeaaGreatDoor
open Go.RowKit Go.Maps Go.Sort Go.Shelf
attribute [local go_sem] Oper.semAt_some

theorem inside_any (p : Option Addr) (w : World) : Calls Tryz.prog 72 #[.pointer p] w fun ev w' => ev = .returned (.func (.func 96) #[] #[.pointer (some ⟨w.heap.size, 0, none⟩)]) ∧ w' = w.alloc (.cells #[.pointer p] 64) := by
  go_enter Tryz.func72, Tryz.ntmps72
  go_wp2
  go_ret
  exact ⟨rfl, rfl⟩
/-- What the iterator reads. -/
structure It (W : World) (Bb Bx g : Nat) (x : Nd) (ns : List Nd) (cur : Array Value) : Prop where
  box : W.heap[Bx]? = some (.cells #[.pointer (some ⟨x.nb, 0, none⟩)] 64 (0, 0))
  node : W.heap[x.nb]? = some (.cells x.cells 79 (0, 0))
  map : KM W x.mb ns.length (kidsN ns x.p)
  row : W.heap[g]? = some (.cells cur 9 (0, 0))
  a1 : Away Bb W Bx
  a2 : Away Bb W x.nb
  a3 : Away Bb W x.mb
  a4 : Away Bb W g
theorem It.kc {W W' : World} {Bx g Bb : Nat} {x : Nd} {ns : List Nd} {cur : Array Value} (h : It W Bb Bx g x ns cur) (hk : Kc Bb W W') : It W' Bb Bx g x ns cur := by
  refine ⟨hk.at h.a1 h.box (.inl rfl), hk.at h.a2 h.node (.inl rfl), ?_, hk.at h.a4 h.row (.inl rfl), hk.away h.a1, hk.away h.a2, hk.away h.a3, hk.away h.a4⟩
  obtain ⟨es, clock, hb, F, hs, hD⟩ := h.map
  exact ⟨es, clock, hk.at h.a3 hb (.inr rfl), F, hs, hD⟩
def nm (y : Nd) : ByteArray := ⟨(nameOf y.p).toArray⟩
abbrev Kid (ns : List Nd) (p : List UInt8) := { y : Nd // y ∈ kidsX ns p }
def encK {ns : List Nd} {p : List UInt8} (y : Kid ns p) : Array Value := #[.string (nm y.1), .pointer (some ⟨y.1.nb, 0, none⟩)]
theorem row_cells {W : World} {B : Nat} {v : Value} {ss : List (List UInt8)} {n : Nat} (h : W.ownsRow B 9 1 v n (ss.map encStr)) (hn : n = ss.length) : (ss = [] ∧ n = 0 ∧ ∃ ao cap, v = .slice ao 0 cap) ∨ ∃ (g cap : Nat) (cur : Array Value), v = .slice (some ⟨g, 0, none⟩) n cap ∧ B ≤ g ∧ W.heap[g]? = some (.cells cur 9 (0, 0)) ∧ ∀ (k : Nat) (s : List UInt8), ss[k]? = some s → cur[k]? = some (.string ⟨s.toArray⟩) := by
  subst hn
  obtain ⟨hl, ⟨hv, h0⟩ | ⟨g, cap, cur, hv, hB, hg, h1, h2, h3, h4⟩⟩ := h
  · exact .inl ⟨List.length_eq_zero_iff.1 h0, h0, _, _, by rw [hv]⟩
  · refine .inr ⟨g, cap, cur, hv, hB, hg, fun k s hs => ?_⟩
    have hk := (List.getElem?_eq_some_iff.1 hs).1
    have h5 : (ss.map encStr)[k]? = some (encStr s) := by rw [List.getElem?_map, hs]; rfl
    rw [← h4, List.getElem?_take, if_pos (by simpa using hk), Array.getElem?_toList] at h5
    exact h5
theorem row_slice {W : World} {B : Nat} {v : Value} {xs : List Value} {n : Nat} (h : W.ownsRow B 9 1 v n xs) : ∃ N ao cap, Hid (N = n) ∧ v = .slice ao N cap := by
  obtain ⟨hl, ⟨hv, h0⟩ | ⟨g, cap, cur, hv, _⟩⟩ := h
  · exact ⟨_, _, _, hide h0.symm, hv⟩
  · exact ⟨_, _, _, hide rfl, hv⟩
theorem It.cells {W : World} {Bb Bx g : Nat} {x : Nd} {ns : List Nd} {cur : Array Value} (h : It W Bb Bx g x ns cur) : W.cell? ⟨Bx, 0, none⟩ = some (.pointer (some ⟨x.nb, 0, none⟩)) ∧ W.cell? ⟨x.nb, 4, none⟩ = some (.map (some x.mb)) ∧ ∀ k, W.cell? ⟨g, k, none⟩ = cur[k]? :=
  ⟨cell_of_row _ _ 0 _ _ _ h.box, cell_of_row _ _ 4 _ _ _ h.node, fun k => cell_of_row _ _ k _ _ _ h.row⟩
set_option maxRecDepth 100000 in
set_option maxHeartbeats 2000000 in
theorem inside_loop (n : Nat) (hn : 1 ≤ n) (Bx Bb B l : Nat) (r x : Nd) (ns : List Nd) (w : World) (hx : x ∈ r :: ns) (hM : Mem w B r ns) (HO : Hid (OkTo (entsN ns) ns.length)) (HS : Hid (∀ y ∈ ns, y.ent.path.size ≤ 1048576)) (hN : ns.length ≤ 1000)
    (hbx : w.heap[Bx]? = some (.cells #[.pointer (some ⟨x.nb, 0, none⟩)] 64 (0, 0))) (h1 : Away Bb w Bx) (h2 : Away Bb w x.nb) (h3 : Away Bb w x.mb) (h4 : RowIn Bb w) (J Jx : List (Kid ns x.p) → World → Prop) (hJ : ∀ W', Below w.heap.size w W' → J [] W')
    (hY : ∀ pre y W1, J pre W1 → pre ++ [y] <+: (kidsX ns x.p).attach → YieldAt Fence.wide (n - 1) Tryz.prog l (encK y) W1 fun e W' =>
      (e = .returned (.bool true) ∧ J (pre ++ [y]) W' ∧ Kc Bb W1 W') ∨ (e = .returned (.bool false) ∧ Jx (pre ++ [y]) W')) :
    CallsIn Fence.wide n Tryz.prog 96 #[.func (.yield l) #[] #[], .pointer (some ⟨Bx, 0, none⟩)] w fun e W' => (∃ v, e = .returned v) ∧ ((∃ ys, ys = (kidsX ns x.p).attach ∧ J ys W') ∨ (∃ pre, True ∧ Jx pre W')) := by
  obtain ⟨g1, g2, g3, g4⟩ := hM.all x hx
  have c1 : w.cell? ⟨Bx, 0, none⟩ = some (.pointer (some ⟨x.nb, 0, none⟩)) := cell_of_row _ _ 0 _ _ _ hbx
  have c2 : w.cell? ⟨x.nb, 4, none⟩ = some (.map (some x.mb)) := cell_of_row _ _ 4 _ _ _ g3
  have hmax : Maps.size (DK (kidsN ns x.p)) ≤ 1000 := by
    rw [km_size, kidsN_eq, List.length_map]
    exact Nat.le_trans (List.length_filter_le _ _) hN
  have hfK : Fence.wide.fn 98 := trivial
  have hfS : Fence.wide.fn 97 := trivial
  refine callsIn_of_wp Tryz.func96 rfl trivial ?_ rfl
  simp only [Tryz.ntmps96, List.size_toArray, List.length_cons, List.length_nil, Nat.reduceAdd, Nat.reduceSub, Array.replicate_succ, Array.replicate_zero, List.push_toArray, List.append_toArray, List.nil_append, List.cons_append]
  gi_wp2_with (first
    | (gi_at_call 98; refine (callsIn_wide.2 (callsIn_wide.1 (Tryz.maps_Keys_119 _ _))).mono ?_; rintro e w' ⟨rfl, rfl⟩)
    | (gi_at_call 97; refine (callsIn_wide.2 (callsIn_wide.1 (Tryz.slices_Sorted_keys_118_119 x.mb ns.length _ RK w g4 (by unfold maxLen; omega) (by omega)))).mono ?_; rintro e w' ⟨v, ss, rfl, hS, hrow, hnil, hb⟩; obtain ⟨N, ao, cap, HN, rfl⟩ := row_slice hrow))
  have hlen : N = (kidsX ns x.p).length := by rw [unhide HN, hS.length_eq, keys_eq, kidsN_eq]; simp
  rw [kids_sorted (unhide HO) hS, ← unhide HN] at hrow
  have hbw : Below w.heap.size w w' := (((Below.refl _ w).alloc (Nat.le_refl _) _)).trans (hb.mono (by simp))
  have hJ1 : J [] w' := hJ w' hbw
  have hk1 := hbw.block
  clear HN
  have HN := hide hlen
  clear hS hnil hb hlen c1 c2
  have hN2 : N ≤ 1000 := by rw [unhide HN]; exact Nat.le_trans (List.length_filter_le _ _) hN
  rcases row_cells hrow (by rw [List.length_map]; exact unhide HN) with ⟨he, rfl, ao', cap', hv⟩ | ⟨g, cap', cur, hv, hgB, hgc, hcells⟩
  all_goals cases hv
  · have hempty : (kidsX ns x.p).attach = [] := by rw [List.attach_eq_nil_iff]; simpa using he
    gi_wp2
    gi_loopw [12] (fun i wr => i = .int .i64 0 ∧ J [] wr) (fun _ _ => 0)
    case atStart => exact ⟨rfl, hJ1⟩
    case round =>
      obtain ⟨rfl, hJr⟩ := hrel
      gi_wp2
      go_end0
      exact ⟨⟨_, rfl⟩, .inl ⟨[], hempty.symm, hJr⟩⟩
  · have hKb := Kc.below hbw h4.1
    have hIt : It w' Bb Bx g x ns cur := ⟨(hk1 _ (Array.getElem?_eq_some_iff.1 hbx).1).trans hbx, (hk1 _ (Array.getElem?_eq_some_iff.1 g3).1).trans g3, g4.below hbw, hgc, hKb.away h1, hKb.away h2, hKb.away h3, away_new h4 hbw (by simp at hgB; omega) (Array.getElem?_eq_some_iff.1 hgc).1⟩
    have HIt := hide hIt
    clear hrow hgc hIt hk1 g3 g4 hbx hM
    gi_wp2
    gi_loopw [12] (fun i wr => ∃ k : Nat, k ≤ N ∧ i = .int .i64 (k : Int) ∧ Hid (It wr Bb Bx g x ns cur) ∧ J ((kidsX ns x.p).attach.take k) wr) (fun i _ => N - (intOf i).toNat)
    case atStart => exact ⟨0, Nat.zero_le _, rfl, HIt, by simpa using hJ1⟩
    case round =>
      obtain ⟨k, hk, rfl, HI, hJs⟩ := hrel
      have hI := unhide HI
      by_cases hlt : k < N
      · have hkx : k < (kidsX ns x.p).length := by rw [← unhide HN]; exact hlt
        have hka : k < (kidsX ns x.p).attach.length := by rw [List.length_attach]; exact hkx
        obtain ⟨y, hy⟩ : ∃ y, y = (kidsX ns x.p).attach[k] := ⟨_, rfl⟩
        have hyk : (kidsX ns x.p)[k]? = some y.1 := by rw [hy]; simp
        have HT : Hid ((kidsX ns x.p).attach.take (k + 1) = (kidsX ns x.p).attach.take k ++ [y]) := hide (by rw [List.take_add_one, List.getElem?_eq_getElem hka, hy]; rfl)
        have hlen : (kidsX ns x.p).attach.take k ++ [y] <+: (kidsX ns x.p).attach := by rw [← unhide HT]; exact List.take_prefix _ _
        obtain ⟨fn, tmps, assign, body, hyr, hR⟩ := hY _ y wr hJs hlen
        have cc := hcells k (nameOf y.1.p) (by rw [List.getElem?_map, hyk]; rfl)
        have d1 := hI.cells.1
        have d2 := hI.cells.2.1
        have d3 : wr.cell? ⟨g, k, none⟩ = some (.string (nm y.1)) := (hI.cells.2.2 k).trans cc
        have hnz : (nm y.1).size ≤ 1073741824 := by
          have e1 := name_le y.1.p
          have e2 := unhide HS y.1 (kidsX_mem y.2).1
          have e3 : y.1.p.length = y.1.ent.path.size := Array.length_toList
          have e4 : (nm y.1).size = (nameOf y.1.p).length := rfl
          omega
        have hlook := KM.at hI.map (unhide HO) y.2 (nm y.1) hnz rfl
        have i0 : (0 : Int) ≤ (k : Int) := by omega
        have i1 : (k : Int) < (N : Int) := by omega
        have i2 : IntKind.i64.wrap ((k : Int) + 1) = ((k + 1 : Nat) : Int) := by rw [IntKind.wrap_i64] <;> omega
        unfold encK at hyr
        clear hy hcells hY cc hkx hka hlen hI hyk
        gi_wp2
        refine hR.mono ?_
        rintro e W3 (⟨rfl, hJ3, hk3⟩ | ⟨rfl, hJx3⟩)
        · gi_wp2
          go_roundw
          case rel => exact ⟨k + 1, by omega, rfl, hide ((unhide HI).kc hk3), by rw [unhide HT]; exact hJ3⟩
          case measure => simp [intOf]; omega
        · gi_wp2
          refine bodyPost_ret (results_none rfl _ _ _) rfl ?_
          exact ⟨⟨_, rfl⟩, .inr ⟨_, trivial, hJx3⟩⟩
      · have hkN : k = N := by omega
        have i1 : ¬ (k : Int) < (N : Int) := by omega
        have HE : Hid ((kidsX ns x.p).attach.take k = (kidsX ns x.p).attach) := hide (List.take_of_length_le (by rw [List.length_attach, ← unhide HN]; omega))
        have HKN := hide hkN
        clear hkN
        gi_wp2
        go_end0
        exact ⟨⟨_, rfl⟩, .inl (by rw [unhide HE] at hJs; first | exact hJs | exact ⟨_, rfl, hJs⟩)⟩
theorem inside_stops (n : Nat) (hn : 1 ≤ n) (Bx Bb B : Nat) (r x : Nd) (ns : List Nd) (w : World) (hx : x ∈ r :: ns) (hM : Mem w B r ns) (HO : Hid (OkTo (entsN ns) ns.length)) (HS : Hid (∀ y ∈ ns, y.ent.path.size ≤ 1048576)) (hN : ns.length ≤ 1000)
    (hbx : w.heap[Bx]? = some (.cells #[.pointer (some ⟨x.nb, 0, none⟩)] 64 (0, 0))) (h1 : Away Bb w Bx) (h2 : Away Bb w x.nb) (h3 : Away Bb w x.mb) (h4 : RowIn Bb w) :
    SeqStopsK Fence.wide n Tryz.prog 96 #[.pointer (some ⟨Bx, 0, none⟩)] (encK (ns := ns) (p := x.p)) (Kc Bb) (fun ys => ys = (kidsX ns x.p).attach) (fun _ => True) (kidsX ns x.p).length w := by
  intro l J Jx W hW hJ hJx hY h0
  have hK := Kc.below hW h4.1
  exact inside_loop n hn Bx Bb B l r x ns W hx (hM.below hW) HO HS hN ((hW.block _ (Array.getElem?_eq_some_iff.1 hbx).1).trans hbx) (hK.away h1) (hK.away h2) (hK.away h3) (hK.rowIn h4) J Jx
    (fun W' hb => hJ [] W W' none h0 ⟨hb.os, hb.tape, hb.output, hb.size, fun k hk _ => hb.block k hk⟩ (fun r e => by cases e))
    (fun pre y W1 hj hp => hY pre y W1 hj (by have := hp.length_le; rw [List.length_append, List.length_attach] at this; simp at this; omega))
/-- The same for a loop that is never left. -/
theorem inside_all (n : Nat) (hn : 1 ≤ n) (Bx Bb B : Nat) (r x : Nd) (ns : List Nd) (w : World) (hx : x ∈ r :: ns) (hM : Mem w B r ns) (HO : Hid (OkTo (entsN ns) ns.length)) (HS : Hid (∀ y ∈ ns, y.ent.path.size ≤ 1048576)) (hN : ns.length ≤ 1000)
    (hbx : w.heap[Bx]? = some (.cells #[.pointer (some ⟨x.nb, 0, none⟩)] 64 (0, 0))) (h1 : Away Bb w Bx) (h2 : Away Bb w x.nb) (h3 : Away Bb w x.mb) (h4 : RowIn Bb w) :
    SeqAll Bb Fence.wide n Tryz.prog 96 #[.pointer (some ⟨Bx, 0, none⟩)] (encK (ns := ns) (p := x.p)) (kidsX ns x.p).attach w := by
  intro l J W hW hJ hY h0
  have hK := Kc.below hW h4.1
  refine (inside_loop n hn Bx Bb B l r x ns W hx (hM.below hW) HO HS hN ((hW.block _ (Array.getElem?_eq_some_iff.1 hbx).1).trans hbx) (hK.away h1) (hK.away h2) (hK.away h3) (hK.rowIn h4) J (fun _ _ => False)
    (fun W' hb => hJ.go [] W W' h0 (Kept.below hb)) (fun pre y W1 hj hp => ?_)).mono ?_
  · obtain ⟨fn, tmps, assign, body, hy, hR⟩ := hY pre y W1 hj hp
    exact ⟨fn, tmps, assign, body, hy, hR.mono fun e W' h => .inl ⟨h.1, h.2.1, h.2.2.2⟩⟩
  · rintro e W' ⟨hv, ⟨ys, rfl, hj⟩ | ⟨pre, _, hf⟩⟩
    · exact ⟨hv, hj⟩
    · exact hf.elim
end Go.Proofs.YtjofjcjojgpaeaaGreatDoor
