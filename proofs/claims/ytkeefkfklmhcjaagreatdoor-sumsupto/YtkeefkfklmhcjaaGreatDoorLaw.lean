import Derived.RangeFuncNested
import Derived.RangeFuncBound
import Derived.RangeFuncCalls
import Derived.RangeFuncLeaves
import Derived.Shelf.Abstract
import Derived.Shelf.RegionOpen
import Derived.WalkKit
import Derived.OwnWalkIn
import Derived.TacticsInMore
import Derived.LoopNIn
import Derived.LoopIn
namespace Go.Proofs.YtkeefkfklmhcjaaGreatDoor
open Go.RowKit

theorem yield_deep {m m' : Nat} {P : Program} {l : Nat} {args : Array Value} {W : World} {R : Ending → World → Prop} (h : YieldAt Fence.wide m P l args W R) : YieldAt Fence.wide m' P l args W R := by
  obtain ⟨fn, tmps, assign, body, hy, hF, hR⟩ := h
  exact ⟨fn, tmps, assign, body, hy, hF, fun c cs _ => hR c cs (room_wide _)⟩
/-- The block of the row that a box's slice lies in. -/
def rowAt (W : World) (Bb k : Nat) : Prop := ∃ o s n cap, W.cell? ⟨Bb, 0, none⟩ = some (.slice (some ⟨k, o, s⟩) n cap)
/-- What a round keeps: all but a box, and the row of its slice. -/
structure Kc (Bb : Nat) (W W' : World) : Prop where
  size : W.heap.size ≤ W'.heap.size
  keep : ∀ k o, W.heap[k]? = some o → (o.isCells = true ∨ o.isWalk = true) → k ≠ Bb → ¬ rowAt W Bb k → W'.heap[k]? = some o
  row : ∀ k, rowAt W' Bb k → rowAt W Bb k ∨ (W.heap.size ≤ k ∧ k < W'.heap.size)
theorem Kc.refl (Bb : Nat) (W : World) : Kc Bb W W := ⟨Nat.le_refl _, fun _ _ h _ _ _ => h, fun _ h => .inl h⟩
theorem Kc.trans {Bb : Nat} {A B C : World} (h : Kc Bb A B) (k : Kc Bb B C) : Kc Bb A C := by
  refine ⟨Nat.le_trans h.size k.size, fun i o h1 h2 h3 h4 => k.keep i o (h.keep i o h1 h2 h3 h4) h2 h3 fun hr => ?_, fun i hi => ?_⟩
  · have hi := (Array.getElem?_eq_some_iff.1 h1).1
    rcases h.row i hr with h5 | h5
    · exact h4 h5
    · omega
  · rcases k.row i hi with h1 | h1
    · rcases h.row i h1 with h2 | h2
      · exact .inl h2
      · exact .inr ⟨h2.1, Nat.lt_of_lt_of_le h2.2 k.size⟩
    · exact .inr ⟨Nat.le_trans h.size h1.1, h1.2⟩
theorem cell_put {W : World} {l : Nat} (o' : Obj) {a : Addr} (h : a.block ≠ l) : (W.putObj l o').cell? a = W.cell? a := by
  unfold World.cell?
  rw [World.putObj_heap_other h]
theorem cell_block {W W' : World} {a : Addr} (h : W'.heap[a.block]? = W.heap[a.block]?) : W'.cell? a = W.cell? a := by
  unfold World.cell?
  rw [h]
theorem Kc.put {Bb : Nat} (W : World) (l : Nat) (o o' : Obj) (hl : Bb < l) (h : W.heap[l]? = some o) (h1 : o.isCells = false) (h2 : o.isWalk = false) : Kc Bb W (W.putObj l o') := by
  refine ⟨by simp, fun k x hk hx _ _ => ?_, fun k hk => .inl ?_⟩
  · have e : k ≠ l := by
      rintro rfl
      rw [h] at hk
      cases hk
      rw [h1, h2] at hx
      rcases hx with hx | hx <;> cases hx
    rw [World.putObj_heap_other e]; exact hk
  · obtain ⟨a, s, n, c, e⟩ := hk
    rw [cell_put o' (by show Bb ≠ l; omega)] at e
    exact ⟨a, s, n, c, e⟩
/-- All that was there lies as it lay. -/
theorem Kc.below {Bb : Nat} {W W' : World} (hb : Below W.heap.size W W') (h : Bb < W.heap.size) : Kc Bb W W' := by
  refine ⟨hb.size, fun k o hk _ _ _ => (hb.block k (Array.getElem?_eq_some_iff.1 hk).1).trans hk, fun k hk => .inl ?_⟩
  obtain ⟨a, s, n, c, e⟩ := hk
  rw [cell_block (W := W) (hb.block Bb h)] at e
  exact ⟨a, s, n, c, e⟩
theorem keeps_below {W W' : World} (hb : Below W.heap.size W W') : KeepsOthers W W' := ⟨hb.size, fun k _ hk _ => (hb.block k (Array.getElem?_eq_some_iff.1 hk).1).trans hk⟩
/-- A block that no round turns. -/
def Away (Bb : Nat) (W : World) (k : Nat) : Prop := k < W.heap.size ∧ k ≠ Bb ∧ ¬ rowAt W Bb k
theorem Kc.away {Bb : Nat} {W W' : World} {k : Nat} (h : Kc Bb W W') (ha : Away Bb W k) : Away Bb W' k :=
  ⟨Nat.lt_of_lt_of_le ha.1 h.size, ha.2.1, fun hr => by
    rcases h.row k hr with h1 | h1
    · exact ha.2.2 h1
    · have := ha.1; omega⟩
theorem Kc.at {Bb : Nat} {W W' : World} {k : Nat} {o : Obj} (h : Kc Bb W W') (ha : Away Bb W k) (hk : W.heap[k]? = some o) (ho : o.isCells = true ∨ o.isWalk = true) : W'.heap[k]? = some o := h.keep k o hk ho ha.2.1 ha.2.2
/-- The box's slice lies in a block that is there. -/
def RowIn (Bb : Nat) (W : World) : Prop := Bb < W.heap.size ∧ ∀ k, rowAt W Bb k → k < W.heap.size
theorem Kc.rowIn {Bb : Nat} {W W' : World} (h : Kc Bb W W') (hr : RowIn Bb W) : RowIn Bb W' :=
  ⟨Nat.lt_of_lt_of_le hr.1 h.size, fun k hk => by
    rcases h.row k hk with h1 | h1
    · exact Nat.lt_of_lt_of_le (hr.2 k h1) h.size
    · exact h1.2⟩
/-- What is new is no box, and no row of its. -/
theorem away_new {Bb : Nat} {W W' : World} {g : Nat} (hr : RowIn Bb W) (hb : Below W.heap.size W W') (hg : W.heap.size ≤ g) (hg2 : g < W'.heap.size) : Away Bb W' g :=
  ⟨hg2, by have := hr.1; omega, fun hk => by
    obtain ⟨a, s, n, c, e⟩ := hk
    rw [cell_block (W := W) (hb.block Bb hr.1)] at e
    have := hr.2 g ⟨a, s, n, c, e⟩
    omega⟩
/-- What a loop holds hangs on the blocks below a number, on its box, and on the row of the box's slice. -/
structure Kept (Bb B0 : Nat) (W W' : World) : Prop where
  os : W'.os = W.os
  tape : W'.tape = W.tape
  output : W'.output = W.output
  size : W.heap.size ≤ W'.heap.size
  block : ∀ k, k < W.heap.size → (k < B0 ∨ k = Bb ∨ rowAt W Bb k) → W'.heap[k]? = W.heap[k]?
theorem Kept.below {Bb B0 : Nat} {W W' : World} (h : Below W.heap.size W W') : Kept Bb B0 W W' := ⟨h.os, h.tape, h.output, h.size, fun k hk _ => h.block k hk⟩
theorem Kept.mono {Bb B0 B1 : Nat} {W W' : World} (h : Kept Bb B1 W W') (hb : B0 ≤ B1) : Kept Bb B0 W W' := ⟨h.os, h.tape, h.output, h.size, fun k hk hc => h.block k hk (by
  rcases hc with hc | hc
  · exact .inl (by omega)
  · exact .inr hc)⟩
theorem Kept.put {Bb B0 l : Nat} {W : World} (o' : Obj) (h1 : B0 ≤ l) (h2 : l ≠ Bb) (h3 : ¬ rowAt W Bb l) : Kept Bb B0 W (W.putObj l o') :=
  ⟨rfl, rfl, rfl, by simp, fun k _ hc => World.putObj_heap_other (fun e => by
    subst e
    rcases hc with hc | hc | hc
    · omega
    · exact h2 hc
    · exact h3 hc)⟩
theorem Kept.set {Bb B0 : Nat} {W : World} {p : Addr} (v : Value) (h1 : B0 ≤ p.block) (h2 : p.block ≠ Bb) (h3 : ¬ rowAt W Bb p.block) : Kept Bb B0 W (W.setCell p v) :=
  ⟨rfl, rfl, rfl, (KeepsWalks.setCell W p v).size, fun k _ hc => Below.heap_setCell _ _ _ k (fun e => by
    subst e
    rcases hc with hc | hc | hc
    · omega
    · exact h2 hc
    · exact h3 hc)⟩
/-- The row of the box's slice is cells. -/
def RowC (Bb : Nat) (W : World) : Prop := ∀ k, rowAt W Bb k → ∃ o : Obj, W.heap[k]? = some o ∧ o.isCells = true
/-- What abides all that leaves it what it hangs on. -/
structure Stay {β : Type} (Bb B0 : Nat) (J : β → World → Prop) : Prop where
  go : ∀ s W W', J s W → Kept Bb B0 W W' → J s W'
  row : ∀ s W, J s W → RowC Bb W
theorem Stay.mono {β : Type} {Bb B0 B1 : Nat} {J : β → World → Prop} (h : Stay Bb B0 J) (hb : B0 ≤ B1) : Stay Bb B1 J := ⟨fun s W W' hs hk => h.go s W W' hs (hk.mono hb), h.row⟩
/-- An iterator that hands over all that it has, to a loop that is never left: it may run loops of its own. -/
def SeqAll {α : Type} (Bb : Nat) (F : Fence) (n : Nat) (P : Program) (g : Nat) (lb : Array Value) (encs : α → Array Value) (xs : List α) (w : World) : Prop :=
  ∀ (l : Nat) (J : List α → World → Prop) (W : World), Below w.heap.size w W → Stay Bb W.heap.size J →
    (∀ pre x W1, J pre W1 → pre ++ [x] <+: xs → YieldAt F (n - 1) P l (encs x) W1 fun e W' => e = .returned (.bool true) ∧ J (pre ++ [x]) W' ∧ KeepsOthers W1 W' ∧ Kc Bb W1 W') →
    J [] W → CallsIn F n P g (#[.func (.yield l) #[] #[]] ++ lb) W fun e W' => (∃ v, e = .returned v) ∧ J xs W'
/-- A range over such an iterator: one walk of the body. -/
theorem range_all {F : Fence} {n : Nat} {P : Program} {α : Type} {g : Operand} {ps : Array Tmp} {assign body : Code} {Q : Exit → Act → World → Prop} {a : Act} {w : World} {Bb : Nat}
    (hro : F.round = none) (h1 : 1 ≤ n) {gf : Nat} {lb : Array Value} (hg : a.eval g = .func (.func gf) #[] lb) (hFg : F.fn gf) (eg : ∀ args w, (callFunc gf args).run P w = .ok (.enter gf args) w)
    {encs : α → Array Value} {xs : List α} {w0 : World} (hseq : SeqAll Bb F (n - 1) P gf lb encs xs w0) (hBb : Bb < w.heap.size) (hb0 : Below w0.heap.size w0 w) (hps : ∀ x, (encs x).size = ps.size)
    (I : List α → World → Prop) (hI : Stay Bb w.heap.size I) (h0 : I [] w) (f : Array Value → α → Array Value)
    (hassign : ∀ (l : Nat) (x : α) (W : World) (K : Act → World → Prop), K { tmps := f a.tmps x, defers := [] } W →
      assign.wpIn (F.inRound l) (n - 1 - 1) P (Exit.then K (fun _ _ _ => False)) { tmps := (ps.zip (encs x)).foldl (fun t (p, v) => t.setIfInBounds p v) a.tmps, defers := [] } W)
    (hbody : ∀ (l : Nat) (pre : List α) (x : α) (W : World), I pre W → pre ++ [x] <+: xs → body.wpIn (F.inRound l) (n - 1 - 1) P (ownPostK (Kc Bb) I (fun _ _ _ => False) (pre ++ [x]) W) { tmps := f a.tmps x, defers := [] } W)
    (hdone : ∀ (D : Nat) (W : World), w.heap.size ≤ D → I xs W → W.heap[D]? = some (.deferred (some [])) → Q .normal { a with defers := { target := .collected D, args := #[] } :: a.defers } W) :
    (Code.rangeFunc g ps assign body).wpIn F n P Q a w := by
  refine wpIn_rangeFunc fun fn hfn => ?_
  rw [hro]
  obtain ⟨D, hD⟩ : ∃ D, w.heap.size = D := ⟨_, rfl⟩
  obtain ⟨R, hR⟩ : ∃ R : LoopState → Loop, ∀ st, R st = { state := st, pending := none, fn, tmps := a.tmps, params := ps, assign, body, defers := D } := ⟨_, fun _ => rfl⟩
  obtain ⟨V, hV⟩ : ∃ V, V = (w.alloc (.deferred (some []))).alloc (.loop (R .ready)) := ⟨_, rfl⟩
  have sV : V.heap.size = D + 2 := by rw [hV]; simp [hD]
  have vL : V.heap[D + 1]? = some (.loop (R .ready)) := by
    have := World.alloc_heap_new (w.alloc (.deferred (some []))) (.loop (R .ready))
    rw [World.size_alloc, hD] at this
    rw [hV]; exact this
  have vD : V.heap[D]? = some (.deferred (some [])) := by
    have := World.alloc_heap_new w (.deferred (some []))
    rw [hD] at this
    rw [hV]; exact (Below.heap_alloc _ _ _ (by simp [hD])).trans this
  have wV : Below w.heap.size w V := by
    rw [hV]; exact ((Below.refl _ w).alloc (Nat.le_refl _) _).alloc (by simp) _
  have bV : Below w0.heap.size w0 V := hb0.trans (wV.mono hb0.size)
  have hIV : I [] V := hI.go _ _ _ h0 (Kept.below wV)
  rw [hD] at hI hBb
  -- a block that is no cells is not the row
  have nor : ∀ {s W l o}, I s W → W.heap[l]? = some o → o.isCells = false → ¬ rowAt W Bb l := fun {s W l o} hs hl hc hr => by
    obtain ⟨o', h2, h3⟩ := hI.row s W hs l hr
    rw [hl] at h2; cases h2; rw [hc] at h3; cases h3
  have put : ∀ {s W o} (o' : Obj), I s W → W.heap[D + 1]? = some o → o.isCells = false → I s (W.putObj (D + 1) o') := fun {s W o} o' hs hl hc =>
    hI.go s W _ hs (Kept.put o' (by omega) (by omega) (nor hs hl hc))
  have hJ : Stay Bb V.heap.size (fun pre W => I pre W ∧ W.heap[D + 1]? = some (.loop (R .ready)) ∧ W.heap[D]? = some (.deferred (some []))) := by
    refine ⟨fun s A B hs hk => ?_, fun s W hs => hI.row s W hs.1⟩
    rw [sV] at hk
    exact ⟨hI.go s A B hs.1 (hk.mono (by omega)), (hk.block _ (Array.getElem?_eq_some_iff.1 hs.2.1).1 (.inl (by omega))).trans hs.2.1, (hk.block _ (Array.getElem?_eq_some_iff.1 hs.2.2).1 (.inl (by omega))).trans hs.2.2⟩
  have hcall := hseq (D + 1) _ V bV hJ ?round ⟨hIV, vL, vD⟩
  case round =>
    rintro pre x W ⟨hi, hl, hk⟩ hlen
    have hlt : D + 1 < W.heap.size := (Array.getElem?_eq_some_iff.1 hl).1
    have hy := run_yield (P := P) (args := encs x) hl (by rw [hR]; exact hps x)
    rw [hR] at hy
    have bL : (W.putObj (D + 1) (.loop { R .ready with state := .busy })).heap[D + 1]? = some (.loop { R .ready with state := .busy }) := World.putObj_heap_same hlt
    have bD : (W.putObj (D + 1) (.loop { R .ready with state := .busy })).heap[D]? = some (.deferred (some [])) := (World.putObj_heap_other (by omega)).trans hk
    refine ⟨fn, _, assign, body, hy, roundIn_of_wpIn hfn (hassign _ x W _ ⟨_, run_beginRound hl (by rw [hR]), ?_⟩)⟩
    refine wpIn_mono (hbody _ pre x _ (put _ hi hl rfl) hlen) ?_
    rintro e a3 W3 hp
    cases e with
    | normal =>
      obtain ⟨hk3, hkp3, hi3⟩ := hp
      have cL := hk3.same _ _ bL rfl
      have cE := run_endRound (P := P) none cL
      rw [hR] at cE cL
      have c3 : D + 1 < W3.heap.size := (Array.getElem?_eq_some_iff.1 cL).1
      refine ⟨_, _, cE, rfl, ⟨put _ hi3 cL rfl, ?_, (World.putObj_heap_other (by omega)).trans (hk3.same _ _ bD rfl)⟩, ⟨?_, fun k o hko hoc => ?_⟩, ?_⟩
      · rw [hR]; exact World.putObj_heap_same c3
      · exact Nat.le_trans (by simp) (Nat.le_trans hk3.size (by simp))
      · by_cases hkl : k = D + 1
        · subst hkl
          rw [hl] at hko
          cases hko
          rw [hR]; exact World.putObj_heap_same c3
        · exact (World.putObj_heap_other hkl).trans (hk3.same _ _ ((World.putObj_heap_other hkl).trans hko) hoc)
      · exact ((Kc.put W _ _ _ (by omega) hl rfl rfl).trans hkp3).trans (Kc.put _ _ _ _ (by omega) cL rfl rfl)
    | ret => exact hp.2.elim
    | exit id => exact hp.2.elim
    | goto t => exact hp.2.elim
    | panic ch => exact hp.elim
    | outgrown => exact hp.elim
  refine ⟨D + 1, [{ target := .collected D, args := #[] }], V, { target := .fn (.func gf) lb, args := #[.func (.yield (D + 1)) #[] #[]] }, V, gf,
    #[.func (.yield (D + 1)) #[] #[]] ++ lb, V, ?_, ?_, ?_, ?_, fun _ => h1, ?_⟩
  · have e : V = (w.alloc (.deferred (some []))).alloc (.loop { state := .ready, pending := none, fn, tmps := a.tmps, params := ps, assign, body, defers := w.heap.size }) := by rw [hV, hR, hD]
    rw [e, ← hD]
    exact run_enterLoop_outer _ _ _ _ _
  · simp only [resolve, hg]
    simp [go_sem]
  · intro f' hf'; simp [Target.leads] at hf'; subst hf'; exact hFg
  · simp [invoke, go_sem, eg]
  · refine hcall.mono ?_
    rintro e W2 ⟨⟨v, rfl⟩, hi, hl, hk⟩
    have cE := run_endLoop (P := P) hl (by rw [hR]; simp)
    rw [hR] at cE
    exact ⟨none, _, cE, hdone _ _ (by omega) (put _ hi hl rfl) ((World.putObj_heap_other (by omega)).trans hk)⟩
theorem Kc.setNew {Bb : Nat} {w W : World} {p : Addr} (h : Kc Bb w W) (v : Value) (hB : Bb < w.heap.size) (hp : w.heap.size ≤ p.block) : Kc Bb w (W.setCell p v) := by
  have hs := (KeepsWalks.setCell W p v).size
  have hne : ∀ k, k < w.heap.size → (W.setCell p v).heap[k]? = W.heap[k]? := fun k hk => Below.heap_setCell _ _ _ k (fun e => by omega)
  refine ⟨Nat.le_trans h.size hs, fun k o h1 h2 h3 h4 => (hne k (Array.getElem?_eq_some_iff.1 h1).1).trans (h.keep k o h1 h2 h3 h4), fun k hk => ?_⟩
  obtain ⟨a, s, n, c, e⟩ := hk
  rw [cell_block (W := W) (hne Bb hB)] at e
  rcases h.row k ⟨a, s, n, c, e⟩ with h5 | h5
  · exact .inl h5
  · exact .inr ⟨h5.1, Nat.lt_of_lt_of_le h5.2 hs⟩
theorem Kc.putNew {Bb : Nat} {w W : World} {l : Nat} (h : Kc Bb w W) (o : Obj) (hB : Bb < w.heap.size) (hp : w.heap.size ≤ l) : Kc Bb w (W.putObj l o) := by
  have hne : ∀ k, k < w.heap.size → (W.putObj l o).heap[k]? = W.heap[k]? := fun k hk => World.putObj_heap_other (by omega)
  refine ⟨Nat.le_trans h.size (by simp), fun k o h1 h2 h3 h4 => (hne k (Array.getElem?_eq_some_iff.1 h1).1).trans (h.keep k o h1 h2 h3 h4), fun k hk => ?_⟩
  obtain ⟨a, s, n, c, e⟩ := hk
  rw [cell_block (W := W) (hne Bb hB)] at e
  rcases h.row k ⟨a, s, n, c, e⟩ with h5 | h5
  · exact .inl h5
  · exact .inr ⟨h5.1, by simpa using h5.2⟩
theorem keeps_putNew {w W : World} {l : Nat} (h : KeepsOthers w W) (o : Obj) (hp : w.heap.size ≤ l) : KeepsOthers w (W.putObj l o) :=
  ⟨Nat.le_trans h.size (by simp), fun k o' h1 h2 => (World.putObj_heap_other (by have := (Array.getElem?_eq_some_iff.1 h1).1; omega)).trans (h.same k o' h1 h2)⟩
theorem Kc.kept {Bb B0 : Nat} {w W W' : World} (h : Kc Bb w W) (hB : Bb < w.heap.size) (hk : Kept Bb B0 W W') (h0 : w.heap.size ≤ B0) : Kc Bb w W' := by
  have hne : ∀ k, k < w.heap.size → W'.heap[k]? = W.heap[k]? := fun k hk' => hk.block k (Nat.lt_of_lt_of_le hk' h.size) (.inl (by omega))
  refine ⟨Nat.le_trans h.size hk.size, fun k o h1 h2 h3 h4 => (hne k (Array.getElem?_eq_some_iff.1 h1).1).trans (h.keep k o h1 h2 h3 h4), fun k hr => ?_⟩
  obtain ⟨a, s, n, c, e⟩ := hr
  rw [cell_block (W := W) (hne Bb hB)] at e
  rcases h.row k ⟨a, s, n, c, e⟩ with h5 | h5
  · exact .inl h5
  · exact .inr ⟨h5.1, Nat.lt_of_lt_of_le h5.2 hk.size⟩
theorem keeps_kept {Bb B0 : Nat} {w W W' : World} (h : KeepsOthers w W) (hk : Kept Bb B0 W W') (h0 : w.heap.size ≤ B0) : KeepsOthers w W' :=
  ⟨Nat.le_trans h.size hk.size, fun k o h1 h2 => (hk.block k (Nat.lt_of_lt_of_le (Array.getElem?_eq_some_iff.1 h1).1 h.size) (.inl (by have := (Array.getElem?_eq_some_iff.1 h1).1; omega))).trans (h.same k o h1 h2)⟩
end Go.Proofs.YtkeefkfklmhcjaaGreatDoor
