import Derived.Test.YtkikhmleffcajaaGreatDoorJPnA
import Derived.Test.YtkikhmleffcajaaGreatDoorPnB
import Derived.OwnWalk
namespace Go.Proofs.YtkikhmleffcajaaGreatDoor
open Go.RowKit Go.Maps

/-- How many are not marked. -/
def nf (bs : List Bool) : Nat := (bs.filter fun b => !b).length
theorem nf_set : ∀ (bs : List Bool) (k : Nat), bs[k]? = some false → nf (bs.set k true) + 1 = nf bs := by
  intro bs
  induction bs with
  | nil => intro k h; simp at h
  | cons b r ih =>
    intro k h
    cases k with
    | zero => simp at h; subst h; simp [nf]
    | succ k =>
      have := ih k (by simpa using h)
      unfold nf at this ⊢
      rw [List.set_cons_succ]
      cases b
      · simp only [List.filter_cons, Bool.not_false, if_true, List.length_cons]; omega
      · simpa [List.filter_cons] using this
/-- All that is marked is needed, and the last one is marked. -/
def Snd (st : List Stg) (bs : List Bool) : Prop := (∀ k, bs[k]? = some true → Need st k) ∧ bs[st.length - 1]? = some true
def Clo (st : List Stg) (bs : List Bool) : Prop := ∀ i k, bs[i]? = some true → wantG st i k = true → bs[k]? = some true
/-- Inside of a round. -/
structure St3 (st : List Stg) (bs0 bs : List Bool) (b : Bool) (i k : Nat) : Prop where
  snd : Snd st bs
  le : nf bs ≤ nf bs0
  lt : b = true → nf bs < nf bs0
  same : b = false → bs = bs0
  ahead : b = false → ∀ i' k', i' < i → bs[i']? = some true → wantG st i' k' = true → bs[k']? = some true
  here : b = false → ∀ k', k' < k → bs[i]? = some true → wantG st i k' = true → bs[k']? = some true
theorem St3.start {st : List Stg} {bs : List Bool} (h : Snd st bs) : St3 st bs bs false 0 0 := ⟨h, Nat.le_refl _, fun e => (by cases e), fun _ => rfl, fun _ i' k' hi => (by omega), fun _ k' hk => by omega⟩
theorem St3.skip {st : List Stg} {bs0 bs : List Bool} {b : Bool} {i k : Nat} (h : St3 st bs0 bs b i k) (hs : bs[i]? = some true → wantG st i k = true → bs[k]? = some true) : St3 st bs0 bs b i (k + 1) :=
  ⟨h.snd, h.le, h.lt, h.same, h.ahead, fun e k' hk h1 h2 => by
    by_cases hkk : k' = k
    · subst hkk; exact hs h1 h2
    · exact h.here e k' (by omega) h1 h2⟩
theorem St3.mark {st : List Stg} {bs0 bs : List Bool} {b : Bool} {i k : Nat} (h : St3 st bs0 bs b i k) (h1 : bs[i]? = some true) (h2 : wantG st i k = true) (h3 : bs[k]? = some false) : St3 st bs0 (bs.set k true) true i (k + 1) := by
  have hn := nf_set bs k h3
  have := h.le
  refine ⟨⟨fun j hj => ?_, set_keep h.snd.2⟩, by omega, fun _ => (by omega), fun e => (by cases e), fun e => (by cases e), fun e => (by cases e)⟩
  rcases set_true hj with rfl | hj
  · exact .more (h.snd.1 _ h1) h2
  · exact h.snd.1 _ hj
theorem St3.next {st : List Stg} {bs0 bs : List Bool} {b : Bool} {i : Nat} (hf : Fwd st) (h : St3 st bs0 bs b i i) : St3 st bs0 bs b (i + 1) 0 :=
  ⟨h.snd, h.le, h.lt, h.same, fun e i' k' hi h1 h2 => by
    by_cases hii : i' = i
    · subst hii; exact h.here e k' (want_lt hf h2) h1 h2
    · exact h.ahead e i' k' (by omega) h1 h2, fun _ k' hk => by omega⟩
theorem St3.done {st : List Stg} {bs0 bs : List Bool} {n : Nat} (h : St3 st bs0 bs false n 0) (hl : bs.length ≤ n) : Clo st bs := fun i k h1 h2 =>
  h.ahead rfl i k (by have := (List.getElem?_eq_some_iff.1 h1).1; omega) h1 h2
theorem Marks.clo {st : List Stg} {bs : List Bool} (hl : bs.length = st.length) (hs : Snd st bs) (hc : Clo st bs) : Marks st bs := Marks.of hl hs.1 hs.2 hc
/-- How many of the values are not marked. -/
def nfL (l : List Value) : Nat := (l.filter fun v => match v with | .bool false => true | _ => false).length
theorem nfL_bools (bs : List Bool) : nfL (bs.map Value.bool) = nf bs := by
  induction bs with
  | nil => rfl
  | cons b r ih => cases b <;> simp_all [nfL, nf]
def nfW (g : Nat) (w : World) : Nat := match w.heap[g]? with
  | some (.cells c _ _) => nfL c.toList
  | _ => 0
/-- Marks in memory. -/
structure Mk (w : World) (B : Nat) (wr : World) (g : Nat) (bs : List Bool) : Prop where
  cells : ∃ c : Array Value, wr.heap[g]? = some (.cells c 4 (0, 0)) ∧ c.toList = bs.map Value.bool
  below : Below B w wr
  base : B ≤ g
theorem Mk.nf {w wr : World} {B g : Nat} {bs : List Bool} (h : Mk w B wr g bs) : nfW g wr = Go.Proofs.YtkikhmleffcajaaGreatDoor.nf bs := by
  obtain ⟨c, hc, e⟩ := h.cells
  unfold nfW
  rw [hc]
  show nfL c.toList = _
  rw [e, nfL_bools]
theorem Mk.get {w wr : World} {B g : Nat} {bs : List Bool} (h : Mk w B wr g bs) {k : Nat} {b : Bool} (hk : bs[k]? = some b) : wr.cell? ⟨g, k, none⟩ = some (.bool b) := by
  obtain ⟨c, hc, e⟩ := h.cells
  rw [cell_of_row _ _ k _ _ _ hc, ← Array.getElem?_toList, e, List.getElem?_map, hk]; rfl
theorem Mk.frz {w wr : World} {B g : Nat} {bs : List Bool} (h : Mk w B wr g bs) (k : Nat) : wr.frozen? ⟨g, k, none⟩ = false := by
  obtain ⟨c, hc, _⟩ := h.cells
  exact frozen_of_row wr g k c 4 hc
theorem Mk.lt {w wr : World} {B g : Nat} {bs : List Bool} (h : Mk w B wr g bs) : g < wr.heap.size := by
  obtain ⟨c, hc, _⟩ := h.cells
  exact (Array.getElem?_eq_some_iff.1 hc).1
theorem Mk.set {w wr : World} {B g : Nat} {bs : List Bool} (h : Mk w B wr g bs) (k : Nat) : Mk w B (wr.setCell ⟨g, k, none⟩ (.bool true)) g (bs.set k true) := by
  obtain ⟨c, hc, e⟩ := h.cells
  refine ⟨⟨c.setIfInBounds k (.bool true), heap_setCell_same wr g k c 4 _ hc, ?_⟩, h.below.setCell h.base _, h.base⟩
  rw [Array.toList_setIfInBounds, e, List.map_set]
theorem Mk.later {w wr w2 : World} {B g : Nat} {bs : List Bool} (h : Mk w B wr g bs) (hb : Below wr.heap.size wr w2) : Mk w B w2 g bs := by
  obtain ⟨c, hc, e⟩ := h.cells
  exact ⟨⟨c, (hb.block g h.lt).trans hc, e⟩, h.below.trans (hb.mono (Nat.le_of_lt (Nat.lt_of_le_of_lt h.base h.lt))), h.base⟩
theorem Mk.grown {w wr w2 : World} {B g : Nat} {bs : List Bool} {r : Option Nat} (h : Mk w B wr g bs) (hb : wr.grownBy w2 r) (hr : r ≠ some g) (hB : ∀ q, r = some q → B ≤ q) : Mk w B w2 g bs := by
  obtain ⟨c, hc, e⟩ := h.cells
  exact ⟨⟨c, (hb.block g h.lt (fun e => hr e.symm)).trans hc, e⟩, h.below.grown hb (Nat.le_of_lt (Nat.lt_of_le_of_lt h.base h.lt)) hB, h.base⟩
theorem Mk.ofMade {w wr : World} {g n : Nat} (hr : wr.ownsRow w.heap.size 4 1 (.slice (some ⟨g, 0, none⟩) n n) n (madeCells (Value.bool false).cells (n * 1)).toList) (hg : w.grownBy wr none) : Mk w w.heap.size wr g (List.replicate n false) := by
  rcases hr.2 with ⟨h', _⟩ | ⟨g', cap', cur, h', hb, hc, _, _, hsz, ht⟩
  · simp at h'
  · simp only [Value.slice.injEq, Option.some.injEq, Addr.mk.injEq, and_true, true_and] at h'
    obtain ⟨rfl, rfl⟩ := h'
    refine ⟨⟨cur, hc, ?_⟩, (Below.refl _ w).grown hg (Nat.le_refl _) (fun q hq => by cases hq), hb⟩
    rw [List.take_of_length_le (by rw [Array.length_toList]; omega)] at ht
    rw [ht, show (Value.bool false).cells = #[Value.bool false] from rfl, toList_madeCells_one, Nat.mul_one, List.map_replicate]
theorem info4 : (Tryz.prog.info? 4).map (fun i => (i.zero, i.size, i.bytes)) = some (some (.bool false), 1, 1) := by kernel_rfl
theorem info3 : (Tryz.prog.info? 3).map (fun i => (i.zero, i.size, i.bytes)) = some (some (.int .i64 0), 1, 8) := by kernel_rfl
/-- The numbers in memory. -/
abbrev NumR (w : World) (B : Nat) (v : Value) (l : List Nat) : Prop := w.ownsRow B 3 1 v l.length (l.map fun (k : Nat) => Value.int .i64 (k : Int))
theorem row_capz {w : World} {B e z n : Nat} {v : Value} {xs : List Value} (h : w.ownsRow B e z v n xs) (hn : 0 < n) : ∃ g cap, v = .slice (some ⟨g, 0, none⟩) n cap ∧ n ≤ cap ∧ cap ≤ maxLen := by
  rcases h.2 with ⟨_, h0⟩ | ⟨g, cap, cur, hv, _, _, h1, h2, _⟩
  · omega
  · exact ⟨g, cap, hv, h1, h2⟩
def bit : Value → Nat
  | .bool true => 1
  | _ => 0
/-- What Needed comes to. -/
def NeedOut (st : List Stg) (B : Nat) (w' : World) (ev : Ending) : Prop := ∃ rv bs, Marks st bs ∧ ev = .returned rv ∧ NumR w' B rv (idxB bs st.length)
/-- A stage's cells, the document's. -/
theorem ds_at {w : World} {B g cap : Nat} {ss : List DsM} (h : StR w B (.slice (some ⟨g, 0, none⟩) ss.length cap) ss) (i : Nat) (s : DsM) (hs : ss[i]? = some s) :
    w.cell? ⟨g, i * 4, none⟩ = some (.string (bt s.name)) ∧ w.cell? ⟨g, i * 4 + 1, none⟩ = some (.int .i64 s.base) ∧ w.cell? ⟨g, i * 4 + 2, none⟩ = some s.sv ∧ w.cell? ⟨g, i * 4 + 3, none⟩ = some s.vv := by
  have hi := (List.getElem?_eq_some_iff.1 hs).1
  refine ⟨?_, ?_, ?_, ?_⟩
  · rw [World.ownsRow.cellAt h _ (by omega)]; exact dsC_at ss i s 0 hs (by omega)
  · rw [World.ownsRow.cellAt h _ (by omega)]; exact dsC_at ss i s 1 hs (by omega)
  · rw [World.ownsRow.cellAt h _ (by omega)]; exact dsC_at ss i s 2 hs (by omega)
  · rw [World.ownsRow.cellAt h _ (by omega)]; exact dsC_at ss i s 3 hs (by omega)
theorem snd_start {st : List Stg} (hne : st ≠ []) : Snd st ((List.replicate st.length false).set (st.length - 1) true) := by
  have := List.length_pos_iff.2 hne
  refine ⟨fun k hk => ?_, set_here (by rw [List.length_replicate]; omega)⟩
  rcases set_true hk with rfl | hk
  · exact .last
  · rw [List.getElem?_replicate] at hk
    split at hk <;> cases hk
theorem some_bool {bs : List Bool} {n k : Nat} (hl : bs.length = n) (hk : k < n) : ∃ b, bs[k]? = some b := ⟨_, List.getElem?_eq_getElem (by omega)⟩
/-- What stands while the numbers are told. -/
structure St4 (w : World) (B : Nat) (wr : World) (g : Nat) (bs : List Bool) (ov : Value) (k : Nat) : Prop where
  mks : Mk w B wr g bs
  row : NumR wr B ov (idxB bs k)
theorem St4.apart {w wr : World} {B g k : Nat} {bs : List Bool} {ov : Value} (h : St4 w B wr g bs ov k) : ov.ownBlock ≠ some g := fun e => by
  obtain ⟨c, fz, hc⟩ := kind_of h.row g e
  obtain ⟨c', hc', _⟩ := h.mks.cells
  rw [hc] at hc'
  injection hc' with hc'
  injection hc' with _ hc' _
  cases hc'
end Go.Proofs.YtkikhmleffcajaaGreatDoor
