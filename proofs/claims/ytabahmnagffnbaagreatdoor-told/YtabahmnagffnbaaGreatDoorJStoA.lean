import Derived.Test.YtabahmnagffnbaaGreatDoorJPlain
import Derived.WalkSpells
import Derived.OwnWalk
import Derived.ArgAppend
import Derived.Laws.OwnMore
import Derived.Deep.AppendLies
import Derived.Deep.RegionHeld3
import Derived.Deep.RegionLaw
namespace Go.Proofs.YtabahmnagffnbaaGreatDoor
open Go.RowKit Go.Maps

/-- An act. -/
structure Ac where
  what : Int
  name : ByteArray
  dest : ByteArray
  data : ByteArray
def Ac.cells (a : Ac) : List Value := [.int .i64 a.what, .string a.name, .string a.dest, .string a.data]
def acC (l : List Ac) : List Value := (l.map Ac.cells).flatten
theorem acC_len (l : List Ac) : (acC l).length = l.length * 4 := by
  induction l with
  | nil => rfl
  | cons a r ih => simp only [acC, List.map_cons, List.flatten_cons, List.length_append, List.length_cons] at ih ⊢; rw [ih]; simp [Ac.cells]; omega
theorem acC_snoc (l : List Ac) (a : Ac) : acC (l ++ [a]) = acC l ++ a.cells := by simp [acC]
theorem ac_one (a : Ac) : ∀ u ∈ a.cells, u.oneCell' = true := fun u hu => by
  simp only [Ac.cells, List.mem_cons, List.not_mem_nil, or_false] at hu
  rcases hu with rfl | rfl | rfl | rfl <;> rfl
theorem info138 : (Tryz.prog.info? 68).map (fun i => (i.zero, i.size, i.bytes)) = some (some (.agg #[.int .i64 0, .string ByteArray.empty, .string ByteArray.empty, .string ByteArray.empty]), 4, 56) := by kernel_rfl
/-- Only some blocks have turned. -/
structure Turn (S : Nat → Prop) (w w' : World) : Prop where
  os : w'.os = w.os
  tape : w'.tape = w.tape
  output : w'.output = w.output
  size : w.heap.size ≤ w'.heap.size
  block : ∀ k, k < w.heap.size → ¬ S k → w'.heap[k]? = w.heap[k]?
theorem Turn.refl (S : Nat → Prop) (w : World) : Turn S w w := ⟨rfl, rfl, rfl, Nat.le_refl _, fun _ _ _ => rfl⟩
theorem Turn.trans {S T : Nat → Prop} {a b c : World} (h : Turn S a b) (k : Turn T b c) (hT : ∀ i, T i → S i ∨ a.heap.size ≤ i) : Turn S a c :=
  ⟨k.os.trans h.os, k.tape.trans h.tape, k.output.trans h.output, Nat.le_trans h.size k.size, fun i hi hs =>
    (k.block i (Nat.lt_of_lt_of_le hi h.size) (fun ht => by rcases hT i ht with h1 | h1; exact hs h1; omega)).trans (h.block i hi hs)⟩
theorem Turn.mono {S T : Nat → Prop} {a b : World} (h : Turn S a b) (hT : ∀ i, S i → T i) : Turn T a b := ⟨h.os, h.tape, h.output, h.size, fun i hi ht => h.block i hi (fun hs => ht (hT i hs))⟩
theorem Turn.of_below {S : Nat → Prop} {w w' : World} (h : Below w.heap.size w w') : Turn S w w' := ⟨h.os, h.tape, h.output, h.size, fun k hk _ => h.block k hk⟩
theorem Turn.of_grown {S : Nat → Prop} {w w' : World} {row : Option Nat} (h : w.grownBy w' row) (hr : ∀ k, row = some k → S k) : Turn S w w' := ⟨h.os, h.tape, h.output, h.size, fun k hk hs => h.block k hk (fun e => hs (hr k e.symm))⟩
theorem Turn.of_set {S : Nat → Prop} (w : World) (a : Addr) (v : Value) (hs : S a.block) : Turn S w (w.setCell a v) := by
  refine ⟨rfl, rfl, rfl, by simp, fun k hk hk' => ?_⟩
  exact Below.heap_setCell _ _ _ _ (fun e => hk' (by rw [e]; exact hs))
theorem Turn.cell {S : Nat → Prop} {w w' : World} (h : Turn S w w') {a : Addr} {v : Value} (hc : w.cell? a = some v) (hs : ¬ S a.block) : w'.cell? a = some v := by
  have hlt := World.block_lt_of_cell? _ _ hc
  rw [World.cell?_of_block (h.block a.block hlt hs)]; exact hc
/-- A store of the program's lies in memory. -/
structure PSt (w : World) (sb mb : Nat) (v : Value) (L : List Blb) (q : Int) (A : List Ac) : Prop where
  cells : w.heap[sb]? = some (.cells #[.map (some mb), .int .i64 q, v] 66 (0, 0))
  map : FM w mb L.length L
  row : w.ownsRow 0 68 4 v A.length (acC A)
/-- The blocks of a store. -/
def OwnS (sb mb : Nat) (v : Value) (k : Nat) : Prop := k = sb ∨ k = mb ∨ v.ownBlock = some k
theorem PSt.lt {w : World} {sb mb : Nat} {v : Value} {L : List Blb} {q : Int} {A : List Ac} (h : PSt w sb mb v L q A) : ∀ k, OwnS sb mb v k → k < w.heap.size := by
  rintro k (rfl | rfl | e)
  · exact (Array.getElem?_eq_some_iff.1 h.cells).1
  · exact World.ownsMap.lt h.map
  · rcases h.row.2 with ⟨rfl, _⟩ | ⟨g, cap, cur, rfl, _, hg, _⟩
    · cases e
    · cases e; exact (Array.getElem?_eq_some_iff.1 hg).1
theorem PSt.sb_mb {w : World} {sb mb : Nat} {v : Value} {L : List Blb} {q : Int} {A : List Ac} (h : PSt w sb mb v L q A) : sb ≠ mb := by
  rintro rfl
  obtain ⟨es, clock, hb, _⟩ := h.map
  have := h.cells
  rw [hb] at this; cases this
theorem PSt.sb_row {w : World} {sb mb : Nat} {v : Value} {L : List Blb} {q : Int} {A : List Ac} (h : PSt w sb mb v L q A) : v.ownBlock ≠ some sb := by
  rintro e
  rcases h.row.2 with ⟨rfl, _⟩ | ⟨g, cap, cur, rfl, _, hg, _⟩
  · cases e
  · obtain rfl : g = sb := by simpa [Value.ownBlock] using e
    have := h.cells
    rw [hg] at this; cases this
theorem PSt.mb_row {w : World} {sb mb : Nat} {v : Value} {L : List Blb} {q : Int} {A : List Ac} (h : PSt w sb mb v L q A) : v.ownBlock ≠ some mb := by
  rintro e
  obtain ⟨es, clock, hb, _⟩ := h.map
  rcases h.row.2 with ⟨rfl, _⟩ | ⟨g, cap, cur, rfl, _, hg, _⟩
  · cases e
  · obtain rfl : g = mb := by simpa [Value.ownBlock] using e
    rw [hg] at hb; cases hb
theorem row_turn {w w' : World} {e z n : Nat} {v : Value} {xs : List Value} (h : w.ownsRow 0 e z v n xs) (hk : ∀ k, v.ownBlock = some k → w'.heap[k]? = w.heap[k]?) : w'.ownsRow 0 e z v n xs := by
  refine ⟨h.1, ?_⟩
  rcases h.2 with h0 | ⟨g, cap, cur, hv, h1, h2, h3⟩
  · exact .inl h0
  · refine .inr ⟨g, cap, cur, hv, h1, (hk g ?_).trans h2, h3⟩
    rw [hv]; rfl
/-- What turns elsewhere leaves a store as it is. -/
theorem PSt.turn {w w' : World} {sb mb : Nat} {v : Value} {L : List Blb} {q : Int} {A : List Ac} {S : Nat → Prop} (h : PSt w sb mb v L q A) (ht : Turn S w w') (hs : ∀ k, OwnS sb mb v k → ¬ S k) : PSt w' sb mb v L q A := by
  have e : ∀ k, OwnS sb mb v k → w'.heap[k]? = w.heap[k]? := fun k hk => ht.block k (h.lt k hk) (hs k hk)
  refine ⟨(e sb (.inl rfl)).trans h.cells, ?_, row_turn h.row fun k hk => e k (.inr (.inr hk))⟩
  obtain ⟨es, clock, hb, r⟩ := h.map
  exact ⟨es, clock, (e mb (.inr (.inl rfl))).trans hb, r⟩
theorem PSt.below {w w' : World} {sb mb : Nat} {v : Value} {L : List Blb} {q : Int} {A : List Ac} (h : PSt w sb mb v L q A) (hb : Below w.heap.size w w') : PSt w' sb mb v L q A :=
  h.turn (S := fun _ => False) (Turn.of_below hb) (fun _ _ => id)
/-- A call has done something to a store, and to nothing else. -/
structure Goes (w : World) (sb mb : Nat) (v : Value) (w' : World) (v' : Value) : Prop where
  turn : Turn (OwnS sb mb v) w w'
  own : ∀ k, v'.ownBlock = some k → v.ownBlock = some k ∨ w.heap.size ≤ k
theorem Goes.trans {w w1 w2 : World} {sb mb : Nat} {v v1 v2 : Value} (h : Goes w sb mb v w1 v1) (k : Goes w1 sb mb v1 w2 v2) : Goes w sb mb v w2 v2 := by
  refine ⟨h.turn.trans k.turn ?_, fun i hi => ?_⟩
  · rintro i (rfl | rfl | e)
    · exact .inl (.inl rfl)
    · exact .inl (.inr (.inl rfl))
    · exact (h.own i e).imp (fun e => .inr (.inr e)) id
  · rcases k.own i hi with e | e
    · exact h.own i e
    · exact .inr (Nat.le_trans h.turn.size e)
theorem Goes.of_below {w w' : World} {sb mb : Nat} {v : Value} (h : Below w.heap.size w w') : Goes w sb mb v w' v := ⟨Turn.of_below h, fun _ => .inl⟩
theorem two_new (w : World) (o o' : Obj) : ((w.alloc o).alloc o').drew.heap[w.heap.size + 1]? = some o' := by
  have := heap_alloc_new (w.alloc o) o'
  rwa [World.size_alloc] at this
theorem two_box {w w1 : World} {cs : Array Value} {t : TypeId} {o : Obj} {row : Option Nat} (hg : ((w.alloc (.cells cs t)).alloc o).drew.grownBy w1 row) (hr : ∀ k, row = some k → k < w.heap.size) (j : Nat) {u : Value} (hu : cs[j]? = some u) : w1.cell? ⟨w.heap.size, j, none⟩ = some u := by
  have h1 : ((w.alloc (.cells cs t)).alloc o).drew.heap[w.heap.size]? = some (.cells cs t) := (Below.heap_alloc _ _ _ (by simp)).trans (heap_alloc_new _ _)
  have h2 := (hg.block w.heap.size (by show _ < ((w.alloc _).alloc o).heap.size; simp; omega) (fun e => by have := hr _ e.symm; omega)).trans h1
  rw [cell_of_row _ _ j _ _ _ h2]; exact hu
theorem two_old {w w1 : World} {o o' : Obj} {row : Option Nat} (hg : ((w.alloc o).alloc o').drew.grownBy w1 row) {k : Nat} (hk : k < w.heap.size) (hr : row ≠ some k) : w1.heap[k]? = w.heap[k]? :=
  (hg.block k (by show _ < ((w.alloc _).alloc o').heap.size; simp; omega) (fun e => hr e.symm)).trans ((Below.heap_alloc _ _ _ (by simp; omega)).trans (Below.heap_alloc _ _ _ hk))
theorem set_box {w w1 : World} {cs : Array Value} {t : TypeId} {o : Obj} {row : Option Nat} {sb i : Nat} {x : Value} (hg : ((w.alloc (.cells cs t)).alloc o).drew.grownBy w1 row) (hr : ∀ k, row = some k → k < w.heap.size) (hs : sb < w.heap.size) (j : Nat) {u : Value} (hu : cs[j]? = some u) : (w1.setCell ⟨sb, i, none⟩ x).cell? ⟨w.heap.size, j, none⟩ = some u := by
  rw [World.cell?_of_block (Below.heap_setCell w1 ⟨sb, i, none⟩ x w.heap.size (by show w.heap.size ≠ sb; omega))]
  exact two_box hg hr j hu
theorem tell_end {w w1 : World} {o o' : Obj} {sb mb : Nat} {v : Value} {L : List Blb} {q : Int} {A : List Ac} {a : Ac} {gg cp : Nat} (h : PSt w sb mb v L q A) (hown : w1.ownsRow 0 68 4 (.slice (some ⟨gg, 0, none⟩) (A.length + 1) cp) (A.length + 1) (acC A ++ a.cells))
    (hg : ((w.alloc o).alloc o').drew.grownBy w1 v.ownBlock) (hl : v.ownBlock = some gg ∨ gg = w.heap.size + 2) (_ : gg < w1.heap.size) :
    PSt (w1.setCell ⟨sb, 2, none⟩ (.slice (some ⟨gg, 0, none⟩) (A.length + 1) cp)) sb mb (.slice (some ⟨gg, 0, none⟩) (A.length + 1) cp) L q (A ++ [a]) ∧ Goes w sb mb v (w1.setCell ⟨sb, 2, none⟩ (.slice (some ⟨gg, 0, none⟩) (A.length + 1) cp)) (.slice (some ⟨gg, 0, none⟩) (A.length + 1) cp) := by
  have hsl : sb < w.heap.size := h.lt sb (.inl rfl)
  have hml : mb < w.heap.size := h.lt mb (.inr (.inl rfl))
  have hs1 := (two_old hg hsl h.sb_row).trans h.cells
  have hm1 := two_old hg hml h.mb_row
  have hgs : gg ≠ sb := by
    rintro rfl
    rcases hl with e | e
    · exact h.sb_row e
    · omega
  have hoth : ∀ k, k ≠ sb → (w1.setCell ⟨sb, 2, none⟩ (.slice (some ⟨gg, 0, none⟩) (A.length + 1) cp)).heap[k]? = w1.heap[k]? := fun k hk => Below.heap_setCell _ _ _ _ hk
  have hz : w.heap.size ≤ w1.heap.size := Nat.le_trans (by show _ ≤ ((w.alloc o).alloc o').heap.size; simp; omega) hg.size
  refine ⟨⟨?_, ?_, ?_⟩, ⟨?_, ?_⟩⟩
  · exact heap_setCell_same _ _ 2 _ _ _ hs1
  · obtain ⟨es, clock, hb, r⟩ := h.map
    exact ⟨es, clock, (hoth mb h.sb_mb.symm).trans (hm1.trans hb), r⟩
  · rw [acC_snoc, List.length_append]
    exact row_turn hown fun k hk => hoth k (by cases hk; exact hgs)
  · refine ⟨hg.os, hg.tape, hg.output, by simpa using hz, fun k hk hk' => ?_⟩
    exact (hoth k (fun e => hk' (.inl e))).trans (two_old hg hk (fun e => hk' (.inr (.inr e))))
  · rintro k hk
    cases hk
    exact hl.imp id (fun e => by show w.heap.size ≤ gg; omega)
set_option maxHeartbeats 1000000 in
set_option maxRecDepth 100000 in
theorem tell_act (sb mb : Nat) (v : Value) (L : List Blb) (q : Int) (A : List Ac) (a : Ac) (w : World) (h : PSt w sb mb v L q A) (hA : A.length ≤ 1099511627776) :
    Calls Tryz.prog 77 #[.pointer (some ⟨sb, 0, none⟩), .agg #[.int .i64 a.what, .string a.name, .string a.dest, .string a.data]] w fun ev w' => ev = .returned (.tuple #[]) ∧ ∃ v', PSt w' sb mb v' L q (A ++ [a]) ∧ Goes w sb mb v w' v' := by
  obtain ⟨i0, hi, hz0, hz1, hz2⟩ := info_parts info138
  have hsl : sb < w.heap.size := h.lt sb (.inl rfl)
  have hrl : ∀ k, v.ownBlock = some k → k < w.heap.size := fun k hk => h.lt k (.inr (.inr hk))
  have c2 : w.cell? ⟨sb, 2, none⟩ = some v := cell_of_row _ _ 2 _ _ _ h.cells
  have n0 := World.new_ne w ⟨sb, 2, none⟩ c2
  have HP := hide h
  have hrow := h.row
  have hsr := h.sb_row
  have hcl := h.cells
  clear h
  go_enter Tryz.func77, Tryz.ntmps77
  go_upto_region 1 with fail
  go_region_law
    ((refine step_append_lies _ (by rfl) _ _ _ (by rfl) 0 68 i0 _ 4 56 Tryz.underlying38 hi hz0 hz1 hz2 rfl (by decide) v A.length (acC A) (by rfl) (by exact World.ownsRow.alloc (World.ownsRow.alloc hrow (.cells #[.int .i64 a.what, .string a.name, .string a.dest, .string a.data] 68)) (.cells #[.int .i64 a.what, .string a.name, .string a.dest, .string a.data] 68)) ⟨w.heap.size + 1, 0, none⟩ 1 1 a.cells (by rfl) (by rfl) (by exact World.news_of_block (cs := #[.int .i64 a.what, .string a.name, .string a.dest, .string a.data]) (t := 68) (fr := (0, 0)) (two_new _ _ _)) (ac_one a) (by omega) (by unfold maxLen; omega) (by omega) (by omega) (w.heap.size + 2) (by simp) ?_; intro gg cp1 w1 hown1 hgrow hlies hgl; have hs1 := (two_old hgrow hsl hsr).trans hcl; have k2 : w1.cell? ⟨sb, 2, none⟩ = some v := cell_of_row _ _ 2 _ _ _ hs1; have f2 : w1.frozen? ⟨sb, 2, none⟩ = false := by simp [World.frozen?, hs1]))
  all_goals
    try go_wp2_with fail
    go_end0
    exact ⟨rfl, _, tell_end (unhide HP) hown1 hgrow hlies hgl⟩
end Go.Proofs.YtabahmnagffnbaaGreatDoor

namespace Go.Proofs.YtabahmnagffnbaaGreatDoor
open Go.RowKit Go.Maps

theorem info140 : (Tryz.prog.info? 93).map (fun i => (i.zero, i.size, i.bytes)) = some (some (.agg #[.string ByteArray.empty, .string ByteArray.empty]), 2, 32) := by kernel_rfl
def Blb.cells (b : Blb) : List Value := [.string b.name, .string b.data]
def blC (l : List Blb) : List Value := (l.map Blb.cells).flatten
theorem blC_len (l : List Blb) : (blC l).length = l.length * 2 := by
  induction l with
  | nil => rfl
  | cons a r ih => simp only [blC, List.map_cons, List.flatten_cons, List.length_append, List.length_cons] at ih ⊢; rw [ih]; simp [Blb.cells]; omega
theorem blC_snoc (l : List Blb) (a : Blb) : blC (l ++ [a]) = blC l ++ a.cells := by simp [blC]
theorem bl_one (a : Blb) : ∀ u ∈ a.cells, u.oneCell' = true := fun u hu => by
  simp only [Blb.cells, List.mem_cons, List.not_mem_nil, or_false] at hu
  rcases hu with rfl | rfl <;> rfl
theorem blC_get : ∀ {l : List Blb} {k : Nat} {b : Blb}, l[k]? = some b → (blC l)[k * 2]? = some (.string b.name) ∧ (blC l)[k * 2 + 1]? = some (.string b.data)
  | [], _, _, h => by simp at h
  | x :: r, 0, e, h => by
    simp at h; subst h
    simp [blC, Blb.cells]
  | x :: r, k + 1, e, h => by
    have h' : r[k]? = some e := by simpa using h
    have := blC_get h'
    have e1 : blC (x :: r) = x.cells ++ blC r := by simp [blC]
    have e2 : x.cells.length = 2 := rfl
    rw [e1, show (k + 1) * 2 = 2 + k * 2 from by omega, show 2 + k * 2 + 1 = 2 + (k * 2 + 1) from by omega]
    rw [List.getElem?_append_right (by omega), List.getElem?_append_right (by omega)]
    simp only [e2, Nat.add_sub_cancel_left]
    exact this
/-- A row of files. -/
def BRow (w : World) (ao : Option Addr) (l : List Blb) : Prop := ∀ k b, l[k]? = some b → ∃ g o, ao = some ⟨g, o, none⟩ ∧ w.cell? ⟨g, o + k * 2, none⟩ = some (.string b.name) ∧ w.cell? ⟨g, o + k * 2 + 1, none⟩ = some (.string b.data)
theorem BRow.below {w w' : World} {ao : Option Addr} {l : List Blb} (h : BRow w ao l) (hb : Below w.heap.size w w') : BRow w' ao l := fun k b hk => by
  obtain ⟨g, o, e, h1, h2⟩ := h k b hk
  exact ⟨g, o, e, cell_later hb h1, cell_later hb h2⟩
/-- A row of files that a call made. -/
def OwnB (w : World) (B : Nat) (v : Value) (l : List Blb) : Prop := w.ownsRow B 93 2 v l.length (blC l)
theorem ownB_row {w : World} {B : Nat} {v : Value} {l : List Blb} (h : OwnB w B v l) : ∃ ao cap n, v = .slice ao n cap ∧ n = l.length ∧ BRow w ao l ∧ n ≤ cap := by
  rcases h.2 with ⟨rfl, h0⟩ | ⟨g, cap, cur, rfl, hb, hg, hnc, _⟩
  · have : l = [] := List.length_eq_zero_iff.1 h0
    subst this
    exact ⟨none, 0, 0, rfl, rfl, fun k e hk => by simp at hk, Nat.le_refl _⟩
  · refine ⟨some ⟨g, 0, none⟩, cap, l.length, rfl, rfl, fun k e hk => ?_, hnc⟩
    have hk' : k < l.length := (List.getElem?_eq_some_iff.1 hk).1
    obtain ⟨h1, h2⟩ := blC_get hk
    refine ⟨g, 0, rfl, ?_, ?_⟩
    · rw [Nat.zero_add, World.ownsRow.cellAt h _ (by omega), h1]
    · rw [Nat.zero_add, World.ownsRow.cellAt h _ (by omega), h2]
theorem OwnB.below {w w' : World} {B : Nat} {v : Value} {l : List Blb} (h : OwnB w B v l) (hb : Below w.heap.size w w') : OwnB w' B v l :=
  World.ownsRow.kept (row := none) h ⟨hb.os, hb.tape, hb.output, hb.size, fun k hk _ => hb.block k hk⟩ (by cases v.ownBlock <;> simp)
theorem OwnB.base {w : World} {B B' : Nat} {v : Value} {l : List Blb} (h : OwnB w B v l) (hb : B' ≤ B) : OwnB w B' v l := by
  refine ⟨h.1, ?_⟩
  rcases h.2 with h0 | ⟨g, cap, cur, e, h1, h2⟩
  · exact .inl h0
  · exact .inr ⟨g, cap, cur, e, Nat.le_trans hb h1, h2⟩
theorem ownB_snoc {w : World} {B : Nat} {v : Value} {l : List Blb} {b : Blb} (h : w.ownsRow B 93 2 v (l.length + 1) (blC l ++ b.cells)) : OwnB w B v (l ++ [b]) := by
  unfold OwnB
  rw [List.length_append, blC_snoc]
  exact h
/-- What 'file' answers. -/
def FileIs (L : List Blb) (x : List UInt8) (r : Int) : Prop := (r = -1 ∧ getB L x = none) ∨ ∃ (k : Nat) (b : Blb), r = k ∧ L[k]? = some b ∧ b.nm = x ∧ getB L x = some b
theorem get_first {L : List Blb} {x : List UInt8} {k : Nat} {b : Blb} (h : ∀ z ∈ L.take k, z.nm ≠ x) (hk : L[k]? = some b) (hb : b.nm = x) : getB L x = some b := by
  obtain ⟨hk1, hk2⟩ := List.getElem?_eq_some_iff.1 hk
  have e : L = L.take k ++ b :: L.drop (k + 1) := by rw [← hk2, List.getElem_cons_drop, List.take_append_drop]
  have e1 : (L.take k).find? (fun z => z.nm == x) = none := List.find?_eq_none.2 fun z hz => by simpa using h z hz
  rw [getB, e, List.find?_append, e1, List.find?_cons_of_pos (by simp [hb])]
  rfl
theorem get_no {L : List Blb} {x : List UInt8} (h : ∀ z ∈ L, z.nm ≠ x) : getB L x = none := List.find?_eq_none.2 fun z hz => by simpa using h z hz
theorem take_more {L : List Blb} {x : List UInt8} {k : Nat} {b : Blb} (h : ∀ z ∈ L.take k, z.nm ≠ x) (hk : L[k]? = some b) (hb : b.nm ≠ x) : ∀ z ∈ L.take (k + 1), z.nm ≠ x := fun z hz => by
  rw [List.take_add_one, hk] at hz
  rcases List.mem_append.1 hz with hz | hz
  · exact h z hz
  · simp at hz; subst hz; exact hb
theorem del_yes {L : List Blb} {k : Nat} {e : Blb} {x : List UInt8} (he : L[k]? = some e) (h : e.nm ≠ x) : delB (L.take (k + 1)) x = delB (L.take k) x ++ [e] := by
  rw [delB, delB, List.take_add_one, he, List.filter_append]; simp [h]
theorem del_not {L : List Blb} {k : Nat} {e : Blb} {x : List UInt8} (he : L[k]? = some e) (h : e.nm = x) : delB (L.take (k + 1)) x = delB (L.take k) x := by
  rw [delB, delB, List.take_add_one, he, List.filter_append]; simp [h]
end Go.Proofs.YtabahmnagffnbaaGreatDoor

namespace Go.Proofs.YtabahmnagffnbaaGreatDoor
open Go.RowKit Go.Maps

/-- Has the new file been set in? -/
def dnB (M : List Blb) (b : Blb) : Bool := M.any fun z => Op.bytesLess b.nm z.nm
def outB (M : List Blb) (b : Blb) : List Blb := if dnB M b = true then putB M b else M.filter fun z => Op.bytesLess z.nm b.nm
theorem dn_no {M : List Blb} {b : Blb} (h : dnB M b = false) : ∀ z ∈ M, Op.bytesLess b.nm z.nm = false := fun z hz => by
  have := List.any_eq_false.1 h z hz
  simpa using this
theorem dn_snoc (M : List Blb) (b e : Blb) : dnB (M ++ [e]) b = (dnB M b || Op.bytesLess b.nm e.nm) := by simp [dnB]
theorem gt_nil {M : List Blb} {b : Blb} (h : dnB M b = false) : (M.filter fun z => Op.bytesLess b.nm z.nm) = [] := List.filter_eq_nil_iff.2 fun z hz => by rw [dn_no h z hz]; simp
theorem out_a {M : List Blb} {b e : Blb} (h : dnB M b = false) (he : Op.bytesLess b.nm e.nm = true) : outB (M ++ [e]) b = (outB M b ++ [b]) ++ [e] := by
  have h1 : dnB (M ++ [e]) b = true := by rw [dn_snoc, h, he]; rfl
  rw [outB, if_pos h1, outB, if_neg (by rw [h]; decide), putB, List.filter_append, List.filter_append, gt_nil h]
  simp [he, fl_asymm he]
theorem out_b {M : List Blb} {b e : Blb} (h : dnB M b = false) (he : e.nm = b.nm) : outB (M ++ [e]) b = outB M b := by
  have h1 : dnB (M ++ [e]) b = false := by rw [dn_snoc, h, he, fl_irr]; rfl
  rw [outB, if_neg (by rw [h1]; decide), outB, if_neg (by rw [h]; decide), List.filter_append]
  simp [he, fl_irr]
theorem out_c {M : List Blb} {b e : Blb} (h : dnB M b = false) (he : Op.bytesLess b.nm e.nm = false) (hn : e.nm ≠ b.nm) : outB (M ++ [e]) b = outB M b ++ [e] := by
  have h1 : dnB (M ++ [e]) b = false := by rw [dn_snoc, h, he]; rfl
  have h2 : Op.bytesLess e.nm b.nm = true := by
    cases h3 : Op.bytesLess e.nm b.nm
    · exact absurd (fl_total h3 he) hn
    · rfl
  rw [outB, if_neg (by rw [h1]; decide), outB, if_neg (by rw [h]; decide), List.filter_append]
  simp [h2]
theorem out_gt {M : List Blb} {b e : Blb} (h : dnB M b = true) (hR : Rise (M ++ [e])) : Op.bytesLess b.nm e.nm = true := by
  obtain ⟨z, hz, hl⟩ := List.any_eq_true.1 h
  exact fl_trans hl ((List.pairwise_append.1 hR).2.2 z hz e (by simp))
theorem out_d {M : List Blb} {b e : Blb} (h : dnB M b = true) (hR : Rise (M ++ [e])) : outB (M ++ [e]) b = outB M b ++ [e] := by
  have he := out_gt h hR
  have h1 : dnB (M ++ [e]) b = true := by rw [dn_snoc, h]; rfl
  rw [outB, if_pos h1, outB, if_pos h, putB, putB, List.filter_append, List.filter_append]
  simp [he, fl_asymm he]
theorem out_end {L : List Blb} {b : Blb} (h : dnB L b = false) : outB L b ++ [b] = putB L b := by
  rw [outB, if_neg (by rw [h]; decide), putB, gt_nil h]
theorem out_len (M : List Blb) (hM : Rise M) (b : Blb) : (outB M b).length ≤ M.length + 1 := by
  unfold outB
  split
  · rw [put_len M hM]; have := del_len M b.nm; omega
  · have := List.length_filter_le (fun z : Blb => Op.bytesLess z.nm b.nm) M; omega
theorem take_rise {L : List Blb} (h : Rise L) (k : Nat) : Rise (L.take k) := List.Pairwise.sublist (List.take_sublist k L) h
theorem takeB_snoc {L : List Blb} {k : Nat} {e : Blb} (he : L[k]? = some e) : L.take (k + 1) = L.take k ++ [e] := by rw [List.take_add_one, he]; rfl
end Go.Proofs.YtabahmnagffnbaaGreatDoor

namespace Go.Proofs.YtabahmnagffnbaaGreatDoor
open Go.RowKit Go.Maps

/-- The blocks that may turn; all blocks. -/
def ROwn (yb : Nat) (va vs : Value) (k : Nat) : Prop := k = yb ∨ va.ownBlock = some k ∨ vs.ownBlock = some k
def RAll (yb : Nat) (vf va vs : Value) (k : Nat) : Prop := ROwn yb va vs k ∨ vf.ownBlock = some k
theorem own_lt {w : World} {B e z n : Nat} {v : Value} {xs : List Value} (h : w.ownsRow B e z v n xs) {k : Nat} (hk : v.ownBlock = some k) : k < w.heap.size := (World.ownsRow.lt h k hk).2
theorem own_type {w : World} {B e z n : Nat} {v : Value} {xs : List Value} (h : w.ownsRow B e z v n xs) {k : Nat} (hk : v.ownBlock = some k) : ∃ cur, w.heap[k]? = some (.cells cur e (0, 0)) := by
  rcases h.2 with ⟨rfl, _⟩ | ⟨g, cap, cur, rfl, _, hg, _⟩
  · cases hk
  · cases hk; exact ⟨cur, hg⟩
theorem row_ne {w : World} {B B' e e' z z' n n' : Nat} {v v' : Value} {xs xs' : List Value} (h : w.ownsRow B e z v n xs) (h' : w.ownsRow B' e' z' v' n' xs') (hne : e ≠ e') {k : Nat} (hk : v.ownBlock = some k) : v'.ownBlock ≠ some k := fun e => by
  obtain ⟨c1, h1⟩ := own_type h hk
  obtain ⟨c2, h2⟩ := own_type h' e
  rw [h1] at h2
  cases h2
  exact hne rfl
/-- A call has done something to the document's store, and to nothing else. -/
structure RGoes (w : World) (yb : Nat) (vf va vs : Value) (w' : World) (vf' va' vs' : Value) : Prop where
  turn : Turn (ROwn yb va vs) w w'
  own : ∀ k, ROwn yb va' vs' k → ROwn yb va vs k ∨ w.heap.size ≤ k
  all : ∀ k, vf'.ownBlock = some k → vf.ownBlock = some k ∨ w.heap.size ≤ k
theorem RGoes.trans {w w1 w2 : World} {yb : Nat} {vf va vs vf1 va1 vs1 vf2 va2 vs2 : Value} (h : RGoes w yb vf va vs w1 vf1 va1 vs1) (k : RGoes w1 yb vf1 va1 vs1 w2 vf2 va2 vs2) : RGoes w yb vf va vs w2 vf2 va2 vs2 := by
  refine ⟨h.turn.trans k.turn h.own, fun i hi => ?_, fun i hi => ?_⟩
  · rcases k.own i hi with e | e
    · exact h.own i e
    · exact .inr (Nat.le_trans h.turn.size e)
  · rcases k.all i hi with e | e
    · exact h.all i e
    · exact .inr (Nat.le_trans h.turn.size e)
theorem RGoes.of_below {w w' : World} {yb : Nat} {vf va vs : Value} (h : Below w.heap.size w w') : RGoes w yb vf va vs w' vf va vs := ⟨Turn.of_below h, fun _ => .inl, fun _ => .inl⟩
theorem one_old {w w1 : World} {o : Obj} {row : Option Nat} (hg : (w.alloc o).drew.grownBy w1 row) {k : Nat} (hk : k < w.heap.size) (hr : row ≠ some k) : w1.heap[k]? = w.heap[k]? :=
  (hg.block k (by show _ < (w.alloc _).heap.size; simp; omega) (fun e => hr e.symm)).trans (Below.heap_alloc _ _ _ hk)
theorem box_below' (w : World) (o : Obj) : Below w.heap.size w (w.alloc o).drew := by
  have b := (Below.refl _ w).alloc (Nat.le_refl _) o
  exact ⟨b.os, b.tape, b.output, b.size, b.block⟩
end Go.Proofs.YtabahmnagffnbaaGreatDoor

namespace Go.Proofs.YtabahmnagffnbaaGreatDoor
open Go.RowKit Go.Maps

abbrev nul : ByteArray := ⟨#[]⟩
theorem OwnB.any {w : World} {B : Nat} {v : Value} {l : List Blb} (h : OwnB w B v l) : OwnB w 0 v l := h.base (Nat.zero_le _)
theorem OwnB.new {w : World} {B : Nat} {v : Value} {l : List Blb} (h : OwnB w B v l) : ∀ k, v.ownBlock = some k → B ≤ k := fun k hk => (World.ownsRow.lt h k hk).1
theorem box_later (w : World) (o : Obj) {w2 : World} (h : Below (w.alloc o).heap.size (w.alloc o) w2) : Below w.heap.size w w2 := ((Below.refl _ w).alloc (Nat.le_refl _) o).trans (Below.mono h (by simp))
end Go.Proofs.YtabahmnagffnbaaGreatDoor
