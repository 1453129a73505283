import Derived.Test.YtpiponkhhimaoaaGreatDoorJPlain
import Derived.WalkSpells
import Derived.OwnWalk
import Derived.ArgAppend
import Derived.Laws.OwnMore
import Derived.Deep.AppendLies
import Derived.Deep.RegionHeld3
import Derived.Deep.RegionLaw
namespace Go.Proofs.YtpiponkhhimaoaaGreatDoor
open Go.RowKit Go.Maps

/-- An act. -/
structure Ac where
  what : Int
  name : ByteArray
  dest : ByteArray
  data : ByteArray
def Ac.cells (a : Ac) : List Value := [.int .i64 a.what, .string a.name, .string a.dest, .string a.data]
def acC (l : List Ac) : List Value := (l.map Ac.cells).flatten
theorem acC_len (l : List Ac) : (acC l).length = l.length * 4 := by
  induction l with
  | nil => rfl
  | cons a r ih => simp only [acC, List.map_cons, List.flatten_cons, List.length_append, List.length_cons] at ih ⊢; rw [ih]; simp [Ac.cells]; omega
theorem acC_snoc (l : List Ac) (a : Ac) : acC (l ++ [a]) = acC l ++ a.cells := by simp [acC]
theorem ac_one (a : Ac) : ∀ u ∈ a.cells, u.oneCell' = true := fun u hu => by
  simp only [Ac.cells, List.mem_cons, List.not_mem_nil, or_false] at hu
  rcases hu with rfl | rfl | rfl | rfl <;> rfl
theorem info138 : (Tryz.prog.info? 66).map (fun i => (i.zero, i.size, i.bytes)) = some (some (.agg #[.int .i64 0, .string ByteArray.empty, .string ByteArray.empty, .string ByteArray.empty]), 4, 56) := by kernel_rfl
/-- Only some blocks have turned. -/
structure Turn (S : Nat → Prop) (w w' : World) : Prop where
  os : w'.os = w.os
  tape : w'.tape = w.tape
  output : w'.output = w.output
  size : w.heap.size ≤ w'.heap.size
  block : ∀ k, k < w.heap.size → ¬ S k → w'.heap[k]? = w.heap[k]?
theorem Turn.refl (S : Nat → Prop) (w : World) : Turn S w w := ⟨rfl, rfl, rfl, Nat.le_refl _, fun _ _ _ => rfl⟩
theorem Turn.trans {S T : Nat → Prop} {a b c : World} (h : Turn S a b) (k : Turn T b c) (hT : ∀ i, T i → S i ∨ a.heap.size ≤ i) : Turn S a c :=
  ⟨k.os.trans h.os, k.tape.trans h.tape, k.output.trans h.output, Nat.le_trans h.size k.size, fun i hi hs =>
    (k.block i (Nat.lt_of_lt_of_le hi h.size) (fun ht => by rcases hT i ht with h1 | h1; exact hs h1; omega)).trans (h.block i hi hs)⟩
theorem Turn.mono {S T : Nat → Prop} {a b : World} (h : Turn S a b) (hT : ∀ i, S i → T i) : Turn T a b := ⟨h.os, h.tape, h.output, h.size, fun i hi ht => h.block i hi (fun hs => ht (hT i hs))⟩
theorem Turn.of_below {S : Nat → Prop} {w w' : World} (h : Below w.heap.size w w') : Turn S w w' := ⟨h.os, h.tape, h.output, h.size, fun k hk _ => h.block k hk⟩
theorem Turn.of_grown {S : Nat → Prop} {w w' : World} {row : Option Nat} (h : w.grownBy w' row) (hr : ∀ k, row = some k → S k) : Turn S w w' := ⟨h.os, h.tape, h.output, h.size, fun k hk hs => h.block k hk (fun e => hs (hr k e.symm))⟩
theorem Turn.of_set {S : Nat → Prop} (w : World) (a : Addr) (v : Value) (hs : S a.block) : Turn S w (w.setCell a v) := by
  refine ⟨rfl, rfl, rfl, by simp, fun k hk hk' => ?_⟩
  exact Below.heap_setCell _ _ _ _ (fun e => hk' (by rw [e]; exact hs))
theorem Turn.cell {S : Nat → Prop} {w w' : World} (h : Turn S w w') {a : Addr} {v : Value} (hc : w.cell? a = some v) (hs : ¬ S a.block) : w'.cell? a = some v := by
  have hlt := World.block_lt_of_cell? _ _ hc
  rw [World.cell?_of_block (h.block a.block hlt hs)]; exact hc
/-- A store of the program's lies in memory. -/
structure PSt (w : World) (sb mb : Nat) (v : Value) (L : List Blb) (q : Int) (A : List Ac) : Prop where
  cells : w.heap[sb]? = some (.cells #[.map (some mb), .int .i64 q, v] 129 (0, 0))
  map : FM w mb L.length L
  row : w.ownsRow 0 66 4 v A.length (acC A)
/-- The blocks of a store. -/
def Own (sb mb : Nat) (v : Value) (k : Nat) : Prop := k = sb ∨ k = mb ∨ v.ownBlock = some k
theorem PSt.lt {w : World} {sb mb : Nat} {v : Value} {L : List Blb} {q : Int} {A : List Ac} (h : PSt w sb mb v L q A) : ∀ k, Own sb mb v k → k < w.heap.size := by
  rintro k (rfl | rfl | e)
  · exact (Array.getElem?_eq_some_iff.1 h.cells).1
  · exact World.ownsMap.lt h.map
  · rcases h.row.2 with ⟨rfl, _⟩ | ⟨g, cap, cur, rfl, _, hg, _⟩
    · cases e
    · cases e; exact (Array.getElem?_eq_some_iff.1 hg).1
theorem PSt.sb_mb {w : World} {sb mb : Nat} {v : Value} {L : List Blb} {q : Int} {A : List Ac} (h : PSt w sb mb v L q A) : sb ≠ mb := by
  rintro rfl
  obtain ⟨es, clock, hb, _⟩ := h.map
  have := h.cells
  rw [hb] at this; cases this
theorem PSt.sb_row {w : World} {sb mb : Nat} {v : Value} {L : List Blb} {q : Int} {A : List Ac} (h : PSt w sb mb v L q A) : v.ownBlock ≠ some sb := by
  rintro e
  rcases h.row.2 with ⟨rfl, _⟩ | ⟨g, cap, cur, rfl, _, hg, _⟩
  · cases e
  · obtain rfl : g = sb := by simpa [Value.ownBlock] using e
    have := h.cells
    rw [hg] at this; cases this
theorem PSt.mb_row {w : World} {sb mb : Nat} {v : Value} {L : List Blb} {q : Int} {A : List Ac} (h : PSt w sb mb v L q A) : v.ownBlock ≠ some mb := by
  rintro e
  obtain ⟨es, clock, hb, _⟩ := h.map
  rcases h.row.2 with ⟨rfl, _⟩ | ⟨g, cap, cur, rfl, _, hg, _⟩
  · cases e
  · obtain rfl : g = mb := by simpa [Value.ownBlock] using e
    rw [hg] at hb; cases hb
theorem row_turn {w w' : World} {e z n : Nat} {v : Value} {xs : List Value} (h : w.ownsRow 0 e z v n xs) (hk : ∀ k, v.ownBlock = some k → w'.heap[k]? = w.heap[k]?) : w'.ownsRow 0 e z v n xs := by
  refine ⟨h.1, ?_⟩
  rcases h.2 with h0 | ⟨g, cap, cur, hv, h1, h2, h3⟩
  · exact .inl h0
  · refine .inr ⟨g, cap, cur, hv, h1, (hk g ?_).trans h2, h3⟩
    rw [hv]; rfl
/-- What turns elsewhere leaves a store as it is. -/
theorem PSt.turn {w w' : World} {sb mb : Nat} {v : Value} {L : List Blb} {q : Int} {A : List Ac} {S : Nat → Prop} (h : PSt w sb mb v L q A) (ht : Turn S w w') (hs : ∀ k, Own sb mb v k → ¬ S k) : PSt w' sb mb v L q A := by
  have e : ∀ k, Own sb mb v k → w'.heap[k]? = w.heap[k]? := fun k hk => ht.block k (h.lt k hk) (hs k hk)
  refine ⟨(e sb (.inl rfl)).trans h.cells, ?_, row_turn h.row fun k hk => e k (.inr (.inr hk))⟩
  obtain ⟨es, clock, hb, r⟩ := h.map
  exact ⟨es, clock, (e mb (.inr (.inl rfl))).trans hb, r⟩
theorem PSt.below {w w' : World} {sb mb : Nat} {v : Value} {L : List Blb} {q : Int} {A : List Ac} (h : PSt w sb mb v L q A) (hb : Below w.heap.size w w') : PSt w' sb mb v L q A :=
  h.turn (S := fun _ => False) (Turn.of_below hb) (fun _ _ => id)
/-- A call has done something to a store, and to nothing else. -/
structure Goes (w : World) (sb mb : Nat) (v : Value) (w' : World) (v' : Value) : Prop where
  turn : Turn (Own sb mb v) w w'
  own : ∀ k, v'.ownBlock = some k → v.ownBlock = some k ∨ w.heap.size ≤ k
theorem Goes.trans {w w1 w2 : World} {sb mb : Nat} {v v1 v2 : Value} (h : Goes w sb mb v w1 v1) (k : Goes w1 sb mb v1 w2 v2) : Goes w sb mb v w2 v2 := by
  refine ⟨h.turn.trans k.turn ?_, fun i hi => ?_⟩
  · rintro i (rfl | rfl | e)
    · exact .inl (.inl rfl)
    · exact .inl (.inr (.inl rfl))
    · exact (h.own i e).imp (fun e => .inr (.inr e)) id
  · rcases k.own i hi with e | e
    · exact h.own i e
    · exact .inr (Nat.le_trans h.turn.size e)
theorem Goes.of_below {w w' : World} {sb mb : Nat} {v : Value} (h : Below w.heap.size w w') : Goes w sb mb v w' v := ⟨Turn.of_below h, fun _ => .inl⟩
theorem two_new (w : World) (o o' : Obj) : ((w.alloc o).alloc o').drew.heap[w.heap.size + 1]? = some o' := by
  have := heap_alloc_new (w.alloc o) o'
  rwa [World.size_alloc] at this
theorem two_box {w w1 : World} {cs : Array Value} {t : TypeId} {o : Obj} {row : Option Nat} (hg : ((w.alloc (.cells cs t)).alloc o).drew.grownBy w1 row) (hr : ∀ k, row = some k → k < w.heap.size) (j : Nat) {u : Value} (hu : cs[j]? = some u) : w1.cell? ⟨w.heap.size, j, none⟩ = some u := by
  have h1 : ((w.alloc (.cells cs t)).alloc o).drew.heap[w.heap.size]? = some (.cells cs t) := (Below.heap_alloc _ _ _ (by simp)).trans (heap_alloc_new _ _)
  have h2 := (hg.block w.heap.size (by show _ < ((w.alloc _).alloc o).heap.size; simp; omega) (fun e => by have := hr _ e.symm; omega)).trans h1
  rw [cell_of_row _ _ j _ _ _ h2]; exact hu
theorem two_old {w w1 : World} {o o' : Obj} {row : Option Nat} (hg : ((w.alloc o).alloc o').drew.grownBy w1 row) {k : Nat} (hk : k < w.heap.size) (hr : row ≠ some k) : w1.heap[k]? = w.heap[k]? :=
  (hg.block k (by show _ < ((w.alloc _).alloc o').heap.size; simp; omega) (fun e => hr e.symm)).trans ((Below.heap_alloc _ _ _ (by simp; omega)).trans (Below.heap_alloc _ _ _ hk))
theorem set_box {w w1 : World} {cs : Array Value} {t : TypeId} {o : Obj} {row : Option Nat} {sb i : Nat} {x : Value} (hg : ((w.alloc (.cells cs t)).alloc o).drew.grownBy w1 row) (hr : ∀ k, row = some k → k < w.heap.size) (hs : sb < w.heap.size) (j : Nat) {u : Value} (hu : cs[j]? = some u) : (w1.setCell ⟨sb, i, none⟩ x).cell? ⟨w.heap.size, j, none⟩ = some u := by
  rw [World.cell?_of_block (Below.heap_setCell w1 ⟨sb, i, none⟩ x w.heap.size (by show w.heap.size ≠ sb; omega))]
  exact two_box hg hr j hu
theorem tell_end {w w1 : World} {o o' : Obj} {sb mb : Nat} {v : Value} {L : List Blb} {q : Int} {A : List Ac} {a : Ac} {gg cp : Nat} (h : PSt w sb mb v L q A) (hown : w1.ownsRow 0 66 4 (.slice (some ⟨gg, 0, none⟩) (A.length + 1) cp) (A.length + 1) (acC A ++ a.cells))
    (hg : ((w.alloc o).alloc o').drew.grownBy w1 v.ownBlock) (hl : v.ownBlock = some gg ∨ gg = w.heap.size + 2) (_ : gg < w1.heap.size) :
    PSt (w1.setCell ⟨sb, 2, none⟩ (.slice (some ⟨gg, 0, none⟩) (A.length + 1) cp)) sb mb (.slice (some ⟨gg, 0, none⟩) (A.length + 1) cp) L q (A ++ [a]) ∧ Goes w sb mb v (w1.setCell ⟨sb, 2, none⟩ (.slice (some ⟨gg, 0, none⟩) (A.length + 1) cp)) (.slice (some ⟨gg, 0, none⟩) (A.length + 1) cp) := by
  have hsl : sb < w.heap.size := h.lt sb (.inl rfl)
  have hml : mb < w.heap.size := h.lt mb (.inr (.inl rfl))
  have hs1 := (two_old hg hsl h.sb_row).trans h.cells
  have hm1 := two_old hg hml h.mb_row
  have hgs : gg ≠ sb := by
    rintro rfl
    rcases hl with e | e
    · exact h.sb_row e
    · omega
  have hoth : ∀ k, k ≠ sb → (w1.setCell ⟨sb, 2, none⟩ (.slice (some ⟨gg, 0, none⟩) (A.length + 1) cp)).heap[k]? = w1.heap[k]? := fun k hk => Below.heap_setCell _ _ _ _ hk
  have hz : w.heap.size ≤ w1.heap.size := Nat.le_trans (by show _ ≤ ((w.alloc o).alloc o').heap.size; simp; omega) hg.size
  refine ⟨⟨?_, ?_, ?_⟩, ⟨?_, ?_⟩⟩
  · exact heap_setCell_same _ _ 2 _ _ _ hs1
  · obtain ⟨es, clock, hb, r⟩ := h.map
    exact ⟨es, clock, (hoth mb h.sb_mb.symm).trans (hm1.trans hb), r⟩
  · rw [acC_snoc, List.length_append]
    exact row_turn hown fun k hk => hoth k (by cases hk; exact hgs)
  · refine ⟨hg.os, hg.tape, hg.output, by simpa using hz, fun k hk hk' => ?_⟩
    exact (hoth k (fun e => hk' (.inl e))).trans (two_old hg hk (fun e => hk' (.inr (.inr e))))
  · rintro k hk
    cases hk
    exact hl.imp id (fun e => by show w.heap.size ≤ gg; omega)
set_option maxHeartbeats 1000000 in
set_option maxRecDepth 100000 in
theorem tell_act (sb mb : Nat) (v : Value) (L : List Blb) (q : Int) (A : List Ac) (a : Ac) (w : World) (h : PSt w sb mb v L q A) (hA : A.length ≤ 1099511627776) :
    Calls Tryz.prog 147 #[.pointer (some ⟨sb, 0, none⟩), .agg #[.int .i64 a.what, .string a.name, .string a.dest, .string a.data]] w fun ev w' => ev = .returned (.tuple #[]) ∧ ∃ v', PSt w' sb mb v' L q (A ++ [a]) ∧ Goes w sb mb v w' v' := by
  obtain ⟨i0, hi, hz0, hz1, hz2⟩ := info_parts info138
  have hsl : sb < w.heap.size := h.lt sb (.inl rfl)
  have hrl : ∀ k, v.ownBlock = some k → k < w.heap.size := fun k hk => h.lt k (.inr (.inr hk))
  have c2 : w.cell? ⟨sb, 2, none⟩ = some v := cell_of_row _ _ 2 _ _ _ h.cells
  have n0 := World.new_ne w ⟨sb, 2, none⟩ c2
  have HP := hide h
  have hrow := h.row
  have hsr := h.sb_row
  have hcl := h.cells
  clear h
  go_enter Tryz.func147, Tryz.ntmps147
  go_upto_region 1 with fail
  go_region_law
    ((refine step_append_lies _ (by rfl) _ _ _ (by rfl) 0 66 i0 _ 4 56 Tryz.underlying61 hi hz0 hz1 hz2 rfl (by decide) v A.length (acC A) (by rfl) (by exact World.ownsRow.alloc (World.ownsRow.alloc hrow (.cells #[.int .i64 a.what, .string a.name, .string a.dest, .string a.data] 66)) (.cells #[.int .i64 a.what, .string a.name, .string a.dest, .string a.data] 66)) ⟨w.heap.size + 1, 0, none⟩ 1 1 a.cells (by rfl) (by rfl) (by exact World.news_of_block (cs := #[.int .i64 a.what, .string a.name, .string a.dest, .string a.data]) (t := 66) (fr := (0, 0)) (two_new _ _ _)) (ac_one a) (by omega) (by unfold maxLen; omega) (by omega) (by omega) (w.heap.size + 2) (by simp) ?_; intro gg cp1 w1 hown1 hgrow hlies hgl; have hs1 := (two_old hgrow hsl hsr).trans hcl; have k2 : w1.cell? ⟨sb, 2, none⟩ = some v := cell_of_row _ _ 2 _ _ _ hs1; have f2 : w1.frozen? ⟨sb, 2, none⟩ = false := by simp [World.frozen?, hs1]))
  all_goals
    try go_wp2_with fail
    go_end0
    exact ⟨rfl, _, tell_end (unhide HP) hown1 hgrow hlies hgl⟩
end Go.Proofs.YtpiponkhhimaoaaGreatDoor
