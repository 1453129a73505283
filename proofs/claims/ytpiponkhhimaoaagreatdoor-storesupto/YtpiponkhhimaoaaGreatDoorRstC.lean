import Derived.Test.YtpiponkhhimaoaaGreatDoorJRstA
namespace Go.Proofs.YtpiponkhhimaoaaGreatDoor
open Go.RowKit Go.Maps

/-- A store of the document's lies in memory. -/
structure RSt (w : World) (yb : Nat) (vf va vs : Value) (L : List Blb) (q : Int) (A : List Ac) (N : List Blb) (c : Bool) : Prop where
  cells : w.heap[yb]? = some (.cells #[vf, .int .i64 q, va, vs, .bool c] 64 (0, 0))
  files : OwnB w 0 vf L
  acts : w.ownsRow 0 66 4 va A.length (acC A)
  seen : OwnB w 0 vs N
  apart : ∀ k, vs.ownBlock = some k → vf.ownBlock ≠ some k
/-- The blocks that may turn; all blocks. -/
def ROwn (yb : Nat) (va vs : Value) (k : Nat) : Prop := k = yb ∨ va.ownBlock = some k ∨ vs.ownBlock = some k
def RAll (yb : Nat) (vf va vs : Value) (k : Nat) : Prop := ROwn yb va vs k ∨ vf.ownBlock = some k
theorem own_lt {w : World} {B e z n : Nat} {v : Value} {xs : List Value} (h : w.ownsRow B e z v n xs) {k : Nat} (hk : v.ownBlock = some k) : k < w.heap.size := (World.ownsRow.lt h k hk).2
theorem own_type {w : World} {B e z n : Nat} {v : Value} {xs : List Value} (h : w.ownsRow B e z v n xs) {k : Nat} (hk : v.ownBlock = some k) : ∃ cur, w.heap[k]? = some (.cells cur e (0, 0)) := by
  rcases h.2 with ⟨rfl, _⟩ | ⟨g, cap, cur, rfl, _, hg, _⟩
  · cases hk
  · cases hk; exact ⟨cur, hg⟩
theorem RSt.lt {w : World} {yb : Nat} {vf va vs : Value} {L : List Blb} {q : Int} {A : List Ac} {N : List Blb} {c : Bool} (h : RSt w yb vf va vs L q A N c) : ∀ k, RAll yb vf va vs k → k < w.heap.size := by
  rintro k ((rfl | e | e) | e)
  · exact (Array.getElem?_eq_some_iff.1 h.cells).1
  · exact own_lt h.acts e
  · exact own_lt h.seen e
  · exact own_lt h.files e
theorem RSt.ya {w : World} {yb : Nat} {vf va vs : Value} {L : List Blb} {q : Int} {A : List Ac} {N : List Blb} {c : Bool} (h : RSt w yb vf va vs L q A N c) : va.ownBlock ≠ some yb := fun e => by
  obtain ⟨cur, hc⟩ := own_type h.acts e
  rw [h.cells] at hc; cases hc
theorem RSt.ys {w : World} {yb : Nat} {vf va vs : Value} {L : List Blb} {q : Int} {A : List Ac} {N : List Blb} {c : Bool} (h : RSt w yb vf va vs L q A N c) : vs.ownBlock ≠ some yb := fun e => by
  obtain ⟨cur, hc⟩ := own_type h.seen e
  rw [h.cells] at hc; cases hc
theorem RSt.yf {w : World} {yb : Nat} {vf va vs : Value} {L : List Blb} {q : Int} {A : List Ac} {N : List Blb} {c : Bool} (h : RSt w yb vf va vs L q A N c) : vf.ownBlock ≠ some yb := fun e => by
  obtain ⟨cur, hc⟩ := own_type h.files e
  rw [h.cells] at hc; cases hc
theorem row_ne {w : World} {B B' e e' z z' n n' : Nat} {v v' : Value} {xs xs' : List Value} (h : w.ownsRow B e z v n xs) (h' : w.ownsRow B' e' z' v' n' xs') (hne : e ≠ e') {k : Nat} (hk : v.ownBlock = some k) : v'.ownBlock ≠ some k := fun e => by
  obtain ⟨c1, h1⟩ := own_type h hk
  obtain ⟨c2, h2⟩ := own_type h' e
  rw [h1] at h2
  cases h2
  exact hne rfl
theorem RSt.turn {w w' : World} {yb : Nat} {vf va vs : Value} {L : List Blb} {q : Int} {A : List Ac} {N : List Blb} {c : Bool} {S : Nat → Prop} (h : RSt w yb vf va vs L q A N c) (ht : Turn S w w') (hs : ∀ k, RAll yb vf va vs k → ¬ S k) : RSt w' yb vf va vs L q A N c := by
  have e : ∀ k, RAll yb vf va vs k → w'.heap[k]? = w.heap[k]? := fun k hk => ht.block k (h.lt k hk) (hs k hk)
  exact ⟨(e yb (.inl (.inl rfl))).trans h.cells, row_turn h.files fun k hk => e k (.inr hk), row_turn h.acts fun k hk => e k (.inl (.inr (.inl hk))), row_turn h.seen fun k hk => e k (.inl (.inr (.inr hk))), h.apart⟩
theorem RSt.below {w w' : World} {yb : Nat} {vf va vs : Value} {L : List Blb} {q : Int} {A : List Ac} {N : List Blb} {c : Bool} (h : RSt w yb vf va vs L q A N c) (hb : Below w.heap.size w w') : RSt w' yb vf va vs L q A N c :=
  h.turn (S := fun _ => False) (Turn.of_below hb) (fun _ _ => id)
/-- A call has done something to the document's store, and to nothing else. -/
structure RGoes (w : World) (yb : Nat) (vf va vs : Value) (w' : World) (vf' va' vs' : Value) : Prop where
  turn : Turn (ROwn yb va vs) w w'
  own : ∀ k, ROwn yb va' vs' k → ROwn yb va vs k ∨ w.heap.size ≤ k
  all : ∀ k, vf'.ownBlock = some k → vf.ownBlock = some k ∨ w.heap.size ≤ k
theorem RGoes.trans {w w1 w2 : World} {yb : Nat} {vf va vs vf1 va1 vs1 vf2 va2 vs2 : Value} (h : RGoes w yb vf va vs w1 vf1 va1 vs1) (k : RGoes w1 yb vf1 va1 vs1 w2 vf2 va2 vs2) : RGoes w yb vf va vs w2 vf2 va2 vs2 := by
  refine ⟨h.turn.trans k.turn h.own, fun i hi => ?_, fun i hi => ?_⟩
  · rcases k.own i hi with e | e
    · exact h.own i e
    · exact .inr (Nat.le_trans h.turn.size e)
  · rcases k.all i hi with e | e
    · exact h.all i e
    · exact .inr (Nat.le_trans h.turn.size e)
theorem RGoes.of_below {w w' : World} {yb : Nat} {vf va vs : Value} (h : Below w.heap.size w w') : RGoes w yb vf va vs w' vf va vs := ⟨Turn.of_below h, fun _ => .inl, fun _ => .inl⟩
/-- The files have turned. -/
theorem RSt.set_files {w w1 : World} {yb : Nat} {vf va vs vf' : Value} {L L' : List Blb} {q : Int} {A : List Ac} {N : List Blb} {c : Bool} (h : RSt w yb vf va vs L q A N c) (hb : Below w.heap.size w w1) (ho : OwnB w1 0 vf' L') (hn : vf' = vf ∨ ∀ k, vf'.ownBlock = some k → w.heap.size ≤ k) :
    RSt (w1.setCell ⟨yb, 0, none⟩ vf') yb vf' va vs L' q A N c ∧ RGoes w yb vf va vs (w1.setCell ⟨yb, 0, none⟩ vf') vf' va vs := by
  have h1 := h.below hb
  have hoth : ∀ k, k ≠ yb → (w1.setCell ⟨yb, 0, none⟩ vf').heap[k]? = w1.heap[k]? := fun k hk => Below.heap_setCell _ _ _ _ hk
  have hyl := h.lt yb (.inl (.inl rfl))
  have hfy : ∀ k, vf'.ownBlock = some k → k ≠ yb := fun k hk e => by
    rcases hn with rfl | hn
    · exact h.yf (e ▸ hk)
    · have := hn k hk; omega
  refine ⟨⟨heap_setCell_same _ _ 0 _ _ _ h1.cells, row_turn ho fun k hk => hoth k (hfy k hk), row_turn h1.acts fun k hk => hoth k (fun e => h1.ya (e ▸ hk)), row_turn h1.seen fun k hk => hoth k (fun e => h1.ys (e ▸ hk)), fun k hk => ?_⟩, ⟨?_, fun _ => .inl, fun k hk => ?_⟩⟩
  · rcases hn with rfl | hn
    · exact h.apart k hk
    · intro e
      have := hn k e
      have := own_lt h.seen hk
      omega
  · exact (Turn.of_below hb).trans (Turn.of_set w1 ⟨yb, 0, none⟩ vf' (S := ROwn yb va vs) (.inl rfl)) (fun i hi => .inl hi)
  · rcases hn with rfl | hn
    · exact .inl hk
    · exact .inr (hn k hk)
/-- One act more. -/
theorem RSt.more_acts {w w1 : World} {o : Obj} {yb : Nat} {vf va vs : Value} {L : List Blb} {q : Int} {A : List Ac} {N : List Blb} {c : Bool} {a : Ac} {gg cp : Nat} (h : RSt w yb vf va vs L q A N c) (hown : w1.ownsRow 0 66 4 (.slice (some ⟨gg, 0, none⟩) (A.length + 1) cp) (A.length + 1) (acC A ++ a.cells))
    (hg : (w.alloc o).drew.grownBy w1 va.ownBlock) (hl : va.ownBlock = some gg ∨ gg = w.heap.size + 1) :
    RSt (w1.setCell ⟨yb, 2, none⟩ (.slice (some ⟨gg, 0, none⟩) (A.length + 1) cp)) yb vf (.slice (some ⟨gg, 0, none⟩) (A.length + 1) cp) vs L q (A ++ [a]) N c ∧ RGoes w yb vf va vs (w1.setCell ⟨yb, 2, none⟩ (.slice (some ⟨gg, 0, none⟩) (A.length + 1) cp)) vf (.slice (some ⟨gg, 0, none⟩) (A.length + 1) cp) vs := by
  have hold : ∀ k, k < w.heap.size → va.ownBlock ≠ some k → w1.heap[k]? = w.heap[k]? := fun k hk hr =>
    (hg.block k (by show _ < (w.alloc _).heap.size; simp; omega) (fun e => hr e.symm)).trans (Below.heap_alloc _ _ _ hk)
  have hyl := h.lt yb (.inl (.inl rfl))
  have hs1 := (hold yb hyl h.ya).trans h.cells
  have hgy : gg ≠ yb := by
    rintro rfl
    rcases hl with e | e
    · exact h.ya e
    · omega
  have hoth : ∀ k, k ≠ yb → (w1.setCell ⟨yb, 2, none⟩ (.slice (some ⟨gg, 0, none⟩) (A.length + 1) cp)).heap[k]? = w1.heap[k]? := fun k hk => Below.heap_setCell _ _ _ _ hk
  have hz : w.heap.size ≤ w1.heap.size := Nat.le_trans (by show _ ≤ (w.alloc o).heap.size; simp) hg.size
  refine ⟨⟨heap_setCell_same _ _ 2 _ _ _ hs1, row_turn h.files fun k hk => ?_, ?_, row_turn h.seen fun k hk => ?_, h.apart⟩, ⟨?_, ?_, fun _ => .inl⟩⟩
  · exact (hoth k (fun e => h.yf (e ▸ hk))).trans (hold k (own_lt h.files hk) (row_ne h.files h.acts (by decide) hk))
  · rw [acC_snoc, List.length_append]
    exact row_turn hown fun k hk => hoth k (by cases hk; exact hgy)
  · exact (hoth k (fun e => h.ys (e ▸ hk))).trans (hold k (own_lt h.seen hk) (row_ne h.seen h.acts (by decide) hk))
  · refine ⟨hg.os, hg.tape, hg.output, by simpa using hz, fun k hk hk' => ?_⟩
    exact (hoth k (fun e => hk' (.inl e))).trans (hold k hk (fun e => hk' (.inr (.inl e))))
  · rintro k (e | e | e)
    · exact .inl (.inl e)
    · cases e
      exact hl.imp (fun e => .inr (.inl e)) (fun e => by show w.heap.size ≤ gg; omega)
    · exact .inl (.inr (.inr e))
theorem one_old {w w1 : World} {o : Obj} {row : Option Nat} (hg : (w.alloc o).drew.grownBy w1 row) {k : Nat} (hk : k < w.heap.size) (hr : row ≠ some k) : w1.heap[k]? = w.heap[k]? :=
  (hg.block k (by show _ < (w.alloc _).heap.size; simp; omega) (fun e => hr e.symm)).trans (Below.heap_alloc _ _ _ hk)
theorem box_below' (w : World) (o : Obj) : Below w.heap.size w (w.alloc o).drew := by
  have b := (Below.refl _ w).alloc (Nat.le_refl _) o
  exact ⟨b.os, b.tape, b.output, b.size, b.block⟩
/-- What Done does. -/
def DoneIs (w : World) (vf : Value) (a : Ac) (L' : List Blb) : Prop := ∀ w1, Below w.heap.size w w1 → Calls Tryz.prog 57 #[vf, .agg #[.int .i64 a.what, .string a.name, .string a.dest, .string a.data]] w1 fun ev w2 => ∃ v, ev = .returned v ∧ OwnB w2 0 v L' ∧ (v = vf ∨ ∀ k, v.ownBlock = some k → w1.heap.size ≤ k) ∧ Below w1.heap.size w1 w2
set_option maxHeartbeats 1000000 in
set_option maxRecDepth 100000 in
theorem do_any (yb : Nat) (vf va vs : Value) (L L' : List Blb) (q : Int) (A : List Ac) (N : List Blb) (c : Bool) (a : Ac) (w : World) (h : RSt w yb vf va vs L q A N c) (hA : A.length ≤ 1099511627776) (hD : DoneIs w vf a L') :
    Calls Tryz.prog 32 #[.pointer (some ⟨yb, 0, none⟩), .agg #[.int .i64 a.what, .string a.name, .string a.dest, .string a.data]] w fun ev w' => ev = .returned (.tuple #[]) ∧ ∃ vf' va', RSt w' yb vf' va' vs L' q (A ++ [a]) N c ∧ RGoes w yb vf va vs w' vf' va' vs := by
  obtain ⟨i0, hi, hz0, hz1, hz2⟩ := info_parts info138
  have c0 : w.cell? ⟨yb, 0, none⟩ = some vf := cell_of_row _ _ 0 _ _ _ h.cells
  have hyl := h.lt yb (.inl (.inl rfl))
  have n0 := World.new_ne w ⟨yb, 0, none⟩ c0
  have HP := hide h
  have HD := hD _ (box_below' w (.cells #[.int .i64 a.what, .string a.name, .string a.dest, .string a.data] 66))
  clear h hD
  go_enter Tryz.func32, Tryz.ntmps32
  go_upto_region 1 with fail
  go_region_with (go_at_call 57; refine HD.mono ?_; clear HD; rintro ev w1 ⟨vf', rfl, hO1, hn1, hb1⟩; obtain ⟨ao1, cap1, nn1, rfl, hnn, _, _⟩ := ownB_row hO1; subst hnn; have hB1 : Below w.heap.size w w1 := (box_below' w _).trans (Below.mono hb1 (box_below' w _).size); have hc1 := ((unhide HP).below hB1).cells; have k0 : w1.cell? ⟨yb, 0, none⟩ = some vf := cell_of_row _ _ 0 _ _ _ hc1; have f0 : w1.frozen? ⟨yb, 0, none⟩ = false := by simp [World.frozen?, hc1])
  all_goals
    have hb0 : w1.heap[w.heap.size]? = some (.cells #[.int .i64 a.what, .string a.name, .string a.dest, .string a.data] 66 (0, 0)) := (hb1.block w.heap.size (by show _ < (w.alloc _).heap.size; simp)).trans (heap_alloc_new _ _)
    obtain ⟨hP2, hG2⟩ := (unhide HP).set_files hB1 hO1 (hn1.imp id fun hn k hk => Nat.le_trans (box_below' w (.cells #[.int .i64 a.what, .string a.name, .string a.dest, .string a.data] 66)).size (hn k hk))
    have hbx : (w1.setCell ⟨yb, 0, none⟩ (.slice ao1 L'.length cap1)).heap[w.heap.size]? = _ := (Below.heap_setCell w1 ⟨yb, 0, none⟩ (.slice ao1 L'.length cap1) w.heap.size (by show w.heap.size ≠ yb; omega)).trans hb0
    clear k0 f0 hc1 hb0 hO1 hn1 hb1 c0 n0
    generalize w1.setCell ⟨yb, 0, none⟩ (.slice ao1 L'.length cap1) = w2 at *
    have b0 : w2.cell? ⟨w.heap.size, 0, none⟩ = some (.int .i64 a.what) := cell_of_row _ _ 0 _ _ _ hbx
    have b1 : w2.cell? ⟨w.heap.size, 1, none⟩ = some (.string a.name) := cell_of_row _ _ 1 _ _ _ hbx
    have b2 : w2.cell? ⟨w.heap.size, 2, none⟩ = some (.string a.dest) := cell_of_row _ _ 2 _ _ _ hbx
    have b3 : w2.cell? ⟨w.heap.size, 3, none⟩ = some (.string a.data) := cell_of_row _ _ 3 _ _ _ hbx
    have c2 : w2.cell? ⟨yb, 2, none⟩ = some va := cell_of_row _ _ 2 _ _ _ hP2.cells
    have n2 := World.new_ne w2 ⟨yb, 2, none⟩ c2
    have n3 := World.new_ne w2 ⟨w.heap.size, 0, none⟩ b0
    have hya := hP2.ya
    have hcl2 := hP2.cells
    have hyl2 := hP2.lt yb (.inl (.inl rfl))
    have hrow := hP2.acts
    have HP2 := hide hP2
    clear hP2 hbx
    go_upto_region 2 with fail
    go_region_law
      ((refine step_append_lies _ (by rfl) _ _ _ (by rfl) 0 66 i0 _ 4 56 Tryz.underlying61 hi hz0 hz1 hz2 rfl (by decide) va A.length (acC A) (by rfl) (by exact World.ownsRow.alloc hrow (.cells #[.int .i64 a.what, .string a.name, .string a.dest, .string a.data] 66)) ⟨w2.heap.size, 0, none⟩ 1 1 a.cells (by rfl) (by rfl) (by exact World.news_of_block (cs := #[.int .i64 a.what, .string a.name, .string a.dest, .string a.data]) (t := 66) (fr := (0, 0)) (heap_alloc_new _ _)) (ac_one a) (by omega) (by unfold maxLen; omega) (by omega) (by omega) (w2.heap.size + 1) (by simp) ?_; intro gg cp1 w3 hown1 hgrow hlies hgl; have hs1 := (one_old hgrow hyl2 hya).trans hcl2; have k2 : w3.cell? ⟨yb, 2, none⟩ = some va := cell_of_row _ _ 2 _ _ _ hs1; have f2 : w3.frozen? ⟨yb, 2, none⟩ = false := by simp [World.frozen?, hs1]))
    all_goals
      try go_wp2_with fail
      go_end0
      obtain ⟨hP3, hG3⟩ := (unhide HP2).more_acts hown1 hgrow hlies
      exact ⟨rfl, _, _, hP3, hG2.trans hG3⟩
end Go.Proofs.YtpiponkhhimaoaaGreatDoor
