import Derived.Test.YtkikhmleffcajaaGreatDoorDcF
import Derived.Laws.AppendOwnNone
import Derived.Deep.RegionLaw
import Derived.Deep.RegionHeld3
import Derived.Deep.AppendLies
namespace Go.Proofs.YtkikhmleffcajaaGreatDoor
open Go.RowKit Go.Maps

theorem quo_app (l : List UInt8) (i : Nat) (acc : List Atm) (n : Nat) : ∀ (k : Nat) (ys : List Atm), l.length - k ≤ n → quoG l i (acc ++ ys) k = (quoG l i ys k).map (fun p => (acc ++ p.1, p.2)) := by
  induction n with
  | zero =>
    intro k ys hn
    have h : l[k]? = none := List.getElem?_eq_none_iff.2 (by omega)
    rw [quo_none h, quo_none h]; rfl
  | succ n ih =>
    intro k ys hn
    cases hc : l[k]? with
    | none => rw [quo_none hc, quo_none hc]; rfl
    | some c =>
      have hlt := (List.getElem?_eq_some_iff.1 hc).1
      rw [quo_some hc, quo_some hc]
      by_cases h10 : c = 10
      · simp only [h10, if_true]; rfl
      by_cases h34 : c = 34
      · simp only [h34, if_true]; rfl
      by_cases h36 : c = 36
      · simp only [h36, if_true]
        cases hv : varG l k with
        | none => rfl
        | some x =>
          obtain ⟨m, t⟩ := x
          by_cases hkt : k < t
          · simp only [hkt, if_true]; rw [List.append_assoc]; exact ih _ _ (by omega)
          · simp only [hkt, if_false]; rfl
      by_cases h92 : c = 92
      · simp only [h92, if_true]
        cases hd : l[k + 1]? with
        | none => rfl
        | some d =>
          by_cases he : escQ d = true
          · simp only [he, if_true]; rw [List.append_assoc]; exact ih _ _ (by omega)
          · simp only [he]; rfl
      simp only [h10, h34, h36, h92, if_false]
      rw [List.append_assoc]; exact ih _ _ (by omega)
theorem quo_acc (l : List UInt8) (i : Nat) (acc : List Atm) (k : Nat) : quoG l i acc k = (quoG l i [] k).map (fun p => (acc ++ p.1, p.2)) := by
  have := quo_app l i acc _ k [] (Nat.le_refl _)
  rwa [List.append_nil] at this
/-- What the document's word answers. -/
def WrdD (w' : World) (B : Nat) (ev : Ending) (r : Res (List Atm × Nat)) (k n : Nat) : Prop := match r with
  | .error (e, p) => e ≠ 0 ∧ ∃ ao n' cap, ev = .returned (.tuple #[.agg #[.slice ao n' cap, .int .i64 (k : Int)], .int .i64 0, fltV e p])
  | .ok (xs, t) => ∃ v, ev = .returned (.tuple #[.agg #[v, .int .i64 (k : Int)], .int .i64 (t : Int), fltV 0 (-1)]) ∧ AtR w' B v xs ∧ k ≤ t ∧ t ≤ n ∧ xs.length + k ≤ t
/-- The worlds inside of word. -/
structure In24 (w wr : World) (x0 x1 v : Value) (xs : List Atm) (k : Nat) : Prop where
  c4 : wr.heap[w.heap.size]? = some (.cells #[x0, x1] 47 (0, 0))
  c6 : wr.heap[w.heap.size + 1]? = some (.cells #[.int .i64 0, .int .i64 0] 28 (0, 0))
  c7 : wr.heap[w.heap.size + 2]? = some (.cells #[v, .int .i64 (k : Int)] 47 (0, 0))
  row : AtR wr (w.heap.size + 3) v xs
  bel : Below w.heap.size w wr
  big : w.heap.size + 3 ≤ wr.heap.size
theorem In24.below {w wr w2 : World} {x0 x1 v : Value} {xs : List Atm} {k : Nat} (h : In24 w wr x0 x1 v xs k) (hb : Below wr.heap.size wr w2) : In24 w w2 x0 x1 v xs k :=
  have hs := h.big
  ⟨(hb.block _ (by omega)).trans h.c4, (hb.block _ (by omega)).trans h.c6, (hb.block _ (by omega)).trans h.c7, row_same h.row fun q hq => hb.block q (World.ownsRow.lt h.row q hq).2, h.bel.trans (hb.mono h.bel.size), Nat.le_trans hs hb.size⟩
theorem In24.alloc {w wr : World} {x0 x1 v : Value} {xs : List Atm} {k : Nat} (h : In24 w wr x0 x1 v xs k) (o : Obj) : In24 w (wr.alloc o) x0 x1 v xs k :=
  h.below ((Below.refl _ _).alloc (Nat.le_refl _) _)
theorem In24.drew {w wr : World} {x0 x1 v : Value} {xs : List Atm} {k : Nat} (h : In24 w wr x0 x1 v xs k) : In24 w wr.drew x0 x1 v xs k :=
  ⟨h.c4, h.c6, h.c7, h.row, h.bel.drew, h.big⟩
theorem In24.grow {w w1 w6 : World} {x0 x1 v v6 : Value} {xs ys : List Atm} {k : Nat} (h : In24 w w1 x0 x1 v xs k) (hg : w1.grownBy w6 v.ownBlock) (hown : AtR w6 (w.heap.size + 3) v6 ys) : In24 w (w6.setCell ⟨w.heap.size + 2, 0, none⟩ v6) x0 x1 v6 ys k := by
  have hs := h.big
  have hap : ∀ q, q < w.heap.size + 3 → w6.heap[q]? = w1.heap[q]? := fun q hq => hg.block q (by omega) (fun e => by
    have := (World.ownsRow.lt h.row q e.symm).1; omega)
  have hot : ∀ q, q ≠ w.heap.size + 2 → (w6.setCell ⟨w.heap.size + 2, 0, none⟩ v6).heap[q]? = w6.heap[q]? := fun q hq => Below.heap_setCell _ _ _ _ hq
  refine ⟨(hot _ (by omega)).trans ((hap _ (by omega)).trans h.c4), (hot _ (by omega)).trans ((hap _ (by omega)).trans h.c6), heap_setCell_same _ _ 0 _ _ _ ((hap _ (by omega)).trans h.c7), ?_, ?_, ?_⟩
  · exact row_same hown fun q hq => hot q (by have := (World.ownsRow.lt hown q hq).1; omega)
  · exact (h.bel.grown hg (by omega) (fun q hq => by have := (World.ownsRow.lt h.row q hq).1; omega)).setCell (p := ⟨w.heap.size + 2, 0, none⟩) (by show _ ≤ w.heap.size + 2; omega) _
  · have := hg.size; simp; omega
theorem set2_other {W : World} {b q : Nat} (hne : q ≠ b) (a0 a1 : Value) : ((W.setCell ⟨b, 0, none⟩ a0).setCell ⟨b, 1, none⟩ a1).heap[q]? = W.heap[q]? := by
  rw [Below.heap_setCell _ _ _ _ hne, Below.heap_setCell _ _ _ _ hne]
theorem keep2 {W : World} {b c i : Nat} {x y v0 : Value} (hne : c ≠ b) (h : W.cell? ⟨c, i, none⟩ = some v0) : ((W.setCell ⟨b, 0, none⟩ x).setCell ⟨b, 1, none⟩ y).cell? ⟨c, i, none⟩ = some v0 := by
  rw [World.cell?_of_block (set2_other hne x y)]; exact h
/-- The word's result is stored. -/
theorem In24.st4 {w wr : World} {x0 x1 v : Value} {xs : List Atm} {k : Nat} (h : In24 w wr x0 x1 v xs k) (a0 a1 : Value) : In24 w ((wr.setCell ⟨w.heap.size, 0, none⟩ a0).setCell ⟨w.heap.size, 1, none⟩ a1) a0 a1 v xs k :=
  ⟨set2 h.c4 _ _, (set2_other (by omega) _ _).trans h.c6, (set2_other (by omega) _ _).trans h.c7, row_same h.row fun q hq => set2_other (by have := (World.ownsRow.lt h.row q hq).1; omega) _ _, below2 h.bel (Nat.le_refl _) _ _, by have := h.big; simp; omega⟩
theorem end24 {tm : Array Value} {W : World} {b c : Nat} {a0 a1 d0 d1 v5 : Value} {R : Ending → World → Prop} (h4 : tm[4]?.getD undef = .pointer (some ⟨b, 0, none⟩)) (h5 : tm[5]?.getD undef = v5) (h6 : tm[6]?.getD undef = .pointer (some ⟨c, 0, none⟩))
    (hb : W.heap[b]? = some (.cells #[a0, a1] 47 (0, 0))) (hc : W.heap[c]? = some (.cells #[d0, d1] 28 (0, 0))) (hR : R (.returned (.tuple #[.agg #[a0, a1], v5, .agg #[d0, d1]])) W) : bodyPost Tryz.prog Tryz.f23 R .ret { tmps := tm, defers := [] } W := by
  have e0 : W.cell? ⟨b, 0, none⟩ = some a0 := cell_of_row _ _ 0 _ _ _ hb
  have e1 : W.cell? ⟨b, 1, none⟩ = some a1 := cell_of_row _ _ 1 _ _ _ hb
  have e2 : W.cell? ⟨c, 0, none⟩ = some d0 := cell_of_row _ _ 0 _ _ _ hc
  have e3 : W.cell? ⟨c, 1, none⟩ = some d1 := cell_of_row _ _ 1 _ _ _ hc
  refine ⟨rfl, _, ?_, hR⟩
  simp only [results, Tryz.results23]
  simp [go_sem, h4, h5, h6, e0, e1, e2, e3]
/-- The fault is stored, behind the word. -/
theorem In24.fin6 {w wr : World} {v : Value} {xs : List Atm} {k : Nat} (h : In24 w wr v (.int .i64 (k : Int)) v xs k) {tm : Array Value} {v5 : Value} {e p : Int} {R : Ending → World → Prop} (h4 : tm[4]?.getD undef = .pointer (some ⟨w.heap.size, 0, none⟩)) (h5 : tm[5]?.getD undef = v5) (h6 : tm[6]?.getD undef = .pointer (some ⟨w.heap.size + 1, 0, none⟩))
    (hR : ∀ W9, AtR W9 w.heap.size v xs → Below w.heap.size w W9 → R (.returned (.tuple #[.agg #[v, .int .i64 (k : Int)], v5, fltV e p])) W9) :
    bodyPost Tryz.prog Tryz.f23 R .ret { tmps := tm, defers := [] } ((wr.setCell ⟨w.heap.size + 1, 0, none⟩ (.int .i64 e)).setCell ⟨w.heap.size + 1, 1, none⟩ (.int .i64 p)) :=
  end24 h4 h5 h6 ((set2_other (by omega) _ _).trans h.c4) (set2 h.c6 _ _) (hR _ (row_base (row_same h.row fun q hq => set2_other (by have := (World.ownsRow.lt h.row q hq).1; omega) _ _) (by omega)) (below2 h.bel (by omega) _ _))
theorem In24.at6 {w w1 w6 : World} {x0 x1 v : Value} {xs : List Atm} {k : Nat} (h : In24 w w1 x0 x1 v xs k) (hg : w1.grownBy w6 v.ownBlock) : w6.cell? ⟨w.heap.size + 2, 0, none⟩ = some v ∧ w6.frozen? ⟨w.heap.size + 2, 0, none⟩ = false := by
  have hs := h.big
  have hc := (hg.block (w.heap.size + 2) (by omega) (fun e => by
    have := (World.ownsRow.lt h.row _ e.symm).1; omega)).trans h.c7
  exact ⟨cell_of_row _ _ 0 _ _ _ hc, by simp [World.frozen?, hc]⟩
theorem AtR.app {w1 : World} {B : Nat} {v' : Value} {xs ys : List Atm} (hown : w1.ownsRow B 75 3 v' (xs.length + ys.length) (atC xs ++ atC ys)) : AtR w1 B v' (xs ++ ys) := by
  unfold AtR; rw [atC_app, List.length_append]; exact hown
theorem atC_one (l : List Atm) : ∀ u ∈ atC l, u.oneCell' = true := fun u hu => by
  obtain ⟨c, hc, hu⟩ := List.mem_flatten.1 hu
  obtain ⟨a, _, rfl⟩ := List.mem_map.1 hc
  exact atm_one a u hu
theorem grown_refl (w : World) (r : Option Nat) : w.grownBy w r := ⟨rfl, rfl, rfl, Nat.le_refl _, fun _ _ _ => rfl⟩
theorem one_newD (w : World) (o : Obj) : (w.alloc o).drew.heap[w.heap.size]? = some o := heap_alloc_new w o
theorem row_tight {w : World} {B e z n : Nat} {v : Value} {xs : List Value} (h : w.ownsRow B e z v n xs) (h0 : n ≠ 0) : ∃ g cap, v = .slice (some ⟨g, 0, none⟩) n cap ∧ B ≤ g ∧ ∀ j u, xs[j]? = some u → w.cell? ((⟨g, 0, none⟩ : Addr).add j) = some u := by
  rcases h.2 with ⟨_, e⟩ | ⟨g, cap, cur, rfl, hg, _⟩
  · exact absurd e h0
  · exact ⟨g, cap, rfl, hg, World.ownsRow.cells h (g := g) rfl⟩
set_option maxHeartbeats 60000000 in
set_option maxRecDepth 10000 in
theorem wrd_doc (s : ByteArray) (k : Nat) (w : World) (hk : k ≤ s.size) (hs : s.size ≤ 1500) :
    Calls Tryz.prog 23 #[.string s, .int .i64 (k : Int)] w fun ev w' => WrdD w' w.heap.size ev (wrdG s.data.toList [] k) k s.size ∧ Below w.heap.size w w' := by
  obtain ⟨i0, hi, hz0, hz1, hz2⟩ := info_parts info76
  obtain ⟨W0, hW0⟩ : ∃ W0, W0 = ((w.alloc (.cells #[.slice none 0 0, .int .i64 0] 47)).alloc (.cells #[.int .i64 0, .int .i64 0] 28)).alloc (.cells #[.slice none 0 0, .int .i64 (k : Int)] 47) := ⟨_, rfl⟩
  have hI0 : In24 w W0 (.slice none 0 0) (.int .i64 0) (.slice none 0 0) [] k := by
    rw [hW0]
    refine ⟨?_, ?_, ?_, World.ownsRow_nil _ _ _ _, ?_, by simp⟩
    · rw [Below.heap_alloc _ _ _ (by simp; omega), Below.heap_alloc _ _ _ (by simp)]; exact heap_alloc_new _ _
    · rw [Below.heap_alloc _ _ _ (by simp)]
      have := heap_alloc_new (w.alloc (.cells #[.slice none 0 0, .int .i64 0] 47)) (.cells #[.int .i64 0, .int .i64 0] 28)
      rw [World.size_alloc] at this; exact this
    · have := heap_alloc_new ((w.alloc (.cells #[.slice none 0 0, .int .i64 0] 47)).alloc (.cells #[.int .i64 0, .int .i64 0] 28)) (.cells #[.slice none 0 0, .int .i64 (k : Int)] 47)
      rw [World.size_alloc, World.size_alloc] at this; exact this
    · exact (((Below.refl _ _).alloc (Nat.le_refl _) _).alloc (by simp) _).alloc (by simp; omega) _
  have HI0 := hide hI0
  clear hI0
  go_enter Tryz.func23, Tryz.ntmps23
  go_upto_region 2 with fail
  rw [← hW0]
  clear hW0
  go_wp2_with fail
  go_loopw [1] (fun i wr => ∃ (j : Nat) (xs : List Atm) (v : Value), i = .int .i64 (j : Int) ∧ In24 w wr (.slice none 0 0) (.int .i64 0) v xs k ∧ wrdG s.data.toList [] k = wrdG s.data.toList xs j ∧ k ≤ j ∧ j ≤ s.size ∧ xs.length + k ≤ j) (fun i _ => s.size - (intOf i).toNat)
  case atStart => exact ⟨k, [], _, rfl, unhide HI0, rfl, Nat.le_refl _, hk, by simp⟩
  case round =>
    obtain ⟨j, xs, v, rfl, hI, hG, hkj, hj, hxl⟩ := hrel
    obtain ⟨ao, n', cap, rfl⟩ := row_form hI.row
    have h0 : wr.cell? ⟨w.heap.size + 2, 0, none⟩ = some (.slice ao n' cap) := cell_of_row _ _ 0 _ _ _ hI.c7
    have h1 : wr.cell? ⟨w.heap.size + 2, 1, none⟩ = some (.int .i64 (k : Int)) := cell_of_row _ _ 1 _ _ _ hI.c7
    have g0 : wr.cell? ⟨w.heap.size, 0, none⟩ = some (.slice none 0 0) := cell_of_row _ _ 0 _ _ _ hI.c4
    have g1 : wr.cell? ⟨w.heap.size, 1, none⟩ = some (.int .i64 0) := cell_of_row _ _ 1 _ _ _ hI.c4
    have gz : ∀ i, wr.frozen? ⟨w.heap.size, i, none⟩ = false := (fun i => by simp [World.frozen?, hI.c4])
    have hbig := hI.big
    have HI := hide hI
    have HG := hide hG
    clear hI hG
    have hS := stops_any s j wr (by omega) hs
    have hO := goes_any s j wr (by omega) hs
    by_cases hst : stopG s.data.toList j = true
    · have HQ : Hid (wrdG s.data.toList xs j = .ok (xs, j)) := hide (wrd_end (by
        unfold stopG at hst
        cases hc : s.data.toList[j]? with
        | none => exact end_none hc
        | some c => rw [hc] at hst; rw [end_some hc]; simp at hst; simp [hst]))
      rw [hst] at hS
      clear hst
      go_upto_region 5 with (first
        | (go_at_call 22; refine hS.mono ?_; clear hS; rintro ev w1 ⟨rfl, hw⟩; obtain rfl := hw.symm)
        | (go_at_call 21; refine hO.mono ?_; clear hO; rintro ev w1 ⟨rfl, hw'⟩; obtain rfl := hw'.symm))
      rename_i K1 a1 K2 a2
      clear a1
      have HST := hide ((unhide HI).st4 (.slice ao n' cap) (.int .i64 (k : Int)))
      go_region_held3 (fun w' => w'.cell? ⟨w.heap.size + 2, 0, none⟩ = some (.slice ao n' cap) ∧ w'.cell? ⟨w.heap.size + 2, 1, none⟩ = some (.int .i64 (k : Int)))
        (first | exact ⟨p0, p1⟩ | exact ⟨h0, h1⟩ | exact ⟨keep2 (by omega) p0, keep2 (by omega) p1⟩ | exact ⟨keep2 (by omega) h0, keep2 (by omega) h1⟩ | exact ⟨keep2 (by omega) (keep2 (by omega) p0), keep2 (by omega) (keep2 (by omega) p1)⟩ | exact ⟨keep2 (by omega) (keep2 (by omega) h0), keep2 (by omega) (keep2 (by omega) h1)⟩)
        (first
          | (go_at_call 15; refine (fine_any _).mono ?_; rintro ev w2 ⟨rfl, hb2'⟩; have hb2 : Below wr.heap.size wr w2 := (by first | exact hb2' | exact below0 hb2'); have HI2 := hide ((unhide HI).below hb2); have p0 : w2.cell? ⟨w.heap.size + 2, 0, none⟩ = some (.slice ao n' cap) := cell_of_row _ _ 0 _ _ _ (unhide HI2).c7; have p1 : w2.cell? ⟨w.heap.size + 2, 1, none⟩ = some (.int .i64 (k : Int)) := cell_of_row _ _ 1 _ _ _ (unhide HI2).c7; have q0 : w2.cell? ⟨w.heap.size, 0, none⟩ = some (.slice none 0 0) := cell_of_row _ _ 0 _ _ _ (unhide HI2).c4; have q1 : w2.cell? ⟨w.heap.size, 1, none⟩ = some (.int .i64 0) := cell_of_row _ _ 1 _ _ _ (unhide HI2).c4; have r0 : w2.cell? ⟨w.heap.size + 1, 0, none⟩ = some (.int .i64 0) := cell_of_row _ _ 0 _ _ _ (unhide HI2).c6; have r1 : w2.cell? ⟨w.heap.size + 1, 1, none⟩ = some (.int .i64 0) := cell_of_row _ _ 1 _ _ _ (unhide HI2).c6; have z0 : ∀ i, w2.frozen? ⟨w.heap.size, i, none⟩ = false := (fun i => by simp [World.frozen?, (unhide HI2).c4]); have z1 : ∀ i, w2.frozen? ⟨w.heap.size + 1, i, none⟩ = false := (fun i => by simp [World.frozen?, (unhide HI2).c6]))
          | (go_at_call 15; refine (fine_any _).mono ?_; rintro ev w2 ⟨rfl, hb2'⟩; have hb2 : Below ((wr.setCell ⟨w.heap.size, 0, none⟩ (.slice ao n' cap)).setCell ⟨w.heap.size, 1, none⟩ (.int .i64 (k : Int))).heap.size ((wr.setCell ⟨w.heap.size, 0, none⟩ (.slice ao n' cap)).setCell ⟨w.heap.size, 1, none⟩ (.int .i64 (k : Int))) w2 := (by first | exact hb2' | exact below0 hb2'); have HI3B := hide ((unhide HST).below hb2); have p0 : w2.cell? ⟨w.heap.size + 2, 0, none⟩ = some (.slice ao n' cap) := cell_of_row _ _ 0 _ _ _ (unhide HI3B).c7; have p1 : w2.cell? ⟨w.heap.size + 2, 1, none⟩ = some (.int .i64 (k : Int)) := cell_of_row _ _ 1 _ _ _ (unhide HI3B).c7; have q0 : w2.cell? ⟨w.heap.size, 0, none⟩ = some (.slice ao n' cap) := cell_of_row _ _ 0 _ _ _ (unhide HI3B).c4; have q1 : w2.cell? ⟨w.heap.size, 1, none⟩ = some (.int .i64 (k : Int)) := cell_of_row _ _ 1 _ _ _ (unhide HI3B).c4; have r0 : w2.cell? ⟨w.heap.size + 1, 0, none⟩ = some (.int .i64 0) := cell_of_row _ _ 0 _ _ _ (unhide HI3B).c6; have r1 : w2.cell? ⟨w.heap.size + 1, 1, none⟩ = some (.int .i64 0) := cell_of_row _ _ 1 _ _ _ (unhide HI3B).c6; have z0 : ∀ i, w2.frozen? ⟨w.heap.size, i, none⟩ = false := (fun i => by simp [World.frozen?, (unhide HI3B).c4]); have z1 : ∀ i, w2.frozen? ⟨w.heap.size + 1, i, none⟩ = false := (fun i => by simp [World.frozen?, (unhide HI3B).c6])))
      go_wp2_with fail
      all_goals
        first | exact ((unhide HI2).st4 _ _).fin6 rfl rfl rfl (fun W9 srow sb => ⟨by rw [unhide HG, unhide HQ]; exact ⟨_, rfl, srow, hkj, hj, hxl⟩, sb⟩) | exact (unhide HI3B).fin6 rfl rfl rfl (fun W9 srow sb => ⟨by rw [unhide HG, unhide HQ]; exact ⟨_, rfl, srow, hkj, hj, hxl⟩, sb⟩) | exact ((unhide HI2).drew.st4 _ _).fin6 rfl rfl rfl (fun W9 srow sb => ⟨by rw [unhide HG, unhide HQ]; exact ⟨_, rfl, srow, hkj, hj, hxl⟩, sb⟩)
    by_cases hgo : goesG s.data.toList j = true
    · have HQ : Hid (wrdG s.data.toList xs j = .ok (xs, j)) := hide (wrd_end (by
        cases hc : s.data.toList[j]? with
        | none => exact end_none hc
        | some c => rw [end_some hc]; simp [hgo]))
      rw [Bool.not_eq_true] at hst
      rw [hst] at hS
      rw [hgo] at hO
      clear hst hgo
      go_upto_region 5 with (first
        | (go_at_call 22; refine hS.mono ?_; clear hS; rintro ev w1 ⟨rfl, hw⟩; obtain rfl := hw.symm)
        | (go_at_call 21; refine hO.mono ?_; clear hO; rintro ev w1 ⟨rfl, hw'⟩; obtain rfl := hw'.symm))
      rename_i K1 a1 K2 a2
      clear a1
      have HST := hide ((unhide HI).st4 (.slice ao n' cap) (.int .i64 (k : Int)))
      go_region_held3 (fun w' => w'.cell? ⟨w.heap.size + 2, 0, none⟩ = some (.slice ao n' cap) ∧ w'.cell? ⟨w.heap.size + 2, 1, none⟩ = some (.int .i64 (k : Int)))
        (first | exact ⟨p0, p1⟩ | exact ⟨h0, h1⟩ | exact ⟨keep2 (by omega) p0, keep2 (by omega) p1⟩ | exact ⟨keep2 (by omega) h0, keep2 (by omega) h1⟩ | exact ⟨keep2 (by omega) (keep2 (by omega) p0), keep2 (by omega) (keep2 (by omega) p1)⟩ | exact ⟨keep2 (by omega) (keep2 (by omega) h0), keep2 (by omega) (keep2 (by omega) h1)⟩)
        (first
          | (go_at_call 15; refine (fine_any _).mono ?_; rintro ev w2 ⟨rfl, hb2'⟩; have hb2 : Below wr.heap.size wr w2 := (by first | exact hb2' | exact below0 hb2'); have HI2 := hide ((unhide HI).below hb2); have p0 : w2.cell? ⟨w.heap.size + 2, 0, none⟩ = some (.slice ao n' cap) := cell_of_row _ _ 0 _ _ _ (unhide HI2).c7; have p1 : w2.cell? ⟨w.heap.size + 2, 1, none⟩ = some (.int .i64 (k : Int)) := cell_of_row _ _ 1 _ _ _ (unhide HI2).c7; have q0 : w2.cell? ⟨w.heap.size, 0, none⟩ = some (.slice none 0 0) := cell_of_row _ _ 0 _ _ _ (unhide HI2).c4; have q1 : w2.cell? ⟨w.heap.size, 1, none⟩ = some (.int .i64 0) := cell_of_row _ _ 1 _ _ _ (unhide HI2).c4; have r0 : w2.cell? ⟨w.heap.size + 1, 0, none⟩ = some (.int .i64 0) := cell_of_row _ _ 0 _ _ _ (unhide HI2).c6; have r1 : w2.cell? ⟨w.heap.size + 1, 1, none⟩ = some (.int .i64 0) := cell_of_row _ _ 1 _ _ _ (unhide HI2).c6; have z0 : ∀ i, w2.frozen? ⟨w.heap.size, i, none⟩ = false := (fun i => by simp [World.frozen?, (unhide HI2).c4]); have z1 : ∀ i, w2.frozen? ⟨w.heap.size + 1, i, none⟩ = false := (fun i => by simp [World.frozen?, (unhide HI2).c6]))
          | (go_at_call 15; refine (fine_any _).mono ?_; rintro ev w2 ⟨rfl, hb2'⟩; have hb2 : Below ((wr.setCell ⟨w.heap.size, 0, none⟩ (.slice ao n' cap)).setCell ⟨w.heap.size, 1, none⟩ (.int .i64 (k : Int))).heap.size ((wr.setCell ⟨w.heap.size, 0, none⟩ (.slice ao n' cap)).setCell ⟨w.heap.size, 1, none⟩ (.int .i64 (k : Int))) w2 := (by first | exact hb2' | exact below0 hb2'); have HI3B := hide ((unhide HST).below hb2); have p0 : w2.cell? ⟨w.heap.size + 2, 0, none⟩ = some (.slice ao n' cap) := cell_of_row _ _ 0 _ _ _ (unhide HI3B).c7; have p1 : w2.cell? ⟨w.heap.size + 2, 1, none⟩ = some (.int .i64 (k : Int)) := cell_of_row _ _ 1 _ _ _ (unhide HI3B).c7; have q0 : w2.cell? ⟨w.heap.size, 0, none⟩ = some (.slice ao n' cap) := cell_of_row _ _ 0 _ _ _ (unhide HI3B).c4; have q1 : w2.cell? ⟨w.heap.size, 1, none⟩ = some (.int .i64 (k : Int)) := cell_of_row _ _ 1 _ _ _ (unhide HI3B).c4; have r0 : w2.cell? ⟨w.heap.size + 1, 0, none⟩ = some (.int .i64 0) := cell_of_row _ _ 0 _ _ _ (unhide HI3B).c6; have r1 : w2.cell? ⟨w.heap.size + 1, 1, none⟩ = some (.int .i64 0) := cell_of_row _ _ 1 _ _ _ (unhide HI3B).c6; have z0 : ∀ i, w2.frozen? ⟨w.heap.size, i, none⟩ = false := (fun i => by simp [World.frozen?, (unhide HI3B).c4]); have z1 : ∀ i, w2.frozen? ⟨w.heap.size + 1, i, none⟩ = false := (fun i => by simp [World.frozen?, (unhide HI3B).c6])))
      go_wp2_with fail
      all_goals
        first | exact ((unhide HI2).st4 _ _).fin6 rfl rfl rfl (fun W9 srow sb => ⟨by rw [unhide HG, unhide HQ]; exact ⟨_, rfl, srow, hkj, hj, hxl⟩, sb⟩) | exact (unhide HI3B).fin6 rfl rfl rfl (fun W9 srow sb => ⟨by rw [unhide HG, unhide HQ]; exact ⟨_, rfl, srow, hkj, hj, hxl⟩, sb⟩) | exact ((unhide HI2).drew.st4 _ _).fin6 rfl rfl rfl (fun W9 srow sb => ⟨by rw [unhide HG, unhide HQ]; exact ⟨_, rfl, srow, hkj, hj, hxl⟩, sb⟩)
    rw [Bool.not_eq_true] at hst hgo
    rw [hst] at hS
    rw [hgo] at hO
    cases hc : s.data.toList[j]? with
    | none => exact absurd hst (by unfold stopG; rw [hc]; decide)
    | some c =>
    obtain ⟨hlt, hcv⟩ := get_some hc
    have hcn : s[j].toNat = c.toNat := by rw [hcv]
    have h10 : ¬ c = 10 := fun e => by rw [e] at hc; unfold stopG at hst; rw [hc] at hst; exact absurd hst (by decide)
    by_cases h32 : c = 32
    · have HQ : Hid (wrdG s.data.toList xs j = .ok (xs, j)) := hide (wrd_end (by rw [end_some hc]; simp [h32]))
      have e32 : ((s[j].toNat : Int) == 32) = true := by rw [hcn, h32]; rfl
      clear hst hgo hc
      go_upto_region 5 with (first
        | (go_at_call 22; refine hS.mono ?_; clear hS; rintro ev w1 ⟨rfl, hw⟩; obtain rfl := hw.symm)
        | (go_at_call 21; refine hO.mono ?_; clear hO; rintro ev w1 ⟨rfl, hw'⟩; obtain rfl := hw'.symm))
      rename_i K1 a1 K2 a2
      clear a1
      have HST := hide ((unhide HI).st4 (.slice ao n' cap) (.int .i64 (k : Int)))
      go_region_held3 (fun w' => w'.cell? ⟨w.heap.size + 2, 0, none⟩ = some (.slice ao n' cap) ∧ w'.cell? ⟨w.heap.size + 2, 1, none⟩ = some (.int .i64 (k : Int)))
        (first | exact ⟨p0, p1⟩ | exact ⟨h0, h1⟩ | exact ⟨keep2 (by omega) p0, keep2 (by omega) p1⟩ | exact ⟨keep2 (by omega) h0, keep2 (by omega) h1⟩ | exact ⟨keep2 (by omega) (keep2 (by omega) p0), keep2 (by omega) (keep2 (by omega) p1)⟩ | exact ⟨keep2 (by omega) (keep2 (by omega) h0), keep2 (by omega) (keep2 (by omega) h1)⟩)
        (first
          | (go_at_call 15; refine (fine_any _).mono ?_; rintro ev w2 ⟨rfl, hb2'⟩; have hb2 : Below wr.heap.size wr w2 := (by first | exact hb2' | exact below0 hb2'); have HI2 := hide ((unhide HI).below hb2); have p0 : w2.cell? ⟨w.heap.size + 2, 0, none⟩ = some (.slice ao n' cap) := cell_of_row _ _ 0 _ _ _ (unhide HI2).c7; have p1 : w2.cell? ⟨w.heap.size + 2, 1, none⟩ = some (.int .i64 (k : Int)) := cell_of_row _ _ 1 _ _ _ (unhide HI2).c7; have q0 : w2.cell? ⟨w.heap.size, 0, none⟩ = some (.slice none 0 0) := cell_of_row _ _ 0 _ _ _ (unhide HI2).c4; have q1 : w2.cell? ⟨w.heap.size, 1, none⟩ = some (.int .i64 0) := cell_of_row _ _ 1 _ _ _ (unhide HI2).c4; have r0 : w2.cell? ⟨w.heap.size + 1, 0, none⟩ = some (.int .i64 0) := cell_of_row _ _ 0 _ _ _ (unhide HI2).c6; have r1 : w2.cell? ⟨w.heap.size + 1, 1, none⟩ = some (.int .i64 0) := cell_of_row _ _ 1 _ _ _ (unhide HI2).c6; have z0 : ∀ i, w2.frozen? ⟨w.heap.size, i, none⟩ = false := (fun i => by simp [World.frozen?, (unhide HI2).c4]); have z1 : ∀ i, w2.frozen? ⟨w.heap.size + 1, i, none⟩ = false := (fun i => by simp [World.frozen?, (unhide HI2).c6]))
          | (go_at_call 15; refine (fine_any _).mono ?_; rintro ev w2 ⟨rfl, hb2'⟩; have hb2 : Below ((wr.setCell ⟨w.heap.size, 0, none⟩ (.slice ao n' cap)).setCell ⟨w.heap.size, 1, none⟩ (.int .i64 (k : Int))).heap.size ((wr.setCell ⟨w.heap.size, 0, none⟩ (.slice ao n' cap)).setCell ⟨w.heap.size, 1, none⟩ (.int .i64 (k : Int))) w2 := (by first | exact hb2' | exact below0 hb2'); have HI3B := hide ((unhide HST).below hb2); have p0 : w2.cell? ⟨w.heap.size + 2, 0, none⟩ = some (.slice ao n' cap) := cell_of_row _ _ 0 _ _ _ (unhide HI3B).c7; have p1 : w2.cell? ⟨w.heap.size + 2, 1, none⟩ = some (.int .i64 (k : Int)) := cell_of_row _ _ 1 _ _ _ (unhide HI3B).c7; have q0 : w2.cell? ⟨w.heap.size, 0, none⟩ = some (.slice ao n' cap) := cell_of_row _ _ 0 _ _ _ (unhide HI3B).c4; have q1 : w2.cell? ⟨w.heap.size, 1, none⟩ = some (.int .i64 (k : Int)) := cell_of_row _ _ 1 _ _ _ (unhide HI3B).c4; have r0 : w2.cell? ⟨w.heap.size + 1, 0, none⟩ = some (.int .i64 0) := cell_of_row _ _ 0 _ _ _ (unhide HI3B).c6; have r1 : w2.cell? ⟨w.heap.size + 1, 1, none⟩ = some (.int .i64 0) := cell_of_row _ _ 1 _ _ _ (unhide HI3B).c6; have z0 : ∀ i, w2.frozen? ⟨w.heap.size, i, none⟩ = false := (fun i => by simp [World.frozen?, (unhide HI3B).c4]); have z1 : ∀ i, w2.frozen? ⟨w.heap.size + 1, i, none⟩ = false := (fun i => by simp [World.frozen?, (unhide HI3B).c6])))
      go_wp2_with fail
      all_goals
        first | exact ((unhide HI2).st4 _ _).fin6 rfl rfl rfl (fun W9 srow sb => ⟨by rw [unhide HG, unhide HQ]; exact ⟨_, rfl, srow, hkj, hj, hxl⟩, sb⟩) | exact (unhide HI3B).fin6 rfl rfl rfl (fun W9 srow sb => ⟨by rw [unhide HG, unhide HQ]; exact ⟨_, rfl, srow, hkj, hj, hxl⟩, sb⟩) | exact ((unhide HI2).drew.st4 _ _).fin6 rfl rfl rfl (fun W9 srow sb => ⟨by rw [unhide HG, unhide HQ]; exact ⟨_, rfl, srow, hkj, hj, hxl⟩, sb⟩)
    have e32 : ((s[j].toNat : Int) == 32) = false := by
      rw [hcn]; simp; intro h; exact h32 (UInt8.toNat_inj.1 (by simpa using Int.ofNat.inj h))
    have hq := wrd_some (acc := xs) hc (by rw [end_some hc]; exact decide_eq_false (by rintro (e | e | e); exact h10 e; exact h32 e; rw [hgo] at e; cases e))
    clear hst hgo h10 h32
    by_cases h34 : c = 34
    · rw [if_pos h34, quo_acc] at hq
      have e34 : ((s[j].toNat : Int) == 34) = true := by rw [hcn, h34]; rfl
      have hQ := quo_doc s j wr hlt hs
      cases hr : quoG s.data.toList j [] (j + 1) with
      | error x =>
        obtain ⟨e, p⟩ := x
        rw [hr] at hq hQ
        have HQ : Hid (wrdG s.data.toList xs j = .error (e, p)) := hide (by rw [hq]; rfl)
        unfold QuoD at hQ
        clear hc hq hr
        go_upto_region 11 with (first
          | (go_at_call 22; refine hS.mono ?_; clear hS; rintro ev w1 ⟨rfl, hw⟩; obtain rfl := hw.symm)
          | (go_at_call 21; refine hO.mono ?_; clear hO; rintro ev w1 ⟨rfl, hw'⟩; obtain rfl := hw'.symm)
          | (go_at_call 41; refine hQ.mono ?_; clear hQ; rintro ev w1 ⟨⟨hne, rfl⟩, hb1⟩))
        have ge : (((e : Nat) : Int) != 0) = true := by simp; omega
        obtain ⟨w2, hw2⟩ : ∃ w2, w2 = w1.alloc (.cells #[.int .i64 (e : Int), .int .i64 (p : Int)] 28) := ⟨_, rfl⟩
        have hb2 : Below wr.heap.size wr w2 := by rw [hw2]; exact hb1.alloc hb1.size _
        have hn2 : w2.heap[w1.heap.size]? = some (.cells #[.int .i64 (e : Int), .int .i64 (p : Int)] 28 (0, 0)) := by rw [hw2]; exact heap_alloc_new _ _
        have hw12 : Below w1.heap.size w1 w2 := by rw [hw2]; exact (Below.refl _ _).alloc (Nat.le_refl _) _
        rw [← hw2]
        clear hw2
        have HI2 := hide ((unhide HI).below hb2)
        have p0 : w2.cell? ⟨w.heap.size + 2, 0, none⟩ = some (.slice ao n' cap) := cell_of_row _ _ 0 _ _ _ (unhide HI2).c7
        have p1 : w2.cell? ⟨w.heap.size + 2, 1, none⟩ = some (.int .i64 (k : Int)) := cell_of_row _ _ 1 _ _ _ (unhide HI2).c7
        have q0 : w2.cell? ⟨w.heap.size, 0, none⟩ = some (.slice none 0 0) := cell_of_row _ _ 0 _ _ _ (unhide HI2).c4
        have q1 : w2.cell? ⟨w.heap.size, 1, none⟩ = some (.int .i64 0) := cell_of_row _ _ 1 _ _ _ (unhide HI2).c4
        have r0 : w2.cell? ⟨w.heap.size + 1, 0, none⟩ = some (.int .i64 0) := cell_of_row _ _ 0 _ _ _ (unhide HI2).c6
        have r1 : w2.cell? ⟨w.heap.size + 1, 1, none⟩ = some (.int .i64 0) := cell_of_row _ _ 1 _ _ _ (unhide HI2).c6
        have z0 : ∀ i, w2.frozen? ⟨w.heap.size, i, none⟩ = false := (fun i => by simp [World.frozen?, (unhide HI2).c4])
        have z1 : ∀ i, w2.frozen? ⟨w.heap.size + 1, i, none⟩ = false := (fun i => by simp [World.frozen?, (unhide HI2).c6])
        have t0 : w2.cell? ⟨w1.heap.size, 0, none⟩ = some (.int .i64 (e : Int)) := cell_of_row _ _ 0 _ _ _ hn2
        have t1 : w2.cell? ⟨w1.heap.size, 1, none⟩ = some (.int .i64 (p : Int)) := cell_of_row _ _ 1 _ _ _ hn2
        have hbig1 : w.heap.size + 3 ≤ w1.heap.size := Nat.le_trans hbig hb1.size
        clear h0 h1 hn2 g0 g1 gz
        go_upto_region 12 with fail
        go_region_held3 (fun w' => w'.cell? ⟨w.heap.size + 2, 0, none⟩ = some (.slice ao n' cap) ∧ w'.cell? ⟨w.heap.size + 2, 1, none⟩ = some (.int .i64 (k : Int)) ∧ w'.cell? ⟨w1.heap.size, 0, none⟩ = some (.int .i64 (e : Int)) ∧ w'.cell? ⟨w1.heap.size, 1, none⟩ = some (.int .i64 (p : Int)))
          (first | exact ⟨p0, p1, t0, t1⟩ | exact ⟨keep2 (by omega) p0, keep2 (by omega) p1, keep2 (by omega) t0, keep2 (by omega) t1⟩ | exact ⟨keep2 (by omega) (keep2 (by omega) p0), keep2 (by omega) (keep2 (by omega) p1), keep2 (by omega) (keep2 (by omega) t0), keep2 (by omega) (keep2 (by omega) t1)⟩) (fail)
        all_goals
          try go_wp2_with fail
          first | exact ((unhide HI2).st4 _ _).fin6 rfl rfl rfl (fun W9 srow sb => ⟨by rw [unhide HG, unhide HQ]; exact ⟨hne, _, _, _, rfl⟩, sb⟩) | exact (unhide HI3B).fin6 rfl rfl rfl (fun W9 srow sb => ⟨by rw [unhide HG, unhide HQ]; exact ⟨hne, _, _, _, rfl⟩, sb⟩) | exact ((unhide HI2).drew.st4 _ _).fin6 rfl rfl rfl (fun W9 srow sb => ⟨by rw [unhide HG, unhide HQ]; exact ⟨hne, _, _, _, rfl⟩, sb⟩)
      | ok x =>
        obtain ⟨ys, t⟩ := x
        rw [hr] at hq hQ
        unfold QuoD at hQ
        have HQ0 := hide hq
        clear hc hq hr
        go_upto_region 11 with (first
          | (go_at_call 22; refine hS.mono ?_; clear hS; rintro ev w1 ⟨rfl, hw⟩; obtain rfl := hw.symm)
          | (go_at_call 21; refine hO.mono ?_; clear hO; rintro ev w1 ⟨rfl, hw'⟩; obtain rfl := hw'.symm)
          | (go_at_call 41; refine hQ.mono ?_; clear hQ; rintro ev w1 ⟨⟨v1, rfl, hrow1, hjt, hts, hyl⟩, hb1⟩))
        obtain ⟨ao1, n1, cap1, rfl⟩ := row_form hrow1
        obtain ⟨w2, hw2⟩ : ∃ w2, w2 = w1.alloc (.cells #[.int .i64 0, .int .i64 (-1)] 28) := ⟨_, rfl⟩
        have hb2 : Below wr.heap.size wr w2 := by rw [hw2]; exact hb1.alloc hb1.size _
        have hn2 : w2.heap[w1.heap.size]? = some (.cells #[.int .i64 0, .int .i64 (-1)] 28 (0, 0)) := by rw [hw2]; exact heap_alloc_new _ _
        have hw12 : Below w1.heap.size w1 w2 := by rw [hw2]; exact (Below.refl _ _).alloc (Nat.le_refl _) _
        rw [← hw2]
        clear hw2
        have HI2 := hide ((unhide HI).below hb2)
        have p0 : w2.cell? ⟨w.heap.size + 2, 0, none⟩ = some (.slice ao n' cap) := cell_of_row _ _ 0 _ _ _ (unhide HI2).c7
        have p1 : w2.cell? ⟨w.heap.size + 2, 1, none⟩ = some (.int .i64 (k : Int)) := cell_of_row _ _ 1 _ _ _ (unhide HI2).c7
        have q0 : w2.cell? ⟨w.heap.size, 0, none⟩ = some (.slice none 0 0) := cell_of_row _ _ 0 _ _ _ (unhide HI2).c4
        have q1 : w2.cell? ⟨w.heap.size, 1, none⟩ = some (.int .i64 0) := cell_of_row _ _ 1 _ _ _ (unhide HI2).c4
        have r0 : w2.cell? ⟨w.heap.size + 1, 0, none⟩ = some (.int .i64 0) := cell_of_row _ _ 0 _ _ _ (unhide HI2).c6
        have r1 : w2.cell? ⟨w.heap.size + 1, 1, none⟩ = some (.int .i64 0) := cell_of_row _ _ 1 _ _ _ (unhide HI2).c6
        have z0 : ∀ i, w2.frozen? ⟨w.heap.size, i, none⟩ = false := (fun i => by simp [World.frozen?, (unhide HI2).c4])
        have z1 : ∀ i, w2.frozen? ⟨w.heap.size + 1, i, none⟩ = false := (fun i => by simp [World.frozen?, (unhide HI2).c6])
        have HQ : Hid (wrdG s.data.toList xs j = wrdG s.data.toList (xs ++ ys) t) := hide (by rw [unhide HQ0]; simp only [Except.map]; rw [if_pos hjt])
        have hrow2 : AtR w2 wr.heap.size (.slice ao1 n1 cap1) ys := row_same hrow1 fun q hq => hw12.block q (World.ownsRow.lt hrow1 q hq).2
        have t0 : w2.cell? ⟨w1.heap.size, 0, none⟩ = some (.int .i64 0) := cell_of_row _ _ 0 _ _ _ hn2
        have t1 : w2.cell? ⟨w1.heap.size, 1, none⟩ = some (.int .i64 (-1)) := cell_of_row _ _ 1 _ _ _ hn2
        have HI6 := HI2
        have HRow := hide (unhide HI2).row
        have hbig2 := (unhide HI2).big
        have z7 : w2.frozen? ⟨w.heap.size + 2, 0, none⟩ = false := by simp [World.frozen?, (unhide HI2).c7]
        clear h0 h1 hn2 hrow1 hw12
        rcases hrow2.2 with ⟨hv1, hy0⟩ | ⟨g1, cp1, cur1, hv1, _⟩
        · obtain rfl : ys = [] := List.eq_nil_of_length_eq_zero hy0
          injection hv1 with e1 e2 e3
          subst e1 e2 e3
          clear hrow2 hy0
          go_wp2_with (at_builtin; refine wpList_append_own_none rfl _ _ 45 rfl (w.heap.size + 3) 75 i0 3 Tryz.underlying45 hi _ xs.length (atC xs) rfl (unhide HRow) rfl ?_)
          go_roundw
          case rel =>
            first
              | exact ⟨t, xs, _, by first | rfl | go_num | (congr 1; omega), (unhide HI2).grow (grown_refl _ _) (unhide HI2).row, by rw [unhide HG, unhide HQ, List.append_nil], by omega, by omega, by first | omega | (simp; omega)⟩
              | ((repeat apply Exists.intro); exact ⟨⟨t, xs, _, by first | rfl | go_num | (congr 1; omega), (unhide HI2).grow (grown_refl _ _) (unhide HI2).row, by rw [unhide HG, unhide HQ, List.append_nil], by omega, by omega, by first | omega | (simp; omega)⟩, rfl⟩)
          case measure => simp [intOf]; omega
        · injection hv1 with e1 e2 e3
          subst e1 e2 e3
          have HN : Hid (∀ j u, (atC ys)[j]? = some u → w2.cell? ((⟨g1, 0, none⟩ : Addr).add j) = some u) := hide (World.ownsRow.cells hrow2 (g := g1) rfl)
          clear hrow2
          go_wp2_with (at_builtin; refine wpList_append_own _ rfl _ _ 45 rfl (w.heap.size + 3) 75 i0 _ 3 32 Tryz.underlying45 hi hz0 hz1 hz2 rfl (by decide) _ xs.length (atC xs) rfl (unhide HRow) ⟨g1, 0, none⟩ ys.length cap1 (atC ys) rfl (by first | rfl | (rw [atC_len])) (unhide HN) (atC_one ys) (by unfold maxLen; omega) (by omega) (by omega) ?_; intro v6 w6 hown6 hgrow6 _; obtain ⟨k60, k61⟩ := (unhide HI6).at6 hgrow6; obtain ⟨ao6, n6, cap6, rfl⟩ := row_form hown6; have HA6 := hide hown6; clear hown6)
          go_roundw
          case rel =>
            first
              | exact ⟨t, xs ++ ys, _, by first | rfl | go_num | (congr 1; omega), (unhide HI2).grow hgrow6 (AtR.app (unhide HA6)), by rw [unhide HG, unhide HQ], by omega, by omega, by first | omega | (simp; omega)⟩
              | ((repeat apply Exists.intro); exact ⟨⟨t, xs ++ ys, _, by first | rfl | go_num | (congr 1; omega), (unhide HI2).grow hgrow6 (AtR.app (unhide HA6)), by rw [unhide HG, unhide HQ], by omega, by omega, by first | omega | (simp; omega)⟩, rfl⟩)
          case measure => simp [intOf]; omega


    have e34 : ((s[j].toNat : Int) == 34) = false := by
      rw [hcn]; simp; intro h; exact h34 (UInt8.toNat_inj.1 (by simpa using Int.ofNat.inj h))
    rw [if_neg h34] at hq
    clear h34
    by_cases h36 : c = 36
    · rw [if_pos h36] at hq
      have e36 : ((s[j].toNat : Int) == 36) = true := by rw [hcn, h36]; rfl
      have hV := var_doc s j wr hlt hs
      cases hv : varG s.data.toList j with
      | none =>
        have HQ : Hid (wrdG s.data.toList xs j = .error (5, j)) := hide (by rw [hq, hv])
        rw [hv] at hV
        unfold VarD at hV
        clear hc hq hv
        go_upto_region 18 with (first
          | (go_at_call 22; refine hS.mono ?_; clear hS; rintro ev w1 ⟨rfl, hw⟩; obtain rfl := hw.symm)
          | (go_at_call 21; refine hO.mono ?_; clear hO; rintro ev w1 ⟨rfl, hw'⟩; obtain rfl := hw'.symm)
          | (go_at_call 42; refine hV.mono ?_; clear hV; rintro ev w1 ⟨rfl, hb1⟩))
        obtain ⟨W3, hW3⟩ : ∃ W3, W3 = w1.alloc (.cells #[.int .u8 0, .string ⟨#[]⟩, .int .i64 0] 75) := ⟨_, rfl⟩
        have HI3 : Hid (In24 w W3 (.slice none 0 0) (.int .i64 0) (.slice ao n' cap) xs k) := hide (by rw [hW3]; exact ((unhide HI).below hb1).alloc _)
        rw [← hW3]
        clear h0 h1 hW3 g0 g1 gz
        have h0 : W3.cell? ⟨w.heap.size + 2, 0, none⟩ = some (.slice ao n' cap) := cell_of_row _ _ 0 _ _ _ (unhide HI3).c7
        have h1 : W3.cell? ⟨w.heap.size + 2, 1, none⟩ = some (.int .i64 (k : Int)) := cell_of_row _ _ 1 _ _ _ (unhide HI3).c7
        have g0 : W3.cell? ⟨w.heap.size, 0, none⟩ = some (.slice none 0 0) := cell_of_row _ _ 0 _ _ _ (unhide HI3).c4
        have g1 : W3.cell? ⟨w.heap.size, 1, none⟩ = some (.int .i64 0) := cell_of_row _ _ 1 _ _ _ (unhide HI3).c4
        have gz : ∀ i, W3.frozen? ⟨w.heap.size, i, none⟩ = false := (fun i => by simp [World.frozen?, (unhide HI3).c4])
        rename_i K1 a1 K2 a2
        clear a1
        have HST := hide ((unhide HI3).st4 (.slice ao n' cap) (.int .i64 (k : Int)))
        go_region_held3 (fun w' => w'.cell? ⟨w.heap.size + 2, 0, none⟩ = some (.slice ao n' cap) ∧ w'.cell? ⟨w.heap.size + 2, 1, none⟩ = some (.int .i64 (k : Int)))
          (first | exact ⟨p0, p1⟩ | exact ⟨h0, h1⟩ | exact ⟨keep2 (by omega) p0, keep2 (by omega) p1⟩ | exact ⟨keep2 (by omega) h0, keep2 (by omega) h1⟩ | exact ⟨keep2 (by omega) (keep2 (by omega) p0), keep2 (by omega) (keep2 (by omega) p1)⟩ | exact ⟨keep2 (by omega) (keep2 (by omega) h0), keep2 (by omega) (keep2 (by omega) h1)⟩)
          (first
            | (go_at_call 9; refine (bad_any _ _ _).mono ?_; rintro ev w2 ⟨rfl, hb2'⟩; have hb2 : Below W3.heap.size W3 w2 := (by first | exact hb2' | exact below0 hb2'); have HI2 := hide ((unhide HI3).below hb2); have p0 : w2.cell? ⟨w.heap.size + 2, 0, none⟩ = some (.slice ao n' cap) := cell_of_row _ _ 0 _ _ _ (unhide HI2).c7; have p1 : w2.cell? ⟨w.heap.size + 2, 1, none⟩ = some (.int .i64 (k : Int)) := cell_of_row _ _ 1 _ _ _ (unhide HI2).c7; have q0 : w2.cell? ⟨w.heap.size, 0, none⟩ = some (.slice none 0 0) := cell_of_row _ _ 0 _ _ _ (unhide HI2).c4; have q1 : w2.cell? ⟨w.heap.size, 1, none⟩ = some (.int .i64 0) := cell_of_row _ _ 1 _ _ _ (unhide HI2).c4; have r0 : w2.cell? ⟨w.heap.size + 1, 0, none⟩ = some (.int .i64 0) := cell_of_row _ _ 0 _ _ _ (unhide HI2).c6; have r1 : w2.cell? ⟨w.heap.size + 1, 1, none⟩ = some (.int .i64 0) := cell_of_row _ _ 1 _ _ _ (unhide HI2).c6; have z0 : ∀ i, w2.frozen? ⟨w.heap.size, i, none⟩ = false := (fun i => by simp [World.frozen?, (unhide HI2).c4]); have z1 : ∀ i, w2.frozen? ⟨w.heap.size + 1, i, none⟩ = false := (fun i => by simp [World.frozen?, (unhide HI2).c6]))
            | (go_at_call 9; refine (bad_any _ _ _).mono ?_; rintro ev w2 ⟨rfl, hb2'⟩; have hb2 : Below ((W3.setCell ⟨w.heap.size, 0, none⟩ (.slice ao n' cap)).setCell ⟨w.heap.size, 1, none⟩ (.int .i64 (k : Int))).heap.size ((W3.setCell ⟨w.heap.size, 0, none⟩ (.slice ao n' cap)).setCell ⟨w.heap.size, 1, none⟩ (.int .i64 (k : Int))) w2 := (by first | exact hb2' | exact below0 hb2'); have HI3B := hide ((unhide HST).below hb2); have p0 : w2.cell? ⟨w.heap.size + 2, 0, none⟩ = some (.slice ao n' cap) := cell_of_row _ _ 0 _ _ _ (unhide HI3B).c7; have p1 : w2.cell? ⟨w.heap.size + 2, 1, none⟩ = some (.int .i64 (k : Int)) := cell_of_row _ _ 1 _ _ _ (unhide HI3B).c7; have q0 : w2.cell? ⟨w.heap.size, 0, none⟩ = some (.slice ao n' cap) := cell_of_row _ _ 0 _ _ _ (unhide HI3B).c4; have q1 : w2.cell? ⟨w.heap.size, 1, none⟩ = some (.int .i64 (k : Int)) := cell_of_row _ _ 1 _ _ _ (unhide HI3B).c4; have r0 : w2.cell? ⟨w.heap.size + 1, 0, none⟩ = some (.int .i64 0) := cell_of_row _ _ 0 _ _ _ (unhide HI3B).c6; have r1 : w2.cell? ⟨w.heap.size + 1, 1, none⟩ = some (.int .i64 0) := cell_of_row _ _ 1 _ _ _ (unhide HI3B).c6; have z0 : ∀ i, w2.frozen? ⟨w.heap.size, i, none⟩ = false := (fun i => by simp [World.frozen?, (unhide HI3B).c4]); have z1 : ∀ i, w2.frozen? ⟨w.heap.size + 1, i, none⟩ = false := (fun i => by simp [World.frozen?, (unhide HI3B).c6])))
        go_wp2_with fail
        all_goals
          first | exact ((unhide HI2).st4 _ _).fin6 rfl rfl rfl (fun W9 srow sb => ⟨by rw [unhide HG, unhide HQ]; exact ⟨(by decide), _, _, _, rfl⟩, sb⟩) | exact (unhide HI3B).fin6 rfl rfl rfl (fun W9 srow sb => ⟨by rw [unhide HG, unhide HQ]; exact ⟨(by decide), _, _, _, rfl⟩, sb⟩) | exact ((unhide HI2).drew.st4 _ _).fin6 rfl rfl rfl (fun W9 srow sb => ⟨by rw [unhide HG, unhide HQ]; exact ⟨(by decide), _, _, _, rfl⟩, sb⟩)
      | some x =>
        obtain ⟨n, t⟩ := x
        obtain ⟨htg, htl⟩ := var_rng hv
        rw [← Lib.size_eq] at htl
        have HQ : Hid (wrdG s.data.toList xs j = wrdG s.data.toList (xs ++ [.inr (n, j)]) t) := hide (by rw [hq, hv]; simp only [htg, if_true])
        rw [hv] at hV
        unfold VarD at hV
        have gt0 : (((t : Int) - j) == 0) = false := by simp; omega
        clear hc hq hv
        go_upto_region 19 with (first
          | (go_at_call 22; refine hS.mono ?_; clear hS; rintro ev w1 ⟨rfl, hw⟩; obtain rfl := hw.symm)
          | (go_at_call 21; refine hO.mono ?_; clear hO; rintro ev w1 ⟨rfl, hw'⟩; obtain rfl := hw'.symm)
          | (go_at_call 42; refine hV.mono ?_; clear hV; rintro ev w1 ⟨⟨u, rfl, hu⟩, hb1⟩))
        obtain rfl : u = bt n := by rw [← bt_of u, hu]
        obtain ⟨w2, hw2⟩ : ∃ w2, w2 = w1.alloc (.cells #[.int .u8 0, .string (bt n), .int .i64 (j : Int)] 75) := ⟨_, rfl⟩
        have hb2 : Below wr.heap.size wr w2 := by rw [hw2]; exact hb1.alloc hb1.size _
        have hn2 : w2.heap[w1.heap.size]? = some (.cells #[.int .u8 0, .string (bt n), .int .i64 (j : Int)] 75 (0, 0)) := by rw [hw2]; exact heap_alloc_new _ _
        have hw12 : Below w1.heap.size w1 w2 := by rw [hw2]; exact (Below.refl _ _).alloc (Nat.le_refl _) _
        rw [← hw2]
        clear hw2
        have HI2 := hide ((unhide HI).below hb2)
        have p0 : w2.cell? ⟨w.heap.size + 2, 0, none⟩ = some (.slice ao n' cap) := cell_of_row _ _ 0 _ _ _ (unhide HI2).c7
        have p1 : w2.cell? ⟨w.heap.size + 2, 1, none⟩ = some (.int .i64 (k : Int)) := cell_of_row _ _ 1 _ _ _ (unhide HI2).c7
        have q0 : w2.cell? ⟨w.heap.size, 0, none⟩ = some (.slice none 0 0) := cell_of_row _ _ 0 _ _ _ (unhide HI2).c4
        have q1 : w2.cell? ⟨w.heap.size, 1, none⟩ = some (.int .i64 0) := cell_of_row _ _ 1 _ _ _ (unhide HI2).c4
        have r0 : w2.cell? ⟨w.heap.size + 1, 0, none⟩ = some (.int .i64 0) := cell_of_row _ _ 0 _ _ _ (unhide HI2).c6
        have r1 : w2.cell? ⟨w.heap.size + 1, 1, none⟩ = some (.int .i64 0) := cell_of_row _ _ 1 _ _ _ (unhide HI2).c6
        have z0 : ∀ i, w2.frozen? ⟨w.heap.size, i, none⟩ = false := (fun i => by simp [World.frozen?, (unhide HI2).c4])
        have z1 : ∀ i, w2.frozen? ⟨w.heap.size + 1, i, none⟩ = false := (fun i => by simp [World.frozen?, (unhide HI2).c6])
        have t0 : w2.cell? ⟨w1.heap.size, 0, none⟩ = some (.int .u8 0) := cell_of_row _ _ 0 _ _ _ hn2
        have t1 : w2.cell? ⟨w1.heap.size, 1, none⟩ = some (.string (bt n)) := cell_of_row _ _ 1 _ _ _ hn2
        have t2 : w2.cell? ⟨w1.heap.size, 2, none⟩ = some (.int .i64 (j : Int)) := cell_of_row _ _ 2 _ _ _ hn2
        have HI6 := hide ((unhide HI2).alloc (.cells #[.int .u8 0, .string (bt n), .int .i64 (j : Int)] 75))
        have HRow := hide (unhide HI6).row
        have hbig2 := (unhide HI2).big
        clear h0 h1 hn2 hw12 hu
        go_wp2_with (at_builtin; refine wpList_append_own _ rfl _ _ 45 rfl (w.heap.size + 3) 75 i0 _ 3 32 Tryz.underlying45 hi hz0 hz1 hz2 rfl (by decide) _ xs.length (atC xs) rfl (unhide HRow) ⟨w2.heap.size, 0, none⟩ 1 1 ([.int .u8 0, .string (bt n), .int .i64 (j : Int)]) rfl (by first | rfl | (rw [atC_len])) (World.news_of_block (cs := #[.int .u8 0, .string (bt n), .int .i64 (j : Int)]) (t := 75) (fr := (0, 0)) (heap_alloc_new _ _)) (atm_one (.inr (n, j))) (by unfold maxLen; omega) (by omega) (by simp; omega) ?_; intro v6 w6 hown6 hgrow6 _; obtain ⟨k60, k61⟩ := (unhide HI6).at6 hgrow6; obtain ⟨ao6, n6, cap6, rfl⟩ := row_form hown6; have HA6 := hide hown6; clear hown6)
        go_roundw
        case rel =>
          first
            | exact ⟨t, xs ++ [.inr (n, j)], _, by first | rfl | go_num | (congr 1; omega), (unhide HI6).grow hgrow6 (AtR.grow (a := .inr (n, j)) (unhide HA6)), by rw [unhide HG, unhide HQ], by omega, by omega, by first | omega | (simp; omega)⟩
            | ((repeat apply Exists.intro); exact ⟨⟨t, xs ++ [.inr (n, j)], _, by first | rfl | go_num | (congr 1; omega), (unhide HI6).grow hgrow6 (AtR.grow (a := .inr (n, j)) (unhide HA6)), by rw [unhide HG, unhide HQ], by omega, by omega, by first | omega | (simp; omega)⟩, rfl⟩)
        case measure => simp [intOf]; omega

    have e36 : ((s[j].toNat : Int) == 36) = false := by
      rw [hcn]; simp; intro h; exact h36 (UInt8.toNat_inj.1 (by simpa using Int.ofNat.inj h))
    rw [if_neg h36] at hq
    clear h36
    by_cases h92 : c = 92
    · rw [if_pos h92] at hq
      have e92 : ((s[j].toNat : Int) == 92) = true := by rw [hcn, h92]; rfl
      by_cases hin : j + 1 < s.size
      · rw [getA s (j + 1) hin] at hq
        have HQ : Hid (wrdG s.data.toList xs j = wrdG s.data.toList (xs ++ [.inl s[j + 1]]) (j + 2)) := hide hq
        have gin : ¬ (s.size : Int) ≤ (j : Int) + 1 := by omega
        have i1 : (j : Int) + 1 < (s.size : Int) := by omega
        have i2 : (0 : Int) ≤ (j : Int) + 1 := by omega
        have i3 : IntKind.i64.wrap ((j : Int) + 1) = (j : Int) + 1 := by have := wrap_i64 (j + 1) (by omega); simpa using this
        have i4 : ((j : Int) + 1).toNat = j + 1 := by omega
        clear hc hq
        have HI6 := hide ((unhide HI).alloc (.cells #[.int .u8 (s[j + 1].toNat : Int), .string ⟨#[]⟩, .int .i64 0] 75)).drew
        have HRow := hide (unhide HI6).row
        have HK6 : Hid (∀ w6, ((wr.alloc (.cells #[.int .u8 (s[j + 1].toNat : Int), .string ⟨#[]⟩, .int .i64 0] 75)).drew).grownBy w6 (Value.slice ao n' cap).ownBlock → w6.cell? ⟨w.heap.size + 2, 0, none⟩ = some (.slice ao n' cap) ∧ w6.frozen? ⟨w.heap.size + 2, 0, none⟩ = false) := hide (fun w6 hg => (unhide HI6).at6 hg)
        have h0a : (wr.alloc (.cells #[.int .u8 (s[j + 1].toNat : Int), .string ⟨#[]⟩, .int .i64 0] 75)).cell? ⟨w.heap.size + 2, 0, none⟩ = some (.slice ao n' cap) := cell_of_row _ _ 0 _ _ _ (unhide HI6).c7
        have h0b : (wr.alloc (.cells #[.int .u8 (s[j + 1].toNat : Int), .string ⟨#[]⟩, .int .i64 0] 75)).drew.cell? ⟨w.heap.size + 2, 0, none⟩ = some (.slice ao n' cap) := cell_of_row _ _ 0 _ _ _ (unhide HI6).c7
        go_upto_region 24 with (first
          | (go_at_call 22; refine hS.mono ?_; clear hS; rintro ev w1 ⟨rfl, hw⟩; obtain rfl := hw.symm)
          | (go_at_call 21; refine hO.mono ?_; clear hO; rintro ev w1 ⟨rfl, hw'⟩; obtain rfl := hw'.symm))
        go_region_law
          ((refine step_append_lies _ (by rfl) _ _ _ (by rfl) (w.heap.size + 3) 75 i0 _ 3 32 Tryz.underlying45 hi hz0 hz1 hz2 rfl (by decide) (.slice ao n' cap) xs.length (atC xs) (by rfl) (by exact unhide HRow) ⟨wr.heap.size, 0, none⟩ 1 1 [.int .u8 (s[j + 1].toNat : Int), .string ⟨#[]⟩, .int .i64 0] (by rfl) (by rfl) (by exact World.news_of_block (cs := #[.int .u8 (s[j + 1].toNat : Int), .string ⟨#[]⟩, .int .i64 0]) (t := 75) (fr := (0, 0)) (one_newD _ _)) (by exact atm_one (.inl s[j + 1])) (by omega) (by unfold maxLen; omega) (by omega) (by show w.heap.size + 3 ≤ (wr.alloc _).heap.size; simp; omega) (wr.heap.size + 1) (by simp) ?_; intro gg cp1 w6 hown6 hgrow6 hlies hgl6; obtain ⟨kk1, kk2⟩ := unhide HK6 w6 hgrow6; have HA6 := hide hown6; clear hown6))
        all_goals
          try go_wp2_with fail
          go_roundw
          case rel =>
            first
              | exact ⟨j + 2, xs ++ [.inl s[j + 1]], _, by first | rfl | go_num | (congr 1; omega), (unhide HI6).grow hgrow6 (AtR.grow (a := .inl s[j + 1]) (unhide HA6)), by rw [unhide HG, unhide HQ], by omega, by omega, by first | omega | (simp; omega)⟩
              | ((repeat apply Exists.intro); exact ⟨⟨j + 2, xs ++ [.inl s[j + 1]], _, by first | rfl | go_num | (congr 1; omega), (unhide HI6).grow hgrow6 (AtR.grow (a := .inl s[j + 1]) (unhide HA6)), by rw [unhide HG, unhide HQ], by omega, by omega, by first | omega | (simp; omega)⟩, rfl⟩)
          case measure => simp [intOf]; omega
      · rw [getZ s (j + 1) hin] at hq
        have HQ : Hid (wrdG s.data.toList xs j = .error (5, j)) := hide hq
        clear hc hq
        go_upto_region 23 with (first
          | (go_at_call 22; refine hS.mono ?_; clear hS; rintro ev w1 ⟨rfl, hw⟩; obtain rfl := hw.symm)
          | (go_at_call 21; refine hO.mono ?_; clear hO; rintro ev w1 ⟨rfl, hw'⟩; obtain rfl := hw'.symm))
        rename_i K1 a1 K2 a2
        clear a1
        have HST := hide ((unhide HI).st4 (.slice ao n' cap) (.int .i64 (k : Int)))
        go_region_held3 (fun w' => w'.cell? ⟨w.heap.size + 2, 0, none⟩ = some (.slice ao n' cap) ∧ w'.cell? ⟨w.heap.size + 2, 1, none⟩ = some (.int .i64 (k : Int)))
          (first | exact ⟨p0, p1⟩ | exact ⟨h0, h1⟩ | exact ⟨keep2 (by omega) p0, keep2 (by omega) p1⟩ | exact ⟨keep2 (by omega) h0, keep2 (by omega) h1⟩ | exact ⟨keep2 (by omega) (keep2 (by omega) p0), keep2 (by omega) (keep2 (by omega) p1)⟩ | exact ⟨keep2 (by omega) (keep2 (by omega) h0), keep2 (by omega) (keep2 (by omega) h1)⟩)
          (first
            | (go_at_call 9; refine (bad_any _ _ _).mono ?_; rintro ev w2 ⟨rfl, hb2'⟩; have hb2 : Below wr.heap.size wr w2 := (by first | exact hb2' | exact below0 hb2'); have HI2 := hide ((unhide HI).below hb2); have p0 : w2.cell? ⟨w.heap.size + 2, 0, none⟩ = some (.slice ao n' cap) := cell_of_row _ _ 0 _ _ _ (unhide HI2).c7; have p1 : w2.cell? ⟨w.heap.size + 2, 1, none⟩ = some (.int .i64 (k : Int)) := cell_of_row _ _ 1 _ _ _ (unhide HI2).c7; have q0 : w2.cell? ⟨w.heap.size, 0, none⟩ = some (.slice none 0 0) := cell_of_row _ _ 0 _ _ _ (unhide HI2).c4; have q1 : w2.cell? ⟨w.heap.size, 1, none⟩ = some (.int .i64 0) := cell_of_row _ _ 1 _ _ _ (unhide HI2).c4; have r0 : w2.cell? ⟨w.heap.size + 1, 0, none⟩ = some (.int .i64 0) := cell_of_row _ _ 0 _ _ _ (unhide HI2).c6; have r1 : w2.cell? ⟨w.heap.size + 1, 1, none⟩ = some (.int .i64 0) := cell_of_row _ _ 1 _ _ _ (unhide HI2).c6; have z0 : ∀ i, w2.frozen? ⟨w.heap.size, i, none⟩ = false := (fun i => by simp [World.frozen?, (unhide HI2).c4]); have z1 : ∀ i, w2.frozen? ⟨w.heap.size + 1, i, none⟩ = false := (fun i => by simp [World.frozen?, (unhide HI2).c6]))
            | (go_at_call 9; refine (bad_any _ _ _).mono ?_; rintro ev w2 ⟨rfl, hb2'⟩; have hb2 : Below ((wr.setCell ⟨w.heap.size, 0, none⟩ (.slice ao n' cap)).setCell ⟨w.heap.size, 1, none⟩ (.int .i64 (k : Int))).heap.size ((wr.setCell ⟨w.heap.size, 0, none⟩ (.slice ao n' cap)).setCell ⟨w.heap.size, 1, none⟩ (.int .i64 (k : Int))) w2 := (by first | exact hb2' | exact below0 hb2'); have HI3B := hide ((unhide HST).below hb2); have p0 : w2.cell? ⟨w.heap.size + 2, 0, none⟩ = some (.slice ao n' cap) := cell_of_row _ _ 0 _ _ _ (unhide HI3B).c7; have p1 : w2.cell? ⟨w.heap.size + 2, 1, none⟩ = some (.int .i64 (k : Int)) := cell_of_row _ _ 1 _ _ _ (unhide HI3B).c7; have q0 : w2.cell? ⟨w.heap.size, 0, none⟩ = some (.slice ao n' cap) := cell_of_row _ _ 0 _ _ _ (unhide HI3B).c4; have q1 : w2.cell? ⟨w.heap.size, 1, none⟩ = some (.int .i64 (k : Int)) := cell_of_row _ _ 1 _ _ _ (unhide HI3B).c4; have r0 : w2.cell? ⟨w.heap.size + 1, 0, none⟩ = some (.int .i64 0) := cell_of_row _ _ 0 _ _ _ (unhide HI3B).c6; have r1 : w2.cell? ⟨w.heap.size + 1, 1, none⟩ = some (.int .i64 0) := cell_of_row _ _ 1 _ _ _ (unhide HI3B).c6; have z0 : ∀ i, w2.frozen? ⟨w.heap.size, i, none⟩ = false := (fun i => by simp [World.frozen?, (unhide HI3B).c4]); have z1 : ∀ i, w2.frozen? ⟨w.heap.size + 1, i, none⟩ = false := (fun i => by simp [World.frozen?, (unhide HI3B).c6])))
        go_wp2_with fail
        all_goals
          first | exact ((unhide HI2).st4 _ _).fin6 rfl rfl rfl (fun W9 srow sb => ⟨by rw [unhide HG, unhide HQ]; exact ⟨(by decide), _, _, _, rfl⟩, sb⟩) | exact (unhide HI3B).fin6 rfl rfl rfl (fun W9 srow sb => ⟨by rw [unhide HG, unhide HQ]; exact ⟨(by decide), _, _, _, rfl⟩, sb⟩) | exact ((unhide HI2).drew.st4 _ _).fin6 rfl rfl rfl (fun W9 srow sb => ⟨by rw [unhide HG, unhide HQ]; exact ⟨(by decide), _, _, _, rfl⟩, sb⟩)
    have e92 : ((s[j].toNat : Int) == 92) = false := by
      rw [hcn]; simp; intro h; exact h92 (UInt8.toNat_inj.1 (by simpa using Int.ofNat.inj h))
    rw [if_neg h92] at hq
    clear h92
    have HQ : Hid (wrdG s.data.toList xs j = wrdG s.data.toList (xs ++ [.inl s[j]]) (j + 1)) := hide (by rw [hq, hcv])
    clear hcn hcv
    clear hc hq
    have HI6 := hide ((unhide HI).alloc (.cells #[.int .u8 (s[j].toNat : Int), .string ⟨#[]⟩, .int .i64 0] 75)).drew
    have HRow := hide (unhide HI6).row
    have HK6 : Hid (∀ w6, ((wr.alloc (.cells #[.int .u8 (s[j].toNat : Int), .string ⟨#[]⟩, .int .i64 0] 75)).drew).grownBy w6 (Value.slice ao n' cap).ownBlock → w6.cell? ⟨w.heap.size + 2, 0, none⟩ = some (.slice ao n' cap) ∧ w6.frozen? ⟨w.heap.size + 2, 0, none⟩ = false) := hide (fun w6 hg => (unhide HI6).at6 hg)
    have h0a : (wr.alloc (.cells #[.int .u8 (s[j].toNat : Int), .string ⟨#[]⟩, .int .i64 0] 75)).cell? ⟨w.heap.size + 2, 0, none⟩ = some (.slice ao n' cap) := cell_of_row _ _ 0 _ _ _ (unhide HI6).c7
    have h0b : (wr.alloc (.cells #[.int .u8 (s[j].toNat : Int), .string ⟨#[]⟩, .int .i64 0] 75)).drew.cell? ⟨w.heap.size + 2, 0, none⟩ = some (.slice ao n' cap) := cell_of_row _ _ 0 _ _ _ (unhide HI6).c7
    go_upto_region 7 with (first
      | (go_at_call 22; refine hS.mono ?_; clear hS; rintro ev w1 ⟨rfl, hw⟩; obtain rfl := hw.symm)
      | (go_at_call 21; refine hO.mono ?_; clear hO; rintro ev w1 ⟨rfl, hw'⟩; obtain rfl := hw'.symm))
    go_region_law
      ((refine step_append_lies _ (by rfl) _ _ _ (by rfl) (w.heap.size + 3) 75 i0 _ 3 32 Tryz.underlying45 hi hz0 hz1 hz2 rfl (by decide) (.slice ao n' cap) xs.length (atC xs) (by rfl) (by exact unhide HRow) ⟨wr.heap.size, 0, none⟩ 1 1 [.int .u8 (s[j].toNat : Int), .string ⟨#[]⟩, .int .i64 0] (by rfl) (by rfl) (by exact World.news_of_block (cs := #[.int .u8 (s[j].toNat : Int), .string ⟨#[]⟩, .int .i64 0]) (t := 75) (fr := (0, 0)) (one_newD _ _)) (by exact atm_one (.inl s[j])) (by omega) (by unfold maxLen; omega) (by omega) (by show w.heap.size + 3 ≤ (wr.alloc _).heap.size; simp; omega) (wr.heap.size + 1) (by simp) ?_; intro gg cp1 w6 hown6 hgrow6 hlies hgl6; obtain ⟨kk1, kk2⟩ := unhide HK6 w6 hgrow6; have HA6 := hide hown6; clear hown6))
    all_goals
      try go_wp2_with fail
      go_roundw
      case rel =>
        first
          | exact ⟨j + 1, xs ++ [.inl s[j]], _, by first | rfl | go_num | (congr 1; omega), (unhide HI6).grow hgrow6 (AtR.grow (a := .inl s[j]) (unhide HA6)), by rw [unhide HG, unhide HQ], by omega, by omega, by first | omega | (simp; omega)⟩
          | ((repeat apply Exists.intro); exact ⟨⟨j + 1, xs ++ [.inl s[j]], _, by first | rfl | go_num | (congr 1; omega), (unhide HI6).grow hgrow6 (AtR.grow (a := .inl s[j]) (unhide HA6)), by rw [unhide HG, unhide HQ], by omega, by omega, by first | omega | (simp; omega)⟩, rfl⟩)
      case measure => simp [intOf]; omega
end Go.Proofs.YtkikhmleffcajaaGreatDoor
