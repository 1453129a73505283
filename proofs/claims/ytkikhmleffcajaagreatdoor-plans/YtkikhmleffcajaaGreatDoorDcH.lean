import Derived.Test.YtkikhmleffcajaaGreatDoorDcG
import Derived.Test.YtkikhmleffcajaaGreatDoorJDcM
namespace Go.Proofs.YtkikhmleffcajaaGreatDoor
open Go.RowKit Go.Maps

theorem cmt_stop {l : List UInt8} {i : Nat} (h : stopG l i = true) : cmtG l i = i := by
  unfold cmtG
  cases hc : l[i]? with
  | none => rw [List.drop_eq_nil_of_le (List.getElem?_eq_none_iff.1 hc)]; rfl
  | some c =>
    have hlt := (List.getElem?_eq_some_iff.1 hc).1
    unfold stopG at h
    rw [hc] at h
    have h10 : c = 10 := by simpa using h
    rw [List.drop_eq_getElem_cons hlt, (List.getElem?_eq_some_iff.1 hc).2, h10]; rfl
theorem cmt_step {l : List UInt8} {i : Nat} (h : stopG l i = false) : i < l.length ∧ cmtG l i = cmtG l (i + 1) := by
  unfold cmtG
  cases hc : l[i]? with
  | none => unfold stopG at h; rw [hc] at h; exact absurd h (by decide)
  | some c =>
    have hlt := (List.getElem?_eq_some_iff.1 hc).1
    unfold stopG at h
    rw [hc] at h
    have h10 : (c != 10) = true := by simpa using h
    refine ⟨hlt, ?_⟩
    rw [List.drop_eq_getElem_cons hlt, (List.getElem?_eq_some_iff.1 hc).2, List.takeWhile_cons_of_pos (p := fun c => c != 10) h10]
    simp; omega
/-- What the document's line answers. -/
def LinD (w' : World) (B : Nat) (ev : Ending) (r : Res (List Wd × Nat)) (k n : Nat) : Prop := match r with
  | .error (e, p) => e ≠ 0 ∧ ev = .returned (.tuple #[.slice none 0 0, .int .i64 0, fltV e p])
  | .ok (ws, t) => ∃ v ms, ∃ t' : Nat, ev = .returned (.tuple #[v, .int .i64 (t' : Int), fltV 0 (-1)]) ∧ WsD w' B v ms ∧ ms.map WdM.wd = ws ∧ k < t' ∧ (t' = t ∨ (t = n ∧ t' = n + 1)) ∧ ms.length ≤ n ∧ ∀ m ∈ ms, m.xs.length ≤ n
/-- The worlds inside of line. -/
structure In10 (w wr : World) (v : Value) (ms : List WdM) : Prop where
  c6 : wr.heap[w.heap.size]? = some (.cells #[.int .i64 0, .int .i64 0] 28 (0, 0))
  ws : WsD wr (w.heap.size + 1) v ms
  bel : Below w.heap.size w wr
  big : w.heap.size + 1 ≤ wr.heap.size
theorem In10.below {w wr w2 : World} {v : Value} {ms : List WdM} (h : In10 w wr v ms) (hb : Below wr.heap.size wr w2) : In10 w w2 v ms :=
  have hs := h.big
  ⟨(hb.block _ (by omega)).trans h.c6, h.ws.below hb, h.bel.trans (hb.mono h.bel.size), Nat.le_trans hs hb.size⟩
theorem In10.alloc {w wr : World} {v : Value} {ms : List WdM} (h : In10 w wr v ms) (o : Obj) : In10 w (wr.alloc o) v ms :=
  h.below ((Below.refl _ _).alloc (Nat.le_refl _) _)
theorem In10.drew {w wr : World} {v : Value} {ms : List WdM} (h : In10 w wr v ms) : In10 w wr.drew v ms := ⟨h.c6, ⟨h.ws.row, h.ws.all⟩, h.bel.drew, h.big⟩
theorem In10.snoc {w w1 w6 : World} {v v6 : Value} {ms : List WdM} {m : WdM} (h : In10 w w1 v ms) (hm : AtR w1 (w.heap.size + 1) m.v m.xs) (hg : w1.grownBy w6 v.ownBlock) (hown : w6.ownsRow (w.heap.size + 1) 47 2 v6 (ms.length + 1) (wdcD ms ++ m.cellsD)) : In10 w w6 v6 (ms ++ [m]) := by
  have hs := h.big
  refine ⟨(hg.block _ (by omega) (fun e => by have := (World.ownsRow.lt h.ws.row _ e.symm).1; omega)).trans h.c6, h.ws.snoc hm hown hg, h.bel.grown hg (by omega) (fun q hq => by have := (World.ownsRow.lt h.ws.row q hq).1; omega), Nat.le_trans hs hg.size⟩
theorem end10 {tm : Array Value} {W : World} {b : Nat} {d0 d1 v4 v5 : Value} {R : Ending → World → Prop} (h4 : tm[4]?.getD undef = v4) (h5 : tm[5]?.getD undef = v5) (h6 : tm[6]?.getD undef = .pointer (some ⟨b, 0, none⟩))
    (hb : W.heap[b]? = some (.cells #[d0, d1] 28 (0, 0))) (hR : R (.returned (.tuple #[v4, v5, .agg #[d0, d1]])) W) : bodyPost Tryz.prog Tryz.f10 R .ret { tmps := tm, defers := [] } W := by
  have e2 : W.cell? ⟨b, 0, none⟩ = some d0 := cell_of_row _ _ 0 _ _ _ hb
  have e3 : W.cell? ⟨b, 1, none⟩ = some d1 := cell_of_row _ _ 1 _ _ _ hb
  refine ⟨rfl, _, ?_, hR⟩
  simp only [results, Tryz.results10]
  simp [go_sem, h4, h5, h6, e2, e3]
theorem In10.fin {w wr : World} {v : Value} {ms : List WdM} (h : In10 w wr v ms) {tm : Array Value} {v4 v5 : Value} {e p : Int} {R : Ending → World → Prop} (h4 : tm[4]?.getD undef = v4) (h5 : tm[5]?.getD undef = v5) (h6 : tm[6]?.getD undef = .pointer (some ⟨w.heap.size, 0, none⟩))
    (hR : ∀ W9, WsD W9 w.heap.size v ms → Below w.heap.size w W9 → R (.returned (.tuple #[v4, v5, fltV e p])) W9) :
    bodyPost Tryz.prog Tryz.f10 R .ret { tmps := tm, defers := [] } ((wr.setCell ⟨w.heap.size, 0, none⟩ (.int .i64 e)).setCell ⟨w.heap.size, 1, none⟩ (.int .i64 p)) := by
  refine end10 h4 h5 h6 (set2 h.c6 _ _) (hR _ ?_ (below2 h.bel (Nat.le_refl _) _ _))
  refine (h.ws.same fun q hq _ => ?_).base (by omega)
  rw [Below.heap_setCell _ _ _ _ (by show q ≠ w.heap.size; omega), Below.heap_setCell _ _ _ _ (by show q ≠ w.heap.size; omega)]
set_option maxHeartbeats 4000000 in
set_option maxRecDepth 10000 in
theorem lin_doc (s : ByteArray) (k : Nat) (w : World) (hk : k ≤ s.size) (hs : s.size ≤ 1500) :
    Calls Tryz.prog 10 #[.string s, .int .i64 (k : Int)] w fun ev w' => LinD w' w.heap.size ev (linG s.data.toList [] k) k s.size ∧ Below w.heap.size w w' := by
  obtain ⟨i0, hi, hz0, hz1, hz2⟩ := info_parts info46
  obtain ⟨W0, hW0⟩ : ∃ W0, W0 = w.alloc (.cells #[.int .i64 0, .int .i64 0] 28) := ⟨_, rfl⟩
  have hI0 : In10 w W0 (.slice none 0 0) [] := by
    rw [hW0]
    exact ⟨heap_alloc_new _ _, ⟨World.ownsRow_nil _ _ _ _, by simp⟩, (Below.refl _ _).alloc (Nat.le_refl _) _, by simp⟩
  have HI0 := hide hI0
  clear hI0
  go_enter Tryz.func10, Tryz.ntmps10
  go_upto_region 1 with fail
  rw [← hW0]
  clear hW0
  go_wp2_with fail
  go_loopw [1, 7] (fun i v wr => ∃ (j : Nat) (ms : List WdM), i = .int .i64 (j : Int) ∧ In10 w wr v ms ∧ linG s.data.toList [] k = linG s.data.toList (ms.map WdM.wd) j ∧ k ≤ j ∧ j ≤ s.size ∧ ms.length ≤ j ∧ ∀ m ∈ ms, m.xs.length ≤ s.size) (fun i _ _ => s.size - (intOf i).toNat)
  case atStart => exact ⟨k, [], rfl, unhide HI0, rfl, Nat.le_refl _, hk, by simp, by simp⟩
  case round =>
    obtain ⟨j, ms, rfl, hI, hG, hkj, hj, hml, hXL⟩ := hrel
    obtain ⟨ao, n', cap, rfl⟩ := row_form hI.ws.row
    have hnm : (ms = [] → n' = 0) ∧ (ms ≠ [] → n' ≠ 0) := by
      rcases hI.ws.row.2 with ⟨e, h⟩ | ⟨g, c, cur, e, _⟩
      · injection e with _ e _
        exact ⟨fun _ => e, fun h' => absurd (List.eq_nil_of_length_eq_zero h) h'⟩
      · injection e with _ e _
        exact ⟨fun h => by rw [e, h]; rfl, fun h h' => h (List.eq_nil_of_length_eq_zero (by rw [← e]; exact h'))⟩
    have hbig := hI.big
    have HI := hide hI
    have HG := hide hG
    have HXL := hide hXL
    clear hI hG hXL
    have hS := stops_any s j wr (by omega) hs
    have hO := goes_any s j wr (by omega) hs
    by_cases hst : stopG s.data.toList j = true
    · have HQ : Hid (∃ t, linG s.data.toList (ms.map WdM.wd) j = .ok (ms.map WdM.wd, t) ∧ (j + 1 = t ∨ (t = s.size ∧ j + 1 = s.size + 1))) := hide (by
        unfold stopG at hst
        cases hc : s.data.toList[j]? with
        | none =>
          have := List.getElem?_eq_none_iff.1 hc
          rw [← Lib.size_eq] at this
          exact ⟨j, lin_none hc, .inr ⟨by omega, by omega⟩⟩
        | some c => rw [hc] at hst; simp at hst; exact ⟨j + 1, lin_nl (by rw [hc, hst]), .inl rfl⟩)
      rw [hst] at hS
      clear hst
      go_wp2_with (first
        | (go_at_call 22; refine hS.mono ?_; clear hS; rintro ev w1 ⟨rfl, hw⟩; obtain rfl := hw.symm)
        | (go_at_call 21; refine hO.mono ?_; clear hO; rintro ev w1 ⟨rfl, hw'⟩; obtain rfl := hw'.symm)
        | (go_at_call 15; refine (fine_any _).mono ?_; rintro ev w2 ⟨rfl, hb2⟩; have HI2 := hide ((unhide HI).below hb2); have r0 : w2.cell? ⟨w.heap.size, 0, none⟩ = some (.int .i64 0) := cell_of_row _ _ 0 _ _ _ (unhide HI2).c6; have r1 : w2.cell? ⟨w.heap.size, 1, none⟩ = some (.int .i64 0) := cell_of_row _ _ 1 _ _ _ (unhide HI2).c6; have z1 : ∀ i, w2.frozen? ⟨w.heap.size, i, none⟩ = false := (fun i => by simp [World.frozen?, (unhide HI2).c6])))
      refine (unhide HI2).fin rfl rfl rfl (fun W9 sw sb => ⟨?_, sb⟩)
      obtain ⟨t, hq, ht⟩ := unhide HQ
      rw [unhide HG, hq]
      exact ⟨_, ms, j + 1, rfl, sw, rfl, by omega, ht, by omega, unhide HXL⟩
    rw [Bool.not_eq_true] at hst
    rw [hst] at hS
    cases hc : s.data.toList[j]? with
    | none => exact absurd hst (by unfold stopG; rw [hc]; decide)
    | some c =>
    obtain ⟨hlt, hcv⟩ := get_some hc
    have hcn : s[j].toNat = c.toNat := by rw [hcv]
    have h10 : ¬ c = 10 := fun e => by rw [e] at hc; unfold stopG at hst; rw [hc] at hst; exact absurd hst (by decide)
    have hq := lin_some (ws := ms.map WdM.wd) hc
    rw [if_neg h10] at hq
    by_cases hgo : goesG s.data.toList j = true
    · have HQ : Hid (linG s.data.toList (ms.map WdM.wd) j = linG s.data.toList (ms.map WdM.wd) (j + 2)) := hide (by rw [hq, if_pos hgo])
      have hgl : j + 1 < s.size := by
        have := goes_lt hgo
        rw [← Lib.size_eq] at this; exact this
      rw [hgo] at hO
      clear hst hgo hc hq
      go_wp2_with (first
        | (go_at_call 22; refine hS.mono ?_; clear hS; rintro ev w1 ⟨rfl, hw⟩; obtain rfl := hw.symm)
        | (go_at_call 21; refine hO.mono ?_; clear hO; rintro ev w1 ⟨rfl, hw'⟩; obtain rfl := hw'.symm))
      go_roundw
      case rel =>
        first
          | exact ⟨j + 2, ms, by first | rfl | go_num | (congr 1; omega), unhide HI, by rw [unhide HG, unhide HQ], by omega, by omega, by first | omega | (simp; omega), unhide HXL⟩
          | ((repeat apply Exists.intro); exact ⟨⟨j + 2, ms, by first | rfl | go_num | (congr 1; omega), unhide HI, by rw [unhide HG, unhide HQ], by omega, by omega, by first | omega | (simp; omega), unhide HXL⟩, rfl⟩)
      case measure => simp [intOf]; omega
    rw [Bool.not_eq_true] at hgo
    rw [hgo, if_neg (by decide)] at hq
    rw [hgo] at hO
    by_cases h32 : c = 32
    · have HQ : Hid (linG s.data.toList (ms.map WdM.wd) j = linG s.data.toList (ms.map WdM.wd) (j + 1)) := hide (by rw [hq, if_pos h32])
      have e32 : ((s[j].toNat : Int) == 32) = true := by rw [hcn, h32]; rfl
      clear hst hgo hc hq
      go_wp2_with (first
        | (go_at_call 22; refine hS.mono ?_; clear hS; rintro ev w1 ⟨rfl, hw⟩; obtain rfl := hw.symm)
        | (go_at_call 21; refine hO.mono ?_; clear hO; rintro ev w1 ⟨rfl, hw'⟩; obtain rfl := hw'.symm))
      go_roundw
      case rel =>
        first
          | exact ⟨j + 1, ms, by first | rfl | go_num | (congr 1; omega), unhide HI, by rw [unhide HG, unhide HQ], by omega, by omega, by first | omega | (simp; omega), unhide HXL⟩
          | ((repeat apply Exists.intro); exact ⟨⟨j + 1, ms, by first | rfl | go_num | (congr 1; omega), unhide HI, by rw [unhide HG, unhide HQ], by omega, by omega, by first | omega | (simp; omega), unhide HXL⟩, rfl⟩)
      case measure => simp [intOf]; omega
    have e32 : ((s[j].toNat : Int) == 32) = false := by
      rw [hcn]; simp; intro h; exact h32 (UInt8.toNat_inj.1 (by simpa using Int.ofNat.inj h))
    rw [if_neg h32] at hq
    have hgo2 := hgo
    have hn32 := h32
    clear hgo h32
    by_cases h35 : c = 35 ∧ ms = []
    · obtain ⟨h35, rfl⟩ := h35
      have e35 : ((s[j].toNat : Int) == 35) = true := by rw [hcn, h35]; rfl
      obtain rfl : n' = 0 := hnm.1 rfl
      have hcl : cmtG s.data.toList j ≤ s.size := by rw [Lib.size_eq]; exact cmt_len (by rw [← Lib.size_eq]; exact hj)
      have hcg : j < cmtG s.data.toList j := cmt_lt (by rw [hc, h35])
      have HQ : Hid (linG s.data.toList ([] : List Wd) j = linG s.data.toList [] (cmtG s.data.toList j)) := hide (lin_cmt (by rw [hc, h35]))
      clear hc hq
      go_wp2_with (first
        | (go_at_call 22; refine hS.mono ?_; clear hS; rintro ev w1 ⟨rfl, hw⟩; obtain rfl := hw.symm)
        | (go_at_call 21; refine hO.mono ?_; clear hO; rintro ev w1 ⟨rfl, hw'⟩; obtain rfl := hw'.symm))
      go_loop [1, 9] (fun i e => ∃ q : Nat, i = .int .i64 (q : Int) ∧ e = .bool (stopG s.data.toList q) ∧ j ≤ q ∧ q ≤ s.size ∧ cmtG s.data.toList j = cmtG s.data.toList q) (fun i _ => s.size - (intOf i).toNat)
      case atStart => exact ⟨j, rfl, by rw [hst], Nat.le_refl _, hj, rfl⟩
      case round =>
        obtain ⟨q, rfl, rfl, hjq, hqs, hcq⟩ := hrel
        have HC := hide hcq
        clear hcq
        cases hsq : stopG s.data.toList q with
        | true =>
          have HE : Hid (cmtG s.data.toList j = q) := hide ((unhide HC).trans (cmt_stop hsq))
          clear hsq
          have hqj : j < q := by rw [← unhide HE]; exact hcg
          go_wp2_with fail
          go_roundw
          case rel =>
            first
              | exact ⟨q, [], by first | rfl | go_num | (congr 1; omega), unhide HI, by rw [unhide HG, ← unhide HE]; exact unhide HQ, by omega, by omega, by first | omega | (simp; omega), unhide HXL⟩
              | ((repeat apply Exists.intro); exact ⟨⟨q, [], by first | rfl | go_num | (congr 1; omega), unhide HI, by rw [unhide HG, ← unhide HE]; exact unhide HQ, by omega, by omega, by first | omega | (simp; omega), unhide HXL⟩, rfl⟩)
          case measure => simp [intOf]; omega
        | false =>
          obtain ⟨hql, hqn⟩ := cmt_step hsq
          rw [← Lib.size_eq] at hql
          have HC2 : Hid (cmtG s.data.toList j = cmtG s.data.toList (q + 1)) := hide ((unhide HC).trans hqn)
          have hSq := stops_any s (q + 1) wr (by omega) hs
          clear hsq hqn
          go_wp2_with (go_at_call 22; refine hSq.mono ?_; clear hSq; rintro ev w1 ⟨rfl, hw⟩; obtain rfl := hw.symm)
          go_round
          case rel => exact ⟨q + 1, by go_num, rfl, by omega, by omega, unhide HC2⟩
          case measure => simp [intOf]; omega
    have hE : endG s.data.toList j = false := by
      rw [end_some hc]; refine decide_eq_false ?_
      rintro (e | e | e)
      · exact h10 e
      · exact hn32 e
      · rw [hgo2] at e; cases e
    have hnil : ¬ (c = 35 ∧ ms.map WdM.wd = []) := fun e => h35 ⟨e.1, List.map_eq_nil_iff.1 e.2⟩
    rw [if_neg hnil] at hq
    have hW := wrd_doc s j wr (by omega) hs
    have hn0 : c = 35 → ((n' : Int) == 0) = false := fun e => by
      have := hnm.2 (fun e' => h35 ⟨e, e'⟩)
      simp; omega
    clear hnil hnm h35
    by_cases hc35 : c = 35
    · have gn := hn0 hc35
      have e35 : ((s[j].toNat : Int) == 35) = true := by rw [hcn, hc35]; rfl
      clear hn0
      cases hr : wrdG s.data.toList [] j with
      | error x =>
        obtain ⟨e, p⟩ := x
        rw [hr] at hq hW
        have HQ : Hid (linG s.data.toList (ms.map WdM.wd) j = .error (e, p)) := hide hq
        unfold WrdD at hW
        clear hc hq hr hE
        go_upto_region 5 with (first
          | (go_at_call 22; refine hS.mono ?_; clear hS; rintro ev w1 ⟨rfl, hw⟩; obtain rfl := hw.symm)
          | (go_at_call 21; refine hO.mono ?_; clear hO; rintro ev w1 ⟨rfl, hw'⟩; obtain rfl := hw'.symm)
          | (go_at_call 23; refine hW.mono ?_; clear hW; rintro ev w1 ⟨⟨hne, ao1, n1, cap1, rfl⟩, hb1⟩))
        have ge : (((e : Nat) : Int) != 0) = true := by simp; omega
        obtain ⟨w2, hw2⟩ : ∃ w2, w2 = (w1.alloc (.cells #[.slice ao1 n1 cap1, .int .i64 (j : Int)] 47)).alloc (.cells #[.int .i64 (e : Int), .int .i64 (p : Int)] 28) := ⟨_, rfl⟩
        have hw12 : Below w1.heap.size w1 w2 := by rw [hw2]; exact ((Below.refl _ _).alloc (Nat.le_refl _) _).alloc (by simp) _
        have hb2 : Below wr.heap.size wr w2 := hb1.trans (hw12.mono hb1.size)
        have hn2 : w2.heap[w1.heap.size]? = some (.cells #[.slice ao1 n1 cap1, .int .i64 (j : Int)] 47 (0, 0)) := by rw [hw2, Below.heap_alloc _ _ _ (by simp)]; exact heap_alloc_new _ _
        have hm2 : w2.heap[w1.heap.size + 1]? = some (.cells #[.int .i64 (e : Int), .int .i64 (p : Int)] 28 (0, 0)) := by
          have := heap_alloc_new (w1.alloc (.cells #[.slice ao1 n1 cap1, .int .i64 (j : Int)] 47)) (.cells #[.int .i64 (e : Int), .int .i64 (p : Int)] 28)
          rw [World.size_alloc, ← hw2] at this; exact this
        rw [← hw2]
        clear hw2
        have HI2 := hide ((unhide HI).below hb2)
        have r0 : w2.cell? ⟨w.heap.size, 0, none⟩ = some (.int .i64 0) := cell_of_row _ _ 0 _ _ _ (unhide HI2).c6
        have r1 : w2.cell? ⟨w.heap.size, 1, none⟩ = some (.int .i64 0) := cell_of_row _ _ 1 _ _ _ (unhide HI2).c6
        have z1 : ∀ i, w2.frozen? ⟨w.heap.size, i, none⟩ = false := (fun i => by simp [World.frozen?, (unhide HI2).c6])
        have t0 : w2.cell? ⟨w1.heap.size + 1, 0, none⟩ = some (.int .i64 (e : Int)) := cell_of_row _ _ 0 _ _ _ hm2
        have t1 : w2.cell? ⟨w1.heap.size + 1, 1, none⟩ = some (.int .i64 (p : Int)) := cell_of_row _ _ 1 _ _ _ hm2
        have s0 : w2.cell? ⟨w1.heap.size, 0, none⟩ = some (.slice ao1 n1 cap1) := cell_of_row _ _ 0 _ _ _ hn2
        have s1 : w2.cell? ⟨w1.heap.size, 1, none⟩ = some (.int .i64 (j : Int)) := cell_of_row _ _ 1 _ _ _ hn2
        have hbig1 : w.heap.size + 1 ≤ w1.heap.size := Nat.le_trans hbig hb1.size
        clear hm2 hn2
        go_upto_region 6 with fail
        go_region_held3 (fun w' => w'.cell? ⟨w1.heap.size + 1, 0, none⟩ = some (.int .i64 (e : Int)) ∧ w'.cell? ⟨w1.heap.size + 1, 1, none⟩ = some (.int .i64 (p : Int)))
          (first | exact ⟨t0, t1⟩ | exact ⟨keep2 (by omega) t0, keep2 (by omega) t1⟩) (fail)
        all_goals
          try go_wp2_with fail
          first
            | exact (unhide HI2).fin rfl rfl rfl (fun W9 sw sb => ⟨by rw [unhide HG, unhide HQ]; exact ⟨hne, rfl⟩, sb⟩)
            | exact (unhide HI2).drew.fin rfl rfl rfl (fun W9 sw sb => ⟨by rw [unhide HG, unhide HQ]; exact ⟨hne, rfl⟩, sb⟩)
      | ok x =>
        obtain ⟨a, t⟩ := x
        have hjt := wrd_gt hE hr
        rw [hr] at hq hW
        have HQ : Hid (linG s.data.toList (ms.map WdM.wd) j = linG s.data.toList (ms.map WdM.wd ++ [⟨a, j⟩]) t) := hide (by rw [hq]; simp only; rw [if_pos hjt])
        unfold WrdD at hW
        clear hc hq hr hE
        go_upto_region 5 with (first
          | (go_at_call 22; refine hS.mono ?_; clear hS; rintro ev w1 ⟨rfl, hw⟩; obtain rfl := hw.symm)
          | (go_at_call 21; refine hO.mono ?_; clear hO; rintro ev w1 ⟨rfl, hw'⟩; obtain rfl := hw'.symm)
          | (go_at_call 23; refine hW.mono ?_; clear hW; rintro ev w1 ⟨⟨v1, rfl, hrow1, hjt2, hts, hal⟩, hb1⟩; obtain ⟨ao1, n1, cap1, rfl⟩ := row_form hrow1))
        obtain ⟨w2, hw2⟩ : ∃ w2, w2 = (w1.alloc (.cells #[.slice ao1 n1 cap1, .int .i64 (j : Int)] 47)).alloc (.cells #[.int .i64 0, .int .i64 (-1)] 28) := ⟨_, rfl⟩
        have hw12 : Below w1.heap.size w1 w2 := by rw [hw2]; exact ((Below.refl _ _).alloc (Nat.le_refl _) _).alloc (by simp) _
        have hb2 : Below wr.heap.size wr w2 := hb1.trans (hw12.mono hb1.size)
        have hn2 : w2.heap[w1.heap.size]? = some (.cells #[.slice ao1 n1 cap1, .int .i64 (j : Int)] 47 (0, 0)) := by rw [hw2, Below.heap_alloc _ _ _ (by simp)]; exact heap_alloc_new _ _
        have hm2 : w2.heap[w1.heap.size + 1]? = some (.cells #[.int .i64 0, .int .i64 (-1)] 28 (0, 0)) := by
          have := heap_alloc_new (w1.alloc (.cells #[.slice ao1 n1 cap1, .int .i64 (j : Int)] 47)) (.cells #[.int .i64 0, .int .i64 (-1)] 28)
          rw [World.size_alloc, ← hw2] at this; exact this
        rw [← hw2]
        clear hw2
        have HI2 := hide ((unhide HI).below hb2)
        have r0 : w2.cell? ⟨w.heap.size, 0, none⟩ = some (.int .i64 0) := cell_of_row _ _ 0 _ _ _ (unhide HI2).c6
        have r1 : w2.cell? ⟨w.heap.size, 1, none⟩ = some (.int .i64 0) := cell_of_row _ _ 1 _ _ _ (unhide HI2).c6
        have z1 : ∀ i, w2.frozen? ⟨w.heap.size, i, none⟩ = false := (fun i => by simp [World.frozen?, (unhide HI2).c6])
        have t0 : w2.cell? ⟨w1.heap.size + 1, 0, none⟩ = some (.int .i64 0) := cell_of_row _ _ 0 _ _ _ hm2
        have t1 : w2.cell? ⟨w1.heap.size + 1, 1, none⟩ = some (.int .i64 (-1)) := cell_of_row _ _ 1 _ _ _ hm2
        have s0 : w2.cell? ⟨w1.heap.size, 0, none⟩ = some (.slice ao1 n1 cap1) := cell_of_row _ _ 0 _ _ _ hn2
        have s1 : w2.cell? ⟨w1.heap.size, 1, none⟩ = some (.int .i64 (j : Int)) := cell_of_row _ _ 1 _ _ _ hn2
        have hbig1 : w.heap.size + 1 ≤ w1.heap.size := Nat.le_trans hbig hb1.size
        clear hm2 hn2
        have hrow2 : AtR w2 (w.heap.size + 1) (.slice ao1 n1 cap1) a := row_base (row_same hrow1 fun q hq => hw12.block q (World.ownsRow.lt hrow1 q hq).2) hbig
        have HROW2 := hide (hrow2.alloc (.cells #[.slice ao1 n1 cap1, .int .i64 (j : Int)] 47))
        have HI6 := hide ((unhide HI2).alloc (.cells #[.slice ao1 n1 cap1, .int .i64 (j : Int)] 47))
        have HRow := hide (unhide HI6).ws.row
        have hbig2 := (unhide HI2).big
        have HXL2 : Hid (∀ m ∈ ms ++ [(⟨j, .slice ao1 n1 cap1, a⟩ : WdM)], m.xs.length ≤ s.size) := hide (fun m hm => by
          rcases List.mem_append.1 hm with h' | h'
          · exact unhide HXL m h'
          · rw [List.mem_singleton] at h'; rw [h']; show a.length ≤ s.size; omega)
        clear hrow1 hrow2 hw12
        go_wp2_with (at_builtin; refine wpList_append_own _ rfl _ _ 40 rfl (w.heap.size + 1) 47 i0 _ 2 32 Tryz.underlying40 hi hz0 hz1 hz2 rfl (by decide) _ ms.length (wdcD ms) rfl (unhide HRow) ⟨w2.heap.size, 0, none⟩ 1 1 [.slice ao1 n1 cap1, .int .i64 (j : Int)] rfl rfl (World.news_of_block (cs := #[.slice ao1 n1 cap1, .int .i64 (j : Int)]) (t := 47) (fr := (0, 0)) (heap_alloc_new _ _)) (by intro u hu; simp only [List.mem_cons, List.not_mem_nil, or_false] at hu; rcases hu with rfl | rfl <;> rfl) (by unfold maxLen; omega) (by omega) (by simp; omega) ?_; intro v6 w6 hown6 hgrow6 _; have HA6 := hide hown6; clear hown6)
        go_roundw
        case rel =>
          first
            | exact ⟨t, ms ++ [⟨j, .slice ao1 n1 cap1, a⟩], by first | rfl | go_num | (congr 1; omega), (unhide HI6).snoc (m := ⟨j, .slice ao1 n1 cap1, a⟩) (unhide HROW2) hgrow6 (unhide HA6), by rw [unhide HG, unhide HQ, List.map_append]; rfl, by omega, by omega, by first | omega | (simp; omega), unhide HXL2⟩
            | ((repeat apply Exists.intro); exact ⟨⟨t, ms ++ [⟨j, .slice ao1 n1 cap1, a⟩], by first | rfl | go_num | (congr 1; omega), (unhide HI6).snoc (m := ⟨j, .slice ao1 n1 cap1, a⟩) (unhide HROW2) hgrow6 (unhide HA6), by rw [unhide HG, unhide HQ, List.map_append]; rfl, by omega, by omega, by first | omega | (simp; omega), unhide HXL2⟩, rfl⟩)
        case measure => simp [intOf]; omega
    have e35 : ((s[j].toNat : Int) == 35) = false := by
      rw [hcn]; simp; intro h; exact hc35 (UInt8.toNat_inj.1 (by simpa using Int.ofNat.inj h))
    clear hn0
    cases hr : wrdG s.data.toList [] j with
    | error x =>
      obtain ⟨e, p⟩ := x
      rw [hr] at hq hW
      have HQ : Hid (linG s.data.toList (ms.map WdM.wd) j = .error (e, p)) := hide hq
      unfold WrdD at hW
      clear hc hq hr hE
      go_upto_region 5 with (first
        | (go_at_call 22; refine hS.mono ?_; clear hS; rintro ev w1 ⟨rfl, hw⟩; obtain rfl := hw.symm)
        | (go_at_call 21; refine hO.mono ?_; clear hO; rintro ev w1 ⟨rfl, hw'⟩; obtain rfl := hw'.symm)
        | (go_at_call 23; refine hW.mono ?_; clear hW; rintro ev w1 ⟨⟨hne, ao1, n1, cap1, rfl⟩, hb1⟩))
      have ge : (((e : Nat) : Int) != 0) = true := by simp; omega
      obtain ⟨w2, hw2⟩ : ∃ w2, w2 = (w1.alloc (.cells #[.slice ao1 n1 cap1, .int .i64 (j : Int)] 47)).alloc (.cells #[.int .i64 (e : Int), .int .i64 (p : Int)] 28) := ⟨_, rfl⟩
      have hw12 : Below w1.heap.size w1 w2 := by rw [hw2]; exact ((Below.refl _ _).alloc (Nat.le_refl _) _).alloc (by simp) _
      have hb2 : Below wr.heap.size wr w2 := hb1.trans (hw12.mono hb1.size)
      have hn2 : w2.heap[w1.heap.size]? = some (.cells #[.slice ao1 n1 cap1, .int .i64 (j : Int)] 47 (0, 0)) := by rw [hw2, Below.heap_alloc _ _ _ (by simp)]; exact heap_alloc_new _ _
      have hm2 : w2.heap[w1.heap.size + 1]? = some (.cells #[.int .i64 (e : Int), .int .i64 (p : Int)] 28 (0, 0)) := by
        have := heap_alloc_new (w1.alloc (.cells #[.slice ao1 n1 cap1, .int .i64 (j : Int)] 47)) (.cells #[.int .i64 (e : Int), .int .i64 (p : Int)] 28)
        rw [World.size_alloc, ← hw2] at this; exact this
      rw [← hw2]
      clear hw2
      have HI2 := hide ((unhide HI).below hb2)
      have r0 : w2.cell? ⟨w.heap.size, 0, none⟩ = some (.int .i64 0) := cell_of_row _ _ 0 _ _ _ (unhide HI2).c6
      have r1 : w2.cell? ⟨w.heap.size, 1, none⟩ = some (.int .i64 0) := cell_of_row _ _ 1 _ _ _ (unhide HI2).c6
      have z1 : ∀ i, w2.frozen? ⟨w.heap.size, i, none⟩ = false := (fun i => by simp [World.frozen?, (unhide HI2).c6])
      have t0 : w2.cell? ⟨w1.heap.size + 1, 0, none⟩ = some (.int .i64 (e : Int)) := cell_of_row _ _ 0 _ _ _ hm2
      have t1 : w2.cell? ⟨w1.heap.size + 1, 1, none⟩ = some (.int .i64 (p : Int)) := cell_of_row _ _ 1 _ _ _ hm2
      have s0 : w2.cell? ⟨w1.heap.size, 0, none⟩ = some (.slice ao1 n1 cap1) := cell_of_row _ _ 0 _ _ _ hn2
      have s1 : w2.cell? ⟨w1.heap.size, 1, none⟩ = some (.int .i64 (j : Int)) := cell_of_row _ _ 1 _ _ _ hn2
      have hbig1 : w.heap.size + 1 ≤ w1.heap.size := Nat.le_trans hbig hb1.size
      clear hm2 hn2
      go_upto_region 6 with fail
      go_region_held3 (fun w' => w'.cell? ⟨w1.heap.size + 1, 0, none⟩ = some (.int .i64 (e : Int)) ∧ w'.cell? ⟨w1.heap.size + 1, 1, none⟩ = some (.int .i64 (p : Int)))
        (first | exact ⟨t0, t1⟩ | exact ⟨keep2 (by omega) t0, keep2 (by omega) t1⟩) (fail)
      all_goals
        try go_wp2_with fail
        first
          | exact (unhide HI2).fin rfl rfl rfl (fun W9 sw sb => ⟨by rw [unhide HG, unhide HQ]; exact ⟨hne, rfl⟩, sb⟩)
          | exact (unhide HI2).drew.fin rfl rfl rfl (fun W9 sw sb => ⟨by rw [unhide HG, unhide HQ]; exact ⟨hne, rfl⟩, sb⟩)
    | ok x =>
      obtain ⟨a, t⟩ := x
      have hjt := wrd_gt hE hr
      rw [hr] at hq hW
      have HQ : Hid (linG s.data.toList (ms.map WdM.wd) j = linG s.data.toList (ms.map WdM.wd ++ [⟨a, j⟩]) t) := hide (by rw [hq]; simp only; rw [if_pos hjt])
      unfold WrdD at hW
      clear hc hq hr hE
      go_upto_region 5 with (first
        | (go_at_call 22; refine hS.mono ?_; clear hS; rintro ev w1 ⟨rfl, hw⟩; obtain rfl := hw.symm)
        | (go_at_call 21; refine hO.mono ?_; clear hO; rintro ev w1 ⟨rfl, hw'⟩; obtain rfl := hw'.symm)
        | (go_at_call 23; refine hW.mono ?_; clear hW; rintro ev w1 ⟨⟨v1, rfl, hrow1, hjt2, hts, hal⟩, hb1⟩; obtain ⟨ao1, n1, cap1, rfl⟩ := row_form hrow1))
      obtain ⟨w2, hw2⟩ : ∃ w2, w2 = (w1.alloc (.cells #[.slice ao1 n1 cap1, .int .i64 (j : Int)] 47)).alloc (.cells #[.int .i64 0, .int .i64 (-1)] 28) := ⟨_, rfl⟩
      have hw12 : Below w1.heap.size w1 w2 := by rw [hw2]; exact ((Below.refl _ _).alloc (Nat.le_refl _) _).alloc (by simp) _
      have hb2 : Below wr.heap.size wr w2 := hb1.trans (hw12.mono hb1.size)
      have hn2 : w2.heap[w1.heap.size]? = some (.cells #[.slice ao1 n1 cap1, .int .i64 (j : Int)] 47 (0, 0)) := by rw [hw2, Below.heap_alloc _ _ _ (by simp)]; exact heap_alloc_new _ _
      have hm2 : w2.heap[w1.heap.size + 1]? = some (.cells #[.int .i64 0, .int .i64 (-1)] 28 (0, 0)) := by
        have := heap_alloc_new (w1.alloc (.cells #[.slice ao1 n1 cap1, .int .i64 (j : Int)] 47)) (.cells #[.int .i64 0, .int .i64 (-1)] 28)
        rw [World.size_alloc, ← hw2] at this; exact this
      rw [← hw2]
      clear hw2
      have HI2 := hide ((unhide HI).below hb2)
      have r0 : w2.cell? ⟨w.heap.size, 0, none⟩ = some (.int .i64 0) := cell_of_row _ _ 0 _ _ _ (unhide HI2).c6
      have r1 : w2.cell? ⟨w.heap.size, 1, none⟩ = some (.int .i64 0) := cell_of_row _ _ 1 _ _ _ (unhide HI2).c6
      have z1 : ∀ i, w2.frozen? ⟨w.heap.size, i, none⟩ = false := (fun i => by simp [World.frozen?, (unhide HI2).c6])
      have t0 : w2.cell? ⟨w1.heap.size + 1, 0, none⟩ = some (.int .i64 0) := cell_of_row _ _ 0 _ _ _ hm2
      have t1 : w2.cell? ⟨w1.heap.size + 1, 1, none⟩ = some (.int .i64 (-1)) := cell_of_row _ _ 1 _ _ _ hm2
      have s0 : w2.cell? ⟨w1.heap.size, 0, none⟩ = some (.slice ao1 n1 cap1) := cell_of_row _ _ 0 _ _ _ hn2
      have s1 : w2.cell? ⟨w1.heap.size, 1, none⟩ = some (.int .i64 (j : Int)) := cell_of_row _ _ 1 _ _ _ hn2
      have hbig1 : w.heap.size + 1 ≤ w1.heap.size := Nat.le_trans hbig hb1.size
      clear hm2 hn2
      have hrow2 : AtR w2 (w.heap.size + 1) (.slice ao1 n1 cap1) a := row_base (row_same hrow1 fun q hq => hw12.block q (World.ownsRow.lt hrow1 q hq).2) hbig
      have HROW2 := hide (hrow2.alloc (.cells #[.slice ao1 n1 cap1, .int .i64 (j : Int)] 47))
      have HI6 := hide ((unhide HI2).alloc (.cells #[.slice ao1 n1 cap1, .int .i64 (j : Int)] 47))
      have HRow := hide (unhide HI6).ws.row
      have hbig2 := (unhide HI2).big
      have HXL2 : Hid (∀ m ∈ ms ++ [(⟨j, .slice ao1 n1 cap1, a⟩ : WdM)], m.xs.length ≤ s.size) := hide (fun m hm => by
        rcases List.mem_append.1 hm with h' | h'
        · exact unhide HXL m h'
        · rw [List.mem_singleton] at h'; rw [h']; show a.length ≤ s.size; omega)
      clear hrow1 hrow2 hw12
      go_wp2_with (at_builtin; refine wpList_append_own _ rfl _ _ 40 rfl (w.heap.size + 1) 47 i0 _ 2 32 Tryz.underlying40 hi hz0 hz1 hz2 rfl (by decide) _ ms.length (wdcD ms) rfl (unhide HRow) ⟨w2.heap.size, 0, none⟩ 1 1 [.slice ao1 n1 cap1, .int .i64 (j : Int)] rfl rfl (World.news_of_block (cs := #[.slice ao1 n1 cap1, .int .i64 (j : Int)]) (t := 47) (fr := (0, 0)) (heap_alloc_new _ _)) (by intro u hu; simp only [List.mem_cons, List.not_mem_nil, or_false] at hu; rcases hu with rfl | rfl <;> rfl) (by unfold maxLen; omega) (by omega) (by simp; omega) ?_; intro v6 w6 hown6 hgrow6 _; have HA6 := hide hown6; clear hown6)
      go_roundw
      case rel =>
        first
          | exact ⟨t, ms ++ [⟨j, .slice ao1 n1 cap1, a⟩], by first | rfl | go_num | (congr 1; omega), (unhide HI6).snoc (m := ⟨j, .slice ao1 n1 cap1, a⟩) (unhide HROW2) hgrow6 (unhide HA6), by rw [unhide HG, unhide HQ, List.map_append]; rfl, by omega, by omega, by first | omega | (simp; omega), unhide HXL2⟩
          | ((repeat apply Exists.intro); exact ⟨⟨t, ms ++ [⟨j, .slice ao1 n1 cap1, a⟩], by first | rfl | go_num | (congr 1; omega), (unhide HI6).snoc (m := ⟨j, .slice ao1 n1 cap1, a⟩) (unhide HROW2) hgrow6 (unhide HA6), by rw [unhide HG, unhide HQ, List.map_append]; rfl, by omega, by omega, by first | omega | (simp; omega), unhide HXL2⟩, rfl⟩)
      case measure => simp [intOf]; omega
end Go.Proofs.YtkikhmleffcajaaGreatDoor
