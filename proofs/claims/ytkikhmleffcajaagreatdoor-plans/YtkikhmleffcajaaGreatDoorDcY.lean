import Derived.Test.YtkikhmleffcajaaGreatDoorDcX
import Derived.Test.YtkikhmleffcajaaGreatDoorDcH
namespace Go.Proofs.YtkikhmleffcajaaGreatDoor
open Go.RowKit Go.Maps

theorem keepD {W : World} {b c i : Nat} {x y v0 : Value} (hne : c ≠ b) (h : W.cell? ⟨c, i, none⟩ = some v0) : ((W.setCell ⟨b, 0, none⟩ x).setCell ⟨b, 1, none⟩ y).cell? ⟨c, i, none⟩ = some v0 := keepC hne h
/-- The place where a line ends, held against the text's end. -/
def Pos (l : List UInt8) (r : Res (List Stg)) (st : List Stg) (j : Nat) : Prop := (j ≤ l.length ∧ r = fileG l st j) ∨ (j = l.length + 1 ∧ r = fileG l st l.length)
theorem Pos.next {l : List UInt8} {r : Res (List Stg)} {st : List Stg} {t t' : Nat} (h : r = fileG l st t) (ht : t ≤ l.length) (h' : t' = t ∨ (t = l.length ∧ t' = l.length + 1)) : Pos l r st t' := by
  rcases h' with rfl | ⟨rfl, rfl⟩
  · exact .inl ⟨ht, h⟩
  · exact .inr ⟨rfl, h⟩
theorem Pos.le {l : List UInt8} {r : Res (List Stg)} {st : List Stg} {j : Nat} (h : Pos l r st j) : j ≤ l.length + 1 := by
  rcases h with h | h
  · have := h.1; omega
  · have := h.1; omega
theorem Pos.ends {l : List UInt8} {r : Res (List Stg)} {st : List Stg} {j : Nat} (h : Pos l r st j) (hj : ¬ j < l.length) : r = if st = [] then .error (5, l.length) else .ok st := by
  rcases h with ⟨h1, h2⟩ | ⟨h1, h2⟩
  · rw [h2, file_stop hj]
  · rw [h2, file_stop (Nat.lt_irrefl _)]
theorem Pos.at {l : List UInt8} {r : Res (List Stg)} {st : List Stg} {j : Nat} (h : Pos l r st j) (hj : j < l.length) : r = fileG l st j := by
  rcases h with ⟨h1, h2⟩ | ⟨h1, h2⟩
  · exact h2
  · omega
theorem size_push (st : List Stg) (nm : List UInt8) (i : Ins) : sizeG (st ++ [⟨nm, [i]⟩]) = sizeG st + 1 := by simp [sizeG]
theorem sum_set : ∀ (l : List Nat) (k a : Nat), l[k]? = some a → (l.set k (a + 1)).sum = l.sum + 1 := by
  intro l
  induction l with
  | nil => intro k a h; simp at h
  | cons b r ih =>
    intro k a h
    cases k with
    | zero => simp at h; subst h; simp; omega
    | succ k => simp at h ⊢; have := ih k a h; omega
theorem size_step {st : List Stg} {k : Nat} {t : Stg} (ht : st[k]? = some t) (nm : List UInt8) (i : Ins) : sizeG (st.set k ⟨nm, t.ins ++ [i]⟩) = sizeG st + 1 := by
  unfold sizeG
  rw [List.map_set]
  simp only [List.length_append, List.length_cons, List.length_nil]
  exact sum_set _ k _ (by rw [List.getElem?_map, ht]; rfl)
theorem rel_nil {ss : List DsM} {st : List Stg} (h : Rel ss st) : st = [] ↔ ss.length = 0 := by
  have := h.len
  constructor
  · intro e; rw [e] at this; simpa using this
  · intro e; exact List.eq_nil_of_length_eq_zero (by omega)
theorem In13.fr5 {w w3 w5 : World} (h : In13 w w3) (hf : Fr5 (w.heap.size + 1) w3 w5) : In13 w w5 :=
  ⟨(hf.kep _ _ _ _ h.blk (.inl rfl)).trans h.blk, h.bel.trans (hf.bel.mono (Nat.le_succ _)), Nat.le_trans h.big hf.bel.size⟩
theorem varsD_len {ss : List DsM} {c : Nat} (h : ∀ s ∈ ss, s.vars.length ≤ c) (k : Int) : (varsD ss k).length ≤ c := by
  unfold varsD
  split
  · simp
  · split
    · rename_i s hs; exact h s (List.mem_of_getElem? hs)
    · simp
set_option maxHeartbeats 20000000 in
set_option maxRecDepth 10000 in
theorem parse_doc (s : ByteArray) (w : World) : Calls Tryz.prog 5 #[.string s] w fun ev w' => ParD w' (w.heap.size + 1) ev (parseG s.data.toList) ∧ Below w.heap.size w w' := by
  obtain ⟨W0, hW0⟩ : ∃ W0, W0 = w.alloc (.cells #[.int .i64 0, .int .i64 0] 28) := ⟨_, rfl⟩
  have I0 : In13 w W0 := by rw [hW0]; exact In13.start w
  by_cases hb : 1500 < s.size
  · have g1 : (1500 : Int) < (s.size : Int) := by omega
    have HQ : Hid (parseG s.data.toList = .error (10, 1500)) := hide (by unfold parseG; rw [if_pos (by rw [← Lib.size_eq]; exact hb)])
    clear hb
    go_enter Tryz.func5, Tryz.ntmps5
    go_upto_region 1 with fail
    rw [← hW0]
    clear hW0
    go_wp2_with (first
      | (go_at_call 9; refine (bad_any _ _ _).mono ?_; rintro ev wE ⟨rfl, hbE⟩; have IE : In13 w wE := In13.below (by assumption) hbE; have q0 := cell_of_row _ _ 0 _ _ _ IE.blk; have q1 := cell_of_row _ _ 1 _ _ _ IE.blk; have z0 : ∀ i, wE.frozen? ⟨w.heap.size, i, none⟩ = false := (fun i => by simp [World.frozen?, IE.blk]); have HIE := hide IE; clear IE))
    exact end5 rfl rfl (set2 (unhide HIE).blk _ _) ⟨by rw [unhide HQ]; exact ⟨by decide, rfl⟩, below2 (unhide HIE).bel (Nat.le_refl _) _ _⟩
  have g1 : ¬ (1500 : Int) < (s.size : Int) := by omega
  have hs : s.size ≤ 1500 := by omega
  have HP : Hid (parseG s.data.toList = if mayN s.data.toList < s.data.toList.length then .error (5, mayN s.data.toList) else fileG s.data.toList [] 0) := hide (by unfold parseG; rw [if_neg (by rw [← Lib.size_eq]; exact hb)])
  obtain ⟨R, hR⟩ : ∃ R, parseG s.data.toList = R := ⟨_, rfl⟩
  rw [hR] at HP
  rw [hR]
  clear hb hR
  go_enter Tryz.func5, Tryz.ntmps5
  go_upto_region 1 with fail
  rw [← hW0]
  clear hW0
  go_wp2_with fail
  go_loop [4] (fun i => ∃ k : Nat, k ≤ s.size ∧ i = .int .i64 k ∧ (s.data.toList.take k).all mayC = true) (fun i => s.size - (intOf i).toNat)
  case atStart => exact ⟨0, Nat.zero_le _, rfl, rfl⟩
  case round =>
    obtain ⟨k, hk, rfl, ha⟩ := hrel
    have A := hide ha
    clear ha
    by_cases hlt : k < s.size
    · cases h1 : mayC s[k] with
      | true =>
        have HB : Hid ((s.data.toList.take (k + 1)).all mayC = true) := hide (all_more s k hlt (unhide A) h1)
        have h1' : s[k].toNat = 10 ∨ (32 ≤ s[k].toNat ∧ s[k].toNat ≤ 126) := by unfold mayC at h1; simpa using h1
        clear h1
        rcases h1' with h1' | h1'
        · have e10 : ((s[k].toNat : Int) == 10) = true := by simp; omega
          go_wp2_with fail
          go_round
          case rel => exact ⟨k + 1, by omega, by go_num, unhide HB⟩
          case measure => simp [intOf]; omega
        · have e10 : ((s[k].toNat : Int) == 10) = false := by
            cases hh : ((s[k].toNat : Int) == 10) with
            | false => rfl
            | true => simp at hh; omega
          have e1 : ¬ ((s[k].toNat : Int) < 32) := by omega
          have e2 : ¬ ((126 : Int) < (s[k].toNat : Int)) := by omega
          go_wp2_with fail
          go_round
          case rel => exact ⟨k + 1, by omega, by go_num, unhide HB⟩
          case measure => simp [intOf]; omega
      | false =>
        have hmay : mayN s.data.toList = k := tw_stop s.data.toList k (by rw [← Lib.size_eq]; exact hlt) (unhide A) h1
        have HQ : Hid (R = .error (5, k)) := hide (by rw [unhide HP, hmay, if_pos (by rw [← Lib.size_eq]; exact hlt)])
        have h1' : ¬ (s[k].toNat = 10 ∨ (32 ≤ s[k].toNat ∧ s[k].toNat ≤ 126)) := by unfold mayC at h1; simpa using h1
        have e10 : ((s[k].toNat : Int) == 10) = false := by
          cases hh : ((s[k].toNat : Int) == 10) with
          | false => rfl
          | true => simp at hh; omega
        clear h1 hmay HP A
        have h2' : s[k].toNat ≠ 10 ∧ (s[k].toNat < 32 ∨ 126 < s[k].toNat) := by omega
        clear h1'
        go_wp2_with (first
          | (go_at_call 9; refine (bad_any _ _ _).mono ?_; rintro ev wE ⟨rfl, hbE⟩; have IE : In13 w wE := In13.below (by assumption) hbE; have q0 := cell_of_row _ _ 0 _ _ _ IE.blk; have q1 := cell_of_row _ _ 1 _ _ _ IE.blk; have z0 : ∀ i, wE.frozen? ⟨w.heap.size, i, none⟩ = false := (fun i => by simp [World.frozen?, IE.blk]); have HIE := hide IE; clear IE))
        all_goals
          first
            | exact end5 rfl rfl (set2 (unhide HIE).blk _ _) ⟨by rw [unhide HQ]; exact ⟨by decide, rfl⟩, below2 (unhide HIE).bel (Nat.le_refl _) _ _⟩
            | (exfalso; first | omega | (simp at *; omega))
    have HM : Hid (R = fileG s.data.toList [] 0) := hide (by
      have hm : mayN s.data.toList = s.data.toList.length := tw_all _ (by have := unhide A; rwa [List.take_of_length_le (by rw [← Lib.size_eq]; omega)] at this)
      rw [unhide HP, hm, if_neg (Nat.lt_irrefl _)])
    clear A HP
    go_wp2_with fail
    go_loopw [5, 6, 7] (fun v c i wr => ∃ (j cc : Nat) (ss : List DsM) (st : List Stg), i = .int .i64 (j : Int) ∧ c = .int .i64 (cc : Int) ∧ In5 w wr v ss st cc ∧ Pos s.data.toList R st j) (fun _ _ i _ => s.size + 1 - (intOf i).toNat)
    case atStart => exact ⟨0, 0, [], [], rfl, rfl, ⟨I0, StD.nil _ _, ⟨rfl, fun i a b h => by simp at h⟩, rfl, Nat.zero_le _, Nat.zero_le _, fun a h => by simp at h⟩, .inl ⟨Nat.zero_le _, unhide HM⟩⟩
    case round =>
      clear HM hlt hk
      obtain ⟨j, cc, ss, st, rfl, rfl, hI, hP⟩ := hrel
      obtain ⟨av, nv, cv, hv⟩ := row_form hI.std.row
      subst hv
      obtain rfl : nv = ss.length := row_len hI.std.row
      have HI := hide hI
      have HPo := hide hP
      have hjn : j ≤ s.size + 1 := by have := hP.le; rw [← Lib.size_eq] at this; exact this
      have hle := hI.le
      have hlen := hI.len
      clear hI hP
      by_cases hj : j < s.size
      case neg =>
        have HE : Hid (R = if st = [] then .error (5, s.data.toList.length) else .ok st) := hide ((unhide HPo).ends (by rw [← Lib.size_eq]; exact hj))
        have I9 := (unhide HI).in13
        by_cases h0 : ss.length = 0
        · have HQ : Hid (R = .error (5, s.size)) := hide (by rw [unhide HE, if_pos ((rel_nil (unhide HI).rel).2 h0), Lib.size_eq])
          have g0 : ((ss.length : Int) == 0) = true := beq_iff_eq.2 (by omega)
          clear h0
          go_wp2_with (first
            | (go_at_call 9; refine (bad_any _ _ _).mono ?_; rintro ev wE ⟨rfl, hbE⟩; have IE : In13 w wE := In13.below (by assumption) hbE; have q0 := cell_of_row _ _ 0 _ _ _ IE.blk; have q1 := cell_of_row _ _ 1 _ _ _ IE.blk; have z0 : ∀ i, wE.frozen? ⟨w.heap.size, i, none⟩ = false := (fun i => by simp [World.frozen?, IE.blk]); have HIE := hide IE; clear IE))
          exact end5 rfl rfl (set2 (unhide HIE).blk _ _) ⟨by rw [unhide HQ]; exact ⟨by decide, rfl⟩, below2 (unhide HIE).bel (Nat.le_refl _) _ _⟩
        · have HQ : Hid (R = .ok st) := hide (by rw [unhide HE, if_neg (fun e => h0 ((rel_nil (unhide HI).rel).1 e))])
          have g0 : ((ss.length : Int) == 0) = false := beq_eq_false_iff_ne.2 (by omega)
          clear h0
          go_wp2_with (first
            | (go_at_call 15; refine (fine_any _).mono ?_; rintro ev w7 ⟨rfl, hb7⟩; have I7 := (unhide HI).below hb7; have q0 := cell_of_row _ _ 0 _ _ _ I7.in13.blk; have q1 := cell_of_row _ _ 1 _ _ _ I7.in13.blk; have z0 : ∀ i, w7.frozen? ⟨w.heap.size, i, none⟩ = false := (fun i => by simp [World.frozen?, I7.in13.blk]); have HI7 := hide I7; clear I7))
          exact end5 (v4 := .slice av ss.length cv) rfl rfl (set2 (unhide HI7).in13.blk _ _) ⟨by rw [unhide HQ]; exact ⟨_, ss, rfl, (unhide HI7).std.keep27 (unhide HI7).in13.blk _ _, (unhide HI7).rel, hlen, fun a ha => by have := ((unhide HI7).bnd a ha).2; omega⟩, below2 (unhide HI7).in13.bel (Nat.le_refl _) _ _⟩
      have hL := lin_doc s j wr (by omega) hs
      have hF : R = fileG s.data.toList st j := (unhide HPo).at (by rw [← Lib.size_eq]; exact hj)
      rw [file_lin (by rw [← Lib.size_eq]; exact hj)] at hF
      cases hlin : linG s.data.toList [] j with
      | error x =>
        obtain ⟨e, p⟩ := x
        rw [hlin] at hF hL
        have HQ : Hid (R = .error (e, p)) := hide hF
        unfold LinD at hL
        clear hF hlin HPo
        go_upto_region 13 with (first
          | (go_at_call 10; refine hL.mono ?_; clear hL; rintro ev w1 ⟨⟨hne, rfl⟩, hb1⟩))
        obtain ⟨W2, hW2⟩ : ∃ W2, W2 = w1.alloc (.cells #[.int .i64 (e : Int), .int .i64 (p : Int)] 28) := ⟨_, rfl⟩
        have hb2 : Below wr.heap.size wr W2 := by rw [hW2]; exact hb1.alloc hb1.size _
        have hw12 : Below w1.heap.size w1 W2 := by rw [hW2]; exact (Below.refl _ _).alloc (Nat.le_refl _) _
        have t27 : W2.heap[w1.heap.size]? = some (.cells #[.int .i64 (e : Int), .int .i64 (p : Int)] 28 (0, 0)) := by rw [hW2]; exact heap_alloc_new _ _
        have hb1w : w.heap.size + 1 ≤ w1.heap.size := Nat.le_trans (unhide HI).in13.big hb1.size
        rw [← hW2]
        clear hW2
        have HJ2 := hide ((unhide HI).in13.below hb2)
        have t0 : W2.cell? ⟨w1.heap.size, 0, none⟩ = some (.int .i64 (e : Int)) := cell_of_row _ _ 0 _ _ _ t27
        have t1 : W2.cell? ⟨w1.heap.size, 1, none⟩ = some (.int .i64 (p : Int)) := cell_of_row _ _ 1 _ _ _ t27
        clear t27
        have q0 : W2.cell? ⟨w.heap.size, 0, none⟩ = some (.int .i64 0) := cell_of_row _ _ 0 _ _ _ (unhide HJ2).blk
        have q1 : W2.cell? ⟨w.heap.size, 1, none⟩ = some (.int .i64 0) := cell_of_row _ _ 1 _ _ _ (unhide HJ2).blk
        have z0 : ∀ i, W2.frozen? ⟨w.heap.size, i, none⟩ = false := (fun i => by simp [World.frozen?, (unhide HJ2).blk])
        have ge : (((e : Nat) : Int) != 0) = true := by have := hne; simp; omega
        go_upto_region 14 with fail
        go_region_held3 (fun w' => w'.cell? ⟨w1.heap.size, 0, none⟩ = some (.int .i64 (e : Int)) ∧ w'.cell? ⟨w1.heap.size, 1, none⟩ = some (.int .i64 (p : Int)))
          (first | exact ⟨t0, t1⟩ | exact ⟨keepD (by omega) t0, keepD (by omega) t1⟩ | exact ⟨keepD (by omega) (keepD (by omega) t0), keepD (by omega) (keepD (by omega) t1)⟩) (fail)
        all_goals
          try go_wp2_with fail
          exact end5 rfl rfl (set2 (by first | exact (unhide HJ2).blk | exact (unhide HJ2).drew.blk) _ _) ⟨by rw [unhide HQ]; exact ⟨hne, rfl⟩, by first | exact below2 (unhide HJ2).bel (Nat.le_refl _) _ _ | exact below2 (unhide HJ2).drew.bel (Nat.le_refl _) _ _⟩
      | ok x =>
      obtain ⟨ws, t⟩ := x
      rw [hlin] at hF hL
      unfold LinD at hL
      have htl : t ≤ s.data.toList.length := lin_le _ _ _ _ _ _ (by rw [← Lib.size_eq]; omega) (Nat.le_refl _) hlin
      have hoks := lin_ok _ _ _ _ _ _ (Nat.le_refl _) (fun x hx => absurd hx List.not_mem_nil) hlin
      clear HPo hlin
      have HF := hide hF
      have HOKS := hide hoks
      have HTL := hide htl
      clear hF hoks htl
      go_upto_region 13 with (first
        | (go_at_call 10; refine hL.mono ?_; clear hL; rintro ev w1 ⟨⟨v1, ms, t', rfl, hws, hwms, hjt, htt, hmn, hxn⟩, hb1⟩))
      obtain ⟨W2, hW2⟩ : ∃ W2, W2 = w1.alloc (.cells #[.int .i64 0, .int .i64 (-1)] 28) := ⟨_, rfl⟩
      have hb2 : Below wr.heap.size wr W2 := by rw [hW2]; exact hb1.alloc hb1.size _
      have hw12 : Below w1.heap.size w1 W2 := by rw [hW2]; exact (Below.refl _ _).alloc (Nat.le_refl _) _
      have t27 : W2.heap[w1.heap.size]? = some (.cells #[.int .i64 0, .int .i64 (-1)] 28 (0, 0)) := by rw [hW2]; exact heap_alloc_new _ _
      have hb1w : w.heap.size + 1 ≤ w1.heap.size := Nat.le_trans (unhide HI).in13.big hb1.size
      rw [← hW2]
      clear hW2
      have HI2 := hide ((unhide HI).below hb2)
      have t0 : W2.cell? ⟨w1.heap.size, 0, none⟩ = some (.int .i64 0) := cell_of_row _ _ 0 _ _ _ t27
      have HT27 := hide t27
      have HW2 : Hid (WsD W2 (w.heap.size + 1) v1 ms) := hide ((hws.below hw12).base (unhide HI).in13.big)
      have hjt2 : j < t := by rcases htt with h | h; omega; omega
      have HTT : Hid (t' = t ∨ (t = s.data.toList.length ∧ t' = s.data.toList.length + 1)) := hide (by rw [← Lib.size_eq]; exact htt)
      have ht'n : t' ≤ s.size + 1 := by have := unhide HTL; rw [← Lib.size_eq] at this; omega
      have HF2 : Hid (R = if ws = [] then fileG s.data.toList st t else match takeG st ws with
        | .error e => .error e
        | .ok st' => fileG s.data.toList st' t) := hide ((unhide HF).trans (if_pos hjt2))
      have hnr := hws.row
      clear HF t27 htt hws hw12
      by_cases hm0 : ms = []
      · subst hm0
        have hws0 : ws = [] := by rw [← hwms]; rfl
        have HP2 : Hid (Pos s.data.toList R st t') := hide (Pos.next (by rw [unhide HF2, if_pos hws0]) (unhide HTL) (unhide HTT))
        obtain ⟨a1, n1, c1, hv1⟩ := row_form hnr
        subst hv1
        have hn1 : n1 = 0 := row_len hnr
        subst hn1
        clear HF2 hnr HW2 hwms hmn hxn HOKS hws0
        go_wp2_with fail
        go_roundw
        case rel => exact ⟨t', cc, ss, st, rfl, rfl, unhide HI2, unhide HP2⟩
        case measure => simp [intOf]; omega
      have hmpos : 0 < ms.length := List.length_pos_iff.2 hm0
      obtain ⟨g, cap, hv1, hcap, hcm⟩ := row_caps hnr hmpos
      subst hv1
      obtain ⟨n, hn⟩ : ∃ n, ms.length = n := ⟨_, rfl⟩
      rw [hn] at HW2 hcap hmn
      simp only [hn]
      have hwne : ws ≠ [] := fun e => hm0 (by rw [e] at hwms; exact List.map_eq_nil_iff.1 hwms)
      have HF3 : Hid (R = match takeG st (ms.map WdM.wd) with
        | .error e => .error e
        | .ok st' => fileG s.data.toList st' t) := hide (by rw [unhide HF2, if_neg hwne, hwms])
      have HOK : Hid (∀ m ∈ ms, AtOk m.xs ∧ m.xs.length ≤ 1500) := hide (fun m hm => ⟨unhide HOKS m.wd (by rw [← hwms]; exact List.mem_map_of_mem hm), by have := hxn m hm; omega⟩)
      clear HF2 hnr HOKS hwne hxn hm0 hwms
      obtain ⟨m0, h0⟩ : ∃ m0, ms[0]? = some m0 := ⟨_, List.getElem?_eq_getElem hmpos⟩
      have hlt0 := (unhide HW2).row
      rw [← hn] at hlt0
      have k00 : W2.cell? ⟨g, 0, none⟩ = some m0.v := by
        have := World.ownsRow.cellAt hlt0 (0 * 2 + 0) (by omega)
        rw [wdcD_at ms 0 m0 0 h0 (by omega)] at this; exact this
      have k01 : W2.cell? ⟨g, 1, none⟩ = some (.int .i64 (m0.place : Int)) := by
        have := World.ownsRow.cellAt hlt0 (0 * 2 + 1) (by omega)
        rw [wdcD_at ms 0 m0 1 h0 (by omega)] at this; exact this
      have hr0 := (unhide HW2).all m0 (List.mem_of_getElem? h0)
      obtain ⟨ho0, hxl0⟩ := unhide HOK m0 (List.mem_of_getElem? h0)
      obtain ⟨a0, n0, c0, hx0⟩ := row_form hr0
      rw [hx0] at k00
      obtain ⟨b0, hb0⟩ : ∃ b, bt ((plainW m0.xs).getD []) = b := ⟨_, rfl⟩
      have ht0 : (plainW m0.xs).getD [] = b0.data.toList := by rw [← hb0, bt_list]
      obtain ⟨o0, ho0'⟩ : ∃ o, (plainW m0.xs).isSome = o := ⟨_, rfl⟩
      have hPl : Calls Tryz.prog 11 #[.agg #[.slice a0 n0 c0, .int .i64 (m0.place : Int)]] W2 (fun ev w' => ev = .returned (.tuple #[.string b0, .bool o0]) ∧ Below W2.heap.size W2 w') := by
        have := plain_doc m0.v m0.xs m0.place (w.heap.size + 1) W2 hr0 ho0 hxl0
        rwa [hb0, hx0, ho0'] at this
      have HG : Hid (w.heap.size + 1 ≤ g ∧ g < W2.heap.size) := hide (World.ownsRow.lt hlt0 g rfl)
      have hlen2 : (2 : Nat) ≤ 2 := Nat.le_refl _
      have hn' : n ≤ 1500 := by omega
      have s0 : (0 : Int) < (n : Int) := by omega
      have s0' : 0 < n := by omega
      clear hr0 ho0 hxl0 hb0 hlt0 hx0 hlen2
      have hBd := fun wx => bounds_doc b0 wx
      have HTK : Hid (opN b0.data.toList = none → R = .error (5, m0.place)) := hide (fun h => by
        rw [unhide HF3]
        have : opW m0.xs = none := by
          unfold opW
          cases hp : plainW m0.xs with
          | none => rfl
          | some u => rw [hp] at ht0; simp only [Option.getD_some] at ht0; rw [ht0]; exact h
        unfold takeG
        rw [List.getElem?_map, h0]
        simp only [Option.map_some]
        rw [show m0.wd.atoms = m0.xs from rfl, this, plc_px, px_some h0])
      have hPLN : ∀ o, opN b0.data.toList = some o → plainW m0.xs = some b0.data.toList := fun o h => by
        cases hp : plainW m0.xs with
        | none => rw [hp] at ht0; simp only [Option.getD_none] at ht0; rw [← ht0, show opN [] = none by decide] at h; cases h
        | some u => rw [hp] at ht0; simp only [Option.getD_some] at ht0; rw [ht0]
      clear ht0 ho0'
      go_upto_region 17 with fail
      go_upto_region 18 with (first
        | (go_at_call 11; refine hPl.mono ?_; clear hPl; rintro ev w3 ⟨rfl, hb3⟩))
      have HI3 := hide ((unhide HI2).below hb3)
      have I3 := (unhide HI3).in13
      have HW3 : Hid (WsD w3 (w.heap.size + 1) (.slice (some ⟨g, 0, none⟩) n cap) ms) := hide ((unhide HW2).below hb3)
      have j01 : w3.cell? ⟨g, 1, none⟩ = some (.int .i64 (m0.place : Int)) := (World.cell?_of_block (a := ⟨g, 1, none⟩) (hb3.block g (unhide HG).2)).trans k01
      have T27 : Hid (w3.heap[w1.heap.size]? = some (.cells #[.int .i64 0, .int .i64 (-1)] 28 (0, 0))) := hide ((hb3.block _ (heap_lt (unhide HT27))).trans (unhide HT27))
      have hw3 : w.heap.size + 1 ≤ w3.heap.size := I3.big
      have HGG : Hid (∃ cg fg, w3.heap[g]? = some (.cells cg 47 fg)) := hide (kind_of (unhide HW3).row g rfl)
      clear k00 k01 t0 HT27 HI2 HW2 HG
      cases hopn : opN b0.data.toList with
      | none =>
        have HQ : Hid (R = .error (5, m0.place)) := hide (unhide HTK hopn)
        have hbd : bndD b0.data.toList = (0, 0, false) := by unfold bndD; rw [hopn]
        rw [hbd] at hBd
        clear hbd hopn HTK hPLN
        go_wp2_with (first
          | (go_at_call 12; refine (hBd _).mono ?_; clear hBd; rintro ev w4 ⟨rfl, hw4⟩; obtain rfl := hw4.symm)
          | (go_at_call 9; refine (bad_any _ _ _).mono ?_; rintro ev wE ⟨rfl, hbE⟩; have IE : In13 w wE := In13.below (by assumption) hbE; have q0 := cell_of_row _ _ 0 _ _ _ IE.blk; have q1 := cell_of_row _ _ 1 _ _ _ IE.blk; have z0 : ∀ i, wE.frozen? ⟨w.heap.size, i, none⟩ = false := (fun i => by simp [World.frozen?, IE.blk]); have HIE := hide IE; clear IE))
        exact end5 rfl rfl (set2 (unhide HIE).blk _ _) ⟨by rw [unhide HQ]; exact ⟨by decide, rfl⟩, below2 (unhide HIE).bel (Nat.le_refl _) _ _⟩
      | some o =>
      have hp0 := hPLN o hopn
      have hbd : bndD b0.data.toList = ((ruleT o).1, (ruleT o).2.1, true) := by unfold bndD; rw [hopn]
      rw [hbd] at hBd
      obtain ⟨lo, hlo⟩ : ∃ lo, (ruleT o).1 = lo := ⟨_, rfl⟩
      obtain ⟨hi, hhi⟩ : ∃ hi, (ruleT o).2.1 = hi := ⟨_, rfl⟩
      rw [hlo, hhi] at hBd
      simp only at hBd
      obtain ⟨c1, c4, c6, c0'⟩ := op_is hopn
      have HT5 : Hid (((n : Int) - 1 < lo ∨ hi < (n : Int) - 1 ∨ (st = [] ∧ o ≠ 0)) → R = .error (5, m0.place)) := hide (fun hc => by
        rw [unhide HF3]
        have : opW m0.xs = some o := by unfold opW; rw [hp0]; exact hopn
        unfold takeG
        rw [List.getElem?_map, h0]
        simp only [Option.map_some]
        rw [show m0.wd.atoms = m0.xs from rfl, this]
        simp only
        rw [List.length_map, hn, hlo, hhi, if_pos hc, plc_px, px_some h0])
      have gf : (b0.toList == [70, 82, 79, 77]) = decide (o = 0) := by rw [beq_list, Bool.eq_iff_iff]; simpa using c0'
      clear HTK hPLN hbd
      have HREL := hide (unhide HI3).rel
      by_cases hnost : ss.length = 0 ∧ o ≠ 0
      · have HQ : Hid (R = .error (5, m0.place)) := hide (unhide HT5 (.inr (.inr ⟨(rel_nil (unhide HREL)).2 hnost.1, hnost.2⟩)))
        have g0 : ((ss.length : Int) == 0) = true := beq_iff_eq.2 (by have := hnost.1; omega)
        rw [decide_eq_false hnost.2] at gf
        clear hnost HT5
        go_wp2_with (first
          | (go_at_call 12; refine (hBd _).mono ?_; clear hBd; rintro ev w4 ⟨rfl, hw4⟩; obtain rfl := hw4.symm)
          | (go_at_call 9; refine (bad_any _ _ _).mono ?_; rintro ev wE ⟨rfl, hbE⟩; have IE : In13 w wE := In13.below (by assumption) hbE; have q0 := cell_of_row _ _ 0 _ _ _ IE.blk; have q1 := cell_of_row _ _ 1 _ _ _ IE.blk; have z0 : ∀ i, wE.frozen? ⟨w.heap.size, i, none⟩ = false := (fun i => by simp [World.frozen?, IE.blk]); have HIE := hide IE; clear IE))
        exact end5 rfl rfl (set2 (unhide HIE).blk _ _) ⟨by rw [unhide HQ]; exact ⟨by decide, rfl⟩, below2 (unhide HIE).bel (Nat.le_refl _) _ _⟩
      have g0 : ((ss.length : Int) == 0) = false ∨ (((ss.length : Int) == 0) = true ∧ (b0.toList == [70, 82, 79, 77]) = true) := by
        by_cases h : ss.length = 0
        · right
          have : o = 0 := Decidable.byContradiction fun e => hnost ⟨h, e⟩
          exact ⟨beq_iff_eq.2 (by omega), by rw [gf, this]; rfl⟩
        · left; exact beq_eq_false_iff_ne.2 (by omega)
      by_cases hl1 : (n : Int) - 1 < lo
      · have HQ : Hid (R = .error (5, m0.place)) := hide (unhide HT5 (.inl hl1))
        clear HT5 hnost
        rcases g0 with g0 | ⟨g0, gf'⟩
        · go_wp2_with (first
            | (go_at_call 12; refine (hBd _).mono ?_; clear hBd; rintro ev w4 ⟨rfl, hw4⟩; obtain rfl := hw4.symm)
            | (go_at_call 9; refine (bad_any _ _ _).mono ?_; rintro ev wE ⟨rfl, hbE⟩; have IE : In13 w wE := In13.below (by assumption) hbE; have q0 := cell_of_row _ _ 0 _ _ _ IE.blk; have q1 := cell_of_row _ _ 1 _ _ _ IE.blk; have z0 : ∀ i, wE.frozen? ⟨w.heap.size, i, none⟩ = false := (fun i => by simp [World.frozen?, IE.blk]); have HIE := hide IE; clear IE))
          exact end5 rfl rfl (set2 (unhide HIE).blk _ _) ⟨by rw [unhide HQ]; exact ⟨by decide, rfl⟩, below2 (unhide HIE).bel (Nat.le_refl _) _ _⟩
        · clear gf
          go_wp2_with (first
            | (go_at_call 12; refine (hBd _).mono ?_; clear hBd; rintro ev w4 ⟨rfl, hw4⟩; obtain rfl := hw4.symm)
            | (go_at_call 9; refine (bad_any _ _ _).mono ?_; rintro ev wE ⟨rfl, hbE⟩; have IE : In13 w wE := In13.below (by assumption) hbE; have q0 := cell_of_row _ _ 0 _ _ _ IE.blk; have q1 := cell_of_row _ _ 1 _ _ _ IE.blk; have z0 : ∀ i, wE.frozen? ⟨w.heap.size, i, none⟩ = false := (fun i => by simp [World.frozen?, IE.blk]); have HIE := hide IE; clear IE))
          exact end5 rfl rfl (set2 (unhide HIE).blk _ _) ⟨by rw [unhide HQ]; exact ⟨by decide, rfl⟩, below2 (unhide HIE).bel (Nat.le_refl _) _ _⟩
      by_cases hh1 : hi < (n : Int) - 1
      · have HQ : Hid (R = .error (5, m0.place)) := hide (unhide HT5 (.inr (.inl hh1)))
        clear HT5 hnost
        rcases g0 with g0 | ⟨g0, gf'⟩
        · go_wp2_with (first
            | (go_at_call 12; refine (hBd _).mono ?_; clear hBd; rintro ev w4 ⟨rfl, hw4⟩; obtain rfl := hw4.symm)
            | (go_at_call 9; refine (bad_any _ _ _).mono ?_; rintro ev wE ⟨rfl, hbE⟩; have IE : In13 w wE := In13.below (by assumption) hbE; have q0 := cell_of_row _ _ 0 _ _ _ IE.blk; have q1 := cell_of_row _ _ 1 _ _ _ IE.blk; have z0 : ∀ i, wE.frozen? ⟨w.heap.size, i, none⟩ = false := (fun i => by simp [World.frozen?, IE.blk]); have HIE := hide IE; clear IE))
          exact end5 rfl rfl (set2 (unhide HIE).blk _ _) ⟨by rw [unhide HQ]; exact ⟨by decide, rfl⟩, below2 (unhide HIE).bel (Nat.le_refl _) _ _⟩
        · clear gf
          go_wp2_with (first
            | (go_at_call 12; refine (hBd _).mono ?_; clear hBd; rintro ev w4 ⟨rfl, hw4⟩; obtain rfl := hw4.symm)
            | (go_at_call 9; refine (bad_any _ _ _).mono ?_; rintro ev wE ⟨rfl, hbE⟩; have IE : In13 w wE := In13.below (by assumption) hbE; have q0 := cell_of_row _ _ 0 _ _ _ IE.blk; have q1 := cell_of_row _ _ 1 _ _ _ IE.blk; have z0 : ∀ i, wE.frozen? ⟨w.heap.size, i, none⟩ = false := (fun i => by simp [World.frozen?, IE.blk]); have HIE := hide IE; clear IE))
          exact end5 rfl rfl (set2 (unhide HIE).blk _ _) ⟨by rw [unhide HQ]; exact ⟨by decide, rfl⟩, below2 (unhide HIE).bel (Nat.le_refl _) _ _⟩
      have hlt1 : lo ≤ (n : Int) - 1 := by omega
      have hhi1 : (n : Int) - 1 ≤ hi := by omega
      clear HT5
      have hoks : ∀ (i : Nat), (ruleT i).1 = 1 ∨ (ruleT i).1 = 2 := fun i => by
        match i with
        | 0 => exact .inl rfl
        | 1 => exact .inr rfl
        | 2 => exact .inr rfl
        | 3 => exact .inl rfl
        | 4 => exact .inl rfl
        | 5 => exact .inr rfl
        | 6 => exact .inr rfl
        | _ + 7 => exact .inl rfl
      have hn2 : 2 ≤ n := by have := hoks o; omega
      have HBN : Hid (∀ a ∈ ss, a.vars.length ≤ cc ∧ a.steps.length ≤ cc) := hide (unhide HI3).bnd
      clear hoks
      by_cases ho0 : o = 0
      · subst ho0
        have hop : b0.data.toList = wFROM := c0'.2 rfl
        rw [decide_eq_true rfl] at gf
        have hn4 : n ≤ 4 := by
          have : hi = 3 := hhi.symm
          omega
        rw [hop] at hp0
        have hTF := take_from (unhide HREL) hlen h0 hp0 (by omega) (by omega)
        have hFr := from_doc (.slice av ss.length cv) ss g n cap ms (w.heap.size + 1) w3 (unhide HI3).std hlen (fun a ha => by have := (unhide HBN a ha).1; omega) (unhide HW3) hn hn2 hn4 (unhide HOK) hw3
        cases hfm : frmM ss ms with
        | error x =>
          obtain ⟨e, p⟩ := x
          have HQ : Hid (R = .error (e, p)) := hide (by rw [unhide HF3, hTF.1 _ hfm])
          rw [hfm] at hFr
          unfold FroD at hFr
          clear hTF hfm HF3 hnost hop hp0 c1 c4 c6 c0' hopn
          rcases g0 with g0 | ⟨g0, gf'⟩
          · go_upto_region 24 with (first
              | (go_at_call 12; refine (hBd _).mono ?_; clear hBd; rintro ev w4 ⟨rfl, hw4⟩; obtain rfl := hw4.symm)
              | (go_at_call 13; refine hFr.mono ?_; clear hFr; rintro ev w5 ⟨⟨hne, rfl⟩, hfr⟩; have T5 : Hid (w5.heap[w1.heap.size]? = some (.cells #[.int .i64 0, .int .i64 (-1)] 28 (0, 0))) := hide ((hfr.kep _ _ _ _ (unhide T27) (.inl rfl)).trans (unhide T27)); have c50 : w5.cell? ⟨w1.heap.size, 0, none⟩ = some (.int .i64 0) := cell_of_row _ _ 0 _ _ _ (unhide T5); have c51 : w5.cell? ⟨w1.heap.size, 1, none⟩ = some (.int .i64 (-1)) := cell_of_row _ _ 1 _ _ _ (unhide T5); have z5 : (∀ i, w5.frozen? ⟨w1.heap.size, i, none⟩ = false) := (fun i => by simp [World.frozen?, unhide T5]); have J5 : Hid (In13 w w5) := hide ((unhide HI3).in13.fr5 hfr)))
            have J6 : Hid (In13 w ((w5.setCell ⟨w1.heap.size, 0, none⟩ (.int .i64 (e : Int))).setCell ⟨w1.heap.size, 1, none⟩ (.int .i64 (p : Int)))) := hide (((unhide J5).set hb1w _).set hb1w _)
            have t27b := set2 (unhide T5) (.int .i64 (e : Int)) (.int .i64 (p : Int))
            generalize World.setCell (World.setCell w5 _ _) _ _ = W6 at *
            have t0 : W6.cell? ⟨w1.heap.size, 0, none⟩ = some (.int .i64 (e : Int)) := cell_of_row _ _ 0 _ _ _ t27b
            have t1 : W6.cell? ⟨w1.heap.size, 1, none⟩ = some (.int .i64 (p : Int)) := cell_of_row _ _ 1 _ _ _ t27b
            clear t27b c50 c51 z5 T5 J5
            have q0 : W6.cell? ⟨w.heap.size, 0, none⟩ = some (.int .i64 0) := cell_of_row _ _ 0 _ _ _ (unhide J6).blk
            have q1 : W6.cell? ⟨w.heap.size, 1, none⟩ = some (.int .i64 0) := cell_of_row _ _ 1 _ _ _ (unhide J6).blk
            have z0 : ∀ i, W6.frozen? ⟨w.heap.size, i, none⟩ = false := (fun i => by simp [World.frozen?, (unhide J6).blk])
            have ge : (((e : Nat) : Int) != 0) = true := by have := hne; simp; omega
            go_upto_region 25 with fail
            go_region_held3 (fun w' => w'.cell? ⟨w1.heap.size, 0, none⟩ = some (.int .i64 (e : Int)) ∧ w'.cell? ⟨w1.heap.size, 1, none⟩ = some (.int .i64 (p : Int)))
              (first | exact ⟨t0, t1⟩ | exact ⟨keepD (by omega) t0, keepD (by omega) t1⟩ | exact ⟨keepD (by omega) (keepD (by omega) t0), keepD (by omega) (keepD (by omega) t1)⟩) (fail)
            all_goals
              try go_wp2_with fail
              exact end5 rfl rfl (set2 (by first | exact (unhide J6).blk | exact (unhide J6).drew.blk) _ _) ⟨by rw [unhide HQ]; exact ⟨hne, rfl⟩, by first | exact below2 (unhide J6).bel (Nat.le_refl _) _ _ | exact below2 (unhide J6).drew.bel (Nat.le_refl _) _ _⟩
          · clear gf
            go_upto_region 24 with (first
              | (go_at_call 12; refine (hBd _).mono ?_; clear hBd; rintro ev w4 ⟨rfl, hw4⟩; obtain rfl := hw4.symm)
              | (go_at_call 13; refine hFr.mono ?_; clear hFr; rintro ev w5 ⟨⟨hne, rfl⟩, hfr⟩; have T5 : Hid (w5.heap[w1.heap.size]? = some (.cells #[.int .i64 0, .int .i64 (-1)] 28 (0, 0))) := hide ((hfr.kep _ _ _ _ (unhide T27) (.inl rfl)).trans (unhide T27)); have c50 : w5.cell? ⟨w1.heap.size, 0, none⟩ = some (.int .i64 0) := cell_of_row _ _ 0 _ _ _ (unhide T5); have c51 : w5.cell? ⟨w1.heap.size, 1, none⟩ = some (.int .i64 (-1)) := cell_of_row _ _ 1 _ _ _ (unhide T5); have z5 : (∀ i, w5.frozen? ⟨w1.heap.size, i, none⟩ = false) := (fun i => by simp [World.frozen?, unhide T5]); have J5 : Hid (In13 w w5) := hide ((unhide HI3).in13.fr5 hfr)))
            have J6 : Hid (In13 w ((w5.setCell ⟨w1.heap.size, 0, none⟩ (.int .i64 (e : Int))).setCell ⟨w1.heap.size, 1, none⟩ (.int .i64 (p : Int)))) := hide (((unhide J5).set hb1w _).set hb1w _)
            have t27b := set2 (unhide T5) (.int .i64 (e : Int)) (.int .i64 (p : Int))
            generalize World.setCell (World.setCell w5 _ _) _ _ = W6 at *
            have t0 : W6.cell? ⟨w1.heap.size, 0, none⟩ = some (.int .i64 (e : Int)) := cell_of_row _ _ 0 _ _ _ t27b
            have t1 : W6.cell? ⟨w1.heap.size, 1, none⟩ = some (.int .i64 (p : Int)) := cell_of_row _ _ 1 _ _ _ t27b
            clear t27b c50 c51 z5 T5 J5
            have q0 : W6.cell? ⟨w.heap.size, 0, none⟩ = some (.int .i64 0) := cell_of_row _ _ 0 _ _ _ (unhide J6).blk
            have q1 : W6.cell? ⟨w.heap.size, 1, none⟩ = some (.int .i64 0) := cell_of_row _ _ 1 _ _ _ (unhide J6).blk
            have z0 : ∀ i, W6.frozen? ⟨w.heap.size, i, none⟩ = false := (fun i => by simp [World.frozen?, (unhide J6).blk])
            have ge : (((e : Nat) : Int) != 0) = true := by have := hne; simp; omega
            go_upto_region 25 with fail
            go_region_held3 (fun w' => w'.cell? ⟨w1.heap.size, 0, none⟩ = some (.int .i64 (e : Int)) ∧ w'.cell? ⟨w1.heap.size, 1, none⟩ = some (.int .i64 (p : Int)))
              (first | exact ⟨t0, t1⟩ | exact ⟨keepD (by omega) t0, keepD (by omega) t1⟩ | exact ⟨keepD (by omega) (keepD (by omega) t0), keepD (by omega) (keepD (by omega) t1)⟩) (fail)
            all_goals
              try go_wp2_with fail
              exact end5 rfl rfl (set2 (by first | exact (unhide J6).blk | exact (unhide J6).drew.blk) _ _) ⟨by rw [unhide HQ]; exact ⟨hne, rfl⟩, by first | exact below2 (unhide J6).bel (Nat.le_refl _) _ _ | exact below2 (unhide J6).drew.bel (Nat.le_refl _) _ _⟩
        | ok x =>
          obtain ⟨nm, kk⟩ := x
          obtain ⟨hl5, htk, hrel'⟩ := hTF.2 nm kk hfm
          rw [hfm] at hFr
          unfold FroD at hFr
          have HREL2 := hide hrel'
          have HTK2 := hide htk
          have HSZ := hide (unhide HI3).size
          clear hTF hfm hnost hop hp0 c1 c4 c6 c0' hopn hrel' htk
          by_cases h24 : 24 ≤ cc
          · have HQ : Hid (R = .error (10, m0.place)) := hide (by rw [unhide HF3, unhide HTK2, if_pos (by rw [← unhide HSZ]; exact h24)])
            have g24 : (24 : Int) < (cc : Int) + 1 := by omega
            rcases g0 with g0 | ⟨g0, gf'⟩
            · go_upto_region 24 with (first
                | (go_at_call 12; refine (hBd _).mono ?_; clear hBd; rintro ev w4 ⟨rfl, hw4⟩; obtain rfl := hw4.symm)
                | (go_at_call 13; refine hFr.mono ?_; clear hFr; rintro ev w5 ⟨⟨v', vv, rfl, hs5⟩, hfr⟩; have T5 : Hid (w5.heap[w1.heap.size]? = some (.cells #[.int .i64 0, .int .i64 (-1)] 28 (0, 0))) := hide ((hfr.kep _ _ _ _ (unhide T27) (.inl rfl)).trans (unhide T27)); have c50 : w5.cell? ⟨w1.heap.size, 0, none⟩ = some (.int .i64 0) := cell_of_row _ _ 0 _ _ _ (unhide T5); have c51 : w5.cell? ⟨w1.heap.size, 1, none⟩ = some (.int .i64 (-1)) := cell_of_row _ _ 1 _ _ _ (unhide T5); have z5 : (∀ i, w5.frozen? ⟨w1.heap.size, i, none⟩ = false) := (fun i => by simp [World.frozen?, unhide T5]); have J5 : Hid (In13 w w5) := hide ((unhide HI3).in13.fr5 hfr)))
              obtain ⟨a6, n6, c6', hv6⟩ := row_form hs5.row
              subst hv6
              have HS5 := hide hs5
              have J6 : Hid (In13 w ((w5.setCell ⟨w1.heap.size, 0, none⟩ (.int .i64 0)).setCell ⟨w1.heap.size, 1, none⟩ (.int .i64 (-1)))) := hide (((unhide J5).set hb1w _).set hb1w _)
              have t27b := set2 (unhide T5) (.int .i64 0) (.int .i64 (-1))
              have HS6 := hide ((unhide HS5).keep27 (unhide T5) (.int .i64 0) (.int .i64 (-1)))
              have y01 : ((w5.setCell ⟨w1.heap.size, 0, none⟩ (.int .i64 0)).setCell ⟨w1.heap.size, 1, none⟩ (.int .i64 (-1))).cell? ⟨g, 1, none⟩ = some (.int .i64 (m0.place : Int)) := by
                obtain ⟨cg, fg, hcg⟩ := unhide HGG
                have hgne : g ≠ w1.heap.size := fun e => by
                  have h9 := unhide T27
                  rw [← e, hcg] at h9
                  injection h9 with h9
                  injection h9 with _ h9 _
                  exact absurd h9 (by decide)
                exact keepD hgne ((World.cell?_of_block (a := ⟨g, 1, none⟩) (hfr.kep _ _ _ _ hcg (.inr rfl))).trans j01)
              generalize World.setCell (World.setCell w5 _ _) _ _ = W6 at *
              have t0 : W6.cell? ⟨w1.heap.size, 0, none⟩ = some (.int .i64 0) := cell_of_row _ _ 0 _ _ _ t27b
              clear t27b c50 c51 z5 T5 J5 HS5
              have I6 := unhide J6
              go_wp2_with (first
                | (go_at_call 9; refine (bad_any _ _ _).mono ?_; rintro ev wE ⟨rfl, hbE⟩; have IE : In13 w wE := In13.below (by assumption) hbE; have q0 := cell_of_row _ _ 0 _ _ _ IE.blk; have q1 := cell_of_row _ _ 1 _ _ _ IE.blk; have z0 : ∀ i, wE.frozen? ⟨w.heap.size, i, none⟩ = false := (fun i => by simp [World.frozen?, IE.blk]); have HIE := hide IE; clear IE))
              exact end5 rfl rfl (set2 (unhide HIE).blk _ _) ⟨by rw [unhide HQ]; exact ⟨by decide, rfl⟩, below2 (unhide HIE).bel (Nat.le_refl _) _ _⟩
            · clear gf
              go_upto_region 24 with (first
                | (go_at_call 12; refine (hBd _).mono ?_; clear hBd; rintro ev w4 ⟨rfl, hw4⟩; obtain rfl := hw4.symm)
                | (go_at_call 13; refine hFr.mono ?_; clear hFr; rintro ev w5 ⟨⟨v', vv, rfl, hs5⟩, hfr⟩; have T5 : Hid (w5.heap[w1.heap.size]? = some (.cells #[.int .i64 0, .int .i64 (-1)] 28 (0, 0))) := hide ((hfr.kep _ _ _ _ (unhide T27) (.inl rfl)).trans (unhide T27)); have c50 : w5.cell? ⟨w1.heap.size, 0, none⟩ = some (.int .i64 0) := cell_of_row _ _ 0 _ _ _ (unhide T5); have c51 : w5.cell? ⟨w1.heap.size, 1, none⟩ = some (.int .i64 (-1)) := cell_of_row _ _ 1 _ _ _ (unhide T5); have z5 : (∀ i, w5.frozen? ⟨w1.heap.size, i, none⟩ = false) := (fun i => by simp [World.frozen?, unhide T5]); have J5 : Hid (In13 w w5) := hide ((unhide HI3).in13.fr5 hfr)))
              obtain ⟨a6, n6, c6', hv6⟩ := row_form hs5.row
              subst hv6
              have HS5 := hide hs5
              have J6 : Hid (In13 w ((w5.setCell ⟨w1.heap.size, 0, none⟩ (.int .i64 0)).setCell ⟨w1.heap.size, 1, none⟩ (.int .i64 (-1)))) := hide (((unhide J5).set hb1w _).set hb1w _)
              have t27b := set2 (unhide T5) (.int .i64 0) (.int .i64 (-1))
              have HS6 := hide ((unhide HS5).keep27 (unhide T5) (.int .i64 0) (.int .i64 (-1)))
              have y01 : ((w5.setCell ⟨w1.heap.size, 0, none⟩ (.int .i64 0)).setCell ⟨w1.heap.size, 1, none⟩ (.int .i64 (-1))).cell? ⟨g, 1, none⟩ = some (.int .i64 (m0.place : Int)) := by
                obtain ⟨cg, fg, hcg⟩ := unhide HGG
                have hgne : g ≠ w1.heap.size := fun e => by
                  have h9 := unhide T27
                  rw [← e, hcg] at h9
                  injection h9 with h9
                  injection h9 with _ h9 _
                  exact absurd h9 (by decide)
                exact keepD hgne ((World.cell?_of_block (a := ⟨g, 1, none⟩) (hfr.kep _ _ _ _ hcg (.inr rfl))).trans j01)
              generalize World.setCell (World.setCell w5 _ _) _ _ = W6 at *
              have t0 : W6.cell? ⟨w1.heap.size, 0, none⟩ = some (.int .i64 0) := cell_of_row _ _ 0 _ _ _ t27b
              clear t27b c50 c51 z5 T5 J5 HS5
              have I6 := unhide J6
              go_wp2_with (first
                | (go_at_call 9; refine (bad_any _ _ _).mono ?_; rintro ev wE ⟨rfl, hbE⟩; have IE : In13 w wE := In13.below (by assumption) hbE; have q0 := cell_of_row _ _ 0 _ _ _ IE.blk; have q1 := cell_of_row _ _ 1 _ _ _ IE.blk; have z0 : ∀ i, wE.frozen? ⟨w.heap.size, i, none⟩ = false := (fun i => by simp [World.frozen?, IE.blk]); have HIE := hide IE; clear IE))
              exact end5 rfl rfl (set2 (unhide HIE).blk _ _) ⟨by rw [unhide HQ]; exact ⟨by decide, rfl⟩, below2 (unhide HIE).bel (Nat.le_refl _) _ _⟩
          · have HQ : Hid (R = fileG s.data.toList (st ++ [⟨nm, [⟨ms.map WdM.wd, kk⟩]⟩]) t) := hide (by rw [unhide HF3, unhide HTK2, if_neg (by rw [← unhide HSZ]; exact h24)])
            have g24 : ¬ (24 : Int) < (cc : Int) + 1 := by omega
            rcases g0 with g0 | ⟨g0, gf'⟩
            · go_upto_region 24 with (first
                | (go_at_call 12; refine (hBd _).mono ?_; clear hBd; rintro ev w4 ⟨rfl, hw4⟩; obtain rfl := hw4.symm)
                | (go_at_call 13; refine hFr.mono ?_; clear hFr; rintro ev w5 ⟨⟨v', vv, rfl, hs5⟩, hfr⟩; have T5 : Hid (w5.heap[w1.heap.size]? = some (.cells #[.int .i64 0, .int .i64 (-1)] 28 (0, 0))) := hide ((hfr.kep _ _ _ _ (unhide T27) (.inl rfl)).trans (unhide T27)); have c50 : w5.cell? ⟨w1.heap.size, 0, none⟩ = some (.int .i64 0) := cell_of_row _ _ 0 _ _ _ (unhide T5); have c51 : w5.cell? ⟨w1.heap.size, 1, none⟩ = some (.int .i64 (-1)) := cell_of_row _ _ 1 _ _ _ (unhide T5); have z5 : (∀ i, w5.frozen? ⟨w1.heap.size, i, none⟩ = false) := (fun i => by simp [World.frozen?, unhide T5]); have J5 : Hid (In13 w w5) := hide ((unhide HI3).in13.fr5 hfr)))
              obtain ⟨a6, n6, c6', hv6⟩ := row_form hs5.row
              subst hv6
              have HS5 := hide hs5
              have J6 : Hid (In13 w ((w5.setCell ⟨w1.heap.size, 0, none⟩ (.int .i64 0)).setCell ⟨w1.heap.size, 1, none⟩ (.int .i64 (-1)))) := hide (((unhide J5).set hb1w _).set hb1w _)
              have t27b := set2 (unhide T5) (.int .i64 0) (.int .i64 (-1))
              have HS6 := hide ((unhide HS5).keep27 (unhide T5) (.int .i64 0) (.int .i64 (-1)))
              have y01 : ((w5.setCell ⟨w1.heap.size, 0, none⟩ (.int .i64 0)).setCell ⟨w1.heap.size, 1, none⟩ (.int .i64 (-1))).cell? ⟨g, 1, none⟩ = some (.int .i64 (m0.place : Int)) := by
                obtain ⟨cg, fg, hcg⟩ := unhide HGG
                have hgne : g ≠ w1.heap.size := fun e => by
                  have h9 := unhide T27
                  rw [← e, hcg] at h9
                  injection h9 with h9
                  injection h9 with _ h9 _
                  exact absurd h9 (by decide)
                exact keepD hgne ((World.cell?_of_block (a := ⟨g, 1, none⟩) (hfr.kep _ _ _ _ hcg (.inr rfl))).trans j01)
              generalize World.setCell (World.setCell w5 _ _) _ _ = W6 at *
              have t0 : W6.cell? ⟨w1.heap.size, 0, none⟩ = some (.int .i64 0) := cell_of_row _ _ 0 _ _ _ t27b
              clear t27b c50 c51 z5 T5 J5 HS5
              have I6 := unhide J6
              go_wp2_with fail
              go_roundw
              case rel => exact ⟨t', cc + 1, _, _, rfl, by first | rfl | go_num | (congr 1; omega), ⟨unhide J6, unhide HS6, unhide HREL2 vv, by rw [size_push, ← unhide HSZ], by omega, by rw [List.length_append]; simp; omega, fun a ha => by
                rcases List.mem_append.1 ha with ha | ha
                · have := unhide HBN a ha; omega
                · rw [List.mem_singleton] at ha; subst ha; exact ⟨Nat.le_trans (varsD_len (fun a ha => (unhide HBN a ha).1) kk) (by omega), by simp⟩⟩, Pos.next (unhide HQ) (unhide HTL) (unhide HTT)⟩
              case measure => simp [intOf]; omega
            · clear gf
              go_upto_region 24 with (first
                | (go_at_call 12; refine (hBd _).mono ?_; clear hBd; rintro ev w4 ⟨rfl, hw4⟩; obtain rfl := hw4.symm)
                | (go_at_call 13; refine hFr.mono ?_; clear hFr; rintro ev w5 ⟨⟨v', vv, rfl, hs5⟩, hfr⟩; have T5 : Hid (w5.heap[w1.heap.size]? = some (.cells #[.int .i64 0, .int .i64 (-1)] 28 (0, 0))) := hide ((hfr.kep _ _ _ _ (unhide T27) (.inl rfl)).trans (unhide T27)); have c50 : w5.cell? ⟨w1.heap.size, 0, none⟩ = some (.int .i64 0) := cell_of_row _ _ 0 _ _ _ (unhide T5); have c51 : w5.cell? ⟨w1.heap.size, 1, none⟩ = some (.int .i64 (-1)) := cell_of_row _ _ 1 _ _ _ (unhide T5); have z5 : (∀ i, w5.frozen? ⟨w1.heap.size, i, none⟩ = false) := (fun i => by simp [World.frozen?, unhide T5]); have J5 : Hid (In13 w w5) := hide ((unhide HI3).in13.fr5 hfr)))
              obtain ⟨a6, n6, c6', hv6⟩ := row_form hs5.row
              subst hv6
              have HS5 := hide hs5
              have J6 : Hid (In13 w ((w5.setCell ⟨w1.heap.size, 0, none⟩ (.int .i64 0)).setCell ⟨w1.heap.size, 1, none⟩ (.int .i64 (-1)))) := hide (((unhide J5).set hb1w _).set hb1w _)
              have t27b := set2 (unhide T5) (.int .i64 0) (.int .i64 (-1))
              have HS6 := hide ((unhide HS5).keep27 (unhide T5) (.int .i64 0) (.int .i64 (-1)))
              have y01 : ((w5.setCell ⟨w1.heap.size, 0, none⟩ (.int .i64 0)).setCell ⟨w1.heap.size, 1, none⟩ (.int .i64 (-1))).cell? ⟨g, 1, none⟩ = some (.int .i64 (m0.place : Int)) := by
                obtain ⟨cg, fg, hcg⟩ := unhide HGG
                have hgne : g ≠ w1.heap.size := fun e => by
                  have h9 := unhide T27
                  rw [← e, hcg] at h9
                  injection h9 with h9
                  injection h9 with _ h9 _
                  exact absurd h9 (by decide)
                exact keepD hgne ((World.cell?_of_block (a := ⟨g, 1, none⟩) (hfr.kep _ _ _ _ hcg (.inr rfl))).trans j01)
              generalize World.setCell (World.setCell w5 _ _) _ _ = W6 at *
              have t0 : W6.cell? ⟨w1.heap.size, 0, none⟩ = some (.int .i64 0) := cell_of_row _ _ 0 _ _ _ t27b
              clear t27b c50 c51 z5 T5 J5 HS5
              have I6 := unhide J6
              go_wp2_with fail
              go_roundw
              case rel => exact ⟨t', cc + 1, _, _, rfl, by first | rfl | go_num | (congr 1; omega), ⟨unhide J6, unhide HS6, unhide HREL2 vv, by rw [size_push, ← unhide HSZ], by omega, by rw [List.length_append]; simp; omega, fun a ha => by
                rcases List.mem_append.1 ha with ha | ha
                · have := unhide HBN a ha; omega
                · rw [List.mem_singleton] at ha; subst ha; exact ⟨Nat.le_trans (varsD_len (fun a ha => (unhide HBN a ha).1) kk) (by omega), by simp⟩⟩, Pos.next (unhide HQ) (unhide HTL) (unhide HTT)⟩
              case measure => simp [intOf]; omega
      rw [decide_eq_false ho0] at gf
      have hss0 : ss.length ≠ 0 := fun e => hnost ⟨e, ho0⟩
      have g00 : ((ss.length : Int) == 0) = false := beq_eq_false_iff_ne.2 (by omega)
      clear g0 hnost
      obtain ⟨k, hk⟩ : ∃ k, ss.length = k + 1 := ⟨ss.length - 1, by omega⟩
      obtain ⟨sk, hsk⟩ : ∃ a, ss[k]? = some a := ⟨_, List.getElem?_eq_getElem (by omega)⟩
      obtain ⟨tk, htk, hrk⟩ := (unhide HREL).get' hsk
      obtain ⟨x1, h1⟩ : ∃ x1, ms[1]? = some x1 := ⟨_, List.getElem?_eq_getElem (by omega)⟩
      obtain ⟨gs, cs, hgs, _, _⟩ := World.ownsRow.form (unhide HI3).std.row (by omega)
      injection hgs with e1 _ e3
      subst e1 e3
      have hbk := unhide HBN sk (List.mem_of_getElem? hsk)
      have hTS := take_step (unhide HREL) hk hsk htk h0 h1 hp0 hopn ho0 (by rw [hlo, hn]; exact hlt1) (by rw [hhi, hn]; exact hhi1)
      have hFr := step_doc b0 ss k sk gs cv g n cap ms m0 x1 (w.heap.size + 1) w3 (by rw [← hk]; exact (unhide HI3).std) hk hsk (by omega) (by omega) (by omega) (unhide HW3) hn hn2 hn' hcap hcm h0 h1 (unhide HOK) hw3 o hopn (by rw [hhi]; exact hhi1)
      rw [← hk] at hFr
      clear hrk c1 c4 c6 c0'
      cases hst : stpT ss sk.vars b0.data.toList ms m0 x1 with
      | error x =>
        obtain ⟨e, p⟩ := x
        have HQ : Hid (R = .error (e, p)) := hide (by rw [unhide HF3, hTS.1 _ hst])
        rw [hst] at hFr
        unfold StpD at hFr
        clear hTS hst HF3 hp0 hopn hk hsk htk h1 hbk
        go_upto_region 24 with (first
          | (go_at_call 12; refine (hBd _).mono ?_; clear hBd; rintro ev w4 ⟨rfl, hw4⟩; obtain rfl := hw4.symm)
          | (go_at_call 14; refine hFr.mono ?_; clear hFr; rintro ev w5 ⟨⟨hne, rfl⟩, hfr⟩; have T5 : Hid (w5.heap[w1.heap.size]? = some (.cells #[.int .i64 0, .int .i64 (-1)] 28 (0, 0))) := hide ((hfr.kep _ _ _ _ (unhide T27) (.inl rfl)).trans (unhide T27)); have c50 : w5.cell? ⟨w1.heap.size, 0, none⟩ = some (.int .i64 0) := cell_of_row _ _ 0 _ _ _ (unhide T5); have c51 : w5.cell? ⟨w1.heap.size, 1, none⟩ = some (.int .i64 (-1)) := cell_of_row _ _ 1 _ _ _ (unhide T5); have z5 : (∀ i, w5.frozen? ⟨w1.heap.size, i, none⟩ = false) := (fun i => by simp [World.frozen?, unhide T5]); have J5 : Hid (In13 w w5) := hide ((unhide HI3).in13.fr5 hfr)))
        have J6 : Hid (In13 w ((w5.setCell ⟨w1.heap.size, 0, none⟩ (.int .i64 (e : Int))).setCell ⟨w1.heap.size, 1, none⟩ (.int .i64 (p : Int)))) := hide (((unhide J5).set hb1w _).set hb1w _)
        have t27b := set2 (unhide T5) (.int .i64 (e : Int)) (.int .i64 (p : Int))
        generalize World.setCell (World.setCell w5 _ _) _ _ = W6 at *
        have t0 : W6.cell? ⟨w1.heap.size, 0, none⟩ = some (.int .i64 (e : Int)) := cell_of_row _ _ 0 _ _ _ t27b
        have t1 : W6.cell? ⟨w1.heap.size, 1, none⟩ = some (.int .i64 (p : Int)) := cell_of_row _ _ 1 _ _ _ t27b
        clear t27b c50 c51 z5 T5 J5
        have q0 : W6.cell? ⟨w.heap.size, 0, none⟩ = some (.int .i64 0) := cell_of_row _ _ 0 _ _ _ (unhide J6).blk
        have q1 : W6.cell? ⟨w.heap.size, 1, none⟩ = some (.int .i64 0) := cell_of_row _ _ 1 _ _ _ (unhide J6).blk
        have z0 : ∀ i, W6.frozen? ⟨w.heap.size, i, none⟩ = false := (fun i => by simp [World.frozen?, (unhide J6).blk])
        have ge : (((e : Nat) : Int) != 0) = true := by have := hne; simp; omega
        go_upto_region 25 with fail
        go_region_held3 (fun w' => w'.cell? ⟨w1.heap.size, 0, none⟩ = some (.int .i64 (e : Int)) ∧ w'.cell? ⟨w1.heap.size, 1, none⟩ = some (.int .i64 (p : Int)))
          (first | exact ⟨t0, t1⟩ | exact ⟨keepD (by omega) t0, keepD (by omega) t1⟩ | exact ⟨keepD (by omega) (keepD (by omega) t0), keepD (by omega) (keepD (by omega) t1)⟩) (fail)
        all_goals
          try go_wp2_with fail
          exact end5 rfl rfl (set2 (by first | exact (unhide J6).blk | exact (unhide J6).drew.blk) _ _) ⟨by rw [unhide HQ]; exact ⟨hne, rfl⟩, by first | exact below2 (unhide J6).bel (Nat.le_refl _) _ _ | exact below2 (unhide J6).drew.bel (Nat.le_refl _) _ _⟩
      | ok x =>
        obtain ⟨cst, d⟩ := x
        obtain ⟨htk2, hrel'⟩ := hTS.2 cst d hst
        rw [hst] at hFr
        unfold StpD at hFr
        have HREL2 := hide hrel'
        have HTK2 := hide htk2
        have HSZ := hide (unhide HI3).size
        have HST := hide (size_step htk tk.name ⟨ms.map WdM.wd, cst⟩)
        have HK := hide hk
        have HSK := hide hsk
        clear hTS hst hp0 hopn hrel' htk2 hk hsk htk h1
        by_cases h24 : 24 ≤ cc
        · have HQ : Hid (R = .error (10, m0.place)) := hide (by rw [unhide HF3, unhide HTK2, if_pos (by rw [← unhide HSZ]; exact h24)])
          have g24 : (24 : Int) < (cc : Int) + 1 := by omega
          go_upto_region 24 with (first
            | (go_at_call 12; refine (hBd _).mono ?_; clear hBd; rintro ev w4 ⟨rfl, hw4⟩; obtain rfl := hw4.symm)
            | (go_at_call 14; refine hFr.mono ?_; clear hFr; rintro ev w5 ⟨⟨sv, vv, lv, rfl, hs5⟩, hfr⟩; have T5 : Hid (w5.heap[w1.heap.size]? = some (.cells #[.int .i64 0, .int .i64 (-1)] 28 (0, 0))) := hide ((hfr.kep _ _ _ _ (unhide T27) (.inl rfl)).trans (unhide T27)); have c50 : w5.cell? ⟨w1.heap.size, 0, none⟩ = some (.int .i64 0) := cell_of_row _ _ 0 _ _ _ (unhide T5); have c51 : w5.cell? ⟨w1.heap.size, 1, none⟩ = some (.int .i64 (-1)) := cell_of_row _ _ 1 _ _ _ (unhide T5); have z5 : (∀ i, w5.frozen? ⟨w1.heap.size, i, none⟩ = false) := (fun i => by simp [World.frozen?, unhide T5]); have J5 : Hid (In13 w w5) := hide ((unhide HI3).in13.fr5 hfr)))
          have HS5 := hide hs5
          have J6 : Hid (In13 w ((w5.setCell ⟨w1.heap.size, 0, none⟩ (.int .i64 0)).setCell ⟨w1.heap.size, 1, none⟩ (.int .i64 (-1)))) := hide (((unhide J5).set hb1w _).set hb1w _)
          have t27b := set2 (unhide T5) (.int .i64 0) (.int .i64 (-1))
          have HS6 := hide ((unhide HS5).keep27 (unhide T5) (.int .i64 0) (.int .i64 (-1)))
          have y01 : ((w5.setCell ⟨w1.heap.size, 0, none⟩ (.int .i64 0)).setCell ⟨w1.heap.size, 1, none⟩ (.int .i64 (-1))).cell? ⟨g, 1, none⟩ = some (.int .i64 (m0.place : Int)) := by
            obtain ⟨cg, fg, hcg⟩ := unhide HGG
            have hgne : g ≠ w1.heap.size := fun e => by
              have h9 := unhide T27
              rw [← e, hcg] at h9
              injection h9 with h9
              injection h9 with _ h9 _
              exact absurd h9 (by decide)
            exact keepD hgne ((World.cell?_of_block (a := ⟨g, 1, none⟩) (hfr.kep _ _ _ _ hcg (.inr rfl))).trans j01)
          generalize World.setCell (World.setCell w5 _ _) _ _ = W6 at *
          have t0 : W6.cell? ⟨w1.heap.size, 0, none⟩ = some (.int .i64 0) := cell_of_row _ _ 0 _ _ _ t27b
          clear t27b c50 c51 z5 T5 J5 HS5
          have I6 := unhide J6
          go_wp2_with (first
            | (go_at_call 9; refine (bad_any _ _ _).mono ?_; rintro ev wE ⟨rfl, hbE⟩; have IE : In13 w wE := In13.below (by assumption) hbE; have q0 := cell_of_row _ _ 0 _ _ _ IE.blk; have q1 := cell_of_row _ _ 1 _ _ _ IE.blk; have z0 : ∀ i, wE.frozen? ⟨w.heap.size, i, none⟩ = false := (fun i => by simp [World.frozen?, IE.blk]); have HIE := hide IE; clear IE))
          exact end5 rfl rfl (set2 (unhide HIE).blk _ _) ⟨by rw [unhide HQ]; exact ⟨by decide, rfl⟩, below2 (unhide HIE).bel (Nat.le_refl _) _ _⟩
        · have HQ : Hid (R = fileG s.data.toList (st.set k ⟨tk.name, tk.ins ++ [⟨ms.map WdM.wd, cst⟩]⟩) t) := hide (by rw [unhide HF3, unhide HTK2, if_neg (by rw [← unhide HSZ]; exact h24)])
          have g24 : ¬ (24 : Int) < (cc : Int) + 1 := by omega
          go_upto_region 24 with (first
            | (go_at_call 12; refine (hBd _).mono ?_; clear hBd; rintro ev w4 ⟨rfl, hw4⟩; obtain rfl := hw4.symm)
            | (go_at_call 14; refine hFr.mono ?_; clear hFr; rintro ev w5 ⟨⟨sv, vv, lv, rfl, hs5⟩, hfr⟩; have T5 : Hid (w5.heap[w1.heap.size]? = some (.cells #[.int .i64 0, .int .i64 (-1)] 28 (0, 0))) := hide ((hfr.kep _ _ _ _ (unhide T27) (.inl rfl)).trans (unhide T27)); have c50 : w5.cell? ⟨w1.heap.size, 0, none⟩ = some (.int .i64 0) := cell_of_row _ _ 0 _ _ _ (unhide T5); have c51 : w5.cell? ⟨w1.heap.size, 1, none⟩ = some (.int .i64 (-1)) := cell_of_row _ _ 1 _ _ _ (unhide T5); have z5 : (∀ i, w5.frozen? ⟨w1.heap.size, i, none⟩ = false) := (fun i => by simp [World.frozen?, unhide T5]); have J5 : Hid (In13 w w5) := hide ((unhide HI3).in13.fr5 hfr)))
          have HS5 := hide hs5
          have J6 : Hid (In13 w ((w5.setCell ⟨w1.heap.size, 0, none⟩ (.int .i64 0)).setCell ⟨w1.heap.size, 1, none⟩ (.int .i64 (-1)))) := hide (((unhide J5).set hb1w _).set hb1w _)
          have t27b := set2 (unhide T5) (.int .i64 0) (.int .i64 (-1))
          have HS6 := hide ((unhide HS5).keep27 (unhide T5) (.int .i64 0) (.int .i64 (-1)))
          have y01 : ((w5.setCell ⟨w1.heap.size, 0, none⟩ (.int .i64 0)).setCell ⟨w1.heap.size, 1, none⟩ (.int .i64 (-1))).cell? ⟨g, 1, none⟩ = some (.int .i64 (m0.place : Int)) := by
            obtain ⟨cg, fg, hcg⟩ := unhide HGG
            have hgne : g ≠ w1.heap.size := fun e => by
              have h9 := unhide T27
              rw [← e, hcg] at h9
              injection h9 with h9
              injection h9 with _ h9 _
              exact absurd h9 (by decide)
            exact keepD hgne ((World.cell?_of_block (a := ⟨g, 1, none⟩) (hfr.kep _ _ _ _ hcg (.inr rfl))).trans j01)
          generalize World.setCell (World.setCell w5 _ _) _ _ = W6 at *
          have t0 : W6.cell? ⟨w1.heap.size, 0, none⟩ = some (.int .i64 0) := cell_of_row _ _ 0 _ _ _ t27b
          clear t27b c50 c51 z5 T5 J5 HS5
          have I6 := unhide J6
          go_wp2_with fail
          go_roundw
          case rel => exact ⟨t', cc + 1, _, _, rfl, by first | rfl | go_num | (congr 1; omega), ⟨unhide J6, unhide HS6, unhide HREL2 sv vv lv _, by rw [unhide HST, ← unhide HSZ], by omega, by rw [List.length_set]; exact hlen, fun a ha => by
            obtain ⟨i, hi'⟩ := List.getElem?_of_mem ha
            rcases set_some hi' with ⟨_, e⟩ | ⟨_, hi'⟩
            · subst e
              refine ⟨?_, by simp; omega⟩
              simp only
              split
              · simp; omega
              · omega
            · have := unhide HBN a (List.mem_of_getElem? hi'); omega⟩, Pos.next (unhide HQ) (unhide HTL) (unhide HTT)⟩
          case measure => simp [intOf]; omega
end Go.Proofs.YtkikhmleffcajaaGreatDoor
