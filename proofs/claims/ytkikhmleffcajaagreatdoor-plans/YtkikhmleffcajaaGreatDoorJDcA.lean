import Derived.Test.YtkikhmleffcajaaGreatDoorJShelfX
namespace Go.Proofs.YtkikhmleffcajaaGreatDoor
open Go.RowKit Go.Maps

theorem getA (s : ByteArray) (k : Nat) (h : k < s.size) : s.data.toList[k]? = some s[k] := by
  have h' : k < s.data.toList.length := by rw [← Lib.size_eq]; exact h
  rw [List.getElem?_eq_getElem h']; rfl
theorem getZ (s : ByteArray) (k : Nat) (h : ¬ k < s.size) : s.data.toList[k]? = none :=
  List.getElem?_eq_none_iff.2 (by rw [← Lib.size_eq]; omega)
theorem beqN (c d : UInt8) : ((some c : Option UInt8) == some d) = decide (c.toNat = d.toNat) := by
  rw [Bool.eq_iff_iff]; simp [← UInt8.toNat_inj]
set_option maxHeartbeats 1000000 in
theorem stops_any (s : ByteArray) (k : Nat) (w : World) (_ : k ≤ 1500) (_ : s.size ≤ 1500) :
    Calls Tryz.prog 22 #[.string s, .int .i64 (k : Int)] w fun e w' => e = .returned (.bool (stopG s.data.toList k)) ∧ w' = w := by
  by_cases hlt : k < s.size
  · have HD : Hid (stopG s.data.toList k = decide (s[k].toNat = 10)) := hide (by unfold stopG; rw [getA s k hlt, beqN]; rfl)
    go_enter Tryz.func22, Tryz.ntmps22
    go_wp2_with fail
    go_ret
    exact ⟨ret_bool (by rw [unhide HD, Bool.eq_iff_iff]; simp at * <;> omega), rfl⟩
  · have HD : Hid (stopG s.data.toList k = true) := hide (by unfold stopG; rw [getZ s k hlt]; rfl)
    go_enter Tryz.func22, Tryz.ntmps22
    go_wp2_with fail
    go_ret
    exact ⟨ret_bool (unhide HD).symm, rfl⟩
set_option maxHeartbeats 1000000 in
theorem goes_any (s : ByteArray) (k : Nat) (w : World) (hk : k ≤ 1500) (_ : s.size ≤ 1500) :
    Calls Tryz.prog 21 #[.string s, .int .i64 (k : Int)] w fun e w' => e = .returned (.bool (goesG s.data.toList k)) ∧ w' = w := by
  by_cases hlt : k + 1 < s.size
  · have hlt0 : k < s.size := by omega
    have HD : Hid (goesG s.data.toList k = (decide (s[k].toNat = 92) && decide (s[k + 1].toNat = 10))) := hide (by unfold goesG; rw [getA s k hlt0, getA s (k + 1) hlt, beqN, beqN]; rfl)
    go_enter Tryz.func21, Tryz.ntmps21
    go_wp2_with fail
    all_goals
      go_ret
      exact ⟨ret_bool (by rw [unhide HD, Bool.eq_iff_iff]; simp at * <;> omega), rfl⟩
  · have HD : Hid (goesG s.data.toList k = false) := hide (by unfold goesG; rw [getZ s (k + 1) hlt]; simp)
    go_enter Tryz.func21, Tryz.ntmps21
    go_wp2_with fail
    all_goals
      go_ret
      exact ⟨ret_bool (unhide HD).symm, rfl⟩
end Go.Proofs.YtkikhmleffcajaaGreatDoor

namespace Go.Proofs.YtkikhmleffcajaaGreatDoor
open Go.RowKit Go.Maps

/-- What great knows at a place. -/
def GrtAt (l : List UInt8) (k : Nat) : Prop := (l.take k).all isNmC = true ∧ (0 < k → ∀ c, l[0]? = some c → isCapC c = true)
theorem grt_nil : nameN [] = 0 := rfl
theorem grt_first {l : List UInt8} {c : UInt8} (h : l[0]? = some c) : nameN l = if isCapC c = true then (l.takeWhile isNmC).length else 0 := by
  cases l with
  | nil => simp at h
  | cons a r => simp at h; subst h; rfl
theorem grt_stop {l : List UInt8} {k : Nat} {c : UInt8} (h : GrtAt l k) (hc : l[k]? = some c) (hcap : isCapC c = false) (hd : k = 0 ∨ isNmC c = false) : nameN l = k := by
  rcases Nat.eq_zero_or_pos k with rfl | hk
  · rw [grt_first hc, hcap]; rfl
  · have hlt := (List.getElem?_eq_some_iff.1 hc).1
    obtain ⟨d, hd0⟩ : ∃ d, l[0]? = some d := ⟨_, List.getElem?_eq_getElem (by omega)⟩
    rw [grt_first hd0, if_pos (h.2 hk d hd0)]
    rcases hd with e | e
    · omega
    · exact tw_stop l k hlt h.1 (by rw [(List.getElem?_eq_some_iff.1 hc).2]; exact e)
theorem grt_end {l : List UInt8} (h : GrtAt l l.length) : nameN l = l.length := by
  cases l with
  | nil => rfl
  | cons a r =>
    rw [grt_first (c := a) rfl, if_pos (h.2 (by simp) a rfl)]
    exact tw_all _ (by have := h.1; rwa [List.take_length] at this)
theorem grt_more {l : List UInt8} {k : Nat} {c : UInt8} (h : GrtAt l k) (hc : l[k]? = some c) (hn : isCapC c = true ∨ (0 < k ∧ isNmC c = true)) : GrtAt l (k + 1) := by
  have hnm : isNmC c = true := by
    rcases hn with e | e
    · unfold isNmC; rw [e]; rfl
    · exact e.2
  refine ⟨?_, fun _ d hd => ?_⟩
  · rw [List.take_add_one, hc, List.all_append, h.1]; simp [hnm]
  · rcases Nat.eq_zero_or_pos k with rfl | hk
    · rw [hc] at hd; cases hd
      rcases hn with e | e
      · exact e
      · omega
    · exact h.2 hk d hd
set_option maxHeartbeats 2000000 in
set_option maxRecDepth 10000 in
theorem great_any (s : ByteArray) (w : World) (hs : s.size ≤ 1500) :
    Calls Tryz.prog 45 #[.string s] w fun e w' => e = .returned (.int .i64 (nameN s.data.toList : Int)) ∧ w' = w := by
  go_enter Tryz.func45, Tryz.ntmps45
  go_wp2_with fail
  go_loop [3] (fun i => ∃ k : Nat, k ≤ s.size ∧ i = .int .i64 k ∧ GrtAt s.data.toList k) (fun i => s.size - (intOf i).toNat)
  case atStart => exact ⟨0, Nat.zero_le _, rfl, rfl, fun h => by omega⟩
  case round =>
    obtain ⟨k, hk, rfl, ha⟩ := hrel
    have A := hide ha
    clear ha
    by_cases hlt : k < s.size
    · have hc := getA s k hlt
      have HC := hide hc
      clear hc
      have hcapN : isCapC s[k] = decide (65 ≤ s[k].toNat ∧ s[k].toNat ≤ 90) := rfl
      have hnmN : isNmC s[k] = (decide (65 ≤ s[k].toNat ∧ s[k].toNat ≤ 90) || decide (48 ≤ s[k].toNat ∧ s[k].toNat ≤ 57) || decide (s[k].toNat = 95)) := by
        unfold isNmC isCapC isDigC
        congr 1
        rw [Bool.eq_iff_iff]; simp [← UInt8.toNat_inj]
      have Hmore : Hid (((65 ≤ s[k].toNat ∧ s[k].toNat ≤ 90) ∨ (0 < k ∧ ((48 ≤ s[k].toNat ∧ s[k].toNat ≤ 57) ∨ s[k].toNat = 95))) → GrtAt s.data.toList (k + 1)) := hide (fun h => grt_more (unhide A) (unhide HC) (by
        rw [hcapN, hnmN]
        rcases h with h | ⟨h1, h⟩
        · exact .inl (decide_eq_true h)
        · refine .inr ⟨h1, ?_⟩
          rcases h with h | h
          · simp [h]
          · simp [h]))
      have Hstop : Hid (¬ ((65 ≤ s[k].toNat ∧ s[k].toNat ≤ 90) ∨ (0 < k ∧ ((48 ≤ s[k].toNat ∧ s[k].toNat ≤ 57) ∨ s[k].toNat = 95))) → (nameN s.data.toList : Int) = k) := hide (fun h => by
        rw [grt_stop (unhide A) (unhide HC) (by rw [hcapN]; exact decide_eq_false fun e => h (.inl e)) (by
          rcases Nat.eq_zero_or_pos k with e | e
          · exact .inl e
          · refine .inr ?_
            rw [hnmN]
            simp only [Bool.or_eq_false_iff, decide_eq_false_iff_not]
            exact ⟨⟨fun x => h (.inl x), fun x => h (.inr ⟨e, .inl x⟩)⟩, fun x => h (.inr ⟨e, .inr x⟩)⟩)])
      clear hcapN hnmN
      go_wp2_with fail
      all_goals
        first
          | (go_round
             case rel => exact ⟨k + 1, hlt, by go_num, unhide Hmore (by first | omega | (simp at *; omega))⟩
             case measure => simp [intOf]; omega)
          | (refine ⟨⟨k + 1, hlt, by go_num, unhide Hmore (by first | omega | (simp at *; omega))⟩, ?_⟩; simp [intOf]; omega)
          | (go_ret; exact ⟨by rw [unhide Hstop (by first | omega | (simp at *; omega))]; rfl, rfl⟩)
          | (exfalso; first | omega | (simp at *; omega))
          | trace_state
    · have hke : k = s.size := by omega
      have HE : Hid ((s.size : Int) = (nameN s.data.toList : Int)) := hide (by
        have h1 := unhide A
        rw [hke, Lib.size_eq] at h1
        rw [grt_end h1, Lib.size_eq])
      clear hke
      go_wp2_with fail
      go_ret
      exact ⟨by rw [← unhide HE]; rfl, rfl⟩
end Go.Proofs.YtkikhmleffcajaaGreatDoor

namespace Go.Proofs.YtkikhmleffcajaaGreatDoor
open Go.RowKit Go.Maps

set_option maxHeartbeats 1000000 in
theorem isvar_doc (s : ByteArray) (w : World) (hs : s.size ≤ 1500) :
    Calls Tryz.prog 28 #[.string s] w fun e w' => e = .returned (.bool (isVarN s.data.toList)) ∧ w' = w := by
  have hG := great_any s w hs
  have HD : Hid (isVarN s.data.toList = (!s.toList.isEmpty && decide (s.size ≤ 10) && decide (nameN s.data.toList = s.size))) := hide (by
    unfold isVarN
    rw [Lib.toList_data, ← Lib.size_eq]
    congr 1
    congr 1
    cases s.data.toList <;> rfl)
  generalize nameN s.data.toList = n at hG HD
  cases hb : s.toList.isEmpty with
  | true =>
    have HD2 : Hid (isVarN s.data.toList = false) := hide (by rw [unhide HD, hb]; rfl)
    clear HD
    go_enter Tryz.func28, Tryz.ntmps28
    go_wp2_with (go_at_call 45; refine hG.mono ?_; clear hG; rintro ev w2 ⟨rfl, hw⟩; obtain rfl := hw.symm)
    all_goals
      go_ret
      exact ⟨ret_bool (unhide HD2).symm, rfl⟩
  | false =>
    have HD2 : Hid (isVarN s.data.toList = (decide (s.size ≤ 10) && decide (n = s.size))) := hide (by rw [unhide HD, hb]; rfl)
    clear HD
    go_enter Tryz.func28, Tryz.ntmps28
    go_wp2_with (go_at_call 45; refine hG.mono ?_; clear hG; rintro ev w2 ⟨rfl, hw⟩; obtain rfl := hw.symm)
    all_goals
      go_ret
      exact ⟨ret_bool (by rw [unhide HD2, Bool.eq_iff_iff]; simp at * <;> omega), rfl⟩
end Go.Proofs.YtkikhmleffcajaaGreatDoor

namespace Go.Proofs.YtkikhmleffcajaaGreatDoor
open Go.RowKit Go.Maps

/-- What the document's variable answers. -/
def VarD (ev : Ending) (k : Nat) (r : Option (List UInt8 × Nat)) : Prop := match r with
  | none => ev = .returned (.tuple #[.agg #[.int .u8 0, .string ⟨#[]⟩, .int .i64 0], .int .i64 0])
  | some (n, t) => ∃ u : ByteArray, ev = .returned (.tuple #[.agg #[.int .u8 0, .string u, .int .i64 (k : Int)], .int .i64 ((t : Int) - k)]) ∧ u.data.toList = n
theorem ext_mid (s : ByteArray) (a n : Nat) : (s.extract a (a + n)).data.toList = (s.data.toList.drop a).take n := by
  rw [ByteArray.data_extract, Array.toList_extract, List.extract_eq_take_drop, Nat.add_sub_cancel_left]
/-- Three cells written. -/
theorem set3 {W : World} {b : Nat} {x0 x1 x2 : Value} (h : W.heap[b]? = some (.cells #[x0, x1, x2] 75 (0, 0))) (a0 a1 a2 : Value) :
    (((W.setCell ⟨b, 0, none⟩ a0).setCell ⟨b, 1, none⟩ a1).setCell ⟨b, 2, none⟩ a2).heap[b]? = some (.cells #[a0, a1, a2] 75 (0, 0)) :=
  heap_setCell_same _ _ 2 _ _ _ (heap_setCell_same _ _ 1 _ _ _ (heap_setCell_same _ _ 0 _ _ _ h))
theorem below3 {W W0 : World} {B b : Nat} (h : Below B W0 W) (hb : B ≤ b) (a0 a1 a2 : Value) : Below B W0 (((W.setCell ⟨b, 0, none⟩ a0).setCell ⟨b, 1, none⟩ a1).setCell ⟨b, 2, none⟩ a2) :=
  ((h.setCell (p := ⟨b, 0, none⟩) hb _).setCell (p := ⟨b, 1, none⟩) hb _).setCell (p := ⟨b, 2, none⟩) hb _
theorem end47 {tm : Array Value} {W : World} {b : Nat} {a0 a1 a2 v5 : Value} {R : Ending → World → Prop} (h4 : tm[4]?.getD undef = .pointer (some ⟨b, 0, none⟩)) (h5 : tm[5]?.getD undef = v5) (hc : W.heap[b]? = some (.cells #[a0, a1, a2] 75 (0, 0)))
    (hR : R (.returned (.tuple #[.agg #[a0, a1, a2], v5])) W) : bodyPost Tryz.prog Tryz.f42 R .ret { tmps := tm, defers := [] } W := by
  have c0 : W.cell? ⟨b, 0, none⟩ = some a0 := cell_of_row _ _ 0 _ _ _ hc
  have c1 : W.cell? ⟨b, 1, none⟩ = some a1 := cell_of_row _ _ 1 _ _ _ hc
  have c2 : W.cell? ⟨b, 2, none⟩ = some a2 := cell_of_row _ _ 2 _ _ _ hc
  refine ⟨rfl, _, ?_, hR⟩
  simp only [results, Tryz.results42]
  simp [go_sem, h4, h5, c0, c1, c2]
set_option maxHeartbeats 1000000 in
set_option maxRecDepth 10000 in
theorem var_doc (s : ByteArray) (k : Nat) (w : World) (hk : k < s.size) (hs : s.size ≤ 1500) :
    Calls Tryz.prog 42 #[.string s, .int .i64 (k : Int)] w fun ev w' => VarD ev k (varG s.data.toList k) ∧ Below w.heap.size w w' := by
  obtain ⟨W0, hW0⟩ : ∃ W0, W0 = w.alloc (.cells #[.int .u8 0, .string ⟨#[]⟩, .int .i64 0] 75) := ⟨_, rfl⟩
  have hc0 : W0.heap[w.heap.size]? = some (.cells #[.int .u8 0, .string ⟨#[]⟩, .int .i64 0] 75 (0, 0)) := by rw [hW0]; exact heap_alloc_new _ _
  have hb0 : Below w.heap.size w W0 := by rw [hW0]; exact (Below.refl _ _).alloc (Nat.le_refl _) _
  have HB0 := hide hb0
  have HC0 := hide hc0
  clear hb0 hc0
  by_cases hlt : k + 1 < s.size
  · by_cases hb : s[k + 1].toNat = 123
    · have hG := great_any (s.extract (k + 2) s.size) W0 (by simp; omega)
      rw [ext_list] at hG
      obtain ⟨n, hn⟩ : ∃ n, n = nameN (s.data.toList.drop (k + 2)) := ⟨_, rfl⟩
      have hnl : k + 2 + n ≤ s.size := by
        have := nameN_le (s.data.toList.drop (k + 2)); rw [← hn, List.length_drop, ← Lib.size_eq] at this; omega
      have HV : Hid (varG s.data.toList k = if n = 0 ∨ 10 < n ∨ s.data.toList[k + 2 + n]? ≠ some 125 then none else some ((s.data.toList.drop (k + 2)).take n, k + 2 + n + 1)) := hide (by
        have h1 : (s.data.toList[k + 1]? == some 123) = true := by rw [getA s (k + 1) hlt, beqN]; exact decide_eq_true hb
        unfold varG; simp only [h1, if_true, true_and, ← hn])
      rw [← hn] at hG
      clear hn
      go_enter Tryz.func42, Tryz.ntmps42
      go_upto_region 1 with fail
      rw [← hW0]
      clear hW0
      go_upto_region 6 with (go_at_call 45; refine hG.mono ?_; clear hG; rintro ev w2 ⟨rfl, hw⟩; obtain rfl := hw.symm)
      have q0 : W0.cell? ⟨w.heap.size, 0, none⟩ = some (.int .u8 0) := cell_of_row _ _ 0 _ _ _ (unhide HC0)
      have q1 : W0.cell? ⟨w.heap.size, 1, none⟩ = some (.string ⟨#[]⟩) := cell_of_row _ _ 1 _ _ _ (unhide HC0)
      have q2 : W0.cell? ⟨w.heap.size, 2, none⟩ = some (.int .i64 0) := cell_of_row _ _ 2 _ _ _ (unhide HC0)
      have z0 : W0.frozen? ⟨w.heap.size, 0, none⟩ = false := by simp [World.frozen?, unhide HC0]
      have z1 : W0.frozen? ⟨w.heap.size, 1, none⟩ = false := by simp [World.frozen?, unhide HC0]
      have z2 : W0.frozen? ⟨w.heap.size, 2, none⟩ = false := by simp [World.frozen?, unhide HC0]
      by_cases hn : n = 0
      · have HV2 : Hid (varG s.data.toList k = none) := hide (by rw [unhide HV, if_pos (.inl hn)])
        subst hn
        go_wp2_with fail
        exact end47 rfl rfl (set3 (unhide HC0) _ _ _) ⟨by rw [unhide HV2]; rfl, below3 (unhide HB0) (Nat.le_refl _) _ _ _⟩
      · by_cases h10 : 10 < n
        · have HV2 : Hid (varG s.data.toList k = none) := hide (by rw [unhide HV, if_pos (.inr (.inl h10))])
          go_wp2_with fail
          exact end47 rfl rfl (set3 (unhide HC0) _ _ _) ⟨by rw [unhide HV2]; rfl, below3 (unhide HB0) (Nat.le_refl _) _ _ _⟩
        · by_cases hin : k + 2 + n < s.size
          · by_cases h125 : s[k + 2 + n].toNat = 125
            · have HV2 : Hid (varG s.data.toList k = some ((s.data.toList.drop (k + 2)).take n, k + 2 + n + 1)) := hide (by
                have h1 : s.data.toList[k + 2 + n]? = some 125 := by
                  rw [getA s _ hin]
                  congr 1
                  exact UInt8.toNat_inj.1 h125
                rw [unhide HV, if_neg (by rintro (h | h | h); exact hn h; exact h10 h; exact h h1)])
              obtain ⟨u, hu⟩ : ∃ u, u = s.extract (k + 2) (k + 2 + n) := ⟨_, rfl⟩
              have HU : Hid (u.data.toList = (s.data.toList.drop (k + 2)).take n) := hide (by rw [hu, ext_mid])
              obtain ⟨W1, hW1⟩ : ∃ W1, W1 = W0.alloc (.cells #[.int .u8 0, .string u, .int .i64 (k : Int)] 75) := ⟨_, rfl⟩
              have hb1 : Below W0.heap.size W0 W1 := by rw [hW1]; exact (Below.refl _ _).alloc (Nat.le_refl _) _
              have hn1 : W1.heap[W0.heap.size]? = some (.cells #[.int .u8 0, .string u, .int .i64 (k : Int)] 75 (0, 0)) := by rw [hW1]; exact heap_alloc_new _ _
              have hwl : w.heap.size < W0.heap.size := (Array.getElem?_eq_some_iff.1 (unhide HC0)).1
              have hc1 := (hb1.block w.heap.size hwl).trans (unhide HC0)
              have r0 : W1.cell? ⟨w.heap.size, 0, none⟩ = some (.int .u8 0) := cell_of_row _ _ 0 _ _ _ hc1
              have r1 : W1.cell? ⟨w.heap.size, 1, none⟩ = some (.string ⟨#[]⟩) := cell_of_row _ _ 1 _ _ _ hc1
              have r2 : W1.cell? ⟨w.heap.size, 2, none⟩ = some (.int .i64 0) := cell_of_row _ _ 2 _ _ _ hc1
              have y0 : W1.frozen? ⟨w.heap.size, 0, none⟩ = false := by simp [World.frozen?, hc1]
              have y1 : W1.frozen? ⟨w.heap.size, 1, none⟩ = false := by simp [World.frozen?, hc1]
              have y2 : W1.frozen? ⟨w.heap.size, 2, none⟩ = false := by simp [World.frozen?, hc1]
              have p0 : W1.cell? ⟨W0.heap.size, 0, none⟩ = some (.int .u8 0) := cell_of_row _ _ 0 _ _ _ hn1
              have p1 : W1.cell? ⟨W0.heap.size, 1, none⟩ = some (.string u) := cell_of_row _ _ 1 _ _ _ hn1
              have p2 : W1.cell? ⟨W0.heap.size, 2, none⟩ = some (.int .i64 (k : Int)) := cell_of_row _ _ 2 _ _ _ hn1
              have HC1 := hide hc1
              have HB1 : Hid (Below w.heap.size w W1) := hide ((unhide HB0).trans (hb1.mono (Nat.le_of_lt hwl)))
              have g1 : ((n : Int) == 0) = false := by simp; omega
              have g2 : ¬ (10 : Int) < (n : Int) := by omega
              have g3 : (k : Int) + 2 + n < s.size := by omega
              have g3' : ¬ (s.size : Int) ≤ (k : Int) + 2 + n := by omega
              have g4 : ((s[k + 2 + n].toNat : Int) != 125) = false := by simp; omega
              clear hb1 hn1 hc1 hwl
              go_upto_region 10 with fail
              rw [← hu, ← hW1]
              clear hW1 hu q0 q1 q2 z0 z1 z2
              go_wp2_with fail
              refine end47 rfl rfl (set3 (unhide HC1) _ _ _) ⟨?_, below3 (unhide HB1) (Nat.le_refl _) _ _ _⟩
              rw [unhide HV2]
              refine ⟨u, ?_, unhide HU⟩
              congr 4
            · have HV2 : Hid (varG s.data.toList k = none) := hide (by
                rw [unhide HV, if_pos (.inr (.inr (by
                  rw [getA s _ hin]; intro h; injection h with h; rw [h] at h125; exact h125 rfl)))])
              have g1 : ((n : Int) == 0) = false := by simp; omega
              have g2 : ¬ (10 : Int) < (n : Int) := by omega
              have g3 : (k : Int) + 2 + n < s.size := by omega
              have g3' : ¬ (s.size : Int) ≤ (k : Int) + 2 + n := by omega
              have g4 : ((s[k + 2 + n].toNat : Int) != 125) = true := by simp; omega
              go_wp2_with fail
              exact end47 rfl rfl (set3 (unhide HC0) _ _ _) ⟨by rw [unhide HV2]; rfl, below3 (unhide HB0) (Nat.le_refl _) _ _ _⟩
          · have HV2 : Hid (varG s.data.toList k = none) := hide (by
              rw [unhide HV, if_pos (.inr (.inr (by rw [getZ s _ hin]; simp)))])
            go_wp2_with fail
            exact end47 rfl rfl (set3 (unhide HC0) _ _ _) ⟨by rw [unhide HV2]; rfl, below3 (unhide HB0) (Nat.le_refl _) _ _ _⟩
    · have h1 : (s.data.toList[k + 1]? == some 123) = false := by rw [getA s (k + 1) hlt, beqN]; exact decide_eq_false hb
      have g0 : ((s[k + 1].toNat : Int) == 123) = false := by simp; omega
      have hG := great_any (s.extract (k + 1) s.size) W0 (by simp; omega)
      rw [ext_list] at hG
      obtain ⟨n, hn⟩ : ∃ n, n = nameN (s.data.toList.drop (k + 1)) := ⟨_, rfl⟩
      have hnl : k + 1 + n ≤ s.size := by
        have := nameN_le (s.data.toList.drop (k + 1)); rw [← hn, List.length_drop, ← Lib.size_eq] at this; omega
      have HV : Hid (varG s.data.toList k = if n = 0 ∨ 10 < n then none else some ((s.data.toList.drop (k + 1)).take n, k + 1 + n)) := hide (by
        unfold varG; simp only [h1, Bool.false_eq_true, if_false, false_and, or_false, ← hn])
      rw [← hn] at hG
      clear hn h1
      go_enter Tryz.func42, Tryz.ntmps42
      go_upto_region 1 with fail
      rw [← hW0]
      clear hW0
      go_upto_region 6 with (go_at_call 45; refine hG.mono ?_; clear hG; rintro ev w2 ⟨rfl, hw⟩; obtain rfl := hw.symm)
      have q0 : W0.cell? ⟨w.heap.size, 0, none⟩ = some (.int .u8 0) := cell_of_row _ _ 0 _ _ _ (unhide HC0)
      have q1 : W0.cell? ⟨w.heap.size, 1, none⟩ = some (.string ⟨#[]⟩) := cell_of_row _ _ 1 _ _ _ (unhide HC0)
      have q2 : W0.cell? ⟨w.heap.size, 2, none⟩ = some (.int .i64 0) := cell_of_row _ _ 2 _ _ _ (unhide HC0)
      have z0 : W0.frozen? ⟨w.heap.size, 0, none⟩ = false := by simp [World.frozen?, unhide HC0]
      have z1 : W0.frozen? ⟨w.heap.size, 1, none⟩ = false := by simp [World.frozen?, unhide HC0]
      have z2 : W0.frozen? ⟨w.heap.size, 2, none⟩ = false := by simp [World.frozen?, unhide HC0]
      by_cases hn : n = 0
      · have HV2 : Hid (varG s.data.toList k = none) := hide (by rw [unhide HV, if_pos (.inl hn)])
        subst hn
        go_wp2_with fail
        exact end47 rfl rfl (set3 (unhide HC0) _ _ _) ⟨by rw [unhide HV2]; rfl, below3 (unhide HB0) (Nat.le_refl _) _ _ _⟩
      · by_cases h10 : 10 < n
        · have HV2 : Hid (varG s.data.toList k = none) := hide (by rw [unhide HV, if_pos (.inr h10)])
          go_wp2_with fail
          exact end47 rfl rfl (set3 (unhide HC0) _ _ _) ⟨by rw [unhide HV2]; rfl, below3 (unhide HB0) (Nat.le_refl _) _ _ _⟩
        · have HV2 : Hid (varG s.data.toList k = some ((s.data.toList.drop (k + 1)).take n, k + 1 + n)) := hide (by rw [unhide HV, if_neg (by omega)])
          obtain ⟨u, hu⟩ : ∃ u, u = s.extract (k + 1) (k + 1 + n) := ⟨_, rfl⟩
          have HU : Hid (u.data.toList = (s.data.toList.drop (k + 1)).take n) := hide (by rw [hu, ext_mid])
          obtain ⟨W1, hW1⟩ : ∃ W1, W1 = W0.alloc (.cells #[.int .u8 0, .string u, .int .i64 (k : Int)] 75) := ⟨_, rfl⟩
          have hb1 : Below W0.heap.size W0 W1 := by rw [hW1]; exact (Below.refl _ _).alloc (Nat.le_refl _) _
          have hn1 : W1.heap[W0.heap.size]? = some (.cells #[.int .u8 0, .string u, .int .i64 (k : Int)] 75 (0, 0)) := by rw [hW1]; exact heap_alloc_new _ _
          have hwl : w.heap.size < W0.heap.size := (Array.getElem?_eq_some_iff.1 (unhide HC0)).1
          have hc1 := (hb1.block w.heap.size hwl).trans (unhide HC0)
          have r0 : W1.cell? ⟨w.heap.size, 0, none⟩ = some (.int .u8 0) := cell_of_row _ _ 0 _ _ _ hc1
          have r1 : W1.cell? ⟨w.heap.size, 1, none⟩ = some (.string ⟨#[]⟩) := cell_of_row _ _ 1 _ _ _ hc1
          have r2 : W1.cell? ⟨w.heap.size, 2, none⟩ = some (.int .i64 0) := cell_of_row _ _ 2 _ _ _ hc1
          have y0 : W1.frozen? ⟨w.heap.size, 0, none⟩ = false := by simp [World.frozen?, hc1]
          have y1 : W1.frozen? ⟨w.heap.size, 1, none⟩ = false := by simp [World.frozen?, hc1]
          have y2 : W1.frozen? ⟨w.heap.size, 2, none⟩ = false := by simp [World.frozen?, hc1]
          have p0 : W1.cell? ⟨W0.heap.size, 0, none⟩ = some (.int .u8 0) := cell_of_row _ _ 0 _ _ _ hn1
          have p1 : W1.cell? ⟨W0.heap.size, 1, none⟩ = some (.string u) := cell_of_row _ _ 1 _ _ _ hn1
          have p2 : W1.cell? ⟨W0.heap.size, 2, none⟩ = some (.int .i64 (k : Int)) := cell_of_row _ _ 2 _ _ _ hn1
          have HC1 := hide hc1
          have HB1 : Hid (Below w.heap.size w W1) := hide ((unhide HB0).trans (hb1.mono (Nat.le_of_lt hwl)))
          have g1 : ((n : Int) == 0) = false := by simp; omega
          have g2 : ¬ (10 : Int) < (n : Int) := by omega
          have g3 : (k : Int) + 1 + n ≤ s.size := by omega
          clear hb1 hn1 hc1 hwl
          go_upto_region 10 with fail
          rw [← hu, ← hW1]
          clear hW1 hu q0 q1 q2 z0 z1 z2
          go_wp2_with fail
          refine end47 rfl rfl (set3 (unhide HC1) _ _ _) ⟨?_, below3 (unhide HB1) (Nat.le_refl _) _ _ _⟩
          rw [unhide HV2]
          refine ⟨u, ?_, unhide HU⟩
          congr 4
  · have h1 : (s.data.toList[k + 1]? == some 123) = false := by rw [getZ s (k + 1) hlt]; rfl
    have hge : ¬ ((k : Int) + 1 < s.size) := by omega
    have hG := great_any (s.extract (k + 1) s.size) W0 (by simp; omega)
    rw [ext_list] at hG
    obtain ⟨n, hn⟩ : ∃ n, n = nameN (s.data.toList.drop (k + 1)) := ⟨_, rfl⟩
    have hnl : k + 1 + n ≤ s.size := by
      have := nameN_le (s.data.toList.drop (k + 1)); rw [← hn, List.length_drop, ← Lib.size_eq] at this; omega
    have HV : Hid (varG s.data.toList k = if n = 0 ∨ 10 < n then none else some ((s.data.toList.drop (k + 1)).take n, k + 1 + n)) := hide (by
      unfold varG; simp only [h1, Bool.false_eq_true, if_false, false_and, or_false, ← hn])
    rw [← hn] at hG
    clear hn h1
    go_enter Tryz.func42, Tryz.ntmps42
    go_upto_region 1 with fail
    rw [← hW0]
    clear hW0
    go_upto_region 6 with (go_at_call 45; refine hG.mono ?_; clear hG; rintro ev w2 ⟨rfl, hw⟩; obtain rfl := hw.symm)
    have q0 : W0.cell? ⟨w.heap.size, 0, none⟩ = some (.int .u8 0) := cell_of_row _ _ 0 _ _ _ (unhide HC0)
    have q1 : W0.cell? ⟨w.heap.size, 1, none⟩ = some (.string ⟨#[]⟩) := cell_of_row _ _ 1 _ _ _ (unhide HC0)
    have q2 : W0.cell? ⟨w.heap.size, 2, none⟩ = some (.int .i64 0) := cell_of_row _ _ 2 _ _ _ (unhide HC0)
    have z0 : W0.frozen? ⟨w.heap.size, 0, none⟩ = false := by simp [World.frozen?, unhide HC0]
    have z1 : W0.frozen? ⟨w.heap.size, 1, none⟩ = false := by simp [World.frozen?, unhide HC0]
    have z2 : W0.frozen? ⟨w.heap.size, 2, none⟩ = false := by simp [World.frozen?, unhide HC0]
    by_cases hn : n = 0
    · have HV2 : Hid (varG s.data.toList k = none) := hide (by rw [unhide HV, if_pos (.inl hn)])
      subst hn
      go_wp2_with fail
      exact end47 rfl rfl (set3 (unhide HC0) _ _ _) ⟨by rw [unhide HV2]; rfl, below3 (unhide HB0) (Nat.le_refl _) _ _ _⟩
    · exact absurd (show n = 0 by omega) hn
end Go.Proofs.YtkikhmleffcajaaGreatDoor

namespace Go.Proofs.YtkikhmleffcajaaGreatDoor
open Go.RowKit Go.Maps

/-- A fault of the document's. -/
abbrev fltV (e p : Int) : Value := .agg #[.int .i64 e, .int .i64 p]
theorem set2 {W : World} {b t : Nat} {x0 x1 : Value} (h : W.heap[b]? = some (.cells #[x0, x1] t (0, 0))) (a0 a1 : Value) :
    ((W.setCell ⟨b, 0, none⟩ a0).setCell ⟨b, 1, none⟩ a1).heap[b]? = some (.cells #[a0, a1] t (0, 0)) :=
  heap_setCell_same _ _ 1 _ _ _ (heap_setCell_same _ _ 0 _ _ _ h)
theorem below2 {W W0 : World} {B b : Nat} (h : Below B W0 W) (hb : B ≤ b) (a0 a1 : Value) : Below B W0 ((W.setCell ⟨b, 0, none⟩ a0).setCell ⟨b, 1, none⟩ a1) :=
  (h.setCell (p := ⟨b, 0, none⟩) hb _).setCell (p := ⟨b, 1, none⟩) hb _
set_option maxHeartbeats 1000000 in
theorem fine_any (w : World) : Calls Tryz.prog 15 #[] w fun ev w' => ev = .returned (fltV 0 (-1)) ∧ Below w.heap.size w w' := by
  obtain ⟨W0, hW0⟩ : ∃ W0, W0 = w.alloc (.cells #[.int .i64 0, .int .i64 0] 28) := ⟨_, rfl⟩
  have hb0 : Below w.heap.size w W0 := by rw [hW0]; exact (Below.refl _ _).alloc (Nat.le_refl _) _
  have hc0 : W0.heap[w.heap.size]? = some (.cells #[.int .i64 0, .int .i64 0] 28 (0, 0)) := by rw [hW0]; exact heap_alloc_new _ _
  have q0 : W0.cell? ⟨w.heap.size, 0, none⟩ = some (.int .i64 0) := cell_of_row _ _ 0 _ _ _ hc0
  have q1 : W0.cell? ⟨w.heap.size, 1, none⟩ = some (.int .i64 0) := cell_of_row _ _ 1 _ _ _ hc0
  have z0 : W0.frozen? ⟨w.heap.size, 0, none⟩ = false := by simp [World.frozen?, hc0]
  have z1 : W0.frozen? ⟨w.heap.size, 1, none⟩ = false := by simp [World.frozen?, hc0]
  have HB := hide hb0
  have HC := hide hc0
  clear hb0 hc0
  go_enter Tryz.func15, Tryz.ntmps15
  go_upto_region 1 with fail
  rw [← hW0]
  clear hW0
  go_wp2_with fail
  have hr9 := set2 (unhide HC) (.int .i64 0) (.int .i64 (-1))
  have d0 := cell_of_row _ _ 0 _ _ _ hr9
  have d1 := cell_of_row _ _ 1 _ _ _ hr9
  refine bodyPost_ret (v := fltV 0 (-1)) (by simp [results, Tryz.results15, go_sem, d0, d1]) rfl ⟨rfl, below2 (unhide HB) (Nat.le_refl _) _ _⟩
set_option maxHeartbeats 1000000 in
theorem bad_any (e p : Int) (w : World) : Calls Tryz.prog 9 #[.int .i64 e, .int .i64 p] w fun ev w' => ev = .returned (fltV e p) ∧ Below w.heap.size w w' := by
  obtain ⟨W0, hW0⟩ : ∃ W0, W0 = w.alloc (.cells #[.int .i64 0, .int .i64 0] 28) := ⟨_, rfl⟩
  have hb0 : Below w.heap.size w W0 := by rw [hW0]; exact (Below.refl _ _).alloc (Nat.le_refl _) _
  have hc0 : W0.heap[w.heap.size]? = some (.cells #[.int .i64 0, .int .i64 0] 28 (0, 0)) := by rw [hW0]; exact heap_alloc_new _ _
  have q0 : W0.cell? ⟨w.heap.size, 0, none⟩ = some (.int .i64 0) := cell_of_row _ _ 0 _ _ _ hc0
  have q1 : W0.cell? ⟨w.heap.size, 1, none⟩ = some (.int .i64 0) := cell_of_row _ _ 1 _ _ _ hc0
  have z0 : W0.frozen? ⟨w.heap.size, 0, none⟩ = false := by simp [World.frozen?, hc0]
  have z1 : W0.frozen? ⟨w.heap.size, 1, none⟩ = false := by simp [World.frozen?, hc0]
  have HB := hide hb0
  have HC := hide hc0
  clear hb0 hc0
  go_enter Tryz.func9, Tryz.ntmps9
  go_upto_region 1 with fail
  rw [← hW0]
  clear hW0
  go_wp2_with fail
  have hr9 := set2 (unhide HC) (.int .i64 e) (.int .i64 p)
  have d0 := cell_of_row _ _ 0 _ _ _ hr9
  have d1 := cell_of_row _ _ 1 _ _ _ hr9
  refine bodyPost_ret (v := fltV e p) (by simp [results, Tryz.results9, go_sem, d0, d1]) rfl ⟨rfl, below2 (unhide HB) (Nat.le_refl _) _ _⟩

/-- An atom of the document's in memory. -/
def Atm.cells : Atm → List Value
  | .inl c => [.int .u8 (c.toNat : Int), .string ⟨#[]⟩, .int .i64 0]
  | .inr (n, k) => [.int .u8 0, .string (bt n), .int .i64 (k : Int)]
def atC (l : List Atm) : List Value := (l.map Atm.cells).flatten
theorem atm_len (a : Atm) : a.cells.length = 3 := by cases a <;> rfl
theorem atC_len (l : List Atm) : (atC l).length = l.length * 3 := by
  induction l with
  | nil => rfl
  | cons a r ih => simp only [atC, List.map_cons, List.flatten_cons, List.length_append, List.length_cons] at ih ⊢; rw [ih, atm_len]; omega
theorem atC_snoc (l : List Atm) (a : Atm) : atC (l ++ [a]) = atC l ++ a.cells := by simp [atC]
theorem atC_app (l m : List Atm) : atC (l ++ m) = atC l ++ atC m := by simp [atC]
theorem atm_one (a : Atm) : ∀ u ∈ a.cells, u.oneCell' = true := fun u hu => by
  cases a <;> simp only [Atm.cells, List.mem_cons, List.not_mem_nil, or_false] at hu <;> rcases hu with rfl | rfl | rfl <;> rfl
theorem info76 : (Tryz.prog.info? 75).map (fun i => (i.zero, i.size, i.bytes)) = some (some (.agg #[.int .u8 0, .string ByteArray.empty, .int .i64 0]), 3, 32) := by kernel_rfl
/-- Atoms in memory. -/
abbrev AtR (w : World) (B : Nat) (v : Value) (xs : List Atm) : Prop := w.ownsRow B 75 3 v xs.length (atC xs)
theorem AtR.grow {w1 : World} {B : Nat} {v' : Value} {xs : List Atm} {a : Atm} (hown : w1.ownsRow B 75 3 v' (xs.length + 1) (atC xs ++ a.cells)) : AtR w1 B v' (xs ++ [a]) := by
  unfold AtR; rw [atC_snoc, List.length_append]; exact hown
end Go.Proofs.YtkikhmleffcajaaGreatDoor
