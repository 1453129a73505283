import Derived.Test.YtkeefkfklmhcjaaGreatDoorEntA
namespace Go.Proofs.YtkeefkfklmhcjaaGreatDoor
open Go.RowKit

def entOk (e : Ent) : Bool := e.path.data.toList != [] && isP e.path.data.toList && goodE e

set_option maxHeartbeats 1000000 in
theorem good_any (e : Ent) (hs : e.data.size ≤ 4294967280) (w : World) :
    Calls Tryz.prog 28 #[.agg #[.string e.path, .int .i64 e.kind, .int .i64 e.mode, .string e.data]] w fun ev w' => ev = .returned (.bool (goodE e)) ∧ Below w.heap.size w w' := by
  obtain ⟨path, kind, mode, data⟩ := e
  simp only at hs ⊢
  have HB : ∀ o, Below w.heap.size w (w.alloc o) := fun o => (Below.refl _ _).alloc (Nat.le_refl _) o
  by_cases k1 : kind = 1
  · subst k1
    by_cases hm : modeOk mode = true
    · have hm2 : 0 ≤ mode ∧ mode ≤ 511 := of_decide_eq_true hm
      obtain ⟨m1, m2⟩ := hm2
      by_cases h0 : data.data.toList = []
      · have C : Hid (goodE ⟨path, 1, mode, data⟩ = true) := hide (by simp [goodE, hm, h0])
        have g1 : data.toList.isEmpty = true := by rw [Lib.toList_data, h0]; rfl
        clear h0 hm
        go_enter Tryz.func28, Tryz.ntmps28
        go_wp2
        go_ret
        exact ⟨ret_bool (unhide C).symm, HB _⟩
      · have C : Hid (goodE ⟨path, 1, mode, data⟩ = false) := hide (by simp only [goodE, if_true, beq_eq_false_iff_ne.2 h0, Bool.and_false])
        have g1 : data.toList.isEmpty = false := by rw [Lib.toList_data]; simpa using h0
        clear h0 hm
        go_enter Tryz.func28, Tryz.ntmps28
        go_wp2
        go_ret
        exact ⟨ret_bool (unhide C).symm, HB _⟩
    · have C : Hid (goodE ⟨path, 1, mode, data⟩ = false) := hide (by simp [goodE, hm])
      have hm2 : mode < 0 ∨ (0 ≤ mode ∧ 511 < mode) := by have : ¬ (0 ≤ mode ∧ mode ≤ 511) := fun h => hm (decide_eq_true h); omega
      clear hm
      rcases hm2 with hm | ⟨m1, m2⟩
      all_goals
        go_enter Tryz.func28, Tryz.ntmps28
        go_wp2
        go_ret
        exact ⟨ret_bool (unhide C).symm, HB _⟩
  · by_cases k2 : kind = 2
    · subst k2
      clear k1
      by_cases hm : modeOk mode = true
      · have hm2 : 0 ≤ mode ∧ mode ≤ 511 := of_decide_eq_true hm
        obtain ⟨m1, m2⟩ := hm2
        by_cases h0 : (data.size : Int) ≤ 4096
        · have C : Hid (goodE ⟨path, 2, mode, data⟩ = true) := hide (by simp [goodE, hm]; omega)
          clear hm
          go_enter Tryz.func28, Tryz.ntmps28
          go_wp2
          go_ret
          exact ⟨ret_bool (unhide C).symm, HB _⟩
        · have C : Hid (goodE ⟨path, 2, mode, data⟩ = false) := hide (by simp [goodE]; intro _; omega)
          clear hm
          go_enter Tryz.func28, Tryz.ntmps28
          go_wp2
          go_ret
          exact ⟨ret_bool (unhide C).symm, HB _⟩
      · have C : Hid (goodE ⟨path, 2, mode, data⟩ = false) := hide (by simp [goodE, hm])
        have hm2 : mode < 0 ∨ (0 ≤ mode ∧ 511 < mode) := by have : ¬ (0 ≤ mode ∧ mode ≤ 511) := fun h => hm (decide_eq_true h); omega
        clear hm
        rcases hm2 with hm | ⟨m1, m2⟩
        all_goals
          go_enter Tryz.func28, Tryz.ntmps28
          go_wp2
          go_ret
          exact ⟨ret_bool (unhide C).symm, HB _⟩
    · have hm2 : mode < 0 ∨ (0 ≤ mode ∧ mode ≤ 511) ∨ (0 ≤ mode ∧ 511 < mode) := by omega
      by_cases k3 : kind = 3
      · subst k3
        clear k1 k2
        by_cases hz : mode = 0
        · subst hz
          have C : Hid (goodE ⟨path, 3, 0, data⟩ = tgt data.data.toList) := hide (by simp [goodE])
          clear hm2
          go_enter Tryz.func28, Tryz.ntmps28
          go_wp2_with (go_at_call 54; refine (refTg_any _ _ hs).mono ?_; rintro ev w' ⟨rfl, rfl⟩)
          go_ret
          exact ⟨ret_bool (unhide C).symm, HB _⟩
        · have C : Hid (goodE ⟨path, 3, mode, data⟩ = false) := hide (by simp [goodE, hz])
          rcases hm2 with hm | ⟨m1, m2⟩ | ⟨m1, m2⟩
          all_goals
            go_enter Tryz.func28, Tryz.ntmps28
            go_wp2_with (go_at_call 54; refine (refTg_any _ _ hs).mono ?_; rintro ev w' ⟨rfl, rfl⟩)
            go_ret
            exact ⟨ret_bool (unhide C).symm, HB _⟩
      · have C : Hid (goodE ⟨path, kind, mode, data⟩ = false) := hide (by simp [goodE, k1, k2, k3])
        rcases hm2 with hm | ⟨m1, m2⟩ | ⟨m1, m2⟩
        all_goals
          go_enter Tryz.func28, Tryz.ntmps28
          go_wp2
          go_ret
          exact ⟨ret_bool (unhide C).symm, HB _⟩

set_option maxHeartbeats 1000000 in
theorem isEntry_any (e : Ent) (m : Int) (w : World) (hm : w.cell? ⟨15, 0, none⟩ = some (.int .i64 m)) :
    Calls Tryz.prog 67 #[.agg #[.string e.path, .int .i64 e.kind, .int .i64 e.mode, .string e.data]] w fun ev w' => ev = .returned (.bool (entOk e)) ∧ Below w.heap.size w w' := by
  obtain ⟨path, kind, mode, data⟩ := e
  simp only at ⊢
  have hml := World.block_lt_of_cell? _ _ hm
  have HB : ∀ o, Below w.heap.size w (w.alloc o) := fun o => (Below.refl _ _).alloc (Nat.le_refl _) o
  have HM : Hid (∀ o, (w.alloc o).cell? ⟨15, 0, none⟩ = some (.int .i64 m)) := hide (fun o => cell_later (HB o) hm)
  clear hm
  by_cases p0 : path.data.toList = []
  · have C : Hid (entOk ⟨path, kind, mode, data⟩ = false) := hide (by simp [entOk, p0])
    have g1 : path.toList.isEmpty = true := by rw [Lib.toList_data, p0]; rfl
    clear p0
    go_enter Tryz.func67, Tryz.ntmps67
    go_wp2
    go_ret
    exact ⟨ret_bool (unhide C).symm, HB _⟩
  · have g1 : path.toList.isEmpty = false := by rw [Lib.toList_data]; simpa using p0
    cases hp : isP path.data.toList
    · have C : Hid (entOk ⟨path, kind, mode, data⟩ = false) := hide (by simp [entOk, hp])
      clear p0
      go_enter Tryz.func67, Tryz.ntmps67
      go_wp2_with (go_at_call 100; refine (is_any _ m _ (unhide HM _)).mono ?_; rintro ev w1 ⟨rfl, hb1⟩)
      go_ret
      exact ⟨ret_bool (unhide C).symm, (HB _).trans (hb1.mono (by simp))⟩
    · have CC : Hid (entOk ⟨path, kind, mode, data⟩ = goodE ⟨path, kind, mode, data⟩) := hide (by simp [entOk, hp, p0])
      clear p0
      go_enter Tryz.func67, Tryz.ntmps67
      go_upto_region 3 with (go_at_call 100; refine (is_any _ m _ (unhide HM _)).mono ?_; rintro ev w1 ⟨rfl, hb1⟩)
      have hq := (hb1.block w.heap.size (by simp)).trans (heap_alloc_new _ _)
      have q1 := cell_of_row w1 w.heap.size 1 _ _ _ hq
      have q2 := cell_of_row w1 w.heap.size 2 _ _ _ hq
      have q3 := cell_of_row w1 w.heap.size 3 _ _ _ hq
      simp only [List.getElem?_toArray, List.getElem?_cons_succ, List.getElem?_cons_zero] at q1 q2 q3
      have hB1 : Below w.heap.size w w1 := (HB _).trans (hb1.mono (by simp))
      clear hq hb1 HB HM
      by_cases k1 : kind = 1
      · subst k1
        by_cases h0 : data.data.toList = []
        · have C : Hid (goodE ⟨path, 1, mode, data⟩ = modeOk mode) := hide (by simp [goodE, h0])
          have g2 : data.toList.isEmpty = true := by rw [Lib.toList_data, h0]; rfl
          clear h0
          cases hmo : modeOk mode
          all_goals
            go_wp2_with (go_at_call 101; refine (isMode_any _ _).mono ?_; rintro ev w' ⟨rfl, hw⟩; obtain rfl := hw.symm)
            go_ret
            exact ⟨ret_bool (by rw [unhide CC, unhide C, hmo]), hB1⟩
        · have C : Hid (goodE ⟨path, 1, mode, data⟩ = false) := hide (by simp only [goodE, if_true, beq_eq_false_iff_ne.2 h0, Bool.and_false])
          have g2 : data.toList.isEmpty = false := by rw [Lib.toList_data]; simpa using h0
          clear h0
          cases hmo : modeOk mode
          all_goals
            go_wp2_with (go_at_call 101; refine (isMode_any _ _).mono ?_; rintro ev w' ⟨rfl, hw⟩; obtain rfl := hw.symm)
            go_ret
            exact ⟨ret_bool (by rw [unhide CC, unhide C]), hB1⟩
      · by_cases k2 : kind = 2
        · subst k2
          clear k1
          by_cases h0 : (data.size : Int) ≤ 4096
          · have C : Hid (goodE ⟨path, 2, mode, data⟩ = modeOk mode) := hide (by have : data.size ≤ 4096 := (by omega); simp [goodE, this])
            cases hmo : modeOk mode
            all_goals
              go_wp2_with (go_at_call 101; refine (isMode_any _ _).mono ?_; rintro ev w' ⟨rfl, hw⟩; obtain rfl := hw.symm)
              go_ret
              exact ⟨ret_bool (by rw [unhide CC, unhide C, hmo]), hB1⟩
          · have C : Hid (goodE ⟨path, 2, mode, data⟩ = false) := hide (by simp [goodE]; intro _; omega)
            cases hmo : modeOk mode
            all_goals
              go_wp2_with (go_at_call 101; refine (isMode_any _ _).mono ?_; rintro ev w' ⟨rfl, hw⟩; obtain rfl := hw.symm)
              go_ret
              exact ⟨ret_bool (by rw [unhide CC, unhide C]; try exact decide_eq_false (by omega)), hB1⟩
        · by_cases k3 : kind = 3
          · subst k3
            clear k1 k2
            by_cases hz : mode = 0
            · subst hz
              have C : Hid (goodE ⟨path, 3, 0, data⟩ = tgt data.data.toList) := hide (by simp [goodE])
              go_wp2_with (go_at_call 102; refine (isTg_any _ _).mono ?_; rintro ev w' ⟨rfl, hw⟩; obtain rfl := hw.symm)
              go_ret
              exact ⟨ret_bool (by rw [unhide CC, unhide C]), hB1⟩
            · have C : Hid (goodE ⟨path, 3, mode, data⟩ = false) := hide (by simp [goodE, hz])
              go_wp2
              go_ret
              exact ⟨ret_bool (by rw [unhide CC, unhide C]), hB1⟩
          · have C : Hid (goodE ⟨path, kind, mode, data⟩ = false) := hide (by simp [goodE, k1, k2, k3])
            go_wp2
            go_ret
            exact ⟨ret_bool (by rw [unhide CC, unhide C]), hB1⟩
end Go.Proofs.YtkeefkfklmhcjaaGreatDoor
