import Derived.Test.YtkeefkfklmhcjaaGreatDoorDifP
import Derived.Test.YtkeefkfklmhcjaaGreatDoorEntB
import Derived.Deep.RegionHeld3
namespace Go.Proofs.YtkeefkfklmhcjaaGreatDoor
open Go.RowKit

/-- May a change be, wherever it stands? -/
def chOk (c : Ent) : Bool := if c.kind = 4 ∨ c.kind = 5 then !(decide (c.kind = 4) && c.path.data.toList == []) && isP c.path.data.toList && decide (c.mode = 0) && c.data.data.toList == [] else entOk c
/-- May a change stand right behind another one? -/
def flw (d c : Ent) : Bool := if d.path.data.toList = c.path.data.toList then decide (d.kind = 1) && decide (c.kind = 5) else ltP d.path.data.toList c.path.data.toList && (decide (d.kind = 1 ∨ d.kind = 5) || !Lib.hasPrefix c.path.data.toList (d.path.data.toList ++ [47]))
def okCh (cs : List Ent) (i : Nat) : Bool := match cs[i]? with
  | none => false
  | some c => decide (i < 80) && chOk c && (decide (i = 0) || match cs[i - 1]? with
    | none => false
    | some d => flw d c)
/-- The number of the first change that may not stand where it stands; -1: all may. -/
def FirstBadC (cs : List Ent) (r : Int) : Prop := (r = -1 ∧ ∀ i, i < cs.length → okCh cs i = true) ∨ ∃ i : Nat, r = i ∧ i < cs.length ∧ okCh cs i = false ∧ ∀ j, j < i → okCh cs j = true
theorem firstBadC_one {cs : List Ent} {r s : Int} (h1 : FirstBadC cs r) (h2 : FirstBadC cs s) : r = s := by
  rcases h1 with ⟨rfl, a1⟩ | ⟨i, rfl, a1, a2, a3⟩ <;> rcases h2 with ⟨rfl, b1⟩ | ⟨j, rfl, b1, b2, b3⟩
  · rfl
  · rw [a1 j b1] at b2; cases b2
  · rw [b1 i a1] at a2; cases a2
  · rcases Nat.lt_trichotomy i j with h | h | h
    · rw [b3 i h] at a2; cases a2
    · rw [h]
    · rw [a3 j h] at b2; cases b2
theorem okCh_eq {cs : List Ent} {i : Nat} {c : Ent} (h : cs[i]? = some c) : okCh cs i = (decide (i < 80) && chOk c && (decide (i = 0) || match cs[i - 1]? with
    | none => false
    | some d => flw d c)) := by unfold okCh; rw [h]
theorem beq_nil {l : List UInt8} (h : l ≠ []) : (l == []) = false := by
  cases l with
  | nil => exact absurd rfl h
  | cons _ _ => rfl
theorem isMark_any (c : Ent) (w : World) : Calls Tryz.prog 128 #[.agg #[.string c.path, .int .i64 c.kind, .int .i64 c.mode, .string c.data]] w fun ev w' => ev = .returned (.bool (decide (c.kind = 4 ∨ c.kind = 5))) ∧ Below w.heap.size w w' := by
  by_cases h4 : c.kind = 4
  · have C : Hid (decide (c.kind = 4 ∨ c.kind = 5) = true) := hide (by simp [h4])
    go_enter Tryz.func128, Tryz.ntmps128
    go_wp2
    go_ret
    exact ⟨ret_bool (unhide C).symm, (Below.refl _ _).alloc (Nat.le_refl _) _⟩
  · by_cases h5 : c.kind = 5
    · have C : Hid (decide (c.kind = 4 ∨ c.kind = 5) = true) := hide (by simp [h5])
      have h4' : (c.kind == 4) = false := by simp [h4]
      go_enter Tryz.func128, Tryz.ntmps128
      go_wp2
      go_ret
      exact ⟨ret_bool (unhide C).symm, (Below.refl _ _).alloc (Nat.le_refl _) _⟩
    · have C : Hid (decide (c.kind = 4 ∨ c.kind = 5) = false) := hide (by simp [h4, h5])
      have h4' : (c.kind == 4) = false := by simp [h4]
      have h5' : (c.kind == 5) = false := by simp [h5]
      go_enter Tryz.func128, Tryz.ntmps128
      go_wp2
      go_ret
      exact ⟨ret_bool (unhide C).symm, (Below.refl _ _).alloc (Nat.le_refl _) _⟩
theorem mayHold_any (c : Ent) (w : World) : Calls Tryz.prog 152 #[.agg #[.string c.path, .int .i64 c.kind, .int .i64 c.mode, .string c.data]] w fun ev w' => ev = .returned (.bool (decide (c.kind = 1 ∨ c.kind = 5))) ∧ Below w.heap.size w w' := by
  by_cases h4 : c.kind = 1
  · have C : Hid (decide (c.kind = 1 ∨ c.kind = 5) = true) := hide (by simp [h4])
    go_enter Tryz.func152, Tryz.ntmps152
    go_wp2
    go_ret
    exact ⟨ret_bool (unhide C).symm, (Below.refl _ _).alloc (Nat.le_refl _) _⟩
  · by_cases h5 : c.kind = 5
    · have C : Hid (decide (c.kind = 1 ∨ c.kind = 5) = true) := hide (by simp [h5])
      have h4' : (c.kind == 1) = false := by simp [h4]
      go_enter Tryz.func152, Tryz.ntmps152
      go_wp2
      go_ret
      exact ⟨ret_bool (unhide C).symm, (Below.refl _ _).alloc (Nat.le_refl _) _⟩
    · have C : Hid (decide (c.kind = 1 ∨ c.kind = 5) = false) := hide (by simp [h4, h5])
      have h4' : (c.kind == 1) = false := by simp [h4]
      have h5' : (c.kind == 5) = false := by simp [h5]
      go_enter Tryz.func152, Tryz.ntmps152
      go_wp2
      go_ret
      exact ⟨ret_bool (unhide C).symm, (Below.refl _ _).alloc (Nat.le_refl _) _⟩
theorem isBelow_any (s t : ByteArray) (w : World) (ht : t.size ≤ 1073741824) : Calls Tryz.prog 153 #[.string s, .string t] w fun ev w' => ev = .returned (.bool (Lib.hasPrefix s.data.toList (t.data.toList ++ [47]))) ∧ w' = w := by
  have hP := hasPrefix_any s (t ++ ⟨#[47]⟩) w
  have e : (t ++ ⟨#[47]⟩ : ByteArray).data.toList = t.data.toList ++ [47] := by rw [data_append]
  rw [e] at hP
  have n1 : ¬ 9223372036854775807 < t.size + 1 := by omega
  clear e
  go_enter Tryz.func153, Tryz.ntmps153
  go_wp2_with (go_at_call 163; refine hP.mono ?_; clear hP; rintro ev w1 ⟨rfl, hw⟩; obtain rfl := hw.symm)
  go_ret
  exact ⟨rfl, rfl⟩
set_option maxHeartbeats 1000000 in
theorem isChange_any (c : Ent) (m : Int) (w : World) (hm : w.cell? ⟨15, 0, none⟩ = some (.int .i64 m)) : Calls Tryz.prog 151 #[.agg #[.string c.path, .int .i64 c.kind, .int .i64 c.mode, .string c.data]] w fun ev w' => ev = .returned (.bool (chOk c)) ∧ Below w.heap.size w w' := by
  obtain ⟨W0, hW0⟩ : ∃ W0, W0 = w.alloc (.cells #[.string c.path, .int .i64 c.kind, .int .i64 c.mode, .string c.data] 39) := ⟨_, rfl⟩
  have hb0 : Below w.heap.size w W0 := by rw [hW0]; exact (Below.refl _ _).alloc (Nat.le_refl _) _
  have hq0 : W0.heap[w.heap.size]? = some (.cells #[.string c.path, .int .i64 c.kind, .int .i64 c.mode, .string c.data] 39 (0, 0)) := by rw [hW0]; exact heap_alloc_new _ _
  have hMk := isMark_any c W0
  have HW0 := hide hW0
  have HQ := hide hq0
  have HM := hide hm
  clear hW0 hm
  by_cases hk : c.kind = 4 ∨ c.kind = 5
  · rw [decide_eq_true hk] at hMk
    have HC : Hid (chOk c = (!(decide (c.kind = 4) && c.path.data.toList == []) && isP c.path.data.toList && decide (c.mode = 0) && c.data.data.toList == [])) := hide (by rw [chOk, if_pos hk])
    clear hk hq0
    go_enter Tryz.func151, Tryz.ntmps151
    go_upto_region 3 with (go_at_call 128; rw [← unhide HW0]; refine hMk.mono ?_; clear hMk; rintro ev w1 ⟨rfl, hb1⟩)
    have hB1 : Below w.heap.size w w1 := hb0.trans (hb1.mono hb0.size)
    have hq1 := (hb1.block w.heap.size (Array.getElem?_eq_some_iff.1 (unhide HQ)).1).trans (unhide HQ)
    have q0 : w1.cell? ⟨w.heap.size, 0, none⟩ = some (.string c.path) := cell_of_row _ _ 0 _ _ _ hq1
    have q1 : w1.cell? ⟨w.heap.size, 1, none⟩ = some (.int .i64 c.kind) := cell_of_row _ _ 1 _ _ _ hq1
    have q2 : w1.cell? ⟨w.heap.size, 2, none⟩ = some (.int .i64 c.mode) := cell_of_row _ _ 2 _ _ _ hq1
    have q3 : w1.cell? ⟨w.heap.size, 3, none⟩ = some (.string c.data) := cell_of_row _ _ 3 _ _ _ hq1
    have HQ1 := hide hq1
    have hIs := is_any c.path m w1 (cell_later hB1 (unhide HM))
    clear hq1 hb1
    by_cases hg : c.kind = 4 ∧ c.path.data.toList = []
    · have R : Hid (chOk c = false) := hide (by rw [unhide HC]; simp [hg.1, hg.2])
      have g4 := hg.1
      have g1 : c.path.toList.isEmpty = true := by rw [Lib.toList_data, hg.2]; rfl
      rw [g4] at q1
      clear hg g4
      go_wp2_with fail
      go_ret
      exact ⟨ret_bool (unhide R).symm, hB1⟩
    · have R0 : Hid (chOk c = (isP c.path.data.toList && decide (c.mode = 0) && c.data.data.toList == [])) := hide (by
        rw [unhide HC]
        have : (decide (c.kind = 4) && c.path.data.toList == []) = false := by
          by_cases h4 : c.kind = 4
          · have : c.path.data.toList ≠ [] := fun e => hg ⟨h4, e⟩
            rw [beq_nil this, Bool.and_false]
          · simp [h4]
        rw [this]; rfl)
      have HG := hide hg
      clear hg HC
      by_cases h4 : c.kind = 4
      · have hpe : c.path.data.toList ≠ [] := fun e => unhide HG ⟨h4, e⟩
        have g1 : c.path.toList.isEmpty = false := by rw [Lib.toList_data]; simpa using hpe
        rw [h4] at q1
        clear hpe h4
        cases hP : isP c.path.data.toList
        · have R : Hid (chOk c = false) := hide (by rw [unhide R0, hP]; rfl)
          rw [hP] at hIs
          go_wp2_with (go_at_call 100; refine hIs.mono ?_; clear hIs; rintro ev w2 ⟨rfl, hb2⟩)
          go_ret
          exact ⟨ret_bool (unhide R).symm, hB1.trans (hb2.mono hB1.size)⟩
        · rw [hP] at hIs
          by_cases hmd : c.mode = 0
          · by_cases hdt : c.data.data.toList = []
            · have R : Hid (chOk c = true) := hide (by rw [unhide R0, hP, hmd, hdt]; rfl)
              have g2 : c.data.toList.isEmpty = true := by rw [Lib.toList_data, hdt]; rfl
              rw [hmd] at q2
              clear hdt hmd
              go_wp2_with (go_at_call 100; refine hIs.mono ?_; clear hIs; rintro ev w2 ⟨rfl, hb2⟩; have q2 := cell_later hb2 q2; have q3 := cell_later hb2 q3)
              go_ret
              exact ⟨ret_bool (unhide R).symm, hB1.trans (hb2.mono hB1.size)⟩
            · have R : Hid (chOk c = false) := hide (by rw [unhide R0, beq_nil hdt, Bool.and_false])
              have g2 : c.data.toList.isEmpty = false := by rw [Lib.toList_data]; simpa using hdt
              rw [hmd] at q2
              clear hdt hmd
              go_wp2_with (go_at_call 100; refine hIs.mono ?_; clear hIs; rintro ev w2 ⟨rfl, hb2⟩; have q2 := cell_later hb2 q2; have q3 := cell_later hb2 q3)
              go_ret
              exact ⟨ret_bool (unhide R).symm, hB1.trans (hb2.mono hB1.size)⟩
          · have R : Hid (chOk c = false) := hide (by rw [unhide R0, hP]; simp [hmd])
            have hmd' : (c.mode == 0) = false := by simp [hmd]
            go_wp2_with (go_at_call 100; refine hIs.mono ?_; clear hIs; rintro ev w2 ⟨rfl, hb2⟩; have q2 := cell_later hb2 q2; have q3 := cell_later hb2 q3)
            go_ret
            exact ⟨ret_bool (unhide R).symm, hB1.trans (hb2.mono hB1.size)⟩
      · have h4' : (c.kind == 4) = false := by simp [h4]
        cases hP : isP c.path.data.toList
        · have R : Hid (chOk c = false) := hide (by rw [unhide R0, hP]; rfl)
          rw [hP] at hIs
          go_wp2_with (go_at_call 100; refine hIs.mono ?_; clear hIs; rintro ev w2 ⟨rfl, hb2⟩)
          go_ret
          exact ⟨ret_bool (unhide R).symm, hB1.trans (hb2.mono hB1.size)⟩
        · rw [hP] at hIs
          by_cases hmd : c.mode = 0
          · by_cases hdt : c.data.data.toList = []
            · have R : Hid (chOk c = true) := hide (by rw [unhide R0, hP, hmd, hdt]; rfl)
              have g2 : c.data.toList.isEmpty = true := by rw [Lib.toList_data, hdt]; rfl
              rw [hmd] at q2
              clear hdt hmd
              go_wp2_with (go_at_call 100; refine hIs.mono ?_; clear hIs; rintro ev w2 ⟨rfl, hb2⟩; have q2 := cell_later hb2 q2; have q3 := cell_later hb2 q3)
              go_ret
              exact ⟨ret_bool (unhide R).symm, hB1.trans (hb2.mono hB1.size)⟩
            · have R : Hid (chOk c = false) := hide (by rw [unhide R0, beq_nil hdt, Bool.and_false])
              have g2 : c.data.toList.isEmpty = false := by rw [Lib.toList_data]; simpa using hdt
              rw [hmd] at q2
              clear hdt hmd
              go_wp2_with (go_at_call 100; refine hIs.mono ?_; clear hIs; rintro ev w2 ⟨rfl, hb2⟩; have q2 := cell_later hb2 q2; have q3 := cell_later hb2 q3)
              go_ret
              exact ⟨ret_bool (unhide R).symm, hB1.trans (hb2.mono hB1.size)⟩
          · have R : Hid (chOk c = false) := hide (by rw [unhide R0, hP]; simp [hmd])
            have hmd' : (c.mode == 0) = false := by simp [hmd]
            go_wp2_with (go_at_call 100; refine hIs.mono ?_; clear hIs; rintro ev w2 ⟨rfl, hb2⟩; have q2 := cell_later hb2 q2; have q3 := cell_later hb2 q3)
            go_ret
            exact ⟨ret_bool (unhide R).symm, hB1.trans (hb2.mono hB1.size)⟩
  · rw [decide_eq_false hk] at hMk
    have HC : Hid (chOk c = entOk c) := hide (by rw [chOk, if_neg hk])
    clear hk hq0
    go_enter Tryz.func151, Tryz.ntmps151
    go_wp2_with (first
      | (go_at_call 128; rw [← unhide HW0]; refine hMk.mono ?_; clear hMk; rintro ev w1 ⟨rfl, hb1⟩; have hB1 : Below w.heap.size w w1 := (hb0.trans (hb1.mono hb0.size)); have hq1 := (hb1.block w.heap.size (Array.getElem?_eq_some_iff.1 (unhide HQ)).1).trans (unhide HQ); have q0 : w1.cell? ⟨w.heap.size, 0, none⟩ = some (.string c.path) := cell_of_row _ _ 0 _ _ _ hq1; have q1 : w1.cell? ⟨w.heap.size, 1, none⟩ = some (.int .i64 c.kind) := cell_of_row _ _ 1 _ _ _ hq1; have q2 : w1.cell? ⟨w.heap.size, 2, none⟩ = some (.int .i64 c.mode) := cell_of_row _ _ 2 _ _ _ hq1; have q3 : w1.cell? ⟨w.heap.size, 3, none⟩ = some (.string c.data) := cell_of_row _ _ 3 _ _ _ hq1; clear hq1)
      | (go_at_call 67; refine (isEntry_any c m w1 (cell_later hB1 (unhide HM))).mono ?_; rintro ev w2 ⟨rfl, hb2⟩))
    go_ret
    exact ⟨ret_bool (unhide HC).symm, hB1.trans (hb2.mono hB1.size)⟩
end Go.Proofs.YtkeefkfklmhcjaaGreatDoor
