import Derived.Test.YtpiponkhhimaoaaGreatDoorStoL
namespace Go.Proofs.YtpiponkhhimaoaaGreatDoor
open Go.RowKit Go.Maps Go.Sort Go.Shelf

/-- May a file be called so? -/
def isN (l : List UInt8) : Bool := match l with
  | x :: y :: r => (x == 98 || x == 99 || x == 116) && y == 47 && isDig r
  | _ => false
theorem isN_of {l : List UInt8} {x : UInt8} (hx : x = 98 ∨ x = 99 ∨ x = 116) (h : Lib.hasPrefix l [x, 47] = true) : isN l = isDig (l.drop 2) := by
  match l, h with
  | a :: b :: r, h =>
    simp [Lib.hasPrefix] at h
    obtain ⟨rfl, rfl⟩ := h
    rcases hx with rfl | rfl | rfl <;> simp [isN]
  | [a], h => simp [Lib.hasPrefix] at h
  | [], h => simp [Lib.hasPrefix] at h
theorem isN_no {l : List UInt8} (h1 : Lib.hasPrefix l [98, 47] = false) (h2 : Lib.hasPrefix l [99, 47] = false) (h3 : Lib.hasPrefix l [116, 47] = false) : isN l = false := by
  match l with
  | a :: b :: r =>
    unfold isN
    cases hy : (b == 47)
    · show ((a == 98 || a == 99 || a == 116) && (b == 47) && isDig r) = false
      rw [hy]; simp
    · have hb : b = 47 := by simpa using hy
      subst hb
      have e1 : (a == 98) = false := by cases h : (a == 98); rfl; exact absurd h1 (by simp [Lib.hasPrefix, (by simpa using h : a = 98)])
      have e2 : (a == 99) = false := by cases h : (a == 99); rfl; exact absurd h2 (by simp [Lib.hasPrefix, (by simpa using h : a = 99)])
      have e3 : (a == 116) = false := by cases h : (a == 116); rfl; exact absurd h3 (by simp [Lib.hasPrefix, (by simpa using h : a = 116)])
      simp [e1, e2, e3]
  | [a] => rfl
  | [] => rfl
set_option maxRecDepth 100000 in
theorem cutP_any (s p : ByteArray) (w : World) (_ : s.size ≤ 1073741824) :
    Calls Tryz.prog 144 #[.string s, .string p] w fun e w' => e = .returned (if Lib.hasPrefix s.data.toList p.data.toList then .tuple #[.string (s.extract p.size s.size), .bool true] else .tuple #[.string s, .bool false]) ∧ w' = w := by
  have hH : Calls Tryz.prog 146 #[.string s, .string p] w fun e w' => e = .returned (.bool (Lib.hasPrefix s.data.toList p.data.toList)) ∧ w' = w := by
    have H := hide (Lib.hasPrefix_raw s p)
    go_enter Tryz.func146, Tryz.ntmps146
    go_wp2
    · go_ret
      exact ⟨ret_bool (by rw [← unhide H]; simp [*]), rfl⟩
    · go_ret
      exact ⟨ret_bool (by rw [← unhide H]; simp [*]), rfl⟩
  have hC : Calls Tryz.prog 177 #[.string s, .string p] w fun e w' => e = .returned (if Lib.hasPrefix s.data.toList p.data.toList then .tuple #[.string (s.extract p.size s.size), .bool true] else .tuple #[.string s, .bool false]) ∧ w' = w := by
    cases hp : Lib.hasPrefix s.data.toList p.data.toList with
    | true =>
      rw [hp] at hH
      have hle : p.size ≤ s.size := by
        have := (List.isPrefixOf_iff_prefix.1 hp).length_le
        rw [← Lib.size_eq, ← Lib.size_eq] at this
        exact this
      have i1 : (p.size : Int) ≤ (s.size : Int) := by omega
      have i0 : (0 : Int) ≤ (p.size : Int) := by omega
      clear hp
      go_enter Tryz.func177, Tryz.ntmps177
      go_wp2_with (go_at_call 146; refine hH.mono ?_; clear hH; rintro ev w1 ⟨rfl, rfl⟩)
      go_ret2
      exact ⟨rfl, rfl⟩
    | false =>
      rw [hp] at hH
      clear hp
      go_enter Tryz.func177, Tryz.ntmps177
      go_wp2_with (go_at_call 146; refine hH.mono ?_; clear hH; rintro ev w1 ⟨rfl, rfl⟩)
      go_ret2
      exact ⟨rfl, rfl⟩
  clear hH
  cases hp : Lib.hasPrefix s.data.toList p.data.toList with
  | true =>
    rw [hp] at hC
    clear hp
    go_enter Tryz.func144, Tryz.ntmps144
    go_wp2_with (go_at_call 177; refine hC.mono ?_; clear hC; rintro ev w1 ⟨rfl, rfl⟩)
    go_ret2
    exact ⟨rfl, rfl⟩
  | false =>
    rw [hp] at hC
    clear hp
    go_enter Tryz.func144, Tryz.ntmps144
    go_wp2_with (go_at_call 177; refine hC.mono ?_; clear hC; rintro ev w1 ⟨rfl, rfl⟩)
    go_ret2
    exact ⟨rfl, rfl⟩
/-- What a name may begin with. -/
def begN (k : Nat) : ByteArray := if k = 0 then ⟨#[98, 47]⟩ else if k = 1 then ⟨#[99, 47]⟩ else ⟨#[116, 47]⟩
theorem take2 (s : ByteArray) : List.take (s.size - 2) (s.data.toList.drop 2) = s.data.toList.drop 2 := List.take_of_length_le (by rw [List.length_drop, ← Lib.size_eq]; omega)
theorem ext2 (s : ByteArray) : (s.extract 2 s.size).data.toList = s.data.toList.drop 2 := by
  rw [← take2 s]
  simp [ByteArray.data_extract]
set_option maxHeartbeats 1000000 in
set_option maxRecDepth 100000 in
theorem isName_any (s : ByteArray) (w : World) (hs : s.size ≤ 1073741824) : Calls Tryz.prog 92 #[.string s] w fun e w' => e = .returned (.bool (isN s.data.toList)) ∧ Below w.heap.size w w' := by
  obtain ⟨W0, hW0⟩ : ∃ W0, W0 = w.alloc (.cells #[.string ⟨#[98, 47]⟩, .string ⟨#[99, 47]⟩, .string ⟨#[116, 47]⟩] 9) := ⟨_, rfl⟩
  have hx0 : W0.heap[w.heap.size]? = some (.cells #[.string ⟨#[98, 47]⟩, .string ⟨#[99, 47]⟩, .string ⟨#[116, 47]⟩] 9 (0, 0)) := by rw [hW0]; exact heap_alloc_new _ _
  have hb0 : Below w.heap.size w W0 := by rw [hW0]; exact (Below.refl _ _).alloc (Nat.le_refl _) _
  have HW := hide hW0
  have x0 : W0.cell? ⟨w.heap.size, 0, none⟩ = some (.string ⟨#[98, 47]⟩) := cell_of_row _ _ 0 _ _ _ hx0
  have x1 : W0.cell? ⟨w.heap.size, 1, none⟩ = some (.string ⟨#[99, 47]⟩) := cell_of_row _ _ 1 _ _ _ hx0
  have x2 : W0.cell? ⟨w.heap.size, 2, none⟩ = some (.string ⟨#[116, 47]⟩) := cell_of_row _ _ 2 _ _ _ hx0
  clear hx0 hW0
  go_enter Tryz.func92, Tryz.ntmps92
  go_wp2
  rw [← unhide HW]
  clear HW
  go_loop [9] (fun i => ∃ k : Nat, k ≤ 3 ∧ i = .int .i64 k ∧ Hid (∀ j, j < k → Lib.hasPrefix s.data.toList (begN j).data.toList = false)) (fun i => 3 - (intOf i).toNat)
  case atStart => exact ⟨0, Nat.zero_le _, rfl, hide (fun j hj => by omega)⟩
  case round =>
    obtain ⟨k, hk, rfl, A⟩ := hrel
    rcases (by omega : k = 0 ∨ k = 1 ∨ k = 2 ∨ k = 3) with rfl | rfl | rfl | rfl
    · have hC := cutP_any s ⟨#[98, 47]⟩ W0 hs
      cases hp : Lib.hasPrefix s.data.toList [98, 47] with
      | true =>
        have B := hide (isN_of (x := 98) (by simp) hp)
        rw [show (⟨#[98, 47]⟩ : ByteArray).data.toList = [98, 47] from rfl, hp] at hC
        clear hp
        go_wp2_with (first | (go_at_call 144; refine hC.mono ?_; clear hC; rintro ev w1 ⟨rfl, rfl⟩) | (go_at_call 145; refine (isDig_any _ _).mono ?_; rintro ev w2 ⟨rfl, rfl⟩))
        go_ret
        exact ⟨by rw [unhide B, take2]; rfl, hb0⟩
      | false =>
        have B : Hid (∀ j, j < 0 + 1 → Lib.hasPrefix s.data.toList (begN j).data.toList = false) := hide (fun j hj => by
          obtain rfl : j = 0 := by omega
          exact hp)
        rw [show (⟨#[98, 47]⟩ : ByteArray).data.toList = [98, 47] from rfl, hp] at hC
        clear hp
        go_wp2_with (go_at_call 144; refine hC.mono ?_; clear hC; rintro ev w1 ⟨rfl, rfl⟩)
        go_round
        case rel => exact ⟨1, by omega, by go_num, B⟩
        case measure => simp [intOf]
    · have hC := cutP_any s ⟨#[99, 47]⟩ W0 hs
      cases hp : Lib.hasPrefix s.data.toList [99, 47] with
      | true =>
        have B := hide (isN_of (x := 99) (by simp) hp)
        rw [show (⟨#[99, 47]⟩ : ByteArray).data.toList = [99, 47] from rfl, hp] at hC
        clear hp
        go_wp2_with (first | (go_at_call 144; refine hC.mono ?_; clear hC; rintro ev w1 ⟨rfl, rfl⟩) | (go_at_call 145; refine (isDig_any _ _).mono ?_; rintro ev w2 ⟨rfl, rfl⟩))
        go_ret
        exact ⟨by rw [unhide B, take2]; rfl, hb0⟩
      | false =>
        have B : Hid (∀ j, j < 2 → Lib.hasPrefix s.data.toList (begN j).data.toList = false) := hide (fun j hj => by
          rcases (by omega : j = 0 ∨ j = 1) with rfl | rfl
          · exact unhide A 0 (by omega)
          · exact hp)
        rw [show (⟨#[99, 47]⟩ : ByteArray).data.toList = [99, 47] from rfl, hp] at hC
        clear hp
        go_wp2_with (go_at_call 144; refine hC.mono ?_; clear hC; rintro ev w1 ⟨rfl, rfl⟩)
        go_round
        case rel => exact ⟨2, by omega, by go_num, B⟩
        case measure => simp [intOf]
    · have hC := cutP_any s ⟨#[116, 47]⟩ W0 hs
      cases hp : Lib.hasPrefix s.data.toList [116, 47] with
      | true =>
        have B := hide (isN_of (x := 116) (by simp) hp)
        rw [show (⟨#[116, 47]⟩ : ByteArray).data.toList = [116, 47] from rfl, hp] at hC
        clear hp
        go_wp2_with (first | (go_at_call 144; refine hC.mono ?_; clear hC; rintro ev w1 ⟨rfl, rfl⟩) | (go_at_call 145; refine (isDig_any _ _).mono ?_; rintro ev w2 ⟨rfl, rfl⟩))
        go_ret
        exact ⟨by rw [unhide B, take2]; rfl, hb0⟩
      | false =>
        have B : Hid (∀ j, j < 3 → Lib.hasPrefix s.data.toList (begN j).data.toList = false) := hide (fun j hj => by
          rcases (by omega : j = 0 ∨ j = 1 ∨ j = 2) with rfl | rfl | rfl
          · exact unhide A 0 (by omega)
          · exact unhide A 1 (by omega)
          · exact hp)
        rw [show (⟨#[116, 47]⟩ : ByteArray).data.toList = [116, 47] from rfl, hp] at hC
        clear hp
        go_wp2_with (go_at_call 144; refine hC.mono ?_; clear hC; rintro ev w1 ⟨rfl, rfl⟩)
        go_round
        case rel => exact ⟨3, by omega, by go_num, B⟩
        case measure => simp [intOf]
    · have B := hide (isN_no (unhide A 0 (by omega)) (unhide A 1 (by omega)) (unhide A 2 (by omega)))
      go_wp2
      go_ret
      exact ⟨by rw [unhide B]; rfl, hb0⟩
end Go.Proofs.YtpiponkhhimaoaaGreatDoor
