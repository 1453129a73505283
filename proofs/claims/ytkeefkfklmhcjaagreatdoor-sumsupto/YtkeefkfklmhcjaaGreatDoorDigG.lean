import Derived.Test.YtkeefkfklmhcjaaGreatDoorDigF
namespace Go.Proofs.YtkeefkfklmhcjaaGreatDoor
open Go.RowKit

/-- A digit; so many digits of a word; of so many words. -/
def hexd (d : Nat) : UInt8 := if d < 10 then UInt8.ofNat (48 + d) else UInt8.ofNat (87 + d)
def hexW (x k : Nat) : List UInt8 := (List.range k).map fun i => hexd (x / 2 ^ (28 - 4 * i) % 16)
def hexs (v : List Nat) (k : Nat) : List UInt8 := ((v.take k).map fun x => hexW x 8).flatten
theorem hexW_succ (x k : Nat) : hexW x (k + 1) = hexW x k ++ [hexd (x / 2 ^ (28 - 4 * k) % 16)] := by simp [hexW, List.range_succ]
theorem hexW_len (x k : Nat) : (hexW x k).length = k := by simp [hexW]
theorem hexs_succ (v : List Nat) (k : Nat) (h : k < v.length) : hexs v (k + 1) = hexs v k ++ hexW (v.getD k 0) 8 := by
  have e : v[k]? = some (v.getD k 0) := by simp [List.getD_eq_getElem?_getD, h]
  rw [hexs, List.take_add_one, e]; simp [hexs]
theorem hexs_len (v : List Nat) (k : Nat) (h : k ≤ v.length) : (hexs v k).length = 8 * k := by
  induction k with
  | zero => simp [hexs]
  | succ k ih => rw [hexs_succ v k (by omega), List.length_append, ih (by omega), hexW_len]; omega
theorem hix0 (w : World) : (Instr.index 9 (.string ⟨#[48, 49, 50, 51, 52, 53, 54, 55, 56, 57, 97, 98, 99, 100, 101, 102]⟩) (.int .u32 0)).run Tryz.prog w = .ok (.int .u8 48) w := by kernel_rfl
theorem hix1 (w : World) : (Instr.index 9 (.string ⟨#[48, 49, 50, 51, 52, 53, 54, 55, 56, 57, 97, 98, 99, 100, 101, 102]⟩) (.int .u32 1)).run Tryz.prog w = .ok (.int .u8 49) w := by kernel_rfl
theorem hix2 (w : World) : (Instr.index 9 (.string ⟨#[48, 49, 50, 51, 52, 53, 54, 55, 56, 57, 97, 98, 99, 100, 101, 102]⟩) (.int .u32 2)).run Tryz.prog w = .ok (.int .u8 50) w := by kernel_rfl
theorem hix3 (w : World) : (Instr.index 9 (.string ⟨#[48, 49, 50, 51, 52, 53, 54, 55, 56, 57, 97, 98, 99, 100, 101, 102]⟩) (.int .u32 3)).run Tryz.prog w = .ok (.int .u8 51) w := by kernel_rfl
theorem hix4 (w : World) : (Instr.index 9 (.string ⟨#[48, 49, 50, 51, 52, 53, 54, 55, 56, 57, 97, 98, 99, 100, 101, 102]⟩) (.int .u32 4)).run Tryz.prog w = .ok (.int .u8 52) w := by kernel_rfl
theorem hix5 (w : World) : (Instr.index 9 (.string ⟨#[48, 49, 50, 51, 52, 53, 54, 55, 56, 57, 97, 98, 99, 100, 101, 102]⟩) (.int .u32 5)).run Tryz.prog w = .ok (.int .u8 53) w := by kernel_rfl
theorem hix6 (w : World) : (Instr.index 9 (.string ⟨#[48, 49, 50, 51, 52, 53, 54, 55, 56, 57, 97, 98, 99, 100, 101, 102]⟩) (.int .u32 6)).run Tryz.prog w = .ok (.int .u8 54) w := by kernel_rfl
theorem hix7 (w : World) : (Instr.index 9 (.string ⟨#[48, 49, 50, 51, 52, 53, 54, 55, 56, 57, 97, 98, 99, 100, 101, 102]⟩) (.int .u32 7)).run Tryz.prog w = .ok (.int .u8 55) w := by kernel_rfl
theorem hix8 (w : World) : (Instr.index 9 (.string ⟨#[48, 49, 50, 51, 52, 53, 54, 55, 56, 57, 97, 98, 99, 100, 101, 102]⟩) (.int .u32 8)).run Tryz.prog w = .ok (.int .u8 56) w := by kernel_rfl
theorem hix9 (w : World) : (Instr.index 9 (.string ⟨#[48, 49, 50, 51, 52, 53, 54, 55, 56, 57, 97, 98, 99, 100, 101, 102]⟩) (.int .u32 9)).run Tryz.prog w = .ok (.int .u8 57) w := by kernel_rfl
theorem hix10 (w : World) : (Instr.index 9 (.string ⟨#[48, 49, 50, 51, 52, 53, 54, 55, 56, 57, 97, 98, 99, 100, 101, 102]⟩) (.int .u32 10)).run Tryz.prog w = .ok (.int .u8 97) w := by kernel_rfl
theorem hix11 (w : World) : (Instr.index 9 (.string ⟨#[48, 49, 50, 51, 52, 53, 54, 55, 56, 57, 97, 98, 99, 100, 101, 102]⟩) (.int .u32 11)).run Tryz.prog w = .ok (.int .u8 98) w := by kernel_rfl
theorem hix12 (w : World) : (Instr.index 9 (.string ⟨#[48, 49, 50, 51, 52, 53, 54, 55, 56, 57, 97, 98, 99, 100, 101, 102]⟩) (.int .u32 12)).run Tryz.prog w = .ok (.int .u8 99) w := by kernel_rfl
theorem hix13 (w : World) : (Instr.index 9 (.string ⟨#[48, 49, 50, 51, 52, 53, 54, 55, 56, 57, 97, 98, 99, 100, 101, 102]⟩) (.int .u32 13)).run Tryz.prog w = .ok (.int .u8 100) w := by kernel_rfl
theorem hix14 (w : World) : (Instr.index 9 (.string ⟨#[48, 49, 50, 51, 52, 53, 54, 55, 56, 57, 97, 98, 99, 100, 101, 102]⟩) (.int .u32 14)).run Tryz.prog w = .ok (.int .u8 101) w := by kernel_rfl
theorem hix15 (w : World) : (Instr.index 9 (.string ⟨#[48, 49, 50, 51, 52, 53, 54, 55, 56, 57, 97, 98, 99, 100, 101, 102]⟩) (.int .u32 15)).run Tryz.prog w = .ok (.int .u8 102) w := by kernel_rfl
theorem hix (d : Nat) (hd : d < 16) (w : World) : (Instr.index 9 (.string ⟨#[48, 49, 50, 51, 52, 53, 54, 55, 56, 57, 97, 98, 99, 100, 101, 102]⟩) (.int .u32 (d : Int))).run Tryz.prog w = .ok (.int .u8 ((hexd d).toNat : Int)) w := by
  have h : d = 0 ∨ d = 1 ∨ d = 2 ∨ d = 3 ∨ d = 4 ∨ d = 5 ∨ d = 6 ∨ d = 7 ∨ d = 8 ∨ d = 9 ∨ d = 10 ∨ d = 11 ∨ d = 12 ∨ d = 13 ∨ d = 14 ∨ d = 15 := by omega
  rcases h with rfl | rfl | rfl | rfl | rfl | rfl | rfl | rfl | rfl | rfl | rfl | rfl | rfl | rfl | rfl | rfl
  · exact hix0 w
  · exact hix1 w
  · exact hix2 w
  · exact hix3 w
  · exact hix4 w
  · exact hix5 w
  · exact hix6 w
  · exact hix7 w
  · exact hix8 w
  · exact hix9 w
  · exact hix10 w
  · exact hix11 w
  · exact hix12 w
  · exact hix13 w
  · exact hix14 w
  · exact hix15 w
theorem vix0 (v : St) (w : World) : (Instr.index 142 (.agg v.arr) (.int .i64 0)).run Tryz.prog w = .ok (.int .u32 (v.a : Int)) w := by kernel_rfl
theorem vix1 (v : St) (w : World) : (Instr.index 142 (.agg v.arr) (.int .i64 1)).run Tryz.prog w = .ok (.int .u32 (v.b : Int)) w := by kernel_rfl
theorem vix2 (v : St) (w : World) : (Instr.index 142 (.agg v.arr) (.int .i64 2)).run Tryz.prog w = .ok (.int .u32 (v.c : Int)) w := by kernel_rfl
theorem vix3 (v : St) (w : World) : (Instr.index 142 (.agg v.arr) (.int .i64 3)).run Tryz.prog w = .ok (.int .u32 (v.d : Int)) w := by kernel_rfl
theorem vix4 (v : St) (w : World) : (Instr.index 142 (.agg v.arr) (.int .i64 4)).run Tryz.prog w = .ok (.int .u32 (v.e : Int)) w := by kernel_rfl
theorem vix5 (v : St) (w : World) : (Instr.index 142 (.agg v.arr) (.int .i64 5)).run Tryz.prog w = .ok (.int .u32 (v.f : Int)) w := by kernel_rfl
theorem vix6 (v : St) (w : World) : (Instr.index 142 (.agg v.arr) (.int .i64 6)).run Tryz.prog w = .ok (.int .u32 (v.g : Int)) w := by kernel_rfl
theorem vix7 (v : St) (w : World) : (Instr.index 142 (.agg v.arr) (.int .i64 7)).run Tryz.prog w = .ok (.int .u32 (v.q : Int)) w := by kernel_rfl
theorem vix (v : St) (k : Nat) (hk : k < 8) (w : World) : (Instr.index 142 (.agg v.arr) (.int .i64 (k : Int))).run Tryz.prog w = .ok (.int .u32 ((v.list.getD k 0 : Nat) : Int)) w := by
  have h : k = 0 ∨ k = 1 ∨ k = 2 ∨ k = 3 ∨ k = 4 ∨ k = 5 ∨ k = 6 ∨ k = 7 := by omega
  rcases h with rfl | rfl | rfl | rfl | rfl | rfl | rfl | rfl
  · exact vix0 v w
  · exact vix1 v w
  · exact vix2 v w
  · exact vix3 v w
  · exact vix4 v w
  · exact vix5 v w
  · exact vix6 v w
  · exact vix7 v w
theorem and15 (x D : Nat) (hx : x < 4294967296) : bits .and .u32 (((x / D : Nat) : Nat) : Int) 15 = ((x / D % 16 : Nat) : Int) := by
  have := u32_and_nat (x / D) 15 (div_lt hx) (by decide)
  rw [nat_mask4] at this
  exact this
theorem list_lt {v : St} (h : v.ok) (k : Nat) : v.list.getD k 0 < 4294967296 := by
  obtain ⟨h1, h2, h3, h4, h5, h6, h7, h8⟩ := h
  match k with
  | 0 => exact h1
  | 1 => exact h2
  | 2 => exact h3
  | 3 => exact h4
  | 4 => exact h5
  | 5 => exact h6
  | 6 => exact h7
  | 7 => exact h8
  | n + 8 => simp [St.list]

set_option maxHeartbeats 1000000 in
set_option maxRecDepth 100000 in
theorem hex_any (v : St) (hv : v.ok) (w : World) :
    Calls Tryz.prog 110 #[.agg v.arr] w fun ev w' => ev = .returned (.string ⟨(hexs v.list 8).toArray⟩) ∧ Below w.heap.size w w' := by
  have hin8 : (Tryz.prog.info? 142).map (·.size) = some v.arr.size := info88
  go_enter Tryz.func110, Tryz.ntmps110
  go_wp2_with (first
    | (refine wpList_load_row rfl 142 (.tmp 1) rfl w.heap.size rfl 142 v.arr (0, 0) _ (heap_alloc2_old _ _ _) Tryz.underlying142 rfl hin8 ?_))
  generalize hW0 : (w.alloc _).alloc _ = W0
  have hb0 : Bld (w.heap.size + 1) (w.heap.size + 1) [] W0 := by
    rw [← hW0]
    have := bld_new (w.alloc (.cells v.arr 142))
    simpa using this
  have hB0 : Below w.heap.size w W0 := by rw [← hW0]; exact ((Below.refl _ _).alloc (Nat.le_refl _) _).alloc (by simp) _
  clear hW0
  go_loopw [8] (fun i wr => ∃ k : Nat, k ≤ 8 ∧ i = .int .i64 k ∧ Bld (w.heap.size + 1) (w.heap.size + 1) (hexs v.list k) wr ∧ Below w.heap.size w wr) (fun i _ => 8 - (intOf i).toNat)
  case atStart => exact ⟨0, by omega, rfl, hb0, hB0⟩
  case round =>
    obtain ⟨k, hk, rfl, hbr, hbl⟩ := hrel
    by_cases hlt : k < 8
    · have hvi := vix v k hlt
      have hk9 : decide ((k : Int) < 8) = true := decide_eq_true (by omega)
      have hx := list_lt hv k
      have HS := hide (hexs_succ v.list k hlt)
      have HL := hide (hexs_len v.list k hk)
      generalize v.list.getD k 0 = x at *
      go_wp2_with fail
      generalize hW1 : wr = W1 at *
      clear hW1
      go_loopw [6] (fun i wr => ∃ j : Nat, j ≤ 8 ∧ i = .int .i64 (28 - 4 * (j : Int)) ∧ Bld (w.heap.size + 1) (w.heap.size + 1) (hexs v.list k ++ hexW x j) wr ∧ Below w.heap.size w wr) (fun i _ => (intOf i + 4).toNat)
      case atStart => exact ⟨0, by omega, rfl, by simpa [hexW] using hbr, hbl⟩
      case round =>
        obtain ⟨j, hj, rfl, hbr2, hbl2⟩ := hrel
        by_cases hjl : j < 8
        · match j, hjl, hbr2 with
          | 0, _, hbr2 =>
            have h15 := and15 x 268435456 hx
            have hsm : x / 268435456 % 16 < 16 := Nat.mod_lt _ (by decide)
            have hst := hix (x / 268435456 % 16) hsm
            have HW := hide (hexW_succ x 0)
            obtain ⟨d, hd⟩ : ∃ d, d = x / 268435456 % 16 := ⟨_, rfl⟩
            rw [← hd] at h15 hst hsm
            have HD := hide hd
            have hcast : (x : Int) / 268435456 = ((x / 268435456 : Nat) : Int) := by omega
            rw [← hcast] at h15
            clear hd hcast
            go_wp2_with (go_at_call 141; refine (wb _ _ _ _ (hexd d) _ hbr2 rfl ?_).mono ?_; (rw [List.length_append, unhide HL, hexW_len]; omega); rintro ev w5 ⟨rfl, hb5, hl5⟩; rw [List.append_assoc, unhide HD] at hb5)
            have hb6 : Bld (w.heap.size + 1) (w.heap.size + 1) (hexs v.list k ++ hexW x 1) w5 := by rw [unhide HW]; exact hb5
            go_roundw
            case rel => first
              | exact ⟨1, by omega, by go_num, hb6, hbl2.trans (hl5.mono (by omega))⟩
              | ((repeat apply Exists.intro); exact ⟨⟨1, by omega, by go_num, hb6, hbl2.trans (hl5.mono (by omega))⟩, by rw [hk9]; rfl⟩)
            case measure => simp [intOf]
          | 1, _, hbr2 =>
            have h15 := and15 x 16777216 hx
            have hsm : x / 16777216 % 16 < 16 := Nat.mod_lt _ (by decide)
            have hst := hix (x / 16777216 % 16) hsm
            have HW := hide (hexW_succ x 1)
            obtain ⟨d, hd⟩ : ∃ d, d = x / 16777216 % 16 := ⟨_, rfl⟩
            rw [← hd] at h15 hst hsm
            have HD := hide hd
            have hcast : (x : Int) / 16777216 = ((x / 16777216 : Nat) : Int) := by omega
            rw [← hcast] at h15
            clear hd hcast
            go_wp2_with (go_at_call 141; refine (wb _ _ _ _ (hexd d) _ hbr2 rfl ?_).mono ?_; (rw [List.length_append, unhide HL, hexW_len]; omega); rintro ev w5 ⟨rfl, hb5, hl5⟩; rw [List.append_assoc, unhide HD] at hb5)
            have hb6 : Bld (w.heap.size + 1) (w.heap.size + 1) (hexs v.list k ++ hexW x 2) w5 := by rw [unhide HW]; exact hb5
            go_roundw
            case rel => first
              | exact ⟨2, by omega, by go_num, hb6, hbl2.trans (hl5.mono (by omega))⟩
              | ((repeat apply Exists.intro); exact ⟨⟨2, by omega, by go_num, hb6, hbl2.trans (hl5.mono (by omega))⟩, by rw [hk9]; rfl⟩)
            case measure => simp [intOf]
          | 2, _, hbr2 =>
            have h15 := and15 x 1048576 hx
            have hsm : x / 1048576 % 16 < 16 := Nat.mod_lt _ (by decide)
            have hst := hix (x / 1048576 % 16) hsm
            have HW := hide (hexW_succ x 2)
            obtain ⟨d, hd⟩ : ∃ d, d = x / 1048576 % 16 := ⟨_, rfl⟩
            rw [← hd] at h15 hst hsm
            have HD := hide hd
            have hcast : (x : Int) / 1048576 = ((x / 1048576 : Nat) : Int) := by omega
            rw [← hcast] at h15
            clear hd hcast
            go_wp2_with (go_at_call 141; refine (wb _ _ _ _ (hexd d) _ hbr2 rfl ?_).mono ?_; (rw [List.length_append, unhide HL, hexW_len]; omega); rintro ev w5 ⟨rfl, hb5, hl5⟩; rw [List.append_assoc, unhide HD] at hb5)
            have hb6 : Bld (w.heap.size + 1) (w.heap.size + 1) (hexs v.list k ++ hexW x 3) w5 := by rw [unhide HW]; exact hb5
            go_roundw
            case rel => first
              | exact ⟨3, by omega, by go_num, hb6, hbl2.trans (hl5.mono (by omega))⟩
              | ((repeat apply Exists.intro); exact ⟨⟨3, by omega, by go_num, hb6, hbl2.trans (hl5.mono (by omega))⟩, by rw [hk9]; rfl⟩)
            case measure => simp [intOf]
          | 3, _, hbr2 =>
            have h15 := and15 x 65536 hx
            have hsm : x / 65536 % 16 < 16 := Nat.mod_lt _ (by decide)
            have hst := hix (x / 65536 % 16) hsm
            have HW := hide (hexW_succ x 3)
            obtain ⟨d, hd⟩ : ∃ d, d = x / 65536 % 16 := ⟨_, rfl⟩
            rw [← hd] at h15 hst hsm
            have HD := hide hd
            have hcast : (x : Int) / 65536 = ((x / 65536 : Nat) : Int) := by omega
            rw [← hcast] at h15
            clear hd hcast
            go_wp2_with (go_at_call 141; refine (wb _ _ _ _ (hexd d) _ hbr2 rfl ?_).mono ?_; (rw [List.length_append, unhide HL, hexW_len]; omega); rintro ev w5 ⟨rfl, hb5, hl5⟩; rw [List.append_assoc, unhide HD] at hb5)
            have hb6 : Bld (w.heap.size + 1) (w.heap.size + 1) (hexs v.list k ++ hexW x 4) w5 := by rw [unhide HW]; exact hb5
            go_roundw
            case rel => first
              | exact ⟨4, by omega, by go_num, hb6, hbl2.trans (hl5.mono (by omega))⟩
              | ((repeat apply Exists.intro); exact ⟨⟨4, by omega, by go_num, hb6, hbl2.trans (hl5.mono (by omega))⟩, by rw [hk9]; rfl⟩)
            case measure => simp [intOf]
          | 4, _, hbr2 =>
            have h15 := and15 x 4096 hx
            have hsm : x / 4096 % 16 < 16 := Nat.mod_lt _ (by decide)
            have hst := hix (x / 4096 % 16) hsm
            have HW := hide (hexW_succ x 4)
            obtain ⟨d, hd⟩ : ∃ d, d = x / 4096 % 16 := ⟨_, rfl⟩
            rw [← hd] at h15 hst hsm
            have HD := hide hd
            have hcast : (x : Int) / 4096 = ((x / 4096 : Nat) : Int) := by omega
            rw [← hcast] at h15
            clear hd hcast
            go_wp2_with (go_at_call 141; refine (wb _ _ _ _ (hexd d) _ hbr2 rfl ?_).mono ?_; (rw [List.length_append, unhide HL, hexW_len]; omega); rintro ev w5 ⟨rfl, hb5, hl5⟩; rw [List.append_assoc, unhide HD] at hb5)
            have hb6 : Bld (w.heap.size + 1) (w.heap.size + 1) (hexs v.list k ++ hexW x 5) w5 := by rw [unhide HW]; exact hb5
            go_roundw
            case rel => first
              | exact ⟨5, by omega, by go_num, hb6, hbl2.trans (hl5.mono (by omega))⟩
              | ((repeat apply Exists.intro); exact ⟨⟨5, by omega, by go_num, hb6, hbl2.trans (hl5.mono (by omega))⟩, by rw [hk9]; rfl⟩)
            case measure => simp [intOf]
          | 5, _, hbr2 =>
            have h15 := and15 x 256 hx
            have hsm : x / 256 % 16 < 16 := Nat.mod_lt _ (by decide)
            have hst := hix (x / 256 % 16) hsm
            have HW := hide (hexW_succ x 5)
            obtain ⟨d, hd⟩ : ∃ d, d = x / 256 % 16 := ⟨_, rfl⟩
            rw [← hd] at h15 hst hsm
            have HD := hide hd
            have hcast : (x : Int) / 256 = ((x / 256 : Nat) : Int) := by omega
            rw [← hcast] at h15
            clear hd hcast
            go_wp2_with (go_at_call 141; refine (wb _ _ _ _ (hexd d) _ hbr2 rfl ?_).mono ?_; (rw [List.length_append, unhide HL, hexW_len]; omega); rintro ev w5 ⟨rfl, hb5, hl5⟩; rw [List.append_assoc, unhide HD] at hb5)
            have hb6 : Bld (w.heap.size + 1) (w.heap.size + 1) (hexs v.list k ++ hexW x 6) w5 := by rw [unhide HW]; exact hb5
            go_roundw
            case rel => first
              | exact ⟨6, by omega, by go_num, hb6, hbl2.trans (hl5.mono (by omega))⟩
              | ((repeat apply Exists.intro); exact ⟨⟨6, by omega, by go_num, hb6, hbl2.trans (hl5.mono (by omega))⟩, by rw [hk9]; rfl⟩)
            case measure => simp [intOf]
          | 6, _, hbr2 =>
            have h15 := and15 x 16 hx
            have hsm : x / 16 % 16 < 16 := Nat.mod_lt _ (by decide)
            have hst := hix (x / 16 % 16) hsm
            have HW := hide (hexW_succ x 6)
            obtain ⟨d, hd⟩ : ∃ d, d = x / 16 % 16 := ⟨_, rfl⟩
            rw [← hd] at h15 hst hsm
            have HD := hide hd
            have hcast : (x : Int) / 16 = ((x / 16 : Nat) : Int) := by omega
            rw [← hcast] at h15
            clear hd hcast
            go_wp2_with (go_at_call 141; refine (wb _ _ _ _ (hexd d) _ hbr2 rfl ?_).mono ?_; (rw [List.length_append, unhide HL, hexW_len]; omega); rintro ev w5 ⟨rfl, hb5, hl5⟩; rw [List.append_assoc, unhide HD] at hb5)
            have hb6 : Bld (w.heap.size + 1) (w.heap.size + 1) (hexs v.list k ++ hexW x 7) w5 := by rw [unhide HW]; exact hb5
            go_roundw
            case rel => first
              | exact ⟨7, by omega, by go_num, hb6, hbl2.trans (hl5.mono (by omega))⟩
              | ((repeat apply Exists.intro); exact ⟨⟨7, by omega, by go_num, hb6, hbl2.trans (hl5.mono (by omega))⟩, by rw [hk9]; rfl⟩)
            case measure => simp [intOf]
          | 7, _, hbr2 =>
            have h15 := and15 x 1 hx
            have hsm : x / 1 % 16 < 16 := Nat.mod_lt _ (by decide)
            have hst := hix (x / 1 % 16) hsm
            have HW := hide (hexW_succ x 7)
            obtain ⟨d, hd⟩ : ∃ d, d = x / 1 % 16 := ⟨_, rfl⟩
            rw [← hd] at h15 hst hsm
            have HD := hide hd
            have hcast : ((x / 1 : Nat) : Int) = (x : Int) := by omega
            rw [hcast] at h15
            clear hd hcast
            go_wp2_with (go_at_call 141; refine (wb _ _ _ _ (hexd d) _ hbr2 rfl ?_).mono ?_; (rw [List.length_append, unhide HL, hexW_len]; omega); rintro ev w5 ⟨rfl, hb5, hl5⟩; rw [List.append_assoc, unhide HD] at hb5)
            have hb6 : Bld (w.heap.size + 1) (w.heap.size + 1) (hexs v.list k ++ hexW x 8) w5 := by rw [unhide HW]; exact hb5
            go_roundw
            case rel => first
              | exact ⟨8, by omega, by go_num, hb6, hbl2.trans (hl5.mono (by omega))⟩
              | ((repeat apply Exists.intro); exact ⟨⟨8, by omega, by go_num, hb6, hbl2.trans (hl5.mono (by omega))⟩, by rw [hk9]; rfl⟩)
            case measure => simp [intOf]
        · obtain rfl : j = 8 := by omega
          have hb6 : Bld (w.heap.size + 1) (w.heap.size + 1) (hexs v.list (k + 1)) wr := by rw [unhide HS]; exact hbr2
          go_wp2
          go_roundw
          case rel => first
            | exact ⟨k + 1, by omega, by go_num, hb6, hbl2⟩
            | ((repeat apply Exists.intro); exact ⟨⟨k + 1, by omega, by go_num, hb6, hbl2⟩, rfl⟩)
          case measure => simp [intOf]; omega
    · obtain rfl : k = 8 := by omega
      go_wp2_with (go_at_call 94; refine (wstr _ _ _ _ hbr).mono ?_; rintro ev w6 ⟨rfl, hl6⟩)
      go_ret
      exact ⟨rfl, hbl.trans (hl6.mono (by omega))⟩
end Go.Proofs.YtkeefkfklmhcjaaGreatDoor
