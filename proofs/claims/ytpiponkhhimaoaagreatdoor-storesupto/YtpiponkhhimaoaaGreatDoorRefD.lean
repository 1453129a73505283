import Derived.Test.YtpiponkhhimaoaaGreatDoorRefC
namespace Go.Proofs.YtpiponkhhimaoaaGreatDoor
open Go.RowKit

def lenOfV : Value → Nat
  | .slice _ n _ => n
  | _ => 0

theorem hixi0 (w : World) : (Instr.index 9 (.string ⟨#[48, 49, 50, 51, 52, 53, 54, 55, 56, 57, 97, 98, 99, 100, 101, 102]⟩) (.int .i64 0)).run Tryz.prog w = .ok (.int .u8 48) w := by kernel_rfl
theorem hixi1 (w : World) : (Instr.index 9 (.string ⟨#[48, 49, 50, 51, 52, 53, 54, 55, 56, 57, 97, 98, 99, 100, 101, 102]⟩) (.int .i64 1)).run Tryz.prog w = .ok (.int .u8 49) w := by kernel_rfl
theorem hixi2 (w : World) : (Instr.index 9 (.string ⟨#[48, 49, 50, 51, 52, 53, 54, 55, 56, 57, 97, 98, 99, 100, 101, 102]⟩) (.int .i64 2)).run Tryz.prog w = .ok (.int .u8 50) w := by kernel_rfl
theorem hixi3 (w : World) : (Instr.index 9 (.string ⟨#[48, 49, 50, 51, 52, 53, 54, 55, 56, 57, 97, 98, 99, 100, 101, 102]⟩) (.int .i64 3)).run Tryz.prog w = .ok (.int .u8 51) w := by kernel_rfl
theorem hixi4 (w : World) : (Instr.index 9 (.string ⟨#[48, 49, 50, 51, 52, 53, 54, 55, 56, 57, 97, 98, 99, 100, 101, 102]⟩) (.int .i64 4)).run Tryz.prog w = .ok (.int .u8 52) w := by kernel_rfl
theorem hixi5 (w : World) : (Instr.index 9 (.string ⟨#[48, 49, 50, 51, 52, 53, 54, 55, 56, 57, 97, 98, 99, 100, 101, 102]⟩) (.int .i64 5)).run Tryz.prog w = .ok (.int .u8 53) w := by kernel_rfl
theorem hixi6 (w : World) : (Instr.index 9 (.string ⟨#[48, 49, 50, 51, 52, 53, 54, 55, 56, 57, 97, 98, 99, 100, 101, 102]⟩) (.int .i64 6)).run Tryz.prog w = .ok (.int .u8 54) w := by kernel_rfl
theorem hixi7 (w : World) : (Instr.index 9 (.string ⟨#[48, 49, 50, 51, 52, 53, 54, 55, 56, 57, 97, 98, 99, 100, 101, 102]⟩) (.int .i64 7)).run Tryz.prog w = .ok (.int .u8 55) w := by kernel_rfl
theorem hixi8 (w : World) : (Instr.index 9 (.string ⟨#[48, 49, 50, 51, 52, 53, 54, 55, 56, 57, 97, 98, 99, 100, 101, 102]⟩) (.int .i64 8)).run Tryz.prog w = .ok (.int .u8 56) w := by kernel_rfl
theorem hixi9 (w : World) : (Instr.index 9 (.string ⟨#[48, 49, 50, 51, 52, 53, 54, 55, 56, 57, 97, 98, 99, 100, 101, 102]⟩) (.int .i64 9)).run Tryz.prog w = .ok (.int .u8 57) w := by kernel_rfl
theorem hixi10 (w : World) : (Instr.index 9 (.string ⟨#[48, 49, 50, 51, 52, 53, 54, 55, 56, 57, 97, 98, 99, 100, 101, 102]⟩) (.int .i64 10)).run Tryz.prog w = .ok (.int .u8 97) w := by kernel_rfl
theorem hixi11 (w : World) : (Instr.index 9 (.string ⟨#[48, 49, 50, 51, 52, 53, 54, 55, 56, 57, 97, 98, 99, 100, 101, 102]⟩) (.int .i64 11)).run Tryz.prog w = .ok (.int .u8 98) w := by kernel_rfl
theorem hixi12 (w : World) : (Instr.index 9 (.string ⟨#[48, 49, 50, 51, 52, 53, 54, 55, 56, 57, 97, 98, 99, 100, 101, 102]⟩) (.int .i64 12)).run Tryz.prog w = .ok (.int .u8 99) w := by kernel_rfl
theorem hixi13 (w : World) : (Instr.index 9 (.string ⟨#[48, 49, 50, 51, 52, 53, 54, 55, 56, 57, 97, 98, 99, 100, 101, 102]⟩) (.int .i64 13)).run Tryz.prog w = .ok (.int .u8 100) w := by kernel_rfl
theorem hixi14 (w : World) : (Instr.index 9 (.string ⟨#[48, 49, 50, 51, 52, 53, 54, 55, 56, 57, 97, 98, 99, 100, 101, 102]⟩) (.int .i64 14)).run Tryz.prog w = .ok (.int .u8 101) w := by kernel_rfl
theorem hixi15 (w : World) : (Instr.index 9 (.string ⟨#[48, 49, 50, 51, 52, 53, 54, 55, 56, 57, 97, 98, 99, 100, 101, 102]⟩) (.int .i64 15)).run Tryz.prog w = .ok (.int .u8 102) w := by kernel_rfl
theorem hixi (d : Nat) (hd : d < 16) (w : World) : (Instr.index 9 (.string ⟨#[48, 49, 50, 51, 52, 53, 54, 55, 56, 57, 97, 98, 99, 100, 101, 102]⟩) (.int .i64 (d : Int))).run Tryz.prog w = .ok (.int .u8 ((hexd d).toNat : Int)) w := by
  have h : d = 0 ∨ d = 1 ∨ d = 2 ∨ d = 3 ∨ d = 4 ∨ d = 5 ∨ d = 6 ∨ d = 7 ∨ d = 8 ∨ d = 9 ∨ d = 10 ∨ d = 11 ∨ d = 12 ∨ d = 13 ∨ d = 14 ∨ d = 15 := by omega
  rcases h with rfl | rfl | rfl | rfl | rfl | rfl | rfl | rfl | rfl | rfl | rfl | rfl | rfl | rfl | rfl | rfl
  · exact hixi0 w
  · exact hixi1 w
  · exact hixi2 w
  · exact hixi3 w
  · exact hixi4 w
  · exact hixi5 w
  · exact hixi6 w
  · exact hixi7 w
  · exact hixi8 w
  · exact hixi9 w
  · exact hixi10 w
  · exact hixi11 w
  · exact hixi12 w
  · exact hixi13 w
  · exact hixi14 w
  · exact hixi15 w
/-- A row of bytes that the call made. -/
def OwnBy (w : World) (B : Nat) (v : Value) (l : List UInt8) : Prop := w.ownsRow B 5 1 v l.length (Lib.byteCells l)
theorem ownBy_snoc {w : World} {B : Nat} {v : Value} {l : List UInt8} {c : UInt8} (h : w.ownsRow B 5 1 v (l.length + 1) (Lib.byteCells l ++ [.int .u8 (c.toNat : Int)])) : OwnBy w B v (l ++ [c]) := by
  unfold OwnBy
  simpa [Lib.byteCells] using h
theorem ownBy_form {w : World} {B : Nat} {v : Value} {l : List UInt8} (h : OwnBy w B v l) (hn : l ≠ []) : ∃ g cap, v = .slice (some ⟨g, 0, none⟩) l.length cap ∧ ∀ j (hj : j < l.length), w.cell? ((⟨g, 0, none⟩ : Addr).add j) = some (.int .u8 (l[j].toNat : Int)) := by
  rcases h.2 with ⟨_, h0⟩ | ⟨g, cap, cur, rfl, _⟩
  · exact absurd (List.length_eq_zero_iff.1 h0) hn
  · refine ⟨g, cap, rfl, fun j hj => ?_⟩
    exact World.ownsRow.cells h rfl j _ (by rw [Lib.byteCells, List.getElem?_map, List.getElem?_eq_getElem hj]; rfl)

attribute [local go_sem] setCell_drewN alloc_drewN
attribute [local go_sem] Go.wp_at_zero Go.wp_at_succ

set_option maxHeartbeats 2000000 in
set_option maxRecDepth 100000 in
theorem digest_any (s : ByteArray) (hs : s.size ≤ 1073741824) (w : World) :
    Calls Tryz.prog 38 #[.string s] w fun ev w' => ev = .returned (.string ⟨(sha s.data.toList).toArray⟩) ∧ Below w.heap.size w w' := by
  have hconv := Lib.run_convert_string_bytes (P := Tryz.prog) w 9 122 5 s Tryz.underlying9 Tryz.underlying122 Tryz.underlying5
  have HL := hide (Lib.size_eq s)
  have HR := hide (rowB_conv w s)
  have HB0 := hide (below_conv w s)
  go_enter Tryz.func38, Tryz.ntmps38
  go_wp2_with (first | (at_builtin; refine wpList_appB _ rfl _ _ rfl w.heap.size _ _ _ s.data.toList 128 (unhide HL) rfl ((unhide HR).alloc _) _ rfl (cell_one_new _ _ _ 0 _ rfl) ?_ ?_ ?_; (rw [← unhide HL]; omega); (have := (unhide HB0).size; simp; omega); intro g1 cap1 w1 hr1 hb1))
  have hB1 : Below w.heap.size w w1 := ((unhide HB0).alloc (unhide HB0).size _).trans hb1
  obtain ⟨Z, hZ⟩ : ∃ Z, Z = zer s.size := ⟨_, rfl⟩
  have HZ := hide hZ
  have hz1 : Z < 64 := by rw [hZ]; unfold zer; exact Nat.mod_lt _ (by decide)
  have hz2 : (s.size + 1 + Z) % 64 = 56 := by rw [hZ]; unfold zer; omega
  clear hconv hb1 hZ
  go_loopw [3] (fun v wr => ∃ (k g cap : Nat) (l : List UInt8), k ≤ Z ∧ v = .slice (some ⟨g, 0, none⟩) (s.size + 1 + k) cap ∧ RowB wr w.heap.size g cap l ∧ Below w.heap.size w wr ∧ Hid (l = s.data.toList ++ [128] ++ List.replicate k 0)) (fun v _ => s.size + 1 + Z - lenOfV v)
  case atStart => exact ⟨0, g1, cap1, s.data.toList ++ [128], by omega, rfl, hr1, hB1, hide (by simp)⟩
  case round =>
    obtain ⟨k, g, cap, l, hk, rfl, hr, hb, HE⟩ := hrel
    have hll : l.length = s.size + 1 + k := by rw [unhide HE, unhide HL]; simp; omega
    have HLL := hide hll
    clear hll
    by_cases hlt : k < Z
    · obtain ⟨r, er⟩ : ∃ r, r = (s.size + 1 + k) % 64 := ⟨_, rfl⟩
      have hr56 : (r : Int) ≠ 56 := by have := Nat.mod_lt (s.size + 1 + k) (show 0 < 64 by decide); omega
      obtain ⟨n, en⟩ : ∃ n, n = s.size + 1 + k := ⟨_, rfl⟩
      have f1 : (n : Int) % 64 = (r : Int) := by omega
      have f2 : (n : Int).tmod 64 = (r : Int) := by rw [Int.tmod_eq_emod_of_nonneg (by omega)]; exact f1
      rw [← en] at HLL ⊢
      have hsn : n ≤ 2147483648 := by omega
      have HN := hide en
      clear er en
      go_wp2_with (first | (at_builtin; refine wpList_appB _ rfl _ _ rfl w.heap.size _ _ _ l 0 (unhide HLL).symm rfl (hr.alloc _) _ rfl (cell_one_new _ _ _ 0 _ rfl) ?_ ?_ ?_; (rw [unhide HLL]; omega); (have := hb.size; simp; omega); intro g2 cap2 w2 hr2 hb2))
      go_roundw
      case rel =>
        have R1 : Below w.heap.size w w2 := (hb.alloc hb.size _).trans hb2
        have R2 : l ++ [0] = s.data.toList ++ [128] ++ List.replicate (k + 1) 0 := by rw [unhide HE, List.replicate_succ']; simp
        have R3 : n + 1 = s.size + 1 + (k + 1) := by rw [unhide HN]; omega
        first
          | exact ⟨k + 1, g2, cap2, _, by omega, by rw [R3], hr2, R1, hide R2⟩
          | ((repeat apply Exists.intro); exact ⟨⟨k + 1, g2, cap2, _, by omega, by rw [R3], hr2, R1, hide R2⟩, rfl⟩)
      case measure => simp [lenOfV]; have := unhide HN; omega
    · obtain rfl : k = Z := by omega
      obtain ⟨n, en⟩ : ∃ n, n = s.size + 1 + k := ⟨_, rfl⟩
      have f1 : (n : Int) % 64 = 56 := by omega
      have f2 : (n : Int).tmod 64 = 56 := by rw [Int.tmod_eq_emod_of_nonneg (by omega)]; exact f1
      rw [← en] at HLL ⊢
      have hsn : n ≤ 2147483648 := by omega
      have HN := hide en
      clear en hz2 hz1
      go_wp2_with fail
      generalize hW1 : wr = W1 at *
      clear hW1 hk hlt
      go_loopw [3, 5] (fun v i wr => ∃ (j g cap : Nat) (L : List UInt8), j ≤ 8 ∧ v = .slice (some ⟨g, 0, none⟩) (n + j) cap ∧ i = .int .i64 j ∧ RowB wr w.heap.size g cap L ∧ Below w.heap.size w wr ∧ Hid (L = l ++ lenBs s.size j)) (fun _ i _ => 8 - (intOf i).toNat)
      case atStart => exact ⟨0, g, cap, l, by omega, rfl, rfl, hr, hb, hide (by simp [lenBs])⟩
      case round =>
        obtain ⟨j, g, cap, L, hj, rfl, rfl, hr, hb, HEL⟩ := hrel
        have hll : L.length = n + j := by rw [unhide HEL, List.length_append, unhide HLL, lenBs_len]
        have HLM := hide hll
        clear hll
        by_cases hlt : j < 8
        · match j, hlt, hj, HEL, HLM with
          | 0, _, _, HEL, HLM =>
            have e1 : 8 * (s.size : Int) / 72057594037927936 % 256 = ((lenB s.size 0).toNat : Int) := by rw [lenB0]; omega
            have HS := hide (lenBs_succ s.size 0)
            have hll : L.length ≤ 4294967296 := by rw [unhide HLM]; omega
            obtain ⟨bt, hbt⟩ : ∃ bt, bt = lenB s.size 0 := ⟨_, rfl⟩
            rw [← hbt] at e1
            have HT := hide hbt
            clear hbt
            go_wp2_with (first | (at_builtin; refine wpList_appV _ rfl _ _ rfl w.heap.size _ _ _ L bt (unhide HLM).symm rfl (hr.alloc _) _ rfl _ (cell_one_new _ _ _ 0 _ rfl) hll ?_ ?_ ?_; omega; (have := hb.size; simp; omega); intro g2 cap2 w2 hr2 hb2))
            go_roundw
            case rel =>
              have R1 : Below w.heap.size w w2 := (hb.alloc hb.size _).trans hb2
              have R2 : L ++ [bt] = l ++ lenBs s.size 1 := by rw [unhide HEL, unhide HT, unhide HS, List.append_assoc]
              first
                | exact ⟨1, g2, cap2, _, by omega, rfl, rfl, hr2, R1, hide R2⟩
                | ((repeat apply Exists.intro); exact ⟨⟨1, g2, cap2, _, by omega, rfl, rfl, hr2, R1, hide R2⟩, rfl⟩)
            case measure => simp [intOf]
          | 1, _, _, HEL, HLM =>
            have e1 : 8 * (s.size : Int) / 281474976710656 % 256 = ((lenB s.size 1).toNat : Int) := by rw [lenB1]; omega
            have HS := hide (lenBs_succ s.size 1)
            have hll : L.length ≤ 4294967296 := by rw [unhide HLM]; omega
            obtain ⟨bt, hbt⟩ : ∃ bt, bt = lenB s.size 1 := ⟨_, rfl⟩
            rw [← hbt] at e1
            have HT := hide hbt
            clear hbt
            go_wp2_with (first | (at_builtin; refine wpList_appV _ rfl _ _ rfl w.heap.size _ _ _ L bt (unhide HLM).symm rfl (hr.alloc _) _ rfl _ (cell_one_new _ _ _ 0 _ rfl) hll ?_ ?_ ?_; omega; (have := hb.size; simp; omega); intro g2 cap2 w2 hr2 hb2))
            go_roundw
            case rel =>
              have R1 : Below w.heap.size w w2 := (hb.alloc hb.size _).trans hb2
              have R2 : L ++ [bt] = l ++ lenBs s.size 2 := by rw [unhide HEL, unhide HT, unhide HS, List.append_assoc]
              first
                | exact ⟨2, g2, cap2, _, by omega, rfl, rfl, hr2, R1, hide R2⟩
                | ((repeat apply Exists.intro); exact ⟨⟨2, g2, cap2, _, by omega, rfl, rfl, hr2, R1, hide R2⟩, rfl⟩)
            case measure => simp [intOf]
          | 2, _, _, HEL, HLM =>
            have e1 : 8 * (s.size : Int) / 1099511627776 % 256 = ((lenB s.size 2).toNat : Int) := by rw [lenB2]; omega
            have HS := hide (lenBs_succ s.size 2)
            have hll : L.length ≤ 4294967296 := by rw [unhide HLM]; omega
            obtain ⟨bt, hbt⟩ : ∃ bt, bt = lenB s.size 2 := ⟨_, rfl⟩
            rw [← hbt] at e1
            have HT := hide hbt
            clear hbt
            go_wp2_with (first | (at_builtin; refine wpList_appV _ rfl _ _ rfl w.heap.size _ _ _ L bt (unhide HLM).symm rfl (hr.alloc _) _ rfl _ (cell_one_new _ _ _ 0 _ rfl) hll ?_ ?_ ?_; omega; (have := hb.size; simp; omega); intro g2 cap2 w2 hr2 hb2))
            go_roundw
            case rel =>
              have R1 : Below w.heap.size w w2 := (hb.alloc hb.size _).trans hb2
              have R2 : L ++ [bt] = l ++ lenBs s.size 3 := by rw [unhide HEL, unhide HT, unhide HS, List.append_assoc]
              first
                | exact ⟨3, g2, cap2, _, by omega, rfl, rfl, hr2, R1, hide R2⟩
                | ((repeat apply Exists.intro); exact ⟨⟨3, g2, cap2, _, by omega, rfl, rfl, hr2, R1, hide R2⟩, rfl⟩)
            case measure => simp [intOf]
          | 3, _, _, HEL, HLM =>
            have e1 : 8 * (s.size : Int) / 4294967296 % 256 = ((lenB s.size 3).toNat : Int) := by rw [lenB3]; omega
            have HS := hide (lenBs_succ s.size 3)
            have hll : L.length ≤ 4294967296 := by rw [unhide HLM]; omega
            obtain ⟨bt, hbt⟩ : ∃ bt, bt = lenB s.size 3 := ⟨_, rfl⟩
            rw [← hbt] at e1
            have HT := hide hbt
            clear hbt
            go_wp2_with (first | (at_builtin; refine wpList_appV _ rfl _ _ rfl w.heap.size _ _ _ L bt (unhide HLM).symm rfl (hr.alloc _) _ rfl _ (cell_one_new _ _ _ 0 _ rfl) hll ?_ ?_ ?_; omega; (have := hb.size; simp; omega); intro g2 cap2 w2 hr2 hb2))
            go_roundw
            case rel =>
              have R1 : Below w.heap.size w w2 := (hb.alloc hb.size _).trans hb2
              have R2 : L ++ [bt] = l ++ lenBs s.size 4 := by rw [unhide HEL, unhide HT, unhide HS, List.append_assoc]
              first
                | exact ⟨4, g2, cap2, _, by omega, rfl, rfl, hr2, R1, hide R2⟩
                | ((repeat apply Exists.intro); exact ⟨⟨4, g2, cap2, _, by omega, rfl, rfl, hr2, R1, hide R2⟩, rfl⟩)
            case measure => simp [intOf]
          | 4, _, _, HEL, HLM =>
            have e1 : 8 * (s.size : Int) / 16777216 % 256 = ((lenB s.size 4).toNat : Int) := by rw [lenB4]; omega
            have HS := hide (lenBs_succ s.size 4)
            have hll : L.length ≤ 4294967296 := by rw [unhide HLM]; omega
            obtain ⟨bt, hbt⟩ : ∃ bt, bt = lenB s.size 4 := ⟨_, rfl⟩
            rw [← hbt] at e1
            have HT := hide hbt
            clear hbt
            go_wp2_with (first | (at_builtin; refine wpList_appV _ rfl _ _ rfl w.heap.size _ _ _ L bt (unhide HLM).symm rfl (hr.alloc _) _ rfl _ (cell_one_new _ _ _ 0 _ rfl) hll ?_ ?_ ?_; omega; (have := hb.size; simp; omega); intro g2 cap2 w2 hr2 hb2))
            go_roundw
            case rel =>
              have R1 : Below w.heap.size w w2 := (hb.alloc hb.size _).trans hb2
              have R2 : L ++ [bt] = l ++ lenBs s.size 5 := by rw [unhide HEL, unhide HT, unhide HS, List.append_assoc]
              first
                | exact ⟨5, g2, cap2, _, by omega, rfl, rfl, hr2, R1, hide R2⟩
                | ((repeat apply Exists.intro); exact ⟨⟨5, g2, cap2, _, by omega, rfl, rfl, hr2, R1, hide R2⟩, rfl⟩)
            case measure => simp [intOf]
          | 5, _, _, HEL, HLM =>
            have e1 : 8 * (s.size : Int) / 65536 % 256 = ((lenB s.size 5).toNat : Int) := by rw [lenB5]; omega
            have HS := hide (lenBs_succ s.size 5)
            have hll : L.length ≤ 4294967296 := by rw [unhide HLM]; omega
            obtain ⟨bt, hbt⟩ : ∃ bt, bt = lenB s.size 5 := ⟨_, rfl⟩
            rw [← hbt] at e1
            have HT := hide hbt
            clear hbt
            go_wp2_with (first | (at_builtin; refine wpList_appV _ rfl _ _ rfl w.heap.size _ _ _ L bt (unhide HLM).symm rfl (hr.alloc _) _ rfl _ (cell_one_new _ _ _ 0 _ rfl) hll ?_ ?_ ?_; omega; (have := hb.size; simp; omega); intro g2 cap2 w2 hr2 hb2))
            go_roundw
            case rel =>
              have R1 : Below w.heap.size w w2 := (hb.alloc hb.size _).trans hb2
              have R2 : L ++ [bt] = l ++ lenBs s.size 6 := by rw [unhide HEL, unhide HT, unhide HS, List.append_assoc]
              first
                | exact ⟨6, g2, cap2, _, by omega, rfl, rfl, hr2, R1, hide R2⟩
                | ((repeat apply Exists.intro); exact ⟨⟨6, g2, cap2, _, by omega, rfl, rfl, hr2, R1, hide R2⟩, rfl⟩)
            case measure => simp [intOf]
          | 6, _, _, HEL, HLM =>
            have e1 : 8 * (s.size : Int) / 256 % 256 = ((lenB s.size 6).toNat : Int) := by rw [lenB6]; omega
            have HS := hide (lenBs_succ s.size 6)
            have hll : L.length ≤ 4294967296 := by rw [unhide HLM]; omega
            obtain ⟨bt, hbt⟩ : ∃ bt, bt = lenB s.size 6 := ⟨_, rfl⟩
            rw [← hbt] at e1
            have HT := hide hbt
            clear hbt
            go_wp2_with (first | (at_builtin; refine wpList_appV _ rfl _ _ rfl w.heap.size _ _ _ L bt (unhide HLM).symm rfl (hr.alloc _) _ rfl _ (cell_one_new _ _ _ 0 _ rfl) hll ?_ ?_ ?_; omega; (have := hb.size; simp; omega); intro g2 cap2 w2 hr2 hb2))
            go_roundw
            case rel =>
              have R1 : Below w.heap.size w w2 := (hb.alloc hb.size _).trans hb2
              have R2 : L ++ [bt] = l ++ lenBs s.size 7 := by rw [unhide HEL, unhide HT, unhide HS, List.append_assoc]
              first
                | exact ⟨7, g2, cap2, _, by omega, rfl, rfl, hr2, R1, hide R2⟩
                | ((repeat apply Exists.intro); exact ⟨⟨7, g2, cap2, _, by omega, rfl, rfl, hr2, R1, hide R2⟩, rfl⟩)
            case measure => simp [intOf]
          | 7, _, _, HEL, HLM =>
            have e1 : 8 * (s.size : Int) % 256 = ((lenB s.size 7).toNat : Int) := by rw [lenB7]; omega
            have HS := hide (lenBs_succ s.size 7)
            have hll : L.length ≤ 4294967296 := by rw [unhide HLM]; omega
            obtain ⟨bt, hbt⟩ : ∃ bt, bt = lenB s.size 7 := ⟨_, rfl⟩
            rw [← hbt] at e1
            have HT := hide hbt
            clear hbt
            go_wp2_with (first | (at_builtin; refine wpList_appV _ rfl _ _ rfl w.heap.size _ _ _ L bt (unhide HLM).symm rfl (hr.alloc _) _ rfl _ (cell_one_new _ _ _ 0 _ rfl) hll ?_ ?_ ?_; omega; (have := hb.size; simp; omega); intro g2 cap2 w2 hr2 hb2))
            go_roundw
            case rel =>
              have R1 : Below w.heap.size w w2 := (hb.alloc hb.size _).trans hb2
              have R2 : L ++ [bt] = l ++ lenBs s.size 8 := by rw [unhide HEL, unhide HT, unhide HS, List.append_assoc]
              first
                | exact ⟨8, g2, cap2, _, by omega, rfl, rfl, hr2, R1, hide R2⟩
                | ((repeat apply Exists.intro); exact ⟨⟨8, g2, cap2, _, by omega, rfl, rfl, hr2, R1, hide R2⟩, rfl⟩)
            case measure => simp [intOf]
        · obtain rfl : j = 8 := by omega
          obtain ⟨m, hm⟩ : ∃ m, n + 8 = 64 * m := ⟨(n + 8) / 64, by omega⟩
          have HF : Hid (L = fil s.data.toList s.size) := hide (by
            rw [unhide HEL, unhide HE, unhide HZ, fil, ← unhide HL])
          have hm2 : 64 * m ≤ 4294967296 := by omega
          have hcap : 64 * m ≤ cap := by rw [← hm, ← unhide HLM]; exact hr.len
          rw [hm] at HLM ⊢
          clear f1 f2 HEL hlt hj HE HLL HN HZ hsn hm
          go_wp2_with fail
          have hrN := hr.alloc (.cells #[.int .i64 1779033703, .int .i64 3144134277, .int .i64 1013904242, .int .i64 2773480762, .int .i64 1359893119, .int .i64 2600822924, .int .i64 528734635, .int .i64 1541459225] 3)
          have hbN := hb.alloc hb.size (.cells #[.int .i64 1779033703, .int .i64 3144134277, .int .i64 1013904242, .int .i64 2773480762, .int .i64 1359893119, .int .i64 2600822924, .int .i64 528734635, .int .i64 1541459225] 3)
          have hoN : OwnI (wr.alloc (.cells #[.int .i64 1779033703, .int .i64 3144134277, .int .i64 1013904242, .int .i64 2773480762, .int .i64 1359893119, .int .i64 2600822924, .int .i64 528734635, .int .i64 1541459225] 3)) w.heap.size (.slice (some ⟨wr.heap.size, 0, none⟩) 8 8) H0.list := ownI_new hb.size H0.list (by decide)
          generalize hW1 : wr.alloc (.cells #[.int .i64 1779033703, .int .i64 3144134277, .int .i64 1013904242, .int .i64 2773480762, .int .i64 1359893119, .int .i64 2600822924, .int .i64 528734635, .int .i64 1541459225] 3) = W1 at *
          clear hW1 hr hb
          generalize hGN : wr.heap.size = gN at *
          clear hGN
          go_loopw [6, 7] (fun v i wr => ∃ (q gh ch : Nat) (x : St), q ≤ m ∧ v = .slice (some ⟨gh, 0, none⟩) 8 ch ∧ i = .int .i64 (64 * (q : Int)) ∧ OwnI wr w.heap.size (.slice (some ⟨gh, 0, none⟩) 8 ch) x.list ∧ RowB wr w.heap.size g cap L ∧ Below w.heap.size w wr ∧ Hid (x = mixN H0 L q)) (fun _ i _ => m - (intOf i / 64).toNat)
          case atStart => exact ⟨0, gN, 8, H0, by omega, rfl, rfl, hoN, hrN, hbN, hide rfl⟩
          case round =>
            obtain ⟨q, gh, ch, x, hq, rfl, rfl, ho, hr, hb, HX⟩ := hrel
            by_cases hlt : q < m
            · have h64 : 64 * (q : Int) < ((64 * m : Nat) : Int) := by omega
              have h65 : 64 * (q : Int) + 64 ≤ (cap : Int) := by omega
              have hq0 : (0 : Int) ≤ 64 * (q : Int) := by omega
              have hw : IntKind.i64.wrap (64 * (q : Int) + 64) = 64 * (q : Int) + 64 := by rw [show (64 * (q : Int) + 64) = ((64 * q + 64 : Nat) : Int) from by omega]; exact wrap_i64 _ (by omega)
              have hbc : Hid (∀ j, j < 64 → wr.cell? ⟨g, 64 * q + j, none⟩ = some (.int .u8 ((byt ((L.drop (64 * q)).take 64) j : Nat) : Int))) := hide (fun j hj => by
                rw [byt_take_drop _ _ _ _ hj]
                have hlt2 : 64 * q + j < L.length := by rw [unhide HLM]; omega
                rw [hr.cell (64 * q + j) L[64 * q + j] (List.getElem?_eq_getElem hlt2), byt, List.getD_eq_getElem?_getD, List.getElem?_eq_getElem hlt2]; rfl)
              have hxo : Hid x.ok := hide (by rw [unhide HX]; exact mixN_ok H0_ok _ _)
              go_wp2_with (first | (go_at_call 60; refine (block_any x (unhide hxo) ((L.drop (64 * q)).take 64) w.heap.size gh ch g (64 * q) _ _ ho (unhide hbc)).mono ?_; rintro ev w5 ⟨g5, c5, rfl, ho5, hb5⟩))
              go_roundw
              case rel =>
                have R1 := hr.below hb5
                have R2 : Below w.heap.size w w5 := hb.trans (hb5.mono hb.size)
                have R3 : OwnI w5 w.heap.size (.slice (some ⟨g5, 0, none⟩) 8 c5) (mixB x ((L.drop (64 * q)).take 64)).list := by
                  refine ⟨ho5.1, ?_⟩
                  rcases ho5.2 with h0 | ⟨a1, a2, a3, a4, a5, a6⟩
                  · exact .inl h0
                  · exact .inr ⟨a1, a2, a3, a4, Nat.le_trans hb.size a5, a6⟩
                have R4 : mixB x ((L.drop (64 * q)).take 64) = mixN H0 L (q + 1) := by rw [mixN, unhide HX]
                first
                  | exact ⟨q + 1, g5, c5, _, by omega, rfl, by go_num, R3, R1, R2, hide R4⟩
                  | ((repeat apply Exists.intro); exact ⟨⟨q + 1, g5, c5, _, by omega, rfl, by go_num, R3, R1, R2, hide R4⟩, rfl⟩)
              case measure => simp [intOf]; omega
            · obtain rfl : q = m := by omega
              go_wp2_with fail
              have hxo : x.ok := by rw [unhide HX]; exact mixN_ok H0_ok _ _
              have HD : Hid (sha s.data.toList = hexs x.list 8) := hide (by rw [sha, ← unhide HL, ← unhide HF, unhide HLM, unhide HX, Nat.mul_div_cancel_left _ (by decide)])
              obtain ⟨i0, hi, hz0, hz1, hz2⟩ := info_parts Tryz.info5
              generalize hW2 : wr = W2 at *
              clear hW2 HX HLM hm2 hcap HF hr hrN hoN hbN hlt hq
              go_loopw [8, 9] (fun v i wr => ∃ k : Nat, k ≤ 8 ∧ i = .int .i64 k ∧ OwnBy wr W2.heap.size v (hexs x.list k) ∧ Below W2.heap.size W2 wr) (fun _ i _ => 8 - (intOf i).toNat)
              case atStart => exact ⟨0, by omega, rfl, World.ownsRow_nil _ _ _ _, Below.refl _ _⟩
              case round =>
                obtain ⟨k, hk, rfl, hown, hbl⟩ := hrel
                by_cases hlt : k < 8
                · have HC := hide (ownI_cell ho k (by show k < 8; exact hlt))
                  have hx := St.list_lt hxo k
                  have HS := hide (hexs_succ x.list k (by show k < 8; exact hlt))
                  have HH := hide (hexs_len x.list k (by show k ≤ 8; omega))
                  generalize x.list.getD k 0 = xv at *
                  have hk8 : (k : Int) < 8 := by omega
                  have hk0 : (0 : Int) ≤ (k : Int) := by omega
                  have hk9 : decide ((k : Int) < 8) = true := decide_eq_true (by omega)
                  go_wp2_with fail
                  generalize hW3 : wr = W3 at *
                  clear hW3
                  go_loopw [8, 10] (fun v i wr => ∃ j : Nat, j ≤ 8 ∧ i = .int .i64 (28 - 4 * (j : Int)) ∧ OwnBy wr W2.heap.size v (hexs x.list k ++ hexW xv j) ∧ Below W2.heap.size W2 wr) (fun _ i _ => (intOf i + 4).toNat)
                  case atStart => exact ⟨0, by omega, rfl, by simpa [hexW] using hown, hbl⟩
                  case round =>
                    obtain ⟨j, hj, rfl, hown2, hbl2⟩ := hrel
                    have hc := cell_later hbl2 (unhide HC)
                    by_cases hjl : j < 8
                    · match j, hjl, hown2 with
                      | 0, _, hown2 =>
                        obtain ⟨d, hd⟩ : ∃ d, d = xv / 268435456 % 16 := ⟨_, rfl⟩
                        have hd16 : d < 16 := by rw [hd]; exact Nat.mod_lt _ (by decide)
                        have f1 : (xv : Int) / 268435456 % 16 = (d : Int) := by omega
                        have f2 : ((xv : Int) / 268435456).tmod 16 = (d : Int) := by rw [Int.tmod_eq_emod_of_nonneg (by omega)]; exact f1
                        have hst := hixi d hd16
                        have HW := hide (hexW_succ xv 0)
                        have HDD : Hid (hexd (xv / 2 ^ (28 - 4 * 0) % 16) = hexd d) := hide (by rw [hd])
                        have hlen : (hexs x.list k ++ hexW xv 0).length ≤ 100 := by rw [List.length_append, unhide HH, hexW_len]; omega
                        clear hd
                        go_wp2_with (first | (at_builtin; refine wpList_append_own _ rfl _ _ 122 rfl W2.heap.size 5 i0 (.int .u8 0) 1 1 Tryz.underlying122 hi hz0 hz1 hz2 rfl (by decide) _ _ _ rfl (World.ownsRow.alloc hown2 _) ⟨wr.heap.size, 0, none⟩ 1 1 [.int .u8 ((hexd d).toNat : Int)] rfl rfl (cell_one_new _ _ _) (fun y hy => by simp at hy; subst hy; rfl) (by unfold maxLen; omega) (by omega) (by have := hbl2.size; simp; omega) ?_; intro v' w5 hown5 hgrow _))
                        go_roundw
                        case rel =>
                          have R1 : OwnBy w5 W2.heap.size v' (hexs x.list k ++ hexW xv 1) := by
                            rw [unhide HW, unhide HDD, ← List.append_assoc]
                            exact ownBy_snoc hown5
                          have R2 : Below W2.heap.size W2 w5 := (hbl2.alloc hbl2.size _).grown hgrow (by have := hbl2.size; simp; omega) (fun q hq => (World.ownsRow.lt hown2 q hq).1)
                          first
                            | exact ⟨1, by omega, by go_num, R1, R2⟩
                            | ((repeat apply Exists.intro); exact ⟨⟨1, by omega, by go_num, R1, R2⟩, by rw [hk9]; rfl⟩)
                            | ((repeat apply Exists.intro); exact ⟨⟨1, by omega, by go_num, R1, R2⟩, rfl⟩)
                        case measure => simp [intOf]
                      | 1, _, hown2 =>
                        obtain ⟨d, hd⟩ : ∃ d, d = xv / 16777216 % 16 := ⟨_, rfl⟩
                        have hd16 : d < 16 := by rw [hd]; exact Nat.mod_lt _ (by decide)
                        have f1 : (xv : Int) / 16777216 % 16 = (d : Int) := by omega
                        have f2 : ((xv : Int) / 16777216).tmod 16 = (d : Int) := by rw [Int.tmod_eq_emod_of_nonneg (by omega)]; exact f1
                        have hst := hixi d hd16
                        have HW := hide (hexW_succ xv 1)
                        have HDD : Hid (hexd (xv / 2 ^ (28 - 4 * 1) % 16) = hexd d) := hide (by rw [hd])
                        have hlen : (hexs x.list k ++ hexW xv 1).length ≤ 100 := by rw [List.length_append, unhide HH, hexW_len]; omega
                        clear hd
                        go_wp2_with (first | (at_builtin; refine wpList_append_own _ rfl _ _ 122 rfl W2.heap.size 5 i0 (.int .u8 0) 1 1 Tryz.underlying122 hi hz0 hz1 hz2 rfl (by decide) _ _ _ rfl (World.ownsRow.alloc hown2 _) ⟨wr.heap.size, 0, none⟩ 1 1 [.int .u8 ((hexd d).toNat : Int)] rfl rfl (cell_one_new _ _ _) (fun y hy => by simp at hy; subst hy; rfl) (by unfold maxLen; omega) (by omega) (by have := hbl2.size; simp; omega) ?_; intro v' w5 hown5 hgrow _))
                        go_roundw
                        case rel =>
                          have R1 : OwnBy w5 W2.heap.size v' (hexs x.list k ++ hexW xv 2) := by
                            rw [unhide HW, unhide HDD, ← List.append_assoc]
                            exact ownBy_snoc hown5
                          have R2 : Below W2.heap.size W2 w5 := (hbl2.alloc hbl2.size _).grown hgrow (by have := hbl2.size; simp; omega) (fun q hq => (World.ownsRow.lt hown2 q hq).1)
                          first
                            | exact ⟨2, by omega, by go_num, R1, R2⟩
                            | ((repeat apply Exists.intro); exact ⟨⟨2, by omega, by go_num, R1, R2⟩, by rw [hk9]; rfl⟩)
                            | ((repeat apply Exists.intro); exact ⟨⟨2, by omega, by go_num, R1, R2⟩, rfl⟩)
                        case measure => simp [intOf]
                      | 2, _, hown2 =>
                        obtain ⟨d, hd⟩ : ∃ d, d = xv / 1048576 % 16 := ⟨_, rfl⟩
                        have hd16 : d < 16 := by rw [hd]; exact Nat.mod_lt _ (by decide)
                        have f1 : (xv : Int) / 1048576 % 16 = (d : Int) := by omega
                        have f2 : ((xv : Int) / 1048576).tmod 16 = (d : Int) := by rw [Int.tmod_eq_emod_of_nonneg (by omega)]; exact f1
                        have hst := hixi d hd16
                        have HW := hide (hexW_succ xv 2)
                        have HDD : Hid (hexd (xv / 2 ^ (28 - 4 * 2) % 16) = hexd d) := hide (by rw [hd])
                        have hlen : (hexs x.list k ++ hexW xv 2).length ≤ 100 := by rw [List.length_append, unhide HH, hexW_len]; omega
                        clear hd
                        go_wp2_with (first | (at_builtin; refine wpList_append_own _ rfl _ _ 122 rfl W2.heap.size 5 i0 (.int .u8 0) 1 1 Tryz.underlying122 hi hz0 hz1 hz2 rfl (by decide) _ _ _ rfl (World.ownsRow.alloc hown2 _) ⟨wr.heap.size, 0, none⟩ 1 1 [.int .u8 ((hexd d).toNat : Int)] rfl rfl (cell_one_new _ _ _) (fun y hy => by simp at hy; subst hy; rfl) (by unfold maxLen; omega) (by omega) (by have := hbl2.size; simp; omega) ?_; intro v' w5 hown5 hgrow _))
                        go_roundw
                        case rel =>
                          have R1 : OwnBy w5 W2.heap.size v' (hexs x.list k ++ hexW xv 3) := by
                            rw [unhide HW, unhide HDD, ← List.append_assoc]
                            exact ownBy_snoc hown5
                          have R2 : Below W2.heap.size W2 w5 := (hbl2.alloc hbl2.size _).grown hgrow (by have := hbl2.size; simp; omega) (fun q hq => (World.ownsRow.lt hown2 q hq).1)
                          first
                            | exact ⟨3, by omega, by go_num, R1, R2⟩
                            | ((repeat apply Exists.intro); exact ⟨⟨3, by omega, by go_num, R1, R2⟩, by rw [hk9]; rfl⟩)
                            | ((repeat apply Exists.intro); exact ⟨⟨3, by omega, by go_num, R1, R2⟩, rfl⟩)
                        case measure => simp [intOf]
                      | 3, _, hown2 =>
                        obtain ⟨d, hd⟩ : ∃ d, d = xv / 65536 % 16 := ⟨_, rfl⟩
                        have hd16 : d < 16 := by rw [hd]; exact Nat.mod_lt _ (by decide)
                        have f1 : (xv : Int) / 65536 % 16 = (d : Int) := by omega
                        have f2 : ((xv : Int) / 65536).tmod 16 = (d : Int) := by rw [Int.tmod_eq_emod_of_nonneg (by omega)]; exact f1
                        have hst := hixi d hd16
                        have HW := hide (hexW_succ xv 3)
                        have HDD : Hid (hexd (xv / 2 ^ (28 - 4 * 3) % 16) = hexd d) := hide (by rw [hd])
                        have hlen : (hexs x.list k ++ hexW xv 3).length ≤ 100 := by rw [List.length_append, unhide HH, hexW_len]; omega
                        clear hd
                        go_wp2_with (first | (at_builtin; refine wpList_append_own _ rfl _ _ 122 rfl W2.heap.size 5 i0 (.int .u8 0) 1 1 Tryz.underlying122 hi hz0 hz1 hz2 rfl (by decide) _ _ _ rfl (World.ownsRow.alloc hown2 _) ⟨wr.heap.size, 0, none⟩ 1 1 [.int .u8 ((hexd d).toNat : Int)] rfl rfl (cell_one_new _ _ _) (fun y hy => by simp at hy; subst hy; rfl) (by unfold maxLen; omega) (by omega) (by have := hbl2.size; simp; omega) ?_; intro v' w5 hown5 hgrow _))
                        go_roundw
                        case rel =>
                          have R1 : OwnBy w5 W2.heap.size v' (hexs x.list k ++ hexW xv 4) := by
                            rw [unhide HW, unhide HDD, ← List.append_assoc]
                            exact ownBy_snoc hown5
                          have R2 : Below W2.heap.size W2 w5 := (hbl2.alloc hbl2.size _).grown hgrow (by have := hbl2.size; simp; omega) (fun q hq => (World.ownsRow.lt hown2 q hq).1)
                          first
                            | exact ⟨4, by omega, by go_num, R1, R2⟩
                            | ((repeat apply Exists.intro); exact ⟨⟨4, by omega, by go_num, R1, R2⟩, by rw [hk9]; rfl⟩)
                            | ((repeat apply Exists.intro); exact ⟨⟨4, by omega, by go_num, R1, R2⟩, rfl⟩)
                        case measure => simp [intOf]
                      | 4, _, hown2 =>
                        obtain ⟨d, hd⟩ : ∃ d, d = xv / 4096 % 16 := ⟨_, rfl⟩
                        have hd16 : d < 16 := by rw [hd]; exact Nat.mod_lt _ (by decide)
                        have f1 : (xv : Int) / 4096 % 16 = (d : Int) := by omega
                        have f2 : ((xv : Int) / 4096).tmod 16 = (d : Int) := by rw [Int.tmod_eq_emod_of_nonneg (by omega)]; exact f1
                        have hst := hixi d hd16
                        have HW := hide (hexW_succ xv 4)
                        have HDD : Hid (hexd (xv / 2 ^ (28 - 4 * 4) % 16) = hexd d) := hide (by rw [hd])
                        have hlen : (hexs x.list k ++ hexW xv 4).length ≤ 100 := by rw [List.length_append, unhide HH, hexW_len]; omega
                        clear hd
                        go_wp2_with (first | (at_builtin; refine wpList_append_own _ rfl _ _ 122 rfl W2.heap.size 5 i0 (.int .u8 0) 1 1 Tryz.underlying122 hi hz0 hz1 hz2 rfl (by decide) _ _ _ rfl (World.ownsRow.alloc hown2 _) ⟨wr.heap.size, 0, none⟩ 1 1 [.int .u8 ((hexd d).toNat : Int)] rfl rfl (cell_one_new _ _ _) (fun y hy => by simp at hy; subst hy; rfl) (by unfold maxLen; omega) (by omega) (by have := hbl2.size; simp; omega) ?_; intro v' w5 hown5 hgrow _))
                        go_roundw
                        case rel =>
                          have R1 : OwnBy w5 W2.heap.size v' (hexs x.list k ++ hexW xv 5) := by
                            rw [unhide HW, unhide HDD, ← List.append_assoc]
                            exact ownBy_snoc hown5
                          have R2 : Below W2.heap.size W2 w5 := (hbl2.alloc hbl2.size _).grown hgrow (by have := hbl2.size; simp; omega) (fun q hq => (World.ownsRow.lt hown2 q hq).1)
                          first
                            | exact ⟨5, by omega, by go_num, R1, R2⟩
                            | ((repeat apply Exists.intro); exact ⟨⟨5, by omega, by go_num, R1, R2⟩, by rw [hk9]; rfl⟩)
                            | ((repeat apply Exists.intro); exact ⟨⟨5, by omega, by go_num, R1, R2⟩, rfl⟩)
                        case measure => simp [intOf]
                      | 5, _, hown2 =>
                        obtain ⟨d, hd⟩ : ∃ d, d = xv / 256 % 16 := ⟨_, rfl⟩
                        have hd16 : d < 16 := by rw [hd]; exact Nat.mod_lt _ (by decide)
                        have f1 : (xv : Int) / 256 % 16 = (d : Int) := by omega
                        have f2 : ((xv : Int) / 256).tmod 16 = (d : Int) := by rw [Int.tmod_eq_emod_of_nonneg (by omega)]; exact f1
                        have hst := hixi d hd16
                        have HW := hide (hexW_succ xv 5)
                        have HDD : Hid (hexd (xv / 2 ^ (28 - 4 * 5) % 16) = hexd d) := hide (by rw [hd])
                        have hlen : (hexs x.list k ++ hexW xv 5).length ≤ 100 := by rw [List.length_append, unhide HH, hexW_len]; omega
                        clear hd
                        go_wp2_with (first | (at_builtin; refine wpList_append_own _ rfl _ _ 122 rfl W2.heap.size 5 i0 (.int .u8 0) 1 1 Tryz.underlying122 hi hz0 hz1 hz2 rfl (by decide) _ _ _ rfl (World.ownsRow.alloc hown2 _) ⟨wr.heap.size, 0, none⟩ 1 1 [.int .u8 ((hexd d).toNat : Int)] rfl rfl (cell_one_new _ _ _) (fun y hy => by simp at hy; subst hy; rfl) (by unfold maxLen; omega) (by omega) (by have := hbl2.size; simp; omega) ?_; intro v' w5 hown5 hgrow _))
                        go_roundw
                        case rel =>
                          have R1 : OwnBy w5 W2.heap.size v' (hexs x.list k ++ hexW xv 6) := by
                            rw [unhide HW, unhide HDD, ← List.append_assoc]
                            exact ownBy_snoc hown5
                          have R2 : Below W2.heap.size W2 w5 := (hbl2.alloc hbl2.size _).grown hgrow (by have := hbl2.size; simp; omega) (fun q hq => (World.ownsRow.lt hown2 q hq).1)
                          first
                            | exact ⟨6, by omega, by go_num, R1, R2⟩
                            | ((repeat apply Exists.intro); exact ⟨⟨6, by omega, by go_num, R1, R2⟩, by rw [hk9]; rfl⟩)
                            | ((repeat apply Exists.intro); exact ⟨⟨6, by omega, by go_num, R1, R2⟩, rfl⟩)
                        case measure => simp [intOf]
                      | 6, _, hown2 =>
                        obtain ⟨d, hd⟩ : ∃ d, d = xv / 16 % 16 := ⟨_, rfl⟩
                        have hd16 : d < 16 := by rw [hd]; exact Nat.mod_lt _ (by decide)
                        have f1 : (xv : Int) / 16 % 16 = (d : Int) := by omega
                        have f2 : ((xv : Int) / 16).tmod 16 = (d : Int) := by rw [Int.tmod_eq_emod_of_nonneg (by omega)]; exact f1
                        have hst := hixi d hd16
                        have HW := hide (hexW_succ xv 6)
                        have HDD : Hid (hexd (xv / 2 ^ (28 - 4 * 6) % 16) = hexd d) := hide (by rw [hd])
                        have hlen : (hexs x.list k ++ hexW xv 6).length ≤ 100 := by rw [List.length_append, unhide HH, hexW_len]; omega
                        clear hd
                        go_wp2_with (first | (at_builtin; refine wpList_append_own _ rfl _ _ 122 rfl W2.heap.size 5 i0 (.int .u8 0) 1 1 Tryz.underlying122 hi hz0 hz1 hz2 rfl (by decide) _ _ _ rfl (World.ownsRow.alloc hown2 _) ⟨wr.heap.size, 0, none⟩ 1 1 [.int .u8 ((hexd d).toNat : Int)] rfl rfl (cell_one_new _ _ _) (fun y hy => by simp at hy; subst hy; rfl) (by unfold maxLen; omega) (by omega) (by have := hbl2.size; simp; omega) ?_; intro v' w5 hown5 hgrow _))
                        go_roundw
                        case rel =>
                          have R1 : OwnBy w5 W2.heap.size v' (hexs x.list k ++ hexW xv 7) := by
                            rw [unhide HW, unhide HDD, ← List.append_assoc]
                            exact ownBy_snoc hown5
                          have R2 : Below W2.heap.size W2 w5 := (hbl2.alloc hbl2.size _).grown hgrow (by have := hbl2.size; simp; omega) (fun q hq => (World.ownsRow.lt hown2 q hq).1)
                          first
                            | exact ⟨7, by omega, by go_num, R1, R2⟩
                            | ((repeat apply Exists.intro); exact ⟨⟨7, by omega, by go_num, R1, R2⟩, by rw [hk9]; rfl⟩)
                            | ((repeat apply Exists.intro); exact ⟨⟨7, by omega, by go_num, R1, R2⟩, rfl⟩)
                        case measure => simp [intOf]
                      | 7, _, hown2 =>
                        obtain ⟨d, hd⟩ : ∃ d, d = xv / 1 % 16 := ⟨_, rfl⟩
                        have hd16 : d < 16 := by rw [hd]; exact Nat.mod_lt _ (by decide)
                        have f1 : (xv : Int) % 16 = (d : Int) := by omega
                        have f2 : ((xv : Int)).tmod 16 = (d : Int) := by rw [Int.tmod_eq_emod_of_nonneg (by omega)]; exact f1
                        have hst := hixi d hd16
                        have HW := hide (hexW_succ xv 7)
                        have HDD : Hid (hexd (xv / 2 ^ (28 - 4 * 7) % 16) = hexd d) := hide (by rw [hd])
                        have hlen : (hexs x.list k ++ hexW xv 7).length ≤ 100 := by rw [List.length_append, unhide HH, hexW_len]; omega
                        clear hd
                        go_wp2_with (first | (at_builtin; refine wpList_append_own _ rfl _ _ 122 rfl W2.heap.size 5 i0 (.int .u8 0) 1 1 Tryz.underlying122 hi hz0 hz1 hz2 rfl (by decide) _ _ _ rfl (World.ownsRow.alloc hown2 _) ⟨wr.heap.size, 0, none⟩ 1 1 [.int .u8 ((hexd d).toNat : Int)] rfl rfl (cell_one_new _ _ _) (fun y hy => by simp at hy; subst hy; rfl) (by unfold maxLen; omega) (by omega) (by have := hbl2.size; simp; omega) ?_; intro v' w5 hown5 hgrow _))
                        go_roundw
                        case rel =>
                          have R1 : OwnBy w5 W2.heap.size v' (hexs x.list k ++ hexW xv 8) := by
                            rw [unhide HW, unhide HDD, ← List.append_assoc]
                            exact ownBy_snoc hown5
                          have R2 : Below W2.heap.size W2 w5 := (hbl2.alloc hbl2.size _).grown hgrow (by have := hbl2.size; simp; omega) (fun q hq => (World.ownsRow.lt hown2 q hq).1)
                          first
                            | exact ⟨8, by omega, by go_num, R1, R2⟩
                            | ((repeat apply Exists.intro); exact ⟨⟨8, by omega, by go_num, R1, R2⟩, by rw [hk9]; rfl⟩)
                            | ((repeat apply Exists.intro); exact ⟨⟨8, by omega, by go_num, R1, R2⟩, rfl⟩)
                        case measure => simp [intOf]
                    · obtain rfl : j = 8 := by omega
                      have R1 : OwnBy wr W2.heap.size u8 (hexs x.list (k + 1)) := by rw [unhide HS]; exact hown2
                      clear hc
                      go_wp2
                      go_roundw
                      case rel => first
                        | exact ⟨k + 1, by omega, by go_num, R1, hbl2⟩
                        | ((repeat apply Exists.intro); exact ⟨⟨k + 1, by omega, by go_num, R1, hbl2⟩, rfl⟩)
                      case measure => simp [intOf]; omega
                · obtain rfl : k = 8 := by omega
                  obtain ⟨go, co, rfl, hcc⟩ := ownBy_form hown (by intro e; have := hexs_len x.list 8 (Nat.le_refl 8); rw [e] at this; simp at this)
                  have hback := run_convert_bytes_back (P := Tryz.prog) wr 122 9 5 ⟨go, 0, none⟩ co (hexs x.list 8) Tryz.underlying122 Tryz.underlying5 Tryz.underlying9 hcc
                  go_wp2
                  go_ret
                  refine ⟨?_, hb.trans (hbl.mono hb.size)⟩
                  rw [unhide HD]
                  rfl
end Go.Proofs.YtpiponkhhimaoaaGreatDoor
