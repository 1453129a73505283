import Derived.Test.YtkeefkfklmhcjaaGreatDoorProg
import Derived.Test.YtkeefkfklmhcjaaGreatDoorJPlain
import Derived.WalkKit
import Derived.WalkSpells
import Derived.WalkSmall
namespace Go.Proofs.YtkeefkfklmhcjaaGreatDoor
open Go.RowKit

set_option maxHeartbeats 400000 in
theorem begins_any (s p : ByteArray) (w : World) :
    Calls Tryz.prog 59 #[.string s, .string p] w fun e w' => e = .returned (.bool (Lib.hasPrefix s.data.toList p.data.toList)) ∧ w' = w := by
  have H := hide (Lib.hasPrefix_raw s p)
  go_enter Tryz.func59, Tryz.ntmps59
  go_wp2
  · go_ret
    exact ⟨ret_bool (by rw [← unhide H]; simp [*]), rfl⟩
  · go_ret
    exact ⟨ret_bool (by rw [← unhide H]; simp [*]), rfl⟩

set_option maxHeartbeats 400000 in
theorem hasPrefix_any (s p : ByteArray) (w : World) :
    Calls Tryz.prog 163 #[.string s, .string p] w fun e w' => e = .returned (.bool (Lib.hasPrefix s.data.toList p.data.toList)) ∧ w' = w := by
  have H := hide (Lib.hasPrefix_raw s p)
  go_enter Tryz.func163, Tryz.ntmps163
  go_wp2
  · go_ret
    exact ⟨ret_bool (by rw [← unhide H]; simp [*]), rfl⟩
  · go_ret
    exact ⟨ret_bool (by rw [← unhide H]; simp [*]), rfl⟩

set_option maxHeartbeats 400000 in
theorem elByte_any (n : Int) (w : World)  :
    Calls Tryz.prog 164 #[.int .u8 n] w fun e w' => e = .returned (.bool (okN n)) ∧ w' = w := by
  go_enter Tryz.func164, Tryz.ntmps164
  go_wp2
  all_goals
    go_ret
    exact ⟨ret_bool (by rw [Bool.eq_iff_iff]; simp [okN] <;> omega), rfl⟩

set_option maxHeartbeats 400000 in
theorem isEl_bad (s : ByteArray) (w : World) (h : hdr s.data.toList = true) :
    Calls Tryz.prog 136 #[.string s] w fun e w' => e = .returned (.bool (elt s.data.toList)) ∧ w' = w := by
  rw [elt_hdr h]
  have H := hide h
  clear h
  go_enter Tryz.func136, Tryz.ntmps136
  go_wp2_with (go_at_call 163; refine (hasPrefix_any _ _ _).mono ?_; rintro e w' ⟨rfl, rfl⟩)
  all_goals first
    | (go_ret; exact ⟨rfl, rfl⟩)
    | exact absurd (unhide H) (by rw [hdr_false s (by assumption)]; simp)

set_option maxHeartbeats 400000 in
theorem isEl_good (s : ByteArray) (w : World) (h : hdr s.data.toList = false) :
    Calls Tryz.prog 136 #[.string s] w fun e w' => e = .returned (.bool (elt s.data.toList)) ∧ w' = w := by
  obtain ⟨h1, h2, h3, h4, h5⟩ := hdr_parts h
  have H := hide h
  have g1 : s.toList.isEmpty = false := by rw [Lib.toList_data]; simpa using h1
  have g2 : (s.size : Int) ≤ 60 := by have := Lib.size_eq s; omega
  have g3 : (s.toList == [46]) = false := by rw [Lib.toList_data]; simpa using h3
  have g4 : (s.toList == [46, 46]) = false := by rw [Lib.toList_data]; simpa using h4
  clear h h1 h2 h3 h4
  go_enter Tryz.func136, Tryz.ntmps136
  go_wp2_with (go_at_call 163; refine (hasPrefix_any _ _ _).mono ?_; rintro e w' ⟨rfl, rfl⟩)
  go_loop [25] (fun i => ∃ k : Nat, k ≤ s.size ∧ i = .int .i64 k ∧ (s.data.toList.take k).all okC = true) (fun i => s.size - (intOf i).toNat)
  case atStart => exact ⟨0, Nat.zero_le _, rfl, rfl⟩
  case round =>
    obtain ⟨k, hk, rfl, ha⟩ := hrel
    have A := hide ha
    clear ha
    by_cases hlt : k < s.size
    · cases hok : okN (s[k].toNat : Int)
      · have B := hide (elt_bad s k hlt hok)
        go_wp2_with (go_at_call 164; refine (elByte_any _ _).mono ?_; rintro e w' ⟨rfl, rfl⟩)
        go_ret
        exact ⟨ret_bool (unhide B).symm, rfl⟩
      · have B := hide (all_snoc s k hlt (unhide A) hok)
        go_wp2_with (go_at_call 164; refine (elByte_any _ _).mono ?_; rintro e w' ⟨rfl, rfl⟩)
        go_round
        case rel => exact ⟨k + 1, by omega, by go_num, unhide B⟩
        case measure => simp [intOf]; omega
    · have B := hide (elt_good s k (by omega) (unhide A) (unhide H))
      go_wp2
      go_ret
      exact ⟨ret_bool (unhide B).symm, rfl⟩

theorem isEl_any (s : ByteArray) (w : World) :
    Calls Tryz.prog 136 #[.string s] w fun e w' => e = .returned (.bool (elt s.data.toList)) ∧ w' = w := by
  cases h : hdr s.data.toList
  · exact isEl_good s w h
  · exact isEl_bad s w h

set_option maxHeartbeats 400000 in
theorem refEl_bad (s : ByteArray) (w : World) (h : hdr s.data.toList = true) :
    Calls Tryz.prog 53 #[.string s] w fun e w' => e = .returned (.bool (elt s.data.toList)) ∧ w' = w := by
  rw [elt_hdr h]
  have H := hide h
  clear h
  go_enter Tryz.func53, Tryz.ntmps53
  go_wp2_with (go_at_call 59; refine (begins_any _ _ _).mono ?_; rintro e w' ⟨rfl, rfl⟩)
  all_goals first
    | (go_ret; exact ⟨rfl, rfl⟩)
    | exact absurd (unhide H) (by rw [hdr_false s (by assumption)]; simp)

set_option maxHeartbeats 1600000 in
theorem refEl_good (s : ByteArray) (w : World) (h : hdr s.data.toList = false) :
    Calls Tryz.prog 53 #[.string s] w fun e w' => e = .returned (.bool (elt s.data.toList)) ∧ w' = w := by
  obtain ⟨h1, h2, h3, h4, h5⟩ := hdr_parts h
  have H := hide h
  have g1 : s.toList.isEmpty = false := by rw [Lib.toList_data]; simpa using h1
  have g2 : (s.size : Int) ≤ 60 := by have := Lib.size_eq s; omega
  have g3 : (s.toList == [46]) = false := by rw [Lib.toList_data]; simpa using h3
  have g4 : (s.toList == [46, 46]) = false := by rw [Lib.toList_data]; simpa using h4
  clear h h1 h2 h3 h4
  go_enter Tryz.func53, Tryz.ntmps53
  go_wp2_with (go_at_call 59; refine (begins_any _ _ _).mono ?_; rintro e w' ⟨rfl, rfl⟩)
  go_loop [4] (fun i => ∃ k : Nat, k ≤ s.size ∧ i = .int .i64 k ∧ (s.data.toList.take k).all okC = true) (fun i => s.size - (intOf i).toNat)
  case atStart => exact ⟨0, Nat.zero_le _, rfl, rfl⟩
  case round =>
    obtain ⟨k, hk, rfl, ha⟩ := hrel
    have A := hide ha
    clear ha
    by_cases hlt : k < s.size
    · cases hok : okN (s[k].toNat : Int)
      · have B := hide (elt_bad s k hlt hok)
        have hc := okN_out hok (by omega)
        clear hok
        rcases hc with hc | hc | hc | hc | hc | hc
        all_goals
          go_wp2
          all_goals first
            | (go_ret; exact ⟨ret_bool (unhide B).symm, rfl⟩)
            | (rename_i hbad; simp only [bne_eq_false_iff_eq, Bool.not_eq_eq_eq_not, Bool.not_false, decide_eq_true_eq] at hbad; exfalso; omega)
      · have B := hide (all_snoc s k hlt (unhide A) hok)
        have hc := okN_true hok
        clear hok
        rcases hc with hc | hc | hc | hc | hc | hc
        all_goals
          go_wp2
          go_round
          case rel => exact ⟨k + 1, by omega, by go_num, unhide B⟩
          case measure => simp [intOf]; omega
    · have B := hide (elt_good s k (by omega) (unhide A) (unhide H))
      go_wp2
      go_ret
      exact ⟨ret_bool (unhide B).symm, rfl⟩

theorem refEl_any (s : ByteArray) (w : World) :
    Calls Tryz.prog 53 #[.string s] w fun e w' => e = .returned (.bool (elt s.data.toList)) ∧ w' = w := by
  cases h : hdr s.data.toList
  · exact refEl_good s w h
  · exact refEl_bad s w h
end Go.Proofs.YtkeefkfklmhcjaaGreatDoor

namespace Go.Proofs.YtkeefkfklmhcjaaGreatDoor
open Go.RowKit

theorem Tryz.info9 : (Tryz.prog.info? 9).map (fun i => (i.zero, i.size, i.bytes)) = some (some (.string ByteArray.empty), 1, 16) := by kernel_rfl

/-- A slice of texts that the call made. -/
def Own (w : World) (B : Nat) (v : Value) (ps : List ByteArray) : Prop := w.ownsRow B 9 1 v ps.length (ps.map Value.string)
def txts (ps : List ByteArray) : List (List UInt8) := ps.map (·.data.toList)

theorem cut_at {s : ByteArray} {k f : Nat} {ps : List ByteArray} (hlt : k < s.size) (_hf : f ≤ k) (h : spl (s.data.toList.take k) = txts ps ++ [(s.data.toList.take k).drop f]) (hc : s[k] = 47) :
    spl (s.data.toList.take (k + 1)) = txts (ps ++ [s.extract f k]) ++ [(s.data.toList.take (k + 1)).drop (k + 1)] := by
  rw [take_snoc s k hlt, hc, spl_sep, h]
  have hl : (s.data.toList.take k).length = k := by rw [List.length_take, Nat.min_eq_left]; have := Lib.size_eq s; omega
  have e : (s.data.toList.take k ++ [47]).drop (k + 1) = [] := List.drop_of_length_le (by rw [List.length_append, hl]; simp)
  rw [e]
  simp only [txts, List.map_append, List.map_cons, List.map_nil, List.append_assoc, List.cons_append, List.nil_append]
  rw [Lib.extract_data, List.drop_take]
theorem cut_on {s : ByteArray} {k f : Nat} {ps : List ByteArray} (hlt : k < s.size) (hf : f ≤ k) (h : spl (s.data.toList.take k) = txts ps ++ [(s.data.toList.take k).drop f]) (hc : s[k] ≠ 47) :
    spl (s.data.toList.take (k + 1)) = txts ps ++ [(s.data.toList.take (k + 1)).drop f] := by
  rw [take_snoc s k hlt, spl_other _ _ hc _ _ h]
  have hl : (s.data.toList.take k).length = k := by rw [List.length_take, Nat.min_eq_left]; have := Lib.size_eq s; omega
  rw [List.drop_append_of_le_length (by omega)]
theorem cut_end {s : ByteArray} {k f : Nat} {ps : List ByteArray} (hk : s.size ≤ k) (h : spl (s.data.toList.take k) = txts ps ++ [(s.data.toList.take k).drop f]) :
    txts (ps ++ [s.extract f s.size]) = spl s.data.toList := by
  have := Lib.size_eq s
  rw [List.take_of_length_le (by omega)] at h
  rw [h]
  simp only [txts, List.map_append, List.map_cons, List.map_nil]
  rw [Lib.extract_data, List.take_of_length_le (by simp)]
theorem byte47 {c : UInt8} : c = 47 ↔ (c.toNat : Int) = 47 := by
  constructor
  · rintro rfl; rfl
  · intro h; apply UInt8.toNat_inj.1; show c.toNat = 47; omega

set_option maxHeartbeats 800000 in
theorem cut_any (s : ByteArray) (w : World) (hs : s.size ≤ 4294967280) :
    Calls Tryz.prog 77 #[.string s, .int .u8 47] w fun e w' => ∃ v ps, e = .returned v ∧ Own w' w.heap.size v ps ∧ txts ps = spl s.data.toList ∧ Below w.heap.size w w' := by
  obtain ⟨i0, hi, hz0, hz1, hz2⟩ := info_parts Tryz.info9
  go_enter Tryz.func77, Tryz.ntmps77
  go_wp2
  go_loopw [5, 6, 7] (fun v f i wr => ∃ (k n : Nat) (ps : List ByteArray), k ≤ s.size ∧ n ≤ k ∧ ps.length ≤ k ∧ i = .int .i64 k ∧ f = .int .i64 n ∧ Own wr w.heap.size v ps ∧ Below w.heap.size w wr ∧ Hid (spl (s.data.toList.take k) = txts ps ++ [(s.data.toList.take k).drop n]))
    (fun _ _ i _ => s.size - (intOf i).toNat)
  case atStart => exact ⟨0, 0, [], Nat.zero_le _, Nat.le_refl _, Nat.le_refl _, rfl, rfl, World.ownsRow_nil _ _ _ _, Below.refl _ _, hide (by simp [spl, txts])⟩
  case round =>
    obtain ⟨k, n, ps, hk, hn, hl, rfl, rfl, hown, hb, HS⟩ := hrel
    by_cases hlt : k < s.size
    · by_cases hc : (s[k].toNat : Int) = 47
      · have B := hide (cut_at hlt hn (unhide HS) (byte47.2 hc))
        have hcb : ((s[k].toNat : Int) == 47) = true := by simpa using hc
        clear hc
        go_wp2_with (first | (at_builtin; refine wpList_append_own _ rfl _ _ 65 rfl w.heap.size 9 i0 (.string ByteArray.empty) 1 16 Tryz.underlying65 hi hz0 hz1 hz2 rfl (by decide) _ _ _ rfl (World.ownsRow.alloc hown _) ⟨wr.heap.size, 0, none⟩ 1 1 [.string (s.extract n k)] rfl rfl (cell_one_new _ _ _) (fun x hx => by simp at hx; subst hx; rfl) (by unfold maxLen; omega) (by omega) (by have := hb.size; simp; omega) ?_; intro v' w1 hown' hgrow _))
        go_roundw
        case rel => exact ⟨k + 1, k + 1, ps ++ [s.extract n k], by omega, by omega, by simp; omega, by go_num, by go_num, by simpa [Own] using hown', (hb.alloc hb.size _).grown hgrow (by have := hb.size; simp; omega) (fun q hq => (hown.lt q hq).1), B⟩
        case measure => simp [intOf]; omega
      · have B := hide (cut_on hlt hn (unhide HS) (fun e => hc (byte47.1 e)))
        have hcb : ((s[k].toNat : Int) == 47) = false := by simpa using hc
        clear hc
        go_wp2
        go_roundw
        case rel => exact ⟨k + 1, n, ps, by omega, by omega, by omega, by go_num, rfl, hown, hb, B⟩
        case measure => simp [intOf]; omega
    · have B := hide (cut_end (by omega) (unhide HS))
      go_wp2_with (first | (at_builtin; refine wpList_append_own _ rfl _ _ 65 rfl w.heap.size 9 i0 (.string ByteArray.empty) 1 16 Tryz.underlying65 hi hz0 hz1 hz2 rfl (by decide) _ _ _ rfl (World.ownsRow.alloc hown _) ⟨wr.heap.size, 0, none⟩ 1 1 [.string (s.extract n s.size)] rfl rfl (cell_one_new _ _ _) (fun x hx => by simp at hx; subst hx; rfl) (by unfold maxLen; omega) (by omega) (by have := hb.size; simp; omega) ?_; intro v' w1 hown' hgrow _))
      go_ret
      exact ⟨v', ps ++ [s.extract n s.size], rfl, by simpa [Own] using hown', unhide B, (hb.alloc hb.size _).grown hgrow (by have := hb.size; simp; omega) (fun q hq => (hown.lt q hq).1)⟩
end Go.Proofs.YtkeefkfklmhcjaaGreatDoor
