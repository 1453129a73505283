import Derived.Test.YtkeefkfklmhcjaaGreatDoorProg
import Derived.Test.YtkeefkfklmhcjaaGreatDoorJAs
import Derived.WalkKit
import Derived.WalkSpells
import Derived.WalkSmall
import Derived.Shelf.Strings.Builder1
import Derived.Shelf.Strings.Builder2
import Derived.Shelf.Small.Bits
import Derived.Shelf.Strconv.Itoa0
import Derived.Shelf.LaysM
import Derived.Shelf.Strconv.Clone
import Derived.Shelf.Strings.Search1
import Derived.Shelf.Strings.Search2
import Derived.Shelf.Strings.Search3
import Derived.Shelf.Strings.Count
import Derived.Shelf.Strings.Shaped
import Derived.Shelf.Strings.LastIndex
import Derived.Shelf.Strings.Prefix
import Derived.Shelf.Strings.Split
import Derived.Shelf.Strings.SplitShaped
import Derived.Shelf.Bits.Mul64
import Derived.Shelf.Unicode.DecodeSlow
import Derived.Shelf.Slices.CompactS
namespace Go.Proofs.YtkeefkfklmhcjaaGreatDoor
open Go.RowKit

set_option maxHeartbeats 400000 in
theorem begins_any (s p : ByteArray) (w : World) :
    Calls Tryz.prog 59 #[.string s, .string p] w fun e w' => e = .returned (.bool (Lib.hasPrefix s.data.toList p.data.toList)) ∧ w' = w := by
  have H := hide (Lib.hasPrefix_raw s p)
  go_enter Tryz.func59, Tryz.ntmps59
  go_wp2
  · go_ret
    exact ⟨ret_bool (by rw [← unhide H]; simp [*]), rfl⟩
  · go_ret
    exact ⟨ret_bool (by rw [← unhide H]; simp [*]), rfl⟩

set_option maxHeartbeats 400000 in
theorem hasPrefix_any (s p : ByteArray) (w : World) :
    Calls Tryz.prog 163 #[.string s, .string p] w fun e w' => e = .returned (.bool (Lib.hasPrefix s.data.toList p.data.toList)) ∧ w' = w := by
  have H := hide (Lib.hasPrefix_raw s p)
  go_enter Tryz.func163, Tryz.ntmps163
  go_wp2
  · go_ret
    exact ⟨ret_bool (by rw [← unhide H]; simp [*]), rfl⟩
  · go_ret
    exact ⟨ret_bool (by rw [← unhide H]; simp [*]), rfl⟩

set_option maxHeartbeats 400000 in
theorem elByte_any (n : Int) (w : World)  :
    Calls Tryz.prog 164 #[.int .u8 n] w fun e w' => e = .returned (.bool (okN n)) ∧ w' = w := by
  go_enter Tryz.func164, Tryz.ntmps164
  go_wp2
  all_goals
    go_ret
    exact ⟨ret_bool (by rw [Bool.eq_iff_iff]; simp [okN] <;> omega), rfl⟩

set_option maxHeartbeats 400000 in
theorem isEl_bad (s : ByteArray) (w : World) (h : hdr s.data.toList = true) :
    Calls Tryz.prog 136 #[.string s] w fun e w' => e = .returned (.bool (elt s.data.toList)) ∧ w' = w := by
  rw [elt_hdr h]
  have H := hide h
  clear h
  go_enter Tryz.func136, Tryz.ntmps136
  go_wp2_with (go_at_call 163; refine (hasPrefix_any _ _ _).mono ?_; rintro e w' ⟨rfl, rfl⟩)
  all_goals first
    | (go_ret; exact ⟨rfl, rfl⟩)
    | exact absurd (unhide H) (by rw [hdr_false s (by assumption)]; simp)

set_option maxHeartbeats 400000 in
theorem isEl_good (s : ByteArray) (w : World) (h : hdr s.data.toList = false) :
    Calls Tryz.prog 136 #[.string s] w fun e w' => e = .returned (.bool (elt s.data.toList)) ∧ w' = w := by
  obtain ⟨h1, h2, h3, h4, h5⟩ := hdr_parts h
  have H := hide h
  have g1 : s.toList.isEmpty = false := by rw [Lib.toList_data]; simpa using h1
  have g2 : (s.size : Int) ≤ 60 := by have := Lib.size_eq s; omega
  have g3 : (s.toList == [46]) = false := by rw [Lib.toList_data]; simpa using h3
  have g4 : (s.toList == [46, 46]) = false := by rw [Lib.toList_data]; simpa using h4
  clear h h1 h2 h3 h4
  go_enter Tryz.func136, Tryz.ntmps136
  go_wp2_with (go_at_call 163; refine (hasPrefix_any _ _ _).mono ?_; rintro e w' ⟨rfl, rfl⟩)
  go_loop [25] (fun i => ∃ k : Nat, k ≤ s.size ∧ i = .int .i64 k ∧ (s.data.toList.take k).all okC = true) (fun i => s.size - (intOf i).toNat)
  case atStart => exact ⟨0, Nat.zero_le _, rfl, rfl⟩
  case round =>
    obtain ⟨k, hk, rfl, ha⟩ := hrel
    have A := hide ha
    clear ha
    by_cases hlt : k < s.size
    · cases hok : okN (s[k].toNat : Int)
      · have B := hide (elt_bad s k hlt hok)
        go_wp2_with (go_at_call 164; refine (elByte_any _ _).mono ?_; rintro e w' ⟨rfl, rfl⟩)
        go_ret
        exact ⟨ret_bool (unhide B).symm, rfl⟩
      · have B := hide (all_snoc s k hlt (unhide A) hok)
        go_wp2_with (go_at_call 164; refine (elByte_any _ _).mono ?_; rintro e w' ⟨rfl, rfl⟩)
        go_round
        case rel => exact ⟨k + 1, by omega, by go_num, unhide B⟩
        case measure => simp [intOf]; omega
    · have B := hide (elt_good s k (by omega) (unhide A) (unhide H))
      go_wp2
      go_ret
      exact ⟨ret_bool (unhide B).symm, rfl⟩

theorem isEl_any (s : ByteArray) (w : World) :
    Calls Tryz.prog 136 #[.string s] w fun e w' => e = .returned (.bool (elt s.data.toList)) ∧ w' = w := by
  cases h : hdr s.data.toList
  · exact isEl_good s w h
  · exact isEl_bad s w h

set_option maxHeartbeats 400000 in
theorem refEl_bad (s : ByteArray) (w : World) (h : hdr s.data.toList = true) :
    Calls Tryz.prog 53 #[.string s] w fun e w' => e = .returned (.bool (elt s.data.toList)) ∧ w' = w := by
  rw [elt_hdr h]
  have H := hide h
  clear h
  go_enter Tryz.func53, Tryz.ntmps53
  go_wp2_with (go_at_call 59; refine (begins_any _ _ _).mono ?_; rintro e w' ⟨rfl, rfl⟩)
  all_goals first
    | (go_ret; exact ⟨rfl, rfl⟩)
    | exact absurd (unhide H) (by rw [hdr_false s (by assumption)]; simp)

set_option maxHeartbeats 1600000 in
theorem refEl_good (s : ByteArray) (w : World) (h : hdr s.data.toList = false) :
    Calls Tryz.prog 53 #[.string s] w fun e w' => e = .returned (.bool (elt s.data.toList)) ∧ w' = w := by
  obtain ⟨h1, h2, h3, h4, h5⟩ := hdr_parts h
  have H := hide h
  have g1 : s.toList.isEmpty = false := by rw [Lib.toList_data]; simpa using h1
  have g2 : (s.size : Int) ≤ 60 := by have := Lib.size_eq s; omega
  have g3 : (s.toList == [46]) = false := by rw [Lib.toList_data]; simpa using h3
  have g4 : (s.toList == [46, 46]) = false := by rw [Lib.toList_data]; simpa using h4
  clear h h1 h2 h3 h4
  go_enter Tryz.func53, Tryz.ntmps53
  go_wp2_with (go_at_call 59; refine (begins_any _ _ _).mono ?_; rintro e w' ⟨rfl, rfl⟩)
  go_loop [4] (fun i => ∃ k : Nat, k ≤ s.size ∧ i = .int .i64 k ∧ (s.data.toList.take k).all okC = true) (fun i => s.size - (intOf i).toNat)
  case atStart => exact ⟨0, Nat.zero_le _, rfl, rfl⟩
  case round =>
    obtain ⟨k, hk, rfl, ha⟩ := hrel
    have A := hide ha
    clear ha
    by_cases hlt : k < s.size
    · cases hok : okN (s[k].toNat : Int)
      · have B := hide (elt_bad s k hlt hok)
        have hc := okN_out hok (by omega)
        clear hok
        rcases hc with hc | hc | hc | hc | hc | hc
        all_goals
          go_wp2
          all_goals first
            | (go_ret; exact ⟨ret_bool (unhide B).symm, rfl⟩)
            | (rename_i hbad; simp only [bne_eq_false_iff_eq, Bool.not_eq_eq_eq_not, Bool.not_false, decide_eq_true_eq] at hbad; exfalso; omega)
      · have B := hide (all_snoc s k hlt (unhide A) hok)
        have hc := okN_true hok
        clear hok
        rcases hc with hc | hc | hc | hc | hc | hc
        all_goals
          go_wp2
          go_round
          case rel => exact ⟨k + 1, by omega, by go_num, unhide B⟩
          case measure => simp [intOf]; omega
    · have B := hide (elt_good s k (by omega) (unhide A) (unhide H))
      go_wp2
      go_ret
      exact ⟨ret_bool (unhide B).symm, rfl⟩

theorem refEl_any (s : ByteArray) (w : World) :
    Calls Tryz.prog 53 #[.string s] w fun e w' => e = .returned (.bool (elt s.data.toList)) ∧ w' = w := by
  cases h : hdr s.data.toList
  · exact refEl_good s w h
  · exact refEl_bad s w h
end Go.Proofs.YtkeefkfklmhcjaaGreatDoor

namespace Go.Proofs.YtkeefkfklmhcjaaGreatDoor
open Go.RowKit

theorem Tryz.info9 : (Tryz.prog.info? 9).map (fun i => (i.zero, i.size, i.bytes)) = some (some (.string ByteArray.empty), 1, 16) := by kernel_rfl

/-- A slice of texts that the call made. -/
def Own (w : World) (B : Nat) (v : Value) (ps : List ByteArray) : Prop := w.ownsRow B 9 1 v ps.length (ps.map Value.string)
def txts (ps : List ByteArray) : List (List UInt8) := ps.map (·.data.toList)

theorem cut_at {s : ByteArray} {k f : Nat} {ps : List ByteArray} (hlt : k < s.size) (_hf : f ≤ k) (h : spl (s.data.toList.take k) = txts ps ++ [(s.data.toList.take k).drop f]) (hc : s[k] = 47) :
    spl (s.data.toList.take (k + 1)) = txts (ps ++ [s.extract f k]) ++ [(s.data.toList.take (k + 1)).drop (k + 1)] := by
  rw [take_snoc s k hlt, hc, spl_sep, h]
  have hl : (s.data.toList.take k).length = k := by rw [List.length_take, Nat.min_eq_left]; have := Lib.size_eq s; omega
  have e : (s.data.toList.take k ++ [47]).drop (k + 1) = [] := List.drop_of_length_le (by rw [List.length_append, hl]; simp)
  rw [e]
  simp only [txts, List.map_append, List.map_cons, List.map_nil, List.append_assoc, List.cons_append, List.nil_append]
  rw [Lib.extract_data, List.drop_take]
theorem cut_on {s : ByteArray} {k f : Nat} {ps : List ByteArray} (hlt : k < s.size) (hf : f ≤ k) (h : spl (s.data.toList.take k) = txts ps ++ [(s.data.toList.take k).drop f]) (hc : s[k] ≠ 47) :
    spl (s.data.toList.take (k + 1)) = txts ps ++ [(s.data.toList.take (k + 1)).drop f] := by
  rw [take_snoc s k hlt, spl_other _ _ hc _ _ h]
  have hl : (s.data.toList.take k).length = k := by rw [List.length_take, Nat.min_eq_left]; have := Lib.size_eq s; omega
  rw [List.drop_append_of_le_length (by omega)]
theorem cut_end {s : ByteArray} {k f : Nat} {ps : List ByteArray} (hk : s.size ≤ k) (h : spl (s.data.toList.take k) = txts ps ++ [(s.data.toList.take k).drop f]) :
    txts (ps ++ [s.extract f s.size]) = spl s.data.toList := by
  have := Lib.size_eq s
  rw [List.take_of_length_le (by omega)] at h
  rw [h]
  simp only [txts, List.map_append, List.map_cons, List.map_nil]
  rw [Lib.extract_data, List.take_of_length_le (by simp)]
theorem byte47 {c : UInt8} : c = 47 ↔ (c.toNat : Int) = 47 := by
  constructor
  · rintro rfl; rfl
  · intro h; apply UInt8.toNat_inj.1; show c.toNat = 47; omega

set_option maxHeartbeats 800000 in
theorem cut_any (s : ByteArray) (w : World) (hs : s.size ≤ 4294967280) :
    Calls Tryz.prog 77 #[.string s, .int .u8 47] w fun e w' => ∃ v ps, e = .returned v ∧ Own w' w.heap.size v ps ∧ txts ps = spl s.data.toList ∧ Below w.heap.size w w' := by
  obtain ⟨i0, hi, hz0, hz1, hz2⟩ := info_parts Tryz.info9
  go_enter Tryz.func77, Tryz.ntmps77
  go_wp2
  go_loopw [5, 6, 7] (fun v f i wr => ∃ (k n : Nat) (ps : List ByteArray), k ≤ s.size ∧ n ≤ k ∧ ps.length ≤ k ∧ i = .int .i64 k ∧ f = .int .i64 n ∧ Own wr w.heap.size v ps ∧ Below w.heap.size w wr ∧ Hid (spl (s.data.toList.take k) = txts ps ++ [(s.data.toList.take k).drop n]))
    (fun _ _ i _ => s.size - (intOf i).toNat)
  case atStart => exact ⟨0, 0, [], Nat.zero_le _, Nat.le_refl _, Nat.le_refl _, rfl, rfl, World.ownsRow_nil _ _ _ _, Below.refl _ _, hide (by simp [spl, txts])⟩
  case round =>
    obtain ⟨k, n, ps, hk, hn, hl, rfl, rfl, hown, hb, HS⟩ := hrel
    by_cases hlt : k < s.size
    · by_cases hc : (s[k].toNat : Int) = 47
      · have B := hide (cut_at hlt hn (unhide HS) (byte47.2 hc))
        have hcb : ((s[k].toNat : Int) == 47) = true := by simpa using hc
        clear hc
        go_wp2_with (first | (at_builtin; refine wpList_append_own _ rfl _ _ 65 rfl w.heap.size 9 i0 (.string ByteArray.empty) 1 16 Tryz.underlying65 hi hz0 hz1 hz2 rfl (by decide) _ _ _ rfl (World.ownsRow.alloc hown _) ⟨wr.heap.size, 0, none⟩ 1 1 [.string (s.extract n k)] rfl rfl (cell_one_new _ _ _) (fun x hx => by simp at hx; subst hx; rfl) (by unfold maxLen; omega) (by omega) (by have := hb.size; simp; omega) ?_; intro v' w1 hown' hgrow _))
        go_roundw
        case rel => exact ⟨k + 1, k + 1, ps ++ [s.extract n k], by omega, by omega, by simp; omega, by go_num, by go_num, by simpa [Own] using hown', (hb.alloc hb.size _).grown hgrow (by have := hb.size; simp; omega) (fun q hq => (hown.lt q hq).1), B⟩
        case measure => simp [intOf]; omega
      · have B := hide (cut_on hlt hn (unhide HS) (fun e => hc (byte47.1 e)))
        have hcb : ((s[k].toNat : Int) == 47) = false := by simpa using hc
        clear hc
        go_wp2
        go_roundw
        case rel => exact ⟨k + 1, n, ps, by omega, by omega, by omega, by go_num, rfl, hown, hb, B⟩
        case measure => simp [intOf]; omega
    · have B := hide (cut_end (by omega) (unhide HS))
      go_wp2_with (first | (at_builtin; refine wpList_append_own _ rfl _ _ 65 rfl w.heap.size 9 i0 (.string ByteArray.empty) 1 16 Tryz.underlying65 hi hz0 hz1 hz2 rfl (by decide) _ _ _ rfl (World.ownsRow.alloc hown _) ⟨wr.heap.size, 0, none⟩ 1 1 [.string (s.extract n s.size)] rfl rfl (cell_one_new _ _ _) (fun x hx => by simp at hx; subst hx; rfl) (by unfold maxLen; omega) (by omega) (by have := hb.size; simp; omega) ?_; intro v' w1 hown' hgrow _))
      go_ret
      exact ⟨v', ps ++ [s.extract n s.size], rfl, by simpa [Own] using hown', unhide B, (hb.alloc hb.size _).grown hgrow (by have := hb.size; simp; omega) (fun q hq => (hown.lt q hq).1)⟩
end Go.Proofs.YtkeefkfklmhcjaaGreatDoor

namespace Go.Proofs
open Go.Shelf
def Tryz.laysM316_ren : Go.Shelf.Ren := ⟨fun | 316 => 150 | n => n, fun | 9 => 9 | 3 => 3 | 4 => 4 | 37 => 46 | 0 => 0 | 127 => 176 | 5 => 5 | n => n, fun | n => n⟩
theorem Tryz.laysM316 : Go.Proofs.LaysM.n316 Tryz.prog Tryz.laysM316_ren := {
  mixed := by kernel_rfl
  f316 := Tryz.func150.trans (congrArg some (by kernel_rfl))
  t0 := Tryz.underlying0
  a0 := Tryz.isAgg0
  z0 := Tryz.sizeOf0
  v0 := Tryz.zeroValue0
  t3 := Tryz.underlying3
  a3 := Tryz.isAgg3
  z3 := Tryz.sizeOf3
  v3 := Tryz.zeroValue3
  t4 := Tryz.underlying4
  a4 := Tryz.isAgg4
  z4 := Tryz.sizeOf4
  v4 := Tryz.zeroValue4
  t9 := Tryz.underlying9
  a9 := Tryz.isAgg9
  z9 := Tryz.sizeOf9
  v9 := Tryz.zeroValue9
  t37 := Tryz.underlying46
  a37 := Tryz.isAgg46
  z37 := Tryz.sizeOf46
  v37 := Tryz.zeroValue46
  t127 := Tryz.underlying176
  a127 := Tryz.isAgg176
  z127 := Tryz.sizeOf176
  v127 := Tryz.zeroValue176
  t5 := Tryz.underlying5
  a5 := Tryz.isAgg5
  z5 := Tryz.sizeOf5
  v5 := Tryz.zeroValue5
  i0 := by kernel_rfl
  i3 := by kernel_rfl
  i4 := by kernel_rfl
  i5 := by kernel_rfl
  i9 := by kernel_rfl
  i37 := by kernel_rfl
  i127 := by kernel_rfl }
open Go.RowKit in
theorem Tryz.stringslite_Clone (s : ByteArray) (w : World) (hlim : s.size ≤ 281474976710656) :
    Calls Tryz.prog 150 #[.string s] w fun e w' => e = .returned (.string s) ∧ Below w.heap.size w w' := Any.stringslite_Clone Tryz.laysM316 s w hlim
def Tryz.lays148_ren : Go.Shelf.Ren := ⟨fun | 148 => 139 | 222 => 167 | 223 => 168 | 269 => 198 | n => n, fun | 9 => 9 | 3 => 3 | 4 => 4 | 5 => 5 | 146 => 224 | 51 => 140 | 46 => 188 | n => n, fun | n => n⟩
theorem Tryz.lays148 : Go.Proofs.Lays.n148 Tryz.prog Tryz.lays148_ren := {
  mixed := by kernel_rfl
  f148 := Tryz.func139.trans (congrArg some (by kernel_rfl))
  f222 := Tryz.func167.trans (congrArg some (by kernel_rfl))
  f223 := Tryz.func168.trans (congrArg some (by kernel_rfl))
  f269 := Tryz.func198.trans (congrArg some (by kernel_rfl))
  t3 := Tryz.underlying3
  a3 := Tryz.isAgg3
  z3 := Tryz.sizeOf3
  v3 := Tryz.zeroValue3
  t4 := Tryz.underlying4
  a4 := Tryz.isAgg4
  z4 := Tryz.sizeOf4
  v4 := Tryz.zeroValue4
  t5 := Tryz.underlying5
  a5 := Tryz.isAgg5
  z5 := Tryz.sizeOf5
  v5 := Tryz.zeroValue5
  t9 := Tryz.underlying9
  a9 := Tryz.isAgg9
  z9 := Tryz.sizeOf9
  v9 := Tryz.zeroValue9
  t46 := Tryz.underlying188
  a46 := Tryz.isAgg188
  z46 := Tryz.sizeOf188
  v46 := Tryz.zeroValue188
  t51 := Tryz.underlying140
  a51 := Tryz.isAgg140
  z51 := Tryz.sizeOf140
  v51 := Tryz.zeroValue140
  t146 := Tryz.underlying224
  a146 := Tryz.isAgg224
  z146 := Tryz.sizeOf224
  v146 := Tryz.zeroValue224 }
open Go.RowKit Go.Lib in
theorem Tryz.strings_LastIndex_one (s sub : ByteArray) (h1 : sub.size = 1) (hs : s.size < 4611686018427387904) (w : World) :
    Calls Tryz.prog 139 #[.string s, .string sub] w fun e w' => e = .returned (.int .i64 (Lib.lastIndexByte s ((sub[0]'(by omega)).toNat : Int))) ∧ w' = w := Any.strings_LastIndex_one Tryz.lays148 s sub h1 hs w
def Tryz.lays99_ren : Go.Shelf.Ren := ⟨fun | 99 => 163 | 206 => 194 | n => n, fun | 9 => 9 | 4 => 4 | 3 => 3 | n => n, fun | n => n⟩
theorem Tryz.lays99 : Go.Proofs.Lays.n99 Tryz.prog Tryz.lays99_ren := {
  mixed := by kernel_rfl
  f99 := Tryz.func163.trans (congrArg some (by kernel_rfl))
  f206 := Tryz.func194.trans (congrArg some (by kernel_rfl))
  t3 := Tryz.underlying3
  a3 := Tryz.isAgg3
  z3 := Tryz.sizeOf3
  v3 := Tryz.zeroValue3
  t4 := Tryz.underlying4
  a4 := Tryz.isAgg4
  z4 := Tryz.sizeOf4
  v4 := Tryz.zeroValue4
  t9 := Tryz.underlying9
  a9 := Tryz.isAgg9
  z9 := Tryz.sizeOf9
  v9 := Tryz.zeroValue9 }
open Go.RowKit Go.Lib in
theorem Tryz.strings_HasPrefix (s p : ByteArray) (w : World) :
    Calls Tryz.prog 163 #[.string s, .string p] w fun e w' => e = .returned (.bool (Lib.hasPrefix s.data.toList p.data.toList)) ∧ w' = w := Any.strings_HasPrefix Tryz.lays99 s p w
def Tryz.lays146_ren : Go.Shelf.Ren := ⟨fun | 146 => 138 | 221 => 166 | 268 => 195 | 138 => 196 | 143 => 197 | 195 => 221 | 197 => 222 | 218 => 223 | 219 => 224 | 260 => 244 | 217 => 245 | 225 => 246 | 224 => 247 | 267 => 248 | 266 => 260 | 314 => 261 | n => n, fun | 9 => 9 | 31 => 65 | 3 => 3 | 4 => 4 | 0 => 0 | 105 => 250 | 21 => 21 | 5 => 5 | 46 => 188 | 119 => 274 | 139 => 277 | 138 => 276 | 146 => 224 | 51 => 140 | n => n, fun | 1 => 15 | 3 => 17 | 4 => 18 | n => n⟩
theorem Tryz.lays146 : Go.Proofs.Lays.n146 Tryz.prog Tryz.lays146_ren := {
  mixed := by kernel_rfl
  f138 := Tryz.func196.trans (congrArg some (by kernel_rfl))
  f143 := Tryz.func197.trans (congrArg some (by kernel_rfl))
  f146 := Tryz.func138.trans (congrArg some (by kernel_rfl))
  f195 := Tryz.func221.trans (congrArg some (by kernel_rfl))
  f197 := Tryz.func222.trans (congrArg some (by kernel_rfl))
  f217 := Tryz.func245.trans (congrArg some (by kernel_rfl))
  f218 := Tryz.func223.trans (congrArg some (by kernel_rfl))
  f219 := Tryz.func224.trans (congrArg some (by kernel_rfl))
  f221 := Tryz.func166.trans (congrArg some (by kernel_rfl))
  f224 := Tryz.func247.trans (congrArg some (by kernel_rfl))
  f225 := Tryz.func246.trans (congrArg some (by kernel_rfl))
  f260 := Tryz.func244.trans (congrArg some (by kernel_rfl))
  f266 := Tryz.func260.trans (congrArg some (by kernel_rfl))
  f267 := Tryz.func248.trans (congrArg some (by kernel_rfl))
  f268 := Tryz.func195.trans (congrArg some (by kernel_rfl))
  f314 := Tryz.func261.trans (congrArg some (by kernel_rfl))
  t0 := Tryz.underlying0
  a0 := Tryz.isAgg0
  z0 := Tryz.sizeOf0
  v0 := Tryz.zeroValue0
  t3 := Tryz.underlying3
  a3 := Tryz.isAgg3
  z3 := Tryz.sizeOf3
  v3 := Tryz.zeroValue3
  t4 := Tryz.underlying4
  a4 := Tryz.isAgg4
  z4 := Tryz.sizeOf4
  v4 := Tryz.zeroValue4
  t5 := Tryz.underlying5
  a5 := Tryz.isAgg5
  z5 := Tryz.sizeOf5
  v5 := Tryz.zeroValue5
  t9 := Tryz.underlying9
  a9 := Tryz.isAgg9
  z9 := Tryz.sizeOf9
  v9 := Tryz.zeroValue9
  t21 := Tryz.underlying21
  a21 := Tryz.isAgg21
  z21 := Tryz.sizeOf21
  v21 := Tryz.zeroValue21
  t31 := Tryz.underlying65
  a31 := Tryz.isAgg65
  z31 := Tryz.sizeOf65
  v31 := Tryz.zeroValue65
  t46 := Tryz.underlying188
  a46 := Tryz.isAgg188
  z46 := Tryz.sizeOf188
  v46 := Tryz.zeroValue188
  t51 := Tryz.underlying140
  a51 := Tryz.isAgg140
  z51 := Tryz.sizeOf140
  v51 := Tryz.zeroValue140
  t105 := Tryz.underlying250
  a105 := Tryz.isAgg250
  z105 := Tryz.sizeOf250
  v105 := Tryz.zeroValue250
  t119 := Tryz.underlying274
  a119 := Tryz.isAgg274
  z119 := Tryz.sizeOf274
  t138 := Tryz.underlying276
  a138 := Tryz.isAgg276
  z138 := Tryz.sizeOf276
  v138 := Tryz.zeroValue276
  t139 := Tryz.underlying277
  a139 := Tryz.isAgg277
  z139 := Tryz.sizeOf277
  v139 := Tryz.zeroValue277
  t146 := Tryz.underlying224
  a146 := Tryz.isAgg224
  z146 := Tryz.sizeOf224
  v146 := Tryz.zeroValue224
  g1 := by kernel_rfl
  g3 := by kernel_rfl
  g4 := by kernel_rfl }
open Go.RowKit Go.Lib in
theorem Tryz.strings_Split (s sep : ByteArray) (m : Int) (w : World) (hs : s.size < 4294967281) (hm : w.cell? ⟨15, 0, none⟩ = some (.int .i64 m)) (h1 : 1 ≤ sep.size) :
    Calls Tryz.prog 138 #[.string s, .string sep] w fun e w' =>
      e = .returned (.slice (some ⟨w.heap.size, 0, none⟩) (Lib.countB s sep + 1) (Lib.countB s sep + 1)) ∧ w' = w.alloc (.cells ((Lib.splitB sep 0 (Lib.countB s sep) s).map Value.string).toArray 9) := Any.strings_Split Tryz.lays146 (by kernel_rfl) s sep m w hs hm h1
def Tryz.lays194_ren : Go.Shelf.Ren := ⟨fun | 194 => 121 | n => n, fun | 31 => 65 | 9 => 9 | 3 => 3 | 4 => 4 | 0 => 0 | n => n, fun | n => n⟩
theorem Tryz.lays194 : Go.Proofs.Lays.n194 Tryz.prog Tryz.lays194_ren := {
  mixed := by kernel_rfl
  f194 := Tryz.func121.trans (congrArg some (by kernel_rfl))
  t0 := Tryz.underlying0
  a0 := Tryz.isAgg0
  z0 := Tryz.sizeOf0
  v0 := Tryz.zeroValue0
  t3 := Tryz.underlying3
  a3 := Tryz.isAgg3
  z3 := Tryz.sizeOf3
  v3 := Tryz.zeroValue3
  t4 := Tryz.underlying4
  a4 := Tryz.isAgg4
  z4 := Tryz.sizeOf4
  v4 := Tryz.zeroValue4
  t9 := Tryz.underlying9
  a9 := Tryz.isAgg9
  z9 := Tryz.sizeOf9
  v9 := Tryz.zeroValue9
  t31 := Tryz.underlying65
  a31 := Tryz.isAgg65
  z31 := Tryz.sizeOf65
  v31 := Tryz.zeroValue65 }
open Go.RowKit Go.Lib Go.Sort in
theorem Tryz.slices_Compact_string (blk off cap : Nat) (zs : List (List UInt8)) (w : World) (hH : Holds encStr w blk off zs.toArray) (hsz : zs.length ≤ 9223372036854775807) (hcap : zs.length ≤ cap) :
    Calls Tryz.prog 121 #[.slice (some ⟨blk, off, none⟩) zs.length cap] w fun e w' => e = .returned (.slice (some ⟨blk, off, none⟩) (Lib.compact zs).length cap) ∧ ∃ q, w' = putRow encStr (Sort.ahead w q) blk off (Lib.compact zs ++ List.replicate (zs.length - (Lib.compact zs).length) []).toArray := Any.slices_Compact_string Tryz.lays194 blk off cap zs w hH hsz hcap
open Go.RowKit Go.Lib Go.Sort in
theorem Tryz.slices_Compact_string_empty (a : Option Addr) (cap : Nat) (w : World) :
    Calls Tryz.prog 121 #[.slice a 0 cap] w fun e w' => e = .returned (.slice a 0 cap) ∧ w' = w := Any.slices_Compact_string_empty Tryz.lays194 a cap w
end Go.Proofs
