import Derived.Test.YtpiponkhhimaoaaGreatDoorJStoJ
import Derived.Shelf.Strings.Search1
namespace Go.Proofs
open Go.Shelf
def Tryz.lays217_ren : Go.Shelf.Ren := ⟨fun | 217 => 191 | 266 => 209 | n => n, fun | 9 => 9 | 3 => 3 | 5 => 5 | n => n, fun | n => n⟩
theorem Tryz.lays217 : Go.Proofs.Lays.n217 Tryz.prog Tryz.lays217_ren := {
  mixed := by kernel_rfl
  f217 := Tryz.func191.trans (congrArg some (by kernel_rfl))
  f266 := Tryz.func209.trans (congrArg some (by kernel_rfl))
  t3 := Tryz.underlying3
  a3 := Tryz.isAgg3
  z3 := Tryz.sizeOf3
  v3 := Tryz.zeroValue3
  t5 := Tryz.underlying5
  a5 := Tryz.isAgg5
  z5 := Tryz.sizeOf5
  v5 := Tryz.zeroValue5
  t9 := Tryz.underlying9
  a9 := Tryz.isAgg9
  z9 := Tryz.sizeOf9
  v9 := Tryz.zeroValue9 }
open Go.RowKit in
theorem Tryz.stringslite_IndexByte (s : ByteArray) (c : Int) (w : World) :
    Calls Tryz.prog 191 #[.string s, .int .u8 c] w fun e w' => e = .returned (.int .i64 (Lib.indexByte s.data.toList c.toNat.toUInt8)) ∧ w' = w := Any.stringslite_IndexByte Tryz.lays217 s c w
end Go.Proofs
namespace Go.Proofs.YtpiponkhhimaoaaGreatDoor
open Go.RowKit Go.Maps Go.Sort Go.Shelf

theorem indexByte_any (s : ByteArray) (c : Int) (w : World) :
    Calls Tryz.prog 178 #[.string s, .int .u8 c] w fun e w' => e = .returned (.int .i64 (Lib.indexByte s.data.toList c.toNat.toUInt8)) ∧ w' = w := by
  go_enter Tryz.func178, Tryz.ntmps178
  go_wp2_with (go_at_call 191; refine (Tryz.stringslite_IndexByte s c _).mono ?_; rintro ev w1 ⟨rfl, rfl⟩)
  go_ret
  exact ⟨rfl, rfl⟩
/-- A digit of a digest. -/
def hexB (c : UInt8) : Bool := decide (48 ≤ c.toNat ∧ c.toNat ≤ 57) || decide (97 ≤ c.toNat ∧ c.toNat ≤ 102)
def isDig (l : List UInt8) : Bool := decide (l.length = 64) && l.all hexB
abbrev hexD : ByteArray := ⟨#[48, 49, 50, 51, 52, 53, 54, 55, 56, 57, 97, 98, 99, 100, 101, 102]⟩
theorem index_no (l : List UInt8) (c : UInt8) : Lib.indexByte l c = -1 ↔ c ∉ l := by
  induction l with
  | nil => simp [Lib.indexByte]
  | cons b r ih =>
    have := Lib.indexByte_ge r c
    unfold Lib.indexByte
    by_cases h : b = c
    · subst h; simp
    · by_cases h2 : Lib.indexByte r c = -1
      · have h3 := ih.1 h2
        simp [h, h2, h3, Ne.symm h]
      · have h3 : c ∈ r := Decidable.byContradiction fun hn => h2 (ih.2 hn)
        simp [h, h2, h3]
        omega
set_option maxRecDepth 100000 in
theorem hex_all : ∀ n : Fin 256, hexB (UInt8.ofNat n.val) = [48, 49, 50, 51, 52, 53, 54, 55, 56, 57, 97, 98, 99, 100, 101, 102].contains (UInt8.ofNat n.val) := by decide +kernel
theorem hex_mem (c : UInt8) : hexB c = [48, 49, 50, 51, 52, 53, 54, 55, 56, 57, 97, 98, 99, 100, 101, 102].contains c := by
  have h := hex_all ⟨c.toNat, c.toNat_lt⟩
  simpa using h
theorem hex_index (c : UInt8) : (Lib.indexByte hexD.data.toList c < 0) ↔ hexB c = false := by
  rw [hex_mem]
  have h1 := Lib.indexByte_ge hexD.data.toList c
  have h2 := index_no hexD.data.toList c
  constructor
  · intro h
    have := h2.1 (by omega)
    cases hc : [48, 49, 50, 51, 52, 53, 54, 55, 56, 57, 97, 98, 99, 100, 101, 102].contains c
    · rfl
    · exact absurd (List.contains_iff_mem.1 hc) this
  · intro h
    have : c ∉ hexD.data.toList := fun hm => by
      rw [List.contains_iff_mem.2 hm] at h; cases h
    rw [h2.2 this]; omega
theorem dig_bad (s : ByteArray) (k : Nat) (hk : k < s.size) (h : hexB s[k] = false) : isDig s.data.toList = false := by
  have : s.data.toList.all hexB = false := List.all_eq_false.2 ⟨s[k], Array.getElem_mem_toList _, by simp [h]⟩
  rw [isDig, this, Bool.and_false]
theorem dig_snoc (s : ByteArray) (k : Nat) (hk : k < s.size) (h : (s.data.toList.take k).all hexB = true) (h2 : hexB s[k] = true) : (s.data.toList.take (k + 1)).all hexB = true := by
  have e : s.data.toList[k]? = some s[k] := by
    rw [List.getElem?_eq_getElem (by simpa using hk)]; rfl
  rw [List.take_add_one, e, List.all_append, h]
  simp [h2]
theorem dig_all (s : ByteArray) (k : Nat) (hk : s.size ≤ k) (h : (s.data.toList.take k).all hexB = true) : s.data.toList.all hexB = true := by
  rwa [List.take_of_length_le (by rw [← Lib.size_eq]; exact hk)] at h
theorem u8_back (c : UInt8) : ((c.toNat : Int)).toNat.toUInt8 = c := by simp
set_option maxRecDepth 100000 in
theorem isDig_any (s : ByteArray) (w : World) : Calls Tryz.prog 145 #[.string s] w fun e w' => e = .returned (.bool (isDig s.data.toList)) ∧ w' = w := by
  have hl : s.data.toList.length = s.size := (Lib.size_eq s).symm
  by_cases h64 : s.size = 64
  · have H64 := hide h64
    have hi : ((s.size : Int) != 64) = false := by simp [h64]
    go_enter Tryz.func145, Tryz.ntmps145
    go_wp2
    go_loop [9] (fun i => ∃ k : Nat, k ≤ s.size ∧ i = .int .i64 k ∧ Hid ((s.data.toList.take k).all hexB = true)) (fun i => s.size - (intOf i).toNat)
    case atStart => exact ⟨0, Nat.zero_le _, rfl, hide rfl⟩
    case round =>
      obtain ⟨k, hk, rfl, A⟩ := hrel
      by_cases hlt : k < s.size
      · cases hok : hexB s[k]
        · have B := hide (dig_bad s k hlt hok)
          have hx : Lib.indexByte [48, 49, 50, 51, 52, 53, 54, 55, 56, 57, 97, 98, 99, 100, 101, 102] s[k] < 0 := (hex_index s[k]).2 hok
          go_wp2_with (go_at_call 178; refine (indexByte_any _ _ _).mono ?_; rintro e w' ⟨rfl, rfl⟩)
          go_ret
          exact ⟨by rw [unhide B]; rfl, rfl⟩
        · have B := hide (dig_snoc s k hlt (unhide A) hok)
          have hx : ¬ (Lib.indexByte [48, 49, 50, 51, 52, 53, 54, 55, 56, 57, 97, 98, 99, 100, 101, 102] s[k] < 0) := fun hh => by rw [(hex_index s[k]).1 hh] at hok; cases hok
          go_wp2_with (go_at_call 178; refine (indexByte_any _ _ _).mono ?_; rintro e w' ⟨rfl, rfl⟩)
          go_round
          case rel => exact ⟨k + 1, by omega, by go_num, B⟩
          case measure => simp [intOf]; omega
      · have B := hide (dig_all s k (by omega) (unhide A))
        go_wp2
        go_ret
        exact ⟨by rw [isDig, unhide B, hl, unhide H64]; rfl, rfl⟩
  · have hi : ((s.size : Int) != 64) = true := by simp; omega
    have hv : isDig s.data.toList = false := by rw [isDig, hl]; simp [h64]
    rw [hv]
    go_enter Tryz.func145, Tryz.ntmps145
    go_wp2
    go_ret
    exact ⟨rfl, rfl⟩
end Go.Proofs.YtpiponkhhimaoaaGreatDoor
