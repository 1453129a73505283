import Derived.Test.YtjofjcjojgpaeaaGreatDoorJUnpL
import Derived.Test.YtjofjcjojgpaeaaGreatDoorJLst
import Derived.Test.YtjofjcjojgpaeaaGreatDoorJPatY
import Derived.Test.YtjofjcjojgpaeaaGreatDoorJRefH
import Derived.Laws.BitsLemmas
import Derived.BigQuiet
namespace Go.Proofs.YtjofjcjojgpaeaaGreatDoor
open Go.RowKit Go.Maps

theorem bits_xor_u8 (a b : Nat) (ha : a < 256) (hb : b < 256) : bits .xor .u8 (a : Int) (b : Int) = ((a ^^^ b : Nat) : Int) := by
  have hx : a ^^^ b < 2 ^ 8 := Nat.xor_lt_two_pow (by omega) (by omega)
  have h1 : (BitVec.ofInt 8 (a : Int)).toNat = a := by
    rw [BitVec.ofInt_natCast, BitVec.toNat_ofNat]; exact Nat.mod_eq_of_lt (by omega)
  have h2 : (BitVec.ofInt 8 (b : Int)).toNat = b := by
    rw [BitVec.ofInt_natCast, BitVec.toNat_ofNat]; exact Nat.mod_eq_of_lt (by omega)
  show IntKind.u8.wrap ((BitVec.ofInt 8 (a : Int) ^^^ BitVec.ofInt 8 (b : Int)).toNat : Int) = _
  rw [BitVec.toNat_xor, h1, h2, IntKind.wrap_u8]
  omega
theorem xor_same {a b : Nat} (h : a ^^^ b = a) : b = 0 := by
  have h2 : a ^^^ (a ^^^ b) = b := by rw [← Nat.xor_assoc, Nat.xor_self, Nat.zero_xor]
  rw [h, Nat.xor_self] at h2
  exact h2.symm
/-- A byte, turned. -/
theorem turned (a : UInt8) (b : Int) (h0 : 0 ≤ b) (h1 : b ≤ 255) : ∃ x : UInt8, bits .xor .u8 (a.toNat : Int) b = (x.toNat : Int) ∧ (x = a ↔ b = 0) := by
  obtain ⟨n, rfl⟩ := Int.eq_ofNat_of_zero_le h0
  have ha := a.toNat_lt
  have hn : n < 256 := by omega
  have hx : a.toNat ^^^ n < 2 ^ 8 := Nat.xor_lt_two_pow (by omega) (by omega)
  refine ⟨UInt8.ofNat (a.toNat ^^^ n), ?_, ?_⟩
  · rw [bits_xor_u8 _ _ (by omega) hn, UInt8.toNat_ofNat']; omega
  · constructor
    · intro e
      have := congrArg UInt8.toNat e
      rw [UInt8.toNat_ofNat', Nat.mod_eq_of_lt (by omega)] at this
      rw [xor_same this]; rfl
    · intro e
      have : n = 0 := by omega
      subst this
      rw [Nat.xor_zero]
      apply UInt8.toNat_inj.1
      rw [UInt8.toNat_ofNat']; omega
theorem pickR_any (c : Int) (n : Nat) (w : World) (hn : 0 < n) (hn2 : n ≤ 1073741824) :
    Calls Tryz.prog 17 #[.int .i64 c, .int .i64 n] w fun ev w' => ∃ k : Nat, ev = .returned (.int .i64 k) ∧ k < n ∧ w' = w := by
  obtain ⟨r, hr⟩ : ∃ r, r = c.tmod (n : Int) := ⟨_, rfl⟩
  have h1 : r < (n : Int) := by rw [hr]; exact Int.tmod_lt_of_pos _ (by omega)
  have h2 : -(n : Int) < r := by rw [hr]; exact Int.lt_tmod_of_pos _ (by omega)
  have n0 : ¬ (n : Int) = 0 := by omega
  have n1 : ((n : Int) == 0) = false := by simpa using n0
  have hr2 : c.tmod (n : Int) = r := hr.symm
  clear hr
  by_cases h0 : r < 0
  · obtain ⟨k, hk⟩ := Int.eq_ofNat_of_zero_le (by omega : 0 ≤ r + n)
    go_enter Tryz.func17, Tryz.ntmps17
    go_wp2
    go_ret
    exact ⟨k, by first | rfl | (congr 2), by omega, rfl⟩
  · obtain ⟨k, hk⟩ := Int.eq_ofNat_of_zero_le (by omega : 0 ≤ r)
    go_enter Tryz.func17, Tryz.ntmps17
    go_wp2
    go_ret
    exact ⟨k, by first | rfl | (congr 2), by omega, rfl⟩
theorem pickK_any (c : Int) (n : Nat) (w : World) (hn : 0 < n) (hn2 : n ≤ 1073741824) :
    Calls Tryz.prog 14 #[.int .i64 c, .int .i64 n] w fun ev w' => ∃ k : Nat, ev = .returned (.int .i64 k) ∧ k < n ∧ w' = w := by
  have h := pickR_any c n w hn hn2
  go_enter Tryz.func14, Tryz.ntmps14
  go_wp2_with (go_at_call 17; refine h.mono ?_; clear h; rintro ev w1 ⟨k, rfl, hk, hw⟩; obtain rfl := hw.symm)
  go_ret
  exact ⟨k, rfl, hk, rfl⟩
theorem bad_le {s : List UInt8} {i : Nat} (h : UnpBad s i) : i ≤ s.length := by
  obtain ⟨cs, r, _, e, hi, _⟩ := h
  rw [e, List.length_append]; omega
theorem unp_pack {s : List UInt8} {cs : List Ent} (h : UnpOk s cs) : packL cs = s := h.2.symm
theorem pack_unp {cs : List Ent} (h : Chain cs) : UnpOk (packL cs) cs := ⟨h, rfl⟩
theorem set_same {l : List UInt8} {k : Nat} (hk : k < l.length) : l.set k (l.getD k 0) = l := by
  rw [List.getD_eq_getElem?_getD, List.getElem?_eq_getElem hk]
  simp
theorem set_other {l : List UInt8} {k : Nat} {x : UInt8} (hk : k < l.length) (h : x ≠ l.getD k 0) : l.set k x ≠ l := fun e => by
  have := congrArg (fun l => l.getD k 0) e
  simp only [List.getD_eq_getElem?_getD] at this
  rw [List.getElem?_set_self hk] at this
  exact h (by rw [List.getD_eq_getElem?_getD]; simpa using this)
theorem pack_len {cs : List Ent} (h : Chain cs) : 1024 ≤ (packL cs).length ∧ (packL cs).length ≤ 481024 := by
  have h1 := packs_len (fun c hc => pkg_of (chain_ch h hc)) cs.length
  rw [List.take_length] at h1
  have h2 := chain_len h
  rw [packL, List.length_append, List.length_replicate]
  omega
end Go.Proofs.YtjofjcjojgpaeaaGreatDoor

namespace Go.Proofs.YtjofjcjojgpaeaaGreatDoor
open Go.RowKit

theorem at_list (s : ByteArray) (k : Nat) (h : k < s.size) : s.data.toList[k]? = some s[k] := by
  rw [List.getElem?_eq_getElem (by rw [← Lib.size_eq]; exact h)]; rfl
set_option maxHeartbeats 400000 in
theorem nghts_any (s : ByteArray) (w : World) (hs : s.size ≤ 1073741824) (hz : ∀ b ∈ s.data.toList, b = 0) :
    Calls Tryz.prog 13 #[.string s] w fun ev w' => ev = .returned (.bool true) ∧ w' = w := by
  have HZ : Hid (∀ k (h : k < s.size), s[k] = 0) := hide (fun k h => hz _ (List.mem_of_getElem? (at_list s k h)))
  clear hz
  go_enter Tryz.func13, Tryz.ntmps13
  go_wp2
  go_loop [3] (fun i => ∃ k : Nat, k ≤ s.size ∧ i = .int .i64 k) (fun i => s.size - (intOf i).toNat)
  case atStart => exact ⟨0, Nat.zero_le _, rfl⟩
  case round =>
    obtain ⟨k, hk, rfl⟩ := hrel
    by_cases hlt : k < s.size
    · have hx : (s[k].toNat : Int) = 0 := by rw [unhide HZ k hlt]; rfl
      go_wp2
      go_round
      case rel => exact ⟨k + 1, by omega, by go_num⟩
      case measure => simp [intOf]; omega
    · go_wp2
      go_ret
      exact ⟨rfl, rfl⟩
theorem fill_at {t : List UInt8} {n k : Nat} (h : t.length ≤ k) (hk : k < (fillL t n).length) : (fillL t n)[k]? = some 0 := by
  rw [fillL, List.getElem?_append_right h, List.getElem?_replicate, if_pos]
  simp only [fillL, List.length_append, List.length_replicate] at hk; omega
set_option maxHeartbeats 400000 in
theorem head_any (s : ByteArray) (t : List UInt8) (n : Nat) (w : World) (hs : s.size ≤ 1073741824) (hl : s.data.toList = fillL t n) (h0 : (0 : UInt8) ∉ t) :
    Calls Tryz.prog 24 #[.string s] w fun ev w' => ev = .returned (.tuple #[.int .i64 (t.length : Int), .bool true]) ∧ w' = w := by
  have hz : s.size = t.length + (n - t.length) := by rw [Lib.size_eq, hl, fillL, List.length_append, List.length_replicate]
  have HA : Hid (∀ k (h : k < s.size), k < t.length → ¬ (s[k].toNat : Int) = 0) := hide (fun k h hk e => by
    have h1 := at_list s k h
    rw [hl, fillL, List.getElem?_append_left hk] at h1
    apply h0
    have e2 : s[k] = 0 := UInt8.toNat_inj.1 (by simpa using e)
    rw [e2] at h1
    exact List.mem_of_getElem? h1)
  have HB : Hid (∀ k (h : k < s.size), t.length ≤ k → (s[k].toNat : Int) = 0) := hide (fun k h hk => by
    have h1 := at_list s k h
    rw [hl, fill_at hk (by rw [← hl, ← Lib.size_eq]; exact h)] at h1
    have := Option.some.inj h1
    rw [← this]; rfl)
  have HC : Hid (∀ b ∈ (s.extract t.length s.size).data.toList, b = 0) := hide (fun b hb => by
    rw [ext_drop, bt_list, hl, fillL, List.drop_left] at hb
    exact (List.mem_replicate.1 hb).2)
  have hxz : (s.extract t.length s.size).size ≤ 1073741824 := by rw [ByteArray.size_extract]; omega
  obtain ⟨tl, htl⟩ : ∃ tl, tl = t.length := ⟨_, rfl⟩
  rw [← htl] at hz HA HB HC hxz ⊢
  have hz2 : tl ≤ s.size := by omega
  clear hl h0 hz htl
  have HX := hide hxz
  clear hxz
  go_enter Tryz.func24, Tryz.ntmps24
  go_wp2
  go_loop [4] (fun i => ∃ k : Nat, k ≤ tl ∧ i = .int .i64 k) (fun i => tl - (intOf i).toNat)
  case atStart => exact ⟨0, Nat.zero_le _, rfl⟩
  case round =>
    obtain ⟨k, hk, rfl⟩ := hrel
    by_cases hlt : k < tl
    · have hks : k < s.size := by omega
      have hx := unhide HA k hks hlt
      go_wp2
      go_round
      case rel => exact ⟨k + 1, by omega, by go_num⟩
      case measure => simp [intOf]; omega
    · have hkk : k = tl := by omega
      subst hkk
      by_cases hks : k < s.size
      · have hx := unhide HB k hks (by omega)
        have k0 : (0 : Int) ≤ (k : Int) := by omega
        have k1 : (k : Int) ≤ (s.size : Int) := by omega
        go_wp2_with (go_at_call 13; refine (nghts_any _ _ (unhide HX) (unhide HC)).mono ?_; rintro ev w1 ⟨rfl, hw1⟩; obtain rfl := hw1.symm)
        go_ret2
        exact ⟨rfl, rfl⟩
      · have : s.size = k := by omega
        go_wp2
        go_ret2
        exact ⟨rfl, rfl⟩
set_option maxHeartbeats 400000 in
theorem field_any (s : ByteArray) (v n : Nat) (w : World) (hs : s.size ≤ 1073741824) (hl : s.data.toList = digL v n) :
    Calls Tryz.prog 25 #[.string s] w fun ev w' => ev = .returned (.bool true) ∧ w' = w := by
  rw [digL_eq] at hl
  have hz : s.size = (digN v n).length + 1 := by rw [Lib.size_eq, hl, List.length_append, List.length_replicate]
  obtain ⟨d, hd⟩ : ∃ d, d = (digN v n).length := ⟨_, rfl⟩
  have HA : Hid (∀ k (h : k < s.size), k < d → 48 ≤ (s[k].toNat : Int) ∧ (s[k].toNat : Int) ≤ 55) := hide (fun k h hk => by
    have h1 := at_list s k h
    rw [hl, List.getElem?_append_left (by omega)] at h1
    have := of_decide_eq_true (List.all_eq_true.1 (digN_oct v n) _ (List.mem_of_getElem? h1))
    omega)
  have HB : Hid (∀ (h : d < s.size), (s[d].toNat : Int) = 0) := hide (fun h => by
    have h1 := at_list s d h
    rw [hl, List.getElem?_append_right (by omega), show d - (digN v n).length = 0 by omega] at h1
    have := Option.some.inj h1
    rw [← this]; rfl)
  rw [← hd] at hz
  clear hl hd
  have hds : d < s.size := by omega
  have hx0 := unhide HB hds
  have hzz : (s.size : Int) = (d : Int) + 1 := by omega
  go_enter Tryz.func25, Tryz.ntmps25
  go_wp2
  go_loop [3] (fun i => ∃ k : Nat, k ≤ d ∧ i = .int .i64 k) (fun i => d - (intOf i).toNat)
  case atStart => exact ⟨0, Nat.zero_le _, rfl⟩
  case round =>
    obtain ⟨k, hk, rfl⟩ := hrel
    by_cases hlt : k < d
    · have hks : k < s.size := by omega
      obtain ⟨hx1, hx2⟩ := unhide HA k hks hlt
      go_wp2
      go_round
      case rel => exact ⟨k + 1, by omega, by go_num⟩
      case measure => simp [intOf]; omega
    · have hkk : k = d := by omega
      subst hkk
      have hsub : (s.size : Int) - 1 = k := by omega
      have hsn : s.size - 1 = k := by omega
      have hlast : ∀ W : World, (Instr.index 9 (.string s) (.int .i64 ((s.size : Int) - 1))).run Tryz.prog W = .ok (.int .u8 0) W := fun W => by
        rw [hsub, run_index_string _ _ _ _ _ Tryz.underlying9, dif_pos ⟨by omega, by omega⟩]
        exact congrArg (fun x => Result.ok (Value.int .u8 x) W) hx0
      go_wp2
      go_ret
      exact ⟨rfl, rfl⟩
set_option maxHeartbeats 400000 in
theorem value_any (s : ByteArray) (v n : Nat) (w : World) (hn : n ≤ 11) (ho : (octL v).length ≤ n) (hl : s.data.toList = digL v n) :
    Calls Tryz.prog 26 #[.string s] w fun ev w' => ev = .returned (.int .i64 (v : Int)) ∧ w' = w := by
  rw [digL_eq] at hl
  have hdn : (digN v n).length = n := digN_len ho
  have hz : s.size = n + 1 := by rw [Lib.size_eq, hl, List.length_append, List.length_replicate, hdn]
  have HV : Hid (octV ((digN v n).take n) = v) := hide (by rw [List.take_of_length_le (by omega), digN_val])
  have HA : Hid (∀ k (h : k < s.size), k < n → 48 ≤ s[k].toNat ∧ s[k].toNat ≤ 55 ∧ octV ((digN v n).take (k + 1)) = octV ((digN v n).take k) * 8 + (s[k].toNat - 48)) := hide (fun k h hk => by
    have h1 := at_list s k h
    rw [hl, List.getElem?_append_left (by omega)] at h1
    have := of_decide_eq_true (List.all_eq_true.1 (digN_oct v n) _ (List.mem_of_getElem? h1))
    refine ⟨this.1, this.2, ?_⟩
    rw [List.take_add_one, h1]
    exact octV_snoc _ _)
  obtain ⟨f, hf⟩ : ∃ f : Nat → Nat, f = fun k => octV ((digN v n).take k) := ⟨_, rfl⟩
  have HF0 : Hid (f 0 = 0) := hide (by rw [hf]; rfl)
  have HFv : Hid (f n = v) := hide (by rw [hf]; exact unhide HV)
  have HFs : Hid (∀ k (h : k < s.size), k < n → 48 ≤ s[k].toNat ∧ s[k].toNat ≤ 55 ∧ f (k + 1) = f k * 8 + (s[k].toNat - 48)) := hide (by rw [hf]; exact unhide HA)
  clear hl hdn HV HA hf ho
  go_enter Tryz.func26, Tryz.ntmps26
  go_wp2
  go_loop [3, 4] (fun a i => ∃ k m : Nat, k ≤ n ∧ i = .int .i64 k ∧ a = .int .i64 m ∧ Hid (m = f k ∧ m < 8 ^ k)) (fun _ i => n - (intOf i).toNat)
  case atStart => exact ⟨0, 0, Nat.zero_le _, rfl, rfl, hide ⟨(unhide HF0).symm, by decide⟩⟩
  case round =>
    obtain ⟨k, m, hk, rfl, rfl, HM⟩ := hrel
    obtain ⟨hm1, hm2⟩ := unhide HM
    clear HM
    have h8 : (8 : Nat) ^ k ≤ 8 ^ 11 := Nat.pow_le_pow_right (by omega) (by omega)
    have h11 : (8 : Nat) ^ 11 = 8589934592 := by decide
    rw [h11] at h8
    have m1 : m < 8589934592 := by omega
    clear h11 h8
    by_cases hlt : k < n
    · have hks : k < s.size := by omega
      obtain ⟨x1, x2, x3⟩ := unhide HFs k hks hlt
      have HN : Hid (8 * m + (s[k].toNat - 48) = f (k + 1) ∧ 8 * m + (s[k].toNat - 48) < 8 ^ (k + 1)) := hide ⟨by omega, by rw [Nat.pow_succ]; omega⟩
      clear x3 hm1 hm2
      generalize hy : s[k] = y at x1 x2 HN
      have i1 : (48 : Int) ≤ (y.toNat : Int) := by omega
      have i2 : (y.toNat : Int) ≤ 55 := by omega
      go_wp2
      go_round
      case rel => exact ⟨k + 1, 8 * m + (y.toNat - 48), by omega, by go_num, by go_num, HN⟩
      case measure => simp [intOf]; omega
    · have hkk : k = n := by omega
      subst hkk
      obtain rfl : m = v := hm1.trans (unhide HFv)
      clear hm1 hm2
      go_wp2
      go_ret
      exact ⟨rfl, rfl⟩
end Go.Proofs.YtjofjcjojgpaeaaGreatDoor

namespace Go.Proofs.YtjofjcjojgpaeaaGreatDoor
open Go.RowKit

/-- No two slashes in a row. -/
def ND (l : List UInt8) : Prop := ∀ i : Nat, l[i]? = some 47 → l[i + 1]? ≠ some 47
theorem nd_no {l : List UInt8} (h : (47 : UInt8) ∉ l) : ND l := fun _ e _ => h (List.mem_of_getElem? e)
theorem nd_join {A B : List UInt8} (hA : ND A) (hl : A.getLast? ≠ some 47) (hB : ND B) (hh : B.head? ≠ some 47) : ND (A ++ 47 :: B) := fun i h1 h2 => by
  by_cases ha : i + 1 < A.length
  · rw [List.getElem?_append_left (by omega)] at h1
    rw [List.getElem?_append_left ha] at h2
    exact hA i h1 h2
  · by_cases hb : i < A.length
    · rw [List.getElem?_append_left hb] at h1
      apply hl
      rw [List.getLast?_eq_getElem?, show A.length - 1 = i by omega]; exact h1
    · rw [List.getElem?_append_right (by omega)] at h1 h2
      by_cases hc : i = A.length
      · rw [show i + 1 - A.length = 0 + 1 by omega, List.getElem?_cons_succ] at h2
        apply hh
        rw [List.head?_eq_getElem?]; exact h2
      · rw [show i - A.length = (i - A.length - 1) + 1 by omega, List.getElem?_cons_succ] at h1
        rw [show i + 1 - A.length = (i - A.length - 1 + 1) + 1 by omega, List.getElem?_cons_succ] at h2
        exact hB _ h1 h2
theorem nd_left {A B : List UInt8} (h : ND (A ++ 47 :: B)) : ND A ∧ A.getLast? ≠ some 47 := by
  constructor
  · intro i h1 h2
    have i1 : i < A.length := (List.getElem?_eq_some_iff.1 h1).1
    have i2 : i + 1 < A.length := (List.getElem?_eq_some_iff.1 h2).1
    exact h i (by rw [List.getElem?_append_left i1]; exact h1) (by rw [List.getElem?_append_left i2]; exact h2)
  · intro e
    rw [List.getLast?_eq_getElem?] at e
    have i1 : A.length - 1 < A.length := (List.getElem?_eq_some_iff.1 e).1
    refine h (A.length - 1) (by rw [List.getElem?_append_left i1]; exact e) ?_
    rw [List.getElem?_append_right (by omega), show A.length - 1 + 1 - A.length = 0 by omega]; rfl
theorem elt_ne {l : List UInt8} (h : elt l = true) : l ≠ [] := fun e => by
  subst e; revert h; decide
theorem isP_elts {l : List UInt8} (h : isP l = true) (hl : l ≠ []) : [] ∉ spl l := fun hm => by
  unfold isP at h
  simp only [Bool.and_eq_true, decide_eq_true_eq] at h
  rw [prt_ne hl] at h
  exact elt_ne (List.all_eq_true.1 h.2 _ hm) rfl
theorem nd_path {l : List UInt8} (h : isP l = true) : ND l ∧ l.getLast? ≠ some 47 := by
  by_cases hl : l = []
  · subst hl; exact ⟨fun i e => by simp at e, by simp⟩
  · have hn := isP_elts h hl
    constructor
    · intro i h1 h2
      have i1 : i < l.length := (List.getElem?_eq_some_iff.1 h1).1
      have e : l = l.take i ++ 47 :: l.drop (i + 1) := by
        conv => lhs; rw [← List.take_append_drop i l]
        rw [List.drop_eq_getElem_cons i1]
        rw [List.getElem?_eq_getElem i1] at h1
        rw [Option.some.inj h1]
      apply hn
      rw [e, spl_app]
      refine List.mem_append_right _ (spl_head47 ?_)
      rw [List.head?_drop]; exact h2
    · intro e
      rw [List.getLast?_eq_some_iff] at e
      obtain ⟨a, rfl⟩ := e
      apply hn
      rw [spl_sep]; simp
theorem name_nd {c : Ent} (h : chOk c = true) : ND (nameL c) := by
  obtain ⟨hp, hl⟩ := nd_path (chOk_path h).1
  unfold nameL
  split
  · exact nd_join hp hl (nd_no (by simp)) (by simp)
  · split
    · by_cases hs : 47 ∈ c.path.data.toList
      · obtain ⟨a, b, e, hb⟩ := last_slash hs
        rw [e] at hp ⊢
        rw [(dir_at hb).1, (dir_at hb).2]
        obtain ⟨h1, h2⟩ := nd_left hp
        have h3 : (47 : UInt8) ∉ whL ++ b := by
          simp only [List.mem_append, not_or]; exact ⟨by decide, hb⟩
        unfold inL
        split
        · exact nd_no h3
        · exact nd_join h1 h2 (nd_no h3) (by simp [whL])
      · rw [(dir_no hs).1, (dir_no hs).2]
        unfold inL
        rw [if_pos rfl]
        exact nd_no (by simp only [List.mem_append, not_or]; exact ⟨by decide, hs⟩)
    · split
      · unfold inL
        split
        · exact nd_no (by decide)
        · exact nd_join hp hl (nd_no (by decide)) (by decide)
      · exact hp
theorem rest_ne {n : List UInt8} (hr : Run 69 n) (h1 : 100 < n.length) (h2 : n.length ≤ 183) : (partL n).2 ≠ [] := by
  obtain ⟨j, j1, j2, j3⟩ := hr (n.length - 101) (by omega)
  obtain ⟨i, hi, hi1, hi2, hi3⟩ := first_slash hr h1 h2
  have hs : slashFrom n (n.length - 101) = some i := hi
  rw [partL, if_neg (by omega), hs]
  show n.drop (i + 1) ≠ []
  have hij : i ≤ j := by
    obtain ⟨_, k, hk, ek, hb⟩ := List.find?_eq_some_iff_getElem.1 hi
    rw [List.getElem_range] at ek
    subst ek
    rcases Nat.lt_or_ge j k with h | h
    · have h3 := hb j h
      rw [List.getElem_range, j3] at h3
      simp at h3; omega
    · exact h
  intro e
  have := congrArg List.length e
  rw [List.length_drop] at this
  simp at this
  omega
/-- What the two parts of a name are. -/
structure PartF (n : List UInt8) : Prop where
  ne : (partL n).2 ≠ []
  last : (partL n).2.getLast? = n.getLast?
  ahead : (partL n).1 ≠ [] → (partL n).1.getLast? ≠ some 47 ∧ (partL n).2.head? ≠ some 47
theorem part_facts {n : List UInt8} (hr : Run 69 n) (hl : n.length ≤ 183) (hne : n ≠ []) (hd : ND n) : PartF n := by
  by_cases h : n.length ≤ 100
  · have e : partL n = ([], n) := by unfold partL; rw [if_pos h]
    exact ⟨by rw [e]; exact hne, by rw [e], fun h => by rw [e] at h; exact absurd rfl h⟩
  · have h2 := rest_ne hr (by omega) hl
    obtain ⟨i, hs⟩ : ∃ i, slashFrom n (n.length - 101) = some i := by
      rcases (part_ok hr hl).2.2 with h3 | h3
      · omega
      · exact h3
    have e : partL n = (n.take i, n.drop (i + 1)) := by unfold partL; rw [if_neg h, hs]
    obtain ⟨h3, h4, h5, h6⟩ := slash_some hs
    rw [e] at h2
    have hi : n[i]? = some 47 := by
      have h7 := congrArg (fun x => x[i - (n.length - 101)]?) h5
      rw [List.getElem?_drop, show n.length - 101 + (i - (n.length - 101)) = i by omega, List.getElem?_append_right (by rw [List.length_take]; omega)] at h7
      rw [h7, List.length_take, List.length_drop, show i - (n.length - 101) - min (i - (n.length - 101)) (n.length - (n.length - 101)) = 0 by omega]; rfl
    have en : n = n.take i ++ 47 :: n.drop (i + 1) := by
      conv => lhs; rw [← List.take_append_drop i n]
      rw [List.drop_eq_getElem_cons h4]
      rw [List.getElem?_eq_getElem h4] at hi
      rw [Option.some.inj hi]
    refine ⟨by rw [e]; exact h2, ?_, fun _ => ?_⟩
    · rw [e]
      have h8 : n.drop (i + 1) ≠ [] := h2
      have hlt : i + 1 < n.length := by
        rcases Nat.lt_or_ge (i + 1) n.length with h9 | h9
        · exact h9
        · exact absurd (List.drop_eq_nil_of_le h9) h8
      show (n.drop (i + 1)).getLast? = n.getLast?
      rw [List.getLast?_drop, if_neg (by omega)]
    · rw [e]
      constructor
      · rw [en] at hd
        exact (nd_left hd).2
      · show (n.drop (i + 1)).head? ≠ some 47
        rw [List.head?_drop]
        exact hd i hi
theorem name_ne {c : Ent} (h : chOk c = true) : nameL c ≠ [] := by
  have hp := (chOk_path h).2
  unfold nameL
  split
  · simp
  · split
    · unfold inL; split <;> simp [whL]
    · split
      · unfold inL; split <;> simp [opqL]
      · rename_i _ h2 h3
        exact fun e => h3 (hp e)
theorem name_part {c : Ent} (h : chOk c = true) : PartF (nameL c) := part_facts (name_run h).1 (name_run h).2 (name_ne h) (name_nd h)
theorem dir_last {c : Ent} (h : chOk c = true) (hk : c.kind = 1) : (partL (nameL c)).2.getLast? = some 47 := by
  rw [(name_part h).last, nameL, if_pos hk]; simp
theorem link_ne {c : Ent} (h : chOk c = true) (hk : c.kind = 3) : linkL c ≠ [] := by
  unfold chOk at h
  rw [if_neg (by omega)] at h
  have hg := (ent_parts h).2.2
  unfold goodE at hg
  rw [if_neg (by omega), if_neg (by omega), if_pos hk] at hg
  simp only [tgt, Bool.and_eq_true, decide_eq_true_eq] at hg
  rw [linkL, if_pos hk]
  simpa using hg.2.1.2
end Go.Proofs.YtjofjcjojgpaeaaGreatDoor

namespace Go.Proofs.YtjofjcjojgpaeaaGreatDoor
open Go.RowKit

theorem ext_fldT (s : ByteArray) (a b : Nat) : (s.extract a b).data.toList = fldL s.data.toList a (b - a) := by rw [Lib.extract_data]; rfl
theorem entry_all (c : Ent) : entryL c = blockL c ++ (dataL c ++ List.replicate (padL (dataL c).length) 0) := by
  simp only [entryL, blockL, List.append_assoc]
structure BlkF (c : Ent) (s : List UInt8) : Prop where
  len : s.length = 512
  name : fldL s 0 100 = fillL (partL (nameL c)).2 100
  f100 : fldL s 100 8 = digL c.mode.toNat 7
  f108 : fldL s 108 8 = digL 0 7
  f116 : fldL s 116 8 = digL 0 7
  f124 : fldL s 124 12 = digL (dataL c).length 11
  f136 : fldL s 136 12 = digL 0 11
  f148 : fldL s 148 7 = digL (totalL c) 6
  f155 : fldL s 155 1 = [32]
  f156 : fldL s 156 1 = [flagL c]
  link : fldL s 157 100 = fillL (linkL c) 100
  magic : fldL s 257 8 = magicL
  f265 : fldL s 265 64 = List.replicate 64 0
  f329 : fldL s 329 8 = digL 0 7
  f337 : fldL s 337 8 = digL 0 7
  ahead : fldL s 345 155 = fillL (partL (nameL c)).1 155
  f500 : fldL s 500 12 = List.replicate 12 0
  sumA : s.take 148 = headL c
  sumB : s.drop 156 = tailL c
structure OctF (c : Ent) : Prop where
  o1 : (octL c.mode.toNat).length ≤ 7
  o2 : (octL (dataL c).length).length ≤ 11
  o3 : (octL (totalL c)).length ≤ 6
  rest : (partL (nameL c)).2.length ≤ 100
  ahead : (partL (nameL c)).1.length ≤ 155
  link : (linkL c).length ≤ 100
  file : (dataL c).length ≤ 4096
  total : totalL c < 262144
theorem oct_f {c : Ent} (h : chOk c = true) : OctF c := by
  obtain ⟨m, hm⟩ := (pkg_of h).pkc
  refine ⟨?_, ?_, ?_, hm.rest, hm.ahead, hm.link, hm.file, total_lt hm⟩
  · have := octL_lt 2 c.mode.toNat (by have := hm.mode; have := hm.m512; simp; omega)
    omega
  · have := octL_lt 4 (dataL c).length (by have := hm.file; simp; omega)
    omega
  · exact octL_lt 5 (totalL c) (by have := total_lt hm; simp; omega)
theorem blk_f {c : Ent} (h : chOk c = true) : BlkF c (blockL c) := by
  obtain ⟨m, hm⟩ := (pkg_of h).pkc
  have z7 := oct0 7 (by omega)
  have z11 := oct0 11 (by omega)
  obtain ⟨o1, o2, o3, _, _, _, _, _⟩ := oct_f h
  have l1 := fillL_len hm.rest
  have l2 := fillL_len hm.link
  have l3 := fillL_len hm.ahead
  have d1 := digL_len o1
  have d2 := digL_len o2
  have d3 := digL_len o3
  have d7 := digL_len z7
  have d11 := digL_len z11
  have hh := head_len hm
  have ht := tail_len hm
  refine ⟨?_, ?_, ?_, ?_, ?_, ?_, ?_, ?_, ?_, ?_, ?_, ?_, ?_, ?_, ?_, ?_, ?_, ?_, ?_⟩
  · simp only [blockL, List.length_append, hh, d3, ht, List.length_cons, List.length_nil]
  · exact fld_at (A := []) (by simp only [blockL, headL, tailL, List.append_assoc, List.nil_append, List.prefix_append]) rfl l1
  · exact fld_at (A := fillL (partL (nameL c)).2 100) (by simp only [blockL, headL, tailL, List.append_assoc, List.prefix_append_right_inj, List.prefix_append]) l1 d1
  · exact fld_at (A := fillL (partL (nameL c)).2 100 ++ digL c.mode.toNat 7) (by simp only [blockL, headL, tailL, List.append_assoc, List.prefix_append_right_inj, List.prefix_append]) (by simp only [List.length_append, l1, d1]) d7
  · exact fld_at (A := fillL (partL (nameL c)).2 100 ++ digL c.mode.toNat 7 ++ digL 0 7) (by simp only [blockL, headL, tailL, List.append_assoc, List.prefix_append_right_inj, List.prefix_append]) (by simp only [List.length_append, l1, d1, d7]) d7
  · exact fld_at (A := fillL (partL (nameL c)).2 100 ++ digL c.mode.toNat 7 ++ digL 0 7 ++ digL 0 7) (by simp only [blockL, headL, tailL, List.append_assoc, List.prefix_append_right_inj, List.prefix_append]) (by simp only [List.length_append, l1, d1, d7]) d2
  · exact fld_at (A := fillL (partL (nameL c)).2 100 ++ digL c.mode.toNat 7 ++ digL 0 7 ++ digL 0 7 ++ digL (dataL c).length 11) (by simp only [blockL, headL, tailL, List.append_assoc, List.prefix_append_right_inj, List.prefix_append]) (by simp only [List.length_append, l1, d1, d7, d2]) d11
  · exact fld_at (A := headL c) (by simp only [blockL, List.append_assoc, List.prefix_append_right_inj, List.prefix_append]) hh d3
  · exact fld_at (A := headL c ++ digL (totalL c) 6) (by simp only [blockL, List.append_assoc, List.prefix_append_right_inj, List.prefix_append]) (by simp only [List.length_append, hh, d3]) rfl
  · exact fld_at (A := headL c ++ digL (totalL c) 6 ++ [32]) (by simp only [blockL, tailL, List.append_assoc, List.prefix_append_right_inj, List.prefix_append]) (by simp only [List.length_append, hh, d3, List.length_cons, List.length_nil]) rfl
  · exact fld_at (A := headL c ++ digL (totalL c) 6 ++ [32] ++ [flagL c]) (by simp only [blockL, tailL, List.append_assoc, List.prefix_append_right_inj, List.prefix_append]) (by simp only [List.length_append, hh, d3, List.length_cons, List.length_nil]) l2
  · exact fld_at (A := headL c ++ digL (totalL c) 6 ++ [32] ++ [flagL c] ++ fillL (linkL c) 100) (by simp only [blockL, tailL, List.append_assoc, List.prefix_append_right_inj, List.prefix_append]) (by simp only [List.length_append, hh, d3, l2, List.length_cons, List.length_nil]) rfl
  · exact fld_at (A := headL c ++ digL (totalL c) 6 ++ [32] ++ [flagL c] ++ fillL (linkL c) 100 ++ magicL) (by simp only [blockL, tailL, List.append_assoc, List.prefix_append_right_inj, List.prefix_append]) (by simp only [List.length_append, hh, d3, l2, List.length_cons, List.length_nil, magicL]) (by simp)
  · exact fld_at (A := headL c ++ digL (totalL c) 6 ++ [32] ++ [flagL c] ++ fillL (linkL c) 100 ++ magicL ++ List.replicate 64 0) (by simp only [blockL, tailL, List.append_assoc, List.prefix_append_right_inj, List.prefix_append]) (by simp only [List.length_append, hh, d3, l2, List.length_replicate, List.length_cons, List.length_nil, magicL]) d7
  · exact fld_at (A := headL c ++ digL (totalL c) 6 ++ [32] ++ [flagL c] ++ fillL (linkL c) 100 ++ magicL ++ List.replicate 64 0 ++ digL 0 7) (by simp only [blockL, tailL, List.append_assoc, List.prefix_append_right_inj, List.prefix_append]) (by simp only [List.length_append, hh, d3, l2, d7, List.length_replicate, List.length_cons, List.length_nil, magicL]) d7
  · exact fld_at (A := headL c ++ digL (totalL c) 6 ++ [32] ++ [flagL c] ++ fillL (linkL c) 100 ++ magicL ++ List.replicate 64 0 ++ digL 0 7 ++ digL 0 7) (by simp only [blockL, tailL, List.append_assoc, List.prefix_append_right_inj, List.prefix_append]) (by simp only [List.length_append, hh, d3, l2, d7, List.length_replicate, List.length_cons, List.length_nil, magicL]) l3
  · exact fld_at (A := headL c ++ digL (totalL c) 6 ++ [32] ++ [flagL c] ++ fillL (linkL c) 100 ++ magicL ++ List.replicate 64 0 ++ digL 0 7 ++ digL 0 7 ++ fillL (partL (nameL c)).1 155) (by simp only [blockL, tailL, List.append_assoc, List.prefix_refl]) (by simp only [List.length_append, hh, d3, l2, d7, l3, List.length_replicate, List.length_cons, List.length_nil, magicL]) (by simp)
  · rw [blockL, List.append_assoc, List.append_assoc, ← hh, List.take_left]
  · rw [blockL, show 156 = (headL c ++ digL (totalL c) 6 ++ [32]).length by simp only [List.length_append, hh, d3, List.length_cons, List.length_nil], List.drop_left]
/-- A byte by its field. -/
theorem fld_byte {s : List UInt8} {o n k : Nat} (hk : k < n) : (fldL s o n)[k]? = s[o + k]? := by
  rw [fldL, List.getElem?_take, if_pos hk, List.getElem?_drop]
theorem byte_is (s : ByteArray) (k : Nat) (x : UInt8) (h : s.data.toList[k]? = some x) : ∃ hk : k < s.size, (s[k].toNat : Int) = (x.toNat : Int) := by
  have hk : k < s.size := by rw [Lib.size_eq]; exact (List.getElem?_eq_some_iff.1 h).1
  refine ⟨hk, ?_⟩
  rw [at_list s k hk] at h
  rw [Option.some.inj h]
/-- The sum of a header's bytes but those of its sum, up to a place. -/
def sumTo (l : List UInt8) (k : Nat) : Nat := 256 + sumL ((l.take 148).take k) + sumL ((l.drop 156).take (k - 156))
theorem sumTo_lo {l : List UInt8} {k : Nat} (h : k < 148) (hl : l.length = 512) : sumTo l (k + 1) = sumTo l k + (l[k]'(by omega)).toNat := by
  have hk : k < (l.take 148).length := by rw [List.length_take]; omega
  unfold sumTo
  rw [sumL_take hk, show k + 1 - 156 = 0 by omega, show k - 156 = 0 by omega, List.getElem_take]; omega
theorem sumTo_mid {l : List UInt8} {k : Nat} (h : 148 ≤ k) (h2 : k ≤ 155) : sumTo l (k + 1) = sumTo l k := by
  unfold sumTo
  rw [show k + 1 - 156 = 0 by omega, show k - 156 = 0 by omega, List.take_take, List.take_take, Nat.min_eq_right (by omega), Nat.min_eq_right (by omega)]
theorem sumTo_hi {l : List UInt8} {k : Nat} (h : 155 < k) (h2 : k < 512) (hl : l.length = 512) : sumTo l (k + 1) = sumTo l k + (l[k]'(by omega)).toNat := by
  have hk : k - 156 < (l.drop 156).length := by rw [List.length_drop]; omega
  unfold sumTo
  rw [show k + 1 - 156 = k - 156 + 1 by omega, sumL_take hk, List.getElem_drop, List.take_take, List.take_take, Nat.min_eq_right (by omega), Nat.min_eq_right (by omega)]
  have : 156 + (k - 156) = k := by omega
  simp only [this]; omega
theorem sumTo_all {c : Ent} (h : chOk c = true) : sumTo (blockL c) 512 = totalL c := by
  have hb := blk_f h
  unfold sumTo
  rw [hb.sumA, hb.sumB, List.take_of_length_le, List.take_of_length_le, totalL]
  · rw [← hb.sumB, List.length_drop, hb.len]; omega
  · rw [← hb.sumA, List.length_take, hb.len]; omega
theorem sumTo_le {l : List UInt8} (hl : l.length = 512) (k : Nat) : sumTo l k ≤ 256 + 512 * 255 := by
  unfold sumTo
  have h1 := sumL_le ((l.take 148).take k)
  have h2 := sumL_le ((l.drop 156).take (k - 156))
  rw [List.length_take, List.length_take] at h1
  rw [List.length_take, List.length_drop] at h2
  have : min k (min 148 l.length) ≤ 148 := by omega
  have : min (k - 156) (l.length - 156) ≤ 356 := by omega
  omega
end Go.Proofs.YtjofjcjojgpaeaaGreatDoor

namespace Go.Proofs.YtjofjcjojgpaeaaGreatDoor
open Go.RowKit

def fldAt : List (Nat × Nat) := [(100, 108), (108, 116), (116, 124), (124, 136), (136, 148), (329, 337), (337, 345)]
/-- What ustar asks of a block, by its callees. -/
structure UsC (b : ByteArray) (nm lk pf sz tot : Nat) : Prop where
  size : b.size = 512
  c1 : ∀ W : World, Calls Tryz.prog 24 #[.string (b.extract 0 100)] W fun ev w' => ev = .returned (.tuple #[.int .i64 (nm : Int), .bool true]) ∧ w' = W
  c2 : ∀ W : World, Calls Tryz.prog 24 #[.string (b.extract 157 257)] W fun ev w' => ev = .returned (.tuple #[.int .i64 (lk : Int), .bool true]) ∧ w' = W
  c3 : ∀ W : World, Calls Tryz.prog 24 #[.string (b.extract 345 500)] W fun ev w' => ev = .returned (.tuple #[.int .i64 (pf : Int), .bool true]) ∧ w' = W
  n1 : ∀ W : World, Calls Tryz.prog 13 #[.string (b.extract 265 329)] W fun ev w' => ev = .returned (.bool true) ∧ w' = W
  n2 : ∀ W : World, Calls Tryz.prog 13 #[.string (b.extract 500 512)] W fun ev w' => ev = .returned (.bool true) ∧ w' = W
  magic : b.extract 257 265 = ⟨#[117, 115, 116, 97, 114, 0, 48, 48]⟩
  fl : ∀ q : Nat, ∀ p, fldAt[q]? = some p → ∀ W : World, Calls Tryz.prog 25 #[.string (b.extract p.1 p.2)] W fun ev w' => ev = .returned (.bool true) ∧ w' = W
  fs : ∀ W : World, Calls Tryz.prog 25 #[.string (b.extract 148 155)] W fun ev w' => ev = .returned (.bool true) ∧ w' = W
  v124 : ∀ W : World, Calls Tryz.prog 26 #[.string (b.extract 124 136)] W fun ev w' => ev = .returned (.int .i64 (sz : Int)) ∧ w' = W
  v108 : ∀ W : World, Calls Tryz.prog 26 #[.string (b.extract 108 116)] W fun ev w' => ev = .returned (.int .i64 0) ∧ w' = W
  v116 : ∀ W : World, Calls Tryz.prog 26 #[.string (b.extract 116 124)] W fun ev w' => ev = .returned (.int .i64 0) ∧ w' = W
  v136 : ∀ W : World, Calls Tryz.prog 26 #[.string (b.extract 136 148)] W fun ev w' => ev = .returned (.int .i64 0) ∧ w' = W
  v148 : ∀ W : World, Calls Tryz.prog 26 #[.string (b.extract 148 155)] W fun ev w' => ev = .returned (.int .i64 (tot : Int)) ∧ w' = W
theorem us_c {c : Ent} {b : ByteArray} (h : chOk c = true) (hl : b.data.toList = blockL c) : UsC b (partL (nameL c)).2.length (linkL c).length (partL (nameL c)).1.length (dataL c).length (totalL c) := by
  have hb := blk_f h
  have ho := oct_f h
  rw [← hl] at hb
  have hsz : b.size = 512 := by rw [Lib.size_eq, hb.len]
  have hx : ∀ i j, (b.extract i j).size ≤ 1073741824 := fun i j => by rw [ByteArray.size_extract]; omega
  have hn := part_no0 (name_good h).1
  have z7 := oct0 7 (by omega)
  have z11 := oct0 11 (by omega)
  refine ⟨hsz, fun W => ?_, fun W => ?_, fun W => ?_, fun W => ?_, fun W => ?_, ?_, fun q p hq W => ?_, fun W => ?_, fun W => ?_, fun W => ?_, fun W => ?_, fun W => ?_, fun W => ?_⟩
  · exact head_any _ _ 100 W (hx _ _) (by rw [ext_fldT]; exact hb.name) hn.2
  · exact head_any _ _ 100 W (hx _ _) (by rw [ext_fldT]; exact hb.link) (link_no0 h)
  · exact head_any _ _ 155 W (hx _ _) (by rw [ext_fldT]; exact hb.ahead) hn.1
  · exact nghts_any _ W (hx _ _) (fun x hx => by rw [ext_fldT, hb.f265] at hx; exact (List.mem_replicate.1 hx).2)
  · exact nghts_any _ W (hx _ _) (fun x hx => by rw [ext_fldT, hb.f500] at hx; exact (List.mem_replicate.1 hx).2)
  · apply ByteArray.ext
    apply Array.toList_inj.1
    rw [ext_fldT, hb.magic]; rfl
  · have hq7 : q < 7 := (List.getElem?_eq_some_iff.1 hq).1
    have hcs : q = 0 ∨ q = 1 ∨ q = 2 ∨ q = 3 ∨ q = 4 ∨ q = 5 ∨ q = 6 := by omega
    rcases hcs with rfl | rfl | rfl | rfl | rfl | rfl | rfl <;> cases Option.some.inj hq
    · exact field_any _ c.mode.toNat 7 W (hx _ _) (by rw [ext_fldT]; exact hb.f100)
    · exact field_any _ 0 7 W (hx _ _) (by rw [ext_fldT]; exact hb.f108)
    · exact field_any _ 0 7 W (hx _ _) (by rw [ext_fldT]; exact hb.f116)
    · exact field_any _ (dataL c).length 11 W (hx _ _) (by rw [ext_fldT]; exact hb.f124)
    · exact field_any _ 0 11 W (hx _ _) (by rw [ext_fldT]; exact hb.f136)
    · exact field_any _ 0 7 W (hx _ _) (by rw [ext_fldT]; exact hb.f329)
    · exact field_any _ 0 7 W (hx _ _) (by rw [ext_fldT]; exact hb.f337)
  · exact field_any _ (totalL c) 6 W (hx _ _) (by rw [ext_fldT]; exact hb.f148)
  · exact value_any _ _ 11 W (by omega) ho.o2 (by rw [ext_fldT]; exact hb.f124)
  · exact value_any _ 0 7 W (by omega) z7 (by rw [ext_fldT]; exact hb.f108)
  · exact value_any _ 0 7 W (by omega) z7 (by rw [ext_fldT]; exact hb.f116)
  · exact value_any _ 0 11 W (by omega) z11 (by rw [ext_fldT]; exact hb.f136)
  · exact value_any _ _ 6 W (by omega) ho.o3 (by rw [ext_fldT]; exact hb.f148)
theorem idx_run (b : ByteArray) (i : Int) (x : UInt8) (k : Nat) (hi : i = (k : Int)) (h : b.data.toList[k]? = some x) (W : World) : (Instr.index 9 (.string b) (.int .i64 i)).run Tryz.prog W = .ok (.int .u8 (x.toNat : Int)) W := by
  subst hi
  obtain ⟨hk, hx⟩ := byte_is b k x h
  rw [run_index_string _ _ _ _ _ Tryz.underlying9, dif_pos ⟨by omega, by omega⟩]
  exact congrArg (fun x => Result.ok (Value.int .u8 x) W) hx
/-- The bytes of a block that ustar looks at. -/
structure UsB (b : ByteArray) (nm lk pf sz : Nat) (fl : UInt8) : Prop where
  b155 : b.data.toList[155]? = some 32
  b156 : b.data.toList[156]? = some fl
  nmb : 0 < nm ∧ nm ≤ 100
  pfb : pf ≤ 155
  szb : sz ≤ 4096
  dir : fl = 53 → sz = 0 ∧ lk = 0 ∧ b.data.toList[nm - 1]? = some 47
  sym : fl = 50 → sz = 0 ∧ 0 < lk
  file : fl = 48 → lk = 0
  kind : fl = 53 ∨ fl = 50 ∨ fl = 48
  slash : pf = 0 ∨ ∃ x y : UInt8, x ≠ 47 ∧ y ≠ 47 ∧ b.data.toList[344 + pf]? = some x ∧ b.data.toList[0]? = some y
theorem us_b {c : Ent} {b : ByteArray} (h : chOk c = true) (hl : b.data.toList = blockL c) : UsB b (partL (nameL c)).2.length (linkL c).length (partL (nameL c)).1.length (dataL c).length (flagL c) := by
  have hb := blk_f h
  have ho := oct_f h
  rw [← hl] at hb
  have hp := name_part h
  have hne : 0 < (partL (nameL c)).2.length := List.length_pos_iff.2 hp.ne
  have hkd := (chOk_kind h).1
  have hname : ∀ k, k < (partL (nameL c)).2.length → b.data.toList[k]? = (partL (nameL c)).2[k]? := fun k hk => by
    have h1 := fld_byte (s := b.data.toList) (o := 0) (n := 100) (k := k) (by have := ho.rest; omega)
    rw [hb.name, fillL, List.getElem?_append_left hk, Nat.zero_add] at h1
    exact h1.symm
  have hah : ∀ k, k < (partL (nameL c)).1.length → b.data.toList[345 + k]? = (partL (nameL c)).1[k]? := fun k hk => by
    have h1 := fld_byte (s := b.data.toList) (o := 345) (n := 155) (k := k) (by have := ho.ahead; omega)
    rw [hb.ahead, fillL, List.getElem?_append_left hk] at h1
    exact h1.symm
  refine ⟨?_, ?_, ⟨hne, ho.rest⟩, ho.ahead, ho.file, fun hf => ?_, fun hf => ?_, fun hf => ?_, ?_, ?_⟩
  · have h1 := fld_byte (s := b.data.toList) (o := 155) (n := 1) (k := 0) (by omega)
    rw [hb.f155] at h1; exact h1.symm
  · have h1 := fld_byte (s := b.data.toList) (o := 156) (n := 1) (k := 0) (by omega)
    rw [hb.f156] at h1; exact h1.symm
  · have hk : c.kind = 1 := by
      unfold flagL at hf
      split at hf
      · assumption
      · split at hf
        · exact absurd hf (by decide)
        · exact absurd hf (by decide)
    refine ⟨by rw [dataL, if_neg (by omega)]; rfl, by rw [linkL, if_neg (by omega)]; rfl, ?_⟩
    rw [hname _ (by omega), ← List.getLast?_eq_getElem?]
    exact dir_last h hk
  · have hk : c.kind = 3 := by
      unfold flagL at hf
      split at hf
      · exact absurd hf (by decide)
      · split at hf
        · assumption
        · exact absurd hf (by decide)
    exact ⟨by rw [dataL, if_neg (by omega)]; rfl, List.length_pos_iff.2 (link_ne h hk)⟩
  · have hk : c.kind ≠ 3 := fun hk => by
      unfold flagL at hf
      rw [if_neg (by omega), if_pos hk] at hf
      revert hf; decide
    rw [linkL, if_neg hk]; rfl
  · unfold flagL
    split
    · exact .inl rfl
    · split
      · exact .inr (.inl rfl)
      · exact .inr (.inr rfl)
  · by_cases hpf : (partL (nameL c)).1 = []
    · exact .inl (by rw [hpf]; rfl)
    · right
      have h0 : 0 < (partL (nameL c)).1.length := List.length_pos_iff.2 hpf
      obtain ⟨h1, h2⟩ := hp.ahead hpf
      have e1 := hah ((partL (nameL c)).1.length - 1) (by omega)
      have e2 := hname 0 hne
      rw [← List.getLast?_eq_getElem?] at e1
      obtain ⟨x, hx⟩ : ∃ x, (partL (nameL c)).1.getLast? = some x := ⟨_, List.getLast?_eq_some_getLast hpf⟩
      obtain ⟨y, hy⟩ : ∃ y, (partL (nameL c)).2.head? = some y := ⟨_, List.head?_eq_some_head hp.ne⟩
      refine ⟨x, y, fun e => h1 (by rw [hx, e]), fun e => h2 (by rw [hy, e]), ?_, ?_⟩
      · rw [show 344 + (partL (nameL c)).1.length = 345 + ((partL (nameL c)).1.length - 1) by omega, e1, hx]
      · rw [e2, ← hy, List.head?_eq_getElem?]
end Go.Proofs.YtjofjcjojgpaeaaGreatDoor
