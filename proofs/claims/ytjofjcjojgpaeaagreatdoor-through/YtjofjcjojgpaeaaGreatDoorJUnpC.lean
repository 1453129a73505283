import Derived.Test.YtjofjcjojgpaeaaGreatDoorJOctA
import Derived.Test.YtjofjcjojgpaeaaGreatDoorJLeaf
import Derived.Lib.ConvBytes
import Derived.Laws.Strings3
import Derived.Laws.Closers25
import Derived.Laws.Closers25b
import Derived.WalkKit
import Derived.BigCall
import Derived.BigGuard
import Derived.Lib.IfaceEq
import Derived.Shelf.RegionOpen
import Derived.Lib.IfaceNeq
namespace Go.Proofs.YtjofjcjojgpaeaaGreatDoor
open Go.RowKit

/-- Is a byte an octal digit? -/
def isOct (b : UInt8) : Bool := decide (48 ≤ b.toNat ∧ b.toNat ≤ 55)
/-- The number that octal digits tell. -/
def octV (l : List UInt8) : Nat := l.foldl (fun t b => t * 8 + (b.toNat - 48)) 0
/-- The same, behind a number. -/
def puV (acc : Nat) : List UInt8 → Option Nat
  | [] => some acc
  | b :: l => if 48 ≤ b.toNat ∧ b.toNat ≤ 55 then puV (acc * 8 + (b.toNat - 48)) l else none
theorem puV_oct : ∀ (l : List UInt8) (acc : Nat), l.all isOct = true → puV acc l = some (l.foldl (fun t b => t * 8 + (b.toNat - 48)) acc)
  | [], _, _ => rfl
  | b :: l, acc, h => by
    rw [List.all_cons, Bool.and_eq_true] at h
    have hb : 48 ≤ b.toNat ∧ b.toNat ≤ 55 := of_decide_eq_true h.1
    rw [puV, if_pos hb, List.foldl_cons]
    exact puV_oct l _ h.2
theorem lower_any (c : Int) (w : World) : Calls Tryz.prog 203 #[.int .u8 c] w fun e w' => e = .returned (.int .u8 (bits .or .u8 c 32)) ∧ w' = w := by
  go_enter Tryz.func203, Tryz.ntmps203
  go_wp2
  go_ret
  exact ⟨rfl, rfl⟩
/-- What ParseUint answers, as a tuple. -/
def puT : Option Nat → Value
  | some n => .tuple #[.int .u64 n, .nilIface]
  | none => .tuple #[.int .u64 0, .iface 233 (.int .i64 2)]
set_option maxHeartbeats 32000000 in
set_option maxRecDepth 100000 in
theorem parseUint_some (t : ByteArray) (hne : t.size ≠ 0) (hmax : t.size ≤ 12) (w : World) :
    Calls Tryz.prog 185 #[.string t, .int .i64 8, .int .i64 0] w fun e w' => e = .returned (puT (puV 0 t.data.toList)) ∧ w' = Lib.bytesWorld w 5 t := by
  have hemp : t.toList.isEmpty = false := by
    rw [← decide_eq_emptyBytes]
    exact decide_eq_false (fun h => hne (by rw [h]; rfl))
  have hcv := Lib.run_convert_string_bytes (P := Tryz.prog) w 9 41 5 t Tryz.underlying9 Tryz.underlying41 Tryz.underlying5
  have hB : ∀ j, j < t.size → (Lib.bytesWorld w 5 t).cell? ⟨w.heap.size, j, none⟩ = some (.int .u8 (t.data.toList.getD j 0).toNat) := fun j hj => Lib.bytesWorld_cell w 5 t j hj
  obtain ⟨W1, hW1⟩ : ∃ W1, W1 = Lib.bytesWorld w 5 t := ⟨_, rfl⟩
  rw [← hW1] at hcv hB ⊢
  clear hW1
  obtain ⟨bs, hL⟩ : ∃ bs, bs = t.data.toList := ⟨_, rfl⟩
  have hLn : bs.length = t.size := by rw [hL, Lib.size_eq]
  rw [← hL] at hB ⊢
  clear hL
  have hmv : IntKind.u64.wrap (IntKind.u64.wrap 18446744073709551616 - 1) = 18446744073709551615 := by
    rw [IntKind.wrap_u64, IntKind.wrap_u64]
    decide
  go_enter Tryz.func185, Tryz.ntmps185
  go_wp2
  go_loop [12, 13, 101] (fun vu vn vi => ∃ (k acc : Nat) (a : Int), vu = .bool false ∧ vn = .int .u64 a ∧ vi = .int .i64 k ∧ k ≤ t.size ∧ Hid (a = (acc : Int) ∧ acc < 8 ^ k ∧ puV 0 bs = puV acc (bs.drop k)))
    (fun _ _ vi => t.size - (intOf vi).toNat)
  case atStart => exact ⟨0, 0, 0, rfl, rfl, rfl, by omega, rfl, by decide, rfl⟩
  case round =>
    obtain ⟨k, acc, a, rfl, rfl, rfl, hk, hh⟩ := hrel
    obtain ⟨ha, hacc, hdec⟩ := hh.out
    clear hh
    have h8 : (8 : Nat) ^ k ≤ 8 ^ 12 := Nat.pow_le_pow_right (by omega) (by omega)
    have h12 : (8 : Nat) ^ 12 = 68719476736 := by decide
    rw [h12] at h8
    have a0 : 0 ≤ a := by omega
    have a1 : a < 68719476736 := by omega
    clear h12
    by_cases hkn : k < t.size
    · have hc := hB k hkn
      have hdrop : bs.drop k = bs[k]'(by omega) :: bs.drop (k + 1) := List.drop_eq_getElem_cons (by omega)
      have hget : bs.getD k 0 = bs[k]'(by omega) := by simp [List.getD, List.getElem?_eq_getElem (show k < bs.length by omega)]
      rw [hdrop] at hdec
      rw [hget] at hc
      generalize bs[k]'(by omega) = c at hc hdec
      have hc256 : c.toNat < 256 := c.toNat_lt
      clear hB hdrop hget
      by_cases hdig : 48 ≤ c.toNat ∧ c.toNat ≤ 55
      · have hF : puV acc (c :: bs.drop (k + 1)) = puV (acc * 8 + (c.toNat - 48)) (bs.drop (k + 1)) := by rw [puV, if_pos hdig]
        obtain ⟨hd0, hd1⟩ := hdig
        have HN : Hid (a * 8 + ((c.toNat : Int) - 48) = ((acc * 8 + (c.toNat - 48) : Nat) : Int) ∧ acc * 8 + (c.toNat - 48) < 8 ^ (k + 1) ∧ puV 0 bs = puV (acc * 8 + (c.toNat - 48)) (bs.drop (k + 1))) := hide ⟨by omega, by rw [Nat.pow_succ]; omega, hdec.trans hF⟩
        have i57 : c.toNat ≤ 57 := by omega
        have i8 : (c.toNat : Int) - 48 < 8 := by omega
        have icut : a < 2305843009213693952 := by omega
        have iov : a * 8 + ((c.toNat : Int) - 48) < 18446744073709551616 := by omega
        clear hacc hF hdec ha h8
        go_wp2
        refine ⟨⟨k + 1, acc * 8 + (c.toNat - 48), a * 8 + ((c.toNat : Int) - 48), rfl, (by first | rfl | (congr 1; omega)), (by first | rfl | (congr 1; omega)), by omega, HN⟩, by simp [intOf]; omega⟩
      · have hF : puV acc (c :: bs.drop (k + 1)) = none := by rw [puV, if_neg hdig]
        rw [hF] at hdec
        clear hacc hF ha h8
        have hv0 := bits_lo_u8 .or (c.toNat : Int) 32
        have hv1 := bits_hi_u8 .or (c.toNat : Int) 32
        have hu0 := bits_lo_u8 .or 95 32
        have hu1 := bits_hi_u8 .or 95 32
        go_wp2_with (go_at_call 203; refine (lower_any _ _).mono ?_; rintro e w' ⟨rfl, rfl⟩)
        all_goals go_ret2
        all_goals first | exact ⟨rfl, rfl⟩ | exact ⟨by rw [hdec]; rfl, rfl⟩
    · have hkk : k = t.size := by omega
      subst hkk
      have hF : puV acc (bs.drop t.size) = some acc := by rw [List.drop_eq_nil_of_le (by omega)]; rfl
      rw [hF] at hdec
      subst ha
      clear hacc hF a0 a1 h8
      go_wp2
      go_ret2
      first | exact ⟨rfl, rfl⟩ | exact ⟨by rw [hdec]; rfl, rfl⟩
end Go.Proofs.YtjofjcjojgpaeaaGreatDoor

namespace Go.Proofs.YtjofjcjojgpaeaaGreatDoor
open Go.RowKit

set_option maxRecDepth 100000 in
theorem parseUint_none (w : World) : Calls Tryz.prog 185 #[.string ⟨#[]⟩, .int .i64 8, .int .i64 0] w fun e w' => e = .returned (puT none) ∧ w' = w := by
  go_enter Tryz.func185, Tryz.ntmps185
  go_wp2
  go_ret2
  exact ⟨rfl, rfl⟩
theorem puV_lt : ∀ (l : List UInt8) (acc k n : Nat), acc < 8 ^ k → puV acc l = some n → n < 8 ^ (k + l.length)
  | [], acc, k, n, h, e => by cases e; exact h
  | b :: l, acc, k, n, h, e => by
    rw [puV] at e
    split at e
    · rename_i hb
      have := puV_lt l _ (k + 1) n (by rw [Nat.pow_succ]; omega) e
      rw [List.length_cons, show k + (l.length + 1) = k + 1 + l.length by omega]; exact this
    · cases e
/-- What ParseUint tells of a text that may be empty. -/
def puO (l : List UInt8) : Option Nat := if l = [] then none else puV 0 l
theorem puO_lt {l : List UInt8} {n : Nat} (hl : l.length ≤ 12) (h : puO l = some n) : n < 68719476736 := by
  unfold puO at h
  split at h
  · cases h
  · have := puV_lt l 0 0 n (by decide) h
    have h8 : (8 : Nat) ^ (0 + l.length) ≤ 8 ^ 12 := Nat.pow_le_pow_right (by omega) (by omega)
    have h12 : (8 : Nat) ^ 12 = 68719476736 := by decide
    omega
theorem below_bytes (w : World) (t : ByteArray) : Below w.heap.size w (Lib.bytesWorld w 5 t) :=
  ⟨rfl, rfl, rfl, by rw [Lib.bytesWorld_size]; omega, fun k hk => Lib.bytesWorld_at_old w 5 t k hk⟩
theorem parseUint_any (t : ByteArray) (hmax : t.size ≤ 12) (w : World) :
    Calls Tryz.prog 185 #[.string t, .int .i64 8, .int .i64 0] w fun e w' => e = .returned (puT (puO t.data.toList)) ∧ Below w.heap.size w w' := by
  by_cases h0 : t.size = 0
  · have ht : t = ⟨#[]⟩ := by
      apply ByteArray.ext
      exact Array.eq_empty_of_size_eq_zero h0
    subst ht
    exact (parseUint_none w).mono fun e w' ⟨he, hw⟩ => ⟨he, by rw [hw]; exact Below.refl _ _⟩
  · have hne : t.data.toList ≠ [] := fun h => h0 (by rw [Lib.size_eq, h]; rfl)
    refine (parseUint_some t h0 hmax w).mono fun e w' ⟨he, hw⟩ => ⟨?_, by rw [hw]; exact below_bytes w t⟩
    rw [he, puO, if_neg hne]
/-- What ParseInt answers: something; and of octal digits their number. -/
def PIs (l : List UInt8) (v er : Value) : Prop := (∃ x : Int, v = .int .i64 x) ∧ (er = .nilIface ∨ er = .iface 233 (.int .i64 2)) ∧ (l ≠ [] → l.all isOct = true → er = .nilIface ∧ v = .int .i64 (octV l))
theorem not_oct {s : ByteArray} (h0 : 0 < s.size) (h : ¬ (48 ≤ s[0].toNat ∧ s[0].toNat ≤ 55)) : s.data.toList.all isOct = false := by
  rw [List.all_eq_false]
  refine ⟨s[0], ?_, by simpa [isOct] using h⟩
  rw [show s[0] = s.data[0] from rfl]; simp
set_option maxHeartbeats 4000000 in
set_option maxRecDepth 100000 in
theorem parseIntI_any (s : ByteArray) (w : World) (hs : s.size ≤ 12) :
    Calls Tryz.prog 162 #[.string s, .int .i64 8, .int .i64 0] w fun ev w' => ∃ v er, ev = .returned (.tuple #[v, er]) ∧ Hid (PIs s.data.toList v er) ∧ Below w.heap.size w w' := by
  have hmv : IntKind.u64.wrap 9223372036854775808 = 9223372036854775808 := by
    rw [IntKind.wrap_u64]; decide
  have hq2 : ∀ W, (binOp .neq 52 (.iface 233 (.int .i64 2)) (.iface 233 (.int .i64 1))).run Tryz.prog W = .ok (.bool true) W := fun W => Lib.run_neq_iface_int W 2 1 Tryz.underlying52 (by kernel_rfl) Tryz.underlying233
  by_cases h0 : s.size = 0
  · have ht : s = ⟨#[]⟩ := by
      apply ByteArray.ext
      exact Array.eq_empty_of_size_eq_zero h0
    subst ht
    go_enter Tryz.func162, Tryz.ntmps162
    go_wp2
    go_ret2
    exact ⟨_, _, rfl, hide ⟨⟨_, rfl⟩, .inr rfl, fun h => absurd rfl h⟩, Below.refl _ _⟩
  · have h1 : 0 < s.size := by omega
    have hemp : s.toList.isEmpty = false := by
      rw [← decide_eq_emptyBytes]
      exact decide_eq_false (fun h => h0 (by rw [h]; rfl))
    by_cases hp : s[0].toNat = 43
    · have HO : Hid (s.data.toList.all isOct = false) := hide (not_oct h1 (by omega))
      have hU := parseUint_any (s.extract 1 s.size) (by rw [ByteArray.size_extract]; omega) w
      cases hr : puO (s.extract 1 s.size).data.toList with
      | none =>
        rw [hr, puT] at hU
        clear hr
        go_enter Tryz.func162, Tryz.ntmps162
        go_wp2_with (go_at_call 185; refine hU.mono ?_; clear hU; rintro ev w1 ⟨rfl, hb1⟩)
        go_ret2
        exact ⟨_, _, rfl, hide ⟨⟨_, rfl⟩, .inr rfl, fun _ h => by rw [unhide HO] at h; cases h⟩, hb1⟩
      | some n =>
        have hn := puO_lt (by rw [← Lib.size_eq, ByteArray.size_extract]; omega) hr
        obtain ⟨a, ha⟩ : ∃ a : Int, a = (n : Int) := ⟨_, rfl⟩
        rw [hr, puT, ← ha] at hU
        have a0 : 0 ≤ a := by omega
        have a1 : a < 9223372036854775808 := by omega
        clear hr hn ha
        go_enter Tryz.func162, Tryz.ntmps162
        go_wp2_with (go_at_call 185; refine hU.mono ?_; clear hU; rintro ev w1 ⟨rfl, hb1⟩)
        go_ret2
        exact ⟨_, _, rfl, hide ⟨⟨_, rfl⟩, .inl rfl, fun _ h => by rw [unhide HO] at h; cases h⟩, hb1⟩
    · by_cases hq : s[0].toNat = 45
      · have HO : Hid (s.data.toList.all isOct = false) := hide (not_oct h1 (by omega))
        have hU := parseUint_any (s.extract 1 s.size) (by rw [ByteArray.size_extract]; omega) w
        cases hr : puO (s.extract 1 s.size).data.toList with
        | none =>
          rw [hr, puT] at hU
          clear hr
          go_enter Tryz.func162, Tryz.ntmps162
          go_wp2_with (go_at_call 185; refine hU.mono ?_; clear hU; rintro ev w1 ⟨rfl, hb1⟩)
          go_ret2
          exact ⟨_, _, rfl, hide ⟨⟨_, rfl⟩, .inr rfl, fun _ h => by rw [unhide HO] at h; cases h⟩, hb1⟩
        | some n =>
          have hn := puO_lt (by rw [← Lib.size_eq, ByteArray.size_extract]; omega) hr
          obtain ⟨a, ha⟩ : ∃ a : Int, a = (n : Int) := ⟨_, rfl⟩
          rw [hr, puT, ← ha] at hU
          have a0 : 0 ≤ a := by omega
          have a1 : a < 9223372036854775808 := by omega
          clear hr hn ha
          go_enter Tryz.func162, Tryz.ntmps162
          go_wp2_with (go_at_call 185; refine hU.mono ?_; clear hU; rintro ev w1 ⟨rfl, hb1⟩)
          go_ret2
          exact ⟨_, _, rfl, hide ⟨⟨_, rfl⟩, .inl rfl, fun _ h => by rw [unhide HO] at h; cases h⟩, hb1⟩
      · have hU := parseUint_any s hs w
        have hne : s.data.toList ≠ [] := fun h => h0 (by rw [Lib.size_eq, h]; rfl)
        cases hr : puO s.data.toList with
        | none =>
          have HO : Hid (s.data.toList.all isOct = false) := hide (by
            cases h : s.data.toList.all isOct with
            | false => rfl
            | true => rw [puO, if_neg hne, puV_oct _ _ h] at hr; cases hr)
          rw [hr, puT] at hU
          clear hr hne
          go_enter Tryz.func162, Tryz.ntmps162
          go_wp2_with (go_at_call 185; refine hU.mono ?_; clear hU; rintro ev w1 ⟨rfl, hb1⟩)
          go_ret2
          exact ⟨_, _, rfl, hide ⟨⟨_, rfl⟩, .inr rfl, fun _ h => by rw [unhide HO] at h; cases h⟩, hb1⟩
        | some n =>
          have hn := puO_lt (by rw [← Lib.size_eq]; omega) hr
          obtain ⟨a, ha⟩ : ∃ a : Int, a = (n : Int) := ⟨_, rfl⟩
          have HO : Hid (s.data.toList.all isOct = true → a = (octV s.data.toList : Nat)) := hide (fun h => by
            rw [puO, if_neg hne, puV_oct _ _ h] at hr; rw [ha]; exact congrArg Int.ofNat (Option.some.inj hr).symm)
          rw [hr, puT, ← ha] at hU
          have a0 : 0 ≤ a := by omega
          have a1 : a < 9223372036854775808 := by omega
          clear hr hne hn ha
          go_enter Tryz.func162, Tryz.ntmps162
          go_wp2_with (go_at_call 185; refine hU.mono ?_; clear hU; rintro ev w1 ⟨rfl, hb1⟩)
          go_ret2
          exact ⟨_, _, rfl, hide ⟨⟨_, rfl⟩, .inl rfl, fun _ h => ⟨rfl, by rw [unhide HO h]; rfl⟩⟩, hb1⟩
theorem syntaxError_any (fn s : ByteArray) (te : Nat) (pe : Value) (w : World) (hlim : s.size ≤ 281474976710656) (hv : w.cell? ⟨16, 0, none⟩ = some (.iface te pe)) :
    Calls Tryz.prog 186 #[.string fn, .string s] w fun e w' => ∃ N, e = .returned (.pointer (some ⟨N, 0, none⟩)) ∧ Below w.heap.size w w' := by
  have hG : 16 < w.heap.size := World.block_lt_of_cell? _ _ hv
  have mixed : Tryz.prog.follows Departure.mixedOrders = true := by kernel_rfl
  have hvd : w.drew.cell? ⟨16, 0, none⟩ = some (.iface te pe) := hv
  go_enter Tryz.func186, Tryz.ntmps186
  go_wp2
  go_region_with_o (
      go_at_call 95
      refine (Tryz.stringslite_Clone s _ hlim).mono ?_
      rintro e w2 ⟨rfl, hbel⟩
      have hv2 : w2.cell? ⟨16, 0, none⟩ = some (.iface te pe) := (hbel.cell (show (⟨16, 0, none⟩ : Addr).block < w.drew.heap.size from hG)).trans hvd)
  all_goals (
    go_wp2
    go_ret
    have hs2 : w.heap.size ≤ w2.heap.size := hbel.size
    exact ⟨_, rfl, ((Below.drew (Below.refl _ w)).trans hbel).alloc hs2 _⟩)
theorem toError_any (fn s : ByteArray) (base bits : Int) (te : Nat) (pe : Value) (w : World) (hlim : s.size ≤ 281474976710656) (hv : w.cell? ⟨16, 0, none⟩ = some (.iface te pe)) :
    Calls Tryz.prog 163 #[.string fn, .string s, .int .i64 base, .int .i64 bits, .iface 233 (.int .i64 2)] w fun e w' => ∃ N, e = .returned (.iface 236 (.pointer (some ⟨N, 0, none⟩))) ∧ Below w.heap.size w w' := by
  have heq : ∀ W, (binOp .eql 52 (.iface 233 (.int .i64 2)) (.iface 233 (.int .i64 2))).run Tryz.prog W = .ok (.bool true) W := fun W => Lib.run_eql_iface_int W 2 2 Tryz.underlying52 (by kernel_rfl) Tryz.underlying233
  have h := syntaxError_any fn s te pe w hlim hv
  clear hv
  go_enter Tryz.func163, Tryz.ntmps163
  go_wp2_with (go_at_call 186; refine h.mono ?_; clear h; rintro ev w1 ⟨N, rfl, hb1⟩)
  go_ret
  exact ⟨N, rfl, hb1⟩
/-- What the public ParseInt answers. -/
def PPIs (l : List UInt8) (v er : Value) : Prop := (∃ x : Int, v = .int .i64 x) ∧ (er = .nilIface ∨ ∃ N, er = .iface 236 (.pointer (some ⟨N, 0, none⟩))) ∧ (l ≠ [] → l.all isOct = true → er = .nilIface ∧ v = .int .i64 (octV l))
theorem parseInt_any (s : ByteArray) (te : Nat) (pe : Value) (w : World) (hs : s.size ≤ 12) (hv : w.cell? ⟨16, 0, none⟩ = some (.iface te pe)) :
    Calls Tryz.prog 143 #[.string s, .int .i64 8, .int .i64 0] w fun ev w' => ∃ v er, ev = .returned (.tuple #[v, er]) ∧ Hid (PPIs s.data.toList v er) ∧ Below w.heap.size w w' := by
  have h := parseIntI_any s w hs
  have HV := hide hv
  clear hv
  go_enter Tryz.func143, Tryz.ntmps143
  go_upto_region 2 with (go_at_call 162; refine h.mono ?_; clear h; rintro ev w1 ⟨v, er, rfl, HO, hb1⟩)
  obtain ⟨⟨x, rfl⟩, he, ho⟩ := unhide HO
  have HP := hide ho
  clear HO ho
  rcases he with rfl | rfl
  · have HQ : Hid (s.data.toList ≠ [] → s.data.toList.all isOct = true → x = (octV s.data.toList : Nat)) := hide (fun a b => by have := (unhide HP a b).2; injection this)
    clear HP
    go_wp2_with fail
    go_ret2
    exact ⟨_, _, rfl, hide ⟨⟨_, rfl⟩, .inl rfl, fun a b => ⟨rfl, by rw [unhide HQ a b]; rfl⟩⟩, hb1⟩
  · have h3 := toError_any ⟨#[80, 97, 114, 115, 101, 73, 110, 116]⟩ s 8 0 te pe w1 (by omega) (cell_later hb1 (unhide HV))
    have HQ : Hid (s.data.toList ≠ [] → s.data.toList.all isOct = true → False) := hide (fun a b => by have := (unhide HP a b).1; cases this)
    clear HP
    go_wp2_with (go_at_call 163; refine h3.mono ?_; clear h3; rintro ev w2 ⟨N, rfl, hb2⟩)
    go_ret2
    exact ⟨_, _, rfl, hide ⟨⟨_, rfl⟩, .inr ⟨N, rfl⟩, fun a b => (unhide HQ a b).elim⟩, hb1.trans (hb2.mono hb1.size)⟩
end Go.Proofs.YtjofjcjojgpaeaaGreatDoor
