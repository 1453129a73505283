import Derived.Test.YtjofjcjojgpaeaaGreatDoorJOwC
import Derived.Test.YtjofjcjojgpaeaaGreatDoorJTopK
import Derived.Test.YtjofjcjojgpaeaaGreatDoorJEntC
import Derived.BigRegion
namespace Go.Proofs.YtjofjcjojgpaeaaGreatDoor
open Go.RowKit

/-- What is laid for Unpack. -/
structure LaidU (w : World) : Prop where
  err : w.cell? ⟨0, 0, none⟩ = some (.iface 129 (.agg #[.pointer (some ⟨22, 52, none⟩)]))
  rd : Rd w
theorem LaidU.below {w w' : World} (h : LaidU w) (hb : Below w.heap.size w w') : LaidU w' := ⟨cell_later hb h.err, h.rd.below hb⟩
theorem lUnpack_any (s : ByteArray) (w : World) (hR : Rd w) (hs : s.size ≤ 281474976710656) :
    Calls Tryz.prog 23 #[.string s] w fun ev w' => ∃ v er, ev = .returned (.tuple #[v, er]) ∧ Hid (AUnpIs w' w.heap.size s.data.toList v er) ∧ Below w.heap.size w w' := by
  have h := aUnpack_any s w hR hs
  clear hR
  go_enter Tryz.func23, Tryz.ntmps23
  go_wp2_with (go_at_call 33; refine h.mono ?_; clear h; rintro ev w1 ⟨v, er, rfl, HO, hb1⟩)
  go_ret2
  exact ⟨_, _, rfl, HO, hb1⟩
/-- What plain.Unpack answers. -/
def PUnpIs (w : World) (B : Nat) (s : List UInt8) (v : Value) (e n : Int) : Prop :=
  (∃ cs, OwnC w B v cs ∧ e = 0 ∧ n = -1 ∧ UnpOk s cs) ∨ (∃ i : Nat, v = .slice none 0 0 ∧ e = 4 ∧ n = i ∧ UnpBad s i)
theorem pUnpack_any (s : ByteArray) (w : World) (hl : LaidU w) (hs : s.size ≤ 281474976710656) :
    Calls Tryz.prog 11 #[.string s] w fun ev w' => ∃ v e k, ev = .returned (.tuple #[v, .int .i64 e, .int .i64 k]) ∧ Hid (PUnpIs w' w.heap.size s.data.toList v e k) ∧ Below w.heap.size w w' := by
  have h := lUnpack_any s w hl.rd hs
  have HL := hide hl
  clear hl
  go_enter Tryz.func11, Tryz.ntmps11
  go_upto_region 2 with (go_at_call 23; refine h.mono ?_; clear h; rintro ev w1 ⟨v, er, rfl, HO, hb1⟩)
  have HL1 := hide ((unhide HL).below hb1)
  rcases unhide HO with ⟨cs, hO, rfl, hU⟩ | ⟨i, rfl, ⟨q, rfl, c0, c1⟩, hU⟩
  · have HU := hide hU
    have HOw := hide hO
    clear HO hU hO
    go_wp2_with (go_at_call 20; refine (tell_nil _).mono ?_; rintro ev w2 ⟨rfl, hb2⟩)
    go_ret3
    exact ⟨_, _, _, rfl, hide (.inl ⟨cs, (unhide HOw).later hb2, rfl, rfl, unhide HU⟩), hb1.trans (hb2.mono hb1.size)⟩
  · have HU := hide hU
    clear HO hU
    go_wp2_with (go_at_call 20; refine (tell_at q 4 i _ (unhide HL1).err c0 c1).mono ?_; rintro ev w2 ⟨rfl, hb2⟩)
    go_ret3
    exact ⟨_, _, _, rfl, hide (.inr ⟨i, rfl, rfl, rfl, unhide HU⟩), hb1.trans (hb2.mono hb1.size)⟩
end Go.Proofs.YtjofjcjojgpaeaaGreatDoor

namespace Go.Proofs.YtjofjcjojgpaeaaGreatDoor
open Go.RowKit

theorem pick_any (c n : Int) (w : World) (h0 : 0 < n) (h1 : n ≤ 1000) :
    Calls Tryz.prog 17 #[.int .i64 c, .int .i64 n] w fun ev w' => ∃ k : Int, ev = .returned (.int .i64 k) ∧ 0 ≤ k ∧ k < n ∧ w' = w := by
  have hn : ¬ n = 0 := by omega
  have hn2 : (n == 0) = false := by simp [hn]
  have ha : -n < c.tmod n := by
    have := Int.lt_tmod_of_pos c h0
    omega
  have hb : c.tmod n < n := Int.tmod_lt_of_pos c h0
  by_cases hneg : c.tmod n < 0
  · go_enter Tryz.func17, Tryz.ntmps17
    go_wp2
    go_ret
    exact ⟨_, rfl, by omega, by omega, rfl⟩
  · go_enter Tryz.func17, Tryz.ntmps17
    go_wp2
    go_ret
    exact ⟨_, rfl, by omega, by omega, rfl⟩
/-- One of n by any number. -/
def pickN (c n : Int) : Int := if c.tmod n < 0 then c.tmod n + n else c.tmod n
theorem pick_is (c n : Int) (w : World) (h0 : 0 < n) (h1 : n ≤ 1000) :
    Calls Tryz.prog 17 #[.int .i64 c, .int .i64 n] w fun ev w' => ev = .returned (.int .i64 (pickN c n)) ∧ w' = w := by
  have hn : ¬ n = 0 := by omega
  have hn2 : (n == 0) = false := by simp [hn]
  have ha : -n < c.tmod n := by
    have := Int.lt_tmod_of_pos c h0
    omega
  have hb : c.tmod n < n := Int.tmod_lt_of_pos c h0
  by_cases hneg : c.tmod n < 0
  · have HQ : Hid (pickN c n = c.tmod n + n) := hide (by rw [pickN, if_pos hneg])
    go_enter Tryz.func17, Tryz.ntmps17
    go_wp2
    go_ret
    exact ⟨congrArg (fun t => Ending.returned (Value.int .i64 t)) (unhide HQ).symm, rfl⟩
  · have HQ : Hid (pickN c n = c.tmod n) := hide (by rw [pickN, if_neg hneg])
    go_enter Tryz.func17, Tryz.ntmps17
    go_wp2
    go_ret
    exact ⟨congrArg (fun t => Ending.returned (Value.int .i64 t)) (unhide HQ).symm, rfl⟩
theorem no_slash {s : ByteArray} {k : Nat} (hk : k ≤ s.size) (h : ∀ j (hj : j < s.size), k ≤ j → s[j] ≠ 47) : (47 : UInt8) ∉ s.data.toList.drop k := fun hm => by
  obtain ⟨j, hj, e⟩ := List.getElem_of_mem hm
  rw [List.length_drop] at hj
  have hl := Lib.size_eq s
  rw [List.getElem_drop] at e
  have h1 := h (k + j) (by omega) (by omega)
  refine h1 ?_
  rw [← e]
  show s.data[k + j] = _
  simp
set_option maxRecDepth 100000 in
theorem rawUp_any (s : ByteArray) (w : World) (hs : s.size ≤ 1073741824) :
    Calls Tryz.prog 16 #[.string s] w fun ev w' => ∃ d : ByteArray, ev = .returned (.string d) ∧ Hid (d.data.toList = dirOf s.data.toList) ∧ w' = w := by
  go_enter Tryz.func16, Tryz.ntmps16
  go_wp2
  go_loop [3] (fun i => ∃ k : Nat, k ≤ s.size ∧ i = .int .i64 ((k : Int) - 1) ∧ Hid (∀ j (hj : j < s.size), k ≤ j → s[j] ≠ 47)) (fun i => (intOf i + 1).toNat)
  case atStart => exact ⟨s.size, Nat.le_refl _, by go_num, hide (fun j hj h => by omega)⟩
  case round =>
    obtain ⟨k, hk, rfl, HK⟩ := hrel
    cases k with
    | zero =>
      have hd := dir_no (no_slash (Nat.zero_le _) (unhide HK))
      rw [List.drop_zero] at hd
      have HD := hide hd.1
      clear hd
      go_wp2
      go_ret
      exact ⟨_, rfl, hide (unhide HD).symm, rfl⟩
    | succ k =>
      have e1 : (((k + 1 : Nat) : Int) - 1) = (k : Int) := by omega
      rw [e1]
      have hlt : k < s.size := by omega
      have i0 : (0 : Int) ≤ (k : Int) := by omega
      have i1 : (k : Int) < (s.size : Int) := by omega
      by_cases hc : (s[k].toNat : Int) = 47
      · have hc8 : s[k] = 47 := UInt8.toNat_inj.1 (by have : (47 : UInt8).toNat = 47 := rfl; omega)
        have hsp : s.data.toList = s.data.toList.take k ++ 47 :: s.data.toList.drop (k + 1) := by
          have e2 : s.data.toList[k]'(by have := Lib.size_eq s; omega) = 47 := by rw [← hc8]; show _ = s.data[k]; simp
          rw [← e2, ← List.drop_eq_getElem_cons, List.take_append_drop]
        have hd := (dir_at (a := s.data.toList.take k) (no_slash hk (unhide HK))).1
        rw [← hsp] at hd
        have HD := hide hd
        clear hd hsp hc8 HK
        go_wp2
        go_ret
        exact ⟨_, rfl, hide (by rw [unhide HD, ByteArray.data_extract, Array.toList_extract]; simp), rfl⟩
      · have hne : s[k] ≠ 47 := fun e => hc (by rw [e]; rfl)
        have H2 : Hid (∀ j (hj : j < s.size), k ≤ j → s[j] ≠ 47) := hide (fun j hj h => by
          rcases Nat.lt_or_ge k j with h1 | h1
          · exact unhide HK j hj (by omega)
          · have : j = k := by omega
            subst this; exact hne)
        clear HK hne
        go_wp2
        go_round
        case rel => exact ⟨k, by omega, by go_num, H2⟩
        case measure => simp [intOf]
end Go.Proofs.YtjofjcjojgpaeaaGreatDoor
