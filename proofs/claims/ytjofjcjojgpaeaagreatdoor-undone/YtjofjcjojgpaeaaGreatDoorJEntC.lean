import Derived.Test.YtjofjcjojgpaeaaGreatDoorJEntB
import Derived.Test.YtjofjcjojgpaeaaGreatDoorJOrdB
import Derived.Deep.RegionHeld3
import Derived.BigRegion
namespace Go.Proofs.YtjofjcjojgpaeaaGreatDoor
open Go.RowKit

/-- The entries of a row of theirs. -/
def ERow (w : World) (ao : Option Addr) (es : List Ent) : Prop := ∀ k e, es[k]? = some e → ∃ g o, ao = some ⟨g, o, none⟩ ∧ w.cell? ⟨g, o + k * 4, none⟩ = some (.string e.path) ∧ w.cell? ⟨g, o + k * 4 + 1, none⟩ = some (.int .i64 e.kind) ∧ w.cell? ⟨g, o + k * 4 + 2, none⟩ = some (.int .i64 e.mode) ∧ w.cell? ⟨g, o + k * 4 + 3, none⟩ = some (.string e.data)
theorem ERow.below {w w' : World} {ao : Option Addr} {es : List Ent} (h : ERow w ao es) (hb : Below w.heap.size w w') : ERow w' ao es := fun k e hk => by
  obtain ⟨g, o, h1, h2, h3, h4, h5⟩ := h k e hk
  exact ⟨g, o, h1, cell_later hb h2, cell_later hb h3, cell_later hb h4, cell_later hb h5⟩
theorem ERow.take {w : World} {ao : Option Addr} {es : List Ent} (h : ERow w ao es) (n : Nat) : ERow w ao (es.take n) := fun k e hk => by
  rw [List.getElem?_take] at hk
  split at hk
  · exact h k e hk
  · cases hk
/-- The number of the first entry at a path. -/
def AtIs (es : List Ent) (p : List UInt8) (r : Int) : Prop := (r = -1 ∧ ∀ e ∈ es, e.path.data.toList ≠ p) ∨ ∃ (i : Nat) (e : Ent), r = i ∧ es[i]? = some e ∧ e.path.data.toList = p ∧ ∀ e' ∈ es.take i, e'.path.data.toList ≠ p

/-- The kind of what stands at a path (0: nothing). -/
def kindP (es : List Ent) (p : List UInt8) : Int := if p = [] then 1 else match es.find? (fun e => e.path.data.toList == p) with
  | some e => e.kind
  | none => 0
theorem kindP_miss {es : List Ent} {p : List UInt8} (hp : p ≠ []) (h : ∀ e ∈ es, e.path.data.toList ≠ p) : kindP es p = 0 := by
  have : es.find? (fun e => e.path.data.toList == p) = none := by
    rw [List.find?_eq_none]; intro e he; simpa using h e he
  rw [kindP, if_neg hp, this]
theorem find_first {es : List Ent} {p : List UInt8} {i : Nat} {e : Ent} (h1 : es[i]? = some e) (h2 : e.path.data.toList = p) (h3 : ∀ e' ∈ es.take i, e'.path.data.toList ≠ p) : es.find? (fun e => e.path.data.toList == p) = some e := by
  have hsp : es = es.take i ++ e :: es.drop (i + 1) := by
    rw [← drop_at h1, List.take_append_drop]
  rw [hsp, List.find?_append, List.find?_eq_none.2 (by intro e' he'; simpa using h3 e' he')]
  simp [h2]
theorem kindP_hit {es : List Ent} {p : List UInt8} (hp : p ≠ []) {i : Nat} {e : Ent} (h1 : es[i]? = some e) (h2 : e.path.data.toList = p) (h3 : ∀ e' ∈ es.take i, e'.path.data.toList ≠ p) : kindP es p = e.kind := by
  rw [kindP, if_neg hp, find_first h1 h2 h3]

end Go.Proofs.YtjofjcjojgpaeaaGreatDoor

namespace Go.Proofs.YtjofjcjojgpaeaaGreatDoor
open Go.RowKit

/-- Entries of a size that the proof bears. -/
def Small (es : List Ent) : Prop := ∀ e ∈ es, e.path.size ≤ 1048576 ∧ e.data.size ≤ 1048576
/-- May the entry of this number stand where it stands? -/
def okAt (es : List Ent) (i : Nat) : Bool := match es[i]? with
  | none => false
  | some e => decide (i < 40) && entOk e && (decide (i = 0) || match es[i - 1]? with
    | none => false
    | some d => ltL (prt d.path.data.toList) (prt e.path.data.toList)) && decide (kindP (es.take i) (dirOf e.path.data.toList) = 1)
/-- The number of the first entry that may not; -1: all may. -/
def FirstBad (es : List Ent) (r : Int) : Prop := (r = -1 ∧ ∀ i, i < es.length → okAt es i = true) ∨ ∃ i : Nat, r = i ∧ i < es.length ∧ okAt es i = false ∧ ∀ j, j < i → okAt es j = true
theorem firstBad_one {es : List Ent} {r s : Int} (h1 : FirstBad es r) (h2 : FirstBad es s) : r = s := by
  rcases h1 with ⟨rfl, a1⟩ | ⟨i, rfl, a1, a2, a3⟩ <;> rcases h2 with ⟨rfl, b1⟩ | ⟨j, rfl, b1, b2, b3⟩
  · rfl
  · rw [a1 j b1] at b2; cases b2
  · rw [b1 i a1] at a2; cases a2
  · rcases Nat.lt_trichotomy i j with h | h | h
    · rw [b3 i h] at a2; cases a2
    · rw [h]
    · rw [a3 j h] at b2; cases b2
theorem firstBad_at {es : List Ent} {i : Nat} (hi : i < es.length) (h1 : okAt es i = false) (h2 : ∀ j, j < i → okAt es j = true) : FirstBad es i := .inr ⟨i, rfl, hi, h1, h2⟩
theorem ok_lt {es : List Ent} {i : Nat} (h : okAt es i = true) : i < 40 := by
  unfold okAt at h
  split at h
  · cases h
  · simp only [Bool.and_eq_true, decide_eq_true_eq] at h; exact h.1.1.1
theorem okAt_eq {es : List Ent} {i : Nat} {e : Ent} (h : es[i]? = some e) : okAt es i = (decide (i < 40) && entOk e && (decide (i = 0) || match es[i - 1]? with
    | none => false
    | some d => ltL (prt d.path.data.toList) (prt e.path.data.toList)) && decide (kindP (es.take i) (dirOf e.path.data.toList) = 1)) := by
  unfold okAt; rw [h]
/-- The same, wherever the list ends. -/
def okG (es : List Ent) (i : Nat) : Bool := match es[i]? with
  | none => false
  | some e => entOk e && (decide (i = 0) || match es[i - 1]? with
    | none => false
    | some d => ltL (prt d.path.data.toList) (prt e.path.data.toList)) && decide (kindP (es.take i) (dirOf e.path.data.toList) = 1)
theorem okG_of {es : List Ent} {i : Nat} (h : okAt es i = true) : okG es i = true := by
  unfold okAt at h
  unfold okG
  split at h
  · cases h
  · simp only [Bool.and_eq_true] at h ⊢
    exact ⟨⟨h.1.1.2, h.1.2⟩, h.2⟩
theorem okG_eq {es : List Ent} {i : Nat} {e : Ent} (h : es[i]? = some e) : okG es i = (entOk e && (decide (i = 0) || match es[i - 1]? with
    | none => false
    | some d => ltL (prt d.path.data.toList) (prt e.path.data.toList)) && decide (kindP (es.take i) (dirOf e.path.data.toList) = 1)) := by
  unfold okG; rw [h]
theorem all_lt {es : List Ent} {k : Nat} (h : ∀ j, j < k → okAt es j = true) : k ≤ 40 := by
  cases k with
  | zero => omega
  | succ k => have := ok_lt (h k (by omega)); omega

attribute [local go_sem] setCell_drewN alloc_drewN

end Go.Proofs.YtjofjcjojgpaeaaGreatDoor

namespace Go.Proofs.YtjofjcjojgpaeaaGreatDoor
open Go.RowKit

theorem pick_any (c n : Int) (w : World) (h0 : 0 < n) (h1 : n ≤ 1000) :
    Calls Tryz.prog 17 #[.int .i64 c, .int .i64 n] w fun ev w' => ∃ k : Int, ev = .returned (.int .i64 k) ∧ 0 ≤ k ∧ k < n ∧ w' = w := by
  have hn : ¬ n = 0 := by omega
  have hn2 : (n == 0) = false := by simp [hn]
  have ha : -n < c.tmod n := by
    have := Int.lt_tmod_of_pos c h0
    omega
  have hb : c.tmod n < n := Int.tmod_lt_of_pos c h0
  by_cases hneg : c.tmod n < 0
  · go_enter Tryz.func17, Tryz.ntmps17
    go_wp2
    go_ret
    exact ⟨_, rfl, by omega, by omega, rfl⟩
  · go_enter Tryz.func17, Tryz.ntmps17
    go_wp2
    go_ret
    exact ⟨_, rfl, by omega, by omega, rfl⟩
/-- One of n by any number. -/
def pickN (c n : Int) : Int := if c.tmod n < 0 then c.tmod n + n else c.tmod n
theorem pick_is (c n : Int) (w : World) (h0 : 0 < n) (h1 : n ≤ 1000) :
    Calls Tryz.prog 17 #[.int .i64 c, .int .i64 n] w fun ev w' => ev = .returned (.int .i64 (pickN c n)) ∧ w' = w := by
  have hn : ¬ n = 0 := by omega
  have hn2 : (n == 0) = false := by simp [hn]
  have ha : -n < c.tmod n := by
    have := Int.lt_tmod_of_pos c h0
    omega
  have hb : c.tmod n < n := Int.tmod_lt_of_pos c h0
  by_cases hneg : c.tmod n < 0
  · have HQ : Hid (pickN c n = c.tmod n + n) := hide (by rw [pickN, if_pos hneg])
    go_enter Tryz.func17, Tryz.ntmps17
    go_wp2
    go_ret
    exact ⟨congrArg (fun t => Ending.returned (Value.int .i64 t)) (unhide HQ).symm, rfl⟩
  · have HQ : Hid (pickN c n = c.tmod n) := hide (by rw [pickN, if_neg hneg])
    go_enter Tryz.func17, Tryz.ntmps17
    go_wp2
    go_ret
    exact ⟨congrArg (fun t => Ending.returned (Value.int .i64 t)) (unhide HQ).symm, rfl⟩
theorem no_slash {s : ByteArray} {k : Nat} (hk : k ≤ s.size) (h : ∀ j (hj : j < s.size), k ≤ j → s[j] ≠ 47) : (47 : UInt8) ∉ s.data.toList.drop k := fun hm => by
  obtain ⟨j, hj, e⟩ := List.getElem_of_mem hm
  rw [List.length_drop] at hj
  have hl := Lib.size_eq s
  rw [List.getElem_drop] at e
  have h1 := h (k + j) (by omega) (by omega)
  refine h1 ?_
  rw [← e]
  show s.data[k + j] = _
  simp
set_option maxRecDepth 100000 in
theorem rawUp_any (s : ByteArray) (w : World) (hs : s.size ≤ 1073741824) :
    Calls Tryz.prog 16 #[.string s] w fun ev w' => ∃ d : ByteArray, ev = .returned (.string d) ∧ Hid (d.data.toList = dirOf s.data.toList) ∧ w' = w := by
  go_enter Tryz.func16, Tryz.ntmps16
  go_wp2
  go_loop [3] (fun i => ∃ k : Nat, k ≤ s.size ∧ i = .int .i64 ((k : Int) - 1) ∧ Hid (∀ j (hj : j < s.size), k ≤ j → s[j] ≠ 47)) (fun i => (intOf i + 1).toNat)
  case atStart => exact ⟨s.size, Nat.le_refl _, by go_num, hide (fun j hj h => by omega)⟩
  case round =>
    obtain ⟨k, hk, rfl, HK⟩ := hrel
    cases k with
    | zero =>
      have hd := dir_no (no_slash (Nat.zero_le _) (unhide HK))
      rw [List.drop_zero] at hd
      have HD := hide hd.1
      clear hd
      go_wp2
      go_ret
      exact ⟨_, rfl, hide (unhide HD).symm, rfl⟩
    | succ k =>
      have e1 : (((k + 1 : Nat) : Int) - 1) = (k : Int) := by omega
      rw [e1]
      have hlt : k < s.size := by omega
      have i0 : (0 : Int) ≤ (k : Int) := by omega
      have i1 : (k : Int) < (s.size : Int) := by omega
      by_cases hc : (s[k].toNat : Int) = 47
      · have hc8 : s[k] = 47 := UInt8.toNat_inj.1 (by have : (47 : UInt8).toNat = 47 := rfl; omega)
        have hsp : s.data.toList = s.data.toList.take k ++ 47 :: s.data.toList.drop (k + 1) := by
          have e2 : s.data.toList[k]'(by have := Lib.size_eq s; omega) = 47 := by rw [← hc8]; show _ = s.data[k]; simp
          rw [← e2, ← List.drop_eq_getElem_cons, List.take_append_drop]
        have hd := (dir_at (a := s.data.toList.take k) (no_slash hk (unhide HK))).1
        rw [← hsp] at hd
        have HD := hide hd
        clear hd hsp hc8 HK
        go_wp2
        go_ret
        exact ⟨_, rfl, hide (by rw [unhide HD, ByteArray.data_extract, Array.toList_extract]; simp), rfl⟩
      · have hne : s[k] ≠ 47 := fun e => hc (by rw [e]; rfl)
        have H2 : Hid (∀ j (hj : j < s.size), k ≤ j → s[j] ≠ 47) := hide (fun j hj h => by
          rcases Nat.lt_or_ge k j with h1 | h1
          · exact unhide HK j hj (by omega)
          · have : j = k := by omega
            subst this; exact hne)
        clear HK hne
        go_wp2
        go_round
        case rel => exact ⟨k, by omega, by go_num, H2⟩
        case measure => simp [intOf]
end Go.Proofs.YtjofjcjojgpaeaaGreatDoor
