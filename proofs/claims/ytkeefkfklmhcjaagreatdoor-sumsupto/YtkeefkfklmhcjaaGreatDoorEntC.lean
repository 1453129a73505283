import Derived.Test.YtkeefkfklmhcjaaGreatDoorEntB
import Derived.Test.YtkeefkfklmhcjaaGreatDoorUpA
namespace Go.Proofs.YtkeefkfklmhcjaaGreatDoor
open Go.RowKit

/-- The entries of a row of theirs. -/
def ERow (w : World) (ao : Option Addr) (es : List Ent) : Prop := ∀ k e, es[k]? = some e → ∃ g o, ao = some ⟨g, o, none⟩ ∧ w.cell? ⟨g, o + k * 4, none⟩ = some (.string e.path) ∧ w.cell? ⟨g, o + k * 4 + 1, none⟩ = some (.int .i64 e.kind) ∧ w.cell? ⟨g, o + k * 4 + 2, none⟩ = some (.int .i64 e.mode) ∧ w.cell? ⟨g, o + k * 4 + 3, none⟩ = some (.string e.data)
theorem ERow.below {w w' : World} {ao : Option Addr} {es : List Ent} (h : ERow w ao es) (hb : Below w.heap.size w w') : ERow w' ao es := fun k e hk => by
  obtain ⟨g, o, h1, h2, h3, h4, h5⟩ := h k e hk
  exact ⟨g, o, h1, cell_later hb h2, cell_later hb h3, cell_later hb h4, cell_later hb h5⟩
theorem ERow.take {w : World} {ao : Option Addr} {es : List Ent} (h : ERow w ao es) (n : Nat) : ERow w ao (es.take n) := fun k e hk => by
  rw [List.getElem?_take] at hk
  split at hk
  · exact h k e hk
  · cases hk
/-- The number of the first entry at a path. -/
def AtIs (es : List Ent) (p : List UInt8) (r : Int) : Prop := (r = -1 ∧ ∀ e ∈ es, e.path.data.toList ≠ p) ∨ ∃ (i : Nat) (e : Ent), r = i ∧ es[i]? = some e ∧ e.path.data.toList = p ∧ ∀ e' ∈ es.take i, e'.path.data.toList ≠ p

set_option maxHeartbeats 400000 in
theorem at_any (ao : Option Addr) (cap n : Nat) (es : List Ent) (p : ByteArray) (w : World) (hr : ERow w ao es) (HN : Hid (n = es.length)) (hn : n ≤ 4294967280) :
    Calls Tryz.prog 34 #[.slice ao n cap, .string p] w fun ev w' => ∃ r : Int, ev = .returned (.int .i64 r) ∧ Hid (AtIs es p.data.toList r) ∧ w' = w := by
  go_enter Tryz.func34, Tryz.ntmps34
  go_wp2
  go_loop [5] (fun i => ∃ k : Nat, k ≤ n ∧ i = .int .i64 k ∧ Hid (∀ e ∈ es.take k, e.path.data.toList ≠ p.data.toList)) (fun i => n - (intOf i).toNat)
  case atStart => exact ⟨0, Nat.zero_le _, rfl, hide (by simp)⟩
  case round =>
    obtain ⟨k, hk, rfl, HK⟩ := hrel
    by_cases hlt : k < n
    · obtain ⟨e, he⟩ : ∃ e, es[k]? = some e := ⟨es[k]'(by have := unhide HN; omega), List.getElem?_eq_getElem (by have := unhide HN; omega)⟩
      obtain ⟨g, o, rfl, c0, c1, c2, c3⟩ := hr k e he
      have i0 : (0 : Int) ≤ (k : Int) := by omega
      have i1 : (k : Int) < (n : Int) := by omega
      have HE := hide he
      clear he
      by_cases hq : e.path.data.toList = p.data.toList
      · have g1 : (e.path.toList == p.toList) = true := by rw [Lib.toList_data, Lib.toList_data, hq]; simp
        have HQ := hide hq
        clear hq
        go_wp2
        go_ret
        exact ⟨k, rfl, hide (.inr ⟨k, e, rfl, unhide HE, unhide HQ, unhide HK⟩), rfl⟩
      · have g1 : (e.path.toList == p.toList) = false := by rw [Lib.toList_data, Lib.toList_data]; simpa using hq
        have HQ := hide hq
        clear hq
        go_wp2
        go_round
        case rel => exact ⟨k + 1, by omega, by go_num, hide (by
          intro e' he'
          rw [List.take_add_one, unhide HE] at he'
          simp only [Option.toList_some, List.mem_append, List.mem_singleton] at he'
          rcases he' with h | rfl
          · exact unhide HK e' h
          · exact unhide HQ)⟩
        case measure => simp [intOf]; omega
    · go_wp2
      go_ret
      refine ⟨-1, rfl, hide (.inl ⟨rfl, ?_⟩), rfl⟩
      have h := unhide HK
      rw [List.take_of_length_le (by have := unhide HN; omega)] at h
      exact h

/-- The kind of what stands at a path (0: nothing). -/
def kindP (es : List Ent) (p : List UInt8) : Int := if p = [] then 1 else match es.find? (fun e => e.path.data.toList == p) with
  | some e => e.kind
  | none => 0
theorem kindP_miss {es : List Ent} {p : List UInt8} (hp : p ≠ []) (h : ∀ e ∈ es, e.path.data.toList ≠ p) : kindP es p = 0 := by
  have : es.find? (fun e => e.path.data.toList == p) = none := by
    rw [List.find?_eq_none]; intro e he; simpa using h e he
  rw [kindP, if_neg hp, this]
theorem find_first {es : List Ent} {p : List UInt8} {i : Nat} {e : Ent} (h1 : es[i]? = some e) (h2 : e.path.data.toList = p) (h3 : ∀ e' ∈ es.take i, e'.path.data.toList ≠ p) : es.find? (fun e => e.path.data.toList == p) = some e := by
  have hsp : es = es.take i ++ e :: es.drop (i + 1) := by
    rw [← drop_at h1, List.take_append_drop]
  rw [hsp, List.find?_append, List.find?_eq_none.2 (by intro e' he'; simpa using h3 e' he')]
  simp [h2]
theorem kindP_hit {es : List Ent} {p : List UInt8} (hp : p ≠ []) {i : Nat} {e : Ent} (h1 : es[i]? = some e) (h2 : e.path.data.toList = p) (h3 : ∀ e' ∈ es.take i, e'.path.data.toList ≠ p) : kindP es p = e.kind := by
  rw [kindP, if_neg hp, find_first h1 h2 h3]

set_option maxHeartbeats 400000 in
theorem kind_any (ao : Option Addr) (cap n : Nat) (es : List Ent) (p : ByteArray) (w : World) (hr : ERow w ao es) (HN : Hid (n = es.length)) (hn : n ≤ 4294967280) :
    Calls Tryz.prog 31 #[.slice ao n cap, .string p] w fun ev w' => ∃ r : Int, ev = .returned (.int .i64 r) ∧ Hid (r = kindP es p.data.toList) ∧ w' = w := by
  by_cases hp : p.data.toList = []
  · have g1 : p.toList.isEmpty = true := by rw [Lib.toList_data, hp]; rfl
    have C : Hid (kindP es p.data.toList = 1) := hide (by rw [kindP, if_pos hp])
    clear hp
    go_enter Tryz.func31, Tryz.ntmps31
    go_wp2
    go_ret
    exact ⟨1, rfl, hide (unhide C).symm, rfl⟩
  · have g1 : p.toList.isEmpty = false := by rw [Lib.toList_data]; simpa using hp
    have HP := hide hp
    clear hp
    go_enter Tryz.func31, Tryz.ntmps31
    go_upto_region 4 with (go_at_call 34; refine (at_any _ _ _ es p _ hr HN hn).mono ?_; rintro ev w1 ⟨r, rfl, HR, hw⟩; obtain rfl := hw.symm)
    rcases unhide HR with ⟨rfl, h1⟩ | ⟨i, e, rfl, h1, h2, h3⟩
    · have C : Hid (kindP es p.data.toList = 0) := hide (kindP_miss (unhide HP) h1)
      clear h1 HR
      go_wp2
      go_ret
      exact ⟨0, rfl, hide (unhide C).symm, rfl⟩
    · have C : Hid (kindP es p.data.toList = e.kind) := hide (kindP_hit (unhide HP) h1 h2 h3)
      obtain ⟨g, o, rfl, c0, c1, c2, c3⟩ := hr i e h1
      have hi : i < es.length := (List.getElem?_eq_some_iff.1 h1).1
      have i0 : (0 : Int) ≤ (i : Int) := by omega
      have i1 : (i : Int) < (n : Int) := by have := unhide HN; omega
      clear h1 h2 h3 HR
      go_wp2
      go_ret
      exact ⟨e.kind, rfl, hide (unhide C).symm, rfl⟩
end Go.Proofs.YtkeefkfklmhcjaaGreatDoor
