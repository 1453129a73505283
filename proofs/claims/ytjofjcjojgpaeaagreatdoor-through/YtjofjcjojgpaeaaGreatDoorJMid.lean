import Derived.Test.YtjofjcjojgpaeaaGreatDoorJAs
import Derived.Test.YtjofjcjojgpaeaaGreatDoorJLeaf
import Derived.Sort.Grow
namespace Go.Proofs.YtjofjcjojgpaeaaGreatDoor
open Go.RowKit

theorem txts_len (ps : List ByteArray) : (txts ps).length = ps.length := by simp [txts]
theorem txts_get {ps : List ByteArray} {k : Nat} {b : ByteArray} (h : ps[k]? = some b) : (txts ps)[k]? = some b.data.toList := by simp [txts, h]
theorem own_cell {w : World} {B g cap : Nat} {ps : List ByteArray} (h : Own w B (.slice (some ⟨g, 0, none⟩) ps.length cap) ps) {k : Nat} {b : ByteArray} (hk : ps[k]? = some b) : w.cell? ⟨g, k, none⟩ = some (.string b) := by
  have hl : k < ps.length := (List.getElem?_eq_some_iff.1 hk).1
  rw [World.ownsRow.cellAt h k (by omega)]; simp [hk]
theorem own_form {w : World} {B : Nat} {v : Value} {ps : List ByteArray} (h : Own w B v ps) (hn : ps ≠ []) : ∃ g cap, v = .slice (some ⟨g, 0, none⟩) ps.length cap := by
  rcases h.2 with ⟨_, h0⟩ | ⟨g, cap, cur, hv, _⟩
  · exact absurd (List.length_eq_zero_iff.1 h0) hn
  · exact ⟨g, cap, hv⟩

set_option maxHeartbeats 400000 in
theorem elems_nil (s : ByteArray) (w : World) (h : s.data.toList = []) :
    Calls Tryz.prog 65 #[.string s] w fun e w' => e = .returned (.slice none 0 0) ∧ w' = w := by
  have g : s.toList.isEmpty = true := by rw [Lib.toList_data, h]; rfl
  clear h
  go_enter Tryz.func65, Tryz.ntmps65
  go_wp2
  go_ret
  exact ⟨rfl, rfl⟩
theorem split_any (s : ByteArray) (m : Int) (w : World) (hs : s.size ≤ 4294967280) (hm : w.cell? ⟨14, 0, none⟩ = some (.int .i64 m)) :
    Calls Tryz.prog 91 #[.string s, .string ⟨#[47]⟩] w fun e w' => ∃ g cap ps, e = .returned (.slice (some ⟨g, 0, none⟩) ps.length cap) ∧ Own w' w.heap.size (.slice (some ⟨g, 0, none⟩) ps.length cap) ps ∧ txts ps = spl s.data.toList ∧ Below w.heap.size w w' ∧ ∃ os, w' = Go.Sort.grow w os := by
  refine (Tryz.strings_Split s ⟨#[47]⟩ m w (by omega) hm (by decide)).mono ?_
  rintro e w' ⟨rfl, rfl⟩
  have hl := Lib.splitB_all ⟨#[47]⟩ (by decide) 0 _ s rfl
  have hc := Lib.countB_le ⟨#[47]⟩ (by decide) s.size s (Nat.le_refl _)
  refine ⟨w.heap.size, _, Lib.splitB ⟨#[47]⟩ 0 (Lib.countB s ⟨#[47]⟩) s, by rw [hl], ?_, ?_, (Below.refl _ _).alloc (Nat.le_refl _) _, _, Go.Sort.alloc_eq_grow _ _⟩
  · have := World.ownsRow_lit (base := w.heap.size) (e := 9) (size := 1) w ((Lib.splitB ⟨#[47]⟩ 0 (Lib.countB s ⟨#[47]⟩) s).map Value.string).toArray (Lib.countB s ⟨#[47]⟩ + 1) (Nat.le_refl _) (by unfold maxLen; omega) (by simp [hl])
    rw [← hl] at this ⊢
    simpa [Own] using this
  · exact (Lib.splitB_data ⟨#[47]⟩ 0 _ s).trans (splitK_one s.data.toList)
set_option maxHeartbeats 400000 in
theorem elems_some (s : ByteArray) (m : Int) (w : World) (hs : s.size ≤ 4294967280) (hm : w.cell? ⟨14, 0, none⟩ = some (.int .i64 m)) (h : s.data.toList ≠ []) :
    Calls Tryz.prog 65 #[.string s] w fun e w' => ∃ g cap ps, e = .returned (.slice (some ⟨g, 0, none⟩) ps.length cap) ∧ Own w' w.heap.size (.slice (some ⟨g, 0, none⟩) ps.length cap) ps ∧ txts ps = spl s.data.toList ∧ Below w.heap.size w w' ∧ ∃ os, w' = Go.Sort.grow w os := by
  have g : s.toList.isEmpty = false := by rw [Lib.toList_data]; simpa using h
  clear h
  go_enter Tryz.func65, Tryz.ntmps65
  go_wp2_with (go_at_call 91; refine (split_any _ m _ hs hm).mono ?_; rintro e w' ⟨g, cap, ps, rfl, hown, ht, hb, hgr⟩)
  go_ret
  exact ⟨_, _, _, rfl, hown, ht, hb, hgr⟩
end Go.Proofs.YtjofjcjojgpaeaaGreatDoor

namespace Go.Proofs.YtjofjcjojgpaeaaGreatDoor
open Go.RowKit

set_option maxHeartbeats 400000 in
theorem is_long (s : ByteArray) (w : World) (h : 170 < s.size) :
    Calls Tryz.prog 61 #[.string s] w fun e w' => e = .returned (.bool (isP s.data.toList)) ∧ Below w.heap.size w w' := by
  have B := hide (isP_long (l := s.data.toList) (by have := Lib.size_eq s; omega))
  go_enter Tryz.func61, Tryz.ntmps61
  go_wp2
  go_ret
  exact ⟨ret_bool (unhide B).symm, Below.refl _ _⟩

set_option maxHeartbeats 400000 in
theorem is_nil (s : ByteArray) (w : World) (h : s.data.toList = []) :
    Calls Tryz.prog 61 #[.string s] w fun e w' => e = .returned (.bool (isP s.data.toList)) ∧ Below w.heap.size w w' := by
  have B : Hid (isP s.data.toList = true) := by rw [h]; exact hide (by decide)
  have hz : (s.size : Int) ≤ 170 := by rw [Lib.size_eq s, h]; decide
  have H := hide h
  clear h
  go_enter Tryz.func61, Tryz.ntmps61
  go_wp2_with (go_at_call 65; refine (elems_nil _ _ (unhide H)).mono ?_; rintro e w' ⟨rfl, rfl⟩)
  refine wp_loop_rounds 1 ?_
  rw [rounds_succ]
  go_wp2
  go_ret
  exact ⟨ret_bool (unhide B).symm, Below.refl _ _⟩

set_option maxHeartbeats 800000 in
theorem is_some (s : ByteArray) (m : Int) (w : World) (hs : s.size ≤ 170) (hm : w.cell? ⟨14, 0, none⟩ = some (.int .i64 m)) (h : s.data.toList ≠ []) :
    Calls Tryz.prog 61 #[.string s] w fun e w' => e = .returned (.bool (isP s.data.toList)) ∧ Below w.heap.size w w' := by
  have H := hide h
  have hl0 : Hid ((spl s.data.toList).length ≤ s.size + 1) := hide (by have := spl_len s.data.toList; have := Lib.size_eq s; omega)
  have HP := hide (prt_ne h)
  clear h
  go_enter Tryz.func61, Tryz.ntmps61
  go_wp2_with (go_at_call 65; refine (elems_some _ m _ (by omega) hm (unhide H)).mono ?_; rintro e w1 ⟨g, cap, ps, rfl, hown, ht, hb, _⟩)
  have hlen : ps.length ≤ 171 := by have := txts_len ps; rw [ht] at this; have := unhide hl0; omega
  have HT := hide ht
  clear ht hl0
  go_loop [13] (fun i => ∃ k : Nat, k ≤ ps.length ∧ i = .int .i64 k ∧ Hid (((txts ps).take k).all elt = true)) (fun i => ps.length - (intOf i).toNat)
  case atStart => exact ⟨0, Nat.zero_le _, rfl, hide rfl⟩
  case round =>
    obtain ⟨k, hk, rfl, HA⟩ := hrel
    by_cases hlt : k < ps.length
    · obtain ⟨b, hbk⟩ : ∃ b, ps[k]? = some b := ⟨ps[k], List.getElem?_eq_getElem hlt⟩
      have hcell := own_cell hown hbk
      have HB := hide hbk
      clear hbk
      cases hok : elt b.data.toList
      · have B := hide (isP_not (l := s.data.toList) (by rw [unhide HP, ← unhide HT]; exact txts_get (unhide HB)) hok)
        go_wp2_with (go_at_call 89; refine (isEl_any _ _).mono ?_; rintro e w' ⟨rfl, rfl⟩)
        go_ret
        exact ⟨ret_bool (unhide B).symm, hb⟩
      · have B := hide (all_take_succ (txts_get (unhide HB)) (unhide HA) hok)
        go_wp2_with (go_at_call 89; refine (isEl_any _ _).mono ?_; rintro e w' ⟨rfl, rfl⟩)
        go_round
        case rel => exact ⟨k + 1, by omega, by go_num, B⟩
        case measure => simp [intOf]; omega
    · have B : Hid (isP s.data.toList = decide (ps.length ≤ 12)) := by
        have ha := unhide HA
        have ht := unhide HT
        rw [List.take_of_length_le (by rw [txts_len]; omega)] at ha
        have := isP_yes (l := s.data.toList) (by have := Lib.size_eq s; omega) (by rw [unhide HP, ← ht]; exact ha)
        rw [unhide HP, ← ht, txts_len] at this
        exact hide this
      go_wp2
      go_ret
      exact ⟨ret_bool (by rw [unhide B]; exact decide_eq_decide.2 (by omega)), hb⟩

theorem is_any (s : ByteArray) (m : Int) (w : World) (hm : w.cell? ⟨14, 0, none⟩ = some (.int .i64 m)) :
    Calls Tryz.prog 61 #[.string s] w fun e w' => e = .returned (.bool (isP s.data.toList)) ∧ Below w.heap.size w w' := by
  by_cases h1 : 170 < s.size
  · exact is_long s w h1
  · by_cases h2 : s.data.toList = []
    · exact is_nil s w h2
    · exact is_some s m w (by omega) hm h2

theorem ret_str {a b : ByteArray} (h : a = b) : Ending.returned (.string a) = .returned (.string b) := by rw [h]
def bs (l : List UInt8) : ByteArray := ⟨l.toArray⟩
theorem bs_data (s : ByteArray) : bs s.data.toList = s := Lib.mk_data s
theorem data_bs (l : List UInt8) : (bs l).data.toList = l := rfl
theorem data_append (a b : ByteArray) : (a ++ b).data.toList = a.data.toList ++ b.data.toList := by simp

end Go.Proofs.YtjofjcjojgpaeaaGreatDoor

namespace Go.Proofs.YtjofjcjojgpaeaaGreatDoor
open Go.RowKit

/-- An entry. -/
structure Ent where
  path : ByteArray
  kind : Int
  mode : Int
  data : ByteArray
def Ent.val (e : Ent) : Value := .agg #[.string e.path, .int .i64 e.kind, .int .i64 e.mode, .string e.data]
def tgC (c : UInt8) : Bool := decide (33 ≤ (c.toNat : Int) ∧ (c.toNat : Int) ≤ 126)
def tgt (l : List UInt8) : Bool := l.all tgC && l != [] && decide (l.length ≤ 100)
def modeOk (m : Int) : Bool := decide (0 ≤ m ∧ m ≤ 511)
def goodE (e : Ent) : Bool :=
  if e.kind = 1 then modeOk e.mode && e.data.data.toList == []
  else if e.kind = 2 then modeOk e.mode && decide (e.data.size ≤ 4096)
  else if e.kind = 3 then decide (e.mode = 0) && tgt e.data.data.toList
  else false
theorem tg_snoc (s : ByteArray) (k : Nat) (h : k < s.size) (h1 : (s.data.toList.take k).all tgC = true) (h2 : 33 ≤ (s[k].toNat : Int) ∧ (s[k].toNat : Int) ≤ 126) : (s.data.toList.take (k + 1)).all tgC = true := by
  rw [take_snoc s k h, List.all_append, h1]; simpa [tgC] using h2
theorem tg_bad (s : ByteArray) (k : Nat) (h : k < s.size) (h2 : ¬ (33 ≤ (s[k].toNat : Int) ∧ (s[k].toNat : Int) ≤ 126)) : tgt s.data.toList = false := by
  have : s.data.toList.all tgC = false := by
    rw [List.all_eq_false]
    refine ⟨s[k], ?_, by simpa [tgC] using h2⟩
    rw [show s[k] = s.data[k] from rfl]; simp
  simp [tgt, this]
theorem tg_good (s : ByteArray) (k : Nat) (h : s.size ≤ k) (h1 : (s.data.toList.take k).all tgC = true) : s.data.toList.all tgC = true := by
  rw [List.take_of_length_le (by have := Lib.size_eq s; omega)] at h1; exact h1

set_option maxHeartbeats 400000 in
theorem isTg_any (s : ByteArray) (w : World) :
    Calls Tryz.prog 63 #[.string s] w fun e w' => e = .returned (.bool (tgt s.data.toList)) ∧ w' = w := by
  by_cases h0 : s.data.toList = []
  · have C : Hid (tgt s.data.toList = false) := hide (by rw [h0]; rfl)
    have g1 : s.toList.isEmpty = true := by rw [Lib.toList_data, h0]; rfl
    clear h0
    go_enter Tryz.func63, Tryz.ntmps63
    go_wp2
    go_ret
    exact ⟨ret_bool (unhide C).symm, rfl⟩
  · have g1 : s.toList.isEmpty = false := by rw [Lib.toList_data]; simpa using h0
    by_cases h1 : (s.size : Int) ≤ 100
    · have D : Hid (s.data.toList.all tgC = true → tgt s.data.toList = true) := hide (fun h => by rw [tgt, h]; have := Lib.size_eq s; simp [h0]; omega)
      clear h0
      go_enter Tryz.func63, Tryz.ntmps63
      go_wp2
      go_loop [13] (fun i => ∃ k : Nat, k ≤ s.size ∧ i = .int .i64 k ∧ (s.data.toList.take k).all tgC = true) (fun i => s.size - (intOf i).toNat)
      case atStart => exact ⟨0, Nat.zero_le _, rfl, rfl⟩
      case round =>
        obtain ⟨k, hk, rfl, ha⟩ := hrel
        have A := hide ha
        clear ha
        by_cases hlt : k < s.size
        · by_cases hc : 33 ≤ (s[k].toNat : Int) ∧ (s[k].toNat : Int) ≤ 126
          · have B := hide (tg_snoc s k hlt (unhide A) hc)
            obtain ⟨hc1, hc2⟩ := hc
            go_wp2
            go_round
            case rel => exact ⟨k + 1, by omega, by go_num, unhide B⟩
            case measure => simp [intOf]; omega
          · have B := hide (tg_bad s k hlt hc)
            have hc2 : (s[k].toNat : Int) < 33 ∨ 126 < (s[k].toNat : Int) := by omega
            clear hc
            rcases hc2 with hc | hc
            all_goals
              go_wp2
              go_ret
              exact ⟨ret_bool (unhide B).symm, rfl⟩
        · have B := hide (unhide D (tg_good s k (by omega) (unhide A)))
          go_wp2
          go_ret
          exact ⟨ret_bool (unhide B).symm, rfl⟩
    · have C : Hid (tgt s.data.toList = false) := hide (by rw [tgt]; have := Lib.size_eq s; simp; omega)
      clear h0
      go_enter Tryz.func63, Tryz.ntmps63
      go_wp2
      go_ret
      exact ⟨ret_bool (unhide C).symm, rfl⟩

theorem isMode_any (n : Int) (w : World) :
    Calls Tryz.prog 62 #[.int .i64 n] w fun e w' => e = .returned (.bool (modeOk n)) ∧ w' = w := by
  by_cases h0 : 0 ≤ n
  · by_cases h1 : n ≤ 511
    · have C : Hid (modeOk n = true) := hide (by simp [modeOk, h0, h1])
      go_enter Tryz.func62, Tryz.ntmps62
      go_wp2
      go_ret
      exact ⟨ret_bool (unhide C).symm, rfl⟩
    · have C : Hid (modeOk n = false) := hide (by simp [modeOk, h1])
      go_enter Tryz.func62, Tryz.ntmps62
      go_wp2
      go_ret
      exact ⟨ret_bool (unhide C).symm, rfl⟩
  · have C : Hid (modeOk n = false) := hide (by simp [modeOk, h0])
    go_enter Tryz.func62, Tryz.ntmps62
    go_wp2
    go_ret
    exact ⟨ret_bool (unhide C).symm, rfl⟩
end Go.Proofs.YtjofjcjojgpaeaaGreatDoor
