import Derived.Test.YtabahmnagffnbaaGreatDoorJAs
import Derived.Test.YtabahmnagffnbaaGreatDoorJStoB
import Derived.Sort.Grow
import Derived.Deep.QuietTactic
import Derived.BigQuiet
namespace Go.Proofs.YtabahmnagffnbaaGreatDoor
open Go.RowKit

theorem txts_len (ps : List ByteArray) : (txts ps).length = ps.length := by simp [txts]
theorem txts_get {ps : List ByteArray} {k : Nat} {b : ByteArray} (h : ps[k]? = some b) : (txts ps)[k]? = some b.data.toList := by simp [txts, h]
theorem own_cell {w : World} {B g cap : Nat} {ps : List ByteArray} (h : Own w B (.slice (some ⟨g, 0, none⟩) ps.length cap) ps) {k : Nat} {b : ByteArray} (hk : ps[k]? = some b) : w.cell? ⟨g, k, none⟩ = some (.string b) := by
  have hl : k < ps.length := (List.getElem?_eq_some_iff.1 hk).1
  rw [World.ownsRow.cellAt h k (by omega)]; simp [hk]
theorem own_form {w : World} {B : Nat} {v : Value} {ps : List ByteArray} (h : Own w B v ps) (hn : ps ≠ []) : ∃ g cap, v = .slice (some ⟨g, 0, none⟩) ps.length cap := by
  rcases h.2 with ⟨_, h0⟩ | ⟨g, cap, cur, hv, _⟩
  · exact absurd (List.length_eq_zero_iff.1 h0) hn
  · exact ⟨g, cap, hv⟩

set_option maxHeartbeats 400000 in
theorem elems_nil (s : ByteArray) (w : World) (h : s.data.toList = []) :
    Calls Tryz.prog 51 #[.string s] w fun e w' => e = .returned (.slice none 0 0) ∧ w' = w := by
  have g : s.toList.isEmpty = true := by rw [Lib.toList_data, h]; rfl
  clear h
  go_enter Tryz.func51, Tryz.ntmps51
  go_wp2
  go_ret
  exact ⟨rfl, rfl⟩
theorem split_any (s : ByteArray) (m : Int) (w : World) (hs : s.size ≤ 4294967280) (hm : w.cell? ⟨2, 0, none⟩ = some (.int .i64 m)) :
    Calls Tryz.prog 80 #[.string s, .string ⟨#[47]⟩] w fun e w' => ∃ g cap ps, e = .returned (.slice (some ⟨g, 0, none⟩) ps.length cap) ∧ Own w' w.heap.size (.slice (some ⟨g, 0, none⟩) ps.length cap) ps ∧ txts ps = spl s.data.toList ∧ Below w.heap.size w w' ∧ ∃ os, w' = Go.Sort.grow w os := by
  refine (Tryz.strings_Split s ⟨#[47]⟩ m w (by omega) hm (by decide)).mono ?_
  rintro e w' ⟨rfl, rfl⟩
  have hl := Lib.splitB_all ⟨#[47]⟩ (by decide) 0 _ s rfl
  have hc := Lib.countB_le ⟨#[47]⟩ (by decide) s.size s (Nat.le_refl _)
  refine ⟨w.heap.size, _, Lib.splitB ⟨#[47]⟩ 0 (Lib.countB s ⟨#[47]⟩) s, by rw [hl], ?_, ?_, (Below.refl _ _).alloc (Nat.le_refl _) _, _, Go.Sort.alloc_eq_grow _ _⟩
  · have := World.ownsRow_lit (base := w.heap.size) (e := 9) (size := 1) w ((Lib.splitB ⟨#[47]⟩ 0 (Lib.countB s ⟨#[47]⟩) s).map Value.string).toArray (Lib.countB s ⟨#[47]⟩ + 1) (Nat.le_refl _) (by unfold maxLen; omega) (by simp [hl])
    rw [← hl] at this ⊢
    simpa [Own] using this
  · exact (Lib.splitB_data ⟨#[47]⟩ 0 _ s).trans (splitK_one s.data.toList)
set_option maxHeartbeats 400000 in
theorem elems_some (s : ByteArray) (m : Int) (w : World) (hs : s.size ≤ 4294967280) (hm : w.cell? ⟨2, 0, none⟩ = some (.int .i64 m)) (h : s.data.toList ≠ []) :
    Calls Tryz.prog 51 #[.string s] w fun e w' => ∃ g cap ps, e = .returned (.slice (some ⟨g, 0, none⟩) ps.length cap) ∧ Own w' w.heap.size (.slice (some ⟨g, 0, none⟩) ps.length cap) ps ∧ txts ps = spl s.data.toList ∧ Below w.heap.size w w' ∧ ∃ os, w' = Go.Sort.grow w os := by
  have g : s.toList.isEmpty = false := by rw [Lib.toList_data]; simpa using h
  clear h
  go_enter Tryz.func51, Tryz.ntmps51
  go_wp2_with (go_at_call 80; refine (split_any _ m _ hs hm).mono ?_; rintro e w' ⟨g, cap, ps, rfl, hown, ht, hb, hgr⟩)
  go_ret
  exact ⟨_, _, _, rfl, hown, ht, hb, hgr⟩
end Go.Proofs.YtabahmnagffnbaaGreatDoor

namespace Go.Proofs.YtabahmnagffnbaaGreatDoor
open Go.RowKit

set_option maxHeartbeats 400000 in
theorem is_long (s : ByteArray) (w : World) (h : 170 < s.size) :
    Calls Tryz.prog 47 #[.string s] w fun e w' => e = .returned (.bool (isP s.data.toList)) ∧ Below w.heap.size w w' := by
  have B := hide (isP_long (l := s.data.toList) (by have := Lib.size_eq s; omega))
  go_enter Tryz.func47, Tryz.ntmps47
  go_wp2
  go_ret
  exact ⟨ret_bool (unhide B).symm, Below.refl _ _⟩

set_option maxHeartbeats 400000 in
theorem is_nil (s : ByteArray) (w : World) (h : s.data.toList = []) :
    Calls Tryz.prog 47 #[.string s] w fun e w' => e = .returned (.bool (isP s.data.toList)) ∧ Below w.heap.size w w' := by
  have B : Hid (isP s.data.toList = true) := by rw [h]; exact hide (by decide)
  have hz : (s.size : Int) ≤ 170 := by rw [Lib.size_eq s, h]; decide
  have H := hide h
  clear h
  go_enter Tryz.func47, Tryz.ntmps47
  go_wp2_with (go_at_call 51; refine (elems_nil _ _ (unhide H)).mono ?_; rintro e w' ⟨rfl, rfl⟩)
  refine wp_loop_rounds 1 ?_
  rw [rounds_succ]
  go_wp2
  go_ret
  exact ⟨ret_bool (unhide B).symm, Below.refl _ _⟩

set_option maxHeartbeats 800000 in
theorem is_some (s : ByteArray) (m : Int) (w : World) (hs : s.size ≤ 170) (hm : w.cell? ⟨2, 0, none⟩ = some (.int .i64 m)) (h : s.data.toList ≠ []) :
    Calls Tryz.prog 47 #[.string s] w fun e w' => e = .returned (.bool (isP s.data.toList)) ∧ Below w.heap.size w w' := by
  have H := hide h
  have hl0 : Hid ((spl s.data.toList).length ≤ s.size + 1) := hide (by have := spl_len s.data.toList; have := Lib.size_eq s; omega)
  have HP := hide (prt_ne h)
  clear h
  go_enter Tryz.func47, Tryz.ntmps47
  go_wp2_with (go_at_call 51; refine (elems_some _ m _ (by omega) hm (unhide H)).mono ?_; rintro e w1 ⟨g, cap, ps, rfl, hown, ht, hb, _⟩)
  have hlen : ps.length ≤ 171 := by have := txts_len ps; rw [ht] at this; have := unhide hl0; omega
  have HT := hide ht
  clear ht hl0
  go_loop [13] (fun i => ∃ k : Nat, k ≤ ps.length ∧ i = .int .i64 k ∧ Hid (((txts ps).take k).all elt = true)) (fun i => ps.length - (intOf i).toNat)
  case atStart => exact ⟨0, Nat.zero_le _, rfl, hide rfl⟩
  case round =>
    obtain ⟨k, hk, rfl, HA⟩ := hrel
    by_cases hlt : k < ps.length
    · obtain ⟨b, hbk⟩ : ∃ b, ps[k]? = some b := ⟨ps[k], List.getElem?_eq_getElem hlt⟩
      have hcell := own_cell hown hbk
      have HB := hide hbk
      clear hbk
      cases hok : elt b.data.toList
      · have B := hide (isP_not (l := s.data.toList) (by rw [unhide HP, ← unhide HT]; exact txts_get (unhide HB)) hok)
        go_wp2_with (go_at_call 78; refine (isEl_any _ _).mono ?_; rintro e w' ⟨rfl, rfl⟩)
        go_ret
        exact ⟨ret_bool (unhide B).symm, hb⟩
      · have B := hide (all_take_succ (txts_get (unhide HB)) (unhide HA) hok)
        go_wp2_with (go_at_call 78; refine (isEl_any _ _).mono ?_; rintro e w' ⟨rfl, rfl⟩)
        go_round
        case rel => exact ⟨k + 1, by omega, by go_num, B⟩
        case measure => simp [intOf]; omega
    · have B : Hid (isP s.data.toList = decide (ps.length ≤ 12)) := by
        have ha := unhide HA
        have ht := unhide HT
        rw [List.take_of_length_le (by rw [txts_len]; omega)] at ha
        have := isP_yes (l := s.data.toList) (by have := Lib.size_eq s; omega) (by rw [unhide HP, ← ht]; exact ha)
        rw [unhide HP, ← ht, txts_len] at this
        exact hide this
      go_wp2
      go_ret
      exact ⟨ret_bool (by rw [unhide B]; exact decide_eq_decide.2 (by omega)), hb⟩

theorem is_any (s : ByteArray) (m : Int) (w : World) (hm : w.cell? ⟨2, 0, none⟩ = some (.int .i64 m)) :
    Calls Tryz.prog 47 #[.string s] w fun e w' => e = .returned (.bool (isP s.data.toList)) ∧ Below w.heap.size w w' := by
  by_cases h1 : 170 < s.size
  · exact is_long s w h1
  · by_cases h2 : s.data.toList = []
    · exact is_nil s w h2
    · exact is_some s m w (by omega) hm h2

theorem ret_str {a b : ByteArray} (h : a = b) : Ending.returned (.string a) = .returned (.string b) := by rw [h]
def bs (l : List UInt8) : ByteArray := ⟨l.toArray⟩
theorem bs_data (s : ByteArray) : bs s.data.toList = s := Lib.mk_data s
theorem data_bs (l : List UInt8) : (bs l).data.toList = l := rfl
theorem data_append (a b : ByteArray) : (a ++ b).data.toList = a.data.toList ++ b.data.toList := by simp

end Go.Proofs.YtabahmnagffnbaaGreatDoor

namespace Go.Proofs.YtabahmnagffnbaaGreatDoor
open Go.RowKit

/-- An entry. -/
structure Ent where
  path : ByteArray
  kind : Int
  mode : Int
  data : ByteArray
def Ent.val (e : Ent) : Value := .agg #[.string e.path, .int .i64 e.kind, .int .i64 e.mode, .string e.data]
def tgC (c : UInt8) : Bool := decide (33 ≤ (c.toNat : Int) ∧ (c.toNat : Int) ≤ 126)
def tgt (l : List UInt8) : Bool := l.all tgC && l != [] && decide (l.length ≤ 100)
def modeOk (m : Int) : Bool := decide (0 ≤ m ∧ m ≤ 511)
def goodE (e : Ent) : Bool :=
  if e.kind = 1 then modeOk e.mode && e.data.data.toList == []
  else if e.kind = 2 then modeOk e.mode && decide (e.data.size ≤ 4096)
  else if e.kind = 3 then decide (e.mode = 0) && tgt e.data.data.toList
  else false
theorem tg_snoc (s : ByteArray) (k : Nat) (h : k < s.size) (h1 : (s.data.toList.take k).all tgC = true) (h2 : 33 ≤ (s[k].toNat : Int) ∧ (s[k].toNat : Int) ≤ 126) : (s.data.toList.take (k + 1)).all tgC = true := by
  rw [take_snoc s k h, List.all_append, h1]; simpa [tgC] using h2
theorem tg_bad (s : ByteArray) (k : Nat) (h : k < s.size) (h2 : ¬ (33 ≤ (s[k].toNat : Int) ∧ (s[k].toNat : Int) ≤ 126)) : tgt s.data.toList = false := by
  have : s.data.toList.all tgC = false := by
    rw [List.all_eq_false]
    refine ⟨s[k], ?_, by simpa [tgC] using h2⟩
    rw [show s[k] = s.data[k] from rfl]; simp
  simp [tgt, this]
theorem tg_good (s : ByteArray) (k : Nat) (h : s.size ≤ k) (h1 : (s.data.toList.take k).all tgC = true) : s.data.toList.all tgC = true := by
  rw [List.take_of_length_le (by have := Lib.size_eq s; omega)] at h1; exact h1

set_option maxHeartbeats 400000 in
theorem isTg_any (s : ByteArray) (w : World) :
    Calls Tryz.prog 49 #[.string s] w fun e w' => e = .returned (.bool (tgt s.data.toList)) ∧ w' = w := by
  by_cases h0 : s.data.toList = []
  · have C : Hid (tgt s.data.toList = false) := hide (by rw [h0]; rfl)
    have g1 : s.toList.isEmpty = true := by rw [Lib.toList_data, h0]; rfl
    clear h0
    go_enter Tryz.func49, Tryz.ntmps49
    go_wp2
    go_ret
    exact ⟨ret_bool (unhide C).symm, rfl⟩
  · have g1 : s.toList.isEmpty = false := by rw [Lib.toList_data]; simpa using h0
    by_cases h1 : (s.size : Int) ≤ 100
    · have D : Hid (s.data.toList.all tgC = true → tgt s.data.toList = true) := hide (fun h => by rw [tgt, h]; have := Lib.size_eq s; simp [h0]; omega)
      clear h0
      go_enter Tryz.func49, Tryz.ntmps49
      go_wp2
      go_loop [13] (fun i => ∃ k : Nat, k ≤ s.size ∧ i = .int .i64 k ∧ (s.data.toList.take k).all tgC = true) (fun i => s.size - (intOf i).toNat)
      case atStart => exact ⟨0, Nat.zero_le _, rfl, rfl⟩
      case round =>
        obtain ⟨k, hk, rfl, ha⟩ := hrel
        have A := hide ha
        clear ha
        by_cases hlt : k < s.size
        · by_cases hc : 33 ≤ (s[k].toNat : Int) ∧ (s[k].toNat : Int) ≤ 126
          · have B := hide (tg_snoc s k hlt (unhide A) hc)
            obtain ⟨hc1, hc2⟩ := hc
            go_wp2
            go_round
            case rel => exact ⟨k + 1, by omega, by go_num, unhide B⟩
            case measure => simp [intOf]; omega
          · have B := hide (tg_bad s k hlt hc)
            have hc2 : (s[k].toNat : Int) < 33 ∨ 126 < (s[k].toNat : Int) := by omega
            clear hc
            rcases hc2 with hc | hc
            all_goals
              go_wp2
              go_ret
              exact ⟨ret_bool (unhide B).symm, rfl⟩
        · have B := hide (unhide D (tg_good s k (by omega) (unhide A)))
          go_wp2
          go_ret
          exact ⟨ret_bool (unhide B).symm, rfl⟩
    · have C : Hid (tgt s.data.toList = false) := hide (by rw [tgt]; have := Lib.size_eq s; simp; omega)
      clear h0
      go_enter Tryz.func49, Tryz.ntmps49
      go_wp2
      go_ret
      exact ⟨ret_bool (unhide C).symm, rfl⟩

theorem isMode_any (n : Int) (w : World) :
    Calls Tryz.prog 48 #[.int .i64 n] w fun e w' => e = .returned (.bool (modeOk n)) ∧ w' = w := by
  by_cases h0 : 0 ≤ n
  · by_cases h1 : n ≤ 511
    · have C : Hid (modeOk n = true) := hide (by simp [modeOk, h0, h1])
      go_enter Tryz.func48, Tryz.ntmps48
      go_wp2
      go_ret
      exact ⟨ret_bool (unhide C).symm, rfl⟩
    · have C : Hid (modeOk n = false) := hide (by simp [modeOk, h1])
      go_enter Tryz.func48, Tryz.ntmps48
      go_wp2
      go_ret
      exact ⟨ret_bool (unhide C).symm, rfl⟩
  · have C : Hid (modeOk n = false) := hide (by simp [modeOk, h0])
    go_enter Tryz.func48, Tryz.ntmps48
    go_wp2
    go_ret
    exact ⟨ret_bool (unhide C).symm, rfl⟩
end Go.Proofs.YtabahmnagffnbaaGreatDoor

namespace Go.Proofs.YtabahmnagffnbaaGreatDoor
open Go.RowKit

def entOk (e : Ent) : Bool := e.path.data.toList != [] && isP e.path.data.toList && goodE e

set_option maxHeartbeats 1000000 in
theorem isEntry_any (e : Ent) (m : Int) (w : World) (hm : w.cell? ⟨2, 0, none⟩ = some (.int .i64 m)) :
    Calls Tryz.prog 28 #[.agg #[.string e.path, .int .i64 e.kind, .int .i64 e.mode, .string e.data]] w fun ev w' => ev = .returned (.bool (entOk e)) ∧ Below w.heap.size w w' := by
  obtain ⟨path, kind, mode, data⟩ := e
  simp only at ⊢
  have hml := World.block_lt_of_cell? _ _ hm
  have HB : ∀ o, Below w.heap.size w (w.alloc o) := fun o => (Below.refl _ _).alloc (Nat.le_refl _) o
  have HM : Hid (∀ o, (w.alloc o).cell? ⟨2, 0, none⟩ = some (.int .i64 m)) := hide (fun o => cell_later (HB o) hm)
  clear hm
  by_cases p0 : path.data.toList = []
  · have C : Hid (entOk ⟨path, kind, mode, data⟩ = false) := hide (by simp [entOk, p0])
    have g1 : path.toList.isEmpty = true := by rw [Lib.toList_data, p0]; rfl
    clear p0
    go_enter Tryz.func28, Tryz.ntmps28
    go_wp2
    go_ret
    exact ⟨ret_bool (unhide C).symm, HB _⟩
  · have g1 : path.toList.isEmpty = false := by rw [Lib.toList_data]; simpa using p0
    cases hp : isP path.data.toList
    · have C : Hid (entOk ⟨path, kind, mode, data⟩ = false) := hide (by simp [entOk, hp])
      clear p0
      go_enter Tryz.func28, Tryz.ntmps28
      go_wp2_with (go_at_call 47; refine (is_any _ m _ (unhide HM _)).mono ?_; rintro ev w1 ⟨rfl, hb1⟩)
      go_ret
      exact ⟨ret_bool (unhide C).symm, (HB _).trans (hb1.mono (by simp))⟩
    · have CC : Hid (entOk ⟨path, kind, mode, data⟩ = goodE ⟨path, kind, mode, data⟩) := hide (by simp [entOk, hp, p0])
      clear p0
      go_enter Tryz.func28, Tryz.ntmps28
      go_upto_region 3 with (go_at_call 47; refine (is_any _ m _ (unhide HM _)).mono ?_; rintro ev w1 ⟨rfl, hb1⟩)
      have hq := (hb1.block w.heap.size (by simp)).trans (heap_alloc_new _ _)
      have q1 := cell_of_row w1 w.heap.size 1 _ _ _ hq
      have q2 := cell_of_row w1 w.heap.size 2 _ _ _ hq
      have q3 := cell_of_row w1 w.heap.size 3 _ _ _ hq
      simp only [List.getElem?_toArray, List.getElem?_cons_succ, List.getElem?_cons_zero] at q1 q2 q3
      have hB1 : Below w.heap.size w w1 := (HB _).trans (hb1.mono (by simp))
      clear hq hb1 HB HM
      by_cases k1 : kind = 1
      · subst k1
        by_cases h0 : data.data.toList = []
        · have C : Hid (goodE ⟨path, 1, mode, data⟩ = modeOk mode) := hide (by simp [goodE, h0])
          have g2 : data.toList.isEmpty = true := by rw [Lib.toList_data, h0]; rfl
          clear h0
          cases hmo : modeOk mode
          all_goals
            go_wp2_with (go_at_call 48; refine (isMode_any _ _).mono ?_; rintro ev w' ⟨rfl, hw⟩; obtain rfl := hw.symm)
            go_ret
            exact ⟨ret_bool (by rw [unhide CC, unhide C, hmo]), hB1⟩
        · have C : Hid (goodE ⟨path, 1, mode, data⟩ = false) := hide (by simp only [goodE, if_true, beq_eq_false_iff_ne.2 h0, Bool.and_false])
          have g2 : data.toList.isEmpty = false := by rw [Lib.toList_data]; simpa using h0
          clear h0
          cases hmo : modeOk mode
          all_goals
            go_wp2_with (go_at_call 48; refine (isMode_any _ _).mono ?_; rintro ev w' ⟨rfl, hw⟩; obtain rfl := hw.symm)
            go_ret
            exact ⟨ret_bool (by rw [unhide CC, unhide C]), hB1⟩
      · by_cases k2 : kind = 2
        · subst k2
          clear k1
          by_cases h0 : (data.size : Int) ≤ 4096
          · have C : Hid (goodE ⟨path, 2, mode, data⟩ = modeOk mode) := hide (by have : data.size ≤ 4096 := (by omega); simp [goodE, this])
            cases hmo : modeOk mode
            all_goals
              go_wp2_with (go_at_call 48; refine (isMode_any _ _).mono ?_; rintro ev w' ⟨rfl, hw⟩; obtain rfl := hw.symm)
              go_ret
              exact ⟨ret_bool (by rw [unhide CC, unhide C, hmo]), hB1⟩
          · have C : Hid (goodE ⟨path, 2, mode, data⟩ = false) := hide (by simp [goodE]; intro _; omega)
            cases hmo : modeOk mode
            all_goals
              go_wp2_with (go_at_call 48; refine (isMode_any _ _).mono ?_; rintro ev w' ⟨rfl, hw⟩; obtain rfl := hw.symm)
              go_ret
              exact ⟨ret_bool (by rw [unhide CC, unhide C]; try exact decide_eq_false (by omega)), hB1⟩
        · by_cases k3 : kind = 3
          · subst k3
            clear k1 k2
            by_cases hz : mode = 0
            · subst hz
              have C : Hid (goodE ⟨path, 3, 0, data⟩ = tgt data.data.toList) := hide (by simp [goodE])
              go_wp2_with (go_at_call 49; refine (isTg_any _ _).mono ?_; rintro ev w' ⟨rfl, hw⟩; obtain rfl := hw.symm)
              go_ret
              exact ⟨ret_bool (by rw [unhide CC, unhide C]), hB1⟩
            · have C : Hid (goodE ⟨path, 3, mode, data⟩ = false) := hide (by simp [goodE, hz])
              go_wp2
              go_ret
              exact ⟨ret_bool (by rw [unhide CC, unhide C]), hB1⟩
          · have C : Hid (goodE ⟨path, kind, mode, data⟩ = false) := hide (by simp [goodE, k1, k2, k3])
            go_wp2
            go_ret
            exact ⟨ret_bool (by rw [unhide CC, unhide C]), hB1⟩
end Go.Proofs.YtabahmnagffnbaaGreatDoor

namespace Go.Proofs.YtabahmnagffnbaaGreatDoor
open Go.RowKit

/-- Tree order: element by element. -/
def ltL : List (List UInt8) → List (List UInt8) → Bool
  | _, [] => false
  | [], _ :: _ => true
  | x :: xs, y :: ys => Op.bytesLess x y || (x == y && ltL xs ys)
theorem drop_at {α : Type} {l : List α} {k : Nat} {a : α} (h : l[k]? = some a) : l.drop k = a :: l.drop (k + 1) := by
  obtain ⟨hk, rfl⟩ := List.getElem?_eq_some_iff.1 h
  exact List.drop_eq_getElem_cons hk
theorem ltL_at {x y : List (List UInt8)} {k : Nat} {a b : List UInt8} (ha : x[k]? = some a) (hb : y[k]? = some b) : ltL (x.drop k) (y.drop k) = (Op.bytesLess a b || (a == b && ltL (x.drop (k + 1)) (y.drop (k + 1)))) := by
  rw [drop_at ha, drop_at hb, ltL]
theorem ltL_end {x y : List (List UInt8)} {k : Nat} (h : x.length ≤ k ∨ y.length ≤ k) : ltL (x.drop k) (y.drop k) = decide (x.length ≤ k ∧ k < y.length) := by
  by_cases h2 : y.length ≤ k
  · rw [List.drop_of_length_le (l := y) h2]
    have : ¬ (x.length ≤ k ∧ k < y.length) := by omega
    simp only [this, decide_false]
    cases x.drop k <;> rfl
  · have hx : x.length ≤ k := by omega
    have hy : k < y.length := by omega
    rw [List.drop_of_length_le (l := x) hx, List.drop_eq_getElem_cons hy, ltL]
    simp [hx, hy]
/-- Tree order as a number. -/
def cmpT (x y : List (List UInt8)) : Int := if ltL x y = true then -1 else if x = y then 0 else 1
theorem cmpT_at {x y : List (List UInt8)} {k : Nat} {a b : List UInt8} (ha : x[k]? = some a) (hb : y[k]? = some b) : cmpT (x.drop k) (y.drop k) = if Op.bytesLess a b = true then -1 else if (a == b) = true then cmpT (x.drop (k + 1)) (y.drop (k + 1)) else 1 := by
  unfold cmpT
  rw [ltL_at ha hb, drop_at ha, drop_at hb]
  cases h1 : Op.bytesLess a b with
  | true => simp
  | false =>
    cases h2 : (a == b) with
    | false =>
      have : a ≠ b := by simpa using h2
      simp [this]
    | true =>
      have : a = b := by simpa using h2
      simp [this]
theorem cmpT_end {x y : List (List UInt8)} {k : Nat} (h : x.length ≤ k ∨ y.length ≤ k) (hx : k ≤ x.length) (hy : k ≤ y.length) : cmpT (x.drop k) (y.drop k) = if x.length < y.length then -1 else if x.length = y.length then 0 else 1 := by
  unfold cmpT
  rw [ltL_end h]
  by_cases h1 : x.length < y.length
  · have : x.length ≤ k ∧ k < y.length := by omega
    simp [h1, this]
  · have : ¬ (x.length ≤ k ∧ k < y.length) := by omega
    by_cases h2 : x.length = y.length
    · rw [List.drop_of_length_le (l := x) (by omega), List.drop_of_length_le (l := y) (by omega)]
      simp [h2]
    · have hne : x.drop k ≠ y.drop k := fun e => by
        have := congrArg List.length e
        rw [List.length_drop, List.length_drop] at this
        omega
      simp [this, h1, h2, hne]
theorem cmpT_lt {x y : List (List UInt8)} : cmpT x y < 0 ↔ ltL x y = true := by
  unfold cmpT
  split
  · rename_i h; simp [h]
  · rename_i h
    split <;> simp [h]
/-- The texts of a row of theirs. -/
def TRow (w : World) (ao : Option Addr) (ps : List ByteArray) : Prop := ∀ k b, ps[k]? = some b → ∃ g, ao = some ⟨g, 0, none⟩ ∧ w.cell? ⟨g, k, none⟩ = some (.string b)
theorem TRow.below {w w' : World} {ao : Option Addr} {ps : List ByteArray} (h : TRow w ao ps) (hb : Below w.heap.size w w') : TRow w' ao ps := fun k b hk => by
  obtain ⟨g, h1, h2⟩ := h k b hk
  exact ⟨g, h1, cell_later hb h2⟩
theorem trow_of_own {w : World} {B g cap : Nat} {ps : List ByteArray} (h : Own w B (.slice (some ⟨g, 0, none⟩) ps.length cap) ps) : TRow w (some ⟨g, 0, none⟩) ps := fun _ _ hk => ⟨g, rfl, own_cell h hk⟩
theorem trow_nil (w : World) (ao : Option Addr) : TRow w ao [] := fun k b hk => by simp at hk

theorem elems_any (s : ByteArray) (m : Int) (w : World) (hs : s.size ≤ 4294967280) (hm : w.cell? ⟨2, 0, none⟩ = some (.int .i64 m)) :
    Calls Tryz.prog 51 #[.string s] w fun e w' => ∃ ao cap n ps, e = .returned (.slice ao n cap) ∧ TRow w' ao ps ∧ Hid (txts ps = prt s.data.toList) ∧ Hid (n = ps.length) ∧ n ≤ s.size + 1 ∧ Below w.heap.size w w' := by
  by_cases h : s.data.toList = []
  · refine (elems_nil s w h).mono ?_
    rintro e w' ⟨rfl, hw⟩
    obtain rfl := hw.symm
    exact ⟨none, 0, 0, [], rfl, trow_nil _ _, hide (by rw [h]; rfl), hide rfl, by omega, Below.refl _ _⟩
  · refine (elems_some s m w hs hm h).mono ?_
    rintro e w' ⟨g, cap, ps, rfl, h1, h2, h3, _⟩
    have hl : ps.length ≤ s.size + 1 := by have := spl_len s.data.toList; rw [← h2, txts_len, ← Lib.size_eq] at this; exact this
    exact ⟨_, cap, _, ps, rfl, trow_of_own h1, hide (by rw [prt_ne h]; exact h2), hide rfl, hl, h3⟩

theorem str_gtr (t : TypeId) (a b : ByteArray) : binOp .gtr t (.string a) (.string b) = pure (.bool !(Op.bytesLess a.toList b.toList || a.toList == b.toList)) := by simp [binOp, Op.stringOp]
attribute [local go_sem] str_gtr

theorem bl_ne {a b : List UInt8} (h : Op.bytesLess a b = true) : (a == b) = false := by
  rw [beq_eq_false_iff_ne]
  rintro rfl
  induction a with
  | nil => simp [Op.bytesLess] at h
  | cons c r ih => simp [Op.bytesLess] at h; exact ih h

theorem isNaN_any (s : ByteArray) (w : World) : Calls Tryz.prog 96 #[.string s] w fun e w' => e = .returned (.bool false) ∧ w' = w := by
  go_enter Tryz.func96, Tryz.ntmps96
  go_wp2
  go_ret
  exact ⟨rfl, rfl⟩
/-- What cmp.Compare answers. -/
def cmpS (a b : List UInt8) : Int := if Op.bytesLess a b = true then -1 else if (a == b) = true then 0 else 1
theorem cmp_any (a b : ByteArray) (w : World) : Calls Tryz.prog 79 #[.string a, .string b] w fun e w' => e = .returned (.int .i64 (cmpS a.toList b.toList)) ∧ w' = w := by
  cases h1 : Op.bytesLess a.toList b.toList
  · cases h2 : (a.toList == b.toList)
    · have C : Hid (cmpS a.toList b.toList = 1) := hide (by simp [cmpS, h1, h2])
      go_enter Tryz.func79, Tryz.ntmps79
      go_wp2_with (go_at_call 96; refine (isNaN_any _ _).mono ?_; rintro ev w' ⟨rfl, hw⟩; obtain rfl := hw.symm)
      go_ret
      exact ⟨by rw [unhide C]; rfl, rfl⟩
    · have C : Hid (cmpS a.toList b.toList = 0) := hide (by simp [cmpS, h1, h2])
      go_enter Tryz.func79, Tryz.ntmps79
      go_wp2_with (go_at_call 96; refine (isNaN_any _ _).mono ?_; rintro ev w' ⟨rfl, hw⟩; obtain rfl := hw.symm)
      go_ret
      exact ⟨by rw [unhide C]; rfl, rfl⟩
  · have C : Hid (cmpS a.toList b.toList = -1) := hide (by simp [cmpS, h1])
    go_enter Tryz.func79, Tryz.ntmps79
    go_wp2_with (go_at_call 96; refine (isNaN_any _ _).mono ?_; rintro ev w' ⟨rfl, hw⟩; obtain rfl := hw.symm)
    go_ret
    exact ⟨by rw [unhide C]; rfl, rfl⟩
end Go.Proofs.YtabahmnagffnbaaGreatDoor
