import Derived.Test.YtkeefkfklmhcjaaGreatDoorJPlain
import Derived.Test.YtkeefkfklmhcjaaGreatDoorJLeaf
import Derived.Test.YtkeefkfklmhcjaaGreatDoorShelfC
import Derived.Sort.Grow
namespace Go.Proofs.YtkeefkfklmhcjaaGreatDoor
open Go.RowKit

theorem txts_len (ps : List ByteArray) : (txts ps).length = ps.length := by simp [txts]
theorem txts_get {ps : List ByteArray} {k : Nat} {b : ByteArray} (h : ps[k]? = some b) : (txts ps)[k]? = some b.data.toList := by simp [txts, h]
theorem own_cell {w : World} {B g cap : Nat} {ps : List ByteArray} (h : Own w B (.slice (some ⟨g, 0, none⟩) ps.length cap) ps) {k : Nat} {b : ByteArray} (hk : ps[k]? = some b) : w.cell? ⟨g, k, none⟩ = some (.string b) := by
  have hl : k < ps.length := (List.getElem?_eq_some_iff.1 hk).1
  rw [World.ownsRow.cellAt h k (by omega)]; simp [hk]
theorem own_form {w : World} {B : Nat} {v : Value} {ps : List ByteArray} (h : Own w B v ps) (hn : ps ≠ []) : ∃ g cap, v = .slice (some ⟨g, 0, none⟩) ps.length cap := by
  rcases h.2 with ⟨_, h0⟩ | ⟨g, cap, cur, hv, _⟩
  · exact absurd (List.length_eq_zero_iff.1 h0) hn
  · exact ⟨g, cap, hv⟩

theorem cut_form (s : ByteArray) (w : World) (hs : s.size ≤ 4294967280) :
    Calls Tryz.prog 77 #[.string s, .int .u8 47] w fun e w' => ∃ g cap ps, e = .returned (.slice (some ⟨g, 0, none⟩) ps.length cap) ∧ Own w' w.heap.size (.slice (some ⟨g, 0, none⟩) ps.length cap) ps ∧ txts ps = spl s.data.toList ∧ Below w.heap.size w w' := by
  refine (cut_any s w hs).mono ?_
  rintro e w' ⟨v, ps, rfl, hown, ht, hb⟩
  have hn : ps ≠ [] := by rintro rfl; exact spl_ne _ ht.symm
  obtain ⟨g, cap, rfl⟩ := own_form hown hn
  exact ⟨g, cap, ps, rfl, hown, ht, hb⟩

set_option maxHeartbeats 400000 in
theorem parts_nil (s : ByteArray) (w : World) (h : s.data.toList = []) :
    Calls Tryz.prog 52 #[.string s] w fun e w' => e = .returned (.slice none 0 0) ∧ w' = w := by
  have g : s.toList.isEmpty = true := by rw [Lib.toList_data, h]; rfl
  clear h
  go_enter Tryz.func52, Tryz.ntmps52
  go_wp2
  go_ret
  exact ⟨rfl, rfl⟩
set_option maxHeartbeats 400000 in
theorem parts_some (s : ByteArray) (w : World) (hs : s.size ≤ 4294967280) (h : s.data.toList ≠ []) :
    Calls Tryz.prog 52 #[.string s] w fun e w' => ∃ g cap ps, e = .returned (.slice (some ⟨g, 0, none⟩) ps.length cap) ∧ Own w' w.heap.size (.slice (some ⟨g, 0, none⟩) ps.length cap) ps ∧ txts ps = spl s.data.toList ∧ Below w.heap.size w w' := by
  have g : s.toList.isEmpty = false := by rw [Lib.toList_data]; simpa using h
  clear h
  go_enter Tryz.func52, Tryz.ntmps52
  go_wp2_with (go_at_call 77; refine (cut_form _ _ hs).mono ?_; rintro e w' ⟨g, cap, ps, rfl, hown, ht, hb⟩)
  go_ret
  exact ⟨_, _, _, rfl, hown, ht, hb⟩

set_option maxHeartbeats 400000 in
theorem elems_nil (s : ByteArray) (w : World) (h : s.data.toList = []) :
    Calls Tryz.prog 104 #[.string s] w fun e w' => e = .returned (.slice none 0 0) ∧ w' = w := by
  have g : s.toList.isEmpty = true := by rw [Lib.toList_data, h]; rfl
  clear h
  go_enter Tryz.func104, Tryz.ntmps104
  go_wp2
  go_ret
  exact ⟨rfl, rfl⟩
theorem split_any (s : ByteArray) (m : Int) (w : World) (hs : s.size ≤ 4294967280) (hm : w.cell? ⟨15, 0, none⟩ = some (.int .i64 m)) :
    Calls Tryz.prog 138 #[.string s, .string ⟨#[47]⟩] w fun e w' => ∃ g cap ps, e = .returned (.slice (some ⟨g, 0, none⟩) ps.length cap) ∧ Own w' w.heap.size (.slice (some ⟨g, 0, none⟩) ps.length cap) ps ∧ txts ps = spl s.data.toList ∧ Below w.heap.size w w' ∧ ∃ os, w' = Go.Sort.grow w os := by
  refine (Tryz.strings_Split s ⟨#[47]⟩ m w (by omega) hm (by decide)).mono ?_
  rintro e w' ⟨rfl, rfl⟩
  have hl := Lib.splitB_all ⟨#[47]⟩ (by decide) 0 _ s rfl
  have hc := Lib.countB_le ⟨#[47]⟩ (by decide) s.size s (Nat.le_refl _)
  refine ⟨w.heap.size, _, Lib.splitB ⟨#[47]⟩ 0 (Lib.countB s ⟨#[47]⟩) s, by rw [hl], ?_, ?_, (Below.refl _ _).alloc (Nat.le_refl _) _, _, Go.Sort.alloc_eq_grow _ _⟩
  · have := World.ownsRow_lit (base := w.heap.size) (e := 9) (size := 1) w ((Lib.splitB ⟨#[47]⟩ 0 (Lib.countB s ⟨#[47]⟩) s).map Value.string).toArray (Lib.countB s ⟨#[47]⟩ + 1) (Nat.le_refl _) (by unfold maxLen; omega) (by simp [hl])
    rw [← hl] at this ⊢
    simpa [Own] using this
  · exact (Lib.splitB_data ⟨#[47]⟩ 0 _ s).trans (splitK_one s.data.toList)
set_option maxHeartbeats 400000 in
theorem elems_some (s : ByteArray) (m : Int) (w : World) (hs : s.size ≤ 4294967280) (hm : w.cell? ⟨15, 0, none⟩ = some (.int .i64 m)) (h : s.data.toList ≠ []) :
    Calls Tryz.prog 104 #[.string s] w fun e w' => ∃ g cap ps, e = .returned (.slice (some ⟨g, 0, none⟩) ps.length cap) ∧ Own w' w.heap.size (.slice (some ⟨g, 0, none⟩) ps.length cap) ps ∧ txts ps = spl s.data.toList ∧ Below w.heap.size w w' ∧ ∃ os, w' = Go.Sort.grow w os := by
  have g : s.toList.isEmpty = false := by rw [Lib.toList_data]; simpa using h
  clear h
  go_enter Tryz.func104, Tryz.ntmps104
  go_wp2_with (go_at_call 138; refine (split_any _ m _ hs hm).mono ?_; rintro e w' ⟨g, cap, ps, rfl, hown, ht, hb, hgr⟩)
  go_ret
  exact ⟨_, _, _, rfl, hown, ht, hb, hgr⟩
end Go.Proofs.YtkeefkfklmhcjaaGreatDoor
