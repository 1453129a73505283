import Derived.Test.YtpiponkhhimaoaaGreatDoorStoE
import Derived.Test.YtpiponkhhimaoaaGreatDoorDigH
namespace Go.Proofs.YtpiponkhhimaoaaGreatDoor
open Go.RowKit Go.Maps

/-- The file of a blob. -/
def blobN (s : ByteArray) : ByteArray := ⟨#[98, 47]⟩ ++ s
theorem blobN_bytes (s : ByteArray) : (blobN s).data.toList = 98 :: 47 :: s.data.toList := by simp [blobN]
/-- What 'blob' tells. -/
def blobV (L : List Blb) (s : ByteArray) : ByteArray × Bool := match getB L (blobN s).data.toList with
  | some b => (b.data, decide (sha b.data.data.toList = s.data.toList))
  | none => (emp, false)
theorem KsLie.turn {w w' : World} {B : Nat} (h : KsLie w) (hb : Below B w w') (hB : 2 ≤ B) : KsLie w' := fun i hi => (hb.cell (p := ⟨1, i, none⟩) (by show 1 < B; omega)).trans (h i hi)
theorem dec_eq (l : List UInt8) (s : ByteArray) : (l == s.toList) = decide (l = s.data.toList) := by
  rw [Lib.toList_data]
  by_cases h : l = s.data.toList <;> simp [h]
theorem box_cell (w : World) (b : Blb) : (w.alloc (.cells #[.string b.name, .string b.data] 68)).drew.cell? ⟨w.heap.size, 1, none⟩ = some (.string b.data) := cell_of_row (w.alloc (.cells #[.string b.name, .string b.data] 68)) _ 1 _ _ _ (heap_alloc_new _ _)
theorem box_below (w : World) (o : Obj) : Below w.heap.size w (w.alloc o).drew := by
  have b := (Below.refl _ w).alloc (Nat.le_refl _) o
  exact ⟨b.os, b.tape, b.output, b.size, b.block⟩
theorem ks_box {w : World} (h : KsLie w) (o : Obj) : KsLie (w.alloc o).drew := h.below (w' := w.alloc o) ((Below.refl _ w).alloc (Nat.le_refl _) _)
set_option maxHeartbeats 1000000 in
set_option maxRecDepth 100000 in
theorem blob_act (sb mb : Nat) (v : Value) (L : List Blb) (q : Int) (A : List Ac) (s : ByteArray) (w : World) (h : PSt w sb mb v L q A) (hs : s.size ≤ 1048576) (hd : ∀ b ∈ L, b.data.size ≤ 1073741824) (hK : KsLie w) :
    Calls Tryz.prog 101 #[.pointer (some ⟨sb, 0, none⟩), .string s] w fun ev w' => ev = .returned (.tuple #[.string (blobV L s).1, .bool (blobV L s).2]) ∧ Below w.heap.size w w' := by
  have c0 : w.cell? ⟨sb, 0, none⟩ = some (.map (some mb)) := cell_of_row _ _ 0 _ _ _ h.cells
  have hn : (blobN s).size ≤ 1073741824 := by
    simp only [blobN, ByteArray.size_append]
    have : (⟨#[98, 47]⟩ : ByteArray).size = 2 := rfl
    omega
  have hk := h.map.look (blobN s) hn true
  simp only [if_true] at hk
  cases hg : getB L (blobN s).data.toList with
  | none =>
    have e : blobV L s = (emp, false) := by rw [blobV, hg]
    rw [lookV, hg] at hk
    rw [e]
    simp only [Blb.val, blobN] at hk
    clear h e
    go_enter Tryz.func101, Tryz.ntmps101
    go_upto_region 2 with fail
    go_region
    all_goals
      try go_wp2_with fail
      go_ret2
      exact ⟨rfl, box_below _ _⟩
  | some b =>
    have e : blobV L s = (b.data, decide (sha b.data.data.toList = s.data.toList)) := by rw [blobV, hg]
    rw [lookV, hg] at hk
    rw [e]
    have hbd := hd b (get_some hg).1
    simp only [Blb.val, blobN] at hk
    have HK := hide hK
    clear h e hK
    go_enter Tryz.func101, Tryz.ntmps101
    go_upto_region 2 with fail
    go_region_held3 (fun w' => w'.cell? ⟨w.heap.size, 1, none⟩ = some (.string b.data)) (first | exact cell_later (w := (w.alloc (.cells #[.string b.name, .string b.data] 68)).drew) hb1 (box_cell w b) | go_keep) (first | (go_at_call 100; refine (of_any b.data hbd _ (ks_box (unhide HK) _)).mono ?_; rintro ev w1 ⟨rfl, hb1⟩))
    all_goals
      try go_wp2_with fail
      go_ret2
      refine ⟨?_, (box_below _ _).trans (Below.mono hb1 (box_below w _).size)⟩
      rw [← dec_eq]
      rfl
end Go.Proofs.YtpiponkhhimaoaaGreatDoor
