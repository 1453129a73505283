import Derived.Test.YtmfeonelincdbaaGreatDoorShelfI
import Derived.Test.YtmfeonelincdbaaGreatDoorOctB
import Derived.Test.YtmfeonelincdbaaGreatDoorOctD
import Derived.Test.YtmfeonelincdbaaGreatDoorJLeaf
import Derived.Test.YtmfeonelincdbaaGreatDoorDigH
namespace Go.Proofs.YtmfeonelincdbaaGreatDoor
open Go.RowKit
theorem oct_any (n : Nat) (w : World) (hn : n < 262144) (h : w.cell? ⟨7, 7, none⟩ = some (.int .u8 3)) : Calls Tryz.prog 54 #[.int .i64 (n : Int)] w fun ev w' => ∃ s : ByteArray, ev = .returned (.string s) ∧ Hid (s.data.toList = octL n) ∧ Below w.heap.size w w' := by
  go_enter Tryz.func54, Tryz.ntmps54
  go_wp2_with (go_at_call 72; refine (fmt_any n _ hn h).mono ?_; rintro ev w1 ⟨s, rfl, HS, hb⟩)
  go_ret
  exact ⟨_, rfl, HS, hb⟩
theorem dec_eq (n : Nat) : Lib.decDigits n = decL n := by
  induction n using Nat.strongRecOn with
  | ind n ih =>
    rw [Lib.decDigits, decL]
    split
    · rfl
    · rename_i h
      rw [ih (n / 10) (by omega)]
theorem below_grow1 (w : World) (k : Nat) (os : Array Obj) : Below w.heap.size w (Go.Sort.grow (w.drewN k) os) :=
  ⟨rfl, rfl, rfl, by show w.heap.size ≤ (w.heap ++ os).size; rw [Array.size_append]; omega, fun j hj => by show (w.heap ++ os)[j]? = w.heap[j]?; rw [Array.getElem?_append_left hj]⟩
theorem itoa_any (n : Nat) (w : World) (hn : n ≤ 1073741824) (h : Lib.TabIs Tryz.prog w "internal/strconv.uint64pow10" .u64 Lib.pow10Tab) : Calls Tryz.prog 55 #[.int .i64 (n : Int)] w fun ev w' => ∃ s : ByteArray, ev = .returned (.string s) ∧ Hid (s.data.toList = decL n) ∧ Below w.heap.size w w' := by
  refine (Tryz.strconv_Itoa (n : Int) (by omega) (by omega) w h).mono ?_
  rintro ev w1 ⟨rfl, k, os, rfl⟩
  refine ⟨_, rfl, hide ?_, below_grow1 _ _ _⟩
  show Lib.itoa (n : Int) = decL n
  rw [Lib.itoa, if_neg (by omega), Int.toNat_natCast, dec_eq]
theorem tab_below {w w' : World} {name : String} {k : IntKind} {zs : List Int} (h : Lib.TabIs Tryz.prog w name k zs) (hb : Below w.heap.size w w') : Lib.TabIs Tryz.prog w' name k zs := by
  unfold Lib.TabIs World.var? at *
  cases hg : Tryz.prog.globalNamed name with
  | none => simp [hg] at h
  | some g =>
    simp only [hg, Option.bind_some] at h ⊢
    have hlt : g < w.heap.size := by
      rcases Nat.lt_or_ge g w.heap.size with h' | h'
      · exact h'
      · rw [Array.getElem?_eq_none h'] at h; simp at h
    rw [hb.block g hlt]
    exact h
/-- What is laid ahead of every call. -/
structure Tabs (w : World) : Prop where
  ks : KsLie w
  pow : Lib.TabIs Tryz.prog w "internal/strconv.uint64pow10" .u64 Lib.pow10Tab
  bru : w.cell? ⟨7, 7, none⟩ = some (.int .u8 3)
theorem Tabs.below {w w' : World} (h : Tabs w) (hb : Below w.heap.size w w') : Tabs w' := ⟨h.ks.below hb, tab_below h.pow hb, cell_later hb h.bru⟩
end Go.Proofs.YtmfeonelincdbaaGreatDoor
