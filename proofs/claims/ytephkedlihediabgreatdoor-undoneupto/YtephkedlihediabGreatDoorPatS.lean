import Derived.Test.YtephkedlihediabGreatDoorRefE
namespace Go.Proofs.YtephkedlihediabGreatDoor
open Go.RowKit
set_option maxHeartbeats 1000000 in
/-- Two lists of entries that are alike. -/
theorem sameE_any (ao bo : Option Addr) (ca cb n : Nat) (ks : List Ent) (w : World) (ha : ERow w ao ks) (hb : ERow w bo ks) (HN : Hid (n = ks.length)) (hn : n ≤ 1000000) :
    Calls Tryz.prog 9 #[.slice ao n ca, .slice bo n cb] w fun ev w' => ev = .returned (.bool true) ∧ Below w.heap.size w w' := by
  go_enter Tryz.func9, Tryz.ntmps9
  go_upto_region 4 with fail
  go_loopw [5] (fun i wr => ∃ k d : Nat, k ≤ n ∧ i = .int .i64 k ∧ wr = w.drewN d) (fun i _ => n - (intOf i).toNat)
  case atStart => exact ⟨0, 0, by omega, rfl, rfl⟩
  case round =>
    obtain ⟨k, d, hk, rfl, rfl⟩ := hrel
    by_cases hlt : k < n
    · obtain ⟨e, he⟩ : ∃ e, ks[k]? = some e := ⟨ks[k]'(by have := unhide HN; omega), List.getElem?_eq_getElem (by have := unhide HN; omega)⟩
      obtain ⟨g, o, rfl, c0, c1, c2, c3⟩ := ha k e he
      obtain ⟨g', o', rfl, d0, d1, d2, d3⟩ := hb k e he
      have i1 : (0 : Int) ≤ (k : Int) := by omega
      have i2 : (k : Int) < (n : Int) := by omega
      have hq := neq49 e e
      rw [show eqE e e = true from eqE_iff.2 rfl] at hq
      clear he
      go_upto_region 6 with fail
      go_quiet (fail)
      go_wp2_with fail
      go_roundw
      case rel =>
        first
          | exact ⟨k + 1, _, by omega, by go_num, rfl⟩
          | ((repeat apply Exists.intro); exact ⟨⟨k + 1, _, by omega, by go_num, rfl⟩, rfl⟩)
      case measure => simp [intOf]; omega
    · go_wp2_with fail
      go_ret
      exact ⟨rfl, below_drewN (Below.refl _ _) _⟩
end Go.Proofs.YtephkedlihediabGreatDoor
