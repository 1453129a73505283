import Derived.Test.YtpiponkhhimaoaaGreatDoorStoN
namespace Go.Proofs.YtpiponkhhimaoaaGreatDoor
open Go.RowKit Go.Maps Go.Sort Go.Shelf

theorem all_isN {F : List Blb} (h : FirstBadF F (-1)) : ∀ b ∈ F, isN b.nm = true := fun b hb => by
  obtain ⟨k, hk, rfl⟩ := List.getElem_of_mem hb
  rcases h with ⟨_, h⟩ | ⟨i, e, _⟩
  · have := h k hk
    rw [okF, List.getElem?_eq_getElem hk] at this
    simp only [Bool.and_eq_true] at this
    exact this.1
  · omega
theorem isN_size {l : List UInt8} (h : isN l = true) : l.length = 66 := by
  cases hd : decide (l.length = 66)
  · rw [isN_len (by simpa using hd)] at h; cases h
  · simpa using hd
theorem isT_at {b : Blb} (h : isN b.nm = true) (h0 : 0 < b.name.size) : ((b.name[0].toNat : Int) == 116) = isT b := by
  have hl := isN_size h
  have e : b.nm[0]? = some b.name[0] := by
    rw [List.getElem?_eq_getElem (by rw [hl]; decide)]; rfl
  unfold isT
  match hs : b.nm, h, e with
  | x :: y :: r, h, e =>
    have hx : b.name[0] = x := by simpa using e.symm
    rw [hx, show ((x.toNat : Int) == 116) = (x == 116) from (u8_int x 116 (by decide)).symm]
    have hy : y = 47 := by
      simp only [isN, Bool.and_eq_true] at h
      simpa using h.1.2
    subst hy
    rw [Bool.eq_iff_iff]
    simp only [Lib.hasPrefix, List.isPrefixOf, Bool.and_true, beq_self_eq_true, beq_iff_eq]
    exact ⟨fun h => h.symm, fun h => h.symm⟩
theorem bad_any (e n : Int) (w : World) : Calls Tryz.prog 30 #[.int .i64 e, .int .i64 n] w fun ev w' => ev = .returned (.agg #[.int .i64 e, .int .i64 n]) ∧ Below w.heap.size w w' := by
  go_enter Tryz.func30, Tryz.ntmps30
  go_wp2
  refine bodyPost_ret (v := .agg #[.int .i64 e, .int .i64 n]) (by simp [results, Tryz.results30, go_sem]) rfl ⟨rfl, ?_⟩
  exact (Below.refl _ w).alloc (Nat.le_refl _) _
theorem fine_any (w : World) : Calls Tryz.prog 33 #[] w fun ev w' => ev = .returned (.agg #[.int .i64 0, .int .i64 (-1)]) ∧ Below w.heap.size w w' := by
  go_enter Tryz.func33, Tryz.ntmps33
  go_wp2
  refine bodyPost_ret (v := .agg #[.int .i64 0, .int .i64 (-1)]) (by simp [results, Tryz.results33, go_sem]) rfl ⟨rfl, ?_⟩
  exact (Below.refl _ w).alloc (Nat.le_refl _) _
end Go.Proofs.YtpiponkhhimaoaaGreatDoor
