import Derived.Test.YtpiponkhhimaoaaGreatDoorLwC
namespace Go.Proofs.YtpiponkhhimaoaaGreatDoor
open Go.RowKit Go.Maps Go.Sort Go.Shelf

theorem pickS (c : Int) (n : Nat) (hn : 0 < n) (hn2 : n ≤ 1073741824) : ∃ k : Nat, k < n ∧ ∀ w : World, Calls Tryz.prog 7 #[.int .i64 c, .int .i64 n] w fun ev w' => ev = .returned (.int .i64 k) ∧ w' = w := by
  obtain ⟨r, hr⟩ : ∃ r, r = c.tmod (n : Int) := ⟨_, rfl⟩
  have h1 : r < (n : Int) := by rw [hr]; exact Int.tmod_lt_of_pos _ (by omega)
  have h2 : -(n : Int) < r := by rw [hr]; exact Int.lt_tmod_of_pos _ (by omega)
  have n0 : ¬ (n : Int) = 0 := by omega
  have n1 : ((n : Int) == 0) = false := by simpa using n0
  have hr2 : c.tmod (n : Int) = r := hr.symm
  clear hr
  by_cases h0 : r < 0
  · obtain ⟨k, hk⟩ := Int.eq_ofNat_of_zero_le (by omega : 0 ≤ r + n)
    refine ⟨k, by omega, fun w => ?_⟩
    go_enter Tryz.func7, Tryz.ntmps7
    go_wp2
    go_ret
    exact ⟨by first | rfl | (congr 2), rfl⟩
  · obtain ⟨k, hk⟩ := Int.eq_ofNat_of_zero_le (by omega : 0 ≤ r)
    refine ⟨k, by omega, fun w => ?_⟩
    go_enter Tryz.func7, Tryz.ntmps7
    go_wp2
    go_ret
    exact ⟨by first | rfl | (congr 2), rfl⟩
/-- A step. -/
structure Stp where
  kind : Int
  which : Int
  name : ByteArray
  data : ByteArray
  ctx : Option Addr
  cn : Nat
  cc : Nat
  quota : Int
def Stp.arr (s : Stp) : Array Value := #[.int .i64 s.kind, .int .i64 s.which, .string s.name, .string s.data, .slice s.ctx s.cn s.cc, .int .i64 s.quota]
set_option maxHeartbeats 1000000 in
set_option maxRecDepth 100000 in
theorem named_any (B wb lb sb mb yb : Nat) (v vf va vs : Value) (L : List Blb) (q : Int) (A : List Ac) (N : List Blb) (c : Bool) (s : Stp) (w : World) (h : Two w B wb lb sb mb yb v vf va vs L q A N c) (hL : L.length ≤ 1073741824) (hLs : ∀ b ∈ L, b.name.size ≤ 1048576) (hs : s.name.size ≤ 1048576) :
    Calls Tryz.prog 16 #[.pointer (some ⟨wb, 0, none⟩), .agg #[.int .i64 s.kind, .int .i64 s.which, .string s.name, .string s.data, .slice s.ctx s.cn s.cc, .int .i64 s.quota]] w fun ev w' => ∃ x : ByteArray, ev = .returned (.string x) ∧ x.size ≤ 1048576 ∧ Below w.heap.size w w' := by
  obtain ⟨W0, hW0⟩ : ∃ W0, W0 = w.alloc (.cells s.arr 32) := ⟨_, rfl⟩
  have hb0 : Below w.heap.size w W0 := by rw [hW0]; exact (Below.refl _ _).alloc (Nat.le_refl _) _
  have hx0 : W0.heap[w.heap.size]? = some (.cells s.arr 32 (0, 0)) := by rw [hW0]; exact heap_alloc_new _ _
  have h0 := h.below hb0
  obtain ⟨af, cf, nf, rfl, hnf, rf, _⟩ := ownB_row h0.y.files
  have c1 : W0.cell? ⟨wb, 1, none⟩ = some (.pointer (some ⟨yb, 0, none⟩)) := cell_of_row _ _ 1 _ _ _ h0.both
  have c2 : W0.cell? ⟨yb, 0, none⟩ = some (.slice af nf cf) := cell_of_row _ _ 0 _ _ _ h0.y.cells
  have x1 : W0.cell? ⟨w.heap.size, 1, none⟩ = some (.int .i64 s.which) := cell_of_row _ _ 1 _ _ _ hx0
  have x2 : W0.cell? ⟨w.heap.size, 2, none⟩ = some (.string s.name) := cell_of_row _ _ 2 _ _ _ hx0
  have HN := hide hnf
  have HW : Hid (W0 = w.alloc (.cells #[.int .i64 s.kind, .int .i64 s.which, .string s.name, .string s.data, .slice s.ctx s.cn s.cc, .int .i64 s.quota] 32)) := hide hW0
  have hnl : nf ≤ 1073741824 := by omega
  clear h h0 hx0 hW0 hnf
  cases g1 : s.name.toList.isEmpty with
  | false =>
    go_enter Tryz.func16, Tryz.ntmps16
    go_upto_region 1 with fail
    rw [← unhide HW]
    clear HW
    go_wp2_with fail
    go_ret
    exact ⟨_, rfl, hs, hb0⟩
  | true =>
    by_cases hn0 : nf = 0
    · subst hn0
      go_enter Tryz.func16, Tryz.ntmps16
      go_upto_region 1 with fail
      rw [← unhide HW]
      clear HW
      go_wp2_with fail
      go_ret
      exact ⟨_, rfl, hs, hb0⟩
    · have hpos : 0 < nf := by omega
      have j0 : ((nf : Int) == 0) = false := by simp; omega
      obtain ⟨k, hkn, hPk0⟩ := pickS s.which nf hpos hnl
      have hPk := hPk0 W0.drew
      obtain ⟨e, he⟩ : ∃ e, L[k]? = some e := ⟨L[k]'(by have := unhide HN; omega), List.getElem?_eq_getElem (by have := unhide HN; omega)⟩
      obtain ⟨g, o, rfl, d0, _⟩ := rf k e he
      have i1 : (0 : Int) ≤ (k : Int) := by omega
      have i2 : (k : Int) < (nf : Int) := by omega
      have hen : e.name.size ≤ 1048576 := hLs e (List.mem_of_getElem? he)
      clear he hPk0
      go_enter Tryz.func16, Tryz.ntmps16
      go_upto_region 1 with fail
      rw [← unhide HW]
      clear HW
      go_upto_region 3 with fail
      go_region_held3 (fun w' => w'.cell? ⟨wb, 1, none⟩ = some (.pointer (some ⟨yb, 0, none⟩)) ∧ w'.cell? ⟨yb, 0, none⟩ = some (.slice (some ⟨g, o, none⟩) nf cf) ∧ w'.cell? ⟨w.heap.size, 1, none⟩ = some (.int .i64 s.which) ∧ w'.cell? ⟨g, o + k * 2, none⟩ = some (.string e.name))
        (first | (with_reducible exact ⟨c1, c2, x1, d0⟩) | go_keep)
        (first | (go_at_call 7; refine hPk.mono ?_; clear hPk; rintro ev w2 ⟨rfl, rfl⟩))
      all_goals
        try go_wp2_with fail
        go_ret
        exact ⟨_, rfl, hen, ⟨hb0.os, hb0.tape, hb0.output, hb0.size, hb0.block⟩⟩
end Go.Proofs.YtpiponkhhimaoaaGreatDoor
