import Derived.Test.YtkeefkfklmhcjaaGreatDoorInA
import Derived.Test.YtkeefkfklmhcjaaGreatDoorChl
import Derived.Test.YtkeefkfklmhcjaaGreatDoorEqS
import Derived.Deep.RegionHeld3
import Derived.Maps.OwnSet
namespace Go.Proofs.YtkeefkfklmhcjaaGreatDoor
open Go.RowKit Go.Maps

theorem clone_any (s : ByteArray) (w : World) (hs : s.size ≤ 1073741824) : Calls Tryz.prog 122 #[.string s] w fun ev w' => ev = .returned (.string s) ∧ Below w.heap.size w w' := by
  go_enter Tryz.func122, Tryz.ntmps122
  go_wp2_with (go_at_call 150; refine (Tryz.stringslite_Clone s _ (by omega)).mono ?_; rintro ev w1 ⟨rfl, hb1⟩)
  go_ret
  exact ⟨rfl, hb1⟩
set_option maxRecDepth 100000 in
theorem wide_any (b mb n : Nat) (L : List (List UInt8 × Nat)) (w : World) (hc : w.cell? ⟨b, 4, none⟩ = some (.map (some mb))) (hk : KM w mb n L) : Calls Tryz.prog 123 #[.pointer (some ⟨b, 0, none⟩)] w fun ev w' => ev = .returned (.int .i64 (L.length : Int)) ∧ w' = w := by
  have hl := World.ownsMap.len hk Tryz.underlying100 3
  rw [km_size] at hl
  clear hk
  go_enter Tryz.func123, Tryz.ntmps123
  go_wp2
  go_ret
  exact ⟨rfl, rfl⟩
theorem has_any (b mb n : Nat) (ns : List Nd) (p : List UInt8) (s : ByteArray) (w : World) (hc : w.cell? ⟨b, 4, none⟩ = some (.map (some mb))) (hk : KM w mb n (kidsN ns p)) (hs : s.size ≤ 1048576) :
    Calls Tryz.prog 124 #[.pointer (some ⟨b, 0, none⟩), .string s] w fun ev w' => ev = .returned (.bool ((kidsX ns p).any fun z => nameOf z.p == s.data.toList)) ∧ w' = w := by
  rcases hk.look s (by omega) false with ⟨hrun, hno⟩ | ⟨q, hq, hrun⟩
  · have C : Hid ((kidsX ns p).any (fun z => nameOf z.p == s.data.toList) = false) := hide (by
      rw [List.any_eq_false]
      intro z hz
      simpa using hno (nameOf z.p, z.nb) (by rw [kidsN_eq]; exact List.mem_map.2 ⟨z, hz, rfl⟩))
    clear hno
    go_enter Tryz.func124, Tryz.ntmps124
    go_wp2
    go_ret
    exact ⟨ret_bool (unhide C).symm, rfl⟩
  · have C : Hid ((kidsX ns p).any (fun z => nameOf z.p == s.data.toList) = true) := hide (by
      rw [List.any_eq_true]
      rw [kidsN_eq] at hq
      obtain ⟨z, hz, e⟩ := List.mem_map.1 hq
      exact ⟨z, hz, by simpa using congrArg Prod.fst e⟩)
    clear hq
    go_enter Tryz.func124, Tryz.ntmps124
    go_wp2
    go_ret
    exact ⟨ret_bool (unhide C).symm, rfl⟩
theorem same_nil (y : Nat) (w : World) : Calls Tryz.prog 80 #[.pointer none, .pointer (some ⟨y, 0, none⟩)] w fun ev w' => ev = .returned (.bool false) ∧ Below w.heap.size w w' := by
  go_enter Tryz.func80, Tryz.ntmps80
  go_upto_region 1 with fail
  go_quiet (fail)
  go_wp2
  go_ret
  exact ⟨rfl, below_drewN (Below.refl _ _) _⟩
theorem same_any (x y : Nd) (w : World) (hx : w.heap[x.nb]? = some (.cells x.cells 102 (0, 0))) (hy : w.heap[y.nb]? = some (.cells y.cells 102 (0, 0))) :
    Calls Tryz.prog 80 #[.pointer (some ⟨x.nb, 0, none⟩), .pointer (some ⟨y.nb, 0, none⟩)] w fun ev w' => ev = .returned (.bool (eqE x.ent y.ent)) ∧ Below w.heap.size w w' := by
  have x0 : w.cell? ⟨x.nb, 0, none⟩ = some (.string x.ent.path) := cell_of_row _ _ 0 _ _ _ hx
  have x1 : w.cell? ⟨x.nb, 1, none⟩ = some (.int .i64 x.ent.kind) := cell_of_row _ _ 1 _ _ _ hx
  have x2 : w.cell? ⟨x.nb, 2, none⟩ = some (.int .i64 x.ent.mode) := cell_of_row _ _ 2 _ _ _ hx
  have x3 : w.cell? ⟨x.nb, 3, none⟩ = some (.string x.ent.data) := cell_of_row _ _ 3 _ _ _ hx
  have y0 : w.cell? ⟨y.nb, 0, none⟩ = some (.string y.ent.path) := cell_of_row _ _ 0 _ _ _ hy
  have y1 : w.cell? ⟨y.nb, 1, none⟩ = some (.int .i64 y.ent.kind) := cell_of_row _ _ 1 _ _ _ hy
  have y2 : w.cell? ⟨y.nb, 2, none⟩ = some (.int .i64 y.ent.mode) := cell_of_row _ _ 2 _ _ _ hy
  have y3 : w.cell? ⟨y.nb, 3, none⟩ = some (.string y.ent.data) := cell_of_row _ _ 3 _ _ _ hy
  have he := eql49 x.ent y.ent
  clear hx hy
  go_enter Tryz.func80, Tryz.ntmps80
  go_upto_region 1 with fail
  go_quiet (fail)
  go_wp2
  go_ret
  exact ⟨rfl, below_drewN (Below.refl _ _) _⟩
theorem new_cells {w w1 : World} {o : Obj} (hb : Below (w.alloc o).heap.size (w.alloc o) w1) : w1.heap[w.heap.size]? = some o := (hb.block w.heap.size (by simp)).trans (heap_alloc_new _ _)
theorem frz {w : World} {b : Nat} {cs : Array Value} {t : TypeId} (h : w.heap[b]? = some (.cells cs t (0, 0))) (k : Nat) : w.frozen? ⟨b, k, none⟩ = false := by simp [World.frozen?, h]
theorem set4 {w : World} {b x k : Nat} (v0 v1 v2 v3 : Value) (h : x ≠ b) {v : Value} (hc : w.cell? ⟨x, k, none⟩ = some v) : ((((w.setCell ⟨b, 0, none⟩ v0).setCell ⟨b, 1, none⟩ v1).setCell ⟨b, 2, none⟩ v2).setCell ⟨b, 3, none⟩ v3).cell? ⟨x, k, none⟩ = some v := by
  rw [← hc]
  unfold World.cell?
  rw [Below.heap_setCell _ ⟨b, 3, none⟩ _ _ h, Below.heap_setCell _ ⟨b, 2, none⟩ _ _ h, Below.heap_setCell _ ⟨b, 1, none⟩ _ _ h, Below.heap_setCell _ ⟨b, 0, none⟩ _ _ h]
set_option maxHeartbeats 4000000 in
theorem copy_any (x : Nd) (w : World) (hx : w.heap[x.nb]? = some (.cells x.cells 102 (0, 0))) (h1 : x.ent.path.size ≤ 1048576) (h2 : x.ent.data.size ≤ 1048576) :
    Calls Tryz.prog 81 #[.pointer (some ⟨x.nb, 0, none⟩)] w fun ev w' => ev = .returned (.agg #[.string x.ent.path, .int .i64 x.ent.kind, .int .i64 x.ent.mode, .string x.ent.data]) ∧ Below w.heap.size w w' := by
  have hlt : x.nb < w.heap.size := (Array.getElem?_eq_some_iff.1 hx).1
  obtain ⟨W0, hW0⟩ : ∃ W0, W0 = w.alloc (.cells #[.string ⟨#[]⟩, .int .i64 0, .int .i64 0, .string ⟨#[]⟩] 56) := ⟨_, rfl⟩
  have hx0 : W0.heap[x.nb]? = some (.cells x.cells 102 (0, 0)) := by rw [hW0]; exact (Below.heap_alloc _ _ _ hlt).trans hx
  have hq0 : W0.heap[w.heap.size]? = some (.cells #[.string ⟨#[]⟩, .int .i64 0, .int .i64 0, .string ⟨#[]⟩] 56 (0, 0)) := by rw [hW0]; exact heap_alloc_new _ _
  have hb0 : Below w.heap.size w W0 := by rw [hW0]; exact (Below.refl _ _).alloc (Nat.le_refl _) _
  have x0 : W0.cell? ⟨x.nb, 0, none⟩ = some (.string x.ent.path) := cell_of_row _ _ 0 _ _ _ hx0
  have x1 : W0.cell? ⟨x.nb, 1, none⟩ = some (.int .i64 x.ent.kind) := cell_of_row _ _ 1 _ _ _ hx0
  have x2 : W0.cell? ⟨x.nb, 2, none⟩ = some (.int .i64 x.ent.mode) := cell_of_row _ _ 2 _ _ _ hx0
  have x3 : W0.cell? ⟨x.nb, 3, none⟩ = some (.string x.ent.data) := cell_of_row _ _ 3 _ _ _ hx0
  have HQ := hide hq0
  have hne : x.nb ≠ w.heap.size := by omega
  clear hx hx0 hq0
  go_enter Tryz.func81, Tryz.ntmps81
  go_upto_region 1 with fail
  rw [← hW0]
  clear hW0
  go_region_held3 (fun w' => w'.cell? ⟨x.nb, 0, none⟩ = some (.string x.ent.path) ∧ w'.cell? ⟨x.nb, 1, none⟩ = some (.int .i64 x.ent.kind) ∧ w'.cell? ⟨x.nb, 2, none⟩ = some (.int .i64 x.ent.mode) ∧ w'.cell? ⟨x.nb, 3, none⟩ = some (.string x.ent.data))
    (first | (with_reducible exact ⟨p0, p1, p2, p3⟩) | (with_reducible exact ⟨p0', p1', p2', p3'⟩) | (with_reducible exact ⟨set4 _ _ _ _ hne p0', set4 _ _ _ _ hne p1', set4 _ _ _ _ hne p2', set4 _ _ _ _ hne p3'⟩) | go_keep)
    (first
      | (go_at_call_of 122 (Value.string x.ent.path); refine (clone_any _ _ ?_).mono ?_; omega; rintro ev w1 ⟨rfl, hb1⟩; have p0 := cell_later (chain0 hb1) x0; have p1 := cell_later (chain0 hb1) x1; have p2 := cell_later (chain0 hb1) x2; have p3 := cell_later (chain0 hb1) x3)
      | (go_at_call_of 122 (Value.string x.ent.data); refine (clone_any _ _ ?_).mono ?_; omega; rintro ev w2 ⟨rfl, hb2⟩; have p0' := cell_later hb2 p0; have p1' := cell_later hb2 p1; have p2' := cell_later hb2 p2; have p3' := cell_later hb2 p3; have hq := keepC_below hb2 _ _ _ _ (keepC_below (chain0 hb1) _ _ _ _ (unhide HQ)); have q0 : w2.cell? ⟨w.heap.size, 0, none⟩ = some (.string ⟨#[]⟩) := cell_of_row _ _ 0 _ _ _ hq; have q1 : w2.cell? ⟨w.heap.size, 1, none⟩ = some (.int .i64 0) := cell_of_row _ _ 1 _ _ _ hq; have q2 : w2.cell? ⟨w.heap.size, 2, none⟩ = some (.int .i64 0) := cell_of_row _ _ 2 _ _ _ hq; have q3 : w2.cell? ⟨w.heap.size, 3, none⟩ = some (.string ⟨#[]⟩) := cell_of_row _ _ 3 _ _ _ hq; have f0 := frz hq 0; have f1 := frz hq 1; have f2 := frz hq 2; have f3 := frz hq 3; clear hq))
  go_wp2
  refine bodyPost_ret (v := .agg #[.string x.ent.path, .int .i64 x.ent.kind, .int .i64 x.ent.mode, .string x.ent.data]) (by simp [results, Tryz.results81, go_sem, q0, q1, q2, q3]) rfl ⟨rfl, ?_⟩
  have hB : Below w.heap.size w w2 := hb0.trans (((chain0 hb1).trans (hb2.mono (chain0 hb1).size)).mono hb0.size)
  exact (((hB.setCell (p := ⟨w.heap.size, 0, none⟩) (Nat.le_refl _) _).setCell (p := ⟨w.heap.size, 1, none⟩) (Nat.le_refl _) _).setCell (p := ⟨w.heap.size, 2, none⟩) (Nat.le_refl _) _).setCell (p := ⟨w.heap.size, 3, none⟩) (Nat.le_refl _) _
set_option maxHeartbeats 1000000 in
theorem mark_any (s : ByteArray) (k : Int) (w : World) (hs : s.size ≤ 1048576) : Calls Tryz.prog 83 #[.string s, .int .i64 k] w fun ev w' => ev = .returned (.agg #[.string s, .int .i64 k, .int .i64 0, .string ⟨#[]⟩]) ∧ Below w.heap.size w w' := by
  go_enter Tryz.func83, Tryz.ntmps83
  go_wp2_with (go_at_call 122; refine (clone_any s _ (by omega)).mono ?_; rintro ev w1 ⟨rfl, hb1⟩; have hq := new_cells hb1; have q0 : w1.cell? ⟨w.heap.size, 0, none⟩ = some (.string ⟨#[]⟩) := cell_of_row _ _ 0 _ _ _ hq; have q1 : w1.cell? ⟨w.heap.size, 1, none⟩ = some (.int .i64 0) := cell_of_row _ _ 1 _ _ _ hq; have q2 : w1.cell? ⟨w.heap.size, 2, none⟩ = some (.int .i64 0) := cell_of_row _ _ 2 _ _ _ hq; have q3 : w1.cell? ⟨w.heap.size, 3, none⟩ = some (.string ⟨#[]⟩) := cell_of_row _ _ 3 _ _ _ hq; have f0 := frz hq 0; have f1 := frz hq 1; have f2 := frz hq 2; have f3 := frz hq 3; clear hq)
  refine bodyPost_ret (v := .agg #[.string s, .int .i64 k, .int .i64 0, .string ⟨#[]⟩]) (by simp [results, Tryz.results83, go_sem, q0, q1, q2, q3]) rfl ⟨rfl, ?_⟩
  have hB : Below w.heap.size w w1 := ((Below.refl _ _).alloc (Nat.le_refl _) _).trans (hb1.mono (by simp))
  exact (((hB.setCell (p := ⟨w.heap.size, 0, none⟩) (Nat.le_refl _) _).setCell (p := ⟨w.heap.size, 1, none⟩) (Nat.le_refl _) _).setCell (p := ⟨w.heap.size, 2, none⟩) (Nat.le_refl _) _).setCell (p := ⟨w.heap.size, 3, none⟩) (Nat.le_refl _) _
end Go.Proofs.YtkeefkfklmhcjaaGreatDoor
