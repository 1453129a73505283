import Derived.Test.YtjofjcjojgpaeaaGreatDoorJTreeP
import Derived.OwnWalk
import Derived.ArgAppend
import Derived.Laws.OwnMore
import Derived.Deep.AppendLies
import Derived.Test.YtjofjcjojgpaeaaGreatDoorJInA
import Derived.Test.YtjofjcjojgpaeaaGreatDoorJEqS
import Derived.Deep.RegionHeld3
import Derived.Maps.OwnSet
namespace Go.Proofs.YtjofjcjojgpaeaaGreatDoor
open Go.RowKit

theorem Tryz.info47 : (Tryz.prog.info? 47).map (fun i => (i.zero, i.size, i.bytes)) = some (some (.agg #[.string ByteArray.empty, .int .i64 0, .int .i64 0, .string ByteArray.empty]), 4, 48) := by kernel_rfl
def ec (e : Ent) : List Value := [.string e.path, .int .i64 e.kind, .int .i64 e.mode, .string e.data]
def entC (ks : List Ent) : List Value := (ks.map ec).flatten
/-- A row of entries that the call made. -/
def OwnE (w : World) (B : Nat) (v : Value) (ks : List Ent) : Prop := w.ownsRow B 47 4 v ks.length (entC ks)
theorem entC_len (ks : List Ent) : (entC ks).length = ks.length * 4 := by
  induction ks with
  | nil => rfl
  | cons k r ih => simp only [entC, List.map_cons, List.flatten_cons, List.length_append, ec] at ih ⊢; simp at ih ⊢; omega
theorem entC_get : ∀ {ks : List Ent} {k : Nat} {e : Ent}, ks[k]? = some e → (entC ks)[k * 4]? = some (.string e.path) ∧ (entC ks)[k * 4 + 1]? = some (.int .i64 e.kind) ∧ (entC ks)[k * 4 + 2]? = some (.int .i64 e.mode) ∧ (entC ks)[k * 4 + 3]? = some (.string e.data)
  | [], _, _, h => by simp at h
  | x :: r, 0, e, h => by
    simp at h; subst h
    simp [entC, ec]
  | x :: r, k + 1, e, h => by
    have h' : r[k]? = some e := by simpa using h
    have := entC_get h'
    have e1 : entC (x :: r) = ec x ++ entC r := by simp [entC]
    have e2 : (ec x).length = 4 := rfl
    rw [e1, show (k + 1) * 4 = 4 + k * 4 from by omega, show 4 + k * 4 + 1 = 4 + (k * 4 + 1) from by omega, show 4 + k * 4 + 2 = 4 + (k * 4 + 2) from by omega, show 4 + k * 4 + 3 = 4 + (k * 4 + 3) from by omega]
    rw [List.getElem?_append_right (by omega), List.getElem?_append_right (by omega), List.getElem?_append_right (by omega), List.getElem?_append_right (by omega)]
    simp only [e2, Nat.add_sub_cancel_left]
    exact this
theorem ownE_row {w : World} {B : Nat} {v : Value} {ks : List Ent} (h : OwnE w B v ks) : ∃ ao cap n, v = .slice ao n cap ∧ Hid (n = ks.length) ∧ ERow w ao ks ∧ n ≤ cap := by
  rcases h.2 with ⟨rfl, h0⟩ | ⟨g, cap, cur, rfl, hb, hg, hnc, _⟩
  · have : ks = [] := List.length_eq_zero_iff.1 h0
    subst this
    exact ⟨none, 0, 0, rfl, hide rfl, fun k e hk => by simp at hk, Nat.le_refl _⟩
  · refine ⟨some ⟨g, 0, none⟩, cap, ks.length, rfl, hide rfl, fun k e hk => ?_, hnc⟩
    have hk' : k < ks.length := (List.getElem?_eq_some_iff.1 hk).1
    obtain ⟨h1, h2, h3, h4⟩ := entC_get hk
    refine ⟨g, 0, rfl, ?_, ?_, ?_, ?_⟩
    · rw [Nat.zero_add, World.ownsRow.cellAt h _ (by omega), h1]
    · rw [Nat.zero_add, World.ownsRow.cellAt h _ (by omega), h2]
    · rw [Nat.zero_add, World.ownsRow.cellAt h _ (by omega), h3]
    · rw [Nat.zero_add, World.ownsRow.cellAt h _ (by omega), h4]
theorem kids_yes {es : List Ent} {k : Nat} {e : Ent} {p : List UInt8} (he : es[k]? = some e) (h : dirOf e.path.data.toList = p) : kidsE (es.take (k + 1)) p = kidsE (es.take k) p ++ [e] := by
  rw [kidsE, kidsE, List.take_add_one, he, List.filter_append]; simp [h]
theorem kids_not {es : List Ent} {k : Nat} {e : Ent} {p : List UInt8} (he : es[k]? = some e) (h : dirOf e.path.data.toList ≠ p) : kidsE (es.take (k + 1)) p = kidsE (es.take k) p := by
  rw [kidsE, kidsE, List.take_add_one, he, List.filter_append]; simp [h]

end Go.Proofs.YtjofjcjojgpaeaaGreatDoor

namespace Go.Proofs.YtjofjcjojgpaeaaGreatDoor
open Go.RowKit Go.Maps

theorem clone_any (s : ByteArray) (w : World) (hs : s.size ≤ 1073741824) : Calls Tryz.prog 70 #[.string s] w fun ev w' => ev = .returned (.string s) ∧ Below w.heap.size w w' := by
  go_enter Tryz.func70, Tryz.ntmps70
  go_wp2_with (go_at_call 95; refine (Tryz.stringslite_Clone s _ (by omega)).mono ?_; rintro ev w1 ⟨rfl, hb1⟩)
  go_ret
  exact ⟨rfl, hb1⟩
set_option maxRecDepth 100000 in
theorem wide_any (b mb n : Nat) (L : List (List UInt8 × Nat)) (w : World) (hc : w.cell? ⟨b, 4, none⟩ = some (.map (some mb))) (hk : KM w mb n L) : Calls Tryz.prog 71 #[.pointer (some ⟨b, 0, none⟩)] w fun ev w' => ev = .returned (.int .i64 (L.length : Int)) ∧ w' = w := by
  have hl := World.ownsMap.len hk Tryz.underlying77 3
  rw [km_size] at hl
  clear hk
  go_enter Tryz.func71, Tryz.ntmps71
  go_wp2
  go_ret
  exact ⟨rfl, rfl⟩
theorem has_any (b mb n : Nat) (ns : List Nd) (p : List UInt8) (s : ByteArray) (w : World) (hc : w.cell? ⟨b, 4, none⟩ = some (.map (some mb))) (hk : KM w mb n (kidsN ns p)) (hs : s.size ≤ 1048576) :
    Calls Tryz.prog 73 #[.pointer (some ⟨b, 0, none⟩), .string s] w fun ev w' => ev = .returned (.bool ((kidsX ns p).any fun z => nameOf z.p == s.data.toList)) ∧ w' = w := by
  rcases hk.look s (by omega) false with ⟨hrun, hno⟩ | ⟨q, hq, hrun⟩
  · have C : Hid ((kidsX ns p).any (fun z => nameOf z.p == s.data.toList) = false) := hide (by
      rw [List.any_eq_false]
      intro z hz
      simpa using hno (nameOf z.p, z.nb) (by rw [kidsN_eq]; exact List.mem_map.2 ⟨z, hz, rfl⟩))
    clear hno
    go_enter Tryz.func73, Tryz.ntmps73
    go_wp2
    go_ret
    exact ⟨ret_bool (unhide C).symm, rfl⟩
  · have C : Hid ((kidsX ns p).any (fun z => nameOf z.p == s.data.toList) = true) := hide (by
      rw [List.any_eq_true]
      rw [kidsN_eq] at hq
      obtain ⟨z, hz, e⟩ := List.mem_map.1 hq
      exact ⟨z, hz, by simpa using congrArg Prod.fst e⟩)
    clear hq
    go_enter Tryz.func73, Tryz.ntmps73
    go_wp2
    go_ret
    exact ⟨ret_bool (unhide C).symm, rfl⟩
theorem same_nil (y : Nat) (w : World) : Calls Tryz.prog 40 #[.pointer none, .pointer (some ⟨y, 0, none⟩)] w fun ev w' => ev = .returned (.bool false) ∧ Below w.heap.size w w' := by
  go_enter Tryz.func40, Tryz.ntmps40
  go_upto_region 1 with fail
  go_quiet (fail)
  go_wp2
  go_ret
  exact ⟨rfl, below_drewN (Below.refl _ _) _⟩
theorem same_any (x y : Nd) (w : World) (hx : w.heap[x.nb]? = some (.cells x.cells 79 (0, 0))) (hy : w.heap[y.nb]? = some (.cells y.cells 79 (0, 0))) :
    Calls Tryz.prog 40 #[.pointer (some ⟨x.nb, 0, none⟩), .pointer (some ⟨y.nb, 0, none⟩)] w fun ev w' => ev = .returned (.bool (eqE x.ent y.ent)) ∧ Below w.heap.size w w' := by
  have x0 : w.cell? ⟨x.nb, 0, none⟩ = some (.string x.ent.path) := cell_of_row _ _ 0 _ _ _ hx
  have x1 : w.cell? ⟨x.nb, 1, none⟩ = some (.int .i64 x.ent.kind) := cell_of_row _ _ 1 _ _ _ hx
  have x2 : w.cell? ⟨x.nb, 2, none⟩ = some (.int .i64 x.ent.mode) := cell_of_row _ _ 2 _ _ _ hx
  have x3 : w.cell? ⟨x.nb, 3, none⟩ = some (.string x.ent.data) := cell_of_row _ _ 3 _ _ _ hx
  have y0 : w.cell? ⟨y.nb, 0, none⟩ = some (.string y.ent.path) := cell_of_row _ _ 0 _ _ _ hy
  have y1 : w.cell? ⟨y.nb, 1, none⟩ = some (.int .i64 y.ent.kind) := cell_of_row _ _ 1 _ _ _ hy
  have y2 : w.cell? ⟨y.nb, 2, none⟩ = some (.int .i64 y.ent.mode) := cell_of_row _ _ 2 _ _ _ hy
  have y3 : w.cell? ⟨y.nb, 3, none⟩ = some (.string y.ent.data) := cell_of_row _ _ 3 _ _ _ hy
  have he := eql49 x.ent y.ent
  clear hx hy
  go_enter Tryz.func40, Tryz.ntmps40
  go_upto_region 1 with fail
  go_quiet (fail)
  go_wp2
  go_ret
  exact ⟨rfl, below_drewN (Below.refl _ _) _⟩
theorem new_cells {w w1 : World} {o : Obj} (hb : Below (w.alloc o).heap.size (w.alloc o) w1) : w1.heap[w.heap.size]? = some o := (hb.block w.heap.size (by simp)).trans (heap_alloc_new _ _)
theorem frz {w : World} {b : Nat} {cs : Array Value} {t : TypeId} (h : w.heap[b]? = some (.cells cs t (0, 0))) (k : Nat) : w.frozen? ⟨b, k, none⟩ = false := by simp [World.frozen?, h]
theorem set4 {w : World} {b x k : Nat} (v0 v1 v2 v3 : Value) (h : x ≠ b) {v : Value} (hc : w.cell? ⟨x, k, none⟩ = some v) : ((((w.setCell ⟨b, 0, none⟩ v0).setCell ⟨b, 1, none⟩ v1).setCell ⟨b, 2, none⟩ v2).setCell ⟨b, 3, none⟩ v3).cell? ⟨x, k, none⟩ = some v := by
  rw [← hc]
  unfold World.cell?
  rw [Below.heap_setCell _ ⟨b, 3, none⟩ _ _ h, Below.heap_setCell _ ⟨b, 2, none⟩ _ _ h, Below.heap_setCell _ ⟨b, 1, none⟩ _ _ h, Below.heap_setCell _ ⟨b, 0, none⟩ _ _ h]
set_option maxHeartbeats 4000000 in
theorem copy_any (x : Nd) (w : World) (hx : w.heap[x.nb]? = some (.cells x.cells 79 (0, 0))) (h1 : x.ent.path.size ≤ 1048576) (h2 : x.ent.data.size ≤ 1048576) :
    Calls Tryz.prog 41 #[.pointer (some ⟨x.nb, 0, none⟩)] w fun ev w' => ev = .returned (.agg #[.string x.ent.path, .int .i64 x.ent.kind, .int .i64 x.ent.mode, .string x.ent.data]) ∧ Below w.heap.size w w' := by
  have hlt : x.nb < w.heap.size := (Array.getElem?_eq_some_iff.1 hx).1
  obtain ⟨W0, hW0⟩ : ∃ W0, W0 = w.alloc (.cells #[.string ⟨#[]⟩, .int .i64 0, .int .i64 0, .string ⟨#[]⟩] 47) := ⟨_, rfl⟩
  have hx0 : W0.heap[x.nb]? = some (.cells x.cells 79 (0, 0)) := by rw [hW0]; exact (Below.heap_alloc _ _ _ hlt).trans hx
  have hq0 : W0.heap[w.heap.size]? = some (.cells #[.string ⟨#[]⟩, .int .i64 0, .int .i64 0, .string ⟨#[]⟩] 47 (0, 0)) := by rw [hW0]; exact heap_alloc_new _ _
  have hb0 : Below w.heap.size w W0 := by rw [hW0]; exact (Below.refl _ _).alloc (Nat.le_refl _) _
  have x0 : W0.cell? ⟨x.nb, 0, none⟩ = some (.string x.ent.path) := cell_of_row _ _ 0 _ _ _ hx0
  have x1 : W0.cell? ⟨x.nb, 1, none⟩ = some (.int .i64 x.ent.kind) := cell_of_row _ _ 1 _ _ _ hx0
  have x2 : W0.cell? ⟨x.nb, 2, none⟩ = some (.int .i64 x.ent.mode) := cell_of_row _ _ 2 _ _ _ hx0
  have x3 : W0.cell? ⟨x.nb, 3, none⟩ = some (.string x.ent.data) := cell_of_row _ _ 3 _ _ _ hx0
  have HQ := hide hq0
  have hne : x.nb ≠ w.heap.size := by omega
  clear hx hx0 hq0
  go_enter Tryz.func41, Tryz.ntmps41
  go_upto_region 1 with fail
  rw [← hW0]
  clear hW0
  go_region_held3 (fun w' => w'.cell? ⟨x.nb, 0, none⟩ = some (.string x.ent.path) ∧ w'.cell? ⟨x.nb, 1, none⟩ = some (.int .i64 x.ent.kind) ∧ w'.cell? ⟨x.nb, 2, none⟩ = some (.int .i64 x.ent.mode) ∧ w'.cell? ⟨x.nb, 3, none⟩ = some (.string x.ent.data))
    (first | (with_reducible exact ⟨p0, p1, p2, p3⟩) | (with_reducible exact ⟨p0', p1', p2', p3'⟩) | (with_reducible exact ⟨set4 _ _ _ _ hne p0', set4 _ _ _ _ hne p1', set4 _ _ _ _ hne p2', set4 _ _ _ _ hne p3'⟩) | go_keep)
    (first
      | (go_at_call_of 70 (Value.string x.ent.path); refine (clone_any _ _ ?_).mono ?_; omega; rintro ev w1 ⟨rfl, hb1⟩; have p0 := cell_later (chain0 hb1) x0; have p1 := cell_later (chain0 hb1) x1; have p2 := cell_later (chain0 hb1) x2; have p3 := cell_later (chain0 hb1) x3)
      | (go_at_call_of 70 (Value.string x.ent.data); refine (clone_any _ _ ?_).mono ?_; omega; rintro ev w2 ⟨rfl, hb2⟩; have p0' := cell_later hb2 p0; have p1' := cell_later hb2 p1; have p2' := cell_later hb2 p2; have p3' := cell_later hb2 p3; have hq := keepC_below hb2 _ _ _ _ (keepC_below (chain0 hb1) _ _ _ _ (unhide HQ)); have q0 : w2.cell? ⟨w.heap.size, 0, none⟩ = some (.string ⟨#[]⟩) := cell_of_row _ _ 0 _ _ _ hq; have q1 : w2.cell? ⟨w.heap.size, 1, none⟩ = some (.int .i64 0) := cell_of_row _ _ 1 _ _ _ hq; have q2 : w2.cell? ⟨w.heap.size, 2, none⟩ = some (.int .i64 0) := cell_of_row _ _ 2 _ _ _ hq; have q3 : w2.cell? ⟨w.heap.size, 3, none⟩ = some (.string ⟨#[]⟩) := cell_of_row _ _ 3 _ _ _ hq; have f0 := frz hq 0; have f1 := frz hq 1; have f2 := frz hq 2; have f3 := frz hq 3; clear hq))
  go_wp2
  refine bodyPost_ret (v := .agg #[.string x.ent.path, .int .i64 x.ent.kind, .int .i64 x.ent.mode, .string x.ent.data]) (by simp [results, Tryz.results41, go_sem, q0, q1, q2, q3]) rfl ⟨rfl, ?_⟩
  have hB : Below w.heap.size w w2 := hb0.trans (((chain0 hb1).trans (hb2.mono (chain0 hb1).size)).mono hb0.size)
  exact (((hB.setCell (p := ⟨w.heap.size, 0, none⟩) (Nat.le_refl _) _).setCell (p := ⟨w.heap.size, 1, none⟩) (Nat.le_refl _) _).setCell (p := ⟨w.heap.size, 2, none⟩) (Nat.le_refl _) _).setCell (p := ⟨w.heap.size, 3, none⟩) (Nat.le_refl _) _
set_option maxHeartbeats 1000000 in
theorem mark_any (s : ByteArray) (k : Int) (w : World) (hs : s.size ≤ 1048576) : Calls Tryz.prog 43 #[.string s, .int .i64 k] w fun ev w' => ev = .returned (.agg #[.string s, .int .i64 k, .int .i64 0, .string ⟨#[]⟩]) ∧ Below w.heap.size w w' := by
  go_enter Tryz.func43, Tryz.ntmps43
  go_wp2_with (go_at_call 70; refine (clone_any s _ (by omega)).mono ?_; rintro ev w1 ⟨rfl, hb1⟩; have hq := new_cells hb1; have q0 : w1.cell? ⟨w.heap.size, 0, none⟩ = some (.string ⟨#[]⟩) := cell_of_row _ _ 0 _ _ _ hq; have q1 : w1.cell? ⟨w.heap.size, 1, none⟩ = some (.int .i64 0) := cell_of_row _ _ 1 _ _ _ hq; have q2 : w1.cell? ⟨w.heap.size, 2, none⟩ = some (.int .i64 0) := cell_of_row _ _ 2 _ _ _ hq; have q3 : w1.cell? ⟨w.heap.size, 3, none⟩ = some (.string ⟨#[]⟩) := cell_of_row _ _ 3 _ _ _ hq; have f0 := frz hq 0; have f1 := frz hq 1; have f2 := frz hq 2; have f3 := frz hq 3; clear hq)
  refine bodyPost_ret (v := .agg #[.string s, .int .i64 k, .int .i64 0, .string ⟨#[]⟩]) (by simp [results, Tryz.results43, go_sem, q0, q1, q2, q3]) rfl ⟨rfl, ?_⟩
  have hB : Below w.heap.size w w1 := ((Below.refl _ _).alloc (Nat.le_refl _) _).trans (hb1.mono (by simp))
  exact (((hB.setCell (p := ⟨w.heap.size, 0, none⟩) (Nat.le_refl _) _).setCell (p := ⟨w.heap.size, 1, none⟩) (Nat.le_refl _) _).setCell (p := ⟨w.heap.size, 2, none⟩) (Nat.le_refl _) _).setCell (p := ⟨w.heap.size, 3, none⟩) (Nat.le_refl _) _
end Go.Proofs.YtjofjcjojgpaeaaGreatDoor
