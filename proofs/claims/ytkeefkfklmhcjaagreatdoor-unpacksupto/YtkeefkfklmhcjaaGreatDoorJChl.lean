import Derived.Test.YtkeefkfklmhcjaaGreatDoorJTreeP
import Derived.OwnWalk
import Derived.ArgAppend
import Derived.Laws.OwnMore
import Derived.Deep.AppendLies
import Derived.Test.YtkeefkfklmhcjaaGreatDoorInA
import Derived.Test.YtkeefkfklmhcjaaGreatDoorJEqS
import Derived.Deep.RegionHeld3
import Derived.Maps.OwnSet
namespace Go.Proofs.YtkeefkfklmhcjaaGreatDoor
open Go.RowKit

theorem Tryz.info56 : (Tryz.prog.info? 56).map (fun i => (i.zero, i.size, i.bytes)) = some (some (.agg #[.string ByteArray.empty, .int .i64 0, .int .i64 0, .string ByteArray.empty]), 4, 48) := by kernel_rfl
def ec (e : Ent) : List Value := [.string e.path, .int .i64 e.kind, .int .i64 e.mode, .string e.data]
def entC (ks : List Ent) : List Value := (ks.map ec).flatten
/-- A row of entries that the call made. -/
def OwnE (w : World) (B : Nat) (v : Value) (ks : List Ent) : Prop := w.ownsRow B 56 4 v ks.length (entC ks)
theorem entC_len (ks : List Ent) : (entC ks).length = ks.length * 4 := by
  induction ks with
  | nil => rfl
  | cons k r ih => simp only [entC, List.map_cons, List.flatten_cons, List.length_append, ec] at ih ⊢; simp at ih ⊢; omega
theorem entC_get : ∀ {ks : List Ent} {k : Nat} {e : Ent}, ks[k]? = some e → (entC ks)[k * 4]? = some (.string e.path) ∧ (entC ks)[k * 4 + 1]? = some (.int .i64 e.kind) ∧ (entC ks)[k * 4 + 2]? = some (.int .i64 e.mode) ∧ (entC ks)[k * 4 + 3]? = some (.string e.data)
  | [], _, _, h => by simp at h
  | x :: r, 0, e, h => by
    simp at h; subst h
    simp [entC, ec]
  | x :: r, k + 1, e, h => by
    have h' : r[k]? = some e := by simpa using h
    have := entC_get h'
    have e1 : entC (x :: r) = ec x ++ entC r := by simp [entC]
    have e2 : (ec x).length = 4 := rfl
    rw [e1, show (k + 1) * 4 = 4 + k * 4 from by omega, show 4 + k * 4 + 1 = 4 + (k * 4 + 1) from by omega, show 4 + k * 4 + 2 = 4 + (k * 4 + 2) from by omega, show 4 + k * 4 + 3 = 4 + (k * 4 + 3) from by omega]
    rw [List.getElem?_append_right (by omega), List.getElem?_append_right (by omega), List.getElem?_append_right (by omega), List.getElem?_append_right (by omega)]
    simp only [e2, Nat.add_sub_cancel_left]
    exact this
theorem ownE_row {w : World} {B : Nat} {v : Value} {ks : List Ent} (h : OwnE w B v ks) : ∃ ao cap n, v = .slice ao n cap ∧ Hid (n = ks.length) ∧ ERow w ao ks ∧ n ≤ cap := by
  rcases h.2 with ⟨rfl, h0⟩ | ⟨g, cap, cur, rfl, hb, hg, hnc, _⟩
  · have : ks = [] := List.length_eq_zero_iff.1 h0
    subst this
    exact ⟨none, 0, 0, rfl, hide rfl, fun k e hk => by simp at hk, Nat.le_refl _⟩
  · refine ⟨some ⟨g, 0, none⟩, cap, ks.length, rfl, hide rfl, fun k e hk => ?_, hnc⟩
    have hk' : k < ks.length := (List.getElem?_eq_some_iff.1 hk).1
    obtain ⟨h1, h2, h3, h4⟩ := entC_get hk
    refine ⟨g, 0, rfl, ?_, ?_, ?_, ?_⟩
    · rw [Nat.zero_add, World.ownsRow.cellAt h _ (by omega), h1]
    · rw [Nat.zero_add, World.ownsRow.cellAt h _ (by omega), h2]
    · rw [Nat.zero_add, World.ownsRow.cellAt h _ (by omega), h3]
    · rw [Nat.zero_add, World.ownsRow.cellAt h _ (by omega), h4]
theorem kids_yes {es : List Ent} {k : Nat} {e : Ent} {p : List UInt8} (he : es[k]? = some e) (h : dirOf e.path.data.toList = p) : kidsE (es.take (k + 1)) p = kidsE (es.take k) p ++ [e] := by
  rw [kidsE, kidsE, List.take_add_one, he, List.filter_append]; simp [h]
theorem kids_not {es : List Ent} {k : Nat} {e : Ent} {p : List UInt8} (he : es[k]? = some e) (h : dirOf e.path.data.toList ≠ p) : kidsE (es.take (k + 1)) p = kidsE (es.take k) p := by
  rw [kidsE, kidsE, List.take_add_one, he, List.filter_append]; simp [h]

set_option maxHeartbeats 1000000 in
set_option maxRecDepth 100000 in
theorem children_any (ao : Option Addr) (cap n : Nat) (es : List Ent) (p : ByteArray) (w : World) (hr : ERow w ao es) (HN : Hid (n = es.length)) (hn : n ≤ 40) (HS : Hid (Small es)) (HP : Hid (∀ e ∈ es, e.path.data.toList ≠ [])) :
    Calls Tryz.prog 51 #[.slice ao n cap, .string p] w fun ev w' => ∃ ao' cap' n' ks, ev = .returned (.slice ao' n' cap') ∧ Hid (n' = ks.length) ∧ ERow w' ao' ks ∧ Hid (ks = kidsE es p.data.toList) ∧ Below w.heap.size w w' := by
  obtain ⟨i0, hi, hz0, hz1, hz2⟩ := info_parts Tryz.info56
  go_enter Tryz.func51, Tryz.ntmps51
  go_wp2
  go_loopw [5, 6] (fun v i wr => ∃ (k : Nat) (ks : List Ent), k ≤ n ∧ ks.length ≤ k ∧ i = .int .i64 k ∧ OwnE wr w.heap.size v ks ∧ Below w.heap.size w wr ∧ Hid (ks = kidsE (es.take k) p.data.toList)) (fun _ i _ => n - (intOf i).toNat)
  case atStart => exact ⟨0, [], by omega, by simp, rfl, World.ownsRow_nil _ _ _ _, Below.refl _ _, hide (by simp [kidsE])⟩
  case round =>
    obtain ⟨k, ks, hk, hkl, rfl, hown, hb, HK⟩ := hrel
    by_cases hlt : k < n
    · obtain ⟨e, he⟩ : ∃ e, es[k]? = some e := ⟨es[k]'(by have := unhide HN; omega), List.getElem?_eq_getElem (by have := unhide HN; omega)⟩
      obtain ⟨g, o, rfl, c0, c1, c2, c3⟩ := (hr.below hb) k e he
      have i1 : (0 : Int) ≤ (k : Int) := by omega
      have i2 : (k : Int) < (n : Int) := by omega
      have hs1 := (unhide HS e (List.mem_of_getElem? he)).1
      have HP0 := hide (unhide HP e (List.mem_of_getElem? he))
      have HE := hide he
      clear he
      go_upto_region 6 with (go_at_call 30; refine (up_any e.path _ (by omega) (unhide HP0)).mono ?_; rintro ev w4 ⟨dd, nn, rfl, HD, HNm, hb4⟩)
      have hB4 := hb.trans (hb4.mono hb.size)
      have hown4 : OwnE w4 w.heap.size u5 ks := World.ownsRow.kept (row := none) hown ⟨hb4.os, hb4.tape, hb4.output, hb4.size, fun k hk _ => hb4.block k hk⟩ (by cases u5.ownBlock <;> simp)
      have c0 := cell_later hb4 c0
      have c1 := cell_later hb4 c1
      have c2 := cell_later hb4 c2
      have c3 := cell_later hb4 c3
      by_cases hq : dd.data.toList = p.data.toList
      · have g1 : (dd.toList == p.toList) = true := by rw [Lib.toList_data, Lib.toList_data, hq]; simp
        have HQ : Hid (kidsE (es.take (k + 1)) p.data.toList = ks ++ [e]) := hide (by rw [kids_yes (unhide HE) ((unhide HD).symm.trans hq), unhide HK])
        clear hq hb4
        go_wp2_with (first | (at_builtin; refine wpList_append_own _ rfl _ _ 22 rfl w.heap.size 56 i0 _ 4 48 Tryz.underlying22 hi hz0 hz1 hz2 rfl (by decide) _ _ _ rfl (World.ownsRow.alloc hown4 _) ⟨w4.heap.size, 0, none⟩ 1 1 (ec e) rfl rfl (World.news_of_block (cs := #[.string e.path, .int .i64 e.kind, .int .i64 e.mode, .string e.data]) (t := 56) (fr := (0, 0)) (heap_alloc_new _ _)) (fun y hy => by simp [ec] at hy; rcases hy with rfl | rfl | rfl | rfl <;> rfl) (by unfold maxLen; omega) (by omega) (by have := hB4.size; simp; omega) ?_; intro v' w5 hown5 hgrow _))
        go_roundw
        case rel =>
          have R1 : OwnE w5 w.heap.size v' (ks ++ [e]) := by
            unfold OwnE
            rw [List.length_append, show entC (ks ++ [e]) = entC ks ++ ec e from by simp [entC]]
            exact hown5
          have R2 : Below w.heap.size w w5 := (hB4.alloc hB4.size _).grown hgrow (by have := hB4.size; simp; omega) (fun q hq => (World.ownsRow.lt hown4 q hq).1)
          first
            | exact ⟨k + 1, ks ++ [e], by omega, by simp; omega, by go_num, R1, R2, hide (unhide HQ).symm⟩
            | ((repeat apply Exists.intro); exact ⟨⟨k + 1, ks ++ [e], by omega, by simp; omega, by go_num, R1, R2, hide (unhide HQ).symm⟩, rfl⟩)
        case measure => simp [intOf]; omega
      · have g1 : (dd.toList == p.toList) = false := by rw [Lib.toList_data, Lib.toList_data]; simpa using hq
        have HQ : Hid (kidsE (es.take (k + 1)) p.data.toList = ks) := hide (by rw [kids_not (unhide HE) (fun e => hq ((unhide HD).trans e)), unhide HK])
        clear hq hb4
        go_wp2_with fail
        go_roundw
        case rel =>
          first
            | exact ⟨k + 1, ks, by omega, by omega, by go_num, hown4, hB4, hide (unhide HQ).symm⟩
            | ((repeat apply Exists.intro); exact ⟨⟨k + 1, ks, by omega, by omega, by go_num, hown4, hB4, hide (unhide HQ).symm⟩, rfl⟩)
        case measure => simp [intOf]; omega
    · obtain ⟨ao', cap', n', rfl, HN', hrow, _⟩ := ownE_row hown
      have HF : Hid (ks = kidsE es p.data.toList) := hide (by rw [unhide HK, List.take_of_length_le (by have := unhide HN; omega)])
      go_wp2_with fail
      go_ret
      exact ⟨ao', cap', n', ks, rfl, HN', hrow, HF, hb⟩
end Go.Proofs.YtkeefkfklmhcjaaGreatDoor

namespace Go.Proofs.YtkeefkfklmhcjaaGreatDoor
open Go.RowKit Go.Maps

theorem clone_any (s : ByteArray) (w : World) (hs : s.size ≤ 1073741824) : Calls Tryz.prog 122 #[.string s] w fun ev w' => ev = .returned (.string s) ∧ Below w.heap.size w w' := by
  go_enter Tryz.func122, Tryz.ntmps122
  go_wp2_with (go_at_call 150; refine (Tryz.stringslite_Clone s _ (by omega)).mono ?_; rintro ev w1 ⟨rfl, hb1⟩)
  go_ret
  exact ⟨rfl, hb1⟩
set_option maxRecDepth 100000 in
theorem wide_any (b mb n : Nat) (L : List (List UInt8 × Nat)) (w : World) (hc : w.cell? ⟨b, 4, none⟩ = some (.map (some mb))) (hk : KM w mb n L) : Calls Tryz.prog 123 #[.pointer (some ⟨b, 0, none⟩)] w fun ev w' => ev = .returned (.int .i64 (L.length : Int)) ∧ w' = w := by
  have hl := World.ownsMap.len hk Tryz.underlying100 3
  rw [km_size] at hl
  clear hk
  go_enter Tryz.func123, Tryz.ntmps123
  go_wp2
  go_ret
  exact ⟨rfl, rfl⟩
theorem has_any (b mb n : Nat) (ns : List Nd) (p : List UInt8) (s : ByteArray) (w : World) (hc : w.cell? ⟨b, 4, none⟩ = some (.map (some mb))) (hk : KM w mb n (kidsN ns p)) (hs : s.size ≤ 1048576) :
    Calls Tryz.prog 124 #[.pointer (some ⟨b, 0, none⟩), .string s] w fun ev w' => ev = .returned (.bool ((kidsX ns p).any fun z => nameOf z.p == s.data.toList)) ∧ w' = w := by
  rcases hk.look s (by omega) false with ⟨hrun, hno⟩ | ⟨q, hq, hrun⟩
  · have C : Hid ((kidsX ns p).any (fun z => nameOf z.p == s.data.toList) = false) := hide (by
      rw [List.any_eq_false]
      intro z hz
      simpa using hno (nameOf z.p, z.nb) (by rw [kidsN_eq]; exact List.mem_map.2 ⟨z, hz, rfl⟩))
    clear hno
    go_enter Tryz.func124, Tryz.ntmps124
    go_wp2
    go_ret
    exact ⟨ret_bool (unhide C).symm, rfl⟩
  · have C : Hid ((kidsX ns p).any (fun z => nameOf z.p == s.data.toList) = true) := hide (by
      rw [List.any_eq_true]
      rw [kidsN_eq] at hq
      obtain ⟨z, hz, e⟩ := List.mem_map.1 hq
      exact ⟨z, hz, by simpa using congrArg Prod.fst e⟩)
    clear hq
    go_enter Tryz.func124, Tryz.ntmps124
    go_wp2
    go_ret
    exact ⟨ret_bool (unhide C).symm, rfl⟩
theorem same_nil (y : Nat) (w : World) : Calls Tryz.prog 80 #[.pointer none, .pointer (some ⟨y, 0, none⟩)] w fun ev w' => ev = .returned (.bool false) ∧ Below w.heap.size w w' := by
  go_enter Tryz.func80, Tryz.ntmps80
  go_upto_region 1 with fail
  go_quiet (fail)
  go_wp2
  go_ret
  exact ⟨rfl, below_drewN (Below.refl _ _) _⟩
theorem same_any (x y : Nd) (w : World) (hx : w.heap[x.nb]? = some (.cells x.cells 102 (0, 0))) (hy : w.heap[y.nb]? = some (.cells y.cells 102 (0, 0))) :
    Calls Tryz.prog 80 #[.pointer (some ⟨x.nb, 0, none⟩), .pointer (some ⟨y.nb, 0, none⟩)] w fun ev w' => ev = .returned (.bool (eqE x.ent y.ent)) ∧ Below w.heap.size w w' := by
  have x0 : w.cell? ⟨x.nb, 0, none⟩ = some (.string x.ent.path) := cell_of_row _ _ 0 _ _ _ hx
  have x1 : w.cell? ⟨x.nb, 1, none⟩ = some (.int .i64 x.ent.kind) := cell_of_row _ _ 1 _ _ _ hx
  have x2 : w.cell? ⟨x.nb, 2, none⟩ = some (.int .i64 x.ent.mode) := cell_of_row _ _ 2 _ _ _ hx
  have x3 : w.cell? ⟨x.nb, 3, none⟩ = some (.string x.ent.data) := cell_of_row _ _ 3 _ _ _ hx
  have y0 : w.cell? ⟨y.nb, 0, none⟩ = some (.string y.ent.path) := cell_of_row _ _ 0 _ _ _ hy
  have y1 : w.cell? ⟨y.nb, 1, none⟩ = some (.int .i64 y.ent.kind) := cell_of_row _ _ 1 _ _ _ hy
  have y2 : w.cell? ⟨y.nb, 2, none⟩ = some (.int .i64 y.ent.mode) := cell_of_row _ _ 2 _ _ _ hy
  have y3 : w.cell? ⟨y.nb, 3, none⟩ = some (.string y.ent.data) := cell_of_row _ _ 3 _ _ _ hy
  have he := eql49 x.ent y.ent
  clear hx hy
  go_enter Tryz.func80, Tryz.ntmps80
  go_upto_region 1 with fail
  go_quiet (fail)
  go_wp2
  go_ret
  exact ⟨rfl, below_drewN (Below.refl _ _) _⟩
theorem new_cells {w w1 : World} {o : Obj} (hb : Below (w.alloc o).heap.size (w.alloc o) w1) : w1.heap[w.heap.size]? = some o := (hb.block w.heap.size (by simp)).trans (heap_alloc_new _ _)
theorem frz {w : World} {b : Nat} {cs : Array Value} {t : TypeId} (h : w.heap[b]? = some (.cells cs t (0, 0))) (k : Nat) : w.frozen? ⟨b, k, none⟩ = false := by simp [World.frozen?, h]
theorem set4 {w : World} {b x k : Nat} (v0 v1 v2 v3 : Value) (h : x ≠ b) {v : Value} (hc : w.cell? ⟨x, k, none⟩ = some v) : ((((w.setCell ⟨b, 0, none⟩ v0).setCell ⟨b, 1, none⟩ v1).setCell ⟨b, 2, none⟩ v2).setCell ⟨b, 3, none⟩ v3).cell? ⟨x, k, none⟩ = some v := by
  rw [← hc]
  unfold World.cell?
  rw [Below.heap_setCell _ ⟨b, 3, none⟩ _ _ h, Below.heap_setCell _ ⟨b, 2, none⟩ _ _ h, Below.heap_setCell _ ⟨b, 1, none⟩ _ _ h, Below.heap_setCell _ ⟨b, 0, none⟩ _ _ h]
set_option maxHeartbeats 4000000 in
theorem copy_any (x : Nd) (w : World) (hx : w.heap[x.nb]? = some (.cells x.cells 102 (0, 0))) (h1 : x.ent.path.size ≤ 1048576) (h2 : x.ent.data.size ≤ 1048576) :
    Calls Tryz.prog 81 #[.pointer (some ⟨x.nb, 0, none⟩)] w fun ev w' => ev = .returned (.agg #[.string x.ent.path, .int .i64 x.ent.kind, .int .i64 x.ent.mode, .string x.ent.data]) ∧ Below w.heap.size w w' := by
  have hlt : x.nb < w.heap.size := (Array.getElem?_eq_some_iff.1 hx).1
  obtain ⟨W0, hW0⟩ : ∃ W0, W0 = w.alloc (.cells #[.string ⟨#[]⟩, .int .i64 0, .int .i64 0, .string ⟨#[]⟩] 56) := ⟨_, rfl⟩
  have hx0 : W0.heap[x.nb]? = some (.cells x.cells 102 (0, 0)) := by rw [hW0]; exact (Below.heap_alloc _ _ _ hlt).trans hx
  have hq0 : W0.heap[w.heap.size]? = some (.cells #[.string ⟨#[]⟩, .int .i64 0, .int .i64 0, .string ⟨#[]⟩] 56 (0, 0)) := by rw [hW0]; exact heap_alloc_new _ _
  have hb0 : Below w.heap.size w W0 := by rw [hW0]; exact (Below.refl _ _).alloc (Nat.le_refl _) _
  have x0 : W0.cell? ⟨x.nb, 0, none⟩ = some (.string x.ent.path) := cell_of_row _ _ 0 _ _ _ hx0
  have x1 : W0.cell? ⟨x.nb, 1, none⟩ = some (.int .i64 x.ent.kind) := cell_of_row _ _ 1 _ _ _ hx0
  have x2 : W0.cell? ⟨x.nb, 2, none⟩ = some (.int .i64 x.ent.mode) := cell_of_row _ _ 2 _ _ _ hx0
  have x3 : W0.cell? ⟨x.nb, 3, none⟩ = some (.string x.ent.data) := cell_of_row _ _ 3 _ _ _ hx0
  have HQ := hide hq0
  have hne : x.nb ≠ w.heap.size := by omega
  clear hx hx0 hq0
  go_enter Tryz.func81, Tryz.ntmps81
  go_upto_region 1 with fail
  rw [← hW0]
  clear hW0
  go_region_held3 (fun w' => w'.cell? ⟨x.nb, 0, none⟩ = some (.string x.ent.path) ∧ w'.cell? ⟨x.nb, 1, none⟩ = some (.int .i64 x.ent.kind) ∧ w'.cell? ⟨x.nb, 2, none⟩ = some (.int .i64 x.ent.mode) ∧ w'.cell? ⟨x.nb, 3, none⟩ = some (.string x.ent.data))
    (first | (with_reducible exact ⟨p0, p1, p2, p3⟩) | (with_reducible exact ⟨p0', p1', p2', p3'⟩) | (with_reducible exact ⟨set4 _ _ _ _ hne p0', set4 _ _ _ _ hne p1', set4 _ _ _ _ hne p2', set4 _ _ _ _ hne p3'⟩) | go_keep)
    (first
      | (go_at_call_of 122 (Value.string x.ent.path); refine (clone_any _ _ ?_).mono ?_; omega; rintro ev w1 ⟨rfl, hb1⟩; have p0 := cell_later (chain0 hb1) x0; have p1 := cell_later (chain0 hb1) x1; have p2 := cell_later (chain0 hb1) x2; have p3 := cell_later (chain0 hb1) x3)
      | (go_at_call_of 122 (Value.string x.ent.data); refine (clone_any _ _ ?_).mono ?_; omega; rintro ev w2 ⟨rfl, hb2⟩; have p0' := cell_later hb2 p0; have p1' := cell_later hb2 p1; have p2' := cell_later hb2 p2; have p3' := cell_later hb2 p3; have hq := keepC_below hb2 _ _ _ _ (keepC_below (chain0 hb1) _ _ _ _ (unhide HQ)); have q0 : w2.cell? ⟨w.heap.size, 0, none⟩ = some (.string ⟨#[]⟩) := cell_of_row _ _ 0 _ _ _ hq; have q1 : w2.cell? ⟨w.heap.size, 1, none⟩ = some (.int .i64 0) := cell_of_row _ _ 1 _ _ _ hq; have q2 : w2.cell? ⟨w.heap.size, 2, none⟩ = some (.int .i64 0) := cell_of_row _ _ 2 _ _ _ hq; have q3 : w2.cell? ⟨w.heap.size, 3, none⟩ = some (.string ⟨#[]⟩) := cell_of_row _ _ 3 _ _ _ hq; have f0 := frz hq 0; have f1 := frz hq 1; have f2 := frz hq 2; have f3 := frz hq 3; clear hq))
  go_wp2
  refine bodyPost_ret (v := .agg #[.string x.ent.path, .int .i64 x.ent.kind, .int .i64 x.ent.mode, .string x.ent.data]) (by simp [results, Tryz.results81, go_sem, q0, q1, q2, q3]) rfl ⟨rfl, ?_⟩
  have hB : Below w.heap.size w w2 := hb0.trans (((chain0 hb1).trans (hb2.mono (chain0 hb1).size)).mono hb0.size)
  exact (((hB.setCell (p := ⟨w.heap.size, 0, none⟩) (Nat.le_refl _) _).setCell (p := ⟨w.heap.size, 1, none⟩) (Nat.le_refl _) _).setCell (p := ⟨w.heap.size, 2, none⟩) (Nat.le_refl _) _).setCell (p := ⟨w.heap.size, 3, none⟩) (Nat.le_refl _) _
set_option maxHeartbeats 1000000 in
theorem mark_any (s : ByteArray) (k : Int) (w : World) (hs : s.size ≤ 1048576) : Calls Tryz.prog 83 #[.string s, .int .i64 k] w fun ev w' => ev = .returned (.agg #[.string s, .int .i64 k, .int .i64 0, .string ⟨#[]⟩]) ∧ Below w.heap.size w w' := by
  go_enter Tryz.func83, Tryz.ntmps83
  go_wp2_with (go_at_call 122; refine (clone_any s _ (by omega)).mono ?_; rintro ev w1 ⟨rfl, hb1⟩; have hq := new_cells hb1; have q0 : w1.cell? ⟨w.heap.size, 0, none⟩ = some (.string ⟨#[]⟩) := cell_of_row _ _ 0 _ _ _ hq; have q1 : w1.cell? ⟨w.heap.size, 1, none⟩ = some (.int .i64 0) := cell_of_row _ _ 1 _ _ _ hq; have q2 : w1.cell? ⟨w.heap.size, 2, none⟩ = some (.int .i64 0) := cell_of_row _ _ 2 _ _ _ hq; have q3 : w1.cell? ⟨w.heap.size, 3, none⟩ = some (.string ⟨#[]⟩) := cell_of_row _ _ 3 _ _ _ hq; have f0 := frz hq 0; have f1 := frz hq 1; have f2 := frz hq 2; have f3 := frz hq 3; clear hq)
  refine bodyPost_ret (v := .agg #[.string s, .int .i64 k, .int .i64 0, .string ⟨#[]⟩]) (by simp [results, Tryz.results83, go_sem, q0, q1, q2, q3]) rfl ⟨rfl, ?_⟩
  have hB : Below w.heap.size w w1 := ((Below.refl _ _).alloc (Nat.le_refl _) _).trans (hb1.mono (by simp))
  exact (((hB.setCell (p := ⟨w.heap.size, 0, none⟩) (Nat.le_refl _) _).setCell (p := ⟨w.heap.size, 1, none⟩) (Nat.le_refl _) _).setCell (p := ⟨w.heap.size, 2, none⟩) (Nat.le_refl _) _).setCell (p := ⟨w.heap.size, 3, none⟩) (Nat.le_refl _) _
end Go.Proofs.YtkeefkfklmhcjaaGreatDoor
