import Derived.Test.YtkeefkfklmhcjaaGreatDoorTreeP
import Derived.OwnWalk
import Derived.ArgAppend
import Derived.Laws.OwnMore
import Derived.Deep.AppendLies
import Derived.Test.YtkeefkfklmhcjaaGreatDoorJSumA
namespace Go.Proofs.YtkeefkfklmhcjaaGreatDoor
open Go.RowKit

theorem Tryz.info56 : (Tryz.prog.info? 56).map (fun i => (i.zero, i.size, i.bytes)) = some (some (.agg #[.string ByteArray.empty, .int .i64 0, .int .i64 0, .string ByteArray.empty]), 4, 48) := by kernel_rfl
def ec (e : Ent) : List Value := [.string e.path, .int .i64 e.kind, .int .i64 e.mode, .string e.data]
def entC (ks : List Ent) : List Value := (ks.map ec).flatten
/-- A row of entries that the call made. -/
def OwnE (w : World) (B : Nat) (v : Value) (ks : List Ent) : Prop := w.ownsRow B 56 4 v ks.length (entC ks)
theorem entC_len (ks : List Ent) : (entC ks).length = ks.length * 4 := by
  induction ks with
  | nil => rfl
  | cons k r ih => simp only [entC, List.map_cons, List.flatten_cons, List.length_append, ec] at ih ⊢; simp at ih ⊢; omega
theorem entC_get : ∀ {ks : List Ent} {k : Nat} {e : Ent}, ks[k]? = some e → (entC ks)[k * 4]? = some (.string e.path) ∧ (entC ks)[k * 4 + 1]? = some (.int .i64 e.kind) ∧ (entC ks)[k * 4 + 2]? = some (.int .i64 e.mode) ∧ (entC ks)[k * 4 + 3]? = some (.string e.data)
  | [], _, _, h => by simp at h
  | x :: r, 0, e, h => by
    simp at h; subst h
    simp [entC, ec]
  | x :: r, k + 1, e, h => by
    have h' : r[k]? = some e := by simpa using h
    have := entC_get h'
    have e1 : entC (x :: r) = ec x ++ entC r := by simp [entC]
    have e2 : (ec x).length = 4 := rfl
    rw [e1, show (k + 1) * 4 = 4 + k * 4 from by omega, show 4 + k * 4 + 1 = 4 + (k * 4 + 1) from by omega, show 4 + k * 4 + 2 = 4 + (k * 4 + 2) from by omega, show 4 + k * 4 + 3 = 4 + (k * 4 + 3) from by omega]
    rw [List.getElem?_append_right (by omega), List.getElem?_append_right (by omega), List.getElem?_append_right (by omega), List.getElem?_append_right (by omega)]
    simp only [e2, Nat.add_sub_cancel_left]
    exact this
theorem ownE_row {w : World} {B : Nat} {v : Value} {ks : List Ent} (h : OwnE w B v ks) : ∃ ao cap n, v = .slice ao n cap ∧ Hid (n = ks.length) ∧ ERow w ao ks ∧ n ≤ cap := by
  rcases h.2 with ⟨rfl, h0⟩ | ⟨g, cap, cur, rfl, hb, hg, hnc, _⟩
  · have : ks = [] := List.length_eq_zero_iff.1 h0
    subst this
    exact ⟨none, 0, 0, rfl, hide rfl, fun k e hk => by simp at hk, Nat.le_refl _⟩
  · refine ⟨some ⟨g, 0, none⟩, cap, ks.length, rfl, hide rfl, fun k e hk => ?_, hnc⟩
    have hk' : k < ks.length := (List.getElem?_eq_some_iff.1 hk).1
    obtain ⟨h1, h2, h3, h4⟩ := entC_get hk
    refine ⟨g, 0, rfl, ?_, ?_, ?_, ?_⟩
    · rw [Nat.zero_add, World.ownsRow.cellAt h _ (by omega), h1]
    · rw [Nat.zero_add, World.ownsRow.cellAt h _ (by omega), h2]
    · rw [Nat.zero_add, World.ownsRow.cellAt h _ (by omega), h3]
    · rw [Nat.zero_add, World.ownsRow.cellAt h _ (by omega), h4]
theorem kids_yes {es : List Ent} {k : Nat} {e : Ent} {p : List UInt8} (he : es[k]? = some e) (h : dirOf e.path.data.toList = p) : kidsE (es.take (k + 1)) p = kidsE (es.take k) p ++ [e] := by
  rw [kidsE, kidsE, List.take_add_one, he, List.filter_append]; simp [h]
theorem kids_not {es : List Ent} {k : Nat} {e : Ent} {p : List UInt8} (he : es[k]? = some e) (h : dirOf e.path.data.toList ≠ p) : kidsE (es.take (k + 1)) p = kidsE (es.take k) p := by
  rw [kidsE, kidsE, List.take_add_one, he, List.filter_append]; simp [h]

set_option maxHeartbeats 1000000 in
set_option maxRecDepth 100000 in
theorem children_any (ao : Option Addr) (cap n : Nat) (es : List Ent) (p : ByteArray) (w : World) (hr : ERow w ao es) (HN : Hid (n = es.length)) (hn : n ≤ 40) (HS : Hid (Small es)) (HP : Hid (∀ e ∈ es, e.path.data.toList ≠ [])) :
    Calls Tryz.prog 51 #[.slice ao n cap, .string p] w fun ev w' => ∃ ao' cap' n' ks, ev = .returned (.slice ao' n' cap') ∧ Hid (n' = ks.length) ∧ ERow w' ao' ks ∧ Hid (ks = kidsE es p.data.toList) ∧ Below w.heap.size w w' := by
  obtain ⟨i0, hi, hz0, hz1, hz2⟩ := info_parts Tryz.info56
  go_enter Tryz.func51, Tryz.ntmps51
  go_wp2
  go_loopw [5, 6] (fun v i wr => ∃ (k : Nat) (ks : List Ent), k ≤ n ∧ ks.length ≤ k ∧ i = .int .i64 k ∧ OwnE wr w.heap.size v ks ∧ Below w.heap.size w wr ∧ Hid (ks = kidsE (es.take k) p.data.toList)) (fun _ i _ => n - (intOf i).toNat)
  case atStart => exact ⟨0, [], by omega, by simp, rfl, World.ownsRow_nil _ _ _ _, Below.refl _ _, hide (by simp [kidsE])⟩
  case round =>
    obtain ⟨k, ks, hk, hkl, rfl, hown, hb, HK⟩ := hrel
    by_cases hlt : k < n
    · obtain ⟨e, he⟩ : ∃ e, es[k]? = some e := ⟨es[k]'(by have := unhide HN; omega), List.getElem?_eq_getElem (by have := unhide HN; omega)⟩
      obtain ⟨g, o, rfl, c0, c1, c2, c3⟩ := (hr.below hb) k e he
      have i1 : (0 : Int) ≤ (k : Int) := by omega
      have i2 : (k : Int) < (n : Int) := by omega
      have hs1 := (unhide HS e (List.mem_of_getElem? he)).1
      have HP0 := hide (unhide HP e (List.mem_of_getElem? he))
      have HE := hide he
      clear he
      go_upto_region 6 with (go_at_call 30; refine (up_any e.path _ (by omega) (unhide HP0)).mono ?_; rintro ev w4 ⟨dd, nn, rfl, HD, HNm, hb4⟩)
      have hB4 := hb.trans (hb4.mono hb.size)
      have hown4 : OwnE w4 w.heap.size u5 ks := World.ownsRow.kept (row := none) hown ⟨hb4.os, hb4.tape, hb4.output, hb4.size, fun k hk _ => hb4.block k hk⟩ (by cases u5.ownBlock <;> simp)
      have c0 := cell_later hb4 c0
      have c1 := cell_later hb4 c1
      have c2 := cell_later hb4 c2
      have c3 := cell_later hb4 c3
      by_cases hq : dd.data.toList = p.data.toList
      · have g1 : (dd.toList == p.toList) = true := by rw [Lib.toList_data, Lib.toList_data, hq]; simp
        have HQ : Hid (kidsE (es.take (k + 1)) p.data.toList = ks ++ [e]) := hide (by rw [kids_yes (unhide HE) ((unhide HD).symm.trans hq), unhide HK])
        clear hq hb4
        go_wp2_with (first | (at_builtin; refine wpList_append_own _ rfl _ _ 22 rfl w.heap.size 56 i0 _ 4 48 Tryz.underlying22 hi hz0 hz1 hz2 rfl (by decide) _ _ _ rfl (World.ownsRow.alloc hown4 _) ⟨w4.heap.size, 0, none⟩ 1 1 (ec e) rfl rfl (World.news_of_block (cs := #[.string e.path, .int .i64 e.kind, .int .i64 e.mode, .string e.data]) (t := 56) (fr := (0, 0)) (heap_alloc_new _ _)) (fun y hy => by simp [ec] at hy; rcases hy with rfl | rfl | rfl | rfl <;> rfl) (by unfold maxLen; omega) (by omega) (by have := hB4.size; simp; omega) ?_; intro v' w5 hown5 hgrow _))
        go_roundw
        case rel =>
          have R1 : OwnE w5 w.heap.size v' (ks ++ [e]) := by
            unfold OwnE
            rw [List.length_append, show entC (ks ++ [e]) = entC ks ++ ec e from by simp [entC]]
            exact hown5
          have R2 : Below w.heap.size w w5 := (hB4.alloc hB4.size _).grown hgrow (by have := hB4.size; simp; omega) (fun q hq => (World.ownsRow.lt hown4 q hq).1)
          first
            | exact ⟨k + 1, ks ++ [e], by omega, by simp; omega, by go_num, R1, R2, hide (unhide HQ).symm⟩
            | ((repeat apply Exists.intro); exact ⟨⟨k + 1, ks ++ [e], by omega, by simp; omega, by go_num, R1, R2, hide (unhide HQ).symm⟩, rfl⟩)
        case measure => simp [intOf]; omega
      · have g1 : (dd.toList == p.toList) = false := by rw [Lib.toList_data, Lib.toList_data]; simpa using hq
        have HQ : Hid (kidsE (es.take (k + 1)) p.data.toList = ks) := hide (by rw [kids_not (unhide HE) (fun e => hq ((unhide HD).trans e)), unhide HK])
        clear hq hb4
        go_wp2_with fail
        go_roundw
        case rel =>
          first
            | exact ⟨k + 1, ks, by omega, by omega, by go_num, hown4, hB4, hide (unhide HQ).symm⟩
            | ((repeat apply Exists.intro); exact ⟨⟨k + 1, ks, by omega, by omega, by go_num, hown4, hB4, hide (unhide HQ).symm⟩, rfl⟩)
        case measure => simp [intOf]; omega
    · obtain ⟨ao', cap', n', rfl, HN', hrow, _⟩ := ownE_row hown
      have HF : Hid (ks = kidsE es p.data.toList) := hide (by rw [unhide HK, List.take_of_length_le (by have := unhide HN; omega)])
      go_wp2_with fail
      go_ret
      exact ⟨ao', cap', n', ks, rfl, HN', hrow, HF, hb⟩
end Go.Proofs.YtkeefkfklmhcjaaGreatDoor

namespace Go.Proofs.YtkeefkfklmhcjaaGreatDoor
open Go.RowKit

end Go.Proofs.YtkeefkfklmhcjaaGreatDoor
