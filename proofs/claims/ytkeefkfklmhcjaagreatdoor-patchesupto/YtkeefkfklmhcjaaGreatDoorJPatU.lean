import Derived.Test.YtkeefkfklmhcjaaGreatDoorJChgD
import Derived.Test.YtkeefkfklmhcjaaGreatDoorChl
import Derived.Deep.Cut
import Derived.Deep.CutRange
import Derived.Test.YtkeefkfklmhcjaaGreatDoorPatT
namespace Go.Proofs.YtkeefkfklmhcjaaGreatDoor
open Go.RowKit

theorem blwB {p q : List UInt8} (hq : isP q = true) : blw q p = underB p q := by
  cases h : underB p q
  · cases h2 : blw q p
    · rfl
    · rw [underB_iff.2 ((blw_under hq).1 h2)] at h; cases h
  · exact (blw_under hq).2 (underB_iff.1 h)
theorem wo_yes {es : List Ent} {k : Nat} {e : Ent} {p : List UInt8} {self : Bool} (he : es[k]? = some e) (h : keepW p self e.path.data.toList = true) : wo (es.take (k + 1)) p self = wo (es.take k) p self ++ [e] := by
  rw [wo, wo, woG, woG, List.take_add_one, he, List.filter_append]; simp [Ent.q, h]
theorem wo_not {es : List Ent} {k : Nat} {e : Ent} {p : List UInt8} {self : Bool} (he : es[k]? = some e) (h : keepW p self e.path.data.toList = false) : wo (es.take (k + 1)) p self = wo (es.take k) p self := by
  rw [wo, wo, woG, woG, List.take_add_one, he, List.filter_append]; simp [Ent.q, h]

set_option maxHeartbeats 1000000 in
set_option maxRecDepth 100000 in
theorem without_any (ao : Option Addr) (cap n : Nat) (es : List Ent) (p : ByteArray) (self : Bool) (w : World) (hr : ERow w ao es) (HN : Hid (n = es.length)) (hn : n ≤ 1000) (hp : p.size ≤ 1048576) (HP : Hid (∀ e ∈ es, isP e.path.data.toList = true)) :
    Calls Tryz.prog 38 #[.slice ao n cap, .string p, .bool self] w fun ev w' => ∃ ao' cap' n', ev = .returned (.slice ao' n' cap') ∧ Hid (n' = (wo es p.data.toList self).length) ∧ ERow w' ao' (wo es p.data.toList self) ∧ n' ≤ cap' ∧ Below w.heap.size w w' := by
  obtain ⟨i0, hi, hz0, hz1, hz2⟩ := info_parts Tryz.info56
  go_enter Tryz.func38, Tryz.ntmps38
  go_wp2
  go_loopw [7, 8] (fun v i wr => ∃ (k : Nat) (ks : List Ent), k ≤ n ∧ ks.length ≤ k ∧ i = .int .i64 k ∧ OwnE wr w.heap.size v ks ∧ Below w.heap.size w wr ∧ Hid (ks = wo (es.take k) p.data.toList self)) (fun _ i _ => n - (intOf i).toNat)
  case atStart => exact ⟨0, [], by omega, by simp, rfl, World.ownsRow_nil _ _ _ _, Below.refl _ _, hide (by simp [wo, woG])⟩
  case round =>
    obtain ⟨k, ks, hk, hkl, rfl, hown, hb, HK⟩ := hrel
    by_cases hlt : k < n
    · obtain ⟨e, he⟩ : ∃ e, es[k]? = some e := ⟨es[k]'(by have := unhide HN; omega), List.getElem?_eq_getElem (by have := unhide HN; omega)⟩
      obtain ⟨g, o, rfl, c0, c1, c2, c3⟩ := (hr.below hb) k e he
      have i1 : (0 : Int) ≤ (k : Int) := by omega
      have i2 : (k : Int) < (n : Int) := by omega
      have HE := hide he
      have HKW : Hid (keepW p.data.toList self e.path.data.toList = !(blw e.path.data.toList p.data.toList || (self && e.path.data.toList == p.data.toList))) := hide (by rw [blwB (unhide HP e (List.mem_of_getElem? he))]; rfl)
      clear he
      go_upto_region 6 with (go_at_call 37; refine (refBelow_any e.path p _ (by omega)).mono ?_; rintro ev w4 ⟨rfl, hw⟩; obtain rfl := hw.symm)
      cases hbl : blw e.path.data.toList p.data.toList
      · cases self
        · have HQ : Hid (wo (es.take (k + 1)) p.data.toList false = ks ++ [e]) := hide (by rw [wo_yes (unhide HE) (by rw [unhide HKW, hbl]; rfl), unhide HK])
          go_wp2_with (first | (at_builtin; refine wpList_append_own _ rfl _ _ 22 rfl w.heap.size 56 i0 _ 4 48 Tryz.underlying22 hi hz0 hz1 hz2 rfl (by decide) _ _ _ rfl (World.ownsRow.alloc hown _) ⟨wr.heap.size, 0, none⟩ 1 1 (ec e) rfl rfl (World.news_of_block (cs := #[.string e.path, .int .i64 e.kind, .int .i64 e.mode, .string e.data]) (t := 56) (fr := (0, 0)) (heap_alloc_new _ _)) (fun y hy => by simp [ec] at hy; rcases hy with rfl | rfl | rfl | rfl <;> rfl) (by unfold maxLen; omega) (by omega) (by have := hb.size; simp; omega) ?_; intro v' w5 hown5 hgrow _))
          go_roundw
          case rel =>
            have R1 : OwnE w5 w.heap.size v' (ks ++ [e]) := by
              unfold OwnE
              rw [List.length_append, show entC (ks ++ [e]) = entC ks ++ ec e from by simp [entC]]
              exact hown5
            have R2 : Below w.heap.size w w5 := (hb.alloc hb.size _).grown hgrow (by have := hb.size; simp; omega) (fun q hq => (World.ownsRow.lt hown q hq).1)
            first
              | exact ⟨k + 1, ks ++ [e], by omega, by simp; omega, by go_num, R1, R2, hide (unhide HQ).symm⟩
              | ((repeat apply Exists.intro); exact ⟨⟨k + 1, ks ++ [e], by omega, by simp; omega, by go_num, R1, R2, hide (unhide HQ).symm⟩, rfl⟩)
          case measure => simp [intOf]; omega
        · by_cases hq : e.path.data.toList = p.data.toList
          · have g1 : (e.path.toList == p.toList) = true := by rw [Lib.toList_data, Lib.toList_data, hq]; simp
            have HQ : Hid (wo (es.take (k + 1)) p.data.toList true = ks) := hide (by rw [wo_not (unhide HE) (by rw [unhide HKW, hq]; simp), unhide HK])
            clear hq
            go_wp2_with fail
            go_roundw
            case rel =>
              first
                | exact ⟨k + 1, ks, by omega, by omega, by go_num, hown, hb, hide (unhide HQ).symm⟩
                | ((repeat apply Exists.intro); exact ⟨⟨k + 1, ks, by omega, by omega, by go_num, hown, hb, hide (unhide HQ).symm⟩, rfl⟩)
            case measure => simp [intOf]; omega
          · have g1 : (e.path.toList == p.toList) = false := by rw [Lib.toList_data, Lib.toList_data]; simpa using hq
            have HQ : Hid (wo (es.take (k + 1)) p.data.toList true = ks ++ [e]) := hide (by
              have h2 : (e.path.data.toList == p.data.toList) = false := by simpa using hq
              rw [wo_yes (unhide HE) (by rw [unhide HKW, hbl, h2]; rfl), unhide HK])
            clear hq
            go_wp2_with (first | (at_builtin; refine wpList_append_own _ rfl _ _ 22 rfl w.heap.size 56 i0 _ 4 48 Tryz.underlying22 hi hz0 hz1 hz2 rfl (by decide) _ _ _ rfl (World.ownsRow.alloc hown _) ⟨wr.heap.size, 0, none⟩ 1 1 (ec e) rfl rfl (World.news_of_block (cs := #[.string e.path, .int .i64 e.kind, .int .i64 e.mode, .string e.data]) (t := 56) (fr := (0, 0)) (heap_alloc_new _ _)) (fun y hy => by simp [ec] at hy; rcases hy with rfl | rfl | rfl | rfl <;> rfl) (by unfold maxLen; omega) (by omega) (by have := hb.size; simp; omega) ?_; intro v' w5 hown5 hgrow _))
            go_roundw
            case rel =>
              have R1 : OwnE w5 w.heap.size v' (ks ++ [e]) := by
                unfold OwnE
                rw [List.length_append, show entC (ks ++ [e]) = entC ks ++ ec e from by simp [entC]]
                exact hown5
              have R2 : Below w.heap.size w w5 := (hb.alloc hb.size _).grown hgrow (by have := hb.size; simp; omega) (fun q hq => (World.ownsRow.lt hown q hq).1)
              first
                | exact ⟨k + 1, ks ++ [e], by omega, by simp; omega, by go_num, R1, R2, hide (unhide HQ).symm⟩
                | ((repeat apply Exists.intro); exact ⟨⟨k + 1, ks ++ [e], by omega, by simp; omega, by go_num, R1, R2, hide (unhide HQ).symm⟩, rfl⟩)
            case measure => simp [intOf]; omega
      · have HQ : Hid (wo (es.take (k + 1)) p.data.toList self = ks) := hide (by rw [wo_not (unhide HE) (by rw [unhide HKW, hbl]; rfl), unhide HK])
        go_wp2_with fail
        go_roundw
        case rel =>
          first
            | exact ⟨k + 1, ks, by omega, by omega, by go_num, hown, hb, hide (unhide HQ).symm⟩
            | ((repeat apply Exists.intro); exact ⟨⟨k + 1, ks, by omega, by omega, by go_num, hown, hb, hide (unhide HQ).symm⟩, rfl⟩)
        case measure => simp [intOf]; omega
    · obtain ⟨ao', cap', n', rfl, HN', hrow, hnc⟩ := ownE_row hown
      have HF : Hid (ks = wo es p.data.toList self) := hide (by rw [unhide HK, List.take_of_length_le (by have := unhide HN; omega)])
      go_wp2_with fail
      go_ret
      exact ⟨ao', cap', n', rfl, hide (by rw [← unhide HF]; exact unhide HN'), (by rw [← unhide HF]; exact hrow), hnc, hb⟩
end Go.Proofs.YtkeefkfklmhcjaaGreatDoor

namespace Go.Proofs.YtkeefkfklmhcjaaGreatDoor
open Go.RowKit

/-- Is it a mark? -/
def mkF (c : Ent) : Bool := decide (c.kind = 4 ∨ c.kind = 5) && decide (c.mode = 0) && c.data.data.toList == []
theorem chOk_ref (c : Ent) : chOk c = (isP c.path.data.toList && (goodE c || mkF c) && (c.path.data.toList != [] || decide (c.kind = 5))) := by
  unfold chOk mkF entOk
  by_cases hk : c.kind = 4 ∨ c.kind = 5
  · have hg : goodE c = false := by
      cases h : goodE c
      · rfl
      · have := good_kind h; omega
    rw [if_pos hk, hg]
    cases c.path.data.toList with
    | nil =>
      rcases hk with h | h
      · simp [h]
      · simp [h, Bool.and_assoc]
    | cons a l =>
      have e : (a :: l != []) = true := rfl
      simp [hk, e, Bool.and_assoc]
  · rw [if_neg hk]
    have h5 : c.kind ≠ 5 := fun h => hk (.inr h)
    cases c.path.data.toList with
    | nil => simp [h5]
    | cons a l =>
      have e : (a :: l != []) = true := rfl
      simp [hk, e]
theorem isE (s : ByteArray) : s.toList.isEmpty = (s.data.toList == []) := by rw [Lib.toList_data]; cases s.data.toList <;> rfl
theorem cmpT_eq {x y : List (List UInt8)} (h : cmpT x y = 0) : x = y := by
  unfold cmpT at h
  split at h
  · omega
  · split at h
    · assumption
    · omega
theorem cmpT_same (x : List (List UInt8)) : cmpT x x = 0 := by
  unfold cmpT
  rw [ltL_irr]; simp
theorem chain9 {w w1 : World} (h : Below w.heap.size w w1) : Below w.heap.size w w1.drew := ⟨h.os, h.tape, h.output, h.size, h.block⟩
attribute [local go_sem] setCell_drewN alloc_drewN

set_option maxHeartbeats 4000000 in
set_option maxRecDepth 100000 in
theorem barred_any (ao : Option Addr) (cap n : Nat) (cs : List Ent) (w : World) (hr : ERow w ao cs) (HN : Hid (n = cs.length)) (hn : n ≤ 4294967280) (hcap : n ≤ cap) (HS : Hid (Small cs)) :
    Calls Tryz.prog 16 #[.slice ao n cap] w fun ev w' => ∃ r : Int, ev = .returned (.int .i64 r) ∧ Hid (FirstBadC cs r) ∧ Below w.heap.size w w' := by
  go_enter Tryz.func16, Tryz.ntmps16
  go_wp2
  go_loopw [3] (fun i wr => ∃ k : Nat, k ≤ n ∧ i = .int .i64 k ∧ Below w.heap.size w wr ∧ Hid (∀ j, j < k → okCh cs j = true)) (fun i _ => n - (intOf i).toNat)
  case atStart => exact ⟨0, by omega, rfl, Below.refl _ _, hide (by intro j hj; omega)⟩
  case round =>
    obtain ⟨k, hk, rfl, hb, HK⟩ := hrel
    by_cases hlt : k < n
    · obtain ⟨c, he⟩ : ∃ c, cs[k]? = some c := ⟨cs[k]'(by have := unhide HN; omega), List.getElem?_eq_getElem (by have := unhide HN; omega)⟩
      obtain ⟨g, o, rfl, c0, c1, c2, c3⟩ := (hr.below hb) k c he
      have i0 : (0 : Int) ≤ (k : Int) := by omega
      have i1 : (k : Int) < (n : Int) := by omega
      have ikc : (0 : Int) ≤ (k : Int) ∧ (k : Int) ≤ (cap : Int) := by omega
      have hsz := unhide HS c (List.mem_of_getElem? he)
      have hs1 := hsz.1
      have hs2 := hsz.2
      have k80 := allCh_lt (unhide HK)
      have HE := hide he
      have HLen : Hid (k < cs.length) := hide (by have := unhide HN; omega)
      obtain ⟨W0, hW0⟩ : ∃ W0, W0 = wr.alloc (.cells #[.string c.path, .int .i64 c.kind, .int .i64 c.mode, .string c.data] 39) := ⟨_, rfl⟩
      have hB0w : Below wr.heap.size wr W0 := by rw [hW0]; exact (Below.refl _ _).alloc (Nat.le_refl _) _
      have hB0 := hb.trans (hB0w.mono hb.size)
      have q0 : W0.cell? ⟨wr.heap.size, 0, none⟩ = some (.string c.path) := by rw [hW0]; exact cell_of_row _ _ 0 _ _ _ (heap_alloc_new _ _)
      have q1 : W0.cell? ⟨wr.heap.size, 1, none⟩ = some (.int .i64 c.kind) := by rw [hW0]; exact cell_of_row _ _ 1 _ _ _ (heap_alloc_new _ _)
      have q2 : W0.cell? ⟨wr.heap.size, 2, none⟩ = some (.int .i64 c.mode) := by rw [hW0]; exact cell_of_row _ _ 2 _ _ _ (heap_alloc_new _ _)
      have q3 : W0.cell? ⟨wr.heap.size, 3, none⟩ = some (.string c.data) := by rw [hW0]; exact cell_of_row _ _ 3 _ _ _ (heap_alloc_new _ _)
      clear he hsz
      go_upto_region 5 with fail
      rw [← hW0]
      obtain ⟨cb, hcb⟩ : ∃ cb, cb = wr.heap.size := ⟨_, rfl⟩
      rw [← hcb] at q0 q1 q2 q3 ⊢
      clear hW0 c0 c1 c2 c3 hB0w hcb
      go_upto_region 6 with (go_at_call 27; refine (isPath_any c.path _ (by omega)).mono ?_; rintro ev w1 ⟨rfl, hb1⟩)
      have hB1 := hB0.trans (hb1.mono hB0.size)
      have q0 := cell_later hb1 q0
      have q1 := cell_later hb1 q1
      have q2 := cell_later hb1 q2
      have q3 := cell_later hb1 q3
      clear hb1
      go_upto_region 7 with (go_at_call 28; refine (good_any c (by omega) _).mono ?_; rintro ev w2 ⟨rfl, hb2⟩)
      have hB2 := hB1.trans (hb2.mono hB1.size)
      have q0 := cell_later hb2 q0
      have q1 := cell_later hb2 q1
      have q2 := cell_later hb2 q2
      have q3 := cell_later hb2 q3
      clear hb2
      go_cut [7] from 12 to 134 (fun v wx => v = .bool (mkF c) ∧ wx = w2)
      case first =>
        by_cases h4 : c.kind = 4
        · by_cases h0 : c.mode = 0
          · have R : Hid (mkF c = c.data.toList.isEmpty) := hide (by rw [mkF, isE]; simp [h4, h0])
            rw [h4] at q1
            rw [h0] at q2
            go_wp2_with fail
            go_meet
            exact ⟨congrArg Value.bool (unhide R).symm, rfl⟩
          · have R : Hid (mkF c = false) := hide (by rw [mkF]; simp [h0])
            have h0' : (c.mode == 0) = false := by simp [h0]
            rw [h4] at q1
            go_wp2_with fail
            go_meet
            exact ⟨congrArg Value.bool (unhide R).symm, rfl⟩
        · have h4' : (c.kind == 4) = false := by simp [h4]
          by_cases h5 : c.kind = 5
          · by_cases h0 : c.mode = 0
            · have R : Hid (mkF c = c.data.toList.isEmpty) := hide (by rw [mkF, isE]; simp [h5, h0])
              rw [h5] at q1
              rw [h0] at q2
              go_wp2_with fail
              go_meet
              exact ⟨congrArg Value.bool (unhide R).symm, rfl⟩
            · have R : Hid (mkF c = false) := hide (by rw [mkF]; simp [h0])
              have h0' : (c.mode == 0) = false := by simp [h0]
              rw [h5] at q1
              go_wp2_with fail
              go_meet
              exact ⟨congrArg Value.bool (unhide R).symm, rfl⟩
          · have R : Hid (mkF c = false) := hide (by rw [mkF]; simp [h4, h5])
            have h5' : (c.kind == 5) = false := by simp [h5]
            go_wp2_with fail
            go_meet
            exact ⟨congrArg Value.bool (unhide R).symm, rfl⟩
      case rest =>
        obtain ⟨rfl, rfl⟩ := hcut
        go_upto_region 8 with fail
        obtain ⟨bP, hbP⟩ : ∃ b, b = isP c.path.data.toList := ⟨_, rfl⟩
        obtain ⟨bG, hbG⟩ : ∃ b, b = goodE c := ⟨_, rfl⟩
        obtain ⟨bK, hbK⟩ : ∃ b, b = mkF c := ⟨_, rfl⟩
        rw [← hbP, ← hbG, ← hbK]
        have HbP := hide hbP
        have HbG := hide hbG
        have HbK := hide hbK
        clear hbP hbG hbK
        go_cut [68] from 12 to 134 (fun v wx => v = .bool (!(decide (k < 80) && chOk c)) ∧ wx = wc)
        case first =>
          by_cases k4 : k = 80
          · have k5 : (k : Int) = 80 := by omega
            have R : Hid ((!(decide (k < 80) && chOk c)) = true) := hide (by rw [k4]; rfl)
            clear k4
            go_wp2_with fail
            go_meet
            exact ⟨congrArg Value.bool (unhide R).symm, rfl⟩
          · have k5 : ((k : Int) == 80) = false := by simp; omega
            have k6 : ¬ (k : Int) = 80 := by omega
            have R0 : Hid ((!(decide (k < 80) && chOk c)) = !(isP c.path.data.toList && (goodE c || mkF c) && (c.path.data.toList != [] || decide (c.kind = 5)))) := hide (by rw [chOk_ref, show decide (k < 80) = true from decide_eq_true (by omega), Bool.true_and])
            cases bP
            · have R : Hid ((!(decide (k < 80) && chOk c)) = true) := hide (by rw [unhide R0, ← unhide HbP]; rfl)
              go_wp2_with fail
              go_meet
              exact ⟨congrArg Value.bool (unhide R).symm, rfl⟩
            · cases bG
              · cases bK
                · have R : Hid ((!(decide (k < 80) && chOk c)) = true) := hide (by rw [unhide R0, ← unhide HbP, ← unhide HbG, ← unhide HbK]; rfl)
                  go_wp2_with fail
                  go_meet
                  exact ⟨congrArg Value.bool (unhide R).symm, rfl⟩
                · have R1 : Hid ((!(decide (k < 80) && chOk c)) = !(c.path.data.toList != [] || decide (c.kind = 5))) := hide (by rw [unhide R0, ← unhide HbP, ← unhide HbG, ← unhide HbK]; rfl)
                  by_cases p0 : c.path.data.toList = []
                  · have g1 : c.path.toList.isEmpty = true := by rw [Lib.toList_data, p0]; rfl
                    have R : Hid ((!(decide (k < 80) && chOk c)) = (c.kind != 5)) := hide (by
                      rw [unhide R1, p0]
                      by_cases h : c.kind = 5 <;> simp [h])
                    clear p0
                    go_wp2_with fail
                    go_meet
                    exact ⟨congrArg Value.bool (unhide R).symm, rfl⟩
                  · have g1 : c.path.toList.isEmpty = false := by rw [Lib.toList_data]; simpa using p0
                    have R : Hid ((!(decide (k < 80) && chOk c)) = false) := hide (by
                      have e : (c.path.data.toList != []) = true := by simpa using p0
                      rw [unhide R1, e]; rfl)
                    clear p0
                    go_wp2_with fail
                    go_meet
                    exact ⟨congrArg Value.bool (unhide R).symm, rfl⟩
              · have R1 : Hid ((!(decide (k < 80) && chOk c)) = !(c.path.data.toList != [] || decide (c.kind = 5))) := hide (by rw [unhide R0, ← unhide HbP, ← unhide HbG]; rfl)
                by_cases p0 : c.path.data.toList = []
                · have g1 : c.path.toList.isEmpty = true := by rw [Lib.toList_data, p0]; rfl
                  have R : Hid ((!(decide (k < 80) && chOk c)) = (c.kind != 5)) := hide (by
                    rw [unhide R1, p0]
                    by_cases h : c.kind = 5 <;> simp [h])
                  clear p0
                  go_wp2_with fail
                  go_meet
                  exact ⟨congrArg Value.bool (unhide R).symm, rfl⟩
                · have g1 : c.path.toList.isEmpty = false := by rw [Lib.toList_data]; simpa using p0
                  have R : Hid ((!(decide (k < 80) && chOk c)) = false) := hide (by
                    have e : (c.path.data.toList != []) = true := by simpa using p0
                    rw [unhide R1, e]; rfl)
                  clear p0
                  go_wp2_with fail
                  go_meet
                  exact ⟨congrArg Value.bool (unhide R).symm, rfl⟩
        case rest =>
          obtain ⟨rfl, hw8⟩ := hcut
          obtain rfl := hw8.symm
          have HO := hide (okCh_eq (unhide HE))
          cases hBad : (decide (k < 80) && chOk c)
          · have C : Hid (okCh cs k = false) := hide (by rw [unhide HO, hBad]; rfl)
            clear HO
            go_wp2_with fail
            go_ret
            exact ⟨k, rfl, hide (.inr ⟨k, rfl, unhide HLen, unhide C, unhide HK⟩), hB2⟩
          · have HBd := hide hBad
            clear hBad
            by_cases kz : k = 0
            · subst kz
              have HRC : Hid (refCh cs 0 c = true) := hide (by rw [refCh, unhide HBd]; rfl)
              have hB3 := hB2
              have X0 := hide q0
              clear HO
              go_wp2_with fail
              go_loopw [10] (fun v wi => ∃ j : Nat, j ≤ 0 ∧ v = .int .i64 j ∧ Below wc.heap.size wc wi ∧ Hid (∀ q d, q < j → cs[q]? = some d → blw c.path.data.toList d.path.data.toList = true → d.kind = 1 ∨ d.kind = 5)) (fun v _ => 0 - (intOf v).toNat)
              case atStart => exact ⟨0, by omega, rfl, Below.refl _ _, hide (by intro q d hq; omega)⟩
              case round =>
                obtain ⟨j, hj, rfl, hbi, HJ⟩ := hrel
                have hBi := hB3.trans (hbi.mono hB3.size)
                by_cases hjk : j < 0
                · exact absurd hjk (by omega)
                · have C : Hid (okCh cs 0 = true) := hide ((last_tells (unhide HK) (unhide HE) (unhide HRC)).2 fun q d hq hd hb => unhide HJ q d (by omega) hd hb)
                  go_wp2_with fail
                  go_roundw
                  case rel =>
                    have R : ∀ j, j < 0 + 1 → okCh cs j = true := fun j hj => by
                      rcases Nat.lt_or_ge j 0 with h | h
                      · exact unhide HK j h
                      · have e9 : j = 0 := by omega
                        rw [e9]; exact unhide C
                    first
                      | exact ⟨0 + 1, by omega, by go_num, hBi, hide R⟩
                      | ((repeat apply Exists.intro); exact ⟨⟨0 + 1, by omega, by go_num, hBi, hide R⟩, rfl⟩)
                  case measure => simp [intOf]; omega
            · obtain ⟨q, hq⟩ : ∃ q, q + 1 = k := ⟨k - 1, by omega⟩
              obtain ⟨d, hd⟩ : ∃ d, cs[q]? = some d := ⟨cs[q]'(by have := unhide HN; omega), List.getElem?_eq_getElem (by have := unhide HN; omega)⟩
              obtain ⟨g', o', hgo, d0, d1, _⟩ := (hr.below hB2) q d hd
              cases hgo
              have hsd := (unhide HS d (List.mem_of_getElem? hd)).1
              have hw : IntKind.i64.wrap ((k : Int) - 1) = (q : Int) := by rw [show (k : Int) - 1 = (q : Int) from by omega]; exact wrap_i64 _ (by omega)
              have p0 : (0 : Int) ≤ (q : Int) := by omega
              have p1 : (q : Int) < (n : Int) := by omega
              have p2 : (0 : Int) < (k : Int) := by omega
              have HO2 : Hid (okCh cs k = flw d c) := hide (by
                rw [unhide HO, unhide HBd, show k - 1 = q from by omega, hd]
                simp [kz])
              have HR0 : Hid (refCh cs k c = (ltP d.path.data.toList c.path.data.toList || (d.path.data.toList == c.path.data.toList && decide (d.kind = 1) && decide (c.kind = 5)))) := hide (by
                rw [refCh, unhide HBd, show k - 1 = q from by omega, hd]
                simp [kz])
              clear hd HO hq
              go_upto_region 11 with fail
              go_region_held3 (fun w' => w'.cell? ⟨g, o + q * 4, none⟩ = some (.string d.path) ∧ w'.cell? ⟨cb, 0, none⟩ = some (.string c.path)) (first | exact ⟨d0, q0⟩ | exact ⟨cell_later (chain0 hb3) d0, cell_later (chain0 hb3) q0⟩ | go_keep)
                (first | (go_at_call 29; refine (order_any d.path c.path _ ?_ ?_).mono ?_; omega; omega; rintro ev w3 ⟨r, rfl, hrl, hre, hb3⟩))
              have hB3 := hB2.trans (Below.mono (B' := w.heap.size) (chain0 hb3) hB2.size)
              have d1 := cell_later (chain0 hb3) d1
              have X0 := hide (cell_later (chain0 hb3) q0)
              have q1 := cell_later (chain0 hb3) q1
              have HRl := hide hrl
              have HRe : Hid (r = 0 ↔ d.path.data.toList = c.path.data.toList) := hide (hre.trans ⟨fun h => prt_inj (cmpT_eq h), fun h => by rw [h]; exact cmpT_same _⟩)
              clear hrl hre hb3 q0 d0 q2 q3
              go_upto_region 12 with fail
              go_cut [9] from 12 to 134 (fun v wx => v = .bool (decide (r = 0) && decide (d.kind = 1) && decide (c.kind = 5)) ∧ wx = w3)
              case first =>
                by_cases r0 : r = 0
                · have r1 : (r == 0) = true := by simp [r0]
                  by_cases h1 : d.kind = 1
                  · have R : Hid ((decide (r = 0) && decide (d.kind = 1) && decide (c.kind = 5)) = (c.kind == 5)) := hide (by
                      rw [decide_eq_true r0, decide_eq_true h1]
                      by_cases h5 : c.kind = 5 <;> simp [h5])
                    have h1' : (d.kind == 1) = true := by simp [h1]
                    clear r0 h1
                    go_wp2_with fail
                    go_meet
                    exact ⟨congrArg Value.bool (unhide R).symm, rfl⟩
                  · have R : Hid ((decide (r = 0) && decide (d.kind = 1) && decide (c.kind = 5)) = false) := hide (by simp [h1])
                    have h1' : (d.kind == 1) = false := by simp [h1]
                    clear r0
                    go_wp2_with fail
                    go_meet
                    exact ⟨congrArg Value.bool (unhide R).symm, rfl⟩
                · have R : Hid ((decide (r = 0) && decide (d.kind = 1) && decide (c.kind = 5)) = false) := hide (by simp [r0])
                  have r1 : (r == 0) = false := by simp [r0]
                  go_wp2_with fail
                  go_meet
                  exact ⟨congrArg Value.bool (unhide R).symm, rfl⟩
              case rest =>
                obtain ⟨rfl, hw9⟩ := hcut
                obtain rfl := hw9.symm
                obtain ⟨tw, htw⟩ : ∃ tw, tw = (decide (r = 0) && decide (d.kind = 1) && decide (c.kind = 5)) := ⟨_, rfl⟩
                rw [← htw]
                have HTw := hide htw
                clear htw
                by_cases rn : r < 0
                · have HRC : Hid (refCh cs k c = true) := hide (by rw [unhide HR0, show ltP d.path.data.toList c.path.data.toList = true from (unhide HRl).1 rn]; rfl)
                  have rn2 : ¬ 0 ≤ r := by omega
                  clear HTw
                  go_wp2_with fail
                  go_loopw [10] (fun v wi => ∃ j : Nat, j ≤ k ∧ v = .int .i64 j ∧ Below w3.heap.size w3 wi ∧ Hid (∀ q d, q < j → cs[q]? = some d → blw c.path.data.toList d.path.data.toList = true → d.kind = 1 ∨ d.kind = 5)) (fun v _ => k - (intOf v).toNat)
                  case atStart => exact ⟨0, by omega, rfl, Below.refl _ _, hide (by intro q d hq; omega)⟩
                  case round =>
                    obtain ⟨j, hj, rfl, hbi, HJ⟩ := hrel
                    have hBi := hB3.trans (hbi.mono hB3.size)
                    by_cases hjk : j < k
                    · obtain ⟨d, hd⟩ : ∃ d, cs[j]? = some d := ⟨cs[j]'(by have := unhide HLen; omega), List.getElem?_eq_getElem (by have := unhide HLen; omega)⟩
                      obtain ⟨g', o', hgo, d0, d1, _⟩ := (hr.below hBi) j d hd
                      cases hgo
                      have hsd := (unhide HS d (List.mem_of_getElem? hd)).1
                      have HD := hide hd
                      have b0 := cell_later hbi (unhide X0)
                      have j0 : (0 : Int) ≤ (j : Int) := by omega
                      have j1 : (j : Int) < (n : Int) := by omega
                      have j2 : (j : Int) < ((k : Nat) : Int) := by omega
                      clear hd
                      go_upto_region 18 with fail
                      go_region_held3 (fun w' => w'.cell? ⟨g, o + j * 4, none⟩ = some (.string d.path) ∧ w'.cell? ⟨g, o + j * 4 + 1, none⟩ = some (.int .i64 d.kind) ∧ w'.cell? ⟨cb, 0, none⟩ = some (.string c.path)) (first | exact ⟨d0, d1, b0⟩ | go_keep)
                        (first | (go_at_call 37; refine (refBelow_any c.path d.path _ (by omega)).mono ?_; rintro ev w7 ⟨rfl, hw⟩; obtain rfl := hw.symm))
                      cases hbl : blw c.path.data.toList d.path.data.toList
                      · have HJ2 : Hid (∀ q d, q < j + 1 → cs[q]? = some d → blw c.path.data.toList d.path.data.toList = true → d.kind = 1 ∨ d.kind = 5) := hide (fun q e hq he hb => by
                          rcases Nat.lt_or_ge q j with h | h
                          · exact unhide HJ q e h he hb
                          · have e9 : q = j := by omega
                            rw [e9, unhide HD] at he; cases he
                            rw [hbl] at hb; cases hb)
                        clear hbl
                        go_wp2_with fail
                        go_roundw
                        case rel =>
                          first
                            | exact ⟨j + 1, by omega, by go_num, chain9 hbi, HJ2⟩
                            | ((repeat apply Exists.intro); exact ⟨⟨j + 1, by omega, by go_num, chain9 hbi, HJ2⟩, rfl⟩)
                        case measure => simp [intOf]; omega
                      · by_cases hk15 : d.kind = 1 ∨ d.kind = 5
                        · have HJ2 : Hid (∀ q d, q < j + 1 → cs[q]? = some d → blw c.path.data.toList d.path.data.toList = true → d.kind = 1 ∨ d.kind = 5) := hide (fun q e hq he hb => by
                            rcases Nat.lt_or_ge q j with h | h
                            · exact unhide HJ q e h he hb
                            · have e9 : q = j := by omega
                              rw [e9, unhide HD] at he; cases he
                              exact hk15)
                          clear hbl
                          rcases hk15 with h1 | h5
                          · rw [h1] at d1
                            go_wp2_with fail
                            go_roundw
                            case rel =>
                              first
                                | exact ⟨j + 1, by omega, by go_num, chain9 hbi, HJ2⟩
                                | ((repeat apply Exists.intro); exact ⟨⟨j + 1, by omega, by go_num, chain9 hbi, HJ2⟩, rfl⟩)
                            case measure => simp [intOf]; omega
                          · rw [h5] at d1
                            go_wp2_with fail
                            go_roundw
                            case rel =>
                              first
                                | exact ⟨j + 1, by omega, by go_num, chain9 hbi, HJ2⟩
                                | ((repeat apply Exists.intro); exact ⟨⟨j + 1, by omega, by go_num, chain9 hbi, HJ2⟩, rfl⟩)
                            case measure => simp [intOf]; omega
                        · have h1 : ¬ d.kind = 1 := fun h => hk15 (.inl h)
                          have h5 : ¬ d.kind = 5 := fun h => hk15 (.inr h)
                          have h1' : (d.kind == 1) = false := by simp [h1]
                          have h5' : (d.kind == 5) = false := by simp [h5]
                          have h1n : (d.kind != 1) = true := by simp [h1]
                          have h5n : (d.kind != 5) = true := by simp [h5]
                          have C : Hid (okCh cs k = false) := hide (by
                            cases h : okCh cs k
                            · rfl
                            · exact absurd ((last_tells (unhide HK) (unhide HE) (unhide HRC)).1 h j d hjk (unhide HD) hbl) hk15)
                          clear hbl hk15
                          go_wp2_with fail
                          go_ret
                          exact ⟨_, rfl, hide (.inr ⟨k, rfl, unhide HLen, unhide C, unhide HK⟩), hB3.trans (Below.mono (B' := w.heap.size) (chain9 hbi) hB3.size)⟩
                    · have C : Hid (okCh cs k = true) := hide ((last_tells (unhide HK) (unhide HE) (unhide HRC)).2 fun q d hq hd hb => unhide HJ q d (by omega) hd hb)
                      go_wp2_with fail
                      go_roundw
                      case rel =>
                        have R : ∀ j, j < k + 1 → okCh cs j = true := fun j hj => by
                          rcases Nat.lt_or_ge j k with h | h
                          · exact unhide HK j h
                          · have e9 : j = k := by omega
                            rw [e9]; exact unhide C
                        first
                          | exact ⟨k + 1, by omega, by go_num, hBi, hide R⟩
                          | ((repeat apply Exists.intro); exact ⟨⟨k + 1, by omega, by go_num, hBi, hide R⟩, rfl⟩)
                      case measure => simp [intOf]; omega
                · have rn2 : 0 ≤ r := by omega
                  have hlt0 : ltP d.path.data.toList c.path.data.toList = false := by
                    cases h : ltP d.path.data.toList c.path.data.toList
                    · rfl
                    · exact absurd ((unhide HRl).2 h) rn
                  cases tw
                  · have C : Hid (okCh cs k = false) := hide (by
                      rw [unhide HO2, flw]
                      split
                      · next e =>
                        have e2 := unhide HTw
                        rw [decide_eq_true ((unhide HRe).2 e), Bool.true_and] at e2
                        exact e2.symm
                      · rw [hlt0]; rfl)
                    clear hlt0
                    go_wp2_with fail
                    go_ret
                    exact ⟨_, rfl, hide (.inr ⟨k, rfl, unhide HLen, unhide C, unhide HK⟩), hB3⟩
                  · have HRC : Hid (refCh cs k c = true) := hide (by
                      have e2 := (unhide HTw).symm
                      simp only [Bool.and_eq_true, decide_eq_true_eq] at e2
                      rw [unhide HR0, (unhide HRe).1 e2.1.1]
                      simp [e2.1.2, e2.2])
                    clear hlt0
                    go_wp2_with fail
                    go_loopw [10] (fun v wi => ∃ j : Nat, j ≤ k ∧ v = .int .i64 j ∧ Below w3.heap.size w3 wi ∧ Hid (∀ q d, q < j → cs[q]? = some d → blw c.path.data.toList d.path.data.toList = true → d.kind = 1 ∨ d.kind = 5)) (fun v _ => k - (intOf v).toNat)
                    case atStart => exact ⟨0, by omega, rfl, Below.refl _ _, hide (by intro q d hq; omega)⟩
                    case round =>
                      obtain ⟨j, hj, rfl, hbi, HJ⟩ := hrel
                      have hBi := hB3.trans (hbi.mono hB3.size)
                      by_cases hjk : j < k
                      · obtain ⟨d, hd⟩ : ∃ d, cs[j]? = some d := ⟨cs[j]'(by have := unhide HLen; omega), List.getElem?_eq_getElem (by have := unhide HLen; omega)⟩
                        obtain ⟨g', o', hgo, d0, d1, _⟩ := (hr.below hBi) j d hd
                        cases hgo
                        have hsd := (unhide HS d (List.mem_of_getElem? hd)).1
                        have HD := hide hd
                        have b0 := cell_later hbi (unhide X0)
                        have j0 : (0 : Int) ≤ (j : Int) := by omega
                        have j1 : (j : Int) < (n : Int) := by omega
                        have j2 : (j : Int) < ((k : Nat) : Int) := by omega
                        clear hd
                        go_upto_region 18 with fail
                        go_region_held3 (fun w' => w'.cell? ⟨g, o + j * 4, none⟩ = some (.string d.path) ∧ w'.cell? ⟨g, o + j * 4 + 1, none⟩ = some (.int .i64 d.kind) ∧ w'.cell? ⟨cb, 0, none⟩ = some (.string c.path)) (first | exact ⟨d0, d1, b0⟩ | go_keep)
                          (first | (go_at_call 37; refine (refBelow_any c.path d.path _ (by omega)).mono ?_; rintro ev w7 ⟨rfl, hw⟩; obtain rfl := hw.symm))
                        cases hbl : blw c.path.data.toList d.path.data.toList
                        · have HJ2 : Hid (∀ q d, q < j + 1 → cs[q]? = some d → blw c.path.data.toList d.path.data.toList = true → d.kind = 1 ∨ d.kind = 5) := hide (fun q e hq he hb => by
                            rcases Nat.lt_or_ge q j with h | h
                            · exact unhide HJ q e h he hb
                            · have e9 : q = j := by omega
                              rw [e9, unhide HD] at he; cases he
                              rw [hbl] at hb; cases hb)
                          clear hbl
                          go_wp2_with fail
                          go_roundw
                          case rel =>
                            first
                              | exact ⟨j + 1, by omega, by go_num, chain9 hbi, HJ2⟩
                              | ((repeat apply Exists.intro); exact ⟨⟨j + 1, by omega, by go_num, chain9 hbi, HJ2⟩, rfl⟩)
                          case measure => simp [intOf]; omega
                        · by_cases hk15 : d.kind = 1 ∨ d.kind = 5
                          · have HJ2 : Hid (∀ q d, q < j + 1 → cs[q]? = some d → blw c.path.data.toList d.path.data.toList = true → d.kind = 1 ∨ d.kind = 5) := hide (fun q e hq he hb => by
                              rcases Nat.lt_or_ge q j with h | h
                              · exact unhide HJ q e h he hb
                              · have e9 : q = j := by omega
                                rw [e9, unhide HD] at he; cases he
                                exact hk15)
                            clear hbl
                            rcases hk15 with h1 | h5
                            · rw [h1] at d1
                              go_wp2_with fail
                              go_roundw
                              case rel =>
                                first
                                  | exact ⟨j + 1, by omega, by go_num, chain9 hbi, HJ2⟩
                                  | ((repeat apply Exists.intro); exact ⟨⟨j + 1, by omega, by go_num, chain9 hbi, HJ2⟩, rfl⟩)
                              case measure => simp [intOf]; omega
                            · rw [h5] at d1
                              go_wp2_with fail
                              go_roundw
                              case rel =>
                                first
                                  | exact ⟨j + 1, by omega, by go_num, chain9 hbi, HJ2⟩
                                  | ((repeat apply Exists.intro); exact ⟨⟨j + 1, by omega, by go_num, chain9 hbi, HJ2⟩, rfl⟩)
                              case measure => simp [intOf]; omega
                          · have h1 : ¬ d.kind = 1 := fun h => hk15 (.inl h)
                            have h5 : ¬ d.kind = 5 := fun h => hk15 (.inr h)
                            have h1' : (d.kind == 1) = false := by simp [h1]
                            have h5' : (d.kind == 5) = false := by simp [h5]
                            have h1n : (d.kind != 1) = true := by simp [h1]
                            have h5n : (d.kind != 5) = true := by simp [h5]
                            have C : Hid (okCh cs k = false) := hide (by
                              cases h : okCh cs k
                              · rfl
                              · exact absurd ((last_tells (unhide HK) (unhide HE) (unhide HRC)).1 h j d hjk (unhide HD) hbl) hk15)
                            clear hbl hk15
                            go_wp2_with fail
                            go_ret
                            exact ⟨_, rfl, hide (.inr ⟨k, rfl, unhide HLen, unhide C, unhide HK⟩), hB3.trans (Below.mono (B' := w.heap.size) (chain9 hbi) hB3.size)⟩
                      · have C : Hid (okCh cs k = true) := hide ((last_tells (unhide HK) (unhide HE) (unhide HRC)).2 fun q d hq hd hb => unhide HJ q d (by omega) hd hb)
                        go_wp2_with fail
                        go_roundw
                        case rel =>
                          have R : ∀ j, j < k + 1 → okCh cs j = true := fun j hj => by
                            rcases Nat.lt_or_ge j k with h | h
                            · exact unhide HK j h
                            · have e9 : j = k := by omega
                              rw [e9]; exact unhide C
                          first
                            | exact ⟨k + 1, by omega, by go_num, hBi, hide R⟩
                            | ((repeat apply Exists.intro); exact ⟨⟨k + 1, by omega, by go_num, hBi, hide R⟩, rfl⟩)
                        case measure => simp [intOf]; omega
    · have HF : Hid (FirstBadC cs (-1)) := hide (.inl ⟨rfl, fun i hi => unhide HK i (by have := unhide HN; omega)⟩)
      go_wp2_with fail
      go_ret
      exact ⟨-1, rfl, HF, hb⟩
end Go.Proofs.YtkeefkfklmhcjaaGreatDoor

namespace Go.Proofs.YtkeefkfklmhcjaaGreatDoor
open Go.RowKit

/-- Has the entry its place already? -/
def dnK (e : Ent) (l : List Ent) : Bool := l.any fun x => ltP e.q x.q
/-- What has come out so far. -/
def outK (both : Bool) (e : Ent) (l : List Ent) : List Ent := if dnK e l = true then putG Ent.q l both e else l.filter fun x => ltP x.q e.q
theorem dnK_snoc (e x : Ent) (l : List Ent) : dnK e (l ++ [x]) = (dnK e l || ltP e.q x.q) := by simp [dnK]
theorem ltP_asymm {a b : List UInt8} (h : ltP a b = true) : ltP b a = false := by
  cases h2 : ltP b a
  · rfl
  · have := totP.trans h h2
    rw [totP.irr] at this; cases this
theorem dnK_before {e x : Ent} {l : List Ent} (hs : (l ++ [x]).Pairwise fun a b => ltP a.q b.q = true) (h : ltP e.q x.q = false) : dnK e l = false := by
  cases hd : dnK e l
  · rfl
  · obtain ⟨y, hy, hl⟩ := List.any_eq_true.1 hd
    have h1 := (List.pairwise_append.1 hs).2.2 y hy x (by simp)
    rw [totP.trans hl h1] at h; cases h
theorem keep_none {both : Bool} {e : Ent} {l : List Ent} (h : dnK e l = false) : (l.filter fun x => keepPut both e.q x.q) = [] := by
  refine List.filter_eq_nil_iff.2 fun x hx hk => ?_
  have h1 := (keepPut_iff.1 hk).1
  have : dnK e l = true := List.any_eq_true.2 ⟨x, hx, h1⟩
  rw [h] at this; cases this
theorem outK_lt {both : Bool} {e x : Ent} {l : List Ent} (hs : (l ++ [x]).Pairwise fun a b => ltP a.q b.q = true) (h : ltP x.q e.q = true) : dnK e l = false ∧ dnK e (l ++ [x]) = false ∧ outK both e (l ++ [x]) = outK both e l ++ [x] := by
  have h1 := dnK_before hs (ltP_asymm h)
  have h2 : dnK e (l ++ [x]) = false := by rw [dnK_snoc, h1, ltP_asymm h]; rfl
  refine ⟨h1, h2, ?_⟩
  rw [outK, outK, if_neg (by rw [h2]; simp), if_neg (by rw [h1]; simp), List.filter_append]
  simp [h]
theorem outK_eq {both : Bool} {e x : Ent} {l : List Ent} (hs : (l ++ [x]).Pairwise fun a b => ltP a.q b.q = true) (h : x.q = e.q) : dnK e l = false ∧ dnK e (l ++ [x]) = false ∧ outK both e (l ++ [x]) = outK both e l := by
  have h0 : ltP e.q x.q = false := by rw [h]; exact totP.irr _
  have h0' : ltP x.q e.q = false := by rw [h]; exact totP.irr _
  have h1 := dnK_before hs h0
  have h2 : dnK e (l ++ [x]) = false := by rw [dnK_snoc, h1, h0]; rfl
  refine ⟨h1, h2, ?_⟩
  rw [outK, outK, if_neg (by rw [h2]; simp), if_neg (by rw [h1]; simp), List.filter_append]
  simp [h0']
theorem outK_gt {both : Bool} {e x : Ent} {l : List Ent} (h : ltP e.q x.q = true) : dnK e (l ++ [x]) = true ∧ outK both e (l ++ [x]) = outK both e l ++ (if dnK e l = true then [] else [e]) ++ (if keepPut both e.q x.q = true then [x] else []) := by
  have h2 : dnK e (l ++ [x]) = true := by rw [dnK_snoc, h]; simp
  refine ⟨h2, ?_⟩
  rw [outK, if_pos h2, putG, List.filter_append, List.filter_append]
  cases hd : dnK e l
  · rw [outK, if_neg (by rw [hd]; simp), keep_none hd]
    simp [ltP_asymm h, List.filter_cons]
  · rw [outK, if_pos hd, putG]
    simp [ltP_asymm h, List.filter_cons]
theorem outK_end {both : Bool} {e : Ent} {l : List Ent} : putG Ent.q l both e = if dnK e l = true then outK both e l else outK both e l ++ [e] := by
  cases hd : dnK e l
  · rw [if_neg (by simp), outK, if_neg (by rw [hd]; simp), putG, keep_none hd]
  · rw [if_pos rfl, outK, if_pos hd]
theorem outK_len {both : Bool} {e : Ent} {l : List Ent} (hs : l.Pairwise fun a b => ltP a.q b.q = true) : (outK both e l).length ≤ l.length + 1 := by
  unfold outK
  split
  · exact put_len hs _ _
  · exact Nat.le_trans (List.length_filter_le _ _) (by omega)
end Go.Proofs.YtkeefkfklmhcjaaGreatDoor

namespace Go.Proofs.YtkeefkfklmhcjaaGreatDoor
open Go.RowKit

theorem ownE_below {W W' : World} {B : Nat} {v : Value} {ks : List Ent} (h : OwnE W B v ks) (hb : Below W.heap.size W W') : OwnE W' B v ks := World.ownsRow.kept (row := none) h ⟨hb.os, hb.tape, hb.output, hb.size, fun k hk _ => hb.block k hk⟩ (by cases v.ownBlock <;> simp)
theorem ownE_snoc {W : World} {B : Nat} {v : Value} {ks : List Ent} {e : Ent} (h : W.ownsRow B 56 4 v (ks.length + 1) (entC ks ++ ec e)) : OwnE W B v (ks ++ [e]) := by
  unfold OwnE
  rw [List.length_append, show entC (ks ++ [e]) = entC ks ++ ec e from by simp [entC]]
  exact h
attribute [local go_sem] setCell_drewN alloc_drewN
set_option maxHeartbeats 2000000 in
set_option maxRecDepth 100000 in
theorem refPut_any (ao : Option Addr) (cap n : Nat) (es : List Ent) (e : Ent) (w : World) (hr : ERow w ao es) (HN : Hid (n = es.length)) (hn : n ≤ 1000) (HT : Hid (TreeS es)) (HS : Hid (Small es)) (he1 : e.path.size ≤ 1048576) :
    Calls Tryz.prog 39 #[.slice ao n cap, .agg #[.string e.path, .int .i64 e.kind, .int .i64 e.mode, .string e.data]] w fun ev w' => ∃ ao' cap' n', ev = .returned (.slice ao' n' cap') ∧ Hid (n' = (putE es e).length) ∧ ERow w' ao' (putE es e) ∧ n' ≤ cap' ∧ Below w.heap.size w w' := by
  obtain ⟨i0, hi, hz0, hz1, hz2⟩ := info_parts Tryz.info56
  obtain ⟨W0, hW0⟩ : ∃ W0, W0 = w.alloc (.cells #[.string e.path, .int .i64 e.kind, .int .i64 e.mode, .string e.data] 56) := ⟨_, rfl⟩
  have hB0 : Below w.heap.size w W0 := by rw [hW0]; exact (Below.refl _ _).alloc (Nat.le_refl _) _
  have hbox : W0.heap[w.heap.size]? = some (.cells #[.string e.path, .int .i64 e.kind, .int .i64 e.mode, .string e.data] 56 (0, 0)) := by rw [hW0]; exact heap_alloc_new _ _
  have s0 : W0.heap.size = w.heap.size + 1 := by rw [hW0]; simp
  have q0 : W0.cell? ⟨w.heap.size, 0, none⟩ = some (.string e.path) := cell_of_row _ _ 0 _ _ _ hbox
  have q1 : W0.cell? ⟨w.heap.size, 1, none⟩ = some (.int .i64 e.kind) := cell_of_row _ _ 1 _ _ _ hbox
  have HBx := hide hbox
  have HS0 := hide s0
  clear hbox s0
  go_enter Tryz.func39, Tryz.ntmps39
  go_upto_region 1 with fail
  rw [← hW0]
  clear hW0
  go_cut [5] from 11 to 75 (fun v wx => v = .bool (bothE es e) ∧ wx = W0)
  case first =>
    by_cases k1 : kindP es e.path.data.toList = 1
    · by_cases k2 : e.kind = 1
      · have R : Hid (bothE es e = true) := hide (by rw [bothE, decide_eq_true k1, decide_eq_true k2]; rfl)
        have HK1 := hide k1
        rw [k2] at q1
        clear k1 k2
        go_wp2_with (go_at_call 31; refine (kind_any _ _ _ es e.path _ (hr.below hB0) HN (by omega)).mono ?_; rintro ev w5 ⟨kd, rfl, HKD, hw⟩; obtain rfl := hw.symm; have hkd : kd = 1 := (unhide HKD).trans (unhide HK1); subst hkd)
        go_meet
        exact ⟨congrArg Value.bool (unhide R).symm, rfl⟩
      · have R : Hid (bothE es e = false) := hide (by rw [bothE, decide_eq_false k2]; simp)
        have HK1 := hide k1
        have k2' : (e.kind == 1) = false := by simp [k2]
        clear k1
        go_wp2_with (go_at_call 31; refine (kind_any _ _ _ es e.path _ (hr.below hB0) HN (by omega)).mono ?_; rintro ev w5 ⟨kd, rfl, HKD, hw⟩; obtain rfl := hw.symm; have hkd : kd = 1 := (unhide HKD).trans (unhide HK1); subst hkd)
        go_meet
        exact ⟨congrArg Value.bool (unhide R).symm, rfl⟩
    · have R : Hid (bothE es e = false) := hide (by rw [bothE, decide_eq_false k1]; rfl)
      have HK1 := hide k1
      clear k1
      go_wp2_with (go_at_call 31; refine (kind_any _ _ _ es e.path _ (hr.below hB0) HN (by omega)).mono ?_; rintro ev w5 ⟨kd, rfl, HKD, hw⟩; obtain rfl := hw.symm; have hkd : (kd == 1) = false := (by simp; exact fun h => unhide HK1 ((unhide HKD).symm.trans h)); have hkd2 : ¬ kd = 1 := (fun h => unhide HK1 ((unhide HKD).symm.trans h)))
      go_meet
      exact ⟨congrArg Value.bool (unhide R).symm, rfl⟩
  case rest =>
    obtain ⟨rfl, hw8⟩ := hcut
    obtain rfl := hw8.symm
    obtain ⟨bo, hbo⟩ : ∃ bo, bo = bothE es e := ⟨_, rfl⟩
    rw [← hbo]
    have HBo := hide hbo
    clear hbo
    go_wp2_with fail
    go_loopw [6, 7, 8] (fun v d i wr => ∃ (k : Nat) (ks : List Ent), k ≤ n ∧ ks.length ≤ k + 1 ∧ i = .int .i64 k ∧ d = .bool (dnK e (es.take k)) ∧ OwnE wr (w.heap.size + 1) v ks ∧ Below (w.heap.size + 1) W0 wr ∧ Hid (ks = outK bo e (es.take k))) (fun _ _ i _ => n - (intOf i).toNat)
    case atStart => exact ⟨0, [], by omega, by simp, rfl, rfl, World.ownsRow_nil _ _ _ _, Below.refl _ _, hide (by simp [outK, dnK])⟩
    case round =>
      obtain ⟨k, ks, hk, hkl, rfl, rfl, hown, hb, HK⟩ := hrel
      by_cases hlt : k < n
      · obtain ⟨x, he⟩ : ∃ x, es[k]? = some x := ⟨es[k]'(by have := unhide HN; omega), List.getElem?_eq_getElem (by have := unhide HN; omega)⟩
        have hBw := hB0.trans (hb.mono (Nat.le_succ _))
        obtain ⟨g, o, rfl, c0, c1, c2, c3⟩ := (hr.below hBw) k x he
        have j1 : (0 : Int) ≤ (k : Int) := by omega
        have j2 : (k : Int) < (n : Int) := by omega
        have hs1 := (unhide HS x (List.mem_of_getElem? he)).1
        have HX := hide he
        have hbx := (hb.block w.heap.size (by omega)).trans (unhide HBx)
        have b0 : wr.cell? ⟨w.heap.size, 0, none⟩ = some (.string e.path) := cell_of_row _ _ 0 _ _ _ hbx
        have HTk : Hid (es.take (k + 1) = es.take k ++ [x]) := hide (by rw [List.take_add_one, he]; rfl)
        have HSo : Hid ((es.take k ++ [x]).Pairwise fun a b => ltP a.q b.q = true) := hide (by rw [← unhide HTk]; exact (unhide HT).ord.sublist (List.take_sublist _ _))
        have hlen' : (outK bo e (es.take (k + 1))).length ≤ k + 1 + 1 := Nat.le_trans (outK_len (by rw [unhide HTk]; exact unhide HSo)) (by rw [List.length_take]; omega)
        have HIs : Hid (isP x.path.data.toList = true) := hide (ent_parts ((unhide HT).ent x (List.mem_of_getElem? he))).2.1
        have hsz := hb.size
        have hsz0 := unhide HS0
        clear he
        go_upto_region 7 with fail
        go_region_held3 (fun w' => w'.cell? ⟨g, o + k * 4, none⟩ = some (.string x.path) ∧ w'.cell? ⟨w.heap.size, 0, none⟩ = some (.string e.path)) (first | exact ⟨c0, b0⟩ | exact ⟨cell_later (chain0 hb3) c0, cell_later (chain0 hb3) b0⟩ | go_keep)
          (first | (go_at_call 29; refine (order_any e.path x.path _ ?_ ?_).mono ?_; omega; omega; rintro ev w3 ⟨r, rfl, hrl, hre, hb3⟩))
        have hw3 := chain0 hb3
        have c0 := cell_later hw3 c0
        have c1 := cell_later hw3 c1
        have c2 := cell_later hw3 c2
        have c3 := cell_later hw3 c3
        have hbx := (hw3.block w.heap.size (by omega)).trans hbx
        have b0 : w3.cell? ⟨w.heap.size, 0, none⟩ = some (.string e.path) := cell_of_row _ _ 0 _ _ _ hbx
        have b1 : w3.cell? ⟨w.heap.size, 1, none⟩ = some (.int .i64 e.kind) := cell_of_row _ _ 1 _ _ _ hbx
        have b2 : w3.cell? ⟨w.heap.size, 2, none⟩ = some (.int .i64 e.mode) := cell_of_row _ _ 2 _ _ _ hbx
        have b3 : w3.cell? ⟨w.heap.size, 3, none⟩ = some (.string e.data) := cell_of_row _ _ 3 _ _ _ hbx
        have hsw3 := hw3.size
        have hB3 : Below (w.heap.size + 1) W0 w3.drew := hb.trans ((chain9 hw3).mono (by omega))
        have hown3 : OwnE w3.drew (w.heap.size + 1) u6 ks := ownE_below hown (chain9 hw3)
        have HRl : Hid (r < 0 ↔ ltP e.q x.q = true) := hide hrl
        have HRe : Hid (r = 0 ↔ x.q = e.q) := hide (hre.trans ⟨fun h => (prt_inj (cmpT_eq h)).symm, fun h => by rw [show x.path.data.toList = e.path.data.toList from h]; exact cmpT_same _⟩)
        clear hrl hre hb3 hown hbx
        go_upto_region 8 with fail
        go_region_held3 (fun w' => w'.cell? ⟨g, o + k * 4, none⟩ = some (.string x.path) ∧ w'.cell? ⟨w.heap.size, 0, none⟩ = some (.string e.path)) (first | exact ⟨c0, b0⟩ | go_keep)
          (first | (go_at_call 37; refine (refBelow_any x.path e.path _ (by omega)).mono ?_; rintro ev w7 ⟨rfl, hw⟩; obtain rfl := hw.symm))
        obtain ⟨un, hun⟩ : ∃ un, un = blw x.path.data.toList e.path.data.toList := ⟨_, rfl⟩
        obtain ⟨dn, hdn⟩ : ∃ dn, dn = dnK e (es.take k) := ⟨_, rfl⟩
        rw [← hun, ← hdn]
        have HKp : Hid (keepPut bo e.q x.q = (ltP e.q x.q && (bo || !un))) := hide (by rw [hun, blwB (unhide HIs)]; rfl)
        have HDk := hide hdn
        have HU := hide hun
        clear hun hdn
        by_cases rn : r < 0
        · have hgt := (unhide HRl).1 rn
          have HDn : Hid (dnK e (es.take (k + 1)) = true) := hide (by rw [unhide HTk]; exact (outK_gt (both := bo) hgt).1)
          have HG : Hid (outK bo e (es.take (k + 1)) = ks ++ (if dn = true then [] else [e]) ++ (if keepPut bo e.q x.q = true then [x] else [])) := hide (by rw [unhide HTk, (outK_gt (both := bo) hgt).2, unhide HK, unhide HDk])
          have HKq : Hid (keepPut bo e.q x.q = (bo || !un)) := hide (by rw [unhide HKp, hgt, Bool.true_and])
          have r0 : (r == 0) = false := by simp; omega
          have r1 : ¬ r = 0 := by omega
          clear hgt
          cases dn
          · go_upto_region 12 with (at_builtin; refine wpList_append_own _ rfl _ _ 22 rfl (w.heap.size + 1) 56 i0 _ 4 48 Tryz.underlying22 hi hz0 hz1 hz2 rfl (by decide) _ _ _ rfl (World.ownsRow.alloc hown3 _) ⟨w3.heap.size, 0, none⟩ 1 1 (ec e) rfl rfl (World.news_of_block (cs := #[.string e.path, .int .i64 e.kind, .int .i64 e.mode, .string e.data]) (t := 56) (fr := (0, 0)) (heap_alloc_new _ _)) (fun y hy => by simp [ec] at hy; rcases hy with rfl | rfl | rfl | rfl <;> rfl) (by unfold maxLen; first | omega | (simp; omega)) (by first | omega | (simp; omega)) (by first | omega | (simp; omega)) ?_; intro v5 w5 hown5 hgrow5 _)
            have hown5' := ownE_snoc hown5
            have hB5 : Below (w.heap.size + 1) W0 w5 := (hB3.alloc (by first | omega | (simp; omega)) _).grown hgrow5 (by first | omega | (simp; omega)) (fun q hq => (World.ownsRow.lt hown3 q hq).1)
            have hsz5 := hB5.size
            obtain ⟨g', o', hgo, c0, c1, c2, c3⟩ := (hr.below (hB0.trans (hB5.mono (Nat.le_succ _)))) k x (unhide HX)
            cases hgo
            clear hown5 hgrow5
            cases un
            · have HQ : Hid (ks ++ [e] ++ [x] = outK bo e (es.take (k + 1))) := hide (by rw [unhide HG, unhide HKq]; simp)
              go_wp2_with (at_builtin; refine wpList_append_own _ rfl _ _ 22 rfl (w.heap.size + 1) 56 i0 _ 4 48 Tryz.underlying22 hi hz0 hz1 hz2 rfl (by decide) _ _ _ rfl (World.ownsRow.alloc hown5' _) ⟨w5.heap.size, 0, none⟩ 1 1 (ec x) rfl rfl (World.news_of_block (cs := #[.string x.path, .int .i64 x.kind, .int .i64 x.mode, .string x.data]) (t := 56) (fr := (0, 0)) (heap_alloc_new _ _)) (fun y hy => by simp [ec] at hy; rcases hy with rfl | rfl | rfl | rfl <;> rfl) (by unfold maxLen; first | omega | (simp; omega)) (by first | omega | (simp; omega)) (by first | omega | (simp; omega)) ?_; intro v6 w6 hown6 hgrow6 _)
              have hown6' := ownE_snoc hown6
              have hB6 : Below (w.heap.size + 1) W0 w6 := (hB5.alloc (by first | omega | (simp; omega)) _).grown hgrow6 (by first | omega | (simp; omega)) (fun q hq => (World.ownsRow.lt hown5' q hq).1)
              clear hown6 hgrow6
              go_roundw
              case rel =>
                have R1 := hown6'
                have R2 := hB6
                have hl := hlen'
                first
                  | exact ⟨k + 1, ks ++ [e] ++ [x], by omega, (by rw [unhide HQ]; exact hl), by go_num, (by rw [unhide HDn]), R1, R2, HQ⟩
                  | ((repeat apply Exists.intro); exact ⟨⟨k + 1, ks ++ [e] ++ [x], by omega, (by rw [unhide HQ]; exact hl), by go_num, (by rw [unhide HDn]), R1, R2, HQ⟩, rfl⟩)
              case measure => simp [intOf]; omega
            · cases bo
              · have HQ : Hid (ks ++ [e] = outK false e (es.take (k + 1))) := hide (by rw [unhide HG, unhide HKq]; simp)
                go_wp2_with fail
                go_roundw
                case rel =>
                  have R1 := hown5'
                  have R2 := hB5
                  have hl := hlen'
                  first
                    | exact ⟨k + 1, ks ++ [e], by omega, (by rw [unhide HQ]; exact hl), by go_num, (by rw [unhide HDn]), R1, R2, HQ⟩
                    | ((repeat apply Exists.intro); exact ⟨⟨k + 1, ks ++ [e], by omega, (by rw [unhide HQ]; exact hl), by go_num, (by rw [unhide HDn]), R1, R2, HQ⟩, rfl⟩)
                case measure => simp [intOf]; omega
              · have HQ : Hid (ks ++ [e] ++ [x] = outK true e (es.take (k + 1))) := hide (by rw [unhide HG, unhide HKq]; simp)
                go_wp2_with (at_builtin; refine wpList_append_own _ rfl _ _ 22 rfl (w.heap.size + 1) 56 i0 _ 4 48 Tryz.underlying22 hi hz0 hz1 hz2 rfl (by decide) _ _ _ rfl (World.ownsRow.alloc hown5' _) ⟨w5.heap.size, 0, none⟩ 1 1 (ec x) rfl rfl (World.news_of_block (cs := #[.string x.path, .int .i64 x.kind, .int .i64 x.mode, .string x.data]) (t := 56) (fr := (0, 0)) (heap_alloc_new _ _)) (fun y hy => by simp [ec] at hy; rcases hy with rfl | rfl | rfl | rfl <;> rfl) (by unfold maxLen; first | omega | (simp; omega)) (by first | omega | (simp; omega)) (by first | omega | (simp; omega)) ?_; intro v6 w6 hown6 hgrow6 _)
                have hown6' := ownE_snoc hown6
                have hB6 : Below (w.heap.size + 1) W0 w6 := (hB5.alloc (by first | omega | (simp; omega)) _).grown hgrow6 (by first | omega | (simp; omega)) (fun q hq => (World.ownsRow.lt hown5' q hq).1)
                clear hown6 hgrow6
                go_roundw
                case rel =>
                  have R1 := hown6'
                  have R2 := hB6
                  have hl := hlen'
                  first
                    | exact ⟨k + 1, ks ++ [e] ++ [x], by omega, (by rw [unhide HQ]; exact hl), by go_num, (by rw [unhide HDn]), R1, R2, HQ⟩
                    | ((repeat apply Exists.intro); exact ⟨⟨k + 1, ks ++ [e] ++ [x], by omega, (by rw [unhide HQ]; exact hl), by go_num, (by rw [unhide HDn]), R1, R2, HQ⟩, rfl⟩)
                case measure => simp [intOf]; omega
          · cases un
            · have HQ : Hid (ks ++ [x] = outK bo e (es.take (k + 1))) := hide (by rw [unhide HG, unhide HKq]; simp)
              go_wp2_with (at_builtin; refine wpList_append_own _ rfl _ _ 22 rfl (w.heap.size + 1) 56 i0 _ 4 48 Tryz.underlying22 hi hz0 hz1 hz2 rfl (by decide) _ _ _ rfl (World.ownsRow.alloc hown3 _) ⟨w3.heap.size, 0, none⟩ 1 1 (ec x) rfl rfl (World.news_of_block (cs := #[.string x.path, .int .i64 x.kind, .int .i64 x.mode, .string x.data]) (t := 56) (fr := (0, 0)) (heap_alloc_new _ _)) (fun y hy => by simp [ec] at hy; rcases hy with rfl | rfl | rfl | rfl <;> rfl) (by unfold maxLen; first | omega | (simp; omega)) (by first | omega | (simp; omega)) (by first | omega | (simp; omega)) ?_; intro v6 w6 hown6 hgrow6 _)
              have hown6' := ownE_snoc hown6
              have hB6 : Below (w.heap.size + 1) W0 w6 := (hB3.alloc (by first | omega | (simp; omega)) _).grown hgrow6 (by first | omega | (simp; omega)) (fun q hq => (World.ownsRow.lt hown3 q hq).1)
              clear hown6 hgrow6
              go_roundw
              case rel =>
                have R1 := hown6'
                have R2 := hB6
                have hl := hlen'
                first
                  | exact ⟨k + 1, ks ++ [x], by omega, (by rw [unhide HQ]; exact hl), by go_num, (by rw [unhide HDn]), R1, R2, HQ⟩
                  | ((repeat apply Exists.intro); exact ⟨⟨k + 1, ks ++ [x], by omega, (by rw [unhide HQ]; exact hl), by go_num, (by rw [unhide HDn]), R1, R2, HQ⟩, rfl⟩)
              case measure => simp [intOf]; omega
            · cases bo
              · have HQ : Hid (ks = outK false e (es.take (k + 1))) := hide (by rw [unhide HG, unhide HKq]; simp)
                go_wp2_with fail
                go_roundw
                case rel =>
                  have R1 := hown3
                  have R2 := hB3
                  have hl := hlen'
                  first
                    | exact ⟨k + 1, ks, by omega, (by rw [unhide HQ]; exact hl), by go_num, (by rw [unhide HDn]), R1, R2, HQ⟩
                    | ((repeat apply Exists.intro); exact ⟨⟨k + 1, ks, by omega, (by rw [unhide HQ]; exact hl), by go_num, (by rw [unhide HDn]), R1, R2, HQ⟩, rfl⟩)
                case measure => simp [intOf]; omega
              · have HQ : Hid (ks ++ [x] = outK true e (es.take (k + 1))) := hide (by rw [unhide HG, unhide HKq]; simp)
                go_wp2_with (at_builtin; refine wpList_append_own _ rfl _ _ 22 rfl (w.heap.size + 1) 56 i0 _ 4 48 Tryz.underlying22 hi hz0 hz1 hz2 rfl (by decide) _ _ _ rfl (World.ownsRow.alloc hown3 _) ⟨w3.heap.size, 0, none⟩ 1 1 (ec x) rfl rfl (World.news_of_block (cs := #[.string x.path, .int .i64 x.kind, .int .i64 x.mode, .string x.data]) (t := 56) (fr := (0, 0)) (heap_alloc_new _ _)) (fun y hy => by simp [ec] at hy; rcases hy with rfl | rfl | rfl | rfl <;> rfl) (by unfold maxLen; first | omega | (simp; omega)) (by first | omega | (simp; omega)) (by first | omega | (simp; omega)) ?_; intro v6 w6 hown6 hgrow6 _)
                have hown6' := ownE_snoc hown6
                have hB6 : Below (w.heap.size + 1) W0 w6 := (hB3.alloc (by first | omega | (simp; omega)) _).grown hgrow6 (by first | omega | (simp; omega)) (fun q hq => (World.ownsRow.lt hown3 q hq).1)
                clear hown6 hgrow6
                go_roundw
                case rel =>
                  have R1 := hown6'
                  have R2 := hB6
                  have hl := hlen'
                  first
                    | exact ⟨k + 1, ks ++ [x], by omega, (by rw [unhide HQ]; exact hl), by go_num, (by rw [unhide HDn]), R1, R2, HQ⟩
                    | ((repeat apply Exists.intro); exact ⟨⟨k + 1, ks ++ [x], by omega, (by rw [unhide HQ]; exact hl), by go_num, (by rw [unhide HDn]), R1, R2, HQ⟩, rfl⟩)
                case measure => simp [intOf]; omega
        · have hng : ltP e.q x.q = false := by
            cases h : ltP e.q x.q
            · rfl
            · exact absurd ((unhide HRl).2 h) rn
          have rn2 : 0 ≤ r := by omega
          by_cases r0 : r = 0
          · have hq := (unhide HRe).1 r0
            have HDn : Hid (dnK e (es.take (k + 1)) = dn) := hide (by rw [unhide HTk, (outK_eq (both := bo) (unhide HSo) hq).2.1, unhide HDk, (outK_eq (both := bo) (unhide HSo) hq).1])
            have HQ : Hid (ks = outK bo e (es.take (k + 1))) := hide (by rw [unhide HTk, (outK_eq (both := bo) (unhide HSo) hq).2.2, unhide HK])
            have r1 : (r == 0) = true := by simp [r0]
            clear hng hq
            go_wp2_with fail
            go_roundw
            case rel =>
              have R1 := hown3
              have R2 := hB3
              have hl := hlen'
              first
                | exact ⟨k + 1, ks, by omega, (by rw [unhide HQ]; exact hl), by go_num, (by rw [unhide HDn]), R1, R2, HQ⟩
                | ((repeat apply Exists.intro); exact ⟨⟨k + 1, ks, by omega, (by rw [unhide HQ]; exact hl), by go_num, (by rw [unhide HDn]), R1, R2, HQ⟩, rfl⟩)
            case measure => simp [intOf]; omega
          · have r1 : (r == 0) = false := by simp [r0]
            have hlt' : ltP x.q e.q = true := by
              cases h : ltP x.q e.q
              · exact absurd ((unhide HRe).2 (totP.one h hng)) r0
              · rfl
            have hun0 : un = false := by
              cases un
              · rfl
              · exfalso
                have h1 := unhide HU
                have h2 := under_not_lt ((blw_under (unhide HIs)).1 h1.symm)
                rw [show ltP x.path.data.toList e.path.data.toList = true from hlt'] at h2
                cases h2
            subst hun0
            have HDn : Hid (dnK e (es.take (k + 1)) = dn) := hide (by rw [unhide HTk, (outK_lt (both := bo) (unhide HSo) hlt').2.1, unhide HDk, (outK_lt (both := bo) (unhide HSo) hlt').1])
            have HQ : Hid (ks ++ [x] = outK bo e (es.take (k + 1))) := hide (by rw [unhide HTk, (outK_lt (both := bo) (unhide HSo) hlt').2.2, unhide HK])
            clear hng hlt'
            go_wp2_with (at_builtin; refine wpList_append_own _ rfl _ _ 22 rfl (w.heap.size + 1) 56 i0 _ 4 48 Tryz.underlying22 hi hz0 hz1 hz2 rfl (by decide) _ _ _ rfl (World.ownsRow.alloc hown3 _) ⟨w3.heap.size, 0, none⟩ 1 1 (ec x) rfl rfl (World.news_of_block (cs := #[.string x.path, .int .i64 x.kind, .int .i64 x.mode, .string x.data]) (t := 56) (fr := (0, 0)) (heap_alloc_new _ _)) (fun y hy => by simp [ec] at hy; rcases hy with rfl | rfl | rfl | rfl <;> rfl) (by unfold maxLen; first | omega | (simp; omega)) (by first | omega | (simp; omega)) (by first | omega | (simp; omega)) ?_; intro v6 w6 hown6 hgrow6 _)
            have hown6' := ownE_snoc hown6
            have hB6 : Below (w.heap.size + 1) W0 w6 := (hB3.alloc (by first | omega | (simp; omega)) _).grown hgrow6 (by first | omega | (simp; omega)) (fun q hq => (World.ownsRow.lt hown3 q hq).1)
            clear hown6 hgrow6
            go_roundw
            case rel =>
              have R1 := hown6'
              have R2 := hB6
              have hl := hlen'
              first
                | exact ⟨k + 1, ks ++ [x], by omega, (by rw [unhide HQ]; exact hl), by go_num, (by rw [unhide HDn]), R1, R2, HQ⟩
                | ((repeat apply Exists.intro); exact ⟨⟨k + 1, ks ++ [x], by omega, (by rw [unhide HQ]; exact hl), by go_num, (by rw [unhide HDn]), R1, R2, HQ⟩, rfl⟩)
            case measure => simp [intOf]; omega
      · have HL : Hid (es.take k = es) := hide (List.take_of_length_le (by have := unhide HN; omega))
        obtain ⟨dn, hdn⟩ : ∃ dn, dn = dnK e (es.take k) := ⟨_, rfl⟩
        rw [← hdn]
        have HDk := hide hdn
        have hsz := hb.size
        have hsz0 := unhide HS0
        have hbx := (hb.block w.heap.size (by omega)).trans (unhide HBx)
        have b0 : wr.cell? ⟨w.heap.size, 0, none⟩ = some (.string e.path) := cell_of_row _ _ 0 _ _ _ hbx
        have b1 : wr.cell? ⟨w.heap.size, 1, none⟩ = some (.int .i64 e.kind) := cell_of_row _ _ 1 _ _ _ hbx
        have b2 : wr.cell? ⟨w.heap.size, 2, none⟩ = some (.int .i64 e.mode) := cell_of_row _ _ 2 _ _ _ hbx
        have b3 : wr.cell? ⟨w.heap.size, 3, none⟩ = some (.string e.data) := cell_of_row _ _ 3 _ _ _ hbx
        clear hdn hbx
        cases dn
        · have HF : Hid (ks ++ [e] = putE es e) := hide (by rw [putE, outK_end, ← unhide HBo, ← unhide HL, ← unhide HDk, if_neg (by simp), ← unhide HK])
          go_upto_region 16 with (at_builtin; refine wpList_append_own _ rfl _ _ 22 rfl (w.heap.size + 1) 56 i0 _ 4 48 Tryz.underlying22 hi hz0 hz1 hz2 rfl (by decide) _ _ _ rfl (World.ownsRow.alloc hown _) ⟨wr.heap.size, 0, none⟩ 1 1 (ec e) rfl rfl (World.news_of_block (cs := #[.string e.path, .int .i64 e.kind, .int .i64 e.mode, .string e.data]) (t := 56) (fr := (0, 0)) (heap_alloc_new _ _)) (fun y hy => by simp [ec] at hy; rcases hy with rfl | rfl | rfl | rfl <;> rfl) (by unfold maxLen; first | omega | (simp; omega)) (by first | omega | (simp; omega)) (by first | omega | (simp; omega)) ?_; intro v5 w5 hown5 hgrow5 _)
          have hown5' := ownE_snoc hown5
          have hB5 : Below (w.heap.size + 1) W0 w5 := (hb.alloc (by first | omega | (simp; omega)) _).grown hgrow5 (by first | omega | (simp; omega)) (fun q hq => (World.ownsRow.lt hown q hq).1)
          obtain ⟨ao', cap', n', rfl, HN', hrow, hnc⟩ := ownE_row hown5'
          clear hown5 hgrow5
          go_wp2_with fail
          go_ret
          exact ⟨ao', cap', n', rfl, hide (by rw [← unhide HF]; exact unhide HN'), (by rw [← unhide HF]; exact hrow), hnc, hB0.trans (hB5.mono (Nat.le_succ _))⟩
        · have HF : Hid (ks = putE es e) := hide (by rw [putE, outK_end, ← unhide HBo, ← unhide HL, ← unhide HDk, if_pos rfl, ← unhide HK])
          obtain ⟨ao', cap', n', rfl, HN', hrow, hnc⟩ := ownE_row hown
          go_wp2_with fail
          go_ret
          exact ⟨ao', cap', n', rfl, hide (by rw [← unhide HF]; exact unhide HN'), (by rw [← unhide HF]; exact hrow), hnc, hB0.trans (hb.mono (Nat.le_succ _))⟩
end Go.Proofs.YtkeefkfklmhcjaaGreatDoor

namespace Go.Proofs.YtkeefkfklmhcjaaGreatDoor
open Go.RowKit

theorem entC_of : ∀ {ks : List Ent} {j : Nat} {u : Value}, (entC ks)[j]? = some u → ∃ (k : Nat) (e : Ent), ks[k]? = some e ∧ ((j = k * 4 ∧ u = .string e.path) ∨ (j = k * 4 + 1 ∧ u = .int .i64 e.kind) ∨ (j = k * 4 + 2 ∧ u = .int .i64 e.mode) ∨ (j = k * 4 + 3 ∧ u = .string e.data)) := by
  intro ks j u h
  have hj := (List.getElem?_eq_some_iff.1 h).1
  rw [entC_len] at hj
  have hk : j / 4 < ks.length := by omega
  have he := List.getElem?_eq_getElem hk
  obtain ⟨h0, h1, h2, h3⟩ := entC_get he
  refine ⟨j / 4, ks[j / 4], he, ?_⟩
  have hm : j = j / 4 * 4 ∨ j = j / 4 * 4 + 1 ∨ j = j / 4 * 4 + 2 ∨ j = j / 4 * 4 + 3 := by omega
  rcases hm with e | e | e | e
  · rw [e, h0] at h; exact .inl ⟨e, (Option.some.inj h).symm⟩
  · rw [e, h1] at h; exact .inr (.inl ⟨e, (Option.some.inj h).symm⟩)
  · rw [e, h2] at h; exact .inr (.inr (.inl ⟨e, (Option.some.inj h).symm⟩))
  · rw [e, h3] at h; exact .inr (.inr (.inr ⟨e, (Option.some.inj h).symm⟩))
theorem erow_news {w : World} {a : Addr} {es : List Ent} (h : ERow w (some a) es) : ∀ j u, (entC es)[j]? = some u → w.cell? (a.add j) = some u := fun j u hu => by
  obtain ⟨k, e, he, hc⟩ := entC_of hu
  obtain ⟨g, o, hgo, c0, c1, c2, c3⟩ := h k e he
  cases hgo
  rw [show (⟨g, o, none⟩ : Addr).add j = ⟨g, o + j, none⟩ from by simp [Addr.add]]
  rcases hc with ⟨rfl, rfl⟩ | ⟨rfl, rfl⟩ | ⟨rfl, rfl⟩ | ⟨rfl, rfl⟩
  · exact c0
  · exact c1
  · exact c2
  · exact c3
theorem entC_one {es : List Ent} : ∀ u ∈ entC es, u.oneCell' = true := fun u hu => by
  obtain ⟨j, hj⟩ := List.getElem?_of_mem hu
  obtain ⟨k, e, _, hc⟩ := entC_of hj
  rcases hc with ⟨_, rfl⟩ | ⟨_, rfl⟩ | ⟨_, rfl⟩ | ⟨_, rfl⟩ <;> rfl
/-- What the document's Patch answers. -/
def RPat (es cs ks : List Ent) (f m : Int) : Prop :=
  (∃ i : Nat, ks = [] ∧ f = 8 ∧ m = i ∧ FirstP (mrkAt es cs) cs.length i) ∨
  (FirstP (mrkAt es cs) cs.length (-1) ∧ ∃ i : Nat, ks = [] ∧ f = 9 ∧ m = i ∧ FirstP (putBad (marksF es cs) cs) cs.length i) ∨
  (FirstP (mrkAt es cs) cs.length (-1) ∧ FirstP (putBad (marksF es cs) cs) cs.length (-1) ∧ ((40 < (patF es cs).length ∧ ks = [] ∧ f = 10 ∧ m = -1) ∨ ((patF es cs).length ≤ 40 ∧ ks = patF es cs ∧ f = 0 ∧ m = -1)))
set_option maxHeartbeats 2000000 in
set_option maxRecDepth 100000 in
theorem refPatch_any (a : Addr) (cap n : Nat) (es : List Ent) (bo : Option Addr) (cb nb : Nat) (cs : List Ent) (w : World) (hr : ERow w (some a) es) (HN : Hid (n = es.length)) (hn : n ≤ 40) (HT : Hid (TreeS es)) (HS : Hid (Small es)) (hrc : ERow w bo cs) (HNb : Hid (nb = cs.length)) (hnb : nb ≤ 80) (HSc : Hid (Small cs)) (HC : Hid (∀ c ∈ cs, chOk c = true)) :
    Calls Tryz.prog 17 #[.slice (some a) n cap, .slice bo nb cb] w fun ev w' => ∃ ao' cap' n' ks f m, ev = .returned (.tuple #[.slice ao' n' cap', .int .i64 f, .int .i64 m]) ∧ Hid (n' = ks.length) ∧ ERow w' ao' ks ∧ Hid (RPat es cs ks f m) ∧ Below w.heap.size w w' := by
  obtain ⟨i0, hi, hz0, hz1, hz2⟩ := info_parts Tryz.info56
  have hne := erow_news hr
  have hle : (entC es).length = n * 4 := by rw [entC_len, unhide HN]
  go_enter Tryz.func17, Tryz.ntmps17
  go_upto_region 2 with (at_builtin; refine wpList_append_own _ rfl _ _ 22 rfl w.heap.size 56 i0 _ 4 48 Tryz.underlying22 hi hz0 hz1 hz2 rfl (by decide) (.slice none 0 0) 0 [] rfl (World.ownsRow_nil _ _ _ _) a n cap (entC es) rfl hle hne entC_one (by unfold maxLen; omega) (by omega) (Nat.le_refl _) ?_; intro v1 w1 hown1 hgrow1 _)
  have hB1 : Below w.heap.size w w1 := (Below.refl _ _).grown hgrow1 (Nat.le_refl _) (fun q hq => by cases hq)
  have hO1 : OwnE w1 w.heap.size v1 es := by
    unfold OwnE
    have h := hown1
    rw [Nat.zero_add, List.nil_append] at h
    rw [← unhide HN]; exact h
  obtain ⟨ao1, cap1, n1, rfl, HN1, hrow1, hnc1⟩ := ownE_row hO1
  clear hown1 hgrow1 hO1 hne hle
  have HM0 := hide hrow1
  go_wp2_with fail
  go_loopw [7, 8] (fun v i wr => ∃ (k : Nat) (ao2 : Option Addr) (cap2 n2 : Nat), k ≤ nb ∧ i = .int .i64 k ∧ v = .slice ao2 n2 cap2 ∧ Hid (n2 = (marksF es (cs.take k)).length) ∧ ERow wr ao2 (marksF es (cs.take k)) ∧ Below w.heap.size w wr ∧ Hid (∀ j, j < k → mrkAt es cs j = false)) (fun _ i _ => nb - (intOf i).toNat)
  case atStart => exact ⟨0, ao1, cap1, n1, by omega, rfl, rfl, HN1, unhide HM0, hB1, hide (by intro j hj; omega)⟩
  case round =>
    obtain ⟨k, ao2, cap2, n2, hk, rfl, rfl, HN2, hrow2, hb, HK⟩ := hrel
    by_cases hlt : k < nb
    · obtain ⟨c, he⟩ : ∃ c, cs[k]? = some c := ⟨cs[k]'(by have := unhide HNb; omega), List.getElem?_eq_getElem (by have := unhide HNb; omega)⟩
      obtain ⟨g2, o2, rfl, c0, c1, c2, c3⟩ := (hrc.below hb) k c he
      have j0 : (0 : Int) ≤ (k : Int) := by omega
      have j1 : (k : Int) < (nb : Int) := by omega
      have hs1 := (unhide HSc c (List.mem_of_getElem? he)).1
      have HLen : Hid (k < cs.length) := hide (by have := unhide HNb; omega)
      have HMk0 := hide (marks_snoc (t := es) he)
      have HTk : Hid (TreeS (marksF es (cs.take k))) := hide (marks_tree _ (unhide HT))
      have HPs : Hid (∀ e ∈ marksF es (cs.take k), isP e.path.data.toList = true) := hide (fun e h => (ent_parts ((unhide HTk).ent e h)).2.1)
      have hn2 : n2 ≤ 40 := by rw [unhide HN2]; exact Nat.le_trans (marks_len _ _) (by rw [← unhide HN]; exact hn)
      obtain ⟨W0, hW0⟩ : ∃ W0, W0 = wr.alloc (.cells #[.string c.path, .int .i64 c.kind, .int .i64 c.mode, .string c.data] 39) := ⟨_, rfl⟩
      have hB0w : Below wr.heap.size wr W0 := by rw [hW0]; exact (Below.refl _ _).alloc (Nat.le_refl _) _
      have hB0 := hb.trans (hB0w.mono hb.size)
      have q0 : W0.cell? ⟨wr.heap.size, 0, none⟩ = some (.string c.path) := by rw [hW0]; exact cell_of_row _ _ 0 _ _ _ (heap_alloc_new _ _)
      have q1 : W0.cell? ⟨wr.heap.size, 1, none⟩ = some (.int .i64 c.kind) := by rw [hW0]; exact cell_of_row _ _ 1 _ _ _ (heap_alloc_new _ _)
      have HEc := hide he
      clear he
      go_upto_region 6 with fail
      rw [← hW0]
      clear hW0 c0 c1 c2 c3
      by_cases h5 : c.kind = 5
      · rw [h5] at q1
        by_cases k1 : kindP es c.path.data.toList = 1
        · have C : Hid (mrkAt es cs k = false) := hide (by rw [mrkAt_eq (unhide HEc), mrkBad]; simp [h5, k1])
          have HMk : Hid (marksF es (cs.take (k + 1)) = wo (marksF es (cs.take k)) c.path.data.toList false) := hide (by rw [unhide HMk0, mark1, if_neg (by omega), if_pos h5])
          have HK1 := hide k1
          clear k1 h5
          go_wp2_with (first | (go_at_call 31; refine (kind_any _ _ _ es c.path _ (hr.below hB0) HN (by omega)).mono ?_; rintro ev w5 ⟨kd, rfl, HKD, hw⟩; obtain rfl := hw.symm; have hkd : kd = 1 := (unhide HKD).trans (unhide HK1); subst hkd) | (go_at_call 38; refine (without_any ao2 cap2 n2 (marksF es (cs.take k)) c.path false _ (hrow2.below hB0w) HN2 (by omega) hs1 HPs).mono ?_; rintro ev w6 ⟨ao3, cap3, n3, rfl, HN3, hrow3, hnc3, hb6⟩; have q1 := cell_later hb6 q1))
          have HNn : Hid (n3 = (marksF es (cs.take (k + 1))).length) := hide (by rw [unhide HMk]; exact unhide HN3)
          have HRn : ERow w6 ao3 (marksF es (cs.take (k + 1))) := by rw [unhide HMk]; exact hrow3
          have HBn : Below w.heap.size w w6 := hB0.trans (hb6.mono hB0.size)
          go_roundw
          case rel =>
            have R : ∀ j, j < k + 1 → mrkAt es cs j = false := fun j hj => by
              rcases Nat.lt_or_ge j k with h | h
              · exact unhide HK j h
              · have e9 : j = k := by omega
                rw [e9]; exact unhide C
            first
              | exact ⟨k + 1, _, _, _, by omega, by go_num, rfl, HNn, HRn, HBn, hide R⟩
              | ((repeat apply Exists.intro); exact ⟨⟨k + 1, _, _, _, by omega, by go_num, rfl, HNn, HRn, HBn, hide R⟩, rfl⟩)
          case measure => simp [intOf]; omega
        · have C : Hid (mrkAt es cs k = true) := hide (by rw [mrkAt_eq (unhide HEc), mrkBad]; simp [h5, k1])
          have HK1 := hide k1
          clear k1 h5
          go_wp2_with (go_at_call 31; refine (kind_any _ _ _ es c.path _ (hr.below hB0) HN (by omega)).mono ?_; rintro ev w5 ⟨kd, rfl, HKD, hw⟩; obtain rfl := hw.symm; have hkd : ¬ kd = 1 := (fun h => unhide HK1 ((unhide HKD).symm.trans h)); have hkd2 : (kd == 1) = false := (by simp [hkd]); have hkd3 : (kd != 1) = true := (by simp [hkd]))
          go_ret3
          exact ⟨none, 0, 0, [], 8, k, rfl, hide rfl, fun k e hk => by simp at hk, hide (.inl ⟨k, rfl, rfl, rfl, .inr ⟨k, rfl, unhide HLen, unhide C, unhide HK⟩⟩), hB0⟩
      · have h5' : (c.kind == 5) = false := by simp [h5]
        by_cases h4 : c.kind = 4
        · rw [h4] at q1
          by_cases k1 : kindP es c.path.data.toList = 0
          · have C : Hid (mrkAt es cs k = true) := hide (by rw [mrkAt_eq (unhide HEc), mrkBad]; simp [h4, k1])
            have HK1 := hide k1
            clear k1 h5 h5' h4
            go_wp2_with (go_at_call 31; refine (kind_any _ _ _ es c.path _ (hr.below hB0) HN (by omega)).mono ?_; rintro ev w5 ⟨kd, rfl, HKD, hw⟩; obtain rfl := hw.symm; have hkd : kd = 0 := (unhide HKD).trans (unhide HK1); subst hkd)
            go_ret3
            exact ⟨none, 0, 0, [], 8, k, rfl, hide rfl, fun k e hk => by simp at hk, hide (.inl ⟨k, rfl, rfl, rfl, .inr ⟨k, rfl, unhide HLen, unhide C, unhide HK⟩⟩), hB0⟩
          · have C : Hid (mrkAt es cs k = false) := hide (by rw [mrkAt_eq (unhide HEc), mrkBad]; simp [h4, k1])
            have HMk : Hid (marksF es (cs.take (k + 1)) = wo (marksF es (cs.take k)) c.path.data.toList true) := hide (by rw [unhide HMk0, mark1, if_pos h4])
            have HK1 := hide k1
            clear k1 h5 h5' h4
            go_wp2_with (first | (go_at_call 31; refine (kind_any _ _ _ es c.path _ (hr.below hB0) HN (by omega)).mono ?_; rintro ev w5 ⟨kd, rfl, HKD, hw⟩; obtain rfl := hw.symm; have hkd : ¬ kd = 0 := (fun h => unhide HK1 ((unhide HKD).symm.trans h)); have hkd2 : (kd == 0) = false := (by simp [hkd])) | (go_at_call 38; refine (without_any ao2 cap2 n2 (marksF es (cs.take k)) c.path true _ (hrow2.below hB0w) HN2 (by omega) hs1 HPs).mono ?_; rintro ev w6 ⟨ao3, cap3, n3, rfl, HN3, hrow3, hnc3, hb6⟩; have q1 := cell_later hb6 q1))
            have HNn : Hid (n3 = (marksF es (cs.take (k + 1))).length) := hide (by rw [unhide HMk]; exact unhide HN3)
            have HRn : ERow w6 ao3 (marksF es (cs.take (k + 1))) := by rw [unhide HMk]; exact hrow3
            have HBn : Below w.heap.size w w6 := hB0.trans (hb6.mono hB0.size)
            go_roundw
            case rel =>
              have R : ∀ j, j < k + 1 → mrkAt es cs j = false := fun j hj => by
                rcases Nat.lt_or_ge j k with h | h
                · exact unhide HK j h
                · have e9 : j = k := by omega
                  rw [e9]; exact unhide C
              first
                | exact ⟨k + 1, _, _, _, by omega, by go_num, rfl, HNn, HRn, HBn, hide R⟩
                | ((repeat apply Exists.intro); exact ⟨⟨k + 1, _, _, _, by omega, by go_num, rfl, HNn, HRn, HBn, hide R⟩, rfl⟩)
            case measure => simp [intOf]; omega
        · have h4' : (c.kind == 4) = false := by simp [h4]
          have C : Hid (mrkAt es cs k = false) := hide (by rw [mrkAt_eq (unhide HEc), mrkBad]; simp [h4, h5])
          have HMk : Hid (marksF es (cs.take (k + 1)) = marksF es (cs.take k)) := hide (by rw [unhide HMk0, mark1, if_neg h4, if_neg h5])
          go_wp2_with fail
          have HNn : Hid (n2 = (marksF es (cs.take (k + 1))).length) := hide (by rw [unhide HMk]; exact unhide HN2)
          have HRn : ERow W0 ao2 (marksF es (cs.take (k + 1))) := by rw [unhide HMk]; exact hrow2.below hB0w
          have HBn : Below w.heap.size w W0 := hB0
          go_roundw
          case rel =>
            have R : ∀ j, j < k + 1 → mrkAt es cs j = false := fun j hj => by
              rcases Nat.lt_or_ge j k with h | h
              · exact unhide HK j h
              · have e9 : j = k := by omega
                rw [e9]; exact unhide C
            first
              | exact ⟨k + 1, _, _, _, by omega, by go_num, rfl, HNn, HRn, HBn, hide R⟩
              | ((repeat apply Exists.intro); exact ⟨⟨k + 1, _, _, _, by omega, by go_num, rfl, HNn, HRn, HBn, hide R⟩, rfl⟩)
          case measure => simp [intOf]; omega
    · have HF1 : Hid (FirstP (mrkAt es cs) cs.length (-1)) := hide (.inl ⟨rfl, fun i hi => unhide HK i (by have := unhide HNb; omega)⟩)
      have hkc : cs.take k = cs := List.take_of_length_le (by have := unhide HNb; omega)
      rw [hkc] at HN2 hrow2
      obtain ⟨T, hT0⟩ : ∃ T, T = marksF es cs := ⟨_, rfl⟩
      rw [← hT0] at HN2 hrow2
      have HT0 := hide hT0
      have HTT : Hid (TreeS T ∧ T.length ≤ 40 ∧ Small T) := hide (by
        rw [hT0]
        exact ⟨marks_tree _ (unhide HT), Nat.le_trans (marks_len _ _) (by rw [← unhide HN]; exact hn), marks_small _ (unhide HS)⟩)
      have HR2 := hide hrow2
      clear hkc hT0 hrow2 HK
      go_wp2_with fail
      go_loopw [7, 10] (fun v i wr => ∃ (k2 : Nat) (ao3 : Option Addr) (cap3 n3 : Nat), k2 ≤ nb ∧ i = .int .i64 k2 ∧ v = .slice ao3 n3 cap3 ∧ Hid (n3 = (putsF T (cs.take k2)).length ∧ TreeS (putsF T (cs.take k2)) ∧ (putsF T (cs.take k2)).length ≤ 40 + k2 ∧ Small (putsF T (cs.take k2))) ∧ ERow wr ao3 (putsF T (cs.take k2)) ∧ Below w.heap.size w wr ∧ Hid (∀ j, j < k2 → putBad T cs j = false)) (fun _ i _ => nb - (intOf i).toNat)
      case atStart => exact ⟨0, ao2, cap2, n2, by omega, rfl, rfl, hide ⟨unhide HN2, (unhide HTT).1, (unhide HTT).2.1, (unhide HTT).2.2⟩, unhide HR2, hb, hide (by intro j hj; omega)⟩
      case round =>
        obtain ⟨k2, ao3, cap3, n3, hk2, rfl, rfl, HN3, hrow3, hb3, HK2⟩ := hrel
        by_cases hlt2 : k2 < nb
        · obtain ⟨c, he⟩ : ∃ c, cs[k2]? = some c := ⟨cs[k2]'(by have := unhide HNb; omega), List.getElem?_eq_getElem (by have := unhide HNb; omega)⟩
          obtain ⟨g2, o2, rfl, c0, c1, c2, c3⟩ := (hrc.below hb3) k2 c he
          have j0 : (0 : Int) ≤ (k2 : Int) := by omega
          have j1 : (k2 : Int) < (nb : Int) := by omega
          have hsc := unhide HSc c (List.mem_of_getElem? he)
          have hs1 := hsc.1
          have HSc1 := hide hsc
          have HLen : Hid (k2 < cs.length) := hide (by have := unhide HNb; omega)
          have HPk0 := hide (puts_snoc (t := T) he)
          have HCc := hide (unhide HC c (List.mem_of_getElem? he))
          have hn3 : n3 ≤ 200 := by rw [(unhide HN3).1]; have := (unhide HN3).2.2.1; omega
          obtain ⟨W0, hW0⟩ : ∃ W0, W0 = wr.alloc (.cells #[.string c.path, .int .i64 c.kind, .int .i64 c.mode, .string c.data] 39) := ⟨_, rfl⟩
          have hB0w : Below wr.heap.size wr W0 := by rw [hW0]; exact (Below.refl _ _).alloc (Nat.le_refl _) _
          have hB0 := hb3.trans (hB0w.mono hb3.size)
          have q0 : W0.cell? ⟨wr.heap.size, 0, none⟩ = some (.string c.path) := by rw [hW0]; exact cell_of_row _ _ 0 _ _ _ (heap_alloc_new _ _)
          have q1 : W0.cell? ⟨wr.heap.size, 1, none⟩ = some (.int .i64 c.kind) := by rw [hW0]; exact cell_of_row _ _ 1 _ _ _ (heap_alloc_new _ _)
          have q2 : W0.cell? ⟨wr.heap.size, 2, none⟩ = some (.int .i64 c.mode) := by rw [hW0]; exact cell_of_row _ _ 2 _ _ _ (heap_alloc_new _ _)
          have q3 : W0.cell? ⟨wr.heap.size, 3, none⟩ = some (.string c.data) := by rw [hW0]; exact cell_of_row _ _ 3 _ _ _ (heap_alloc_new _ _)
          have HEc := hide he
          have HR3 := hide (hrow3.below hB0w)
          clear he hsc hrow3
          go_upto_region 16 with fail
          rw [← hW0]
          clear hW0 c0 c1 c2 c3
          by_cases hmk : c.kind = 4 ∨ c.kind = 5
          · have C : Hid (putBad T cs k2 = false) := hide (by rw [putBad_eq (unhide HEc), decide_eq_true hmk]; rfl)
            have HMk : Hid (putsF T (cs.take (k2 + 1)) = putsF T (cs.take k2)) := hide (by rw [unhide HPk0, put1, if_pos hmk])
            have HNn : Hid (n3 = (putsF T (cs.take (k2 + 1))).length ∧ TreeS (putsF T (cs.take (k2 + 1))) ∧ (putsF T (cs.take (k2 + 1))).length ≤ 40 + (k2 + 1) ∧ Small (putsF T (cs.take (k2 + 1)))) := hide (by rw [unhide HMk]; have h := unhide HN3; exact ⟨h.1, h.2.1, by omega, h.2.2.2⟩)
            have HRn : ERow W0 ao3 (putsF T (cs.take (k2 + 1))) := by rw [unhide HMk]; exact unhide HR3
            have HBn : Below w.heap.size w W0 := hB0
            rcases hmk with h4 | h5
            · rw [h4] at q1
              clear h4
              go_wp2_with fail
              go_roundw
              case rel =>
                have R : ∀ j, j < k2 + 1 → putBad T cs j = false := fun j hj => by
                  rcases Nat.lt_or_ge j k2 with h | h
                  · exact unhide HK2 j h
                  · have e9 : j = k2 := by omega
                    rw [e9]; exact unhide C
                first
                  | exact ⟨k2 + 1, _, _, _, by omega, by go_num, rfl, HNn, HRn, HBn, hide R⟩
                  | ((repeat apply Exists.intro); exact ⟨⟨k2 + 1, _, _, _, by omega, by go_num, rfl, HNn, HRn, HBn, hide R⟩, rfl⟩)
              case measure => simp [intOf]; omega
            · rw [h5] at q1
              clear h5
              go_wp2_with fail
              go_roundw
              case rel =>
                have R : ∀ j, j < k2 + 1 → putBad T cs j = false := fun j hj => by
                  rcases Nat.lt_or_ge j k2 with h | h
                  · exact unhide HK2 j h
                  · have e9 : j = k2 := by omega
                    rw [e9]; exact unhide C
                first
                  | exact ⟨k2 + 1, _, _, _, by omega, by go_num, rfl, HNn, HRn, HBn, hide R⟩
                  | ((repeat apply Exists.intro); exact ⟨⟨k2 + 1, _, _, _, by omega, by go_num, rfl, HNn, HRn, HBn, hide R⟩, rfl⟩)
              case measure => simp [intOf]; omega
          · have h4 : ¬ c.kind = 4 := fun h => hmk (.inl h)
            have h5 : ¬ c.kind = 5 := fun h => hmk (.inr h)
            have h4' : (c.kind == 4) = false := by simp [h4]
            have h5' : (c.kind == 5) = false := by simp [h5]
            have HEn := hide (chOk_ent (unhide HCc) hmk)
            have HP0 : Hid (c.path.data.toList ≠ []) := hide (ent_parts (unhide HEn)).1
            have HMk := hide hmk
            clear hmk
            by_cases k1 : kindP (putsF T (cs.take k2)) (dirOf c.path.data.toList) = 1
            · have C : Hid (putBad T cs k2 = false) := hide (by rw [putBad_eq (unhide HEc), decide_eq_true k1]; simp)
              have HMe : Hid (putsF T (cs.take (k2 + 1)) = putE (putsF T (cs.take k2)) c) := hide (by rw [unhide HPk0, put1, if_neg (unhide HMk)])
              have HK1 := hide k1
              clear k1 h4 h5
              go_wp2_with (first
                | (go_at_call 30; refine (up_any c.path _ (by omega) (unhide HP0)).mono ?_; rintro ev w4 ⟨dd, nn, rfl, HD, HNm, hb4⟩; have q0 := cell_later hb4 q0; have q1 := cell_later hb4 q1; have q2 := cell_later hb4 q2; have q3 := cell_later hb4 q3)
                | (go_at_call 31; refine (kind_any _ _ _ (putsF T (cs.take k2)) dd _ ((unhide HR3).below hb4) (hide (unhide HN3).1) (by omega)).mono ?_; rintro ev w5 ⟨kd, rfl, HKD, hw⟩; obtain rfl := hw.symm; have hkd : kd = 1 := (by rw [unhide HKD, unhide HD]; exact unhide HK1); subst hkd)
                | (go_at_call 39; refine (refPut_any ao3 cap3 n3 (putsF T (cs.take k2)) c _ ((unhide HR3).below hb4) (hide (unhide HN3).1) (by omega) (hide (unhide HN3).2.1) (hide (unhide HN3).2.2.2) hs1).mono ?_; rintro ev w6 ⟨ao4, cap4, n4, rfl, HN4, hrow4, hnc4, hb6⟩))
              have hB4 := hB0.trans (hb4.mono hB0.size)
              have HNn : Hid (n4 = (putsF T (cs.take (k2 + 1))).length ∧ TreeS (putsF T (cs.take (k2 + 1))) ∧ (putsF T (cs.take (k2 + 1))).length ≤ 40 + (k2 + 1) ∧ Small (putsF T (cs.take (k2 + 1)))) := hide (by
                rw [unhide HMe]
                have h := unhide HN3
                refine ⟨unhide HN4, put_tree h.2.1 (unhide HEn) (unhide HK1), ?_, fun e he => ?_⟩
                · have := put_len (f := Ent.q) h.2.1.ord (bothE (putsF T (cs.take k2)) c) c
                  rw [putE]; omega
                · rcases put_mem.1 he with e1 | ⟨e1, _⟩
                  · rw [e1]; exact unhide HSc1
                  · exact h.2.2.2 e e1)
              have HRn : ERow w6 ao4 (putsF T (cs.take (k2 + 1))) := by rw [unhide HMe]; exact hrow4
              have HBn : Below w.heap.size w w6 := hB4.trans (hb6.mono hB4.size)
              go_roundw
              case rel =>
                have R : ∀ j, j < k2 + 1 → putBad T cs j = false := fun j hj => by
                  rcases Nat.lt_or_ge j k2 with h | h
                  · exact unhide HK2 j h
                  · have e9 : j = k2 := by omega
                    rw [e9]; exact unhide C
                first
                  | exact ⟨k2 + 1, _, _, _, by omega, by go_num, rfl, HNn, HRn, HBn, hide R⟩
                  | ((repeat apply Exists.intro); exact ⟨⟨k2 + 1, _, _, _, by omega, by go_num, rfl, HNn, HRn, HBn, hide R⟩, rfl⟩)
              case measure => simp [intOf]; omega
            · have C : Hid (putBad T cs k2 = true) := hide (by rw [putBad_eq (unhide HEc), decide_eq_false (unhide HMk), decide_eq_false k1]; rfl)
              have HK1 := hide k1
              clear k1 h4 h5
              go_wp2_with (first
                | (go_at_call 30; refine (up_any c.path _ (by omega) (unhide HP0)).mono ?_; rintro ev w4 ⟨dd, nn, rfl, HD, HNm, hb4⟩; have q0 := cell_later hb4 q0; have q1 := cell_later hb4 q1; have q2 := cell_later hb4 q2; have q3 := cell_later hb4 q3)
                | (go_at_call 31; refine (kind_any _ _ _ (putsF T (cs.take k2)) dd _ ((unhide HR3).below hb4) (hide (unhide HN3).1) (by omega)).mono ?_; rintro ev w5 ⟨kd, rfl, HKD, hw⟩; obtain rfl := hw.symm; have hkd : ¬ kd = 1 := (fun h => unhide HK1 (by rw [← unhide HD, ← unhide HKD]; exact h)); have hkd2 : (kd == 1) = false := (by simp [hkd]); have hkd3 : (kd != 1) = true := (by simp [hkd])))
              go_ret3
              refine ⟨none, 0, 0, [], 9, k2, rfl, hide rfl, fun k e hk => by simp at hk, hide (.inr (.inl ⟨unhide HF1, k2, rfl, rfl, rfl, ?_⟩)), hB0.trans (hb4.mono hB0.size)⟩
              rw [← unhide HT0]
              exact .inr ⟨k2, rfl, unhide HLen, unhide C, unhide HK2⟩
        · have hkc : cs.take k2 = cs := List.take_of_length_le (by have := unhide HNb; omega)
          rw [hkc] at HN3 hrow3
          have HF2 : Hid (FirstP (putBad (marksF es cs) cs) cs.length (-1)) := hide (by rw [← unhide HT0]; exact .inl ⟨rfl, fun i hi => unhide HK2 i (by have := unhide HNb; omega)⟩)
          have HPt : Hid (putsF T cs = patF es cs) := hide (by rw [patF, ← unhide HT0])
          have HR3 := hide hrow3
          clear hkc hrow3
          by_cases h40 : n3 ≤ 40
          · have i40 : (n3 : Int) ≤ 40 := by omega
            go_wp2_with fail
            go_ret3
            exact ⟨ao3, cap3, n3, patF es cs, 0, -1, rfl, hide (by rw [← unhide HPt]; exact (unhide HN3).1), (by rw [← unhide HPt]; exact unhide HR3), hide (.inr (.inr ⟨unhide HF1, unhide HF2, .inr ⟨(by rw [← unhide HPt, ← (unhide HN3).1]; exact h40), rfl, rfl, rfl⟩⟩)), hb3⟩
          · have i40 : ¬ (n3 : Int) ≤ 40 := by omega
            have i41 : (40 : Int) < (n3 : Int) := by omega
            go_wp2_with fail
            go_ret3
            exact ⟨none, 0, 0, [], 10, -1, rfl, hide rfl, fun k e hk => by simp at hk, hide (.inr (.inr ⟨unhide HF1, unhide HF2, .inl ⟨(by rw [← unhide HPt, ← (unhide HN3).1]; omega), rfl, rfl, rfl⟩⟩)), hb3⟩
end Go.Proofs.YtkeefkfklmhcjaaGreatDoor
