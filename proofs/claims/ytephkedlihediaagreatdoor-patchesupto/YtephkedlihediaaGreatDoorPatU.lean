import Derived.Test.YtephkedlihediaaGreatDoorPatR
import Derived.Test.YtephkedlihediaaGreatDoorJPatB
namespace Go.Proofs.YtephkedlihediaaGreatDoor
open Go.RowKit

theorem blwB {p q : List UInt8} (hq : isP q = true) : blw q p = underB p q := by
  cases h : underB p q
  · cases h2 : blw q p
    · rfl
    · rw [underB_iff.2 ((blw_under hq).1 h2)] at h; cases h
  · exact (blw_under hq).2 (underB_iff.1 h)
theorem wo_yes {es : List Ent} {k : Nat} {e : Ent} {p : List UInt8} {self : Bool} (he : es[k]? = some e) (h : keepW p self e.path.data.toList = true) : wo (es.take (k + 1)) p self = wo (es.take k) p self ++ [e] := by
  rw [wo, wo, woG, woG, List.take_add_one, he, List.filter_append]; simp [Ent.q, h]
theorem wo_not {es : List Ent} {k : Nat} {e : Ent} {p : List UInt8} {self : Bool} (he : es[k]? = some e) (h : keepW p self e.path.data.toList = false) : wo (es.take (k + 1)) p self = wo (es.take k) p self := by
  rw [wo, wo, woG, woG, List.take_add_one, he, List.filter_append]; simp [Ent.q, h]

set_option maxHeartbeats 1000000 in
set_option maxRecDepth 100000 in
theorem without_any (ao : Option Addr) (cap n : Nat) (es : List Ent) (p : ByteArray) (self : Bool) (w : World) (hr : ERow w ao es) (HN : Hid (n = es.length)) (hn : n ≤ 1000) (hp : p.size ≤ 1048576) (HP : Hid (∀ e ∈ es, isP e.path.data.toList = true)) :
    Calls Tryz.prog 38 #[.slice ao n cap, .string p, .bool self] w fun ev w' => ∃ ao' cap' n', ev = .returned (.slice ao' n' cap') ∧ Hid (n' = (wo es p.data.toList self).length) ∧ ERow w' ao' (wo es p.data.toList self) ∧ n' ≤ cap' ∧ Below w.heap.size w w' := by
  obtain ⟨i0, hi, hz0, hz1, hz2⟩ := info_parts Tryz.info56
  go_enter Tryz.func38, Tryz.ntmps38
  go_wp2
  go_loopw [7, 8] (fun v i wr => ∃ (k : Nat) (ks : List Ent), k ≤ n ∧ ks.length ≤ k ∧ i = .int .i64 k ∧ OwnE wr w.heap.size v ks ∧ Below w.heap.size w wr ∧ Hid (ks = wo (es.take k) p.data.toList self)) (fun _ i _ => n - (intOf i).toNat)
  case atStart => exact ⟨0, [], by omega, by simp, rfl, World.ownsRow_nil _ _ _ _, Below.refl _ _, hide (by simp [wo, woG])⟩
  case round =>
    obtain ⟨k, ks, hk, hkl, rfl, hown, hb, HK⟩ := hrel
    by_cases hlt : k < n
    · obtain ⟨e, he⟩ : ∃ e, es[k]? = some e := ⟨es[k]'(by have := unhide HN; omega), List.getElem?_eq_getElem (by have := unhide HN; omega)⟩
      obtain ⟨g, o, rfl, c0, c1, c2, c3⟩ := (hr.below hb) k e he
      have i1 : (0 : Int) ≤ (k : Int) := by omega
      have i2 : (k : Int) < (n : Int) := by omega
      have HE := hide he
      have HKW : Hid (keepW p.data.toList self e.path.data.toList = !(blw e.path.data.toList p.data.toList || (self && e.path.data.toList == p.data.toList))) := hide (by rw [blwB (unhide HP e (List.mem_of_getElem? he))]; rfl)
      clear he
      go_upto_region 6 with (go_at_call 37; refine (refBelow_any e.path p _ (by omega)).mono ?_; rintro ev w4 ⟨rfl, hw⟩; obtain rfl := hw.symm)
      cases hbl : blw e.path.data.toList p.data.toList
      · cases self
        · have HQ : Hid (wo (es.take (k + 1)) p.data.toList false = ks ++ [e]) := hide (by rw [wo_yes (unhide HE) (by rw [unhide HKW, hbl]; rfl), unhide HK])
          go_wp2_with (first | (at_builtin; refine wpList_append_own _ rfl _ _ 22 rfl w.heap.size 56 i0 _ 4 48 Tryz.underlying22 hi hz0 hz1 hz2 rfl (by decide) _ _ _ rfl (World.ownsRow.alloc hown _) ⟨wr.heap.size, 0, none⟩ 1 1 (ec e) rfl rfl (World.news_of_block (cs := #[.string e.path, .int .i64 e.kind, .int .i64 e.mode, .string e.data]) (t := 56) (fr := (0, 0)) (heap_alloc_new _ _)) (fun y hy => by simp [ec] at hy; rcases hy with rfl | rfl | rfl | rfl <;> rfl) (by unfold maxLen; omega) (by omega) (by have := hb.size; simp; omega) ?_; intro v' w5 hown5 hgrow _))
          go_roundw
          case rel =>
            have R1 : OwnE w5 w.heap.size v' (ks ++ [e]) := by
              unfold OwnE
              rw [List.length_append, show entC (ks ++ [e]) = entC ks ++ ec e from by simp [entC]]
              exact hown5
            have R2 : Below w.heap.size w w5 := (hb.alloc hb.size _).grown hgrow (by have := hb.size; simp; omega) (fun q hq => (World.ownsRow.lt hown q hq).1)
            first
              | exact ⟨k + 1, ks ++ [e], by omega, by simp; omega, by go_num, R1, R2, hide (unhide HQ).symm⟩
              | ((repeat apply Exists.intro); exact ⟨⟨k + 1, ks ++ [e], by omega, by simp; omega, by go_num, R1, R2, hide (unhide HQ).symm⟩, rfl⟩)
          case measure => simp [intOf]; omega
        · by_cases hq : e.path.data.toList = p.data.toList
          · have g1 : (e.path.toList == p.toList) = true := by rw [Lib.toList_data, Lib.toList_data, hq]; simp
            have HQ : Hid (wo (es.take (k + 1)) p.data.toList true = ks) := hide (by rw [wo_not (unhide HE) (by rw [unhide HKW, hq]; simp), unhide HK])
            clear hq
            go_wp2_with fail
            go_roundw
            case rel =>
              first
                | exact ⟨k + 1, ks, by omega, by omega, by go_num, hown, hb, hide (unhide HQ).symm⟩
                | ((repeat apply Exists.intro); exact ⟨⟨k + 1, ks, by omega, by omega, by go_num, hown, hb, hide (unhide HQ).symm⟩, rfl⟩)
            case measure => simp [intOf]; omega
          · have g1 : (e.path.toList == p.toList) = false := by rw [Lib.toList_data, Lib.toList_data]; simpa using hq
            have HQ : Hid (wo (es.take (k + 1)) p.data.toList true = ks ++ [e]) := hide (by
              have h2 : (e.path.data.toList == p.data.toList) = false := by simpa using hq
              rw [wo_yes (unhide HE) (by rw [unhide HKW, hbl, h2]; rfl), unhide HK])
            clear hq
            go_wp2_with (first | (at_builtin; refine wpList_append_own _ rfl _ _ 22 rfl w.heap.size 56 i0 _ 4 48 Tryz.underlying22 hi hz0 hz1 hz2 rfl (by decide) _ _ _ rfl (World.ownsRow.alloc hown _) ⟨wr.heap.size, 0, none⟩ 1 1 (ec e) rfl rfl (World.news_of_block (cs := #[.string e.path, .int .i64 e.kind, .int .i64 e.mode, .string e.data]) (t := 56) (fr := (0, 0)) (heap_alloc_new _ _)) (fun y hy => by simp [ec] at hy; rcases hy with rfl | rfl | rfl | rfl <;> rfl) (by unfold maxLen; omega) (by omega) (by have := hb.size; simp; omega) ?_; intro v' w5 hown5 hgrow _))
            go_roundw
            case rel =>
              have R1 : OwnE w5 w.heap.size v' (ks ++ [e]) := by
                unfold OwnE
                rw [List.length_append, show entC (ks ++ [e]) = entC ks ++ ec e from by simp [entC]]
                exact hown5
              have R2 : Below w.heap.size w w5 := (hb.alloc hb.size _).grown hgrow (by have := hb.size; simp; omega) (fun q hq => (World.ownsRow.lt hown q hq).1)
              first
                | exact ⟨k + 1, ks ++ [e], by omega, by simp; omega, by go_num, R1, R2, hide (unhide HQ).symm⟩
                | ((repeat apply Exists.intro); exact ⟨⟨k + 1, ks ++ [e], by omega, by simp; omega, by go_num, R1, R2, hide (unhide HQ).symm⟩, rfl⟩)
            case measure => simp [intOf]; omega
      · have HQ : Hid (wo (es.take (k + 1)) p.data.toList self = ks) := hide (by rw [wo_not (unhide HE) (by rw [unhide HKW, hbl]; rfl), unhide HK])
        go_wp2_with fail
        go_roundw
        case rel =>
          first
            | exact ⟨k + 1, ks, by omega, by omega, by go_num, hown, hb, hide (unhide HQ).symm⟩
            | ((repeat apply Exists.intro); exact ⟨⟨k + 1, ks, by omega, by omega, by go_num, hown, hb, hide (unhide HQ).symm⟩, rfl⟩)
        case measure => simp [intOf]; omega
    · obtain ⟨ao', cap', n', rfl, HN', hrow, hnc⟩ := ownE_row hown
      have HF : Hid (ks = wo es p.data.toList self) := hide (by rw [unhide HK, List.take_of_length_le (by have := unhide HN; omega)])
      go_wp2_with fail
      go_ret
      exact ⟨ao', cap', n', rfl, hide (by rw [← unhide HF]; exact unhide HN'), (by rw [← unhide HF]; exact hrow), hnc, hb⟩
end Go.Proofs.YtephkedlihediaaGreatDoor
