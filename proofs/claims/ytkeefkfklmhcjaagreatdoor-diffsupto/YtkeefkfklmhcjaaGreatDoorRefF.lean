import Derived.Test.YtkeefkfklmhcjaaGreatDoorDifP
import Derived.Test.YtkeefkfklmhcjaaGreatDoorChl
import Derived.Maps.AppendAt
import Derived.Deep.RegionHeld3
namespace Go.Proofs.YtkeefkfklmhcjaaGreatDoor
open Go.RowKit
attribute [local go_sem] setCell_drewN alloc_drewN

theorem Own.later {w w' : World} {B : Nat} {v : Value} {ps : List ByteArray} (h : Own w B v ps) (hb : Below w.heap.size w w') : Own w' B v ps :=
  World.ownsRow.kept (row := none) h ⟨hb.os, hb.tape, hb.output, hb.size, fun k hk _ => hb.block k hk⟩ (by cases v.ownBlock <;> simp)
theorem own_snoc {w : World} {B : Nat} {v : Value} {ps : List ByteArray} {p : ByteArray} (h : w.ownsRow B 9 1 v (ps.length + 1) (ps.map Value.string ++ [Value.string p])) : Own w B v (ps ++ [p]) := by
  unfold Own
  rw [List.length_append, List.map_append]; exact h
theorem own_up {w W w1 : World} {v : Value} {ps : List ByteArray} {o : Obj} (h : Own W w.heap.size v ps) (hb : Below w.heap.size w W) (hg : (W.alloc o).grownBy w1 v.ownBlock) : Below w.heap.size w w1 :=
  (hb.alloc hb.size o).grown hg (by have := hb.size; simp; omega) (fun q hq => (World.ownsRow.lt h q hq).1)
theorem ptsE_drop {es : List Ent} {i : Nat} {e : Ent} (h : es[i]? = some e) : (ptsE es).drop i = e.path.data.toList :: (ptsE es).drop (i + 1) := by
  refine drop_at ?_
  rw [ptsE, List.getElem?_map, h]; rfl
theorem ptsE_end {es : List Ent} {i : Nat} (h : es.length ≤ i) : (ptsE es).drop i = [] := List.drop_of_length_le (by simpa [ptsE] using h)
theorem mrg_nil (xs : List (List UInt8)) : mrg xs [] = xs := by cases xs <;> simp [mrg]
set_option maxHeartbeats 3000000 in
set_option maxRecDepth 100000 in
theorem both_any (ao bo : Option Addr) (ca cb na nb : Nat) (xa xb : List Ent) (w : World) (ha : ERow w ao xa) (hb : ERow w bo xb) (HNa : Hid (na = xa.length)) (HNb : Hid (nb = xb.length)) (HTa : Hid (Tree xa)) (HTb : Hid (Tree xb)) :
    Calls Tryz.prog 33 #[.slice ao na ca, .slice bo nb cb] w fun ev w' => ∃ (g cap n : Nat) (ps : List ByteArray), ev = .returned (.slice (some ⟨g, 0, none⟩) n cap) ∧ Hid (n = ps.length) ∧ TRow w' (some ⟨g, 0, none⟩) ps ∧ Hid (txts ps = allP xa xb) ∧ Below w.heap.size w w' := by
  obtain ⟨i0, hi, hz0, hz1, hz2⟩ := info_parts Tryz.info9
  have hna : na ≤ 40 := by rw [unhide HNa]; exact (unhide HTa).len
  have hnb : nb ≤ 40 := by rw [unhide HNb]; exact (unhide HTb).len
  have hb0 : Below w.heap.size w (w.alloc (.cells #[.string ⟨#[]⟩] 9)) := (Below.refl _ _).alloc (Nat.le_refl _) _
  have own0 : Own (w.alloc (.cells #[.string ⟨#[]⟩] 9)) w.heap.size (.slice (some ⟨w.heap.size, 0, none⟩) 1 1) [⟨#[]⟩] := by
    have := World.ownsRow_lit (base := w.heap.size) (e := 9) (size := 1) w #[.string ⟨#[]⟩] 1 (Nat.le_refl _) (by unfold maxLen; omega) (by simp)
    simpa [Own] using this
  go_enter Tryz.func33, Tryz.ntmps33
  go_upto_region 4 with fail
  go_loopw [5, 6, 7] (fun v u x wr => ∃ (i k : Nat) (ps : List ByteArray), i ≤ na ∧ k ≤ nb ∧ u = .int .i64 i ∧ x = .int .i64 k ∧ ps.length ≤ 1 + i + k ∧ Own wr w.heap.size v ps ∧ Below w.heap.size w wr ∧ Hid (txts ps ++ mrg ((ptsE xa).drop i) ((ptsE xb).drop k) = allP xa xb) ∧ Hid (ps ≠ [])) (fun _ u x _ => (na - (intOf u).toNat) + (nb - (intOf x).toNat))
  case atStart => exact ⟨0, 0, [⟨#[]⟩], by omega, by omega, rfl, rfl, by simp, own0, hb0, hide (by simp [txts, allP]), hide (by simp)⟩
  case round =>
    obtain ⟨i, k, ps, hia, hkb, rfl, rfl, hpl, hown, hbw, HK, HNE⟩ := hrel
    have HOwn := hide hown
    by_cases hi1 : i < na
    · obtain ⟨e, he⟩ : ∃ e, xa[i]? = some e := ⟨xa[i]'(by have := unhide HNa; omega), List.getElem?_eq_getElem (by have := unhide HNa; omega)⟩
      obtain ⟨g1, o1, rfl, c0, _⟩ := (ha.below hbw) i e he
      have HEd := hide (ptsE_drop he)
      have hes := ((unhide HTa).small e (List.mem_of_getElem? he)).1
      have p1 : (0 : Int) ≤ (i : Int) := by omega
      have p2 : (i : Int) < (na : Int) := by omega
      have p3 : ((i : Int) == (na : Int)) = false := by simp; omega
      have p4 : ¬ (i : Int) = (na : Int) := by omega
      by_cases hk1 : k < nb
      · obtain ⟨f, hf⟩ : ∃ f, xb[k]? = some f := ⟨xb[k]'(by have := unhide HNb; omega), List.getElem?_eq_getElem (by have := unhide HNb; omega)⟩
        obtain ⟨g2, o2, rfl, d0, _⟩ := (hb.below hbw) k f hf
        have HFd := hide (ptsE_drop hf)
        have hfs := ((unhide HTb).small f (List.mem_of_getElem? hf)).1
        have q1 : (0 : Int) ≤ (k : Int) := by omega
        have q2 : (k : Int) < (nb : Int) := by omega
        have q3 : ((k : Int) == (nb : Int)) = false := by simp; omega
        have q4 : ¬ (k : Int) = (nb : Int) := by omega
        clear he hf hown
        go_upto_region 6 with fail
        go_region_held3 (fun w' => w'.cell? ⟨g1, o1 + i * 4, none⟩ = some (.string e.path) ∧ w'.cell? ⟨g2, o2 + k * 4, none⟩ = some (.string f.path)) (first | exact ⟨cell_later (chain0 hb3) c0, cell_later (chain0 hb3) d0⟩ | go_keep)
          (first | (go_at_call 29; refine (order_any e.path f.path _ ?_ ?_).mono ?_; omega; omega; rintro ev w3 ⟨r, rfl, hrl, hrz, hb3⟩))
        have hB3 := hbw.trans (Below.mono (B' := w.heap.size) (chain0 hb3) hbw.size)
        have c0 := cell_later (chain0 hb3) c0
        have d0 := cell_later (chain0 hb3) d0
        have HO3 := hide ((unhide HOwn).later (chain0 hb3))
        have HR := hide hrl
        have HZ := hide hrz
        clear hrl hrz hb3
        by_cases hneg : r < 0
        · have HMg : Hid (txts (ps ++ [e.path]) ++ mrg ((ptsE xa).drop (i + 1)) ((ptsE xb).drop k) = allP xa xb) := hide (by
            have hl : ltP e.path.data.toList f.path.data.toList = true := (unhide HR).1 hneg
            have h := unhide HK
            rw [unhide HEd, unhide HFd, mrg, if_pos hl, ← unhide HFd] at h
            rw [← h]; simp [txts])
          have n1 : r ≤ 0 := by omega
          have n2 : ¬ 0 ≤ r := by omega
          go_wp2_with (first | (at_builtin; refine wpList_append_own _ rfl _ _ 65 rfl w.heap.size 9 i0 _ 1 16 Tryz.underlying65 hi hz0 hz1 hz2 rfl (by decide) _ _ _ rfl (World.ownsRow.alloc (unhide HO3) _) ⟨w3.heap.size, 0, none⟩ 1 1 [.string e.path] rfl rfl (cell_one_new _ _ _) (by simp [Value.oneCell']) (by unfold maxLen; omega) (by omega) (by have := hB3.size; simp; omega) ?_; intro v5 w5 hown5 hgrow5 _; have HO5 := hide (own_snoc hown5); have hB5 := own_up (unhide HO3) hB3 hgrow5; clear hown5 hgrow5))
          go_roundw
          case rel =>
            first
              | exact ⟨(i + 1), k, ps ++ [e.path], by omega, by omega, by go_num, by go_num, by simp; omega, unhide HO5, hB5, HMg, hide (by simp)⟩
              | ((repeat apply Exists.intro); exact ⟨⟨(i + 1), k, ps ++ [e.path], by omega, by omega, by go_num, by go_num, by simp; omega, unhide HO5, hB5, HMg, hide (by simp)⟩, rfl⟩)
          case measure => simp [intOf]; omega
        · by_cases hzero : r = 0
          · have HMg : Hid (txts (ps ++ [e.path]) ++ mrg ((ptsE xa).drop (i + 1)) ((ptsE xb).drop (k + 1)) = allP xa xb) := hide (by
              have hc := (unhide HZ).1 hzero
              have heq : prt e.path.data.toList = prt f.path.data.toList := by
                unfold cmpT at hc
                split at hc
                · omega
                · split at hc
                  · assumption
                  · omega
              have h1 : ltP e.path.data.toList f.path.data.toList = false := by rw [ltP, heq]; exact ltL_irr _
              have h2 : ltP f.path.data.toList e.path.data.toList = false := by rw [ltP, heq]; exact ltL_irr _
              have h := unhide HK
              rw [unhide HEd, unhide HFd, mrg, if_neg (by rw [h1]; simp), if_neg (by rw [h2]; simp)] at h
              rw [← h]; simp [txts])
            subst hzero
            go_wp2_with (first | (at_builtin; refine wpList_append_own _ rfl _ _ 65 rfl w.heap.size 9 i0 _ 1 16 Tryz.underlying65 hi hz0 hz1 hz2 rfl (by decide) _ _ _ rfl (World.ownsRow.alloc (unhide HO3) _) ⟨w3.heap.size, 0, none⟩ 1 1 [.string e.path] rfl rfl (cell_one_new _ _ _) (by simp [Value.oneCell']) (by unfold maxLen; omega) (by omega) (by have := hB3.size; simp; omega) ?_; intro v5 w5 hown5 hgrow5 _; have HO5 := hide (own_snoc hown5); have hB5 := own_up (unhide HO3) hB3 hgrow5; clear hown5 hgrow5))
            go_roundw
            case rel =>
              first
                | exact ⟨(i + 1), (k + 1), ps ++ [e.path], by omega, by omega, by go_num, by go_num, by simp; omega, unhide HO5, hB5, HMg, hide (by simp)⟩
                | ((repeat apply Exists.intro); exact ⟨⟨(i + 1), (k + 1), ps ++ [e.path], by omega, by omega, by go_num, by go_num, by simp; omega, unhide HO5, hB5, HMg, hide (by simp)⟩, rfl⟩)
            case measure => simp [intOf]; omega
          · have HMg : Hid (txts (ps ++ [f.path]) ++ mrg ((ptsE xa).drop i) ((ptsE xb).drop (k + 1)) = allP xa xb) := hide (by
              have h1 : ltP e.path.data.toList f.path.data.toList = false := by
                cases hq : ltP e.path.data.toList f.path.data.toList with
                | false => rfl
                | true => exact absurd ((unhide HR).2 hq) hneg
              have h2 : ltP f.path.data.toList e.path.data.toList = true := by
                cases hq : ltP f.path.data.toList e.path.data.toList with
                | true => rfl
                | false =>
                  have e2 := ltL_total h1 hq
                  exact absurd ((unhide HZ).2 (by rw [cmpT, e2]; simp [ltL_irr])) hzero
              have h := unhide HK
              rw [unhide HEd, unhide HFd, mrg, if_neg (by rw [h1]; simp), if_pos h2, ← unhide HEd] at h
              rw [← h]; simp [txts])
            have n1 : ¬ r ≤ 0 := by omega
            have n2 : 0 ≤ r := by omega
            go_wp2_with (first | (at_builtin; refine wpList_append_own _ rfl _ _ 65 rfl w.heap.size 9 i0 _ 1 16 Tryz.underlying65 hi hz0 hz1 hz2 rfl (by decide) _ _ _ rfl (World.ownsRow.alloc (unhide HO3) _) ⟨w3.heap.size, 0, none⟩ 1 1 [.string f.path] rfl rfl (cell_one_new _ _ _) (by simp [Value.oneCell']) (by unfold maxLen; omega) (by omega) (by have := hB3.size; simp; omega) ?_; intro v5 w5 hown5 hgrow5 _; have HO5 := hide (own_snoc hown5); have hB5 := own_up (unhide HO3) hB3 hgrow5; clear hown5 hgrow5))
            go_roundw
            case rel =>
              first
                | exact ⟨i, (k + 1), ps ++ [f.path], by omega, by omega, by go_num, by go_num, by simp; omega, unhide HO5, hB5, HMg, hide (by simp)⟩
                | ((repeat apply Exists.intro); exact ⟨⟨i, (k + 1), ps ++ [f.path], by omega, by omega, by go_num, by go_num, by simp; omega, unhide HO5, hB5, HMg, hide (by simp)⟩, rfl⟩)
            case measure => simp [intOf]; omega
      · have q3 : ((k : Int) == (nb : Int)) = true := by simp; omega
        have q4 : (k : Int) = (nb : Int) := by omega
        have HMg : Hid (txts (ps ++ [e.path]) ++ mrg ((ptsE xa).drop (i + 1)) ((ptsE xb).drop k) = allP xa xb) := hide (by
          have h := unhide HK
          rw [unhide HEd, ptsE_end (es := xb) (by have := unhide HNb; omega), mrg_nil] at h
          rw [← h, ptsE_end (es := xb) (by have := unhide HNb; omega), mrg_nil]; simp [txts])
        have hB3 := hbw
        have HO3 := HOwn
        clear he hown
        go_wp2_with (first | (at_builtin; refine wpList_append_own _ rfl _ _ 65 rfl w.heap.size 9 i0 _ 1 16 Tryz.underlying65 hi hz0 hz1 hz2 rfl (by decide) _ _ _ rfl (World.ownsRow.alloc (unhide HO3) _) ⟨wr.heap.size, 0, none⟩ 1 1 [.string e.path] rfl rfl (cell_one_new _ _ _) (by simp [Value.oneCell']) (by unfold maxLen; omega) (by omega) (by have := hB3.size; simp; omega) ?_; intro v5 w5 hown5 hgrow5 _; have HO5 := hide (own_snoc hown5); have hB5 := own_up (unhide HO3) hB3 hgrow5; clear hown5 hgrow5))
        go_roundw
        case rel =>
          first
            | exact ⟨(i + 1), k, ps ++ [e.path], by omega, by omega, by go_num, by go_num, by simp; omega, unhide HO5, hB5, HMg, hide (by simp)⟩
            | ((repeat apply Exists.intro); exact ⟨⟨(i + 1), k, ps ++ [e.path], by omega, by omega, by go_num, by go_num, by simp; omega, unhide HO5, hB5, HMg, hide (by simp)⟩, rfl⟩)
        case measure => simp [intOf]; omega
    · have p3 : ((i : Int) == (na : Int)) = true := by simp; omega
      have p4 : (i : Int) = (na : Int) := by omega
      have p5 : ¬ (i : Int) < (na : Int) := by omega
      by_cases hk1 : k < nb
      · obtain ⟨f, hf⟩ : ∃ f, xb[k]? = some f := ⟨xb[k]'(by have := unhide HNb; omega), List.getElem?_eq_getElem (by have := unhide HNb; omega)⟩
        obtain ⟨g2, o2, rfl, d0, _⟩ := (hb.below hbw) k f hf
        have HFd := hide (ptsE_drop hf)
        have q1 : (0 : Int) ≤ (k : Int) := by omega
        have q2 : (k : Int) < (nb : Int) := by omega
        have HMg : Hid (txts (ps ++ [f.path]) ++ mrg ((ptsE xa).drop i) ((ptsE xb).drop (k + 1)) = allP xa xb) := hide (by
          have h := unhide HK
          rw [unhide HFd, ptsE_end (es := xa) (by have := unhide HNa; omega), mrg] at h
          rw [← h, ptsE_end (es := xa) (by have := unhide HNa; omega), mrg]; simp [txts])
        have hB3 := hbw
        have HO3 := HOwn
        clear hf hown
        go_wp2_with (first | (at_builtin; refine wpList_append_own _ rfl _ _ 65 rfl w.heap.size 9 i0 _ 1 16 Tryz.underlying65 hi hz0 hz1 hz2 rfl (by decide) _ _ _ rfl (World.ownsRow.alloc (unhide HO3) _) ⟨wr.heap.size, 0, none⟩ 1 1 [.string f.path] rfl rfl (cell_one_new _ _ _) (by simp [Value.oneCell']) (by unfold maxLen; omega) (by omega) (by have := hB3.size; simp; omega) ?_; intro v5 w5 hown5 hgrow5 _; have HO5 := hide (own_snoc hown5); have hB5 := own_up (unhide HO3) hB3 hgrow5; clear hown5 hgrow5))
        go_roundw
        case rel =>
          first
            | exact ⟨i, (k + 1), ps ++ [f.path], by omega, by omega, by go_num, by go_num, by simp; omega, unhide HO5, hB5, HMg, hide (by simp)⟩
            | ((repeat apply Exists.intro); exact ⟨⟨i, (k + 1), ps ++ [f.path], by omega, by omega, by go_num, by go_num, by simp; omega, unhide HO5, hB5, HMg, hide (by simp)⟩, rfl⟩)
        case measure => simp [intOf]; omega
      · have q5 : ¬ (k : Int) < (nb : Int) := by omega
        have HF : Hid (txts ps = allP xa xb) := hide (by
          have h := unhide HK
          rw [ptsE_end (es := xa) (by have := unhide HNa; omega), ptsE_end (es := xb) (by have := unhide HNb; omega), mrg, List.append_nil] at h
          exact h)
        obtain ⟨g, cap, rfl⟩ := own_form hown (unhide HNE)
        go_wp2_with fail
        go_ret
        exact ⟨g, cap, _, rfl, ps, hide rfl, trow_of_own (unhide HOwn), HF, hbw⟩
end Go.Proofs.YtkeefkfklmhcjaaGreatDoor
