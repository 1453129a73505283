import Derived.Test.YtephkedlihediaaGreatDoorPatV
import Derived.Deep.Cut
import Derived.Deep.CutRange
namespace Go.Proofs.YtephkedlihediaaGreatDoor
open Go.RowKit

theorem ownE_below {W W' : World} {B : Nat} {v : Value} {ks : List Ent} (h : OwnE W B v ks) (hb : Below W.heap.size W W') : OwnE W' B v ks := World.ownsRow.kept (row := none) h ⟨hb.os, hb.tape, hb.output, hb.size, fun k hk _ => hb.block k hk⟩ (by cases v.ownBlock <;> simp)
theorem ownE_snoc {W : World} {B : Nat} {v : Value} {ks : List Ent} {e : Ent} (h : W.ownsRow B 56 4 v (ks.length + 1) (entC ks ++ ec e)) : OwnE W B v (ks ++ [e]) := by
  unfold OwnE
  rw [List.length_append, show entC (ks ++ [e]) = entC ks ++ ec e from by simp [entC]]
  exact h
attribute [local go_sem] setCell_drewN alloc_drewN
set_option maxHeartbeats 2000000 in
set_option maxRecDepth 100000 in
theorem refPut_any (ao : Option Addr) (cap n : Nat) (es : List Ent) (e : Ent) (w : World) (hr : ERow w ao es) (HN : Hid (n = es.length)) (hn : n ≤ 1000) (HT : Hid (TreeS es)) (HS : Hid (Small es)) (he1 : e.path.size ≤ 1048576) :
    Calls Tryz.prog 39 #[.slice ao n cap, .agg #[.string e.path, .int .i64 e.kind, .int .i64 e.mode, .string e.data]] w fun ev w' => ∃ ao' cap' n', ev = .returned (.slice ao' n' cap') ∧ Hid (n' = (putE es e).length) ∧ ERow w' ao' (putE es e) ∧ n' ≤ cap' ∧ Below w.heap.size w w' := by
  obtain ⟨i0, hi, hz0, hz1, hz2⟩ := info_parts Tryz.info56
  obtain ⟨W0, hW0⟩ : ∃ W0, W0 = w.alloc (.cells #[.string e.path, .int .i64 e.kind, .int .i64 e.mode, .string e.data] 56) := ⟨_, rfl⟩
  have hB0 : Below w.heap.size w W0 := by rw [hW0]; exact (Below.refl _ _).alloc (Nat.le_refl _) _
  have hbox : W0.heap[w.heap.size]? = some (.cells #[.string e.path, .int .i64 e.kind, .int .i64 e.mode, .string e.data] 56 (0, 0)) := by rw [hW0]; exact heap_alloc_new _ _
  have s0 : W0.heap.size = w.heap.size + 1 := by rw [hW0]; simp
  have q0 : W0.cell? ⟨w.heap.size, 0, none⟩ = some (.string e.path) := cell_of_row _ _ 0 _ _ _ hbox
  have q1 : W0.cell? ⟨w.heap.size, 1, none⟩ = some (.int .i64 e.kind) := cell_of_row _ _ 1 _ _ _ hbox
  have HBx := hide hbox
  have HS0 := hide s0
  clear hbox s0
  go_enter Tryz.func39, Tryz.ntmps39
  go_upto_region 1 with fail
  rw [← hW0]
  clear hW0
  go_cut [5] from 11 to 75 (fun v wx => v = .bool (bothE es e) ∧ wx = W0)
  case first =>
    by_cases k1 : kindP es e.path.data.toList = 1
    · by_cases k2 : e.kind = 1
      · have R : Hid (bothE es e = true) := hide (by rw [bothE, decide_eq_true k1, decide_eq_true k2]; rfl)
        have HK1 := hide k1
        rw [k2] at q1
        clear k1 k2
        go_wp2_with (go_at_call 31; refine (kind_any _ _ _ es e.path _ (hr.below hB0) HN (by omega)).mono ?_; rintro ev w5 ⟨kd, rfl, HKD, hw⟩; obtain rfl := hw.symm; have hkd : kd = 1 := (unhide HKD).trans (unhide HK1); subst hkd)
        go_meet
        exact ⟨congrArg Value.bool (unhide R).symm, rfl⟩
      · have R : Hid (bothE es e = false) := hide (by rw [bothE, decide_eq_false k2]; simp)
        have HK1 := hide k1
        have k2' : (e.kind == 1) = false := by simp [k2]
        clear k1
        go_wp2_with (go_at_call 31; refine (kind_any _ _ _ es e.path _ (hr.below hB0) HN (by omega)).mono ?_; rintro ev w5 ⟨kd, rfl, HKD, hw⟩; obtain rfl := hw.symm; have hkd : kd = 1 := (unhide HKD).trans (unhide HK1); subst hkd)
        go_meet
        exact ⟨congrArg Value.bool (unhide R).symm, rfl⟩
    · have R : Hid (bothE es e = false) := hide (by rw [bothE, decide_eq_false k1]; rfl)
      have HK1 := hide k1
      clear k1
      go_wp2_with (go_at_call 31; refine (kind_any _ _ _ es e.path _ (hr.below hB0) HN (by omega)).mono ?_; rintro ev w5 ⟨kd, rfl, HKD, hw⟩; obtain rfl := hw.symm; have hkd : (kd == 1) = false := (by simp; exact fun h => unhide HK1 ((unhide HKD).symm.trans h)); have hkd2 : ¬ kd = 1 := (fun h => unhide HK1 ((unhide HKD).symm.trans h)))
      go_meet
      exact ⟨congrArg Value.bool (unhide R).symm, rfl⟩
  case rest =>
    obtain ⟨rfl, hw8⟩ := hcut
    obtain rfl := hw8.symm
    obtain ⟨bo, hbo⟩ : ∃ bo, bo = bothE es e := ⟨_, rfl⟩
    rw [← hbo]
    have HBo := hide hbo
    clear hbo
    go_wp2_with fail
    go_loopw [6, 7, 8] (fun v d i wr => ∃ (k : Nat) (ks : List Ent), k ≤ n ∧ ks.length ≤ k + 1 ∧ i = .int .i64 k ∧ d = .bool (dnK e (es.take k)) ∧ OwnE wr (w.heap.size + 1) v ks ∧ Below (w.heap.size + 1) W0 wr ∧ Hid (ks = outK bo e (es.take k))) (fun _ _ i _ => n - (intOf i).toNat)
    case atStart => exact ⟨0, [], by omega, by simp, rfl, rfl, World.ownsRow_nil _ _ _ _, Below.refl _ _, hide (by simp [outK, dnK])⟩
    case round =>
      obtain ⟨k, ks, hk, hkl, rfl, rfl, hown, hb, HK⟩ := hrel
      by_cases hlt : k < n
      · obtain ⟨x, he⟩ : ∃ x, es[k]? = some x := ⟨es[k]'(by have := unhide HN; omega), List.getElem?_eq_getElem (by have := unhide HN; omega)⟩
        have hBw := hB0.trans (hb.mono (Nat.le_succ _))
        obtain ⟨g, o, rfl, c0, c1, c2, c3⟩ := (hr.below hBw) k x he
        have j1 : (0 : Int) ≤ (k : Int) := by omega
        have j2 : (k : Int) < (n : Int) := by omega
        have hs1 := (unhide HS x (List.mem_of_getElem? he)).1
        have HX := hide he
        have hbx := (hb.block w.heap.size (by omega)).trans (unhide HBx)
        have b0 : wr.cell? ⟨w.heap.size, 0, none⟩ = some (.string e.path) := cell_of_row _ _ 0 _ _ _ hbx
        have HTk : Hid (es.take (k + 1) = es.take k ++ [x]) := hide (by rw [List.take_add_one, he]; rfl)
        have HSo : Hid ((es.take k ++ [x]).Pairwise fun a b => ltP a.q b.q = true) := hide (by rw [← unhide HTk]; exact (unhide HT).ord.sublist (List.take_sublist _ _))
        have hlen' : (outK bo e (es.take (k + 1))).length ≤ k + 1 + 1 := Nat.le_trans (outK_len (by rw [unhide HTk]; exact unhide HSo)) (by rw [List.length_take]; omega)
        have HIs : Hid (isP x.path.data.toList = true) := hide (ent_parts ((unhide HT).ent x (List.mem_of_getElem? he))).2.1
        have hsz := hb.size
        have hsz0 := unhide HS0
        clear he
        go_upto_region 7 with fail
        go_region_held3 (fun w' => w'.cell? ⟨g, o + k * 4, none⟩ = some (.string x.path) ∧ w'.cell? ⟨w.heap.size, 0, none⟩ = some (.string e.path)) (first | exact ⟨c0, b0⟩ | exact ⟨cell_later (chain0 hb3) c0, cell_later (chain0 hb3) b0⟩ | go_keep)
          (first | (go_at_call 29; refine (order_any e.path x.path _ ?_ ?_).mono ?_; omega; omega; rintro ev w3 ⟨r, rfl, hrl, hre, hb3⟩))
        have hw3 := chain0 hb3
        have c0 := cell_later hw3 c0
        have c1 := cell_later hw3 c1
        have c2 := cell_later hw3 c2
        have c3 := cell_later hw3 c3
        have hbx := (hw3.block w.heap.size (by omega)).trans hbx
        have b0 : w3.cell? ⟨w.heap.size, 0, none⟩ = some (.string e.path) := cell_of_row _ _ 0 _ _ _ hbx
        have b1 : w3.cell? ⟨w.heap.size, 1, none⟩ = some (.int .i64 e.kind) := cell_of_row _ _ 1 _ _ _ hbx
        have b2 : w3.cell? ⟨w.heap.size, 2, none⟩ = some (.int .i64 e.mode) := cell_of_row _ _ 2 _ _ _ hbx
        have b3 : w3.cell? ⟨w.heap.size, 3, none⟩ = some (.string e.data) := cell_of_row _ _ 3 _ _ _ hbx
        have hsw3 := hw3.size
        have hB3 : Below (w.heap.size + 1) W0 w3.drew := hb.trans ((chain9 hw3).mono (by omega))
        have hown3 : OwnE w3.drew (w.heap.size + 1) u6 ks := ownE_below hown (chain9 hw3)
        have HRl : Hid (r < 0 ↔ ltP e.q x.q = true) := hide hrl
        have HRe : Hid (r = 0 ↔ x.q = e.q) := hide (hre.trans ⟨fun h => (prt_inj (cmpT_eq h)).symm, fun h => by rw [show x.path.data.toList = e.path.data.toList from h]; exact cmpT_same _⟩)
        clear hrl hre hb3 hown hbx
        go_upto_region 8 with fail
        go_region_held3 (fun w' => w'.cell? ⟨g, o + k * 4, none⟩ = some (.string x.path) ∧ w'.cell? ⟨w.heap.size, 0, none⟩ = some (.string e.path)) (first | exact ⟨c0, b0⟩ | go_keep)
          (first | (go_at_call 37; refine (refBelow_any x.path e.path _ (by omega)).mono ?_; rintro ev w7 ⟨rfl, hw⟩; obtain rfl := hw.symm))
        obtain ⟨un, hun⟩ : ∃ un, un = blw x.path.data.toList e.path.data.toList := ⟨_, rfl⟩
        obtain ⟨dn, hdn⟩ : ∃ dn, dn = dnK e (es.take k) := ⟨_, rfl⟩
        rw [← hun, ← hdn]
        have HKp : Hid (keepPut bo e.q x.q = (ltP e.q x.q && (bo || !un))) := hide (by rw [hun, blwB (unhide HIs)]; rfl)
        have HDk := hide hdn
        have HU := hide hun
        clear hun hdn
        by_cases rn : r < 0
        · have hgt := (unhide HRl).1 rn
          have HDn : Hid (dnK e (es.take (k + 1)) = true) := hide (by rw [unhide HTk]; exact (outK_gt (both := bo) hgt).1)
          have HG : Hid (outK bo e (es.take (k + 1)) = ks ++ (if dn = true then [] else [e]) ++ (if keepPut bo e.q x.q = true then [x] else [])) := hide (by rw [unhide HTk, (outK_gt (both := bo) hgt).2, unhide HK, unhide HDk])
          have HKq : Hid (keepPut bo e.q x.q = (bo || !un)) := hide (by rw [unhide HKp, hgt, Bool.true_and])
          have r0 : (r == 0) = false := by simp; omega
          have r1 : ¬ r = 0 := by omega
          clear hgt
          cases dn
          · go_upto_region 12 with (at_builtin; refine wpList_append_own _ rfl _ _ 22 rfl (w.heap.size + 1) 56 i0 _ 4 48 Tryz.underlying22 hi hz0 hz1 hz2 rfl (by decide) _ _ _ rfl (World.ownsRow.alloc hown3 _) ⟨w3.heap.size, 0, none⟩ 1 1 (ec e) rfl rfl (World.news_of_block (cs := #[.string e.path, .int .i64 e.kind, .int .i64 e.mode, .string e.data]) (t := 56) (fr := (0, 0)) (heap_alloc_new _ _)) (fun y hy => by simp [ec] at hy; rcases hy with rfl | rfl | rfl | rfl <;> rfl) (by unfold maxLen; first | omega | (simp; omega)) (by first | omega | (simp; omega)) (by first | omega | (simp; omega)) ?_; intro v5 w5 hown5 hgrow5 _)
            have hown5' := ownE_snoc hown5
            have hB5 : Below (w.heap.size + 1) W0 w5 := (hB3.alloc (by first | omega | (simp; omega)) _).grown hgrow5 (by first | omega | (simp; omega)) (fun q hq => (World.ownsRow.lt hown3 q hq).1)
            have hsz5 := hB5.size
            obtain ⟨g', o', hgo, c0, c1, c2, c3⟩ := (hr.below (hB0.trans (hB5.mono (Nat.le_succ _)))) k x (unhide HX)
            cases hgo
            clear hown5 hgrow5
            cases un
            · have HQ : Hid (ks ++ [e] ++ [x] = outK bo e (es.take (k + 1))) := hide (by rw [unhide HG, unhide HKq]; simp)
              go_wp2_with (at_builtin; refine wpList_append_own _ rfl _ _ 22 rfl (w.heap.size + 1) 56 i0 _ 4 48 Tryz.underlying22 hi hz0 hz1 hz2 rfl (by decide) _ _ _ rfl (World.ownsRow.alloc hown5' _) ⟨w5.heap.size, 0, none⟩ 1 1 (ec x) rfl rfl (World.news_of_block (cs := #[.string x.path, .int .i64 x.kind, .int .i64 x.mode, .string x.data]) (t := 56) (fr := (0, 0)) (heap_alloc_new _ _)) (fun y hy => by simp [ec] at hy; rcases hy with rfl | rfl | rfl | rfl <;> rfl) (by unfold maxLen; first | omega | (simp; omega)) (by first | omega | (simp; omega)) (by first | omega | (simp; omega)) ?_; intro v6 w6 hown6 hgrow6 _)
              have hown6' := ownE_snoc hown6
              have hB6 : Below (w.heap.size + 1) W0 w6 := (hB5.alloc (by first | omega | (simp; omega)) _).grown hgrow6 (by first | omega | (simp; omega)) (fun q hq => (World.ownsRow.lt hown5' q hq).1)
              clear hown6 hgrow6
              go_roundw
              case rel =>
                have R1 := hown6'
                have R2 := hB6
                have hl := hlen'
                first
                  | exact ⟨k + 1, ks ++ [e] ++ [x], by omega, (by rw [unhide HQ]; exact hl), by go_num, (by rw [unhide HDn]), R1, R2, HQ⟩
                  | ((repeat apply Exists.intro); exact ⟨⟨k + 1, ks ++ [e] ++ [x], by omega, (by rw [unhide HQ]; exact hl), by go_num, (by rw [unhide HDn]), R1, R2, HQ⟩, rfl⟩)
              case measure => simp [intOf]; omega
            · cases bo
              · have HQ : Hid (ks ++ [e] = outK false e (es.take (k + 1))) := hide (by rw [unhide HG, unhide HKq]; simp)
                go_wp2_with fail
                go_roundw
                case rel =>
                  have R1 := hown5'
                  have R2 := hB5
                  have hl := hlen'
                  first
                    | exact ⟨k + 1, ks ++ [e], by omega, (by rw [unhide HQ]; exact hl), by go_num, (by rw [unhide HDn]), R1, R2, HQ⟩
                    | ((repeat apply Exists.intro); exact ⟨⟨k + 1, ks ++ [e], by omega, (by rw [unhide HQ]; exact hl), by go_num, (by rw [unhide HDn]), R1, R2, HQ⟩, rfl⟩)
                case measure => simp [intOf]; omega
              · have HQ : Hid (ks ++ [e] ++ [x] = outK true e (es.take (k + 1))) := hide (by rw [unhide HG, unhide HKq]; simp)
                go_wp2_with (at_builtin; refine wpList_append_own _ rfl _ _ 22 rfl (w.heap.size + 1) 56 i0 _ 4 48 Tryz.underlying22 hi hz0 hz1 hz2 rfl (by decide) _ _ _ rfl (World.ownsRow.alloc hown5' _) ⟨w5.heap.size, 0, none⟩ 1 1 (ec x) rfl rfl (World.news_of_block (cs := #[.string x.path, .int .i64 x.kind, .int .i64 x.mode, .string x.data]) (t := 56) (fr := (0, 0)) (heap_alloc_new _ _)) (fun y hy => by simp [ec] at hy; rcases hy with rfl | rfl | rfl | rfl <;> rfl) (by unfold maxLen; first | omega | (simp; omega)) (by first | omega | (simp; omega)) (by first | omega | (simp; omega)) ?_; intro v6 w6 hown6 hgrow6 _)
                have hown6' := ownE_snoc hown6
                have hB6 : Below (w.heap.size + 1) W0 w6 := (hB5.alloc (by first | omega | (simp; omega)) _).grown hgrow6 (by first | omega | (simp; omega)) (fun q hq => (World.ownsRow.lt hown5' q hq).1)
                clear hown6 hgrow6
                go_roundw
                case rel =>
                  have R1 := hown6'
                  have R2 := hB6
                  have hl := hlen'
                  first
                    | exact ⟨k + 1, ks ++ [e] ++ [x], by omega, (by rw [unhide HQ]; exact hl), by go_num, (by rw [unhide HDn]), R1, R2, HQ⟩
                    | ((repeat apply Exists.intro); exact ⟨⟨k + 1, ks ++ [e] ++ [x], by omega, (by rw [unhide HQ]; exact hl), by go_num, (by rw [unhide HDn]), R1, R2, HQ⟩, rfl⟩)
                case measure => simp [intOf]; omega
          · cases un
            · have HQ : Hid (ks ++ [x] = outK bo e (es.take (k + 1))) := hide (by rw [unhide HG, unhide HKq]; simp)
              go_wp2_with (at_builtin; refine wpList_append_own _ rfl _ _ 22 rfl (w.heap.size + 1) 56 i0 _ 4 48 Tryz.underlying22 hi hz0 hz1 hz2 rfl (by decide) _ _ _ rfl (World.ownsRow.alloc hown3 _) ⟨w3.heap.size, 0, none⟩ 1 1 (ec x) rfl rfl (World.news_of_block (cs := #[.string x.path, .int .i64 x.kind, .int .i64 x.mode, .string x.data]) (t := 56) (fr := (0, 0)) (heap_alloc_new _ _)) (fun y hy => by simp [ec] at hy; rcases hy with rfl | rfl | rfl | rfl <;> rfl) (by unfold maxLen; first | omega | (simp; omega)) (by first | omega | (simp; omega)) (by first | omega | (simp; omega)) ?_; intro v6 w6 hown6 hgrow6 _)
              have hown6' := ownE_snoc hown6
              have hB6 : Below (w.heap.size + 1) W0 w6 := (hB3.alloc (by first | omega | (simp; omega)) _).grown hgrow6 (by first | omega | (simp; omega)) (fun q hq => (World.ownsRow.lt hown3 q hq).1)
              clear hown6 hgrow6
              go_roundw
              case rel =>
                have R1 := hown6'
                have R2 := hB6
                have hl := hlen'
                first
                  | exact ⟨k + 1, ks ++ [x], by omega, (by rw [unhide HQ]; exact hl), by go_num, (by rw [unhide HDn]), R1, R2, HQ⟩
                  | ((repeat apply Exists.intro); exact ⟨⟨k + 1, ks ++ [x], by omega, (by rw [unhide HQ]; exact hl), by go_num, (by rw [unhide HDn]), R1, R2, HQ⟩, rfl⟩)
              case measure => simp [intOf]; omega
            · cases bo
              · have HQ : Hid (ks = outK false e (es.take (k + 1))) := hide (by rw [unhide HG, unhide HKq]; simp)
                go_wp2_with fail
                go_roundw
                case rel =>
                  have R1 := hown3
                  have R2 := hB3
                  have hl := hlen'
                  first
                    | exact ⟨k + 1, ks, by omega, (by rw [unhide HQ]; exact hl), by go_num, (by rw [unhide HDn]), R1, R2, HQ⟩
                    | ((repeat apply Exists.intro); exact ⟨⟨k + 1, ks, by omega, (by rw [unhide HQ]; exact hl), by go_num, (by rw [unhide HDn]), R1, R2, HQ⟩, rfl⟩)
                case measure => simp [intOf]; omega
              · have HQ : Hid (ks ++ [x] = outK true e (es.take (k + 1))) := hide (by rw [unhide HG, unhide HKq]; simp)
                go_wp2_with (at_builtin; refine wpList_append_own _ rfl _ _ 22 rfl (w.heap.size + 1) 56 i0 _ 4 48 Tryz.underlying22 hi hz0 hz1 hz2 rfl (by decide) _ _ _ rfl (World.ownsRow.alloc hown3 _) ⟨w3.heap.size, 0, none⟩ 1 1 (ec x) rfl rfl (World.news_of_block (cs := #[.string x.path, .int .i64 x.kind, .int .i64 x.mode, .string x.data]) (t := 56) (fr := (0, 0)) (heap_alloc_new _ _)) (fun y hy => by simp [ec] at hy; rcases hy with rfl | rfl | rfl | rfl <;> rfl) (by unfold maxLen; first | omega | (simp; omega)) (by first | omega | (simp; omega)) (by first | omega | (simp; omega)) ?_; intro v6 w6 hown6 hgrow6 _)
                have hown6' := ownE_snoc hown6
                have hB6 : Below (w.heap.size + 1) W0 w6 := (hB3.alloc (by first | omega | (simp; omega)) _).grown hgrow6 (by first | omega | (simp; omega)) (fun q hq => (World.ownsRow.lt hown3 q hq).1)
                clear hown6 hgrow6
                go_roundw
                case rel =>
                  have R1 := hown6'
                  have R2 := hB6
                  have hl := hlen'
                  first
                    | exact ⟨k + 1, ks ++ [x], by omega, (by rw [unhide HQ]; exact hl), by go_num, (by rw [unhide HDn]), R1, R2, HQ⟩
                    | ((repeat apply Exists.intro); exact ⟨⟨k + 1, ks ++ [x], by omega, (by rw [unhide HQ]; exact hl), by go_num, (by rw [unhide HDn]), R1, R2, HQ⟩, rfl⟩)
                case measure => simp [intOf]; omega
        · have hng : ltP e.q x.q = false := by
            cases h : ltP e.q x.q
            · rfl
            · exact absurd ((unhide HRl).2 h) rn
          have rn2 : 0 ≤ r := by omega
          by_cases r0 : r = 0
          · have hq := (unhide HRe).1 r0
            have HDn : Hid (dnK e (es.take (k + 1)) = dn) := hide (by rw [unhide HTk, (outK_eq (both := bo) (unhide HSo) hq).2.1, unhide HDk, (outK_eq (both := bo) (unhide HSo) hq).1])
            have HQ : Hid (ks = outK bo e (es.take (k + 1))) := hide (by rw [unhide HTk, (outK_eq (both := bo) (unhide HSo) hq).2.2, unhide HK])
            have r1 : (r == 0) = true := by simp [r0]
            clear hng hq
            go_wp2_with fail
            go_roundw
            case rel =>
              have R1 := hown3
              have R2 := hB3
              have hl := hlen'
              first
                | exact ⟨k + 1, ks, by omega, (by rw [unhide HQ]; exact hl), by go_num, (by rw [unhide HDn]), R1, R2, HQ⟩
                | ((repeat apply Exists.intro); exact ⟨⟨k + 1, ks, by omega, (by rw [unhide HQ]; exact hl), by go_num, (by rw [unhide HDn]), R1, R2, HQ⟩, rfl⟩)
            case measure => simp [intOf]; omega
          · have r1 : (r == 0) = false := by simp [r0]
            have hlt' : ltP x.q e.q = true := by
              cases h : ltP x.q e.q
              · exact absurd ((unhide HRe).2 (totP.one h hng)) r0
              · rfl
            have hun0 : un = false := by
              cases un
              · rfl
              · exfalso
                have h1 := unhide HU
                have h2 := under_not_lt ((blw_under (unhide HIs)).1 h1.symm)
                rw [show ltP x.path.data.toList e.path.data.toList = true from hlt'] at h2
                cases h2
            subst hun0
            have HDn : Hid (dnK e (es.take (k + 1)) = dn) := hide (by rw [unhide HTk, (outK_lt (both := bo) (unhide HSo) hlt').2.1, unhide HDk, (outK_lt (both := bo) (unhide HSo) hlt').1])
            have HQ : Hid (ks ++ [x] = outK bo e (es.take (k + 1))) := hide (by rw [unhide HTk, (outK_lt (both := bo) (unhide HSo) hlt').2.2, unhide HK])
            clear hng hlt'
            go_wp2_with (at_builtin; refine wpList_append_own _ rfl _ _ 22 rfl (w.heap.size + 1) 56 i0 _ 4 48 Tryz.underlying22 hi hz0 hz1 hz2 rfl (by decide) _ _ _ rfl (World.ownsRow.alloc hown3 _) ⟨w3.heap.size, 0, none⟩ 1 1 (ec x) rfl rfl (World.news_of_block (cs := #[.string x.path, .int .i64 x.kind, .int .i64 x.mode, .string x.data]) (t := 56) (fr := (0, 0)) (heap_alloc_new _ _)) (fun y hy => by simp [ec] at hy; rcases hy with rfl | rfl | rfl | rfl <;> rfl) (by unfold maxLen; first | omega | (simp; omega)) (by first | omega | (simp; omega)) (by first | omega | (simp; omega)) ?_; intro v6 w6 hown6 hgrow6 _)
            have hown6' := ownE_snoc hown6
            have hB6 : Below (w.heap.size + 1) W0 w6 := (hB3.alloc (by first | omega | (simp; omega)) _).grown hgrow6 (by first | omega | (simp; omega)) (fun q hq => (World.ownsRow.lt hown3 q hq).1)
            clear hown6 hgrow6
            go_roundw
            case rel =>
              have R1 := hown6'
              have R2 := hB6
              have hl := hlen'
              first
                | exact ⟨k + 1, ks ++ [x], by omega, (by rw [unhide HQ]; exact hl), by go_num, (by rw [unhide HDn]), R1, R2, HQ⟩
                | ((repeat apply Exists.intro); exact ⟨⟨k + 1, ks ++ [x], by omega, (by rw [unhide HQ]; exact hl), by go_num, (by rw [unhide HDn]), R1, R2, HQ⟩, rfl⟩)
            case measure => simp [intOf]; omega
      · have HL : Hid (es.take k = es) := hide (List.take_of_length_le (by have := unhide HN; omega))
        obtain ⟨dn, hdn⟩ : ∃ dn, dn = dnK e (es.take k) := ⟨_, rfl⟩
        rw [← hdn]
        have HDk := hide hdn
        have hsz := hb.size
        have hsz0 := unhide HS0
        have hbx := (hb.block w.heap.size (by omega)).trans (unhide HBx)
        have b0 : wr.cell? ⟨w.heap.size, 0, none⟩ = some (.string e.path) := cell_of_row _ _ 0 _ _ _ hbx
        have b1 : wr.cell? ⟨w.heap.size, 1, none⟩ = some (.int .i64 e.kind) := cell_of_row _ _ 1 _ _ _ hbx
        have b2 : wr.cell? ⟨w.heap.size, 2, none⟩ = some (.int .i64 e.mode) := cell_of_row _ _ 2 _ _ _ hbx
        have b3 : wr.cell? ⟨w.heap.size, 3, none⟩ = some (.string e.data) := cell_of_row _ _ 3 _ _ _ hbx
        clear hdn hbx
        cases dn
        · have HF : Hid (ks ++ [e] = putE es e) := hide (by rw [putE, outK_end, ← unhide HBo, ← unhide HL, ← unhide HDk, if_neg (by simp), ← unhide HK])
          go_upto_region 16 with (at_builtin; refine wpList_append_own _ rfl _ _ 22 rfl (w.heap.size + 1) 56 i0 _ 4 48 Tryz.underlying22 hi hz0 hz1 hz2 rfl (by decide) _ _ _ rfl (World.ownsRow.alloc hown _) ⟨wr.heap.size, 0, none⟩ 1 1 (ec e) rfl rfl (World.news_of_block (cs := #[.string e.path, .int .i64 e.kind, .int .i64 e.mode, .string e.data]) (t := 56) (fr := (0, 0)) (heap_alloc_new _ _)) (fun y hy => by simp [ec] at hy; rcases hy with rfl | rfl | rfl | rfl <;> rfl) (by unfold maxLen; first | omega | (simp; omega)) (by first | omega | (simp; omega)) (by first | omega | (simp; omega)) ?_; intro v5 w5 hown5 hgrow5 _)
          have hown5' := ownE_snoc hown5
          have hB5 : Below (w.heap.size + 1) W0 w5 := (hb.alloc (by first | omega | (simp; omega)) _).grown hgrow5 (by first | omega | (simp; omega)) (fun q hq => (World.ownsRow.lt hown q hq).1)
          obtain ⟨ao', cap', n', rfl, HN', hrow, hnc⟩ := ownE_row hown5'
          clear hown5 hgrow5
          go_wp2_with fail
          go_ret
          exact ⟨ao', cap', n', rfl, hide (by rw [← unhide HF]; exact unhide HN'), (by rw [← unhide HF]; exact hrow), hnc, hB0.trans (hB5.mono (Nat.le_succ _))⟩
        · have HF : Hid (ks = putE es e) := hide (by rw [putE, outK_end, ← unhide HBo, ← unhide HL, ← unhide HDk, if_pos rfl, ← unhide HK])
          obtain ⟨ao', cap', n', rfl, HN', hrow, hnc⟩ := ownE_row hown
          go_wp2_with fail
          go_ret
          exact ⟨ao', cap', n', rfl, hide (by rw [← unhide HF]; exact unhide HN'), (by rw [← unhide HF]; exact hrow), hnc, hB0.trans (hb.mono (Nat.le_succ _))⟩
end Go.Proofs.YtephkedlihediaaGreatDoor
