import Derived.Test.YtephkedlihediabGreatDoorRawD
import Derived.Test.YtephkedlihediabGreatDoorLst
import Derived.BigQuiet
namespace Go.Proofs.YtephkedlihediabGreatDoor
open Go.RowKit

theorem new_kept {w w1 : World} {cs : Array Value} {t : TypeId} (h : Below (w.alloc (.cells cs t)).drew.heap.size (w.alloc (.cells cs t)).drew w1) : w1.heap[w.heap.size]? = some (.cells cs t (0, 0)) :=
  (h.block w.heap.size (by show _ < (World.alloc w _).heap.size; simp)).trans (heap_alloc_new w (.cells cs t))
theorem own_drewN {W : World} {B : Nat} {v : Value} {ks : List Ent} (n : Nat) (h : OwnE W B v ks) : OwnE (W.drewN n) B v ks := h
theorem below_drewN {B : Nat} {w W : World} (n : Nat) (h : Below B w W) : Below B w (W.drewN n) := ⟨h.os, h.tape, h.output, h.size, h.block⟩
theorem own_drew {W : World} {B : Nat} {v : Value} {ks : List Ent} (h : OwnE W B v ks) : OwnE W.drew B v ks := h
theorem ownE_erow {W : World} {B vn vc : Nat} {vo : Option Addr} {ks : List Ent} (h : OwnE W B (.slice vo vn vc) ks) : ERow W vo ks := by
  obtain ⟨a, c, n, he, _, hr, _⟩ := ownE_row h
  cases he; exact hr
theorem ret_b {a b : Bool} (h : a = b) : Value.bool a = Value.bool b := by rw [h]
set_option maxHeartbeats 4000000 in
set_option maxRecDepth 100000 in
theorem rawTree_any (ao : Option Addr) (cap n : Nat) (xs : List Tg) (w : World) (hr : TgRow w ao xs) (HN : Hid (n = xs.length)) (hn : n ≤ 4294967280) :
    Calls Tryz.prog 6 #[.slice ao n cap] w fun ev w' => ∃ (vo : Option Addr) (vc vn : Nat) (es : List Ent), ev = .returned (.slice vo vn vc) ∧ Hid (vn = es.length) ∧ ERow w' vo es ∧ vn ≤ vc ∧ Hid (RawT 17 es) ∧ Below w.heap.size w w' := by
  obtain ⟨i0, hi, hz0, hz1, hz2⟩ := info_parts Tryz.info47
  have HR := hide hr
  clear hr
  go_enter Tryz.func6, Tryz.ntmps6
  go_upto_region 3 with (go_at_call 15; refine (rawPaths_any w).mono ?_; rintro ev w1 ⟨g, rfl, hT, hb1⟩)
  obtain ⟨P, hP⟩ : ∃ P, P = places := ⟨_, rfl⟩
  have hT2 : TRow w1 (some ⟨g, 0, none⟩) P := by rw [hP]; exact hT
  have HP := hide hP
  have HT := hide hT2
  have hlP : P.length = 17 := by rw [hP]; rfl
  have HR1 := hide ((unhide HR).below hb1)
  clear hT hT2 hP HR
  go_wp2_with fail
  go_loopw [3, 5] (fun v i wr => ∃ (k : Nat) (es : List Ent), k ≤ 17 ∧ i = .int .i64 k ∧ OwnE wr w1.heap.size v es ∧ Below w1.heap.size w1 wr ∧ Hid (RawT k es)) (fun _ i _ => 17 - (intOf i).toNat)
  case atStart => exact ⟨0, [], by omega, rfl, World.ownsRow_nil _ _ _ _, Below.refl _ _, hide RawT.nil⟩
  case round =>
    obtain ⟨k, es, hk, rfl, hown, hb, HK⟩ := hrel
    obtain ⟨vo, vc, vn, rfl, HVN, hrow, hnc⟩ := ownE_row hown
    have hvn : vn ≤ 17 := by rw [unhide HVN]; have := (unhide HK).len; omega
    by_cases hlt : k < 17
    · obtain ⟨p, hp⟩ : ∃ p, P[k]? = some p := ⟨P[k]'(by omega), List.getElem?_eq_getElem (by omega)⟩
      obtain ⟨g', hg', hcp⟩ := ((unhide HT).below hb) k p hp
      cases hg'
      have HPk : Hid (places[k]? = some p) := hide (by rw [← unhide HP]; exact hp)
      have hps : p.size ≤ 1073741824 := by
        have := (places_path p (List.mem_of_getElem? (unhide HPk))).2.2
        omega
      have i1 : (0 : Int) ≤ (k : Int) := by omega
      have i2 : (k : Int) < 17 := by omega
      have HOw := hide hown
      have HB := hide hb
      clear hp hown hrow
      go_upto_region 7 with (go_at_call 16; refine (rawUp_is p _ hps).mono ?_; rintro ev w2 ⟨rfl, hw⟩; obtain rfl := hw.symm)
      obtain ⟨b0, hb0⟩ : ∃ b0, b0 = (upS p).toList.isEmpty := ⟨_, rfl⟩
      have HB0 : Hid (b0 = true → dirOf p.data.toList = []) := hide (fun h => by
        rw [hb0, Lib.toList_data] at h
        simpa [upS] using h)
      rw [← hb0]
      clear hb0
      go_wp2_with fail
      go_loopw [6, 7] (fun dv jv wr2 => ∃ j : Nat, j ≤ vn ∧ jv = .int .i64 j ∧ dv = .bool (b0 || dirIn es (upS p) j) ∧ OwnE wr2 w1.heap.size (.slice vo vn vc) es ∧ Below w1.heap.size w1 wr2) (fun _ jv _ => vn - (intOf jv).toNat)
      case atStart => exact ⟨0, by omega, rfl, ret_b (by simp [dirIn]), unhide HOw, unhide HB⟩
      case round =>
        obtain ⟨j, hj, rfl, rfl, hown2, hb2⟩ := hrel
        by_cases hjl : j < vn
        · obtain ⟨x, hx⟩ : ∃ x, es[j]? = some x := ⟨es[j]'(by have := unhide HVN; omega), List.getElem?_eq_getElem (by have := unhide HVN; omega)⟩
          obtain ⟨q, o, hq, c0, c1, _, _⟩ := (ownE_erow hown2) j x hx
          cases hq
          obtain ⟨g', hg', hcp2⟩ := ((unhide HT).below hb2) k p (by rw [unhide HP]; exact unhide HPk)
          cases hg'
          have HSn := hide (dirIn_snoc (q := upS p) hx)
          have HOw2 := hide hown2
          have HB2 := hide hb2
          have j0 : (0 : Int) ≤ (j : Int) := by omega
          have j1 : (j : Int) < (vn : Int) := by omega
          clear hx hown2 hb2
          cases hbb : (b0 || dirIn es (upS p) j)
          · have HBB := hide hbb
            clear hbb
            go_upto_region 10 with fail
            by_cases hpe : x.path.data.toList = (upS p).data.toList
            · have hpe1 : (x.path.toList == (upS p).toList) = true := by rw [Lib.toList_data, Lib.toList_data, hpe]; simp
              by_cases hk1 : x.kind = 1
              · have hk2 : (x.kind == 1) = true := by simp [hk1]
                go_quiet (first | (go_at_call 16; exact Calls.quiet_of_same (rawUp_is p _ hps)))
                go_wp2_with fail
                go_roundw
                case rel =>
                  have R : Value.bool true = .bool (b0 || dirIn es (upS p) (j + 1)) := ret_b (by rw [unhide HSn, ← Bool.or_assoc, unhide HBB, hpe, hk1]; simp)
                  exact ⟨j + 1, by omega, by go_num, R, own_drewN nq (unhide HOw2), below_drewN nq (unhide HB2)⟩
                case measure => simp [intOf]; omega
              · have hk2 : (x.kind == 1) = false := by simp [hk1]
                go_quiet (first | (go_at_call 16; exact Calls.quiet_of_same (rawUp_is p _ hps)))
                go_wp2_with fail
                go_roundw
                case rel =>
                  have R : Value.bool false = .bool (b0 || dirIn es (upS p) (j + 1)) := ret_b (by rw [unhide HSn, ← Bool.or_assoc, unhide HBB, decide_eq_false hk1]; simp)
                  exact ⟨j + 1, by omega, by go_num, R, own_drewN nq (unhide HOw2), below_drewN nq (unhide HB2)⟩
                case measure => simp [intOf]; omega
            · have hpe1 : (x.path.toList == (upS p).toList) = false := by rw [Lib.toList_data, Lib.toList_data]; simpa using hpe
              go_quiet (first | (go_at_call 16; exact Calls.quiet_of_same (rawUp_is p _ hps)))
              go_wp2_with fail
              go_roundw
              case rel =>
                have R : Value.bool false = .bool (b0 || dirIn es (upS p) (j + 1)) := ret_b (by rw [unhide HSn, ← Bool.or_assoc, unhide HBB, beq_false_of_ne hpe]; rfl)
                exact ⟨j + 1, by omega, by go_num, R, own_drewN nq (unhide HOw2), below_drewN nq (unhide HB2)⟩
              case measure => simp [intOf]; omega
          · have HBB := hide hbb
            clear hbb
            go_upto_region 10 with fail
            go_quiet (fail)
            go_wp2_with fail
            go_roundw
            case rel =>
              have R : Value.bool true = .bool (b0 || dirIn es (upS p) (j + 1)) := ret_b (by rw [unhide HSn, ← Bool.or_assoc, unhide HBB]; rfl)
              exact ⟨j + 1, by omega, by go_num, R, own_drewN nq (unhide HOw2), below_drewN nq (unhide HB2)⟩
            case measure => simp [intOf]; omega
        · obtain rfl : j = vn := by omega
          obtain ⟨D, hD⟩ : ∃ D, D = (b0 || dirIn es (upS p) j) := ⟨_, rfl⟩
          have HD : Hid (D = true → dirOf p.data.toList = [] ∨ ∃ x ∈ es, x.path.data.toList = dirOf p.data.toList ∧ x.kind = 1) := hide (fun h => by
            rw [hD, Bool.or_eq_true] at h
            rcases h with h | h
            · exact .inl (unhide HB0 h)
            · exact .inr (dirIn_yes h))
          rw [← hD]
          have HOw2 := hide hown2
          have HB2 := hide hb2
          clear hD hown2 hb2 HB HOw hcp
          go_wp2_with fail
          go_loopw [3, 6, 8] (fun v dv kv wr3 => ∃ (m : Nat) (es' : List Ent) (b : Bool), m ≤ n ∧ kv = .int .i64 ((m : Int) - 1) ∧ dv = .bool b ∧ OwnE wr3 w1.heap.size v es' ∧ Below w1.heap.size w1 wr3 ∧ Hid (RawT (k + 1) es' ∧ (b = true → es' = es ∧ (dirOf p.data.toList = [] ∨ ∃ x ∈ es, x.path.data.toList = dirOf p.data.toList ∧ x.kind = 1)))) (fun _ _ kv _ => (intOf kv + 1).toNat)
          case atStart => exact ⟨n, es, D, Nat.le_refl _, by go_num, rfl, unhide HOw2, unhide HB2, hide ⟨(unhide HK).more, fun h => ⟨rfl, unhide HD h⟩⟩⟩
          case round =>
            obtain ⟨m, es', b, hm, rfl, rfl, hown3, hb3, HI⟩ := hrel
            cases m with
            | zero =>
              have e1 : (((0 : Nat) : Int) - 1) = -1 := by omega
              rw [e1]
              go_wp2_with fail
              go_roundw
              case rel =>
                first
                  | exact ⟨k + 1, es', by omega, by go_num, hown3, hb3, hide (unhide HI).1⟩
                  | ((repeat apply Exists.intro); exact ⟨⟨k + 1, es', by omega, by go_num, hown3, hb3, hide (unhide HI).1⟩, rfl⟩)
              case measure => simp [intOf]; omega
            | succ m =>
              have e1 : (((m + 1 : Nat) : Int) - 1) = (m : Int) := by omega
              rw [e1]
              have m0 : (0 : Int) ≤ (m : Int) := by omega
              cases b with
              | false =>
                go_wp2_with fail
                go_roundw
                case rel =>
                  first
                    | exact ⟨k + 1, es', by omega, by go_num, hown3, hb3, hide (unhide HI).1⟩
                    | ((repeat apply Exists.intro); exact ⟨⟨k + 1, es', by omega, by go_num, hown3, hb3, hide (unhide HI).1⟩, rfl⟩)
                case measure => simp [intOf]; omega
              | true =>
                obtain ⟨rfl, hdir⟩ := (unhide HI).2 rfl
                have HDir := hide hdir
                obtain ⟨x, hx⟩ : ∃ x, xs[m]? = some x := ⟨xs[m]'(by have := unhide HN; omega), List.getElem?_eq_getElem (by have := unhide HN; omega)⟩
                obtain ⟨g2, o2, hq, c0, c1, c2, c3⟩ := ((unhide HR1).below hb3) m x hx
                cases hq
                obtain ⟨g', hg', hcp3⟩ := ((unhide HT).below hb3) k p (by rw [unhide HP]; exact unhide HPk)
                cases hg'
                have m1 : (m : Int) < (n : Int) := by omega
                have HOw3 := hide hown3
                have HB3 := hide hb3
                clear hx hown3 hb3 hdir
                by_cases hqk : pickN x.a 17 = (k : Int)
                · have hqk2 : (pickN x.a 17 == (k : Int)) = true := by simp [hqk]
                  have ng2 : g2 ≠ wr.heap.size := Nat.ne_of_lt (World.block_lt_of_cell? _ _ c0)
                  have ng1 : g ≠ wr.heap.size := Nat.ne_of_lt (World.block_lt_of_cell? _ _ hcp3)
                  go_upto_region 15 with (go_at_call 17; refine (pick_is _ _ _ (by omega) (by omega)).mono ?_; rintro ev w4 ⟨rfl, hw⟩; obtain rfl := hw.symm)
                  go_region_held3 (fun w' => w'.cell? ⟨g2, o2 + m * 4, none⟩ = some (.int .i64 x.a) ∧ w'.cell? ⟨g2, o2 + m * 4 + 1, none⟩ = some (.int .i64 x.b) ∧ w'.cell? ⟨g2, o2 + m * 4 + 2, none⟩ = some (.int .i64 x.c) ∧ w'.cell? ⟨g2, o2 + m * 4 + 3, none⟩ = some (.string x.d) ∧ w'.cell? ⟨g, k, none⟩ = some (.string p)) (first | (with_reducible exact ⟨c0, c1, c2, c3, hcp3⟩) | (with_reducible exact ⟨p0, p1, p2, p3, p4⟩) | (with_reducible exact ⟨set4 _ _ _ _ ng2 p0, set4 _ _ _ _ ng2 p1, set4 _ _ _ _ ng2 p2, set4 _ _ _ _ ng2 p3, set4 _ _ _ _ ng1 p4⟩) | go_keep)
                    (first | (go_at_call 18; refine (entry_any x.a x.b x.c x.d p _).mono ?_; rintro ev w5 ⟨e, rfl, HRE, hb5⟩; have p0 := cell_later (chain0 hb5) c0; have p1 := cell_later (chain0 hb5) c1; have p2 := cell_later (chain0 hb5) c2; have p3 := cell_later (chain0 hb5) c3; have p4 := cell_later (chain0 hb5) hcp3) | (go_at_call 18; refine (entry_any x.a x.b x.c x.d p _).mono ?_; rintro ev w5 ⟨e, rfl, HRE, hb5⟩; have p0 := cell_later (chainA hb5) c0; have p1 := cell_later (chainA hb5) c1; have p2 := cell_later (chainA hb5) c2; have p3 := cell_later (chainA hb5) c3; have p4 := cell_later (chainA hb5) hcp3; have hz := new_kept hb5; have z0 : w5.cell? ⟨wr.heap.size, 0, none⟩ = some (.string ⟨#[]⟩) := cell_of_row _ _ 0 _ _ _ hz; have z1 : w5.cell? ⟨wr.heap.size, 1, none⟩ = some (.int .i64 0) := cell_of_row _ _ 1 _ _ _ hz; have z2 : w5.cell? ⟨wr.heap.size, 2, none⟩ = some (.int .i64 0) := cell_of_row _ _ 2 _ _ _ hz; have z3 : w5.cell? ⟨wr.heap.size, 3, none⟩ = some (.string ⟨#[]⟩) := cell_of_row _ _ 3 _ _ _ hz; have f0 := frz hz 0; have f1 := frz hz 1; have f2 := frz hz 2; have f3 := frz hz 3))
                  · have hbV : Below wr.heap.size wr (w5.alloc (.cells #[.string e.path, .int .i64 e.kind, .int .i64 e.mode, .string e.data] 47)) := (chain0 hb5).alloc (chain0 hb5).size _
                    have v0 : (w5.alloc (.cells #[.string e.path, .int .i64 e.kind, .int .i64 e.mode, .string e.data] 47)).cell? ⟨w5.heap.size, 0, none⟩ = some (.string e.path) := cell_of_row _ _ 0 _ _ _ (heap_alloc_new _ _)
                    have v1 : (w5.alloc (.cells #[.string e.path, .int .i64 e.kind, .int .i64 e.mode, .string e.data] 47)).cell? ⟨w5.heap.size, 1, none⟩ = some (.int .i64 e.kind) := cell_of_row _ _ 1 _ _ _ (heap_alloc_new _ _)
                    have v2 : (w5.alloc (.cells #[.string e.path, .int .i64 e.kind, .int .i64 e.mode, .string e.data] 47)).cell? ⟨w5.heap.size, 2, none⟩ = some (.int .i64 e.mode) := cell_of_row _ _ 2 _ _ _ (heap_alloc_new _ _)
                    have v3 : (w5.alloc (.cells #[.string e.path, .int .i64 e.kind, .int .i64 e.mode, .string e.data] 47)).cell? ⟨w5.heap.size, 3, none⟩ = some (.string e.data) := cell_of_row _ _ 3 _ _ _ (heap_alloc_new _ _)
                    generalize w5.alloc (.cells #[.string e.path, .int .i64 e.kind, .int .i64 e.mode, .string e.data] 47) = V at hbV v0 v1 v2 v3 ⊢
                    have hBV : Below w1.heap.size w1 V := (unhide HB3).trans (hbV.mono (unhide HB3).size)
                    have hownV : OwnE V w1.heap.size u3 es' := World.ownsRow.kept (row := none) (unhide HOw3) ⟨hbV.os, hbV.tape, hbV.output, hbV.size, fun k hk _ => hbV.block k hk⟩ (by cases u3.ownBlock <;> simp)
                    have hle : es'.length ≤ 18 := by have := (unhide HK).len; omega
                    have HPut := hide ((unhide HK).put (unhide HPk) (unhide HRE) (unhide HDir))
                    clear hb5 p0 p1 p2 p3 p4 c0 c1 c2 c3 hcp3
                    go_wp2_with (at_builtin; refine wpList_append_own _ rfl _ _ 23 rfl w1.heap.size 47 i0 _ 4 48 Tryz.underlying23 hi hz0 hz1 hz2 rfl (by decide) _ _ _ rfl (World.ownsRow.alloc hownV _) ⟨V.heap.size, 0, none⟩ 1 1 (ec e) rfl rfl (World.news_of_block (cs := #[.string e.path, .int .i64 e.kind, .int .i64 e.mode, .string e.data]) (t := 47) (fr := (0, 0)) (heap_alloc_new _ _)) (ec_one e) (by unfold maxLen; omega) (by omega) (by have := hBV.size; simp; omega) ?_; intro v' w6 hown6 hgrow _)
                    go_roundw
                    case rel =>
                      have R1 : OwnE w6 w1.heap.size v' (es' ++ [e]) := by
                        unfold OwnE
                        rw [List.length_append, entC_snoc]
                        exact hown6
                      have R2 : Below w1.heap.size w1 w6 := (hBV.alloc hBV.size _).grown hgrow (by have := hBV.size; simp; omega) (fun q hq => (World.ownsRow.lt hownV q hq).1)
                      exact ⟨m, es' ++ [e], false, by omega, by go_num, rfl, R1, R2, hide ⟨unhide HPut, fun h => by cases h⟩⟩
                    case measure => simp [intOf]
                  · have hbV : Below wr.heap.size wr ((((w5.setCell ⟨wr.heap.size, 0, none⟩ (.string e.path)).setCell ⟨wr.heap.size, 1, none⟩ (.int .i64 e.kind)).setCell ⟨wr.heap.size, 2, none⟩ (.int .i64 e.mode)).setCell ⟨wr.heap.size, 3, none⟩ (.string e.data)) := ((((chainA hb5).setCell (p := ⟨wr.heap.size, 0, none⟩) (Nat.le_refl _) _).setCell (p := ⟨wr.heap.size, 1, none⟩) (Nat.le_refl _) _).setCell (p := ⟨wr.heap.size, 2, none⟩) (Nat.le_refl _) _).setCell (p := ⟨wr.heap.size, 3, none⟩) (Nat.le_refl _) _
                    have v0 : ((((w5.setCell ⟨wr.heap.size, 0, none⟩ (.string e.path)).setCell ⟨wr.heap.size, 1, none⟩ (.int .i64 e.kind)).setCell ⟨wr.heap.size, 2, none⟩ (.int .i64 e.mode)).setCell ⟨wr.heap.size, 3, none⟩ (.string e.data)).cell? ⟨wr.heap.size, 0, none⟩ = some (.string e.path) := by simp [go_sem, z0]
                    have v1 : ((((w5.setCell ⟨wr.heap.size, 0, none⟩ (.string e.path)).setCell ⟨wr.heap.size, 1, none⟩ (.int .i64 e.kind)).setCell ⟨wr.heap.size, 2, none⟩ (.int .i64 e.mode)).setCell ⟨wr.heap.size, 3, none⟩ (.string e.data)).cell? ⟨wr.heap.size, 1, none⟩ = some (.int .i64 e.kind) := by simp [go_sem, z1]
                    have v2 : ((((w5.setCell ⟨wr.heap.size, 0, none⟩ (.string e.path)).setCell ⟨wr.heap.size, 1, none⟩ (.int .i64 e.kind)).setCell ⟨wr.heap.size, 2, none⟩ (.int .i64 e.mode)).setCell ⟨wr.heap.size, 3, none⟩ (.string e.data)).cell? ⟨wr.heap.size, 2, none⟩ = some (.int .i64 e.mode) := by simp [go_sem, z2]
                    have v3 : ((((w5.setCell ⟨wr.heap.size, 0, none⟩ (.string e.path)).setCell ⟨wr.heap.size, 1, none⟩ (.int .i64 e.kind)).setCell ⟨wr.heap.size, 2, none⟩ (.int .i64 e.mode)).setCell ⟨wr.heap.size, 3, none⟩ (.string e.data)).cell? ⟨wr.heap.size, 3, none⟩ = some (.string e.data) := by simp [go_sem, z3]
                    generalize (((w5.setCell ⟨wr.heap.size, 0, none⟩ (.string e.path)).setCell ⟨wr.heap.size, 1, none⟩ (.int .i64 e.kind)).setCell ⟨wr.heap.size, 2, none⟩ (.int .i64 e.mode)).setCell ⟨wr.heap.size, 3, none⟩ (.string e.data) = V at hbV v0 v1 v2 v3 ⊢
                    have hBV : Below w1.heap.size w1 V := (unhide HB3).trans (hbV.mono (unhide HB3).size)
                    have hownV : OwnE V w1.heap.size u3 es' := World.ownsRow.kept (row := none) (unhide HOw3) ⟨hbV.os, hbV.tape, hbV.output, hbV.size, fun k hk _ => hbV.block k hk⟩ (by cases u3.ownBlock <;> simp)
                    have hle : es'.length ≤ 18 := by have := (unhide HK).len; omega
                    have HPut := hide ((unhide HK).put (unhide HPk) (unhide HRE) (unhide HDir))
                    clear hb5 p0 p1 p2 p3 p4 c0 c1 c2 c3 hcp3
                    go_wp2_with (at_builtin; refine wpList_append_own _ rfl _ _ 23 rfl w1.heap.size 47 i0 _ 4 48 Tryz.underlying23 hi hz0 hz1 hz2 rfl (by decide) _ _ _ rfl (World.ownsRow.alloc hownV _) ⟨V.heap.size, 0, none⟩ 1 1 (ec e) rfl rfl (World.news_of_block (cs := #[.string e.path, .int .i64 e.kind, .int .i64 e.mode, .string e.data]) (t := 47) (fr := (0, 0)) (heap_alloc_new _ _)) (ec_one e) (by unfold maxLen; omega) (by omega) (by have := hBV.size; simp; omega) ?_; intro v' w6 hown6 hgrow _)
                    go_roundw
                    case rel =>
                      have R1 : OwnE w6 w1.heap.size v' (es' ++ [e]) := by
                        unfold OwnE
                        rw [List.length_append, entC_snoc]
                        exact hown6
                      have R2 : Below w1.heap.size w1 w6 := (hBV.alloc hBV.size _).grown hgrow (by have := hBV.size; simp; omega) (fun q hq => (World.ownsRow.lt hownV q hq).1)
                      exact ⟨m, es' ++ [e], false, by omega, by go_num, rfl, R1, R2, hide ⟨unhide HPut, fun h => by cases h⟩⟩
                    case measure => simp [intOf]
                · have hqk2 : (pickN x.a 17 == (k : Int)) = false := by simp [hqk]
                  go_wp2_with (go_at_call 17; refine (pick_is _ _ _ (by omega) (by omega)).mono ?_; rintro ev w4 ⟨rfl, hw⟩; obtain rfl := hw.symm)
                  go_roundw
                  case rel =>
                    exact ⟨m, es', true, by omega, by go_num, rfl, unhide HOw3, unhide HB3, hide ⟨(unhide HI).1, fun _ => ⟨rfl, unhide HDir⟩⟩⟩
                  case measure => simp [intOf]
    · obtain rfl : k = 17 := by omega
      have HF := hide hrow
      have HB := hide hb
      clear hown hrow hb
      go_wp2_with fail
      go_ret
      exact ⟨vo, vc, vn, es, rfl, HVN, unhide HF, hnc, HK, hb1.trans ((unhide HB).mono hb1.size)⟩
end Go.Proofs.YtephkedlihediabGreatDoor
