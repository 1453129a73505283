import Derived.Test.YtjofjcjojgpaeaaGreatDoorJEqS
import Derived.Deep.RegionHeld3
import Derived.Test.YtjofjcjojgpaeaaGreatDoorJEntB
namespace Go.Proofs.YtjofjcjojgpaeaaGreatDoor
open Go.RowKit

/-- May a change stand behind these? -/
def mayF (cs : List Ent) (c : Ent) : Bool := decide (cs.length < 80) && chOk c && (decide (cs.length = 0) || match cs[cs.length - 1]? with
    | none => false
    | some d => flw d c)
theorem mayF_ok {cs : List Ent} {i : Nat} {c : Ent} (h : cs[i]? = some c) : mayF (cs.take i) c = okCh cs i := by
  have hi := (List.getElem?_eq_some_iff.1 h).1
  have hl : (cs.take i).length = i := by simp; omega
  rw [okCh_eq h, mayF, hl]
  cases i with
  | zero => simp
  | succ i =>
    have : (cs.take (i + 1))[i + 1 - 1]? = cs[i + 1 - 1]? := by rw [List.getElem?_take, if_pos (by omega)]
    rw [this]
    cases cs[i + 1 - 1]? <;> rfl
set_option maxHeartbeats 2000000 in
set_option maxRecDepth 100000 in
theorem mayFollow_any (ao : Option Addr) (cap k : Nat) (cs : List Ent) (c : Ent) (m : Int) (w : World) (hr : ERow w ao cs) (HN : Hid (k = cs.length)) (hk : k ≤ 1048576) (HS : Hid (Small cs)) (hcs : c.path.size ≤ 1048576) (hm : w.cell? ⟨14, 0, none⟩ = some (.int .i64 m)) :
    Calls Tryz.prog 77 #[.slice ao k cap, .agg #[.string c.path, .int .i64 c.kind, .int .i64 c.mode, .string c.data]] w fun ev w' => ev = .returned (.bool (mayF cs c)) ∧ Below w.heap.size w w' := by
  obtain ⟨W0, hW0⟩ : ∃ W0, W0 = w.alloc (.cells #[.string c.path, .int .i64 c.kind, .int .i64 c.mode, .string c.data] 37) := ⟨_, rfl⟩
  have hb0 : Below w.heap.size w W0 := by rw [hW0]; exact (Below.refl _ _).alloc (Nat.le_refl _) _
  have hq0 : W0.heap[w.heap.size]? = some (.cells #[.string c.path, .int .i64 c.kind, .int .i64 c.mode, .string c.data] 37 (0, 0)) := by rw [hW0]; exact heap_alloc_new _ _
  have HW0 := hide hW0
  have HQ := hide hq0
  have HM := hide hm
  have HR := hide hr
  by_cases h80 : k < 80
  · have n80 : ¬ (80 : Int) ≤ (k : Int) := by omega
    have hCh := isChange_any c m W0 (cell_later hb0 hm)
    clear hW0 hm hr
    cases hc : chOk c
    · rw [hc] at hCh
      have R : Hid (mayF cs c = false) := hide (by rw [mayF, hc]; simp)
      clear hc hq0
      go_enter Tryz.func77, Tryz.ntmps77
      go_wp2_with (go_at_call 99; rw [← unhide HW0]; refine hCh.mono ?_; clear hCh; rintro ev w1 ⟨rfl, hb1⟩)
      go_ret
      exact ⟨ret_bool (unhide R).symm, hb0.trans (hb1.mono hb0.size)⟩
    · rw [hc] at hCh
      by_cases hk0 : k = 0
      · subst hk0
        have R : Hid (mayF cs c = true) := hide (by rw [mayF, hc, ← unhide HN]; simp)
        clear hc hq0
        go_enter Tryz.func77, Tryz.ntmps77
        go_wp2_with (go_at_call 99; rw [← unhide HW0]; refine hCh.mono ?_; clear hCh; rintro ev w1 ⟨rfl, hb1⟩)
        go_ret
        exact ⟨ret_bool (unhide R).symm, hb0.trans (hb1.mono hb0.size)⟩
      · obtain ⟨q, hq⟩ : ∃ q, q + 1 = k := ⟨k - 1, by omega⟩
        obtain ⟨d, hd⟩ : ∃ d, cs[q]? = some d := ⟨cs[q]'(by have := unhide HN; omega), List.getElem?_eq_getElem (by have := unhide HN; omega)⟩
        have hds := ((unhide HS) d (List.mem_of_getElem? hd)).1
        have R0 : Hid (mayF cs c = flw d c) := hide (by
          have e1 : cs.length - 1 = q := by have := unhide HN; omega
          have e2 : cs.length < 80 := by have := unhide HN; omega
          have e3 : ¬ cs.length = 0 := by have := unhide HN; omega
          rw [mayF, hc, e1, hd]
          simp only [e2, e3, decide_true, decide_false, Bool.true_and, Bool.false_or])
        have hw : IntKind.i64.wrap ((k : Int) - 1) = (q : Int) := by rw [show (k : Int) - 1 = (q : Int) from by omega]; exact wrap_i64 _ (by omega)
        have z0 : ¬ (k : Int) = 0 := by omega
        have z1 : ((k : Int) == 0) = false := by simp; omega
        have p0 : (0 : Int) ≤ (q : Int) := by omega
        have p1 : (q : Int) < (k : Int) := by omega
        obtain ⟨g, o, hgo, _⟩ := (unhide HR) q d hd
        cases hgo
        have HD := hide hd
        clear hc hq0 hd hq
        go_enter Tryz.func77, Tryz.ntmps77
        go_upto_region 6 with (go_at_call 99; rw [← unhide HW0]; refine hCh.mono ?_; clear hCh; rintro ev w1 ⟨rfl, hb1⟩)
        have hB1 : Below w.heap.size w w1 := hb0.trans (hb1.mono hb0.size)
        have hq1 := (hb1.block w.heap.size (Array.getElem?_eq_some_iff.1 (unhide HQ)).1).trans (unhide HQ)
        obtain ⟨g', o', hgo, d0, d1, d2, d3⟩ := ((unhide HR).below hB1) q d (unhide HD)
        cases hgo
        obtain ⟨W2, hW2⟩ : ∃ W2, W2 = w1.alloc (.cells #[.string d.path, .int .i64 d.kind, .int .i64 d.mode, .string d.data] 37) := ⟨_, rfl⟩
        have b2 : Below w1.heap.size w1 W2 := by rw [hW2]; exact (Below.refl _ _).alloc (Nat.le_refl _) _
        have hB2 : Below w.heap.size w W2 := hB1.trans (b2.mono hB1.size)
        have hq2 := (b2.block w.heap.size (Array.getElem?_eq_some_iff.1 hq1).1).trans hq1
        have hl2 : W2.heap[w1.heap.size]? = some (.cells #[.string d.path, .int .i64 d.kind, .int .i64 d.mode, .string d.data] 37 (0, 0)) := by rw [hW2]; exact heap_alloc_new _ _
        have e0 : W2.cell? ⟨w.heap.size, 0, none⟩ = some (.string c.path) := cell_of_row _ _ 0 _ _ _ hq2
        have e1 : W2.cell? ⟨w.heap.size, 1, none⟩ = some (.int .i64 c.kind) := cell_of_row _ _ 1 _ _ _ hq2
        have l0 : W2.cell? ⟨w1.heap.size, 0, none⟩ = some (.string d.path) := cell_of_row _ _ 0 _ _ _ hl2
        have l1 : W2.cell? ⟨w1.heap.size, 1, none⟩ = some (.int .i64 d.kind) := cell_of_row _ _ 1 _ _ _ hl2
        have l2 : W2.cell? ⟨w1.heap.size, 2, none⟩ = some (.int .i64 d.mode) := cell_of_row _ _ 2 _ _ _ hl2
        have l3 : W2.cell? ⟨w1.heap.size, 3, none⟩ = some (.string d.data) := cell_of_row _ _ 3 _ _ _ hl2
        have HL2 := hide hl2
        have HQ2 := hide hq2
        clear hq1 hq2 hl2 hb1
        go_upto_region 7 with fail
        rw [← hW2]
        clear hW2 d0 d1 d2 d3
        by_cases hp : d.path.data.toList = c.path.data.toList
        · have g1 : (d.path.toList == c.path.toList) = true := by rw [Lib.toList_data, Lib.toList_data, hp]; simp
          have R1 : Hid (mayF cs c = (decide (d.kind = 1) && decide (c.kind = 5))) := hide (by rw [unhide R0, flw, if_pos hp])
          clear hp
          by_cases k1 : d.kind = 1
          · rw [k1] at l1
            by_cases k5 : c.kind = 5
            · have R : Hid (mayF cs c = true) := hide (by rw [unhide R1, k1, k5]; rfl)
              rw [k5] at e1
              go_wp2_with fail
              go_ret
              exact ⟨ret_bool (unhide R).symm, hB2⟩
            · have R : Hid (mayF cs c = false) := hide (by rw [unhide R1]; simp [k5])
              have k5' : (c.kind == 5) = false := by simp [k5]
              go_wp2_with fail
              go_ret
              exact ⟨ret_bool (unhide R).symm, hB2⟩
          · have R : Hid (mayF cs c = false) := hide (by rw [unhide R1]; simp [k1])
            have k1' : (d.kind == 1) = false := by simp [k1]
            go_wp2_with fail
            go_ret
            exact ⟨ret_bool (unhide R).symm, hB2⟩
        · have g1 : (d.path.toList == c.path.toList) = false := by rw [Lib.toList_data, Lib.toList_data]; simpa using hp
          have R1 : Hid (mayF cs c = (ltP d.path.data.toList c.path.data.toList && (decide (d.kind = 1 ∨ d.kind = 5) || !Lib.hasPrefix c.path.data.toList (d.path.data.toList ++ [47])))) := hide (by rw [unhide R0, flw, if_neg hp])
          have hCm := compare_any d.path c.path m W2 (by omega) (by omega) (cell_later hB2 (unhide HM))
          clear hp
          cases hlt : ltP d.path.data.toList c.path.data.toList
          · have R : Hid (mayF cs c = false) := hide (by rw [unhide R1, hlt]; rfl)
            have HLt := hide hlt
            clear hlt
            go_wp2_with (go_at_call 36; refine hCm.mono ?_; clear hCm; rintro ev w3 ⟨n3, rfl, hn3, hb3⟩; have hn4 : ¬ n3 < 0 := (fun h => by have h5 := hn3.1 h; rw [show ltL (prt d.path.data.toList) (prt c.path.data.toList) = false from unhide HLt] at h5; cases h5); clear hn3)
            go_ret
            exact ⟨ret_bool (unhide R).symm, hB2.trans (hb3.mono hB2.size)⟩
          · have R2 : Hid (mayF cs c = (decide (d.kind = 1 ∨ d.kind = 5) || !Lib.hasPrefix c.path.data.toList (d.path.data.toList ++ [47]))) := hide (by rw [unhide R1, hlt]; rfl)
            have HLt := hide hlt
            clear hlt
            by_cases hh : d.kind = 1 ∨ d.kind = 5
            · have R : Hid (mayF cs c = true) := hide (by rw [unhide R2, decide_eq_true hh]; rfl)
              have hMh : ∀ W, Calls Tryz.prog 100 #[.agg #[.string d.path, .int .i64 d.kind, .int .i64 d.mode, .string d.data]] W fun ev w' => ev = .returned (.bool true) ∧ Below W.heap.size W w' := fun W => by have := mayHold_any d W; rw [decide_eq_true hh] at this; exact this
              clear hh
              go_wp2_with (first
                | (go_at_call 36; refine hCm.mono ?_; clear hCm; rintro ev w3 ⟨n3, rfl, hn3, hb3⟩; have hn4 : n3 < 0 := hn3.2 (unhide HLt); clear hn3; have l0 := cell_later hb3 l0; have l1 := cell_later hb3 l1; have l2 := cell_later hb3 l2; have l3 := cell_later hb3 l3; have e0 := cell_later hb3 e0)
                | (go_at_call 100; refine (hMh w3).mono ?_; rintro ev w4 ⟨rfl, hb4⟩))
              go_ret
              exact ⟨ret_bool (unhide R).symm, hB2.trans ((hb3.trans (hb4.mono hb3.size)).mono hB2.size)⟩
            · have R : Hid (mayF cs c = !Lib.hasPrefix c.path.data.toList (d.path.data.toList ++ [47])) := hide (by rw [unhide R2, decide_eq_false hh]; rfl)
              have hMh : ∀ W, Calls Tryz.prog 100 #[.agg #[.string d.path, .int .i64 d.kind, .int .i64 d.mode, .string d.data]] W fun ev w' => ev = .returned (.bool false) ∧ Below W.heap.size W w' := fun W => by have := mayHold_any d W; rw [decide_eq_false hh] at this; exact this
              clear hh
              go_wp2_with (first
                | (go_at_call 36; refine hCm.mono ?_; clear hCm; rintro ev w3 ⟨n3, rfl, hn3, hb3⟩; have hn4 : n3 < 0 := hn3.2 (unhide HLt); clear hn3; have l0 := cell_later hb3 l0; have l1 := cell_later hb3 l1; have l2 := cell_later hb3 l2; have l3 := cell_later hb3 l3; have e0 := cell_later hb3 e0)
                | (go_at_call 100; refine (hMh w3).mono ?_; rintro ev w4 ⟨rfl, hb4⟩; have l0 := cell_later hb4 l0; have e0 := cell_later hb4 e0)
                | (go_at_call 101; refine (isBelow_any c.path d.path w4 (by omega)).mono ?_; rintro ev w5 ⟨rfl, hw⟩; obtain rfl := hw.symm))
              go_ret
              exact ⟨ret_bool (unhide R).symm, hB2.trans ((hb3.trans (hb4.mono hb3.size)).mono hB2.size)⟩
  · have n80 : (80 : Int) ≤ (k : Int) := by omega
    have R : Hid (mayF cs c = false) := hide (by
      have : ¬ cs.length < 80 := by have := unhide HN; omega
      simp [mayF, this])
    clear hW0 hm hr
    go_enter Tryz.func77, Tryz.ntmps77
    go_wp2_with fail
    go_ret
    exact ⟨ret_bool (unhide R).symm, by have h := hb0; rw [unhide HW0] at h; exact h⟩
end Go.Proofs.YtjofjcjojgpaeaaGreatDoor

namespace Go.Proofs.YtjofjcjojgpaeaaGreatDoor
open Go.RowKit

theorem okCh_lt {cs : List Ent} {i : Nat} (h : okCh cs i = true) : i < 80 := by
  unfold okCh at h
  split at h
  · cases h
  · simp only [Bool.and_eq_true, decide_eq_true_eq] at h; exact h.1.1
theorem allCh_lt {cs : List Ent} {k : Nat} (h : ∀ j, j < k → okCh cs j = true) : k ≤ 80 := by
  cases k with
  | zero => omega
  | succ k => have := okCh_lt (h k (by omega)); omega
/-- An error that says a number and a place. -/
def ErIs (w : World) (er : Value) (c i : Int) : Prop := ∃ b : Nat, er = .iface 68 (.pointer (some ⟨b, 0, none⟩)) ∧ w.cell? ⟨b, 0, none⟩ = some (.int .i64 c) ∧ w.cell? ⟨b, 1, none⟩ = some (.int .i64 i)
/-- What Check answers. -/
def ChkIs (w : World) (cs : List Ent) (er : Value) : Prop := (er = .nilIface ∧ FirstBadC cs (-1)) ∨ ∃ i : Nat, ErIs w er 3 i ∧ FirstBadC cs i

attribute [local go_sem] setCell_drewN alloc_drewN
set_option maxHeartbeats 2000000 in
set_option maxRecDepth 100000 in
theorem check_any (ao : Option Addr) (cap n : Nat) (cs : List Ent) (m : Int) (w : World) (hr : ERow w ao cs) (HN : Hid (n = cs.length)) (hn : n ≤ 4294967280) (hcap : n ≤ cap) (HS : Hid (Small cs)) (hm : w.cell? ⟨14, 0, none⟩ = some (.int .i64 m)) :
    Calls Tryz.prog 49 #[.slice ao n cap] w fun ev w' => ∃ er, ev = .returned er ∧ Hid (ChkIs w' cs er) ∧ Below w.heap.size w w' := by
  have HM := hide hm
  clear hm
  go_enter Tryz.func49, Tryz.ntmps49
  go_wp2_with fail
  go_loopw [7] (fun i wr => ∃ k : Nat, k ≤ n ∧ i = .int .i64 k ∧ Below w.heap.size w wr ∧ Hid (∀ j, j < k → okCh cs j = true)) (fun i _ => n - (intOf i).toNat)
  case atStart => exact ⟨0, by omega, rfl, Below.refl _ _, hide (by intro j hj; omega)⟩
  case round =>
    obtain ⟨k, hk, rfl, hb, HK⟩ := hrel
    by_cases hlt : k < n
    · obtain ⟨c, he⟩ : ∃ c, cs[k]? = some c := ⟨cs[k]'(by have := unhide HN; omega), List.getElem?_eq_getElem (by have := unhide HN; omega)⟩
      obtain ⟨g, o, rfl, c0, c1, c2, c3⟩ := (hr.below hb) k c he
      have i0 : (0 : Int) ≤ (k : Int) := by omega
      have i1 : (k : Int) < (n : Int) := by omega
      have ikc : (0 : Int) ≤ (k : Int) ∧ (k : Int) ≤ (cap : Int) := by omega
      have hs1 := (unhide HS c (List.mem_of_getElem? he)).1
      have HLen : Hid (k < cs.length) := hide (by have := unhide HN; omega)
      have HO := hide (mayF_ok he)
      have k80 := allCh_lt (unhide HK)
      have HST : Hid (Small (cs.take k)) := hide (fun e h => unhide HS e (List.mem_of_mem_take h))
      have HNT : Hid (k = (cs.take k).length) := hide (by rw [List.length_take]; have := unhide HLen; omega)
      obtain ⟨W0, hW0⟩ : ∃ W0, W0 = wr.alloc (.cells #[.string c.path, .int .i64 c.kind, .int .i64 c.mode, .string c.data] 37) := ⟨_, rfl⟩
      have hB0w : Below wr.heap.size wr W0 := by rw [hW0]; exact (Below.refl _ _).alloc (Nat.le_refl _) _
      have hB0 := hb.trans (hB0w.mono hb.size)
      have q0 : W0.cell? ⟨wr.heap.size, 0, none⟩ = some (.string c.path) := by rw [hW0]; exact cell_of_row _ _ 0 _ _ _ (heap_alloc_new _ _)
      have q1 : W0.cell? ⟨wr.heap.size, 1, none⟩ = some (.int .i64 c.kind) := by rw [hW0]; exact cell_of_row _ _ 1 _ _ _ (heap_alloc_new _ _)
      have q2 : W0.cell? ⟨wr.heap.size, 2, none⟩ = some (.int .i64 c.mode) := by rw [hW0]; exact cell_of_row _ _ 2 _ _ _ (heap_alloc_new _ _)
      have q3 : W0.cell? ⟨wr.heap.size, 3, none⟩ = some (.string c.data) := by rw [hW0]; exact cell_of_row _ _ 3 _ _ _ (heap_alloc_new _ _)
      have HM0 := hide (cell_later hB0 (unhide HM))
      have HR0 := hide ((hr.below hB0).take k)
      clear he
      go_upto_region 4 with fail
      rw [← hW0]
      clear hW0 c0 c1 c2 c3
      go_region_held3 (fun w' => w'.cell? ⟨wr.heap.size, 0, none⟩ = some (.string c.path) ∧ w'.cell? ⟨wr.heap.size, 1, none⟩ = some (.int .i64 c.kind) ∧ w'.cell? ⟨wr.heap.size, 2, none⟩ = some (.int .i64 c.mode) ∧ w'.cell? ⟨wr.heap.size, 3, none⟩ = some (.string c.data))
        (first | exact ⟨q0, q1, q2, q3⟩ | exact ⟨cell_later (chain0 hb3) q0, cell_later (chain0 hb3) q1, cell_later (chain0 hb3) q2, cell_later (chain0 hb3) q3⟩ | go_keep)
        (first | (go_at_call 77; refine (mayFollow_any _ _ k (cs.take k) c m _ ?_ HNT ?_ HST ?_ ?_).mono ?_; (exact unhide HR0); omega; omega; (exact unhide HM0); rintro ev w3 ⟨rfl, hb3⟩))
      have hB3 := hB0.trans (Below.mono (B' := w.heap.size) (chain0 hb3) hB0.size)
      clear hb3 HM0 HR0
      cases hF : mayF (cs.take k) c
      · have C : Hid (okCh cs k = false) := hide ((unhide HO).symm.trans hF)
        clear HO
        go_wp2_with fail
        go_ret
        refine ⟨_, rfl, hide (.inr ⟨k, ⟨w3.heap.size, rfl, ?_, ?_⟩, .inr ⟨k, rfl, unhide HLen, unhide C, unhide HK⟩⟩), hB3.alloc hB3.size _⟩
        · exact cell_of_row _ _ 0 _ _ _ (heap_alloc_new w3 _)
        · exact cell_of_row _ _ 1 _ _ _ (heap_alloc_new w3 _)
      · have C : Hid (okCh cs k = true) := hide ((unhide HO).symm.trans hF)
        clear HO
        go_wp2_with fail
        go_roundw
        case rel =>
          have R : ∀ j, j < k + 1 → okCh cs j = true := fun j hj => by
            rcases Nat.lt_or_ge j k with h | h
            · exact unhide HK j h
            · have e9 : j = k := by omega
              rw [e9]; exact unhide C
          first
            | exact ⟨k + 1, by omega, by go_num, hB3, hide R⟩
            | ((repeat apply Exists.intro); exact ⟨⟨k + 1, by omega, by go_num, hB3, hide R⟩, rfl⟩)
        case measure => simp [intOf]; omega
    · have HF : Hid (FirstBadC cs (-1)) := hide (.inl ⟨rfl, fun i hi => unhide HK i (by have := unhide HN; omega)⟩)
      go_wp2_with fail
      go_ret
      exact ⟨.nilIface, rfl, hide (.inl ⟨rfl, unhide HF⟩), hb⟩
end Go.Proofs.YtjofjcjojgpaeaaGreatDoor
