import Derived.Test.YtkeefkfklmhcjaaGreatDoorEntC
import Derived.Deep.RegionHeld3
import Derived.Test.YtkeefkfklmhcjaaGreatDoorJOrdA
namespace Go.Proofs.YtkeefkfklmhcjaaGreatDoor
open Go.RowKit

/-- Entries of a size that the proof bears. -/
def Small (es : List Ent) : Prop := ∀ e ∈ es, e.path.size ≤ 1048576 ∧ e.data.size ≤ 1048576
/-- May the entry of this number stand where it stands? -/
def okAt (es : List Ent) (i : Nat) : Bool := match es[i]? with
  | none => false
  | some e => decide (i < 40) && entOk e && (decide (i = 0) || match es[i - 1]? with
    | none => false
    | some d => ltL (prt d.path.data.toList) (prt e.path.data.toList)) && decide (kindP (es.take i) (dirOf e.path.data.toList) = 1)
/-- The number of the first entry that may not; -1: all may. -/
def FirstBad (es : List Ent) (r : Int) : Prop := (r = -1 ∧ ∀ i, i < es.length → okAt es i = true) ∨ ∃ i : Nat, r = i ∧ i < es.length ∧ okAt es i = false ∧ ∀ j, j < i → okAt es j = true
theorem firstBad_one {es : List Ent} {r s : Int} (h1 : FirstBad es r) (h2 : FirstBad es s) : r = s := by
  rcases h1 with ⟨rfl, a1⟩ | ⟨i, rfl, a1, a2, a3⟩ <;> rcases h2 with ⟨rfl, b1⟩ | ⟨j, rfl, b1, b2, b3⟩
  · rfl
  · rw [a1 j b1] at b2; cases b2
  · rw [b1 i a1] at a2; cases a2
  · rcases Nat.lt_trichotomy i j with h | h | h
    · rw [b3 i h] at a2; cases a2
    · rw [h]
    · rw [a3 j h] at b2; cases b2
theorem firstBad_at {es : List Ent} {i : Nat} (hi : i < es.length) (h1 : okAt es i = false) (h2 : ∀ j, j < i → okAt es j = true) : FirstBad es i := .inr ⟨i, rfl, hi, h1, h2⟩
theorem ok_lt {es : List Ent} {i : Nat} (h : okAt es i = true) : i < 40 := by
  unfold okAt at h
  split at h
  · cases h
  · simp only [Bool.and_eq_true, decide_eq_true_eq] at h; exact h.1.1.1
theorem okAt_eq {es : List Ent} {i : Nat} {e : Ent} (h : es[i]? = some e) : okAt es i = (decide (i < 40) && entOk e && (decide (i = 0) || match es[i - 1]? with
    | none => false
    | some d => ltL (prt d.path.data.toList) (prt e.path.data.toList)) && decide (kindP (es.take i) (dirOf e.path.data.toList) = 1)) := by
  unfold okAt; rw [h]
/-- The same, wherever the list ends. -/
def okG (es : List Ent) (i : Nat) : Bool := match es[i]? with
  | none => false
  | some e => entOk e && (decide (i = 0) || match es[i - 1]? with
    | none => false
    | some d => ltL (prt d.path.data.toList) (prt e.path.data.toList)) && decide (kindP (es.take i) (dirOf e.path.data.toList) = 1)
theorem okG_of {es : List Ent} {i : Nat} (h : okAt es i = true) : okG es i = true := by
  unfold okAt at h
  unfold okG
  split at h
  · cases h
  · simp only [Bool.and_eq_true] at h ⊢
    exact ⟨⟨h.1.1.2, h.1.2⟩, h.2⟩
theorem okG_eq {es : List Ent} {i : Nat} {e : Ent} (h : es[i]? = some e) : okG es i = (entOk e && (decide (i = 0) || match es[i - 1]? with
    | none => false
    | some d => ltL (prt d.path.data.toList) (prt e.path.data.toList)) && decide (kindP (es.take i) (dirOf e.path.data.toList) = 1)) := by
  unfold okG; rw [h]
theorem all_lt {es : List Ent} {k : Nat} (h : ∀ j, j < k → okAt es j = true) : k ≤ 40 := by
  cases k with
  | zero => omega
  | succ k => have := ok_lt (h k (by omega)); omega

attribute [local go_sem] setCell_drewN alloc_drewN

set_option maxHeartbeats 2000000 in
set_option maxRecDepth 100000 in
theorem wrong_any (ao : Option Addr) (cap n : Nat) (es : List Ent) (w : World) (hr : ERow w ao es) (HN : Hid (n = es.length)) (hn : n ≤ 4294967280) (hcap : n ≤ cap) (HS : Hid (Small es)) :
    Calls Tryz.prog 10 #[.slice ao n cap] w fun ev w' => ∃ r : Int, ev = .returned (.int .i64 r) ∧ Hid (FirstBad es r) ∧ Below w.heap.size w w' := by
  go_enter Tryz.func10, Tryz.ntmps10
  go_wp2
  go_loopw [3] (fun i wr => ∃ k : Nat, k ≤ n ∧ i = .int .i64 k ∧ Below w.heap.size w wr ∧ Hid (∀ j, j < k → okAt es j = true)) (fun i _ => n - (intOf i).toNat)
  case atStart => exact ⟨0, by omega, rfl, Below.refl _ _, hide (by intro j hj; omega)⟩
  case round =>
    obtain ⟨k, hk, rfl, hb, HK⟩ := hrel
    by_cases hlt : k < n
    · obtain ⟨e, he⟩ : ∃ e, es[k]? = some e := ⟨es[k]'(by have := unhide HN; omega), List.getElem?_eq_getElem (by have := unhide HN; omega)⟩
      obtain ⟨g, o, rfl, c0, c1, c2, c3⟩ := (hr.below hb) k e he
      have i0 : (0 : Int) ≤ (k : Int) := by omega
      have i1 : (k : Int) < (n : Int) := by omega
      have ikc : (0 : Int) ≤ (k : Int) ∧ (k : Int) ≤ (cap : Int) := by omega
      have hsz := unhide HS e (List.mem_of_getElem? he)
      have hs1 := hsz.1
      have hs2 := hsz.2
      have k40 := all_lt (unhide HK)
      have HE := hide he
      have HLen : Hid (k < es.length) := hide (by have := unhide HN; omega)
      have HO := hide (okAt_eq he)
      clear he hsz
      go_upto_region 5 with (go_at_call 27; refine (isPath_any e.path _ (by omega)).mono ?_; rintro ev w1 ⟨rfl, hb1⟩)
      have hB1 := hb.trans (hb1.mono hb.size)
      have c0 := cell_later hb1 c0
      have c1 := cell_later hb1 c1
      have c2 := cell_later hb1 c2
      have c3 := cell_later hb1 c3
      clear hb1
      go_upto_region 6 with (go_at_call 28; refine (good_any e (by omega) _).mono ?_; rintro ev w2 ⟨rfl, hb2⟩)
      have hB2 := hB1.trans (hb2.mono hB1.size)
      have c0 := cell_later hb2 c0
      clear hb2 c1 c2 c3
      by_cases k4 : k = 40
      · have C : Hid (okAt es k = false) := hide (by rw [unhide HO, k4]; rfl)
        have k5 : (k : Int) = 40 := by omega
        go_wp2_with fail
        go_ret
        exact ⟨k, rfl, hide (firstBad_at (unhide HLen) (unhide C) (unhide HK)), hB2⟩
      · have k5 : ((k : Int) == 40) = false := by simp; omega
        have k6 : ¬ (k : Int) = 40 := by omega
        cases hP : isP e.path.data.toList
        · have C : Hid (okAt es k = false) := hide (by rw [unhide HO, entOk, hP]; simp)
          go_wp2_with fail
          go_ret
          exact ⟨k, rfl, hide (firstBad_at (unhide HLen) (unhide C) (unhide HK)), hB2⟩
        · cases hG : goodE e
          · have C : Hid (okAt es k = false) := hide (by rw [unhide HO, entOk, hG]; simp)
            go_wp2_with fail
            go_ret
            exact ⟨k, rfl, hide (firstBad_at (unhide HLen) (unhide C) (unhide HK)), hB2⟩
          · by_cases p0 : e.path.data.toList = []
            · have C : Hid (okAt es k = false) := hide (by rw [unhide HO, entOk, p0]; simp)
              have g1 : e.path.toList.isEmpty = true := by rw [Lib.toList_data, p0]; rfl
              clear p0
              go_wp2_with fail
              go_ret
              exact ⟨k, rfl, hide (firstBad_at (unhide HLen) (unhide C) (unhide HK)), hB2⟩
            · have g1 : e.path.toList.isEmpty = false := by rw [Lib.toList_data]; simpa using p0
              have HEO : Hid (entOk e = true) := hide (by simp [entOk, hP, hG, p0])
              have HP0 := hide p0
              clear p0
              by_cases kz : k = 0
              · subst kz
                have HO2 : Hid (okAt es 0 = decide (kindP (es.take 0) (dirOf e.path.data.toList) = 1)) := hide (by rw [unhide HO, unhide HEO]; simp)
                have hB3 := hB2
                clear HO
                simp only [Nat.zero_mul, Nat.add_zero] at c0
                go_upto_region 13 with (go_at_call 30; refine (up_any e.path _ (by omega) (unhide HP0)).mono ?_; rintro ev w4 ⟨dd, nn, rfl, HD, HNm, hb4⟩)
                have hB4 := hB3.trans (hb4.mono hB3.size)
                have HRT := hide ((hr.below hB4).take (0))
                go_upto_region 14 with (go_at_call 31; refine (kind_any _ _ _ (es.take (0)) dd _ (unhide HRT) (hide (by rw [List.length_take]; have := unhide HLen; omega)) (by omega)).mono ?_; rintro ev w5 ⟨kd, rfl, HKD, hw⟩; obtain rfl := hw.symm)
                by_cases hk1 : kd = 1
                · have C : Hid (okAt es (0) = true) := hide (by rw [unhide HO2, ← unhide HD, ← unhide HKD, hk1]; rfl)
                  have hk2 : (kd == 1) = true := by simp [hk1]
                  go_wp2_with fail
                  go_roundw
                  case rel =>
                    have R : ∀ j, j < 0 + 1 → okAt es j = true := fun j hj => by
                      rcases Nat.lt_or_ge j (0) with h | h
                      · exact unhide HK j h
                      · have e9 : j = 0 := by omega
                        rw [e9]; exact unhide C
                    first
                      | exact ⟨0 + 1, by omega, by go_num, hB4, hide R⟩
                      | ((repeat apply Exists.intro); exact ⟨⟨0 + 1, by omega, by go_num, hB4, hide R⟩, rfl⟩)
                  case measure => simp [intOf]; omega
                · have C : Hid (okAt es (0) = false) := hide (by rw [unhide HO2, ← unhide HD, ← unhide HKD]; simp [hk1])
                  have hk2 : (kd == 1) = false := by simp [hk1]
                  go_wp2_with fail
                  go_ret
                  exact ⟨_, rfl, hide (firstBad_at (unhide HLen) (unhide C) (unhide HK)), hB4⟩
              · obtain ⟨q, hq⟩ : ∃ q, q + 1 = k := ⟨k - 1, by omega⟩
                obtain ⟨d, hd⟩ : ∃ d, es[q]? = some d := ⟨es[q]'(by have := unhide HN; omega), List.getElem?_eq_getElem (by have := unhide HN; omega)⟩
                obtain ⟨g', o', hgo, d0, _⟩ := (hr.below hB2) q d hd
                cases hgo
                have hsd := (unhide HS d (List.mem_of_getElem? hd)).1
                have HO2 : Hid (okAt es k = (ltL (prt d.path.data.toList) (prt e.path.data.toList) && decide (kindP (es.take k) (dirOf e.path.data.toList) = 1))) := hide (by
                  rw [unhide HO, unhide HEO, show k - 1 = q from by omega, hd]
                  have h40 : k < 40 := by omega
                  simp [h40, kz])
                have hw : IntKind.i64.wrap ((k : Int) - 1) = (q : Int) := by rw [show (k : Int) - 1 = (q : Int) from by omega]; exact wrap_i64 _ (by omega)
                have q0 : (0 : Int) ≤ (q : Int) := by omega
                have q1 : (q : Int) < (n : Int) := by omega
                clear hd HO hq
                go_upto_region 9 with fail
                go_region_held3 (fun w' => w'.cell? ⟨g, o + q * 4, none⟩ = some (.string d.path) ∧ w'.cell? ⟨g, o + k * 4, none⟩ = some (.string e.path)) (first | exact ⟨cell_later (chain0 hb3) d0, cell_later (chain0 hb3) c0⟩ | go_keep)
                  (first | (go_at_call 29; refine (order_any d.path e.path _ ?_ ?_).mono ?_; omega; omega; rintro ev w3 ⟨r, rfl, hrl, _, hb3⟩))
                have hB3 := hB2.trans (Below.mono (B' := w.heap.size) (chain0 hb3) hB2.size)
                have c0 := cell_later (chain0 hb3) c0
                have HR := hide hrl
                clear hrl hb3
                by_cases hneg : r < 0
                · have HO2 : Hid (okAt es k = decide (kindP (es.take k) (dirOf e.path.data.toList) = 1)) := hide (by rw [unhide HO2, (unhide HR).1 hneg]; simp)
                  have hn2 : ¬ (0 ≤ r) := by omega
                  go_upto_region 13 with (go_at_call 30; refine (up_any e.path _ (by omega) (unhide HP0)).mono ?_; rintro ev w4 ⟨dd, nn, rfl, HD, HNm, hb4⟩)
                  have hB4 := hB3.trans (hb4.mono hB3.size)
                  have HRT := hide ((hr.below hB4).take (k))
                  go_upto_region 14 with (go_at_call 31; refine (kind_any _ _ _ (es.take (k)) dd _ (unhide HRT) (hide (by rw [List.length_take]; have := unhide HLen; omega)) (by omega)).mono ?_; rintro ev w5 ⟨kd, rfl, HKD, hw⟩; obtain rfl := hw.symm)
                  by_cases hk1 : kd = 1
                  · have C : Hid (okAt es (k) = true) := hide (by rw [unhide HO2, ← unhide HD, ← unhide HKD, hk1]; rfl)
                    have hk2 : (kd == 1) = true := by simp [hk1]
                    go_wp2_with fail
                    go_roundw
                    case rel =>
                      have R : ∀ j, j < k + 1 → okAt es j = true := fun j hj => by
                        rcases Nat.lt_or_ge j (k) with h | h
                        · exact unhide HK j h
                        · have e9 : j = k := by omega
                          rw [e9]; exact unhide C
                      first
                        | exact ⟨k + 1, by omega, by go_num, hB4, hide R⟩
                        | ((repeat apply Exists.intro); exact ⟨⟨k + 1, by omega, by go_num, hB4, hide R⟩, rfl⟩)
                    case measure => simp [intOf]; omega
                  · have C : Hid (okAt es (k) = false) := hide (by rw [unhide HO2, ← unhide HD, ← unhide HKD]; simp [hk1])
                    have hk2 : (kd == 1) = false := by simp [hk1]
                    go_wp2_with fail
                    go_ret
                    exact ⟨_, rfl, hide (firstBad_at (unhide HLen) (unhide C) (unhide HK)), hB4⟩
                · have C : Hid (okAt es k = false) := hide (by
                    have : ltL (prt d.path.data.toList) (prt e.path.data.toList) = false := by
                      cases h : ltL (prt d.path.data.toList) (prt e.path.data.toList)
                      · rfl
                      · exact absurd ((unhide HR).2 h) hneg
                    rw [unhide HO2, this]; rfl)
                  have hp2 : 0 ≤ r := by omega
                  go_wp2_with fail
                  go_ret
                  exact ⟨_, rfl, hide (firstBad_at (unhide HLen) (unhide C) (unhide HK)), hB3⟩
    · have hlen : k = es.length := by have := unhide HN; omega
      have HF : Hid (FirstBad es (-1)) := hide (.inl ⟨rfl, fun i hi => unhide HK i (by omega)⟩)
      clear hlen
      go_wp2_with fail
      go_ret
      exact ⟨-1, rfl, HF, hb⟩
end Go.Proofs.YtkeefkfklmhcjaaGreatDoor
