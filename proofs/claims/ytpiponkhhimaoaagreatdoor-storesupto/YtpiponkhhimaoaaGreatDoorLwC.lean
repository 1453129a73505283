import Derived.Test.YtpiponkhhimaoaaGreatDoorLwB
namespace Go.Proofs.YtpiponkhhimaoaaGreatDoor
open Go.RowKit Go.Maps Go.Sort Go.Shelf

/-- What 'alike' does. -/
def AlikeIs (w : World) (B wb lb sb mb yb : Nat) (vf vs : Value) (L : List Blb) (q : Int) (N : List Blb) (c : Bool) (w' : World) : Prop := Two w' B wb lb sb mb yb (.slice none 0 0) vf (.slice none 0 0) vs L q [] N c ∧ Below B w w'
set_option maxHeartbeats 2000000 in
set_option maxRecDepth 100000 in
theorem alike_any (B wb lb sb mb yb : Nat) (v vf va vs : Value) (L : List Blb) (q : Int) (A : List Ac) (N : List Blb) (c : Bool) (w : World) (h : Two w B wb lb sb mb yb v vf va vs L q A N c) (hA : A.length ≤ 1099511627) (hAs : ∀ a ∈ A, a.name.size ≤ 1073741824 ∧ a.dest.size ≤ 1073741824 ∧ a.data.size ≤ 1073741824) (hL : L.length ≤ 1099511627) (hLs : ∀ b ∈ L, b.name.size ≤ 1073741824 ∧ b.data.size ≤ 1073741824) :
    Calls Tryz.prog 8 #[.pointer (some ⟨wb, 0, none⟩)] w fun ev w' => ev = .returned (.bool true) ∧ AlikeIs w B wb lb sb mb yb vf vs L q N c w' := by
  have c0 : w.cell? ⟨wb, 0, none⟩ = some (.pointer (some ⟨lb, 0, none⟩)) := cell_of_row _ _ 0 _ _ _ h.both
  have hAc := lacts_any lb sb mb v L q A w h.x hA hAs
  have HT := hide h
  have HLs := hide hLs
  clear h hAs hLs
  go_enter Tryz.func8, Tryz.ntmps8
  go_upto_region 2 with (go_at_call 24; refine hAc.mono ?_; clear hAc; rintro ev w1 ⟨rfl, hb1⟩)
  obtain ⟨hX1, hY1, hw1, hrow1, hG1⟩ := (unhide HT).forget hb1
  have c1 : w1.cell? ⟨wb, 1, none⟩ = some (.pointer (some ⟨yb, 0, none⟩)) := cell_of_row _ _ 1 _ _ _ (hw1.trans (unhide HT).both)
  have hTo := told_any yb vf va vs L q A N c w1 hY1
  have HX1 := hide hX1
  have HG1 := hide hG1
  have hva : va.ownBlock ≠ some yb := hY1.ya
  have hrowb : (w1.setCell ⟨yb, 2, none⟩ (.slice none 0 0)).ownsRow 0 66 4 va A.length (acC A) := row_turn hY1.acts fun k hk => Below.heap_setCell _ _ _ _ (fun e => hva (hk.trans (congrArg some e)))
  have hvy : v.ownBlock ≠ some yb := fun e => (unhide HT).sep yb (.inr (.inr e)) (.inl (.inl rfl))
  have hrowa : (w1.setCell ⟨yb, 2, none⟩ (.slice none 0 0)).ownsRow 0 66 4 v A.length (acC A) := row_turn hrow1 fun k hk => Below.heap_setCell _ _ _ _ (fun e => hvy (hk.trans (congrArg some e)))
  have hR1 : RGoes w1 yb vf va vs (w1.setCell ⟨yb, 2, none⟩ (.slice none 0 0)) vf (.slice none 0 0) vs := ⟨Turn.of_set w1 ⟨yb, 2, none⟩ _ (S := ROwn yb va vs) (.inl rfl), fun k hk => .inl (hk.imp id (fun e => e.elim (fun e => by cases e) (fun e => .inr e))), fun _ => .inl⟩
  clear hb1 hX1 hY1 hw1 hrow1 hG1 c0
  go_upto_region 3 with (go_at_call 25; refine hTo.mono ?_; clear hTo; rintro ev w2 ⟨rfl, hY2, rfl⟩)
  obtain ⟨hT2, hB2⟩ := (unhide HT).step (unhide HX1) (unhide HG1) hY2 hR1
  generalize w1.setCell ⟨yb, 2, none⟩ (.slice none 0 0) = w2 at *
  clear hY2 hR1 HX1 HG1 c1 hva hvy
  have c2 : w2.cell? ⟨wb, 0, none⟩ = some (.pointer (some ⟨lb, 0, none⟩)) := cell_of_row _ _ 0 _ _ _ hT2.both
  have hFi := lfiles_any lb sb mb _ L q [] w2 hT2.x hL (unhide HLs)
  have HT2 := hide hT2
  have HB2 := hide hB2
  clear hT2 hB2 HT
  go_upto_region 4 with (go_at_call 19; refine hFi.mono ?_; clear hFi; rintro ev w3 ⟨vl, rfl, hO3, hb3⟩)
  have hT3 := (unhide HT2).below hb3
  have hA3 : w3.ownsRow 0 66 4 v A.length (acC A) := row_turn hrowa fun k hk => hb3.block k (own_lt hrowa hk)
  have hC3 : w3.ownsRow 0 66 4 va A.length (acC A) := row_turn hrowb fun k hk => hb3.block k (own_lt hrowb hk)
  obtain ⟨aa, ca, rfl, ra, _⟩ := arow_of hA3
  obtain ⟨ab, cb, rfl, rb, _⟩ := arow_of hC3
  obtain ⟨al, cl, nl, rfl, hnl, rl, _⟩ := ownB_row hO3
  obtain ⟨af, cf, nf, rfl, hnf, rf, _⟩ := ownB_row hT3.y.files
  have c3 : w3.cell? ⟨wb, 1, none⟩ = some (.pointer (some ⟨yb, 0, none⟩)) := cell_of_row _ _ 1 _ _ _ hT3.both
  have c4 : w3.cell? ⟨yb, 0, none⟩ = some (.slice af nf cf) := cell_of_row _ _ 0 _ _ _ hT3.y.cells
  have HT3 := hide hT3
  have HB3 : Hid (Below B w w3) := hide ((unhide HB2).trans (hb3.mono (Nat.le_of_lt (unhide HT2).blt)))
  obtain ⟨n, hn⟩ : ∃ n, n = A.length := ⟨_, rfl⟩
  rw [← hn] at hA ⊢
  have HN := hide hn
  subst hnl
  subst hnf
  obtain ⟨m, hm⟩ : ∃ m, m = L.length := ⟨_, rfl⟩
  rw [← hm] at hL c4 ⊢
  have HM := hide hm
  clear hn hm hT3 hA3 hC3 hO3 HT2 HB2 hb3 hrowa hrowb c2
  go_wp2_with fail
  go_loopw [6] (fun i wr => ∃ k : Nat, k ≤ n ∧ i = .int .i64 k ∧ Below w3.heap.size w3 wr) (fun i _ => n - (intOf i).toNat)
  case atStart => exact ⟨0, by omega, rfl, Below.refl _ _⟩
  case round =>
    obtain ⟨k, hk, rfl, hb⟩ := hrel
    by_cases hlt : k < n
    · obtain ⟨e, he⟩ : ∃ e, A[k]? = some e := ⟨A[k]'(by have := unhide HN; omega), List.getElem?_eq_getElem (by have := unhide HN; omega)⟩
      obtain ⟨g, rfl, _, d0, d1, d2, d3⟩ := (ra.below hb) k e he
      obtain ⟨g2, rfl, _, f0, f1, f2, f3⟩ := (rb.below hb) k e he
      have i1 : (0 : Int) ≤ (k : Int) := by omega
      have i2 : (k : Int) < (n : Int) := by omega
      have hne := neq138 e wr.drew
      clear he
      go_upto_region 9 with fail
      go_region_held3 (fun w' => w'.cell? ⟨g, k * 4, none⟩ = some (.int .i64 e.what) ∧ w'.cell? ⟨g, k * 4 + 1, none⟩ = some (.string e.name) ∧ w'.cell? ⟨g, k * 4 + 2, none⟩ = some (.string e.dest) ∧ w'.cell? ⟨g, k * 4 + 3, none⟩ = some (.string e.data) ∧ w'.cell? ⟨g2, k * 4, none⟩ = some (.int .i64 e.what) ∧ w'.cell? ⟨g2, k * 4 + 1, none⟩ = some (.string e.name) ∧ w'.cell? ⟨g2, k * 4 + 2, none⟩ = some (.string e.dest) ∧ w'.cell? ⟨g2, k * 4 + 3, none⟩ = some (.string e.data))
        (first | (with_reducible exact ⟨d0, d1, d2, d3, f0, f1, f2, f3⟩) | go_keep) (fail)
      all_goals
        try go_wp2_with fail
        go_roundw
        case rel =>
          have R : Below w3.heap.size w3 wr.drew := ⟨hb.os, hb.tape, hb.output, hb.size, hb.block⟩
          first
            | exact ⟨k + 1, by omega, by go_num, R⟩
            | ((repeat apply Exists.intro); exact ⟨⟨k + 1, by omega, by go_num, R⟩, rfl⟩)
        case measure => simp [intOf]; omega
    · obtain ⟨w4, hw4⟩ : ∃ w4, w4 = wr := ⟨_, rfl⟩
      rw [← hw4] at hb
      have HW4 := hide hw4
      go_upto_region 11 with fail
      rw [← unhide HW4]
      clear HW4 hw4
      go_wp2
      go_loopw [7] (fun i wr => ∃ k : Nat, k ≤ m ∧ i = .int .i64 k ∧ Below w3.heap.size w3 wr) (fun i _ => m - (intOf i).toNat)
      case atStart => exact ⟨0, by omega, rfl, hb⟩
      case round =>
        obtain ⟨j, hj, rfl, hbj⟩ := hrel
        by_cases hjm : j < m
        · obtain ⟨e, he⟩ : ∃ e, L[j]? = some e := ⟨L[j]'(by have := unhide HM; omega), List.getElem?_eq_getElem (by have := unhide HM; omega)⟩
          obtain ⟨g, o, rfl, d0, d1⟩ := (rl.below hbj) j e he
          obtain ⟨g2, o2, rfl, f0, f1⟩ := (rf.below hbj) j e he
          have y0 := cell_later hbj c3
          have y1 := cell_later hbj c4
          have i1 : (0 : Int) ≤ (j : Int) := by omega
          have i2 : (j : Int) < (m : Int) := by omega
          have hne := neq140 e wr.drew
          clear he
          go_upto_region 14 with fail
          go_region_held3 (fun w' => w'.cell? ⟨g, o + j * 2, none⟩ = some (.string e.name) ∧ w'.cell? ⟨g, o + j * 2 + 1, none⟩ = some (.string e.data) ∧ w'.cell? ⟨wb, 1, none⟩ = some (.pointer (some ⟨yb, 0, none⟩)) ∧ w'.cell? ⟨yb, 0, none⟩ = some (.slice (some ⟨g2, o2, none⟩) m cf) ∧ w'.cell? ⟨g2, o2 + j * 2, none⟩ = some (.string e.name) ∧ w'.cell? ⟨g2, o2 + j * 2 + 1, none⟩ = some (.string e.data))
            (first | (with_reducible exact ⟨d0, d1, y0, y1, f0, f1⟩) | go_keep) (fail)
          all_goals
            try go_wp2_with fail
            go_roundw
            case rel =>
              have R : Below w3.heap.size w3 wr.drew := ⟨hbj.os, hbj.tape, hbj.output, hbj.size, hbj.block⟩
              first
                | exact ⟨j + 1, by omega, by go_num, R⟩
                | ((repeat apply Exists.intro); exact ⟨⟨j + 1, by omega, by go_num, R⟩, rfl⟩)
            case measure => simp [intOf]; omega
        · go_wp2_with fail
          go_ret
          exact ⟨rfl, (unhide HT3).below hbj, (unhide HB3).trans (hbj.mono (Nat.le_of_lt (unhide HT3).blt))⟩
end Go.Proofs.YtpiponkhhimaoaaGreatDoor
