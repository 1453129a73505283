import Derived.Test.YtkikhmleffcajaaGreatDoorJDcA
namespace Go.Proofs.YtkikhmleffcajaaGreatDoor
open Go.RowKit Go.Maps

/-- What the document's quoted answers. -/
def QuoD (w' : World) (B : Nat) (ev : Ending) (r : Res (List Atm × Nat)) (k n : Nat) : Prop := match r with
  | .error (e, p) => e ≠ 0 ∧ ev = .returned (.tuple #[.slice none 0 0, .int .i64 0, fltV e p])
  | .ok (xs, t) => ∃ v, ev = .returned (.tuple #[v, .int .i64 (t : Int), fltV 0 (-1)]) ∧ AtR w' B v xs ∧ k < t ∧ t ≤ n ∧ xs.length + k ≤ t
theorem row_set2 {w : World} {B b t e z n : Nat} {v a0 a1 x0 x1 : Value} {xs : List Value} (h : w.ownsRow B e z v n xs) (hb : b < B) (_ : w.heap[b]? = some (.cells #[x0, x1] t (0, 0))) :
    ((w.setCell ⟨b, 0, none⟩ a0).setCell ⟨b, 1, none⟩ a1).ownsRow B e z v n xs :=
  row_same h fun k hk => by
    have hk' := (World.ownsRow.lt h k hk).1
    have h1 := (Tb.to (B := w.heap.size) (rb := b) (w := w) 0 a0).trans (Tb.to (B := w.heap.size) (rb := b) (w := w.setCell ⟨b, 0, none⟩ a0) 1 a1)
    exact h1.block k (World.ownsRow.lt h k hk).2 (by omega)
theorem var_rng {l : List UInt8} {k t : Nat} {n : List UInt8} (h : varG l k = some (n, t)) : k < t ∧ t ≤ l.length := by
  unfold varG at h
  cases hb : (l[k + 1]? == some 123) with
  | true =>
    simp only [hb, if_true, true_and] at h
    split at h
    · cases h
    · rename_i hn
      simp only [Option.some.injEq, Prod.mk.injEq] at h
      have h1 : l[k + 2 + nameN (l.drop (k + 2))]? = some 125 := Classical.byContradiction fun e => hn (.inr (.inr e))
      have := (List.getElem?_eq_some_iff.1 h1).1
      omega
  | false =>
    simp only [hb, Bool.false_eq_true, if_false, false_and, or_false] at h
    split at h
    · cases h
    · rename_i hn
      simp only [Option.some.injEq, Prod.mk.injEq] at h
      have := nameN_le (l.drop (k + 1))
      rw [List.length_drop] at this
      omega
set_option maxHeartbeats 4000000 in
set_option maxRecDepth 10000 in
theorem quo_doc (s : ByteArray) (k : Nat) (w : World) (hk : k < s.size) (hs : s.size ≤ 1500) :
    Calls Tryz.prog 41 #[.string s, .int .i64 (k : Int)] w fun ev w' => QuoD w' w.heap.size ev (quoG s.data.toList k [] (k + 1)) k s.size ∧ Below w.heap.size w w' := by
  obtain ⟨i0, hi, hz0, hz1, hz2⟩ := info_parts info76
  obtain ⟨W0, hW0⟩ : ∃ W0, W0 = w.alloc (.cells #[.int .i64 0, .int .i64 0] 28) := ⟨_, rfl⟩
  have hb0 : Below w.heap.size w W0 := by rw [hW0]; exact (Below.refl _ _).alloc (Nat.le_refl _) _
  have hc0 : W0.heap[w.heap.size]? = some (.cells #[.int .i64 0, .int .i64 0] 28 (0, 0)) := by rw [hW0]; exact heap_alloc_new _ _
  have hz : w.heap.size < W0.heap.size := by rw [hW0]; simp
  have FC : Hid (∀ wX, Below W0.heap.size W0 wX → wX.heap[w.heap.size]? = some (.cells #[.int .i64 0, .int .i64 0] 28 (0, 0)) ∧ Below w.heap.size w wX) := hide (fun wX h => ⟨(h.block _ hz).trans hc0, hb0.trans (h.mono (Nat.le_of_lt hz))⟩)
  clear hc0 hb0
  go_enter Tryz.func41, Tryz.ntmps41
  go_upto_region 1 with fail
  rw [← hW0]
  clear hW0
  go_wp2_with fail
  go_loopw [7, 8] (fun v i wr => ∃ (j : Nat) (xs : List Atm), i = .int .i64 (j : Int) ∧ AtR wr W0.heap.size v xs ∧ quoG s.data.toList k [] (k + 1) = quoG s.data.toList k xs j ∧ k < j ∧ j ≤ s.size ∧ xs.length + k < j ∧ Below W0.heap.size W0 wr) (fun _ i _ => s.size - (intOf i).toNat)
  case atStart => exact ⟨k + 1, [], by go_num, World.ownsRow_nil _ _ _ _, rfl, by omega, by omega, by simp, Below.refl _ _⟩
  case round =>
    obtain ⟨j, xs, rfl, hA, hG, hkj, hj, hxl, hB⟩ := hrel
    obtain ⟨ao, n', cap, rfl⟩ := row_form hA
    have HA := hide hA
    have HG := hide hG
    have hBs := hB.size
    clear hA hG
    have hS := stops_any s j wr (by omega) hs
    cases hc : s.data.toList[j]? with
    | none =>
      have HQ := hide (quo_none (i := k) (acc := xs) hc)
      rw [show stopG s.data.toList j = true by unfold stopG; rw [hc]; rfl] at hS
      clear hc
      go_wp2_with (first
        | (go_at_call 22; refine hS.mono ?_; clear hS; rintro ev w1 ⟨rfl, hw⟩; obtain rfl := hw.symm)
        | (go_at_call 9; refine (bad_any _ _ _).mono ?_; rintro ev w2 ⟨rfl, hb2⟩; obtain ⟨hc2, hw2⟩ := unhide FC w2 (hB.trans (hb2.mono hBs)); have q0 := cell_of_row _ _ 0 _ _ _ hc2; have q1 := cell_of_row _ _ 1 _ _ _ hc2; have z0 : w2.frozen? ⟨w.heap.size, 0, none⟩ = false := (by simp [World.frozen?, hc2]); have z1 : w2.frozen? ⟨w.heap.size, 1, none⟩ = false := (by simp [World.frozen?, hc2]); have HC2 := hide hc2; clear hc2))
      have hr9 := set2 (unhide HC2) (.int .i64 5) (.int .i64 k)
      have d0 := cell_of_row _ _ 0 _ _ _ hr9
      have d1 := cell_of_row _ _ 1 _ _ _ hr9
      refine bodyPost_ret (v := .tuple #[.slice none 0 0, .int .i64 0, fltV 5 k]) (by simp [results, Tryz.results41, go_sem, d0, d1]) rfl ⟨?_, below2 hw2 (Nat.le_refl _) _ _⟩
      rw [unhide HG, unhide HQ]
      exact ⟨by decide, rfl⟩
    | some c =>
      obtain ⟨hlt, hcv⟩ := get_some hc
      have hq := quo_some (i := k) (acc := xs) hc
      have hcn : s[j].toNat = c.toNat := by rw [hcv]
      by_cases h10 : c = 10
      · have HQ : Hid (quoG s.data.toList k xs j = .error (5, k)) := hide (by rw [hq, if_pos h10])
        rw [show stopG s.data.toList j = true by unfold stopG; rw [hc, h10]; rfl] at hS
        clear hc hq
        go_wp2_with (first
          | (go_at_call 22; refine hS.mono ?_; clear hS; rintro ev w1 ⟨rfl, hw⟩; obtain rfl := hw.symm)
          | (go_at_call 9; refine (bad_any _ _ _).mono ?_; rintro ev w2 ⟨rfl, hb2⟩; obtain ⟨hc2, hw2⟩ := unhide FC w2 (hB.trans (hb2.mono hBs)); have q0 := cell_of_row _ _ 0 _ _ _ hc2; have q1 := cell_of_row _ _ 1 _ _ _ hc2; have z0 : w2.frozen? ⟨w.heap.size, 0, none⟩ = false := (by simp [World.frozen?, hc2]); have z1 : w2.frozen? ⟨w.heap.size, 1, none⟩ = false := (by simp [World.frozen?, hc2]); have HC2 := hide hc2; clear hc2))
        have hr9 := set2 (unhide HC2) (.int .i64 5) (.int .i64 k)
        have d0 := cell_of_row _ _ 0 _ _ _ hr9
        have d1 := cell_of_row _ _ 1 _ _ _ hr9
        refine bodyPost_ret (v := .tuple #[.slice none 0 0, .int .i64 0, fltV 5 k]) (by simp [results, Tryz.results41, go_sem, d0, d1]) rfl ⟨?_, below2 hw2 (Nat.le_refl _) _ _⟩
        rw [unhide HG, unhide HQ]
        exact ⟨by decide, rfl⟩

      rw [if_neg h10] at hq
      rw [show stopG s.data.toList j = false by unfold stopG; rw [hc]; simpa using h10] at hS
      clear h10
      by_cases h34 : c = 34
      · have HQ : Hid (quoG s.data.toList k xs j = .ok (xs, j + 1)) := hide (by rw [hq, if_pos h34])
        have e34 : ((s[j].toNat : Int) == 34) = true := by rw [hcn, h34]; rfl
        clear hc hq
        go_wp2_with (first
          | (go_at_call 22; refine hS.mono ?_; clear hS; rintro ev w1 ⟨rfl, hw⟩; obtain rfl := hw.symm)
          | (go_at_call 15; refine (fine_any _).mono ?_; rintro ev w2 ⟨rfl, hb2⟩; obtain ⟨hc2, hw2⟩ := unhide FC w2 (hB.trans (hb2.mono hBs)); have q0 := cell_of_row _ _ 0 _ _ _ hc2; have q1 := cell_of_row _ _ 1 _ _ _ hc2; have z0 : w2.frozen? ⟨w.heap.size, 0, none⟩ = false := (by simp [World.frozen?, hc2]); have z1 : w2.frozen? ⟨w.heap.size, 1, none⟩ = false := (by simp [World.frozen?, hc2]); have HC2 := hide hc2; clear hc2))
        have hr9 := set2 (unhide HC2) (.int .i64 0) (.int .i64 (-1))
        have d0 := cell_of_row _ _ 0 _ _ _ hr9
        have d1 := cell_of_row _ _ 1 _ _ _ hr9
        refine bodyPost_ret (v := .tuple #[.slice ao n' cap, .int .i64 ((j + 1 : Nat) : Int), fltV 0 (-1)]) (by simp [results, Tryz.results41, go_sem, d0, d1]) rfl ⟨?_, below2 hw2 (Nat.le_refl _) _ _⟩
        rw [unhide HG, unhide HQ]
        refine ⟨_, rfl, row_base (row_set2 (row_same (unhide HA) fun q hq => hb2.block q (World.ownsRow.lt (unhide HA) q hq).2) hz (unhide HC2)) (Nat.le_of_lt hz), by omega, by omega, by omega⟩
      have e34 : ((s[j].toNat : Int) == 34) = false := by
        rw [hcn]; simp; intro h; exact h34 (UInt8.toNat_inj.1 (by simpa using Int.ofNat.inj h))
      rw [if_neg h34] at hq
      clear h34
      by_cases h36 : c = 36
      · rw [if_pos h36] at hq
        have e36 : ((s[j].toNat : Int) == 36) = true := by rw [hcn, h36]; rfl
        have hV := var_doc s j wr hlt hs
        cases hv : varG s.data.toList j with
        | none =>
          have HQ : Hid (quoG s.data.toList k xs j = .error (5, j)) := hide (by rw [hq, hv])
          rw [hv] at hV
          unfold VarD at hV
          clear hc hq hv
          go_upto_region 14 with (first
            | (go_at_call 22; refine hS.mono ?_; clear hS; rintro ev w1 ⟨rfl, hw⟩; obtain rfl := hw.symm)
            | (go_at_call 42; refine hV.mono ?_; clear hV; rintro ev w1 ⟨rfl, hb1⟩))
          obtain ⟨W3, hW3⟩ : ∃ W3, W3 = w1.alloc (.cells #[.int .u8 0, .string ⟨#[]⟩, .int .i64 0] 75) := ⟨_, rfl⟩
          have hB3 : Below W0.heap.size W0 W3 := by rw [hW3]; exact (hB.trans (hb1.mono hBs)).alloc (Nat.le_trans hBs hb1.size) _
          rw [← hW3]
          have hBs3 := hB3.size
          clear hW3
          go_wp2_with (go_at_call 9; refine (bad_any _ _ _).mono ?_; rintro ev w2 ⟨rfl, hb2⟩; obtain ⟨hc2, hw2⟩ := unhide FC w2 (hB3.trans (hb2.mono hBs3)); have q0 := cell_of_row _ _ 0 _ _ _ hc2; have q1 := cell_of_row _ _ 1 _ _ _ hc2; have z0 : w2.frozen? ⟨w.heap.size, 0, none⟩ = false := (by simp [World.frozen?, hc2]); have z1 : w2.frozen? ⟨w.heap.size, 1, none⟩ = false := (by simp [World.frozen?, hc2]); have HC2 := hide hc2; clear hc2)
          have hr9 := set2 (unhide HC2) (.int .i64 5) (.int .i64 j)
          have d0 := cell_of_row _ _ 0 _ _ _ hr9
          have d1 := cell_of_row _ _ 1 _ _ _ hr9
          refine bodyPost_ret (v := .tuple #[.slice none 0 0, .int .i64 0, fltV 5 j]) (by simp [results, Tryz.results41, go_sem, d0, d1]) rfl ⟨?_, below2 hw2 (Nat.le_refl _) _ _⟩
          rw [unhide HG, unhide HQ]
          exact ⟨by decide, rfl⟩

        | some x =>
          obtain ⟨n, t⟩ := x
          obtain ⟨htg, htl⟩ := var_rng hv
          rw [← Lib.size_eq] at htl
          have HQ : Hid (quoG s.data.toList k xs j = quoG s.data.toList k (xs ++ [.inr (n, j)]) t) := hide (by rw [hq, hv]; simp only [htg, if_true])
          rw [hv] at hV
          unfold VarD at hV
          have gt0 : (((t : Int) - j) == 0) = false := by simp; omega
          clear hc hq hv
          go_upto_region 15 with (first
            | (go_at_call 22; refine hS.mono ?_; clear hS; rintro ev w1 ⟨rfl, hw⟩; obtain rfl := hw.symm)
            | (go_at_call 42; refine hV.mono ?_; clear hV; rintro ev w1 ⟨⟨u, rfl, hu⟩, hb1⟩))
          obtain ⟨W3, hW3⟩ : ∃ W3, W3 = w1.alloc (.cells #[.int .u8 0, .string u, .int .i64 (j : Int)] 75) := ⟨_, rfl⟩
          have hB3 : Below W0.heap.size W0 W3 := by rw [hW3]; exact (hB.trans (hb1.mono hBs)).alloc (Nat.le_trans hBs hb1.size) _
          have hb3 : Below wr.heap.size wr W3 := by rw [hW3]; exact hb1.alloc hb1.size _
          have hn3 : W3.heap[w1.heap.size]? = some (.cells #[.int .u8 0, .string u, .int .i64 (j : Int)] 75 (0, 0)) := by rw [hW3]; exact heap_alloc_new _ _
          have p0 : W3.cell? ⟨w1.heap.size, 0, none⟩ = some (.int .u8 0) := cell_of_row _ _ 0 _ _ _ hn3
          have p1 : W3.cell? ⟨w1.heap.size, 1, none⟩ = some (.string u) := cell_of_row _ _ 1 _ _ _ hn3
          have p2 : W3.cell? ⟨w1.heap.size, 2, none⟩ = some (.int .i64 (j : Int)) := cell_of_row _ _ 2 _ _ _ hn3
          have hA3 : AtR W3 W0.heap.size (.slice ao n' cap) xs := row_same (unhide HA) fun q hq => hb3.block q (World.ownsRow.lt (unhide HA) q hq).2
          have HRow := hide (hA3.alloc (.cells #[.int .u8 0, .string u, .int .i64 (j : Int)] 75))
          have hBs3 := hB3.size
          obtain rfl : u = bt n := by rw [← bt_of u, hu]
          rw [← hW3]
          clear hW3 hn3 hA3 hb3 hu
          go_wp2_with (at_builtin; refine wpList_append_own _ rfl _ _ 45 rfl W0.heap.size 75 i0 _ 3 32 Tryz.underlying45 hi hz0 hz1 hz2 rfl (by decide) _ xs.length (atC xs) rfl (unhide HRow) ⟨W3.heap.size, 0, none⟩ 1 1 [.int .u8 0, .string (bt n), .int .i64 (j : Int)] rfl rfl (World.news_of_block (cs := #[.int .u8 0, .string (bt n), .int .i64 (j : Int)]) (t := 75) (fr := (0, 0)) (heap_alloc_new _ _)) (by intro u hu; simp only [List.mem_cons, List.not_mem_nil, or_false] at hu; rcases hu with rfl | rfl | rfl <;> rfl) (by unfold maxLen; omega) (by omega) (by simp; omega) ?_; intro v6 w6 hown6 hgrow6 _; have hb6 : Below W0.heap.size W3 w6 := ((Below.refl _ W3).alloc hBs3 _).grown hgrow6 (by simp; omega) (fun q hq => (World.ownsRow.lt (unhide HRow) q hq).1); have HA6 := hide hown6; clear hown6 hgrow6)
          go_roundw
          case rel =>
          
            first
              | exact ⟨t, xs ++ [(.inr (n, j))], by first | rfl | go_num | (congr 1; omega), AtR.grow (a := (.inr (n, j))) (unhide HA6), by rw [unhide HG, unhide HQ], by omega, by omega, by simp; omega, hB3.trans hb6⟩
              | ((repeat apply Exists.intro); exact ⟨⟨t, xs ++ [(.inr (n, j))], by first | rfl | go_num | (congr 1; omega), AtR.grow (a := (.inr (n, j))) (unhide HA6), by rw [unhide HG, unhide HQ], by omega, by omega, by simp; omega, hB3.trans hb6⟩, rfl⟩)
          case measure => simp [intOf]; omega

      have e36 : ((s[j].toNat : Int) == 36) = false := by
        rw [hcn]; simp; intro h; exact h36 (UInt8.toNat_inj.1 (by simpa using Int.ofNat.inj h))
      rw [if_neg h36] at hq
      clear h36
      by_cases h92 : c = 92
      · rw [if_pos h92] at hq
        have e92 : ((s[j].toNat : Int) == 92) = true := by rw [hcn, h92]; rfl
        by_cases hin : j + 1 < s.size
        · rw [getA s (j + 1) hin] at hq
          by_cases hesc : escQ s[j + 1] = true
          · have HQ : Hid (quoG s.data.toList k xs j = quoG s.data.toList k (xs ++ [.inl s[j + 1]]) (j + 2)) := hide (by rw [hq]; simp only [hesc, if_true])
            have HRow := hide ((unhide HA).alloc (.cells #[.int .u8 (s[j + 1].toNat : Int), .string ⟨#[]⟩, .int .i64 0] 75))
            have hor : s[j + 1].toNat = 34 ∨ s[j + 1].toNat = 92 ∨ s[j + 1].toNat = 36 := by
              unfold escQ at hesc
              simp only [Bool.or_eq_true, beq_iff_eq, ← UInt8.toNat_inj] at hesc
              rcases hesc with (h | h) | h
              · exact .inl h
              · exact .inr (.inl h)
              · exact .inr (.inr h)
            clear hc hq hesc
            rcases hor with ho | ho | ho
            · have f1 : ((s[j + 1].toNat : Int) != 34) = false := by simp; omega
              clear ho
              go_wp2_with (first
                | (go_at_call 22; refine hS.mono ?_; clear hS; rintro ev w1 ⟨rfl, hw⟩; obtain rfl := hw.symm)
                | (at_builtin; refine wpList_append_own _ rfl _ _ 45 rfl W0.heap.size 75 i0 _ 3 32 Tryz.underlying45 hi hz0 hz1 hz2 rfl (by decide) _ xs.length (atC xs) rfl (unhide HRow) ⟨wr.heap.size, 0, none⟩ 1 1 [.int .u8 (s[j + 1].toNat : Int), .string ⟨#[]⟩, .int .i64 0] rfl rfl (World.news_of_block (cs := #[.int .u8 (s[j + 1].toNat : Int), .string ⟨#[]⟩, .int .i64 0]) (t := 75) (fr := (0, 0)) (heap_alloc_new _ _)) (by intro u hu; simp only [List.mem_cons, List.not_mem_nil, or_false] at hu; rcases hu with rfl | rfl | rfl <;> rfl) (by unfold maxLen; omega) (by omega) (by simp; omega) ?_; intro v6 w6 hown6 hgrow6 _; have hb6 : Below W0.heap.size wr w6 := ((Below.refl _ wr).alloc hBs _).grown hgrow6 (by simp; omega) (fun q hq => (World.ownsRow.lt (unhide HRow) q hq).1); have HA6 := hide hown6; clear hown6 hgrow6))
              go_roundw
              case rel =>
              
                first
                  | exact ⟨j + 2, xs ++ [(.inl s[j + 1])], by first | rfl | go_num | (congr 1; omega), AtR.grow (a := (.inl s[j + 1])) (unhide HA6), by rw [unhide HG, unhide HQ], by omega, by omega, by simp; omega, hB.trans hb6⟩
                  | ((repeat apply Exists.intro); exact ⟨⟨j + 2, xs ++ [(.inl s[j + 1])], by first | rfl | go_num | (congr 1; omega), AtR.grow (a := (.inl s[j + 1])) (unhide HA6), by rw [unhide HG, unhide HQ], by omega, by omega, by simp; omega, hB.trans hb6⟩, rfl⟩)
              case measure => simp [intOf]; omega

            · have f1 : ((s[j + 1].toNat : Int) != 34) = true := by simp; omega
              have f2 : ((s[j + 1].toNat : Int) != 92) = false := by simp; omega
              clear ho
              go_wp2_with (first
                | (go_at_call 22; refine hS.mono ?_; clear hS; rintro ev w1 ⟨rfl, hw⟩; obtain rfl := hw.symm)
                | (at_builtin; refine wpList_append_own _ rfl _ _ 45 rfl W0.heap.size 75 i0 _ 3 32 Tryz.underlying45 hi hz0 hz1 hz2 rfl (by decide) _ xs.length (atC xs) rfl (unhide HRow) ⟨wr.heap.size, 0, none⟩ 1 1 [.int .u8 (s[j + 1].toNat : Int), .string ⟨#[]⟩, .int .i64 0] rfl rfl (World.news_of_block (cs := #[.int .u8 (s[j + 1].toNat : Int), .string ⟨#[]⟩, .int .i64 0]) (t := 75) (fr := (0, 0)) (heap_alloc_new _ _)) (by intro u hu; simp only [List.mem_cons, List.not_mem_nil, or_false] at hu; rcases hu with rfl | rfl | rfl <;> rfl) (by unfold maxLen; omega) (by omega) (by simp; omega) ?_; intro v6 w6 hown6 hgrow6 _; have hb6 : Below W0.heap.size wr w6 := ((Below.refl _ wr).alloc hBs _).grown hgrow6 (by simp; omega) (fun q hq => (World.ownsRow.lt (unhide HRow) q hq).1); have HA6 := hide hown6; clear hown6 hgrow6))
              go_roundw
              case rel =>
              
                first
                  | exact ⟨j + 2, xs ++ [(.inl s[j + 1])], by first | rfl | go_num | (congr 1; omega), AtR.grow (a := (.inl s[j + 1])) (unhide HA6), by rw [unhide HG, unhide HQ], by omega, by omega, by simp; omega, hB.trans hb6⟩
                  | ((repeat apply Exists.intro); exact ⟨⟨j + 2, xs ++ [(.inl s[j + 1])], by first | rfl | go_num | (congr 1; omega), AtR.grow (a := (.inl s[j + 1])) (unhide HA6), by rw [unhide HG, unhide HQ], by omega, by omega, by simp; omega, hB.trans hb6⟩, rfl⟩)
              case measure => simp [intOf]; omega

            · have f1 : ((s[j + 1].toNat : Int) != 34) = true := by simp; omega
              have f2 : ((s[j + 1].toNat : Int) != 92) = true := by simp; omega
              have f3 : ((s[j + 1].toNat : Int) != 36) = false := by simp; omega
              clear ho
              go_wp2_with (first
                | (go_at_call 22; refine hS.mono ?_; clear hS; rintro ev w1 ⟨rfl, hw⟩; obtain rfl := hw.symm)
                | (at_builtin; refine wpList_append_own _ rfl _ _ 45 rfl W0.heap.size 75 i0 _ 3 32 Tryz.underlying45 hi hz0 hz1 hz2 rfl (by decide) _ xs.length (atC xs) rfl (unhide HRow) ⟨wr.heap.size, 0, none⟩ 1 1 [.int .u8 (s[j + 1].toNat : Int), .string ⟨#[]⟩, .int .i64 0] rfl rfl (World.news_of_block (cs := #[.int .u8 (s[j + 1].toNat : Int), .string ⟨#[]⟩, .int .i64 0]) (t := 75) (fr := (0, 0)) (heap_alloc_new _ _)) (by intro u hu; simp only [List.mem_cons, List.not_mem_nil, or_false] at hu; rcases hu with rfl | rfl | rfl <;> rfl) (by unfold maxLen; omega) (by omega) (by simp; omega) ?_; intro v6 w6 hown6 hgrow6 _; have hb6 : Below W0.heap.size wr w6 := ((Below.refl _ wr).alloc hBs _).grown hgrow6 (by simp; omega) (fun q hq => (World.ownsRow.lt (unhide HRow) q hq).1); have HA6 := hide hown6; clear hown6 hgrow6))
              go_roundw
              case rel =>
              
                first
                  | exact ⟨j + 2, xs ++ [(.inl s[j + 1])], by first | rfl | go_num | (congr 1; omega), AtR.grow (a := (.inl s[j + 1])) (unhide HA6), by rw [unhide HG, unhide HQ], by omega, by omega, by simp; omega, hB.trans hb6⟩
                  | ((repeat apply Exists.intro); exact ⟨⟨j + 2, xs ++ [(.inl s[j + 1])], by first | rfl | go_num | (congr 1; omega), AtR.grow (a := (.inl s[j + 1])) (unhide HA6), by rw [unhide HG, unhide HQ], by omega, by omega, by simp; omega, hB.trans hb6⟩, rfl⟩)
              case measure => simp [intOf]; omega

          · have HQ : Hid (quoG s.data.toList k xs j = .error (5, j)) := hide (by rw [hq]; simp only [hesc, Bool.false_eq_true, if_false])
            have hnor : s[j + 1].toNat ≠ 34 ∧ s[j + 1].toNat ≠ 92 ∧ s[j + 1].toNat ≠ 36 := by
              unfold escQ at hesc
              simp only [Bool.or_eq_true, beq_iff_eq, ← UInt8.toNat_inj, not_or] at hesc
              exact ⟨hesc.1.1, hesc.1.2, hesc.2⟩
            have f1 : ((s[j + 1].toNat : Int) != 34) = true := by simp; omega
            have f2 : ((s[j + 1].toNat : Int) != 92) = true := by simp; omega
            have f3 : ((s[j + 1].toNat : Int) != 36) = true := by simp; omega
            clear hc hq hesc hnor
            go_wp2_with (first
              | (go_at_call 22; refine hS.mono ?_; clear hS; rintro ev w1 ⟨rfl, hw⟩; obtain rfl := hw.symm)
              | (go_at_call 9; refine (bad_any _ _ _).mono ?_; rintro ev w2 ⟨rfl, hb2⟩; obtain ⟨hc2, hw2⟩ := unhide FC w2 (hB.trans (hb2.mono hBs)); have q0 := cell_of_row _ _ 0 _ _ _ hc2; have q1 := cell_of_row _ _ 1 _ _ _ hc2; have z0 : w2.frozen? ⟨w.heap.size, 0, none⟩ = false := (by simp [World.frozen?, hc2]); have z1 : w2.frozen? ⟨w.heap.size, 1, none⟩ = false := (by simp [World.frozen?, hc2]); have HC2 := hide hc2; clear hc2))
            have hr9 := set2 (unhide HC2) (.int .i64 5) (.int .i64 j)
            have d0 := cell_of_row _ _ 0 _ _ _ hr9
            have d1 := cell_of_row _ _ 1 _ _ _ hr9
            refine bodyPost_ret (v := .tuple #[.slice none 0 0, .int .i64 0, fltV 5 j]) (by simp [results, Tryz.results41, go_sem, d0, d1]) rfl ⟨?_, below2 hw2 (Nat.le_refl _) _ _⟩
            rw [unhide HG, unhide HQ]
            exact ⟨by decide, rfl⟩

        · rw [getZ s (j + 1) hin] at hq
          have HQ : Hid (quoG s.data.toList k xs j = .error (5, j)) := hide hq
          clear hc hq
          go_wp2_with (first
            | (go_at_call 22; refine hS.mono ?_; clear hS; rintro ev w1 ⟨rfl, hw⟩; obtain rfl := hw.symm)
            | (go_at_call 9; refine (bad_any _ _ _).mono ?_; rintro ev w2 ⟨rfl, hb2⟩; obtain ⟨hc2, hw2⟩ := unhide FC w2 (hB.trans (hb2.mono hBs)); have q0 := cell_of_row _ _ 0 _ _ _ hc2; have q1 := cell_of_row _ _ 1 _ _ _ hc2; have z0 : w2.frozen? ⟨w.heap.size, 0, none⟩ = false := (by simp [World.frozen?, hc2]); have z1 : w2.frozen? ⟨w.heap.size, 1, none⟩ = false := (by simp [World.frozen?, hc2]); have HC2 := hide hc2; clear hc2))
          have hr9 := set2 (unhide HC2) (.int .i64 5) (.int .i64 j)
          have d0 := cell_of_row _ _ 0 _ _ _ hr9
          have d1 := cell_of_row _ _ 1 _ _ _ hr9
          refine bodyPost_ret (v := .tuple #[.slice none 0 0, .int .i64 0, fltV 5 j]) (by simp [results, Tryz.results41, go_sem, d0, d1]) rfl ⟨?_, below2 hw2 (Nat.le_refl _) _ _⟩
          rw [unhide HG, unhide HQ]
          exact ⟨by decide, rfl⟩

      have e92 : ((s[j].toNat : Int) == 92) = false := by
        rw [hcn]; simp; intro h; exact h92 (UInt8.toNat_inj.1 (by simpa using Int.ofNat.inj h))
      rw [if_neg h92] at hq
      clear h92
      have HQ : Hid (quoG s.data.toList k xs j = quoG s.data.toList k (xs ++ [.inl s[j]]) (j + 1)) := hide (by rw [hq, hcv])
      have HRow := hide ((unhide HA).alloc (.cells #[.int .u8 (s[j].toNat : Int), .string ⟨#[]⟩, .int .i64 0] 75))
      clear hc hq hcn hcv
      go_wp2_with (first
        | (go_at_call 22; refine hS.mono ?_; clear hS; rintro ev w1 ⟨rfl, hw⟩; obtain rfl := hw.symm)
        | (at_builtin; refine wpList_append_own _ rfl _ _ 45 rfl W0.heap.size 75 i0 _ 3 32 Tryz.underlying45 hi hz0 hz1 hz2 rfl (by decide) _ xs.length (atC xs) rfl (unhide HRow) ⟨wr.heap.size, 0, none⟩ 1 1 [.int .u8 (s[j].toNat : Int), .string ⟨#[]⟩, .int .i64 0] rfl rfl (World.news_of_block (cs := #[.int .u8 (s[j].toNat : Int), .string ⟨#[]⟩, .int .i64 0]) (t := 75) (fr := (0, 0)) (heap_alloc_new _ _)) (by intro u hu; simp only [List.mem_cons, List.not_mem_nil, or_false] at hu; rcases hu with rfl | rfl | rfl <;> rfl) (by unfold maxLen; omega) (by omega) (by simp; omega) ?_; intro v6 w6 hown6 hgrow6 _; have hb6 : Below W0.heap.size wr w6 := ((Below.refl _ wr).alloc hBs _).grown hgrow6 (by simp; omega) (fun q hq => (World.ownsRow.lt (unhide HRow) q hq).1); have HA6 := hide hown6; clear hown6 hgrow6))
      go_roundw
      case rel =>
      
        first
          | exact ⟨j + 1, xs ++ [(.inl s[j])], by first | rfl | go_num | (congr 1; omega), AtR.grow (a := (.inl s[j])) (unhide HA6), by rw [unhide HG, unhide HQ], by omega, by omega, by simp; omega, hB.trans hb6⟩
          | ((repeat apply Exists.intro); exact ⟨⟨j + 1, xs ++ [(.inl s[j])], by first | rfl | go_num | (congr 1; omega), AtR.grow (a := (.inl s[j])) (unhide HA6), by rw [unhide HG, unhide HQ], by omega, by omega, by simp; omega, hB.trans hb6⟩, rfl⟩)
      case measure => simp [intOf]; omega

end Go.Proofs.YtkikhmleffcajaaGreatDoor
