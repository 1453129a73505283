import Derived.Test.YtdhnmilifbobiaaDoorRef
namespace Go.Proofs.YtdhnmilifbobiaaDoor
open Go.RowKit

set_option maxHeartbeats 1600000 in
set_option maxRecDepth 100000 in
theorem ref_c (s t : ByteArray) (w : World) (hs : s.size ≤ 1073741824) (ht : t.size ≤ 1073741824) (hsl : t.data.toList.head? ≠ some 47) (hE : s.data.toList ≠ []) (hne : t.toList.isEmpty = true) :
    Calls Tryd.prog 5 #[.string s, .string t] w fun e w' => e = .returned (.tuple #[.string (bs ((res s.data.toList t.data.toList).getD [])), .bool (res s.data.toList t.data.toList).isSome]) ∧ Below w.heap.size w w' := by
  obtain ⟨i0, hi, hz0, hz1, hz2⟩ := info_parts Tryd.info9
  have HR : Hid (res s.data.toList t.data.toList = fin (run [] (spl s.data.toList ++ spl t.data.toList))) := hide (by simp [res, bgn, hsl, prt_ne hE])
  have HW : Hid (wt (spl t.data.toList) = t.size + 1) := hide (by rw [wt_spl, Lib.size_eq])
  have HV : Hid (wt (spl s.data.toList) = s.size + 1) := hide (by rw [wt_spl, Lib.size_eq])
  have HE := hide hE
  clear hsl hE
  go_enter Tryd.func5, Tryd.ntmps5
  go_wp2_with (first
    | (go_at_call 9; refine (cut_form _ _ (by omega)).mono ?_; rintro e w1 ⟨gt, capt, tps, rfl, hown1, ht1, hb1⟩; have HT1 := hide ht1; clear ht1; have hNT := tps_ne (unhide HT1); have hLT := tps_len (unhide HT1))
    | (go_at_call 10; refine (parts_some _ _ (by omega) (unhide HE)).mono ?_; rintro e w3 ⟨gw, capw, wps, rfl, hown3, ht3, hb3⟩; have HT3 := hide ht3; clear ht3; have hLW := tps_len (unhide HT3); have hcells3 := World.ownsRow.cells hown3 rfl; have hown1b := own_below hown1 hb3 (own_lt hown1); have hb13 := hb1.trans (hb3.mono hb1.size); clear hown1 hown3)
    | (at_builtin; refine wpList_append_own _ rfl (.const (.slice none 0 0)) (.tmp 24) 35 rfl w.heap.size 9 i0 (.string ByteArray.empty) 1 16 Tryd.underlying35 hi hz0 hz1 hz2 rfl (by decide) (.slice none 0 0) 0 [] rfl (World.ownsRow_nil _ _ _ _) ⟨gw, 0, none⟩ wps.length capw (wps.map Value.string) rfl (by simp) hcells3 (one_cells wps) (by unfold maxLen; omega) (by omega) hb13.size ?_; intro v1 w4 hown4 hgrow4 hnil4; clear hnil4; have hcells4 := World.ownsRow.cells (World.ownsRow.kept hown1b hgrow4 (.inr (by simp [Value.ownBlock]))) rfl; have hb4 : Below w.heap.size w w4 := hb13.grown hgrow4 hb13.size (fun q hq => by cases hq))
    | (at_builtin; refine wpList_append_own _ rfl (.tmp 25) (.tmp 26) 35 rfl w.heap.size 9 i0 (.string ByteArray.empty) 1 16 Tryd.underlying35 hi hz0 hz1 hz2 rfl (by decide) v1 (0 + wps.length) ([] ++ wps.map Value.string) rfl hown4 ⟨gt, 0, none⟩ tps.length capt (tps.map Value.string) rfl (by simp) hcells4 (one_cells tps) (by unfold maxLen; omega) (by omega) hb4.size ?_; intro v2 w2 hown'' hgrow2 hnil2; clear hnil2; have hb2 : Below w.heap.size w w2 := hb4.grown hgrow2 hb4.size (fun q hq => (hown4.lt q hq).1); obtain ⟨ga, capa, aps, hv2, hown2, hta⟩ := own_name (wps := wps) hown'' (by simp) (by simp) hNT; clear hown'' hgrow2 hgrow4 hown4 hcells4 hcells3; subst hv2))
  have ht2 : Hid (txts aps = spl s.data.toList ++ spl t.data.toList) := hide (by rw [hta, unhide HT1, unhide HT3])
  clear hta
  have HX : Hid (res s.data.toList t.data.toList = fin (run [] (txts aps))) := hide (by rw [unhide HR, unhide ht2])
  have hwt : Hid (wt (txts aps) ≤ 4294967280) := hide (by rw [unhide ht2, wt_append, unhide HW, unhide HV]; omega)
  have hal : aps.length ≤ 4294967280 := by have := wt_len (txts aps); rw [txts_len] at this; have := unhide hwt; omega
  clear HR HW HV ht2 hne
  go_loopw [8, 9] (fun v i wr => ∃ (k : Nat) (outs : List ByteArray), k ≤ aps.length ∧ i = .int .i64 k ∧ Own wr w2.heap.size v outs ∧ Below w2.heap.size w2 wr ∧ Hid (Going (txts aps) [] (txts outs) k)) (fun _ i _ => aps.length - (intOf i).toNat)
  case atStart => exact ⟨0, [], Nat.zero_le _, rfl, World.ownsRow_nil _ _ _ _, Below.refl _ _, hide (going0 _ _)⟩
  case round =>
    obtain ⟨k, outs, hk, rfl, hown, hb, HG⟩ := hrel
    obtain ⟨ao, cap, rfl⟩ := own_shape hown
    have hol : outs.length ≤ 4294967280 := by have h1 := wt_len (txts outs); rw [txts_len] at h1; have := going_wt (unhide HG); rw [wt_nil] at this; have := unhide hwt; omega
    have hsz := hb.size
    have hbw : Below w.heap.size w wr := hb2.trans (hb.mono hb2.size)
    by_cases hlt : k < aps.length
    · obtain ⟨b, hbk⟩ : ∃ b, aps[k]? = some b := ⟨aps[k], List.getElem?_eq_getElem hlt⟩
      have hcell : wr.cell? ⟨ga, k, none⟩ = some (.string b) := (hb.cell (p := ⟨ga, k, none⟩) (own_lt hown2)).trans (own_cell hown2 hbk)
      have HB := hide (txts_get hbk)
      have hc0 := own_cell hown2 hbk
      clear hbk
      rcases str_cases b with ⟨c0, c1, c2, c3⟩ | ⟨c0, c1, c2, c3⟩ | ⟨c0, c1, c2, c3⟩ | ⟨c0, c1, c2, c3⟩
      · have G := hide (going_skip (unhide HG) (unhide HB) (.inl c0))
        clear c0
        go_wp2
        go_roundw
        case rel => exact ⟨k + 1, outs, by omega, by go_num, hown, hb, G⟩
        case measure => simp [intOf]; omega
      · have G := hide (going_skip (unhide HG) (unhide HB) (.inr c0))
        clear c0
        go_wp2
        go_roundw
        case rel => exact ⟨k + 1, outs, by omega, by go_num, hown, hb, G⟩
        case measure => simp [intOf]; omega
      · rw [c0] at HB
        clear c0
        by_cases ho : outs = []
        · subst ho
          have G := hide (going_up0 (unhide HG) (unhide HB))
          go_wp2
          go_ret2
          exact ⟨ret_two (by rw [unhide HX, unhide G]; rfl) (by rw [unhide HX, unhide G]; rfl), hbw⟩
        · have G := hide (going_up (unhide HG) (unhide HB) (txts_ne ho))
          obtain ⟨n, hn⟩ : ∃ n, outs.length = n + 1 := ⟨outs.length - 1, by have := List.length_pos_iff.2 ho; omega⟩
          have hz : ((outs.length : Int) == 0) = false := by rw [beq_eq_false_iff_ne]; omega
          obtain ⟨g, cap', hv⟩ := own_form hown ho
          cases hv
          have hp := own_pop hown hn
          have hcp : (1 : Int) ≤ outs.length ∧ (outs.length : Int) - 1 ≤ cap := by have := own_cap hown; omega
          have HP : Hid (Own wr w2.heap.size (.slice (some ⟨g, 0, none⟩) (outs.length - 1) cap) outs.dropLast) := hide (by rw [hn]; exact hp)
          clear hn hp
          go_wp2
          go_roundw
          case rel => exact ⟨k + 1, outs.dropLast, by omega, by go_num, unhide HP, hb, hide (by rw [txts_dropLast]; exact unhide G)⟩
          case measure => simp [intOf]; omega
      · have HC := hide hc0
        clear hc0
        cases hok : elt b.data.toList
        · have G := hide (going_bad (unhide HG) (unhide HB) c0.1 c0.2.1 c0.2.2 hok)
          clear c0
          go_wp2_with (first
            | (go_at_call 11; refine (refEl_any _ _).mono ?_; rintro e w' ⟨rfl, rfl⟩)
            | (at_builtin; refine wpList_append_own _ rfl _ _ 35 rfl w2.heap.size 9 i0 (.string ByteArray.empty) 1 16 Tryd.underlying35 hi hz0 hz1 hz2 rfl (by decide) _ _ _ rfl (World.ownsRow.alloc hown _) ⟨wr.heap.size, 0, none⟩ 1 1 [.string b] rfl rfl (cell_one_new _ _ _) (fun x hx => by simp at hx; subst hx; rfl) (by unfold maxLen; omega) (by omega) (by simp; omega) ?_; intro v' w3 hown' hgrow hnil; clear hnil; have hb3 : Below w2.heap.size w2 w3 := (hb.alloc hsz _).grown hgrow (by simp; omega) (fun q hq => (hown.lt q hq).1); have hc3 := (hb3.cell (p := ⟨ga, k, none⟩) (own_lt hown2)).trans (unhide HC); clear hgrow hown'))
          go_ret2
          exact ⟨ret_two (by rw [unhide HX, unhide G]; rfl) (by rw [unhide HX, unhide G]; rfl), hb2.trans (hb3.mono hb2.size)⟩
        · have G := hide (going_el (unhide HG) (unhide HB) hok)
          clear c0
          go_wp2_with (first
            | (go_at_call 11; refine (refEl_any _ _).mono ?_; rintro e w' ⟨rfl, rfl⟩)
            | (at_builtin; refine wpList_append_own _ rfl _ _ 35 rfl w2.heap.size 9 i0 (.string ByteArray.empty) 1 16 Tryd.underlying35 hi hz0 hz1 hz2 rfl (by decide) _ _ _ rfl (World.ownsRow.alloc hown _) ⟨wr.heap.size, 0, none⟩ 1 1 [.string b] rfl rfl (cell_one_new _ _ _) (fun x hx => by simp at hx; subst hx; rfl) (by unfold maxLen; omega) (by omega) (by simp; omega) ?_; intro v' w3 hown' hgrow hnil; clear hnil; have hb3 : Below w2.heap.size w2 w3 := (hb.alloc hsz _).grown hgrow (by simp; omega) (fun q hq => (hown.lt q hq).1); have hc3 := (hb3.cell (p := ⟨ga, k, none⟩) (own_lt hown2)).trans (unhide HC); have HO := hide hown'; clear hgrow hown'))
          go_roundw
          case rel => exact ⟨k + 1, outs ++ [b], by omega, by go_num, own_append (unhide HO) (by simp) (by simp), hb3, hide (by rw [txts_snoc]; exact unhide G)⟩
          case measure => simp [intOf]; omega
    · have G := hide (going_end (unhide HG) (by rw [txts_len]; omega))
      have hjl : Hid ((Lib.join (txts outs) [47]).length ≤ 4294967280) := hide (by have h1 := wt_join (txts outs); have := going_wt (unhide HG); rw [wt_nil] at this; have := unhide hwt; omega)
      have HF : Hid (res s.data.toList t.data.toList = if isP (Lib.join (txts outs) [47]) = true then some (Lib.join (txts outs) [47]) else none) := hide (by rw [unhide HX, unhide G]; rfl)
      have hj : Calls Tryd.prog 12 #[.slice ao outs.length cap] wr fun e w' => e = .returned (.string (bs (Lib.join (txts outs) [47]))) ∧ w' = wr := by
        by_cases ho : outs = []
        · subst ho
          exact joined_none ao cap wr
        · obtain ⟨g, cap', hv⟩ := own_form hown ho
          cases hv
          exact joined_some g cap _ outs wr hown hol (by have := unhide hjl; omega)
      have HJ := hide hj
      clear hj
      generalize hJ : Lib.join (txts outs) [47] = J at *
      have hJs : (bs J).size ≤ 4294967280 := by have := unhide hjl; rw [Lib.size_eq, data_bs]; omega
      clear hJ
      cases hp : isP (bs J).data.toList
      · have HY : Hid (res s.data.toList t.data.toList = none) := hide (by rw [unhide HF, if_neg]; rw [data_bs] at hp; simp [hp])
        go_wp2_with (first
          | (go_at_call 12; refine (unhide HJ).mono ?_; rintro e w' ⟨rfl, rfl⟩)
          | (go_at_call 6; refine (isPath_any _ _ hJs).mono ?_; rintro e w4 ⟨rfl, hb4⟩))
        go_ret2
        exact ⟨ret_two (by rw [unhide HY]; rfl) (by rw [unhide HY]; rfl), hbw.trans (hb4.mono hbw.size)⟩
      · have HY : Hid (res s.data.toList t.data.toList = some J) := hide (by rw [unhide HF, if_pos]; rw [data_bs] at hp; simp [hp])
        go_wp2_with (first
          | (go_at_call 12; refine (unhide HJ).mono ?_; rintro e w' ⟨rfl, rfl⟩)
          | (go_at_call 6; refine (isPath_any _ _ hJs).mono ?_; rintro e w4 ⟨rfl, hb4⟩))
        go_ret2
        exact ⟨ret_two (by rw [unhide HY]; rfl) (by rw [unhide HY]; rfl), hbw.trans (hb4.mono hbw.size)⟩
end Go.Proofs.YtdhnmilifbobiaaDoor
