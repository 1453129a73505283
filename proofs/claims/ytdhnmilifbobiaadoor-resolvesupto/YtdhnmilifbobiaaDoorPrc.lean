import Derived.Test.YtdhnmilifbobiaaDoorApart
namespace Go.Proofs.YtdhnmilifbobiaaDoor
open Go.RowKit

set_option maxHeartbeats 1600000 in
set_option maxRecDepth 100000 in
theorem paths_row (s t : ByteArray) (m : Int) (w : World) (hs : s.size ≤ 1073741824) (ht : t.size ≤ 1073741824) (hm : w.cell? ⟨1, 0, none⟩ = some (.int .i64 m)) (h : isP s.data.toList = true) (hsl : t.data.toList.head? ≠ some 47) (hE : s.data.toList ≠ []) :
    Calls Tryd.prog 13 #[.string s, .string t] w fun e w' => e = .returned (.tuple #[.string (bs ((resP s.data.toList t.data.toList).getD [])), errV (resP s.data.toList t.data.toList)]) ∧ Below w.heap.size w w' := by
  obtain ⟨i0, hi, hz0, hz1, hz2⟩ := info_parts Tryd.info9
  have HX0 : Hid (resP s.data.toList t.data.toList = fin (run (bgn s.data.toList t.data.toList) (spl t.data.toList))) := hide (by simp [resP, h])
  have HW : Hid (wt (bgn s.data.toList t.data.toList) + wt (spl t.data.toList) ≤ 2147483652) := hide (by have h1 := bgn_wt s.data.toList t.data.toList; rw [wt_spl, ← Lib.size_eq]; rw [← Lib.size_eq] at h1; omega)
  have HL0 : Hid (bgn s.data.toList t.data.toList = spl s.data.toList) := hide (by simp [bgn, hsl, prt_ne hE])
  have hpre : Lib.hasPrefix t.data.toList [47] = false := by rw [has47]; simp [hsl]
  have HE := hide hE
  clear hsl hE
  go_enter Tryd.func13, Tryd.ntmps13
  go_wp2_with (first
    | (go_at_call 16; refine (is_any _ m _ hm).mono ?_; rintro e w1 ⟨rfl, hb1⟩; have hm1 := (hb1.cell (p := ⟨1, 0, none⟩) (World.block_lt_of_cell? _ _ hm)).trans hm)
    | (go_at_call 17; refine (hasPrefix_any _ _ _).mono ?_; rintro e w' ⟨rfl, rfl⟩)
    | (go_at_call 18; refine (elems_some _ m _ (by omega) hm1 (unhide HE)).mono ?_; rintro e w3 ⟨gl, capl, lps, rfl, hownl0, htl, hb3⟩; have HTL := hide htl; clear htl; have hm3 := (hb3.cell (p := ⟨1, 0, none⟩) (World.block_lt_of_cell? _ _ hm1)).trans hm1)
    | (go_at_call 19; refine (split_any _ m _ (by omega) hm3).mono ?_; rintro e w2 ⟨gs, caps, aps, rfl, hown2', ht2, hb2'⟩; have HT2 := hide ht2; clear ht2))
  have HL : Hid (bgn s.data.toList t.data.toList = txts lps) := hide (by rw [unhide HL0, unhide HTL])
  have hb2 : Below w.heap.size w w2 := (hb1.trans (hb3.mono hb1.size)).trans (hb2'.mono (Nat.le_trans hb1.size hb3.size))
  have hown2 : Own w2 w.heap.size (.slice (some ⟨gs, 0, none⟩) aps.length caps) aps := own_le hown2' (Nat.le_trans hb1.size hb3.size)
  have hownl : Own w2 w.heap.size (.slice (some ⟨gl, 0, none⟩) lps.length capl) lps := own_below (own_le hownl0 hb1.size) hb2' (own_lt hownl0)
  have hnel : (Value.slice (some ⟨gl, 0, none⟩) lps.length capl).ownBlock ≠ some gs := by
    have h1 := (hown2'.lt gs rfl).1
    have h2 := own_lt hownl0
    simp only [Value.ownBlock, ne_eq, Option.some.injEq]
    omega
  clear hown2' hownl0 hb2' hb3 hb1 hm1 hm3 HTL HL0
  have HX : Hid (resP s.data.toList t.data.toList = fin (run (bgn s.data.toList t.data.toList) (txts aps))) := hide (by rw [unhide HX0, unhide HT2])
  have hwt : Hid (wt (bgn s.data.toList t.data.toList) + wt (txts aps) ≤ 4294967280) := hide (by rw [unhide HT2]; have := unhide HW; omega)
  have hal : aps.length ≤ 4294967280 := by have := wt_len (txts aps); rw [txts_len] at this; have := unhide hwt; omega
  clear HX0 HW HT2
  go_loopw [6, 22] (fun v i wr => ∃ (k : Nat) (outs : List ByteArray), k ≤ aps.length ∧ i = .int .i64 k ∧ Own wr w.heap.size v outs ∧ Hid (v.ownBlock ≠ some gs) ∧ Own wr w.heap.size (.slice (some ⟨gs, 0, none⟩) aps.length caps) aps ∧ Below w.heap.size w wr ∧ Hid (Going (txts aps) (bgn s.data.toList t.data.toList) (txts outs) k)) (fun _ i _ => aps.length - (intOf i).toNat)
  case atStart => exact ⟨0, lps, Nat.zero_le _, rfl, hownl, hide hnel, hown2, hb2, hide (by rw [unhide HL]; exact going0 _ _)⟩
  case round =>
    obtain ⟨k, outs, hk, rfl, hown, HNE, hspl, hb, HG⟩ := hrel
    obtain ⟨ao, cap, rfl⟩ := own_shape hown
    have hne := unhide HNE
    have hol : outs.length ≤ 4294967280 := by have h1 := wt_len (txts outs); rw [txts_len] at h1; have := going_wt (unhide HG); have := unhide hwt; omega
    have hsz := hb.size
    by_cases hlt : k < aps.length
    · obtain ⟨b, hbk⟩ : ∃ b, aps[k]? = some b := ⟨aps[k], List.getElem?_eq_getElem hlt⟩
      have hcell : wr.cell? ⟨gs, k, none⟩ = some (.string b) := own_cell hspl hbk
      have HB := hide (txts_get hbk)
      clear hbk
      rcases str_cases b with ⟨c0, c1, c2, c3⟩ | ⟨c0, c1, c2, c3⟩ | ⟨c0, c1, c2, c3⟩ | ⟨c0, c1, c2, c3⟩
      · have G := hide (going_skip (unhide HG) (unhide HB) (.inl c0))
        clear c0 hne
        go_wp2
        go_roundw
        case rel => exact ⟨k + 1, outs, by omega, by go_num, hown, HNE, hspl, hb, G⟩
        case measure => simp [intOf]; omega
      · have G := hide (going_skip (unhide HG) (unhide HB) (.inr c0))
        clear c0 hne
        go_wp2
        go_roundw
        case rel => exact ⟨k + 1, outs, by omega, by go_num, hown, HNE, hspl, hb, G⟩
        case measure => simp [intOf]; omega
      · have hel : elt b.data.toList = false := by rw [c0]; decide
        rw [c0] at HB
        clear c0 hne
        by_cases ho : outs = []
        · subst ho
          have G := hide (going_up0 (unhide HG) (unhide HB))
          go_wp2_with (go_at_call 20; refine (isEl_any _ _).mono ?_; rintro e w' ⟨rfl, hw⟩; obtain rfl := hw.symm)
          go_ret2
          exact ⟨ret_err (by rw [unhide HX, unhide G]; rfl) (by rw [unhide HX, unhide G]; rfl), hb⟩
        · have G := hide (going_up (unhide HG) (unhide HB) (txts_ne ho))
          obtain ⟨n, hn⟩ : ∃ n, outs.length = n + 1 := ⟨outs.length - 1, by have := List.length_pos_iff.2 ho; omega⟩
          have hz : (0 : Int) < outs.length := by omega
          obtain ⟨g, cap', hv⟩ := own_form hown ho
          cases hv
          have hp := own_pop hown hn
          have hcp : (1 : Int) ≤ outs.length ∧ (outs.length : Int) - 1 ≤ cap := by have := own_cap hown; omega
          have HP : Hid (Own wr w.heap.size (.slice (some ⟨g, 0, none⟩) (outs.length - 1) cap) outs.dropLast) := hide (by rw [hn]; exact hp)
          clear hn hp
          go_wp2
          go_roundw
          case rel => exact ⟨k + 1, outs.dropLast, by omega, by go_num, unhide HP, hide (unhide HNE), hspl, hb, hide (by rw [txts_dropLast]; exact unhide G)⟩
          case measure => simp [intOf]; omega
      · cases hok : elt b.data.toList
        · have G := hide (going_bad (unhide HG) (unhide HB) c0.1 c0.2.1 c0.2.2 hok)
          clear c0 hne
          go_wp2_with (go_at_call 20; refine (isEl_any _ _).mono ?_; rintro e w' ⟨rfl, hw⟩; obtain rfl := hw.symm)
          go_ret2
          exact ⟨ret_err (by rw [unhide HX, unhide G]; rfl) (by rw [unhide HX, unhide G]; rfl), hb⟩
        · have G := hide (going_el (unhide HG) (unhide HB) hok)
          clear c0
          go_wp2_with (first
            | (go_at_call 20; refine (isEl_any _ _).mono ?_; rintro e w' ⟨rfl, hw⟩; obtain rfl := hw.symm)
            | (at_builtin; refine wpList_append_apart _ rfl _ _ 35 rfl w.heap.size 9 i0 (.string ByteArray.empty) 1 16 Tryd.underlying35 hi hz0 hz1 hz2 rfl (by decide) _ _ _ rfl (World.ownsRow.alloc hown _) ⟨wr.heap.size, 0, none⟩ 1 1 [.string b] rfl rfl (cell_one_new _ _ _) (fun x hx => by simp at hx; subst hx; rfl) (by decide) (by unfold maxLen; omega) (by omega) (by simp; omega) ?_; intro v' w3 hown' hgrow hap; have hb3 : Below w.heap.size w w3 := (hb.alloc hsz _).grown hgrow (by simp; omega) (fun q hq => (hown.lt q hq).1); have hs3 := split_kept hspl hgrow hne; have hn3 := apart_ne hap hne (own_lt hspl); have HO := hide hown'; have HS3 := hide hs3; have HN3 := hide hn3; clear hgrow hown' hap hs3 hn3))
          go_roundw
          case rel => exact ⟨k + 1, outs ++ [b], by omega, by go_num, own_append (unhide HO) (by simp) (by simp), HN3, unhide HS3, hb3, hide (by rw [txts_snoc]; exact unhide G)⟩
          case measure => simp [intOf]; omega
    · have G := hide (going_end (unhide HG) (by rw [txts_len]; omega))
      have hjl : Hid ((Lib.join (txts outs) [47]).length ≤ 4294967280) := hide (by have h1 := wt_join (txts outs); have := going_wt (unhide HG); have := unhide hwt; omega)
      have HF : Hid (resP s.data.toList t.data.toList = if isP (Lib.join (txts outs) [47]) = true then some (Lib.join (txts outs) [47]) else none) := hide (by rw [unhide HX, unhide G]; rfl)
      have HJ := hide (join_any ao cap _ outs wr hown hol (by have := unhide hjl; omega))
      have hmr := (hb.cell (p := ⟨1, 0, none⟩) (World.block_lt_of_cell? _ _ hm)).trans hm
      clear hne hm
      generalize hJ : Lib.join (txts outs) [47] = J at *
      have hJs : (bs J).size ≤ 4294967280 := by have := unhide hjl; rw [Lib.size_eq, data_bs]; omega
      clear hJ
      cases hp : isP (bs J).data.toList
      · have HY : Hid (resP s.data.toList t.data.toList = none) := hide (by rw [unhide HF, if_neg]; rw [data_bs] at hp; simp [hp])
        go_wp2_with (first
          | (go_at_call 21; refine (unhide HJ).mono ?_; rintro e w4 ⟨rfl, hb4⟩; have hm4 := (hb4.cell (p := ⟨1, 0, none⟩) (World.block_lt_of_cell? _ _ hmr)).trans hmr)
          | (go_at_call 16; refine (is_any _ m _ hm4).mono ?_; rintro e w5 ⟨rfl, hb5⟩))
        go_ret2
        exact ⟨ret_err (by rw [unhide HY]; rfl) (by rw [unhide HY]; rfl), (hb.trans (hb4.mono hb.size)).trans (hb5.mono (Nat.le_trans hb.size hb4.size))⟩
      · have HY : Hid (resP s.data.toList t.data.toList = some J) := hide (by rw [unhide HF, if_pos]; rw [data_bs] at hp; simp [hp])
        go_wp2_with (first
          | (go_at_call 21; refine (unhide HJ).mono ?_; rintro e w4 ⟨rfl, hb4⟩; have hm4 := (hb4.cell (p := ⟨1, 0, none⟩) (World.block_lt_of_cell? _ _ hmr)).trans hmr)
          | (go_at_call 16; refine (is_any _ m _ hm4).mono ?_; rintro e w5 ⟨rfl, hb5⟩)
          | (go_at_call 22; refine (clone_any _ _ (by omega)).mono ?_; rintro e w6 ⟨rfl, hb6⟩))
        go_ret2
        exact ⟨ret_err (by rw [unhide HY]; rfl) (by rw [unhide HY]; rfl), ((hb.trans (hb4.mono hb.size)).trans (hb5.mono (Nat.le_trans hb.size hb4.size))).trans (hb6.mono (Nat.le_trans hb.size (Nat.le_trans hb4.size hb5.size)))⟩
end Go.Proofs.YtdhnmilifbobiaaDoor
