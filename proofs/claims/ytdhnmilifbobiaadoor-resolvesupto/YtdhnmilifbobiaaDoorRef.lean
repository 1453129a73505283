import Derived.Test.YtdhnmilifbobiaaDoorPlainb
import Derived.Test.YtdhnmilifbobiaaDoorIs
import Derived.Laws.AppendOwnNone
namespace Go.Proofs.YtdhnmilifbobiaaDoor
open Go.RowKit

theorem own_le {w : World} {B B' : Nat} {v : Value} {e : TypeId} {size n : Nat} {xs : List Value} (h : w.ownsRow B e size v n xs) (hB : B' ≤ B) : w.ownsRow B' e size v n xs := by
  refine ⟨h.1, ?_⟩
  rcases h.2 with hn | ⟨g, cap, cur, hv, hb, r⟩
  · exact .inl hn
  · exact .inr ⟨g, cap, cur, hv, by omega, r⟩
theorem one_cells (ps : List ByteArray) : ∀ u ∈ ps.map Value.string, u.oneCell' = true := fun u hu => by
  obtain ⟨b, _, rfl⟩ := List.mem_map.1 hu; rfl
theorem own_below {w w' : World} {B B' : Nat} {g n cap : Nat} {ps : List ByteArray} (h : Own w B (.slice (some ⟨g, 0, none⟩) n cap) ps) (hb : Below B' w w') (hg : g < B') : Own w' B (.slice (some ⟨g, 0, none⟩) n cap) ps := by
  refine ⟨h.1, ?_⟩
  rcases h.2 with ⟨h0, _⟩ | ⟨g', cap', cur, hv, hbg, hh, r⟩
  · cases h0
  · have : g' = g := by cases hv; rfl
    subst this
    exact .inr ⟨g', cap', cur, hv, hbg, (hb.block g' hg).trans hh, r⟩
theorem own_lt {w : World} {B g n cap : Nat} {ps : List ByteArray} (h : Own w B (.slice (some ⟨g, 0, none⟩) n cap) ps) : g < w.heap.size := (h.lt g rfl).2
theorem own_append {w : World} {B : Nat} {v : Value} {ps qs : List ByteArray} {n : Nat} {xs : List Value} (h : w.ownsRow B 9 1 v n xs) (hn : n = (ps ++ qs).length) (hx : xs = (ps ++ qs).map Value.string) : Own w B v (ps ++ qs) := by
  subst hn hx; exact h

theorem own_shape {w : World} {B : Nat} {v : Value} {ps : List ByteArray} (h : Own w B v ps) : ∃ ao cap, v = .slice ao ps.length cap := by
  rcases h.2 with ⟨hv, h0⟩ | ⟨g, cap, cur, hv, _⟩
  · exact ⟨none, 0, by rw [h0]; exact hv⟩
  · exact ⟨_, cap, hv⟩
theorem own_cap {w : World} {B g n cap : Nat} {ps : List ByteArray} (h : Own w B (.slice (some ⟨g, 0, none⟩) n cap) ps) : n ≤ cap := by
  rcases h.2 with ⟨h0, _⟩ | ⟨g', cap', cur, hv, hbg, hh, hn, _⟩
  · cases h0
  · cases hv; exact hn
theorem txts_snoc (ps : List ByteArray) (b : ByteArray) : txts (ps ++ [b]) = txts ps ++ [b.data.toList] := by simp [txts]
theorem txts_dropLast (ps : List ByteArray) : txts ps.dropLast = (txts ps).dropLast := by simp [txts, List.map_dropLast]
theorem txts_ne {ps : List ByteArray} (h : ps ≠ []) : txts ps ≠ [] := by simpa [txts] using h
theorem own_pop {w : World} {B g cap n : Nat} {ps : List ByteArray} (h : Own w B (.slice (some ⟨g, 0, none⟩) ps.length cap) ps) (hn : ps.length = n + 1) : Own w B (.slice (some ⟨g, 0, none⟩) n cap) ps.dropLast := by
  have hne : ps ≠ [] := by rintro rfl; simp at hn
  have hl : ps.dropLast.length = n := by simp [hn]
  have e : ps.map Value.string = ps.dropLast.map Value.string ++ [.string (ps.getLast hne)] := by
    conv => lhs; rw [← List.dropLast_concat_getLast hne]
    simp
  unfold Own at h ⊢
  rw [hl]
  rw [hn, e] at h
  exact ownsRow_pop (by rw [List.length_map, hl]; omega) h
theorem str_cases (b : ByteArray) : (b.data.toList = [] ∧ b.toList.isEmpty = true ∧ (b.toList == [46]) = false ∧ (b.toList == [46, 46]) = false) ∨ (b.data.toList = [46] ∧ b.toList.isEmpty = false ∧ (b.toList == [46]) = true ∧ (b.toList == [46, 46]) = false) ∨
    (b.data.toList = [46, 46] ∧ b.toList.isEmpty = false ∧ (b.toList == [46]) = false ∧ (b.toList == [46, 46]) = true) ∨ ((b.data.toList ≠ [] ∧ b.data.toList ≠ [46] ∧ b.data.toList ≠ [46, 46]) ∧ b.toList.isEmpty = false ∧ (b.toList == [46]) = false ∧ (b.toList == [46, 46]) = false) := by
  rw [Lib.toList_data]
  by_cases h1 : b.data.toList = []
  · left; rw [h1]; decide
  · by_cases h2 : b.data.toList = [46]
    · right; left; rw [h2]; decide
    · by_cases h3 : b.data.toList = [46, 46]
      · right; right; left; rw [h3]; decide
      · right; right; right; exact ⟨⟨h1, h2, h3⟩, by cases hx : b.data.toList <;> simp_all, by simp [h2], by simp [h3]⟩
theorem head47 {t : ByteArray} (h : t.data.toList.head? = some 47) : t.toList.isEmpty = false ∧ ∃ h0 : 0 < t.size, ((t[0].toNat : Int) != 47) = false := by
  have h1 : 0 < t.size := by rw [Lib.size_eq]; cases hx : t.data.toList <;> simp_all
  refine ⟨?_, h1, ?_⟩
  · rw [Lib.toList_data]; cases hx : t.data.toList <;> simp_all
  · have : t[0] = 47 := by
      have e : t.data.toList[0]? = some 47 := by rw [← h, List.head?_eq_getElem?]
      obtain ⟨hl, hx⟩ := List.getElem?_eq_some_iff.1 e
      exact hx
    rw [this]; decide
theorem head_not {t : ByteArray} (h : t.data.toList.head? ≠ some 47) : t.toList.isEmpty = true ∨ (t.toList.isEmpty = false ∧ ∃ h0 : 0 < t.size, ((t[0].toNat : Int) != 47) = true) := by
  by_cases h1 : t.data.toList = []
  · left; rw [Lib.toList_data, h1]; rfl
  · right
    have h0 : 0 < t.size := by rw [Lib.size_eq]; exact List.length_pos_iff.2 h1
    refine ⟨by rw [Lib.toList_data]; simpa using h1, h0, ?_⟩
    have : t[0] ≠ 47 := by
      intro e
      apply h
      rw [List.head?_eq_getElem?, List.getElem?_eq_getElem (by rw [← Lib.size_eq]; exact h0)]
      exact congrArg some e
    rw [bne_iff_ne]
    intro e; exact this (byte47.2 e)
theorem ret_two {a b : ByteArray} {c d : Bool} (h : a = b) (h2 : c = d) : Ending.returned (.tuple #[.string a, .bool c]) = .returned (.tuple #[.string b, .bool d]) := by rw [h, h2]

theorem own_name {w : World} {B : Nat} {v : Value} {n : Nat} {xs : List Value} {wps tps : List ByteArray} (h : w.ownsRow B 9 1 v n xs) (hn : n = wps.length + tps.length) (hx : xs = wps.map Value.string ++ tps.map Value.string) (hne : tps ≠ []) :
    ∃ ga capa aps, v = .slice (some ⟨ga, 0, none⟩) (List.length (α := ByteArray) aps) capa ∧ Own w B (.slice (some ⟨ga, 0, none⟩) aps.length capa) aps ∧ txts aps = txts wps ++ txts tps := by
  have hO : Own w B v (wps ++ tps) := own_append h (by simpa using hn) (by simpa using hx)
  obtain ⟨ga, capa, rfl⟩ := own_form hO (by simp [hne])
  exact ⟨ga, capa, wps ++ tps, rfl, hO, by simp [txts]⟩

set_option maxHeartbeats 400000 in
theorem joined_none (ao : Option Addr) (cap : Nat) (w : World) :
    Calls Tryd.prog 12 #[.slice ao 0 cap] w fun e w' => e = .returned (.string (bs [])) ∧ w' = w := by
  go_enter Tryd.func12, Tryd.ntmps12
  go_wp2
  refine wp_loop_rounds 1 ?_
  rw [rounds_succ]
  go_wp2
  go_ret
  exact ⟨rfl, rfl⟩

theorem tps_ne {tps : List ByteArray} {l : List UInt8} (h : txts tps = spl l) : tps ≠ [] := by rintro rfl; exact spl_ne _ h.symm
theorem tps_len {tps : List ByteArray} {t : ByteArray} (h : txts tps = spl t.data.toList) : tps.length ≤ t.size + 1 := by
  rw [← txts_len, h, Lib.size_eq]; exact spl_len _

set_option maxHeartbeats 1600000 in
set_option maxRecDepth 100000 in
theorem ref_slash (s t : ByteArray) (w : World) (ht : t.size ≤ 1073741824) (hsl : t.data.toList.head? = some 47) :
    Calls Tryd.prog 5 #[.string s, .string t] w fun e w' => e = .returned (.tuple #[.string (bs ((res s.data.toList t.data.toList).getD [])), .bool (res s.data.toList t.data.toList).isSome]) ∧ Below w.heap.size w w' := by
  obtain ⟨i0, hi, hz0, hz1, hz2⟩ := info_parts Tryd.info9
  have HR : Hid (res s.data.toList t.data.toList = fin (run [] (spl t.data.toList))) := hide (by simp [res, bgn, hsl])
  obtain ⟨hne, h0, h47⟩ := head47 hsl
  have HW : Hid (wt (spl t.data.toList) = t.size + 1) := hide (by rw [wt_spl, Lib.size_eq])
  clear hsl
  go_enter Tryd.func5, Tryd.ntmps5
  go_wp2_with (first | (go_at_call 9; refine (cut_form _ _ (by omega)).mono ?_; rintro e w2 ⟨ga, capa, aps, rfl, hown2, ht2, hb2⟩) )
  have HX : Hid (res s.data.toList t.data.toList = fin (run [] (txts aps))) := hide (by rw [unhide HR, ht2])
  have hwt : Hid (wt (txts aps) ≤ 4294967280) := hide (by rw [ht2, unhide HW]; omega)
  have hal : aps.length ≤ 4294967280 := by have := wt_len (txts aps); rw [txts_len] at this; have := unhide hwt; omega
  clear HR HW ht2 hne h47
  go_loopw [8, 9] (fun v i wr => ∃ (k : Nat) (outs : List ByteArray), k ≤ aps.length ∧ i = .int .i64 k ∧ Own wr w2.heap.size v outs ∧ Below w2.heap.size w2 wr ∧ Hid (Going (txts aps) [] (txts outs) k)) (fun _ i _ => aps.length - (intOf i).toNat)
  case atStart => exact ⟨0, [], Nat.zero_le _, rfl, World.ownsRow_nil _ _ _ _, Below.refl _ _, hide (going0 _ _)⟩
  case round =>
    obtain ⟨k, outs, hk, rfl, hown, hb, HG⟩ := hrel
    obtain ⟨ao, cap, rfl⟩ := own_shape hown
    have hol : outs.length ≤ 4294967280 := by have h1 := wt_len (txts outs); rw [txts_len] at h1; have := going_wt (unhide HG); rw [wt_nil] at this; have := unhide hwt; omega
    have hsz := hb.size
    have hbw : Below w.heap.size w wr := hb2.trans (hb.mono hb2.size)
    by_cases hlt : k < aps.length
    · obtain ⟨b, hbk⟩ : ∃ b, aps[k]? = some b := ⟨aps[k], List.getElem?_eq_getElem hlt⟩
      have hcell : wr.cell? ⟨ga, k, none⟩ = some (.string b) := (hb.cell (p := ⟨ga, k, none⟩) (own_lt hown2)).trans (own_cell hown2 hbk)
      have HB := hide (txts_get hbk)
      have hc0 := own_cell hown2 hbk
      clear hbk
      rcases str_cases b with ⟨c0, c1, c2, c3⟩ | ⟨c0, c1, c2, c3⟩ | ⟨c0, c1, c2, c3⟩ | ⟨c0, c1, c2, c3⟩
      · have G := hide (going_skip (unhide HG) (unhide HB) (.inl c0))
        clear c0
        go_wp2
        go_roundw
        case rel => exact ⟨k + 1, outs, by omega, by go_num, hown, hb, G⟩
        case measure => simp [intOf]; omega
      · have G := hide (going_skip (unhide HG) (unhide HB) (.inr c0))
        clear c0
        go_wp2
        go_roundw
        case rel => exact ⟨k + 1, outs, by omega, by go_num, hown, hb, G⟩
        case measure => simp [intOf]; omega
      · rw [c0] at HB
        clear c0
        by_cases ho : outs = []
        · subst ho
          have G := hide (going_up0 (unhide HG) (unhide HB))
          go_wp2
          go_ret2
          exact ⟨ret_two (by rw [unhide HX, unhide G]; rfl) (by rw [unhide HX, unhide G]; rfl), hbw⟩
        · have G := hide (going_up (unhide HG) (unhide HB) (txts_ne ho))
          obtain ⟨n, hn⟩ : ∃ n, outs.length = n + 1 := ⟨outs.length - 1, by have := List.length_pos_iff.2 ho; omega⟩
          have hz : ((outs.length : Int) == 0) = false := by rw [beq_eq_false_iff_ne]; omega
          obtain ⟨g, cap', hv⟩ := own_form hown ho
          cases hv
          have hp := own_pop hown hn
          have hcp : (1 : Int) ≤ outs.length ∧ (outs.length : Int) - 1 ≤ cap := by have := own_cap hown; omega
          have HP : Hid (Own wr w2.heap.size (.slice (some ⟨g, 0, none⟩) (outs.length - 1) cap) outs.dropLast) := hide (by rw [hn]; exact hp)
          clear hn hp
          go_wp2
          go_roundw
          case rel => exact ⟨k + 1, outs.dropLast, by omega, by go_num, unhide HP, hb, hide (by rw [txts_dropLast]; exact unhide G)⟩
          case measure => simp [intOf]; omega
      · have HC := hide hc0
        clear hc0
        cases hok : elt b.data.toList
        · have G := hide (going_bad (unhide HG) (unhide HB) c0.1 c0.2.1 c0.2.2 hok)
          clear c0
          go_wp2_with (first
            | (go_at_call 11; refine (refEl_any _ _).mono ?_; rintro e w' ⟨rfl, rfl⟩)
            | (at_builtin; refine wpList_append_own _ rfl _ _ 35 rfl w2.heap.size 9 i0 (.string ByteArray.empty) 1 16 Tryd.underlying35 hi hz0 hz1 hz2 rfl (by decide) _ _ _ rfl (World.ownsRow.alloc hown _) ⟨wr.heap.size, 0, none⟩ 1 1 [.string b] rfl rfl (cell_one_new _ _ _) (fun x hx => by simp at hx; subst hx; rfl) (by unfold maxLen; omega) (by omega) (by simp; omega) ?_; intro v' w3 hown' hgrow hnil; clear hnil; have hb3 : Below w2.heap.size w2 w3 := (hb.alloc hsz _).grown hgrow (by simp; omega) (fun q hq => (hown.lt q hq).1); have hc3 := (hb3.cell (p := ⟨ga, k, none⟩) (own_lt hown2)).trans (unhide HC); clear hgrow hown'))
          go_ret2
          exact ⟨ret_two (by rw [unhide HX, unhide G]; rfl) (by rw [unhide HX, unhide G]; rfl), hb2.trans (hb3.mono hb2.size)⟩
        · have G := hide (going_el (unhide HG) (unhide HB) hok)
          clear c0
          go_wp2_with (first
            | (go_at_call 11; refine (refEl_any _ _).mono ?_; rintro e w' ⟨rfl, rfl⟩)
            | (at_builtin; refine wpList_append_own _ rfl _ _ 35 rfl w2.heap.size 9 i0 (.string ByteArray.empty) 1 16 Tryd.underlying35 hi hz0 hz1 hz2 rfl (by decide) _ _ _ rfl (World.ownsRow.alloc hown _) ⟨wr.heap.size, 0, none⟩ 1 1 [.string b] rfl rfl (cell_one_new _ _ _) (fun x hx => by simp at hx; subst hx; rfl) (by unfold maxLen; omega) (by omega) (by simp; omega) ?_; intro v' w3 hown' hgrow hnil; clear hnil; have hb3 : Below w2.heap.size w2 w3 := (hb.alloc hsz _).grown hgrow (by simp; omega) (fun q hq => (hown.lt q hq).1); have hc3 := (hb3.cell (p := ⟨ga, k, none⟩) (own_lt hown2)).trans (unhide HC); have HO := hide hown'; clear hgrow hown'))
          go_roundw
          case rel => exact ⟨k + 1, outs ++ [b], by omega, by go_num, own_append (unhide HO) (by simp) (by simp), hb3, hide (by rw [txts_snoc]; exact unhide G)⟩
          case measure => simp [intOf]; omega
    · have G := hide (going_end (unhide HG) (by rw [txts_len]; omega))
      have hjl : Hid ((Lib.join (txts outs) [47]).length ≤ 4294967280) := hide (by have h1 := wt_join (txts outs); have := going_wt (unhide HG); rw [wt_nil] at this; have := unhide hwt; omega)
      have HF : Hid (res s.data.toList t.data.toList = if isP (Lib.join (txts outs) [47]) = true then some (Lib.join (txts outs) [47]) else none) := hide (by rw [unhide HX, unhide G]; rfl)
      have hj : Calls Tryd.prog 12 #[.slice ao outs.length cap] wr fun e w' => e = .returned (.string (bs (Lib.join (txts outs) [47]))) ∧ w' = wr := by
        by_cases ho : outs = []
        · subst ho
          exact joined_none ao cap wr
        · obtain ⟨g, cap', hv⟩ := own_form hown ho
          cases hv
          exact joined_some g cap _ outs wr hown hol (by have := unhide hjl; omega)
      have HJ := hide hj
      clear hj
      generalize hJ : Lib.join (txts outs) [47] = J at *
      have hJs : (bs J).size ≤ 4294967280 := by have := unhide hjl; rw [Lib.size_eq, data_bs]; omega
      clear hJ
      cases hp : isP (bs J).data.toList
      · have HY : Hid (res s.data.toList t.data.toList = none) := hide (by rw [unhide HF, if_neg]; rw [data_bs] at hp; simp [hp])
        go_wp2_with (first
          | (go_at_call 12; refine (unhide HJ).mono ?_; rintro e w' ⟨rfl, rfl⟩)
          | (go_at_call 6; refine (isPath_any _ _ hJs).mono ?_; rintro e w4 ⟨rfl, hb4⟩))
        go_ret2
        exact ⟨ret_two (by rw [unhide HY]; rfl) (by rw [unhide HY]; rfl), hbw.trans (hb4.mono hbw.size)⟩
      · have HY : Hid (res s.data.toList t.data.toList = some J) := hide (by rw [unhide HF, if_pos]; rw [data_bs] at hp; simp [hp])
        go_wp2_with (first
          | (go_at_call 12; refine (unhide HJ).mono ?_; rintro e w' ⟨rfl, rfl⟩)
          | (go_at_call 6; refine (isPath_any _ _ hJs).mono ?_; rintro e w4 ⟨rfl, hb4⟩))
        go_ret2
        exact ⟨ret_two (by rw [unhide HY]; rfl) (by rw [unhide HY]; rfl), hbw.trans (hb4.mono hbw.size)⟩
end Go.Proofs.YtdhnmilifbobiaaDoor
