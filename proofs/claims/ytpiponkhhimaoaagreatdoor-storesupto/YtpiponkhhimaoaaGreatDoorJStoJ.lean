import Derived.Test.YtpiponkhhimaoaaGreatDoorStoI
namespace Go.Proofs.YtpiponkhhimaoaaGreatDoor
open Go.RowKit Go.Maps Go.Sort Go.Shelf

theorem look_mem {L : List Blb} (hR : Rise L) {b : Blb} (hb : b ∈ L) : (lookV L b.name.data.toList).1 = b.val := by
  rw [lookV, show getB L b.name.data.toList = some b from get_of_mem hR hb]
set_option maxHeartbeats 1000000 in
set_option maxRecDepth 100000 in
theorem files_any (sb mb : Nat) (v : Value) (L : List Blb) (q : Int) (A : List Ac) (w : World) (h : PSt w sb mb v L q A) (hL : L.length ≤ 1099511627) (hs : ∀ b ∈ L, b.name.size ≤ 1073741824 ∧ b.data.size ≤ 1073741824) :
    Calls Tryz.prog 40 #[.pointer (some ⟨sb, 0, none⟩)] w fun ev w' => ∃ v', ev = .returned v' ∧ OwnB w' w.heap.size v' L ∧ Below w.heap.size w w' := by
  obtain ⟨i0, hi, hz0, hz1, hz2⟩ := info_parts info140
  have HP := hide h
  have HR := hide h.map.rise
  have HS := hide hs
  have hN := names_any sb mb v L q A w h hL
  clear h hs
  go_enter Tryz.func40, Tryz.ntmps40
  go_upto_region 3 with (go_at_call 62; refine hN.mono ?_; clear hN; rintro ev w1 ⟨ao, cap, rfl, hNr, hb1, _⟩)
  obtain ⟨n, hn⟩ : ∃ n, n = L.length := ⟨_, rfl⟩
  rw [← hn]
  rw [← hn] at hL
  have HN := hide hn
  clear hn
  go_wp2
  go_loopw [3, 9] (fun u i wr => ∃ (k : Nat) (ks : List Blb), k ≤ n ∧ ks.length = k ∧ i = .int .i64 k ∧ OwnB wr w1.heap.size u ks ∧ Below w1.heap.size w1 wr ∧ Hid (ks = L.take k)) (fun _ i _ => n - (intOf i).toNat)
  case atStart => exact ⟨0, [], by omega, by simp, rfl, World.ownsRow_nil _ _ _ _, Below.refl _ _, hide (by simp)⟩
  case round =>
    obtain ⟨k, ks, hk, hkl, rfl, hown, hb2, HK⟩ := hrel
    have hb : Below w.heap.size w wr := hb1.trans (hb2.mono hb1.size)
    by_cases hlt : k < n
    · obtain ⟨e, he⟩ : ∃ e, L[k]? = some e := ⟨L[k]'(by have := unhide HN; omega), List.getElem?_eq_getElem (by have := unhide HN; omega)⟩
      obtain ⟨g, o, rfl, c1⟩ := (hNr.below hb2) k e he
      have hem := List.mem_of_getElem? he
      have c0 : wr.cell? ⟨sb, 0, none⟩ = some (.map (some mb)) := cell_of_row _ _ 0 _ _ _ ((unhide HP).below hb).cells
      have hlk := ((unhide HP).below hb).map.look e.name ((unhide HS e hem).1) false
      rw [if_neg (by decide), look_mem (unhide HR) hem] at hlk
      simp only [Blb.val] at hlk
      have hcl := cloned_any e wr (unhide HS e hem).1 (unhide HS e hem).2
      have i1 : (0 : Int) ≤ (k : Int) := by omega
      have i2 : (k : Int) < (n : Int) := by omega
      have HQ : Hid (L.take (k + 1) = ks ++ [e]) := hide (by rw [takeB_snoc he, unhide HK])
      clear he hem
      go_wp2_with (first
        | (go_at_call 63; refine hcl.mono ?_; clear hcl; rintro ev w4 ⟨rfl, hb4⟩; have hown4 : OwnB w4 w1.heap.size u3 ks := hown.below hb4; have hB4 := hb2.trans (hb4.mono hb2.size))
        | (at_builtin; refine wpList_append_own _ rfl _ _ 22 rfl w1.heap.size 68 i0 _ 2 32 Tryz.underlying22 hi hz0 hz1 hz2 rfl (by decide) _ _ _ rfl (World.ownsRow.alloc hown4 _) ⟨w4.heap.size, 0, none⟩ 1 1 e.cells rfl rfl (World.news_of_block (cs := #[.string e.name, .string e.data]) (t := 68) (fr := (0, 0)) (heap_alloc_new _ _)) (bl_one e) (by unfold maxLen; omega) (by omega) (by have := hB4.size; simp; omega) ?_; intro v' w5 hown5 hgrow _))
      go_roundw
      case rel =>
        have R1 : OwnB w5 w1.heap.size v' (ks ++ [e]) := ownB_snoc hown5
        have R2 : Below w1.heap.size w1 w5 := (hB4.alloc hB4.size _).grown hgrow (by have := hB4.size; simp; omega) (fun q hq => (World.ownsRow.lt hown4 q hq).1)
        first
          | exact ⟨k + 1, ks ++ [e], by omega, by simp; omega, by go_num, R1, R2, hide (unhide HQ).symm⟩
          | ((repeat apply Exists.intro); exact ⟨⟨k + 1, ks ++ [e], by omega, by simp; omega, by go_num, R1, R2, hide (unhide HQ).symm⟩, rfl⟩)
      case measure => simp [intOf]; omega
    · have HF : Hid (ks = L) := hide (by rw [unhide HK, List.take_of_length_le (by have := unhide HN; omega)])
      go_wp2_with fail
      go_ret
      exact ⟨_, rfl, by rw [← unhide HF]; exact hown.base hb1.size, hb⟩
end Go.Proofs.YtpiponkhhimaoaaGreatDoor

namespace Go.Proofs.YtpiponkhhimaoaaGreatDoor
open Go.RowKit Go.Maps Go.Sort Go.Shelf

theorem setCell_id {w : World} {g i : Nat} {v : Value} (h : w.cell? ⟨g, i, none⟩ = some v) : w.setCell ⟨g, i, none⟩ v = w := by
  have e : (w.setCell ⟨g, i, none⟩ v).heap = w.heap := by
    apply Array.ext_getElem?
    intro k
    by_cases hk : k = g
    · subst hk
      cases ho : w.heap[k]? with
      | none =>
        have : ¬ k < w.heap.size := fun hlt => by rw [Array.getElem?_eq_getElem hlt] at ho; cases ho
        rw [Array.getElem?_eq_none_iff.2 (by rw [World.size_setCell]; omega)]
      | some o =>
        cases o with
        | cells c t fz =>
          have hc : c[i]? = some v := by simpa [World.cell?, ho] using h
          have hs : c.setIfInBounds i v = c := by
            apply Array.ext_getElem?
            intro j
            rw [Array.getElem?_setIfInBounds]
            split
            · rename_i hij
              subst hij
              split
              · exact hc.symm
              · rename_i hn
                rw [Array.getElem?_eq_none_iff.2 (by omega)]
            · rfl
          simp [World.setCell, Array.getElem?_modify, ho, hs]
        | _ => simp [World.setCell, Array.getElem?_modify, ho]
    · exact Below.heap_setCell w ⟨g, i, none⟩ v k hk
  show { w with heap := (w.setCell ⟨g, i, none⟩ v).heap } = w
  rw [e]
theorem acC_get : ∀ {l : List Ac} {k : Nat} {a : Ac}, l[k]? = some a → (acC l)[k * 4]? = some (.int .i64 a.what) ∧ (acC l)[k * 4 + 1]? = some (.string a.name) ∧ (acC l)[k * 4 + 2]? = some (.string a.dest) ∧ (acC l)[k * 4 + 3]? = some (.string a.data)
  | [], _, _, h => by simp at h
  | x :: r, 0, e, h => by
    simp at h; subst h
    simp [acC, Ac.cells]
  | x :: r, k + 1, e, h => by
    have h' : r[k]? = some e := by simpa using h
    have := acC_get h'
    have e1 : acC (x :: r) = x.cells ++ acC r := by simp [acC]
    have e2 : x.cells.length = 4 := rfl
    rw [e1, show (k + 1) * 4 = 4 + k * 4 from by omega, show 4 + k * 4 + 1 = 4 + (k * 4 + 1) from by omega, show 4 + k * 4 + 2 = 4 + (k * 4 + 2) from by omega, show 4 + k * 4 + 3 = 4 + (k * 4 + 3) from by omega]
    rw [List.getElem?_append_right (by omega), List.getElem?_append_right (by omega), List.getElem?_append_right (by omega), List.getElem?_append_right (by omega)]
    simp only [e2, Nat.add_sub_cancel_left]
    exact this
/-- A row of acts. -/
def ARow (w : World) (ao : Option Addr) (l : List Ac) : Prop := ∀ k a, l[k]? = some a → ∃ g, ao = some ⟨g, 0, none⟩ ∧ (∃ cur, w.heap[g]? = some (.cells cur 66 (0, 0))) ∧ w.cell? ⟨g, k * 4, none⟩ = some (.int .i64 a.what) ∧ w.cell? ⟨g, k * 4 + 1, none⟩ = some (.string a.name) ∧ w.cell? ⟨g, k * 4 + 2, none⟩ = some (.string a.dest) ∧ w.cell? ⟨g, k * 4 + 3, none⟩ = some (.string a.data)
theorem arow_of {w : World} {B : Nat} {v : Value} {l : List Ac} (h : w.ownsRow B 66 4 v l.length (acC l)) : ∃ ao cap, v = .slice ao l.length cap ∧ ARow w ao l ∧ l.length ≤ cap := by
  rcases h.2 with ⟨rfl, h0⟩ | ⟨g, cap, cur, rfl, hb, hg, hnc, _⟩
  · have : l = [] := List.length_eq_zero_iff.1 h0
    subst this
    exact ⟨none, 0, rfl, fun k b hk => by simp at hk, Nat.le_refl _⟩
  · refine ⟨some ⟨g, 0, none⟩, cap, rfl, fun k b hk => ?_, hnc⟩
    have hk' : k < l.length := (List.getElem?_eq_some_iff.1 hk).1
    obtain ⟨h1, h2, h3, h4⟩ := acC_get hk
    exact ⟨g, rfl, ⟨cur, hg⟩, by rw [World.ownsRow.cellAt h _ (by omega), h1], by rw [World.ownsRow.cellAt h _ (by omega), h2], by rw [World.ownsRow.cellAt h _ (by omega), h3], by rw [World.ownsRow.cellAt h _ (by omega), h4]⟩
theorem ARow.below {w w' : World} {ao : Option Addr} {l : List Ac} (h : ARow w ao l) (hb : Below w.heap.size w w') : ARow w' ao l := fun k b hk => by
  obtain ⟨g, e, ⟨cur, hc⟩, h1, h2, h3, h4⟩ := h k b hk
  exact ⟨g, e, ⟨cur, (hb.block g (Array.getElem?_eq_some_iff.1 hc).1).trans hc⟩, cell_later hb h1, cell_later hb h2, cell_later hb h3, cell_later hb h4⟩
set_option maxHeartbeats 1000000 in
set_option maxRecDepth 100000 in
theorem acts_any (sb mb : Nat) (v : Value) (L : List Blb) (q : Int) (A : List Ac) (w : World) (h : PSt w sb mb v L q A) (hA : A.length ≤ 1099511627) (hs : ∀ a ∈ A, a.name.size ≤ 1073741824 ∧ a.dest.size ≤ 1073741824 ∧ a.data.size ≤ 1073741824) :
    Calls Tryz.prog 53 #[.pointer (some ⟨sb, 0, none⟩)] w fun ev w' => ev = .returned v ∧ Below (w.setCell ⟨sb, 2, none⟩ (.slice none 0 0)).heap.size (w.setCell ⟨sb, 2, none⟩ (.slice none 0 0)) w' := by
  have c2 : w.cell? ⟨sb, 2, none⟩ = some v := cell_of_row _ _ 2 _ _ _ h.cells
  have f2 : w.frozen? ⟨sb, 2, none⟩ = false := by simp [World.frozen?, h.cells]
  have hrow : (w.setCell ⟨sb, 2, none⟩ (.slice none 0 0)).ownsRow 0 66 4 v A.length (acC A) := row_turn h.row fun k hk => Below.heap_setCell _ _ _ _ (fun e => h.sb_row (hk.trans (congrArg some e)))
  obtain ⟨ao, cap, rfl, hA1, _⟩ := arow_of hrow
  have HS := hide hs
  obtain ⟨n, hn⟩ : ∃ n, n = A.length := ⟨_, rfl⟩
  rw [← hn] at c2 hA ⊢
  have HN := hide hn
  obtain ⟨W0, hW0⟩ : ∃ W0, W0 = w.setCell ⟨sb, 2, none⟩ (.slice none 0 0) := ⟨_, rfl⟩
  rw [← hW0] at hA1 ⊢
  clear h hs hn hrow
  go_enter Tryz.func53, Tryz.ntmps53
  go_upto_region 3 with fail
  rw [← hW0]
  clear hW0 c2 f2
  go_wp2
  go_loopw [15] (fun i wr => ∃ (k : Nat), k ≤ n ∧ i = .int .i64 k ∧ Below W0.heap.size W0 wr) (fun i _ => n - (intOf i).toNat)
  case atStart => exact ⟨0, by omega, rfl, Below.refl _ _⟩
  case round =>
    obtain ⟨k, hk, rfl, hb⟩ := hrel
    by_cases hlt : k < n
    · obtain ⟨e, he⟩ : ∃ e, A[k]? = some e := ⟨A[k]'(by have := unhide HN; omega), List.getElem?_eq_getElem (by have := unhide HN; omega)⟩
      obtain ⟨g, rfl, ⟨cur, hc⟩, d0, d1, d2, d3⟩ := (hA1.below hb) k e he
      obtain ⟨s1, s2, s3⟩ := unhide HS e (List.mem_of_getElem? he)
      have i1 : (0 : Int) ≤ (k : Int) := by omega
      have i2 : (k : Int) < (n : Int) := by omega
      clear he
      go_upto_region 6 with fail
      obtain ⟨W4, hW4⟩ : ∃ W4, W4 = wr.alloc (.cells #[.int .i64 e.what, .string e.name, .string e.dest, .string e.data] 66) := ⟨_, rfl⟩
      have hbx : W4.heap[wr.heap.size]? = some (.cells #[.int .i64 e.what, .string e.name, .string e.dest, .string e.data] 66 (0, 0)) := by rw [hW4]; exact heap_alloc_new _ _
      have hB4 : Below wr.heap.size wr W4 := by rw [hW4]; exact (Below.refl _ _).alloc (Nat.le_refl _) _
      rw [← hW4]
      have b1 : W4.cell? ⟨wr.heap.size, 1, none⟩ = some (.string e.name) := cell_of_row _ _ 1 _ _ _ hbx
      clear hW4
      go_upto_region 7 with (go_at_call 90; refine (clone_at e.name _ s1).mono ?_; rintro ev w5 ⟨rfl, hb5⟩; have hB5 := hB4.trans (hb5.mono hB4.size); have hc5 := keepD_below hB5 hc; have e1 := cell_later hB5 d1; have g1 := frzD hc5 (k * 4 + 1))
      rw [setCell_id e1]
      have hbx5 := keepD_below hb5 hbx
      have b2 : w5.cell? ⟨wr.heap.size, 2, none⟩ = some (.string e.dest) := cell_of_row _ _ 2 _ _ _ hbx5
      clear b1 e1 g1 hc5 hb5 hbx hB4
      go_upto_region 8 with (go_at_call 90; refine (clone_at e.dest _ s2).mono ?_; rintro ev w6 ⟨rfl, hb6⟩; have hB6 := hB5.trans (hb6.mono hB5.size); have hc6 := keepD_below hB6 hc; have e2 := cell_later hB6 d2; have g2 := frzD hc6 (k * 4 + 2))
      rw [setCell_id e2]
      have hbx6 := keepD_below hb6 hbx5
      have b3 : w6.cell? ⟨wr.heap.size, 3, none⟩ = some (.string e.data) := cell_of_row _ _ 3 _ _ _ hbx6
      clear b2 e2 g2 hc6 hb6 hbx5 hB5
      go_upto_region 9 with (go_at_call 90; refine (clone_at e.data _ s3).mono ?_; rintro ev w7 ⟨rfl, hb7⟩; have hB7 := hB6.trans (hb7.mono hB6.size); have hc7 := keepD_below hB7 hc; have e3 := cell_later hB7 d3; have g3 := frzD hc7 (k * 4 + 3))
      rw [setCell_id e3]
      clear b3 e3 g3 hc7 hb7 hbx6 hB6
      go_wp2_with fail
      go_roundw
      case rel =>
        have R := hb.trans (hB7.mono hb.size)
        first
          | exact ⟨k + 1, by omega, by go_num, R⟩
          | ((repeat apply Exists.intro); exact ⟨⟨k + 1, by omega, by go_num, R⟩, rfl⟩)
      case measure => simp [intOf]; omega
    · go_wp2_with fail
      go_ret
      exact ⟨rfl, hb⟩
end Go.Proofs.YtpiponkhhimaoaaGreatDoor
