import Derived.Test.YtkikhmleffcajaaGreatDoorPnG
import Derived.Test.YtkikhmleffcajaaGreatDoorPnE
import Derived.Test.YtkikhmleffcajaaGreatDoorKnP
import Derived.Test.YtkikhmleffcajaaGreatDoorDcY
namespace Go.Proofs.YtkikhmleffcajaaGreatDoor
open Go.RowKit Go.Maps

theorem cell_blk {w : World} {a i : Nat} {v : Value} (h : w.cell? ⟨a, i, none⟩ = some v) : a < w.heap.size := World.block_lt_of_cell? _ _ h
theorem cell_keep {w w' : World} {a i : Nat} {v : Value} (h : w.cell? ⟨a, i, none⟩ = some v) (hb : Below w.heap.size w w') : w'.cell? ⟨a, i, none⟩ = some v := (hb.cell (p := ⟨a, i, none⟩) (cell_blk h)).trans h
/-- A number of a row. -/
theorem num_at {w : World} {B g n cap : Nat} {l : List Nat} (h : NumR w B (.slice (some ⟨g, 0, none⟩) n cap) l) {k x : Nat} (hk : l[k]? = some x) : w.cell? ⟨g, k, none⟩ = some (.int .i64 (x : Int)) := by
  have hl := (List.getElem?_eq_some_iff.1 hk).1
  have hn : n = l.length := row_len h
  subst hn
  rw [World.ownsRow.cellAt h k (by omega), List.getElem?_map, hk]; rfl
set_option maxHeartbeats 8000000 in
set_option maxRecDepth 10000 in
theorem law_any (s : ByteArray) (m : Int) (w : World) (hm : w.cell? ⟨1, 0, none⟩ = some (.int .i64 m)) (hg : w.cell? ⟨0, 0, none⟩ = some (.iface 140 (.agg #[.pointer (some ⟨22, 34, none⟩)]))) :
    Calls Tryz.prog 3 #[.string s] w fun e w' => e = .returned (.bool true) ∧ Below w.heap.size w w' := by
  have HM := hide hm
  have HG := hide hg
  have hK : ∀ (t : ByteArray) wx, Below w.heap.size w wx → Calls Tryz.prog 4 #[.string t] wx fun ev w' => TopP wx.heap.size w' ev (parseG t.data.toList) ∧ Below wx.heap.size wx w' := fun t wx hb => plain_plan t m wx (cell_keep (unhide HM) hb) (cell_keep (unhide HG) hb)
  have k1 : ∀ wx, Below w.heap.size w wx → Calls Tryz.prog 4 #[.string ⟨#[70, 82, 79, 77, 32, 115, 99, 114, 97, 116, 99, 104, 32, 65, 83, 32, 97, 10, 70, 82, 79, 77, 32, 115, 99, 114, 97, 116, 99, 104, 10]⟩] wx fun ev w' => (∃ g cap, ev = .returned (.tuple #[.slice (some ⟨g, 0, none⟩) 1 cap, .int .i64 0, .int .i64 (-1)]) ∧ w'.cell? ⟨g, 0, none⟩ = some (.int .i64 1)) ∧ Below wx.heap.size wx w' := fun wx hb => by
    have := hK ⟨#[70, 82, 79, 77, 32, 115, 99, 114, 97, 116, 99, 104, 32, 65, 83, 32, 97, 10, 70, 82, 79, 77, 32, 115, 99, 114, 97, 116, 99, 104, 10]⟩ wx hb
    rw [show (⟨#[70, 82, 79, 77, 32, 115, 99, 114, 97, 116, 99, 104, 32, 65, 83, 32, 97, 10, 70, 82, 79, 77, 32, 115, 99, 114, 97, 116, 99, 104, 10]⟩ : ByteArray).data.toList = kn from rfl, kn_parse] at this
    refine this.mono ?_
    rintro ev w' ⟨⟨rv, bs, rfl, hma, hrow⟩, hb'⟩
    rw [kn_one hma] at hrow
    obtain ⟨g, cap, rfl, _, _⟩ := row_capz hrow (by decide)
    exact ⟨⟨g, cap, rfl, num_at hrow (k := 0) rfl⟩, hb'⟩
  have k3 : ∀ wx, Below w.heap.size w wx → Calls Tryz.prog 4 #[.string s] wx fun ev w' => TopP wx.heap.size w' ev (parseG s.data.toList) ∧ Below wx.heap.size wx w' := fun wx hb => hK s wx hb
  have k5 : ∀ wx, Calls Tryz.prog 5 #[.string s] wx fun ev w' => ParD w' (wx.heap.size + 1) ev (parseG s.data.toList) ∧ Below wx.heap.size wx w' := fun wx => parse_doc s wx
  clear hK hm hg
  have hB0 : Below w.heap.size w w := Below.refl _ _
  cases hp : parseG s.data.toList with
  | error x =>
    obtain ⟨e, p⟩ := x
    rw [hp] at k3 k5
    unfold TopP at k3
    unfold ParD at k5
    clear hp
    go_enter Tryz.func3, Tryz.ntmps3
    go_upto_region 6 with (first
      | (go_at_call 4; refine (k1 _ (by assumption)).mono ?_; clear k1; rintro ev w1 ⟨⟨g1, cp1, rfl, hq1⟩, hb1⟩; have hB1 : Below w.heap.size w w1 := hB0.trans (hb1.mono hB0.size))
      | (go_at_call 4; refine (k3 _ (by assumption)).mono ?_; clear k3; rintro ev w3 ⟨rfl, hb3⟩; have hB3 : Below w.heap.size w w3 := hB1.trans (hb3.mono hB1.size))
      | (go_at_call 5; refine (k5 _).mono ?_; clear k5; rintro ev w5 ⟨⟨hne, rfl⟩, hb5⟩; have hB5 : Below w.heap.size w w5 := hB3.trans (hb5.mono hB3.size)))
    have ge : (((e : Nat) : Int) != 0) = true := by simp; omega
    obtain ⟨W6, hW6⟩ : ∃ W6, W6 = w5.alloc (.cells #[.int .i64 (e : Int), .int .i64 (p : Int)] 28) := ⟨_, rfl⟩
    have hB6 : Below w.heap.size w W6 := by rw [hW6]; exact hB5.alloc hB5.size _
    have t27 : W6.heap[w5.heap.size]? = some (.cells #[.int .i64 (e : Int), .int .i64 (p : Int)] 28 (0, 0)) := by rw [hW6]; exact heap_alloc_new _ _
    rw [← hW6]
    clear hW6
    have t0 : W6.cell? ⟨w5.heap.size, 0, none⟩ = some (.int .i64 (e : Int)) := cell_of_row _ _ 0 _ _ _ t27
    have t1 : W6.cell? ⟨w5.heap.size, 1, none⟩ = some (.int .i64 (p : Int)) := cell_of_row _ _ 1 _ _ _ t27
    clear t27
    go_wp2_with fail
    go_ret
    exact ⟨rfl, hB6⟩
  | ok st =>
    obtain ⟨hfw, hne⟩ := parse_fwd hp
    have HFW := hide hfw
    have HNE := hide hne
    rw [hp] at k3 k5
    unfold TopP at k3
    unfold ParD at k5
    clear hp hfw hne
    go_enter Tryz.func3, Tryz.ntmps3
    go_upto_region 6 with (first
      | (go_at_call 4; refine (k1 _ (by assumption)).mono ?_; clear k1; rintro ev w1 ⟨⟨g1, cp1, rfl, hq1⟩, hb1⟩; have hB1 : Below w.heap.size w w1 := hB0.trans (hb1.mono hB0.size))
      | (go_at_call 4; refine (k3 _ (by assumption)).mono ?_; clear k3; rintro ev w3 ⟨⟨rv3, bs3, rfl, hma3, hrw3⟩, hb3⟩; obtain ⟨ao3, n3, c3, hrv3⟩ := row_form hrw3; subst hrv3; have HMA3 := hide hma3; have HRW3 := hide hrw3; clear hma3 hrw3; have hB3 : Below w.heap.size w w3 := hB1.trans (hb3.mono hB1.size))
      | (go_at_call 5; refine (k5 _).mono ?_; clear k5; rintro ev w5 ⟨⟨v5, ss, rfl, hsd, hrel, hl5, hst⟩, hb5⟩; obtain ⟨a5, n5, c5, hv5⟩ := row_form hsd.row; subst hv5; have HSD := hide hsd; have HREL := hide hrel; have HL5 := hide hl5; have HST := hide hst; clear hsd hrel hl5 hst; have hB5 : Below w.heap.size w w5 := hB3.trans (hb5.mono hB3.size)))
    obtain ⟨W6, hW6⟩ : ∃ W6, W6 = w5.alloc (.cells #[.int .i64 0, .int .i64 (-1)] 28) := ⟨_, rfl⟩
    have hb6 : Below w5.heap.size w5 W6 := by rw [hW6]; exact (Below.refl _ _).alloc (Nat.le_refl _) _
    have hB6 : Below w.heap.size w W6 := hB5.trans (hb6.mono hB5.size)
    have t27 : W6.heap[w5.heap.size]? = some (.cells #[.int .i64 0, .int .i64 (-1)] 28 (0, 0)) := by rw [hW6]; exact heap_alloc_new _ _
    rw [← hW6]
    clear hW6
    have t0 : W6.cell? ⟨w5.heap.size, 0, none⟩ = some (.int .i64 0) := cell_of_row _ _ 0 _ _ _ t27
    clear t27 hq1
    have hN := needed_doc (.slice a5 n5 c5) ss st (w3.heap.size + 1) W6 ((unhide HSD).below hb6) (unhide HREL) (unhide HL5) (unhide HST) (unhide HFW) (unhide HNE)
    have hb36 : Below w3.heap.size w3 W6 := hb5.trans (hb6.mono hb5.size)
    have hs5 : st.length ≤ 5 := by rw [← (unhide HREL).len]; exact unhide HL5
    clear HSD HREL HL5 HST HFW HNE hb5 hb6
    go_upto_region 9 with (go_at_call 6; refine hN.mono ?_; clear hN; rintro ev w7 ⟨⟨rv7, bs7, hma7, rfl, hrw7⟩, hb7⟩; obtain ⟨ao7, n7, c7, hrv7⟩ := row_form hrw7; subst hrv7; have HMA7 := hide hma7; have HRW7 := hide hrw7; clear hma7 hrw7; have hB7 : Below w.heap.size w w7 := hB6.trans (hb7.mono hB6.size); have hb37 : Below w3.heap.size w3 w7 := hb36.trans (hb7.mono hb36.size))
    obtain ⟨L, hL⟩ : ∃ L, L = idxB bs3 st.length := ⟨_, rfl⟩
    have r3 : NumR w7 w1.heap.size (.slice ao3 n3 c3) L := by rw [hL]; exact row_same (unhide HRW3) fun q hq => hb37.block q (World.ownsRow.lt (unhide HRW3) q hq).2
    have r7 : NumR w7 W6.heap.size (.slice ao7 n7 c7) L := by rw [hL, Marks.one (unhide HMA3) (unhide HMA7)]; exact unhide HRW7
    have e3 : n3 = L.length := row_len r3
    have e7 : n7 = n3 := by rw [e3]; exact row_len r7
    subst e7
    have hlL : n7 ≤ 5 := by rw [e3, hL]; exact Nat.le_trans (idxB_len _ _) hs5
    have HE3 := hide e3
    have R3 := hide r3
    have R7 := hide r7
    clear HMA3 HRW3 HMA7 HRW7 hL r3 r7 e3 hb36 hb37 hb7 t0
    go_wp2_with fail
    go_loopw [12] (fun iv wr => ∃ k : Nat, k ≤ n7 ∧ iv = .int .i64 (k : Int) ∧ Below w7.heap.size w7 wr) (fun iv _ => n7 - (intOf iv).toNat)
    case atStart => exact ⟨0, Nat.zero_le _, rfl, Below.refl _ _⟩
    case round =>
      obtain ⟨k, hk, rfl, hbr⟩ := hrel
      by_cases hlt : k < n7
      · obtain ⟨x, hx⟩ : ∃ x, L[k]? = some x := ⟨_, List.getElem?_eq_getElem (by rw [← unhide HE3]; exact hlt)⟩
        obtain ⟨g3, cp3, hv3, _, _⟩ := row_capz (unhide R3) (by rw [← unhide HE3]; omega)
        obtain ⟨g7, cp7, hv7, _, _⟩ := row_capz (unhide R7) (by rw [← unhide HE3]; omega)
        injection hv3 with e1 _ e2
        injection hv7 with e3 _ e4
        subst e1 e2 e3 e4
        have q3 := cell_keep (num_at (unhide R3) hx) hbr
        have q7 := cell_keep (num_at (unhide R7) hx) hbr
        clear hx
        go_upto_region 14 with fail
        go_quiet (fail)
        go_wp2_with fail
        go_roundw
        case rel => exact ⟨k + 1, hlt, by go_num, below_drewN hbr _⟩
        case measure => simp [intOf]; omega
      · go_wp2_with fail
        go_ret
        exact ⟨rfl, hB7.trans (hbr.mono hB7.size)⟩
end Go.Proofs.YtkikhmleffcajaaGreatDoor
