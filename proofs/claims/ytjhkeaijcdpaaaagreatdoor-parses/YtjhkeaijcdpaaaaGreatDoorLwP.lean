import Derived.Test.YtjhkeaijcdpaaaaGreatDoorDtB
import Derived.Test.YtjhkeaijcdpaaaaGreatDoorDcY
namespace Go.Proofs.YtjhkeaijcdpaaaaGreatDoor
open Go.RowKit Go.Maps

abbrev kn1 : List UInt8 := [70, 82, 79, 77, 32, 115, 99, 114, 97, 116, 99, 104, 32, 35, 32, 120, 10]
abbrev kn2 : List UInt8 := [70, 82, 79, 77, 32, 32, 32, 115, 99, 114, 97, 116, 99, 104, 10]
theorem wrd_step {l : List UInt8} {k : Nat} {acc : List Atm} {c : UInt8} (h : l[k]? = some c) (he : endG l k = false) (h34 : ¬ c = 34) (h36 : ¬ c = 36) (h92 : ¬ c = 92) : wrdG l acc k = wrdG l (acc ++ [.inl c]) (k + 1) := by
  rw [wrd_some h he, if_neg h34, if_neg h36, if_neg h92]
theorem lin_sp {l : List UInt8} {k : Nat} {ws : List Wd} (h : l[k]? = some 32) (hg : goesG l k = false) : linG l ws k = linG l ws (k + 1) := by
  rw [lin_some h, if_neg (by decide), if_neg (by rw [hg]; decide), if_pos rfl]
theorem lin_wd {l : List UInt8} {k t : Nat} {ws : List Wd} {c : UInt8} {a : List Atm} (h : l[k]? = some c) (h10 : ¬ c = 10) (h32 : ¬ c = 32) (hg : goesG l k = false) (h35 : c = 35 → ws ≠ []) (hw : wrdG l [] k = .ok (a, t)) (ht : k < t) : linG l ws k = linG l (ws ++ [⟨a, k⟩]) t := by
  rw [lin_some h, if_neg h10, if_neg (by rw [hg]; decide), if_neg h32, if_neg (fun e => h35 e.1 e.2), hw]
  simp only
  rw [if_pos ht]
theorem kn1_w0 : wrdG kn1 [] 0 = .ok ([.inl 70, .inl 82, .inl 79, .inl 77], 4) := by
  rw [wrd_step (c := 70) (k := 0) (by decide) (by decide) (by decide) (by decide) (by decide), wrd_step (c := 82) (k := 1) (by decide) (by decide) (by decide) (by decide) (by decide), wrd_step (c := 79) (k := 2) (by decide) (by decide) (by decide) (by decide) (by decide), wrd_step (c := 77) (k := 3) (by decide) (by decide) (by decide) (by decide) (by decide), wrd_end (by decide)]
  rfl
theorem kn1_w5 : wrdG kn1 [] 5 = .ok ([.inl 115, .inl 99, .inl 114, .inl 97, .inl 116, .inl 99, .inl 104], 12) := by
  rw [wrd_step (c := 115) (k := 5) (by decide) (by decide) (by decide) (by decide) (by decide), wrd_step (c := 99) (k := 6) (by decide) (by decide) (by decide) (by decide) (by decide), wrd_step (c := 114) (k := 7) (by decide) (by decide) (by decide) (by decide) (by decide), wrd_step (c := 97) (k := 8) (by decide) (by decide) (by decide) (by decide) (by decide), wrd_step (c := 116) (k := 9) (by decide) (by decide) (by decide) (by decide) (by decide), wrd_step (c := 99) (k := 10) (by decide) (by decide) (by decide) (by decide) (by decide), wrd_step (c := 104) (k := 11) (by decide) (by decide) (by decide) (by decide) (by decide), wrd_end (by decide)]
  rfl
theorem kn1_w13 : wrdG kn1 [] 13 = .ok ([.inl 35], 14) := by
  rw [wrd_step (c := 35) (k := 13) (by decide) (by decide) (by decide) (by decide) (by decide), wrd_end (by decide)]
  rfl
theorem kn1_w15 : wrdG kn1 [] 15 = .ok ([.inl 120], 16) := by
  rw [wrd_step (c := 120) (k := 15) (by decide) (by decide) (by decide) (by decide) (by decide), wrd_end (by decide)]
  rfl
theorem kn1_lin : linG kn1 [] 0 = .ok ([⟨[.inl 70, .inl 82, .inl 79, .inl 77], 0⟩, ⟨[.inl 115, .inl 99, .inl 114, .inl 97, .inl 116, .inl 99, .inl 104], 5⟩, ⟨[.inl 35], 13⟩, ⟨[.inl 120], 15⟩], 17) := by
  rw [lin_wd (k := 0) (c := 70) (by decide) (by decide) (by decide) (by decide) (by decide) kn1_w0 (by decide), lin_sp (k := 4) (by decide) (by decide), lin_wd (k := 5) (c := 115) (by decide) (by decide) (by decide) (by decide) (by decide) kn1_w5 (by decide), lin_sp (k := 12) (by decide) (by decide), lin_wd (k := 13) (c := 35) (by decide) (by decide) (by decide) (by decide) (by simp) kn1_w13 (by decide), lin_sp (k := 14) (by decide) (by decide), lin_wd (k := 15) (c := 120) (by decide) (by decide) (by decide) (by decide) (by decide) kn1_w15 (by decide), lin_nl (k := 16) (by decide)]
  rfl
theorem kn2_w0 : wrdG kn2 [] 0 = .ok ([.inl 70, .inl 82, .inl 79, .inl 77], 4) := by
  rw [wrd_step (c := 70) (k := 0) (by decide) (by decide) (by decide) (by decide) (by decide), wrd_step (c := 82) (k := 1) (by decide) (by decide) (by decide) (by decide) (by decide), wrd_step (c := 79) (k := 2) (by decide) (by decide) (by decide) (by decide) (by decide), wrd_step (c := 77) (k := 3) (by decide) (by decide) (by decide) (by decide) (by decide), wrd_end (by decide)]
  rfl
theorem kn2_w7 : wrdG kn2 [] 7 = .ok ([.inl 115, .inl 99, .inl 114, .inl 97, .inl 116, .inl 99, .inl 104], 14) := by
  rw [wrd_step (c := 115) (k := 7) (by decide) (by decide) (by decide) (by decide) (by decide), wrd_step (c := 99) (k := 8) (by decide) (by decide) (by decide) (by decide) (by decide), wrd_step (c := 114) (k := 9) (by decide) (by decide) (by decide) (by decide) (by decide), wrd_step (c := 97) (k := 10) (by decide) (by decide) (by decide) (by decide) (by decide), wrd_step (c := 116) (k := 11) (by decide) (by decide) (by decide) (by decide) (by decide), wrd_step (c := 99) (k := 12) (by decide) (by decide) (by decide) (by decide) (by decide), wrd_step (c := 104) (k := 13) (by decide) (by decide) (by decide) (by decide) (by decide), wrd_end (by decide)]
  rfl
theorem kn2_lin : linG kn2 [] 0 = .ok ([⟨[.inl 70, .inl 82, .inl 79, .inl 77], 0⟩, ⟨[.inl 115, .inl 99, .inl 114, .inl 97, .inl 116, .inl 99, .inl 104], 7⟩], 15) := by
  rw [lin_wd (k := 0) (c := 70) (by decide) (by decide) (by decide) (by decide) (by decide) kn2_w0 (by decide), lin_sp (k := 4) (by decide) (by decide), lin_sp (k := 5) (by decide) (by decide), lin_sp (k := 6) (by decide) (by decide), lin_wd (k := 7) (c := 115) (by decide) (by decide) (by decide) (by decide) (by decide) kn2_w7 (by decide), lin_nl (k := 14) (by decide)]
  rfl
theorem kn1_take : takeG [] [⟨[.inl 70, .inl 82, .inl 79, .inl 77], 0⟩, ⟨[.inl 115, .inl 99, .inl 114, .inl 97, .inl 116, .inl 99, .inl 104], 5⟩, ⟨[.inl 35], 13⟩, ⟨[.inl 120], 15⟩] = .error (5, 13) := by kernel_rfl
theorem kn2_take : ∃ st, takeG [] [⟨[.inl 70, .inl 82, .inl 79, .inl 77], 0⟩, ⟨[.inl 115, .inl 99, .inl 114, .inl 97, .inl 116, .inl 99, .inl 104], 7⟩] = .ok st ∧ st ≠ [] ∧ formG st = [70, 82, 79, 77, 32, 115, 99, 114, 97, 116, 99, 104, 10] := ⟨[⟨[], [⟨[⟨[.inl 70, .inl 82, .inl 79, .inl 77], 0⟩, ⟨[.inl 115, .inl 99, .inl 114, .inl 97, .inl 116, .inl 99, .inl 104], 7⟩], -1⟩]⟩], by kernel_rfl, by simp, by kernel_rfl⟩
theorem kn1_parse : parseG kn1 = .error (5, 13) := by
  unfold parseG
  rw [if_neg (by decide), if_neg (by decide), file_some (by decide) kn1_lin (by decide) (by simp), kn1_take]
theorem kn2_parse : ∃ st, parseG kn2 = .ok st ∧ formG st = [70, 82, 79, 77, 32, 115, 99, 114, 97, 116, 99, 104, 10] := by
  obtain ⟨st, h1, h2, h3⟩ := kn2_take
  refine ⟨st, ?_, h3⟩
  unfold parseG
  rw [if_neg (by decide), if_neg (by decide), file_some (by decide) kn2_lin (by decide) (by simp), h1]
  simp only
  rw [file_end (by decide), if_neg h2]
theorem cell_blk {w : World} {a i : Nat} {v : Value} (h : w.cell? ⟨a, i, none⟩ = some v) : a < w.heap.size := by
  rcases Nat.lt_or_ge a w.heap.size with h' | h'
  · exact h'
  · have : w.heap[a]? = none := Array.getElem?_eq_none h'
    simp [World.cell?, this] at h
theorem cell_keep {w w' : World} {a i : Nat} {v : Value} (h : w.cell? ⟨a, i, none⟩ = some v) (hb : Below w.heap.size w w') : w'.cell? ⟨a, i, none⟩ = some v := (hb.cell (p := ⟨a, i, none⟩) (cell_blk h)).trans h
set_option maxHeartbeats 8000000 in
set_option maxRecDepth 10000 in
theorem law_any (s : ByteArray) (m : Int) (w : World) (hm : w.cell? ⟨1, 0, none⟩ = some (.int .i64 m)) (hg : w.cell? ⟨0, 0, none⟩ = some (.iface 147 (.agg #[.pointer (some ⟨22, 33, none⟩)]))) :
    Calls Tryz.prog 3 #[.string s] w fun e w' => e = .returned (.bool true) ∧ Below w.heap.size w w' := by
  have HM := hide hm
  have HG := hide hg
  have hK : ∀ (t : ByteArray) wx, Below w.heap.size w wx → Calls Tryz.prog 4 #[.string t] wx fun ev w' => TopOut ev (parseG t.data.toList) ∧ Below wx.heap.size wx w' := fun t wx hb => plain_parse_all t m wx (cell_keep (unhide HM) hb) (cell_keep (unhide HG) hb)
  have k1 : ∀ wx, Below w.heap.size w wx → Calls Tryz.prog 4 #[.string ⟨#[70, 82, 79, 77, 32, 115, 99, 114, 97, 116, 99, 104, 32, 35, 32, 120, 10]⟩] wx fun ev w' => ev = .returned (.tuple #[.string ⟨#[]⟩, .int .i64 5, .int .i64 13]) ∧ Below wx.heap.size wx w' := fun wx hb => by
    have := hK ⟨#[70, 82, 79, 77, 32, 115, 99, 114, 97, 116, 99, 104, 32, 35, 32, 120, 10]⟩ wx hb
    rw [show (⟨#[70, 82, 79, 77, 32, 115, 99, 114, 97, 116, 99, 104, 32, 35, 32, 120, 10]⟩ : ByteArray).data.toList = kn1 from rfl, kn1_parse] at this
    exact this
  have k2 : ∀ wx, Below w.heap.size w wx → Calls Tryz.prog 4 #[.string ⟨#[70, 82, 79, 77, 32, 32, 32, 115, 99, 114, 97, 116, 99, 104, 10]⟩] wx fun ev w' => (∃ u : ByteArray, ev = .returned (.tuple #[.string u, .int .i64 0, .int .i64 (-1)]) ∧ u.data.toList = [70, 82, 79, 77, 32, 115, 99, 114, 97, 116, 99, 104, 10]) ∧ Below wx.heap.size wx w' := fun wx hb => by
    have := hK ⟨#[70, 82, 79, 77, 32, 32, 32, 115, 99, 114, 97, 116, 99, 104, 10]⟩ wx hb
    obtain ⟨st, e1, e2⟩ := kn2_parse
    rw [show (⟨#[70, 82, 79, 77, 32, 32, 32, 115, 99, 114, 97, 116, 99, 104, 10]⟩ : ByteArray).data.toList = kn2 from rfl, e1] at this
    refine this.mono ?_
    rintro ev w' ⟨⟨u, h1, h2⟩, h3⟩
    exact ⟨⟨u, h1, by rw [h2, e2]⟩, h3⟩
  have k3 : ∀ wx, Below w.heap.size w wx → Calls Tryz.prog 4 #[.string s] wx fun ev w' => TopOut ev (parseG s.data.toList) ∧ Below wx.heap.size wx w' := fun wx hb => hK s wx hb
  have k5 : ∀ wx, Calls Tryz.prog 5 #[.string s] wx fun ev w' => ParD w' (wx.heap.size + 1) ev (parseG s.data.toList) ∧ Below wx.heap.size wx w' := fun wx => parse_doc s wx
  clear hK hm hg
  have hB0 : Below w.heap.size w w := Below.refl _ _
  cases hp : parseG s.data.toList with
  | error x =>
    obtain ⟨e, p⟩ := x
    rw [hp] at k3 k5
    unfold TopOut at k3
    unfold ParD at k5
    clear hp
    go_enter Tryz.func3, Tryz.ntmps3
    go_upto_region 9 with (first
      | (go_at_call 4; refine (k1 _ (by assumption)).mono ?_; clear k1; rintro ev w1 ⟨rfl, hb1⟩; have hB1 : Below w.heap.size w w1 := hB0.trans (hb1.mono hB0.size))
      | (go_at_call 4; refine (k2 _ (by assumption)).mono ?_; clear k2; rintro ev w2 ⟨⟨u2, rfl, hu2⟩, hb2⟩; have hB2 : Below w.heap.size w w2 := hB1.trans (hb2.mono hB1.size); have gu2 : (u2.toList == [70, 82, 79, 77, 32, 115, 99, 114, 97, 116, 99, 104, 10]) = true := (by rw [ByteArray.toList_eq, hu2]; rfl))
      | (go_at_call 4; refine (k3 _ (by assumption)).mono ?_; clear k3; rintro ev w3 ⟨rfl, hb3⟩; have hB3 : Below w.heap.size w w3 := hB2.trans (hb3.mono hB2.size))
      | (go_at_call 5; refine (k5 _).mono ?_; clear k5; rintro ev w5 ⟨⟨hne, rfl⟩, hb5⟩; have hB5 : Below w.heap.size w w5 := hB3.trans (hb5.mono hB3.size)))
    have ge : (((e : Nat) : Int) != 0) = true := by simp; omega
    obtain ⟨W6, hW6⟩ : ∃ W6, W6 = w5.alloc (.cells #[.int .i64 (e : Int), .int .i64 (p : Int)] 27) := ⟨_, rfl⟩
    have hB6 : Below w.heap.size w W6 := by rw [hW6]; exact hB5.alloc hB5.size _
    have t27 : W6.heap[w5.heap.size]? = some (.cells #[.int .i64 (e : Int), .int .i64 (p : Int)] 27 (0, 0)) := by rw [hW6]; exact heap_alloc_new _ _
    rw [← hW6]
    clear hW6
    have t0 : W6.cell? ⟨w5.heap.size, 0, none⟩ = some (.int .i64 (e : Int)) := cell_of_row _ _ 0 _ _ _ t27
    have t1 : W6.cell? ⟨w5.heap.size, 1, none⟩ = some (.int .i64 (p : Int)) := cell_of_row _ _ 1 _ _ _ t27
    clear t27
    go_wp2_with fail
    go_ret
    exact ⟨rfl, hB6⟩
  | ok st =>
    rw [hp] at k3 k5
    unfold TopOut at k3
    unfold ParD at k5
    clear hp
    go_enter Tryz.func3, Tryz.ntmps3
    go_upto_region 9 with (first
      | (go_at_call 4; refine (k1 _ (by assumption)).mono ?_; clear k1; rintro ev w1 ⟨rfl, hb1⟩; have hB1 : Below w.heap.size w w1 := hB0.trans (hb1.mono hB0.size))
      | (go_at_call 4; refine (k2 _ (by assumption)).mono ?_; clear k2; rintro ev w2 ⟨⟨u2, rfl, hu2⟩, hb2⟩; have hB2 : Below w.heap.size w w2 := hB1.trans (hb2.mono hB1.size); have gu2 : (u2.toList == [70, 82, 79, 77, 32, 115, 99, 114, 97, 116, 99, 104, 10]) = true := (by rw [ByteArray.toList_eq, hu2]; rfl))
      | (go_at_call 4; refine (k3 _ (by assumption)).mono ?_; clear k3; rintro ev w3 ⟨⟨u3, rfl, hu3⟩, hb3⟩; have hB3 : Below w.heap.size w w3 := hB2.trans (hb3.mono hB2.size))
      | (go_at_call 5; refine (k5 _).mono ?_; clear k5; rintro ev w5 ⟨⟨v5, ss, rfl, hsd, hrel, hl5, hst⟩, hb5⟩; have hB5 : Below w.heap.size w w5 := hB3.trans (hb5.mono hB3.size)))
    obtain ⟨a5, n5, c5, hv5⟩ := row_form hsd.row
    subst hv5
    obtain ⟨W6, hW6⟩ : ∃ W6, W6 = w5.alloc (.cells #[.int .i64 0, .int .i64 (-1)] 27) := ⟨_, rfl⟩
    have hb6 : Below w5.heap.size w5 W6 := by rw [hW6]; exact (Below.refl _ _).alloc (Nat.le_refl _) _
    have hB6 : Below w.heap.size w W6 := hB5.trans (hb6.mono hB5.size)
    have t27 : W6.heap[w5.heap.size]? = some (.cells #[.int .i64 0, .int .i64 (-1)] 27 (0, 0)) := by rw [hW6]; exact heap_alloc_new _ _
    rw [← hW6]
    clear hW6
    have t0 : W6.cell? ⟨w5.heap.size, 0, none⟩ = some (.int .i64 0) := cell_of_row _ _ 0 _ _ _ t27
    clear t27
    have hTx := text_doc (.slice a5 n5 c5) ss (w3.heap.size + 1) W6 (hsd.below hb6) (hrel.tok hl5 hst)
    rw [text_eq hrel] at hTx
    have HU : Hid (u3 = bt (formG st)) := hide (by rw [← hu3, bt_of])
    have gu3 : (u3.toList == (bt (formG st)).toList) = true := by rw [ByteArray.toList_eq, ByteArray.toList_eq, bt_list, hu3]; simp
    clear hsd hrel hl5 hst hu3
    go_wp2_with (first
      | (go_at_call 6; refine hTx.mono ?_; clear hTx; rintro ev w7 ⟨rfl, hb7⟩; have hB7 : Below w.heap.size w w7 := hB6.trans (hb7.mono hB6.size)))
    go_ret
    exact ⟨rfl, hB7⟩
end Go.Proofs.YtjhkeaijcdpaaaaGreatDoor
