import Derived.Test.YtpiponkhhimaoaaGreatDoorStoA
namespace Go.Proofs.YtpiponkhhimaoaaGreatDoor
open Go.RowKit Go.Maps

/-- No text. -/
abbrev emp : ByteArray := ⟨#[]⟩
theorem sync_act (sb mb : Nat) (v : Value) (L : List Blb) (q : Int) (A : List Ac) (s : ByteArray) (w : World) (h : PSt w sb mb v L q A) (hA : A.length ≤ 1099511627776) :
    Calls Tryz.prog 157 #[.pointer (some ⟨sb, 0, none⟩), .string s] w fun ev w' => ev = .returned (.tuple #[]) ∧ ∃ v', PSt w' sb mb v' L q (A ++ [⟨2, s, emp, emp⟩]) ∧ Goes w sb mb v w' v' := by
  have HT := tell_act sb mb v L q A ⟨2, s, emp, emp⟩ w h hA
  clear h
  go_enter Tryz.func157, Tryz.ntmps157
  go_wp2_with (go_at_call 147; refine HT.mono ?_; clear HT; rintro ev w1 ⟨rfl, v', hP, hG⟩)
  go_end0
  exact ⟨rfl, v', hP, hG⟩
theorem names_act (sb mb : Nat) (v : Value) (L : List Blb) (q : Int) (A : List Ac) (w : World) (h : PSt w sb mb v L q A) (hA : A.length ≤ 1099511627776) :
    Calls Tryz.prog 159 #[.pointer (some ⟨sb, 0, none⟩)] w fun ev w' => ev = .returned (.tuple #[]) ∧ ∃ v', PSt w' sb mb v' L q (A ++ [⟨4, emp, emp, emp⟩]) ∧ Goes w sb mb v w' v' := by
  have HT := tell_act sb mb v L q A ⟨4, emp, emp, emp⟩ w h hA
  clear h
  go_enter Tryz.func159, Tryz.ntmps159
  go_wp2_with (go_at_call 147; refine HT.mono ?_; clear HT; rintro ev w1 ⟨rfl, v', hP, hG⟩)
  go_end0
  exact ⟨rfl, v', hP, hG⟩
/-- The map of a store has turned. -/
theorem PSt.map_turn {w w1 : World} {sb mb : Nat} {v : Value} {L L' : List Blb} {q : Int} {A : List Ac} (h : PSt w sb mb v L q A) (hg : w.grownBy w1 (some mb)) (hm : FM w1 mb L'.length L') : PSt w1 sb mb v L' q A ∧ Goes w sb mb v w1 v := by
  refine ⟨⟨(hg.block sb (h.lt sb (.inl rfl)) (fun e => h.sb_mb (Option.some.inj e))).trans h.cells, hm, row_turn h.row fun k hk => hg.block k (h.lt k (.inr (.inr hk))) (fun e => h.mb_row (hk.trans e))⟩, Turn.of_grown hg (fun k e => by cases e; exact .inr (.inl rfl)), fun _ => .inl⟩
theorem put_fit {w : World} {b n : Nat} {L : List Blb} {x : Blb} (hr : Rise L) (h : w.ownsMap Tryz.prog 9 RB b n ((DB L).put (.string x.nm) (itB x))) : FM w b (putB L x).length (putB L x) := by
  rw [DB_put hr] at h
  exact FM.fit h (Nat.le_refl _)
theorem del_fit {w : World} {b n : Nat} {L : List Blb} {x : List UInt8} (h : w.ownsMap Tryz.prog 9 RB b n ((DB L).del (.string x))) : FM w b (delB L x).length (delB L x) := by
  rw [DB_del] at h
  exact FM.fit h (Nat.le_refl _)
set_option maxRecDepth 100000 in
theorem write_act (sb mb : Nat) (v : Value) (L : List Blb) (q : Int) (A : List Ac) (s d : ByteArray) (w : World) (h : PSt w sb mb v L q A) (hA : A.length ≤ 1099511627776) (hL : L.length ≤ 1099511627776) (hs : s.size ≤ 1073741824) :
    Calls Tryz.prog 156 #[.pointer (some ⟨sb, 0, none⟩), .string s, .string d] w fun ev w' => ev = .returned (.tuple #[]) ∧ ∃ v', PSt w' sb mb v' (putB L ⟨s, d⟩) q (A ++ [⟨1, s, emp, d⟩]) ∧ Goes w sb mb v w' v' := by
  have c0 : w.cell? ⟨sb, 0, none⟩ = some (.map (some mb)) := cell_of_row _ _ 0 _ _ _ h.cells
  have HP := hide h
  have hm := h.map
  clear h
  go_enter Tryz.func156, Tryz.ntmps156
  go_wp2_with (first
    | (at_mapUpdate; refine wpList_mapUpdate_own _ rfl _ _ _ 127 rfl 9 68 (Maps.string_keyed Tryz.underlying9) Tryz.underlying127 RB mb L.length (DB L) rfl hm (by unfold maxLen; omega) (.string s) (Blb.val ⟨s, d⟩) (.string s.data.toList) rfl rfl (WideMaps.keyOf_string_mk Tryz.underlying9 (s := s) (by unfold maxLen; omega)) (itB ⟨s, d⟩) [] (RB_val ⟨s, d⟩) ?_; intro w1 hown1 hgrow1; obtain ⟨hP1, hG1⟩ := (unhide HP).map_turn hgrow1 (put_fit (x := ⟨s, d⟩) (unhide HP).map.rise hown1))
    | (go_at_call 147; refine (tell_act sb mb v _ q A ⟨1, s, emp, d⟩ _ hP1 hA).mono ?_; rintro ev w2 ⟨rfl, v', hP2, hG2⟩))
  go_end0
  exact ⟨rfl, v', hP2, hG1.trans hG2⟩
set_option maxRecDepth 100000 in
theorem remove_act (sb mb : Nat) (v : Value) (L : List Blb) (q : Int) (A : List Ac) (s : ByteArray) (w : World) (h : PSt w sb mb v L q A) (hA : A.length ≤ 1099511627776) (hs : s.size ≤ 1073741824) :
    Calls Tryz.prog 94 #[.pointer (some ⟨sb, 0, none⟩), .string s] w fun ev w' => ev = .returned (.tuple #[]) ∧ ∃ v', PSt w' sb mb v' (delB L s.data.toList) q (A ++ [⟨5, s, emp, emp⟩]) ∧ Goes w sb mb v w' v' := by
  have c0 : w.cell? ⟨sb, 0, none⟩ = some (.map (some mb)) := cell_of_row _ _ 0 _ _ _ h.cells
  have HP := hide h
  have hm := h.map
  clear h
  go_enter Tryz.func94, Tryz.ntmps94
  go_wp2_with (first
    | (at_delete; refine wpList_delete_own _ rfl _ _ 127 9 rfl 68 (Maps.string_keyed Tryz.underlying9) Tryz.underlying127 RB mb L.length (DB L) rfl hm (.string s) (.string s.data.toList) rfl (WideMaps.keyOf_string_mk Tryz.underlying9 (s := s) (by unfold maxLen; omega)) ?_; intro w1 hown1 hturn1; obtain ⟨hP1, hG1⟩ := (unhide HP).map_turn hturn1.grown (del_fit hown1))
    | (go_at_call 147; refine (tell_act sb mb v _ q A ⟨5, s, emp, emp⟩ _ hP1 hA).mono ?_; rintro ev w2 ⟨rfl, v', hP2, hG2⟩))
  go_end0
  exact ⟨rfl, v', hP2, hG1.trans hG2⟩
set_option maxRecDepth 100000 in
theorem has_act (sb mb : Nat) (v : Value) (L : List Blb) (q : Int) (A : List Ac) (s : ByteArray) (w : World) (h : PSt w sb mb v L q A) (hs : s.size ≤ 1073741824) :
    Calls Tryz.prog 91 #[.pointer (some ⟨sb, 0, none⟩), .string s] w fun ev w' => ev = .returned (.bool (getB L s.data.toList).isSome) ∧ Below w.heap.size w w' := by
  have c0 : w.cell? ⟨sb, 0, none⟩ = some (.map (some mb)) := cell_of_row _ _ 0 _ _ _ h.cells
  have hk := h.map.look s hs true
  simp only [if_true] at hk
  have hv : ∃ b : Blb, lookV L s.data.toList = (b.val, (getB L s.data.toList).isSome) := by
    unfold lookV
    cases getB L s.data.toList with
    | none => exact ⟨_, rfl⟩
    | some b => exact ⟨b, rfl⟩
  obtain ⟨b, hb⟩ := hv
  rw [hb] at hk
  simp only [Blb.val] at hk
  clear h hb
  go_enter Tryz.func91, Tryz.ntmps91
  go_wp2_with fail
  go_ret
  exact ⟨rfl, by exact ((Below.refl _ w).alloc (Nat.le_refl _) _)⟩
end Go.Proofs.YtpiponkhhimaoaaGreatDoor

namespace Go.Proofs.YtpiponkhhimaoaaGreatDoor
open Go.RowKit Go.Maps

theorem fld1 (a b : ByteArray) (w : World) : (Instr.field 68 (.agg #[.string a, .string b]) 1).run Tryz.prog w = .ok (.string b) w := by kernel_rfl
theorem PSt.drew {w : World} {sb mb : Nat} {v : Value} {L : List Blb} {q : Int} {A : List Ac} (h : PSt w sb mb v L q A) : PSt w.drew sb mb v L q A := ⟨h.cells, h.map, h.row⟩
theorem Goes.drew {w w' : World} {sb mb : Nat} {v v' : Value} (h : Goes w.drew sb mb v w' v') : Goes w sb mb v w' v' := ⟨⟨h.turn.os, h.turn.tape, h.turn.output, h.turn.size, h.turn.block⟩, h.own⟩
set_option maxHeartbeats 1000000 in
set_option maxRecDepth 100000 in
theorem rename_act (sb mb : Nat) (v : Value) (L : List Blb) (q : Int) (A : List Ac) (s t : ByteArray) (b : Blb) (w : World) (h : PSt w sb mb v L q A) (hA : A.length ≤ 1099511627776) (hL : L.length ≤ 1099511627776) (hs : s.size ≤ 1073741824) (ht : t.size ≤ 1073741824) (hb : getB L s.data.toList = some b) :
    Calls Tryz.prog 158 #[.pointer (some ⟨sb, 0, none⟩), .string s, .string t] w fun ev w' => ev = .returned (.tuple #[]) ∧ ∃ v', PSt w' sb mb v' (delB (putB L ⟨t, b.data⟩) s.data.toList) q (A ++ [⟨3, s, t, emp⟩]) ∧ Goes w sb mb v w' v' := by
  have c0 : w.cell? ⟨sb, 0, none⟩ = some (.map (some mb)) := cell_of_row _ _ 0 _ _ _ h.cells
  have HP := hide h
  have hk := h.drew.map.look s hs false
  rw [lookV, hb] at hk
  simp only [Blb.val] at hk
  rw [if_neg (by decide)] at hk
  obtain ⟨w1, hrun1, hown1, hg1⟩ := World.ownsMap.update h.drew.map (Maps.string_keyed Tryz.underlying9) Tryz.underlying127 (by unfold maxLen; omega) (WideMaps.keyOf_string_mk Tryz.underlying9 (s := t) (by unfold maxLen; omega)) (RB_val ⟨t, b.data⟩)
  obtain ⟨hP1, hG1⟩ := h.drew.map_turn hg1 (put_fit (x := ⟨t, b.data⟩) h.map.rise hown1)
  have hm1 := hP1.map
  have c1 : w1.cell? ⟨sb, 0, none⟩ = some (.map (some mb)) := cell_of_row _ _ 0 _ _ _ hP1.cells
  simp only [Blb.val] at hrun1
  have hl1 : (putB L ⟨t, b.data⟩).length ≤ 1099511627777 := by rw [put_len L h.map.rise]; have := del_len L (Blb.nm ⟨t, b.data⟩); omega
  have HP1 := hide hP1
  have hf := fld1 b.name b.data w.drew
  clear h hown1 hg1 hP1
  go_enter Tryz.func158, Tryz.ntmps158
  go_upto_region 0 with fail
  go_region
  all_goals
    go_wp2_with (first
      | (at_delete; refine wpList_delete_own _ rfl _ _ 127 9 rfl 68 (Maps.string_keyed Tryz.underlying9) Tryz.underlying127 RB mb _ _ rfl hm1 (.string s) (.string s.data.toList) rfl (WideMaps.keyOf_string_mk Tryz.underlying9 (s := s) (by unfold maxLen; omega)) ?_; intro w2 hown2 hturn2; obtain ⟨hP2, hG2⟩ := (unhide HP1).map_turn hturn2.grown (del_fit hown2))
      | (go_at_call 147; refine (tell_act sb mb v _ q A ⟨3, s, t, emp⟩ _ hP2 hA).mono ?_; rintro ev w3 ⟨rfl, v', hP3, hG3⟩))
    go_end0
    exact ⟨rfl, v', hP3, hG1.drew.trans (hG2.trans hG3)⟩
end Go.Proofs.YtpiponkhhimaoaaGreatDoor
