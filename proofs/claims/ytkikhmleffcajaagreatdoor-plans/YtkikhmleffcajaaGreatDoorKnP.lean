import Derived.Test.YtkikhmleffcajaaGreatDoorJPnA
namespace Go.Proofs.YtkikhmleffcajaaGreatDoor
open Go.RowKit Go.Maps

abbrev kn : List UInt8 := [70, 82, 79, 77, 32, 115, 99, 114, 97, 116, 99, 104, 32, 65, 83, 32, 97, 10, 70, 82, 79, 77, 32, 115, 99, 114, 97, 116, 99, 104, 10]
theorem wrd_step {l : List UInt8} {k : Nat} {acc : List Atm} {c : UInt8} (h : l[k]? = some c) (he : endG l k = false) (h34 : ¬ c = 34) (h36 : ¬ c = 36) (h92 : ¬ c = 92) : wrdG l acc k = wrdG l (acc ++ [.inl c]) (k + 1) := by
  rw [wrd_some h he, if_neg h34, if_neg h36, if_neg h92]
theorem lin_sp {l : List UInt8} {k : Nat} {ws : List Wd} (h : l[k]? = some 32) (hg : goesG l k = false) : linG l ws k = linG l ws (k + 1) := by
  rw [lin_some h, if_neg (by decide), if_neg (by rw [hg]; decide), if_pos rfl]
theorem lin_wd {l : List UInt8} {k t : Nat} {ws : List Wd} {c : UInt8} {a : List Atm} (h : l[k]? = some c) (h10 : ¬ c = 10) (h32 : ¬ c = 32) (hg : goesG l k = false) (h35 : c = 35 → ws ≠ []) (hw : wrdG l [] k = .ok (a, t)) (ht : k < t) : linG l ws k = linG l (ws ++ [⟨a, k⟩]) t := by
  rw [lin_some h, if_neg h10, if_neg (by rw [hg]; decide), if_neg h32, if_neg (fun e => h35 e.1 e.2), hw]
  simp only
  rw [if_pos ht]
theorem kn_w0 : wrdG kn [] 0 = .ok ([.inl 70, .inl 82, .inl 79, .inl 77], 4) := by
  rw [wrd_step (c := 70) (k := 0) (by decide) (by decide) (by decide) (by decide) (by decide), wrd_step (c := 82) (k := 1) (by decide) (by decide) (by decide) (by decide) (by decide), wrd_step (c := 79) (k := 2) (by decide) (by decide) (by decide) (by decide) (by decide), wrd_step (c := 77) (k := 3) (by decide) (by decide) (by decide) (by decide) (by decide), wrd_end (by decide)]
  rfl
theorem kn_w5 : wrdG kn [] 5 = .ok ([.inl 115, .inl 99, .inl 114, .inl 97, .inl 116, .inl 99, .inl 104], 12) := by
  rw [wrd_step (c := 115) (k := 5) (by decide) (by decide) (by decide) (by decide) (by decide), wrd_step (c := 99) (k := 6) (by decide) (by decide) (by decide) (by decide) (by decide), wrd_step (c := 114) (k := 7) (by decide) (by decide) (by decide) (by decide) (by decide), wrd_step (c := 97) (k := 8) (by decide) (by decide) (by decide) (by decide) (by decide), wrd_step (c := 116) (k := 9) (by decide) (by decide) (by decide) (by decide) (by decide), wrd_step (c := 99) (k := 10) (by decide) (by decide) (by decide) (by decide) (by decide), wrd_step (c := 104) (k := 11) (by decide) (by decide) (by decide) (by decide) (by decide), wrd_end (by decide)]
  rfl
theorem kn_w13 : wrdG kn [] 13 = .ok ([.inl 65, .inl 83], 15) := by
  rw [wrd_step (c := 65) (k := 13) (by decide) (by decide) (by decide) (by decide) (by decide), wrd_step (c := 83) (k := 14) (by decide) (by decide) (by decide) (by decide) (by decide), wrd_end (by decide)]
  rfl
theorem kn_w16 : wrdG kn [] 16 = .ok ([.inl 97], 17) := by
  rw [wrd_step (c := 97) (k := 16) (by decide) (by decide) (by decide) (by decide) (by decide), wrd_end (by decide)]
  rfl
theorem kn_w18 : wrdG kn [] 18 = .ok ([.inl 70, .inl 82, .inl 79, .inl 77], 22) := by
  rw [wrd_step (c := 70) (k := 18) (by decide) (by decide) (by decide) (by decide) (by decide), wrd_step (c := 82) (k := 19) (by decide) (by decide) (by decide) (by decide) (by decide), wrd_step (c := 79) (k := 20) (by decide) (by decide) (by decide) (by decide) (by decide), wrd_step (c := 77) (k := 21) (by decide) (by decide) (by decide) (by decide) (by decide), wrd_end (by decide)]
  rfl
theorem kn_w23 : wrdG kn [] 23 = .ok ([.inl 115, .inl 99, .inl 114, .inl 97, .inl 116, .inl 99, .inl 104], 30) := by
  rw [wrd_step (c := 115) (k := 23) (by decide) (by decide) (by decide) (by decide) (by decide), wrd_step (c := 99) (k := 24) (by decide) (by decide) (by decide) (by decide) (by decide), wrd_step (c := 114) (k := 25) (by decide) (by decide) (by decide) (by decide) (by decide), wrd_step (c := 97) (k := 26) (by decide) (by decide) (by decide) (by decide) (by decide), wrd_step (c := 116) (k := 27) (by decide) (by decide) (by decide) (by decide) (by decide), wrd_step (c := 99) (k := 28) (by decide) (by decide) (by decide) (by decide) (by decide), wrd_step (c := 104) (k := 29) (by decide) (by decide) (by decide) (by decide) (by decide), wrd_end (by decide)]
  rfl
theorem kn_l0 : linG kn [] 0 = .ok ([⟨[.inl 70, .inl 82, .inl 79, .inl 77], 0⟩, ⟨[.inl 115, .inl 99, .inl 114, .inl 97, .inl 116, .inl 99, .inl 104], 5⟩, ⟨[.inl 65, .inl 83], 13⟩, ⟨[.inl 97], 16⟩], 18) := by
  rw [lin_wd (k := 0) (c := 70) (by decide) (by decide) (by decide) (by decide) (by decide) kn_w0 (by decide), lin_sp (k := 4) (by decide) (by decide), lin_wd (k := 5) (c := 115) (by decide) (by decide) (by decide) (by decide) (by decide) kn_w5 (by decide), lin_sp (k := 12) (by decide) (by decide), lin_wd (k := 13) (c := 65) (by decide) (by decide) (by decide) (by decide) (by decide) kn_w13 (by decide), lin_sp (k := 15) (by decide) (by decide), lin_wd (k := 16) (c := 97) (by decide) (by decide) (by decide) (by decide) (by decide) kn_w16 (by decide), lin_nl (k := 17) (by decide)]
  rfl
theorem kn_l18 : linG kn [] 18 = .ok ([⟨[.inl 70, .inl 82, .inl 79, .inl 77], 18⟩, ⟨[.inl 115, .inl 99, .inl 114, .inl 97, .inl 116, .inl 99, .inl 104], 23⟩], 31) := by
  rw [lin_wd (k := 18) (c := 70) (by decide) (by decide) (by decide) (by decide) (by decide) kn_w18 (by decide), lin_sp (k := 22) (by decide) (by decide), lin_wd (k := 23) (c := 115) (by decide) (by decide) (by decide) (by decide) (by decide) kn_w23 (by decide), lin_nl (k := 30) (by decide)]
  rfl
abbrev kst : List Stg := [⟨[97], [⟨[⟨[.inl 70, .inl 82, .inl 79, .inl 77], 0⟩, ⟨[.inl 115, .inl 99, .inl 114, .inl 97, .inl 116, .inl 99, .inl 104], 5⟩, ⟨[.inl 65, .inl 83], 13⟩, ⟨[.inl 97], 16⟩], -1⟩]⟩, ⟨[], [⟨[⟨[.inl 70, .inl 82, .inl 79, .inl 77], 18⟩, ⟨[.inl 115, .inl 99, .inl 114, .inl 97, .inl 116, .inl 99, .inl 104], 23⟩], -1⟩]⟩]
theorem kn_t0 : takeG [] [⟨[.inl 70, .inl 82, .inl 79, .inl 77], 0⟩, ⟨[.inl 115, .inl 99, .inl 114, .inl 97, .inl 116, .inl 99, .inl 104], 5⟩, ⟨[.inl 65, .inl 83], 13⟩, ⟨[.inl 97], 16⟩] = .ok [⟨[97], [⟨[⟨[.inl 70, .inl 82, .inl 79, .inl 77], 0⟩, ⟨[.inl 115, .inl 99, .inl 114, .inl 97, .inl 116, .inl 99, .inl 104], 5⟩, ⟨[.inl 65, .inl 83], 13⟩, ⟨[.inl 97], 16⟩], -1⟩]⟩] := by kernel_rfl
theorem kn_t1 : takeG [⟨[97], [⟨[⟨[.inl 70, .inl 82, .inl 79, .inl 77], 0⟩, ⟨[.inl 115, .inl 99, .inl 114, .inl 97, .inl 116, .inl 99, .inl 104], 5⟩, ⟨[.inl 65, .inl 83], 13⟩, ⟨[.inl 97], 16⟩], -1⟩]⟩] [⟨[.inl 70, .inl 82, .inl 79, .inl 77], 18⟩, ⟨[.inl 115, .inl 99, .inl 114, .inl 97, .inl 116, .inl 99, .inl 104], 23⟩] = .ok kst := by kernel_rfl
theorem kn_parse : parseG kn = .ok kst := by
  unfold parseG
  rw [if_neg (by decide), if_neg (by decide), file_some (by decide) kn_l0 (by decide) (by simp), kn_t0]
  simp only
  rw [file_some (by decide) kn_l18 (by decide) (by simp), kn_t1]
  simp only
  rw [file_end (by decide), if_neg (by simp)]
theorem kn_marks : Marks kst [false, true] := by
  refine Marks.of rfl (fun k hk => ?_) rfl (fun i k hi hw => ?_)
  · match k, hk with
    | 0, hk => cases hk
    | 1, _ => exact .last
    | k + 2, hk => simp at hk
  · obtain ⟨s, x, hs, hx, he⟩ := want_some hw
    match i, hs with
    | 0, hs =>
      injection hs with hs; subst hs
      rw [List.mem_singleton] at hx; subst hx
      simp only at he; omega
    | 1, hs =>
      injection hs with hs; subst hs
      rw [List.mem_singleton] at hx; subst hx
      simp only at he; omega
    | i + 2, hs => simp at hs
theorem kn_one {bs : List Bool} (h : Marks kst bs) : idxB bs kst.length = [1] := by
  rw [Marks.one h kn_marks]; rfl
end Go.Proofs.YtkikhmleffcajaaGreatDoor
