import Derived.Test.YtpiponkhhimaoaaGreatDoorRstE
namespace Go.Proofs.YtpiponkhhimaoaaGreatDoor
open Go.RowKit Go.Maps

/-- The name of the file that is written first, as the document makes it. -/
def asideR (s : ByteArray) : ByteArray := ⟨#[116]⟩ ++ s.extract 1 s.size
def keepR (L : List Blb) (s d : ByteArray) : List Blb := putB (delB (putB L ⟨asideR s, d⟩) (asideR s).data.toList) ⟨s, d⟩
def keepB (s d : ByteArray) : List Ac := [⟨1, asideR s, nul, d⟩, ⟨2, asideR s, nul, nul⟩, ⟨3, asideR s, s, nul⟩, ⟨4, nul, nul, nul⟩]
/-- What 'keep' does. -/
def KeepIs (w : World) (yb : Nat) (vf va vs : Value) (L' : List Blb) (q : Int) (A' : List Ac) (N : List Blb) (c : Bool) (w' : World) : Prop := ∃ vf' va', RSt w' yb vf' va' vs L' q A' N c ∧ RGoes w yb vf va vs w' vf' va' vs
theorem szL_yes {L : List Blb} {k : Nat} {e : Blb} {x : List UInt8} (he : L[k]? = some e) (h : e.nm ≠ x) : szL (delB (L.take (k + 1)) x) = szL (delB (L.take k) x) + e.data.size := by
  rw [del_yes he h, szL_append]; simp [szL]
theorem szL_le_del (L : List Blb) (x : List UInt8) (k : Nat) : szL (delB (L.take k) x) ≤ szL L := by
  have h1 : ∀ M : List Blb, szL (delB M x) ≤ szL M := fun M => by
    induction M with
    | nil => exact Nat.le_refl _
    | cons b r ih =>
      rw [szL_cons]
      by_cases h : b.nm = x
      · rw [delB, List.filter_cons_of_neg (by simp [h])]; rw [delB] at ih; omega
      · rw [delB, List.filter_cons_of_pos (by simp [h]), szL_cons]; rw [delB] at ih; omega
  have h2 : szL (L.take k) ≤ szL L := by
    have e : szL L = szL (L.take k) + szL (L.drop k) := by rw [← szL_append, List.take_append_drop]
    omega
  exact Nat.le_trans (h1 _) h2
set_option maxHeartbeats 2000000 in
set_option maxRecDepth 100000 in
theorem keep_any (yb : Nat) (vf va vs : Value) (L : List Blb) (q : Int) (A : List Ac) (N : List Blb) (c : Bool) (s d : ByteArray) (w : World) (h : RSt w yb vf va vs L q A N c) (hR : Rise L) (hA : A.length ≤ 1099511627) (hL : L.length ≤ 109951162) (h1 : 1 ≤ s.size) (hs : s.size ≤ 1048576) (hd : d.size ≤ 1073741824) (hz : szL L ≤ 1099511627776) :
    Calls Tryz.prog 36 #[.pointer (some ⟨yb, 0, none⟩), .string s, .string d] w fun ev w' =>
      ((szL (delB L s.data.toList) + d.size : Nat) > q ∧ ev = .returned (.bool false) ∧ w' = w) ∨
      ((szL (delB L s.data.toList) + d.size : Nat) ≤ q ∧ ev = .returned (.bool true) ∧ KeepIs w yb vf va vs (keepR L s d) q (A ++ keepB s d) N c w') := by
  have c0 : w.cell? ⟨yb, 0, none⟩ = some vf := cell_of_row _ _ 0 _ _ _ h.cells
  have c1 : w.cell? ⟨yb, 1, none⟩ = some (.int .i64 q) := cell_of_row _ _ 1 _ _ _ h.cells
  obtain ⟨ao, cap, n, rfl, hn, hr, hcap⟩ := ownB_row h.files
  have HP := hide h
  have HR := hide hR
  have HN := hide hn
  have hn' : n ≤ 109951162 := by omega
  have i2 : (1 : Int) ≤ (s.size : Int) := by omega
  obtain ⟨Z, hZ⟩ : ∃ Z, Z = szL (delB L s.data.toList) := ⟨_, rfl⟩
  have HZ := hide hZ
  have hZl : Z ≤ szL L := by have := szL_le_del L s.data.toList L.length; rw [List.take_length] at this; omega
  rw [← hZ]
  clear h hR hn hZ
  go_enter Tryz.func36, Tryz.ntmps36
  go_wp2
  go_loop [7, 8] (fun m i => ∃ (k z : Nat), k ≤ n ∧ i = .int .i64 k ∧ m = .int .i64 ((d.size + z : Nat) : Int) ∧ z ≤ szL L ∧ Hid (z = szL (delB (L.take k) s.data.toList))) (fun _ i => n - (intOf i).toNat)
  case atStart => exact ⟨0, 0, by omega, rfl, rfl, by omega, hide (by simp [delB, szL])⟩
  case round =>
    obtain ⟨k, z, hk, rfl, rfl, hzl, HK⟩ := hrel
    by_cases hlt : k < n
    · obtain ⟨e, he⟩ : ∃ e, L[k]? = some e := ⟨L[k]'(by have := unhide HN; omega), List.getElem?_eq_getElem (by have := unhide HN; omega)⟩
      obtain ⟨g, o, rfl, d0, d1⟩ := hr k e he
      have i3 : (0 : Int) ≤ (k : Int) := by omega
      have i4 : (k : Int) < (n : Int) := by omega
      have HE := hide he
      clear he
      by_cases hq : e.nm = s.data.toList
      · have g1 : (e.name.toList == s.toList) = true := by rw [Lib.toList_data, Lib.toList_data, ← hq]; simp [Blb.nm]
        have HQ : Hid (szL (delB (L.take (k + 1)) s.data.toList) = z) := hide (by rw [del_not (unhide HE) hq, unhide HK])
        clear hq
        go_wp2_with fail
        go_round
        case rel =>
          first
            | exact ⟨k + 1, z, by omega, by go_num, rfl, hzl, hide (unhide HQ).symm⟩
            | ((repeat apply Exists.intro); exact ⟨⟨k + 1, z, by omega, by go_num, rfl, hzl, hide (unhide HQ).symm⟩, rfl⟩)
        case measure => simp [intOf]; omega
      · have g1 : (e.name.toList == s.toList) = false := by rw [Lib.toList_data, Lib.toList_data]; simpa [Blb.nm] using hq
        have HQ : Hid (szL (delB (L.take (k + 1)) s.data.toList) = z + e.data.size) := hide (by rw [szL_yes (unhide HE) hq, unhide HK])
        have hzl2 : z + e.data.size ≤ szL L := by rw [← unhide HQ]; exact szL_le_del _ _ _
        clear hq
        go_wp2_with fail
        go_round
        case rel =>
          first
            | exact ⟨k + 1, z + e.data.size, by omega, by go_num, by go_num, hzl2, hide (unhide HQ).symm⟩
            | ((repeat apply Exists.intro); exact ⟨⟨k + 1, z + e.data.size, by omega, by go_num, by go_num, hzl2, hide (unhide HQ).symm⟩, rfl⟩)
        case measure => simp [intOf]; omega
    · have hzZ : z = Z := by rw [unhide HZ, unhide HK, List.take_of_length_le (by have := unhide HN; omega)]
      subst hzZ
      clear HK hzl
      by_cases hgt : q < ((d.size + z : Nat) : Int)
      · go_wp2_with fail
        go_ret
        exact .inl ⟨by omega, rfl, rfl⟩
      · have hr := unhide HR
        have hpl : ∀ b : Blb, (putB L b).length ≤ 109951163 := fun b => by rw [put_len L hr]; have := del_len L b.nm; omega
        have hA4 : ∀ l : List Ac, l.length ≤ 4 → (A ++ l).length ≤ 1099511627776 := fun l hl => by rw [List.length_append]; omega
        have HX := hide hr
        clear hr
        go_upto_region 11 with (go_at_call 32; refine (do_any yb _ va vs L _ q A N c ⟨1, asideR s, nul, d⟩ _ (unhide HP) (by omega) (done_write (unhide HP).files (unhide HX) (by omega) (asideR s) d)).mono ?_; rintro ev w1 ⟨rfl, vf1, va1, hP1, hG1⟩)
        go_upto_region 12 with (go_at_call 32; refine (do_any yb vf1 va1 vs _ _ q _ N c ⟨2, asideR s, nul, nul⟩ _ hP1 (hA4 [_] (by simp)) (done_sync hP1.files (asideR s))).mono ?_; rintro ev w2 ⟨rfl, vf2, va2, hP2, hG2⟩)
        go_upto_region 13 with (go_at_call 32; refine (do_any yb vf2 va2 vs _ _ q _ N c ⟨3, asideR s, s, nul⟩ _ hP2 (by have := hA4 [⟨1, asideR s, nul, d⟩, ⟨2, asideR s, nul, nul⟩] (by simp); simpa using this) (done_rename hP2.files (rise_put (unhide HX) _) (by have := hpl ⟨asideR s, d⟩; omega) (asideR s) s ⟨asideR s, d⟩ (get_put (unhide HX) ⟨asideR s, d⟩))).mono ?_; rintro ev w3 ⟨rfl, vf3, va3, hP3, hG3⟩)
        go_wp2_with (go_at_call 32; refine (do_any yb vf3 va3 vs _ _ q _ N c ⟨4, nul, nul, nul⟩ _ hP3 (by have := hA4 [⟨1, asideR s, nul, d⟩, ⟨2, asideR s, nul, nul⟩, ⟨3, asideR s, s, nul⟩] (by simp); simpa using this) (done_dir hP3.files)).mono ?_; rintro ev w4 ⟨rfl, vf4, va4, hP4, hG4⟩)
        go_ret
        refine .inr ⟨by omega, rfl, vf4, va4, ?_, hG1.trans (hG2.trans (hG3.trans hG4))⟩
        have e : A ++ keepB s d = (((A ++ [⟨1, asideR s, nul, d⟩]) ++ [⟨2, asideR s, nul, nul⟩]) ++ [⟨3, asideR s, s, nul⟩]) ++ [⟨4, nul, nul, nul⟩] := by simp [keepB]
        rw [e]
        exact hP4
end Go.Proofs.YtpiponkhhimaoaaGreatDoor
