import Derived.Test.YtpiponkhhimaoaaGreatDoorRstG
namespace Go.Proofs.YtpiponkhhimaoaaGreatDoor
open Go.RowKit Go.Maps

theorem blob_get (L : List Blb) (s : ByteArray) : (blobV L s).2 = (getV L s).2 := by
  unfold blobV getV
  cases getB L (blobN s).data.toList with
  | none => rfl
  | some b => by_cases h : sha b.data.data.toList = s.data.toList <;> simp [h]
theorem blob_data (L : List Blb) (s : ByteArray) (h : (getV L s).2 = true) : (blobV L s).1 = (getV L s).1 := by
  unfold getV at h
  unfold blobV getV
  cases hg : getB L (blobN s).data.toList with
  | none => simp [hg] at h
  | some b =>
    rw [hg] at h
    simp only at h ⊢
    by_cases hq : sha b.data.data.toList = s.data.toList
    · simp [hq]
    · simp [hq] at h
theorem get_data (L : List Blb) (s : ByteArray) (h : (getV L s).2 = false) : (getV L s).1 = nul := by
  unfold getV at h ⊢
  cases hg : getB L (blobN s).data.toList with
  | none => rfl
  | some b =>
    rw [hg] at h
    simp only at h ⊢
    by_cases hq : sha b.data.data.toList = s.data.toList
    · simp [hq] at h
    · simp [hq]
/-- What a call does to the program's store. -/
def PutP (w : World) (sb mb : Nat) (v : Value) (L' : List Blb) (q : Int) (A' : List Ac) (w' : World) : Prop := ∃ v', PSt w' sb mb v' L' q A' ∧ Goes w sb mb v w' v'
theorem PutP.same {w w' : World} {sb mb : Nat} {v : Value} {L : List Blb} {q : Int} {A : List Ac} (h : PSt w sb mb v L q A) (hb : Below w.heap.size w w') : PutP w sb mb v L q A w' := ⟨v, h.below hb, Goes.of_below hb⟩
set_option maxHeartbeats 1000000 in
set_option maxRecDepth 100000 in
theorem put_act (sb mb : Nat) (v : Value) (L : List Blb) (q : Int) (A : List Ac) (d : ByteArray) (w : World) (h : PSt w sb mb v L q A) (hA : A.length ≤ 1099511627) (hL : L.length ≤ 1099511627) (hd : d.size ≤ 1073741824) (hds : ∀ b ∈ L, b.data.size ≤ 1073741824) (hz : szL L ≤ 1099511627776) (hK : KsLie w) :
    Calls Tryz.prog 58 #[.pointer (some ⟨sb, 0, none⟩), .string d] w fun ev w' =>
      ((getV L (dig d)).2 = true ∧ ev = .returned (.tuple #[.string (dig d), .nilIface]) ∧ PutP w sb mb v L q A w') ∨
      ((getV L (dig d)).2 = false ∧ (szL (delB L (blobN (dig d)).data.toList) + d.size : Nat) > q ∧ ev = .returned (.tuple #[.string emp, .iface 36 (.int .i64 12)]) ∧ PutP w sb mb v L q A w') ∨
      ((getV L (dig d)).2 = false ∧ (szL (delB L (blobN (dig d)).data.toList) + d.size : Nat) ≤ q ∧ ev = .returned (.tuple #[.string (dig d), .nilIface]) ∧ PutP w sb mb v (keepL L (blobN (dig d)) d) q (A ++ keepA (blobN (dig d)) d) w') := by
  have hO : Calls Tryz.prog 100 #[.string d] w (fun ev w' => ev = .returned (.string (dig d)) ∧ Below w.heap.size w w') := of_any d hd w hK
  have hsz := dig_size d
  have hbs : (blobN (dig d)).size = 66 := by rw [blobN, ByteArray.size_append, dig_size]; rfl
  have HP := hide h
  have HK := hide hK
  have hB : ∀ w1, Below w.heap.size w w1 → Calls Tryz.prog 101 #[.pointer (some ⟨sb, 0, none⟩), .string (dig d)] w1 fun ev w' => ev = .returned (.tuple #[.string (blobV L (dig d)).1, .bool (getV L (dig d)).2]) ∧ Below w1.heap.size w1 w' := fun w1 hb1 => by
    rw [← blob_get]; exact blob_act sb mb v L q A (dig d) w1 (h.below hb1) (by omega) hds (hK.below hb1)
  clear h hK
  cases hv : (getV L (dig d)).2 with
  | true =>
    rw [hv] at hB
    go_enter Tryz.func58, Tryz.ntmps58
    go_wp2_with (first
      | (go_at_call 100; refine hO.mono ?_; clear hO; rintro ev w1 ⟨rfl, hb1⟩)
      | (go_at_call 101; refine (hB _ hb1).mono ?_; clear hB; rintro ev w2 ⟨rfl, hb2⟩))
    go_ret2
    exact .inl ⟨by simp, rfl, PutP.same (unhide HP) (hb1.trans (hb2.mono hb1.size))⟩
  | false =>
    rw [hv] at hB
    by_cases hgq : q < ((szL (delB L (blobN (dig d)).data.toList) + d.size : Nat) : Int)
    · have hK : ∀ w2, PSt w2 sb mb v L q A → Calls Tryz.prog 102 #[.pointer (some ⟨sb, 0, none⟩), .string (blobN (dig d)), .string d] w2 fun ev w' => ev = .returned (.iface 36 (.int .i64 12)) ∧ Below w2.heap.size w2 w' := fun w2 h2 =>
        (keep_act sb mb v L q A (blobN (dig d)) d w2 h2 hA hL (by omega) (by omega) hd hz).mono (fun ev w' h => by
          rcases h with ⟨_, e1, e2⟩ | ⟨hle, _⟩
          · exact ⟨e1, e2⟩
          · omega)
      have HGQ := hide hgq
      clear hgq
      go_enter Tryz.func58, Tryz.ntmps58
      go_wp2_with (first
        | (go_at_call 100; refine hO.mono ?_; clear hO; rintro ev w1 ⟨rfl, hb1⟩)
        | (go_at_call 101; refine (hB _ hb1).mono ?_; clear hB; rintro ev w2 ⟨rfl, hb2⟩; have hB2 := hb1.trans (hb2.mono hb1.size))
        | (go_at_call 102; refine (hK _ ((unhide HP).below hB2)).mono ?_; clear hK; rintro ev w3 ⟨rfl, hb3⟩))
      go_ret2
      exact .inr (.inl ⟨by simp, unhide HGQ, rfl, PutP.same (unhide HP) (hB2.trans (hb3.mono hB2.size))⟩)
    · have hK : ∀ w2, PSt w2 sb mb v L q A → Calls Tryz.prog 102 #[.pointer (some ⟨sb, 0, none⟩), .string (blobN (dig d)), .string d] w2 fun ev w' => ev = .returned .nilIface ∧ PutP w2 sb mb v (keepL L (blobN (dig d)) d) q (A ++ keepA (blobN (dig d)) d) w' := fun w2 h2 =>
        (keep_act sb mb v L q A (blobN (dig d)) d w2 h2 hA hL (by omega) (by omega) hd hz).mono (fun ev w' h => by
          rcases h with ⟨hle, _⟩ | ⟨_, e1, e2⟩
          · omega
          · exact ⟨e1, e2⟩)
      have HGQ : Hid (((szL (delB L (blobN (dig d)).data.toList) + d.size : Nat) : Int) ≤ q) := hide (by omega)
      clear hgq
      go_enter Tryz.func58, Tryz.ntmps58
      go_wp2_with (first
        | (go_at_call 100; refine hO.mono ?_; clear hO; rintro ev w1 ⟨rfl, hb1⟩)
        | (go_at_call 101; refine (hB _ hb1).mono ?_; clear hB; rintro ev w2 ⟨rfl, hb2⟩; have hB2 := hb1.trans (hb2.mono hb1.size))
        | (go_at_call 102; refine (hK _ ((unhide HP).below hB2)).mono ?_; clear hK; rintro ev w3 ⟨rfl, hk3⟩))
      go_ret2
      obtain ⟨v3, hP3, hG3⟩ := hk3
      exact .inr (.inr ⟨by simp, unhide HGQ, rfl, v3, hP3, (Goes.of_below hB2).trans hG3⟩)
set_option maxRecDepth 100000 in
theorem get_act (sb mb : Nat) (v : Value) (L : List Blb) (q : Int) (A : List Ac) (s : ByteArray) (w : World) (h : PSt w sb mb v L q A) (hs : s.size ≤ 1048576) (hds : ∀ b ∈ L, b.data.size ≤ 1073741824) (hK : KsLie w) :
    Calls Tryz.prog 59 #[.pointer (some ⟨sb, 0, none⟩), .string s] w fun ev w' =>
      ((getV L s).2 = true ∧ ev = .returned (.tuple #[.string (getV L s).1, .nilIface]) ∧ Below w.heap.size w w') ∨
      ((getV L s).2 = false ∧ ev = .returned (.tuple #[.string emp, .iface 36 (.int .i64 13)]) ∧ Below w.heap.size w w') := by
  have hB := blob_act sb mb v L q A s w h hs hds hK
  rw [blob_get] at hB
  clear h hK
  cases hv : (getV L s).2 with
  | true =>
    rw [hv, blob_data L s hv] at hB
    have hsz : (getV L s).1.size ≤ 1073741824 := by
      unfold getV
      cases hg : getB L (blobN s).data.toList with
      | none => exact Nat.zero_le _
      | some b =>
        have := hds b (get_some hg).1
        simp only
        split
        · exact this
        · exact Nat.zero_le _
    go_enter Tryz.func59, Tryz.ntmps59
    go_wp2_with (first
      | (go_at_call 101; refine hB.mono ?_; clear hB; rintro ev w2 ⟨rfl, hb2⟩)
      | (go_at_call 90; refine (clone_at _ _ hsz).mono ?_; rintro ev w3 ⟨rfl, hb3⟩))
    go_ret2
    exact .inl ⟨by simp, rfl, hb2.trans (hb3.mono hb2.size)⟩
  | false =>
    rw [hv] at hB
    go_enter Tryz.func59, Tryz.ntmps59
    go_wp2_with (go_at_call 101; refine hB.mono ?_; clear hB; rintro ev w2 ⟨rfl, hb2⟩)
    go_ret2
    exact .inr ⟨by simp, rfl, hb2⟩
set_option maxRecDepth 100000 in
theorem drop_act (sb mb : Nat) (v : Value) (L : List Blb) (q : Int) (A : List Ac) (s : ByteArray) (w : World) (h : PSt w sb mb v L q A) (hA : A.length ≤ 1099511627) (hs : s.size ≤ 1048576) :
    Calls Tryz.prog 61 #[.pointer (some ⟨sb, 0, none⟩), .string s] w fun ev w' =>
      (getB L s.data.toList = none ∧ ev = .returned (.iface 36 (.int .i64 13)) ∧ Below w.heap.size w w') ∨
      ((getB L s.data.toList).isSome = true ∧ ev = .returned .nilIface ∧ PutP w sb mb v (delB L s.data.toList) q (A ++ [⟨5, s, emp, emp⟩]) w') := by
  have c0 : w.cell? ⟨sb, 0, none⟩ = some (.map (some mb)) := cell_of_row _ _ 0 _ _ _ h.cells
  have hk := h.map.look s (by omega) true
  simp only [if_true] at hk
  have HP := hide h
  clear h
  cases hg : getB L s.data.toList with
  | none =>
    rw [lookV, hg] at hk
    simp only [Blb.val] at hk
    go_enter Tryz.func61, Tryz.ntmps61
    go_wp2_with fail
    go_ret
    exact .inl ⟨by simp, rfl, by exact ((Below.refl _ w).alloc (Nat.le_refl _) _)⟩
  | some b =>
    rw [lookV, hg] at hk
    simp only [Blb.val] at hk
    obtain rfl : b.name = s := ba_ext (get_some hg).2
    clear hg
    have hP1 := (unhide HP).below ((Below.refl _ w).alloc (Nat.le_refl _) (.cells #[.string b.name, .string b.data] 68))
    go_enter Tryz.func61, Tryz.ntmps61
    go_wp2_with (go_at_call 94; refine (remove_act sb mb v L q A b.name _ hP1 (by omega) (by omega)).mono ?_; rintro ev w3 ⟨rfl, v', hP3, hG3⟩)
    go_ret
    exact .inr ⟨by simp, rfl, v', hP3, (Goes.of_below ((Below.refl _ w).alloc (Nat.le_refl _) _)).trans hG3⟩
end Go.Proofs.YtpiponkhhimaoaaGreatDoor
