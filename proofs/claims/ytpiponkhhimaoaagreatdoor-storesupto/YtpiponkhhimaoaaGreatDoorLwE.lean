import Derived.Test.YtpiponkhhimaoaaGreatDoorLwD
namespace Go.Proofs.YtpiponkhhimaoaaGreatDoor
open Go.RowKit Go.Maps Go.Sort Go.Shelf

set_option maxHeartbeats 1000000 in
set_option maxRecDepth 100000 in
theorem digS_any (B wb lb sb mb yb : Nat) (v vf va vs : Value) (L : List Blb) (q : Int) (A : List Ac) (N : List Blb) (c : Bool) (s : Stp) (w : World) (h : Two w B wb lb sb mb yb v vf va vs L q A N c) (hL : L.length ≤ 1073741824) (hLs : ∀ b ∈ L, b.name.size ≤ 1048576) (hs : s.name.size ≤ 1048576) :
    Calls Tryz.prog 13 #[.pointer (some ⟨wb, 0, none⟩), .agg #[.int .i64 s.kind, .int .i64 s.which, .string s.name, .string s.data, .slice s.ctx s.cn s.cc, .int .i64 s.quota]] w fun ev w' => ∃ x : ByteArray, ev = .returned (.string x) ∧ x.size ≤ 1048576 ∧ Below w.heap.size w w' := by
  obtain ⟨W0, hW0⟩ : ∃ W0, W0 = w.alloc (.cells s.arr 32) := ⟨_, rfl⟩
  have hb0 : Below w.heap.size w W0 := by rw [hW0]; exact (Below.refl _ _).alloc (Nat.le_refl _) _
  have hx0 : W0.heap[w.heap.size]? = some (.cells s.arr 32 (0, 0)) := by rw [hW0]; exact heap_alloc_new _ _
  have hNm := named_any B wb lb sb mb yb v vf va vs L q A N c s W0 (h.below hb0) hL hLs hs
  have x0 : W0.cell? ⟨w.heap.size, 0, none⟩ = some (.int .i64 s.kind) := cell_of_row _ _ 0 _ _ _ hx0
  have x1 : W0.cell? ⟨w.heap.size, 1, none⟩ = some (.int .i64 s.which) := cell_of_row _ _ 1 _ _ _ hx0
  have x2 : W0.cell? ⟨w.heap.size, 2, none⟩ = some (.string s.name) := cell_of_row _ _ 2 _ _ _ hx0
  have x3 : W0.cell? ⟨w.heap.size, 3, none⟩ = some (.string s.data) := cell_of_row _ _ 3 _ _ _ hx0
  have x4 : W0.cell? ⟨w.heap.size, 4, none⟩ = some (.slice s.ctx s.cn s.cc) := cell_of_row _ _ 4 _ _ _ hx0
  have x5 : W0.cell? ⟨w.heap.size, 5, none⟩ = some (.int .i64 s.quota) := cell_of_row _ _ 5 _ _ _ hx0
  have HW : Hid (W0 = w.alloc (.cells #[.int .i64 s.kind, .int .i64 s.which, .string s.name, .string s.data, .slice s.ctx s.cn s.cc, .int .i64 s.quota] 32)) := hide hW0
  clear h hx0 hW0 hLs
  go_enter Tryz.func13, Tryz.ntmps13
  go_upto_region 1 with fail
  rw [← unhide HW]
  clear HW
  go_upto_region 2 with (go_at_call 16; refine hNm.mono ?_; clear hNm; rintro ev w1 ⟨x, rfl, hxs, hb1⟩)
  have x2' := cell_later hb1 x2
  have R := hb0.trans (hb1.mono hb0.size)
  clear x0 x1 x2 x3 x4 x5
  cases g1 : s.name.toList.isEmpty with
  | false =>
    go_wp2_with fail
    go_ret
    exact ⟨_, rfl, hxs, R⟩
  | true =>
    by_cases h2 : 2 < x.size
    · have i1 : (2 : Int) < (x.size : Int) := by omega
      have i2 : (2 : Int) ≤ (x.size : Int) := by omega
      go_wp2_with fail
      go_ret
      exact ⟨_, rfl, by rw [ByteArray.size_extract]; omega, R⟩
    · have i1 : ¬ (2 : Int) < (x.size : Int) := by omega
      go_wp2_with fail
      go_ret
      exact ⟨_, rfl, hxs, R⟩
set_option maxRecDepth 100000 in
theorem pget_act (lb sb mb : Nat) (v : Value) (L : List Blb) (q : Int) (A : List Ac) (s : ByteArray) (w : World) (h : XSt w lb sb mb v L q A) (hs : s.size ≤ 1048576) (hds : ∀ b ∈ L, b.data.size ≤ 1073741824) (hV : Vars w) :
    Calls Tryz.prog 14 #[.pointer (some ⟨lb, 0, none⟩), .string s] w fun ev w' => ev = .returned (.tuple #[.string (getV L s).1, .int .i64 (if (getV L s).2 then 0 else 13)]) ∧ Below w.heap.size w w' := by
  have hG := get_act sb mb v L q A s w h.st hs hds hV.ks
  have c0 : w.cell? ⟨lb, 0, none⟩ = some (.pointer (some ⟨sb, 0, none⟩)) := cell_of_row _ _ 0 _ _ _ h.face
  have HV := hide hV
  have hD := get_data L s
  clear h hV
  cases hv : (getV L s).2 with
  | true =>
    have hF : Calls Tryz.prog 37 #[.pointer (some ⟨lb, 0, none⟩), .string s] w fun ev w' => ev = .returned (.tuple #[.string (getV L s).1, .nilIface]) ∧ Below w.heap.size w w' := by
      have hG2 := hG.mono (R' := fun ev w' => ev = .returned (.tuple #[.string (getV L s).1, .nilIface]) ∧ Below w.heap.size w w') (fun ev w' h => by
        rcases h with ⟨_, e1, e2⟩ | ⟨e0, _⟩
        · exact ⟨e1, e2⟩
        · rw [hv] at e0; cases e0)
      clear hG
      go_enter Tryz.func37, Tryz.ntmps37
      go_wp2_with (go_at_call 59; refine hG2.mono ?_; clear hG2; rintro ev w1 ⟨rfl, hb1⟩)
      go_ret2
      exact ⟨rfl, hb1⟩
    clear hG
    go_enter Tryz.func14, Tryz.ntmps14
    go_wp2_with (first | (go_at_call 37; refine hF.mono ?_; clear hF; rintro ev w1 ⟨rfl, hb1⟩) | (go_at_call 27; refine (tell_nil _).mono ?_; rintro ev w2 ⟨rfl, hb2⟩))
    go_ret2
    exact ⟨rfl, hb1.trans (hb2.mono hb1.size)⟩
  | false =>
    rw [hD hv]
    have hF : Calls Tryz.prog 37 #[.pointer (some ⟨lb, 0, none⟩), .string s] w fun ev w' => ev = .returned (.tuple #[.string emp, .iface 36 (.int .i64 13)]) ∧ Below w.heap.size w w' := by
      have hG2 := hG.mono (R' := fun ev w' => ev = .returned (.tuple #[.string emp, .iface 36 (.int .i64 13)]) ∧ Below w.heap.size w w') (fun ev w' h => by
        rcases h with ⟨e0, _⟩ | ⟨_, e1, e2⟩
        · rw [hv] at e0; cases e0
        · exact ⟨e1, e2⟩)
      clear hG
      go_enter Tryz.func37, Tryz.ntmps37
      go_wp2_with (go_at_call 59; refine hG2.mono ?_; clear hG2; rintro ev w1 ⟨rfl, hb1⟩)
      go_ret2
      exact ⟨rfl, hb1⟩
    clear hG
    go_enter Tryz.func14, Tryz.ntmps14
    go_wp2_with (first | (go_at_call 37; refine hF.mono ?_; clear hF; rintro ev w1 ⟨rfl, hb1⟩) | (go_at_call 27; refine (tell_errno 13 _ ((unhide HV).below hb1).err).mono ?_; rintro ev w2 ⟨rfl, hb2⟩))
    go_ret2
    exact ⟨rfl, hb1.trans (hb2.mono hb1.size)⟩
/-- What 'Drop' answers. -/
def DropAns (L : List Blb) (A : List Ac) (s : ByteArray) (r : Bool) (L' : List Blb) (A' : List Ac) : Prop :=
  (getB L s.data.toList = .none ∧ r = false ∧ L' = L ∧ A' = A) ∨ ((getB L s.data.toList).isSome = true ∧ r = true ∧ L' = delB L s.data.toList ∧ A' = A ++ [⟨5, s, nul, nul⟩])
theorem DropAns.none {L : List Blb} {A : List Ac} {s : ByteArray} (h : getB L s.data.toList = Option.none) : DropAns L A s false L A := .inl ⟨h, rfl, rfl, rfl⟩
theorem DropAns.some {L : List Blb} {A : List Ac} {s : ByteArray} (h : (getB L s.data.toList).isSome = true) : DropAns L A s true (delB L s.data.toList) (A ++ [⟨5, s, nul, nul⟩]) := .inr ⟨h, rfl, rfl, rfl⟩
theorem DropAns.el {L : List Blb} {A : List Ac} {s : ByteArray} {motive : ∀ r L' A', DropAns L A s r L' A' → Prop} (none : ∀ h, motive _ _ _ (.none h)) (some : ∀ h, motive _ _ _ (.some h)) {r : Bool} {L' : List Blb} {A' : List Ac} (t : DropAns L A s r L' A') : motive r L' A' t := by
  rcases t with ⟨h, e1, e2, e3⟩ | ⟨h, e1, e2, e3⟩
  · cases e1; cases e2; cases e3; exact none h
  · cases e1; cases e2; cases e3; exact some h
theorem DropAns.one {L : List Blb} {A : List Ac} {s : ByteArray} {a b : Bool} {L1 L2 : List Blb} {A1 A2 : List Ac} (h : DropAns L A s a L1 A1) (k : DropAns L A s b L2 A2) : a = b ∧ L1 = L2 ∧ A1 = A2 := by
  cases h using DropAns.el with
  | none h =>
    cases k using DropAns.el with
    | none k => exact ⟨rfl, rfl, rfl⟩
    | some k => rw [h] at k; cases k
  | some h =>
    cases k using DropAns.el with
    | none k => rw [k] at h; cases h
    | some k => exact ⟨rfl, rfl, rfl⟩
set_option maxRecDepth 100000 in
theorem pdrop_act (lb sb mb : Nat) (v : Value) (L : List Blb) (q : Int) (A : List Ac) (s : ByteArray) (w : World) (h : XSt w lb sb mb v L q A) (hA : A.length ≤ 1099511627) (hs : s.size ≤ 1048576) (hV : Vars w) (hf : ∀ k, Own sb mb v k → 2 ≤ k) :
    Calls Tryz.prog 17 #[.pointer (some ⟨lb, 0, none⟩), .string s] w fun ev w' => ∃ r L' A', Hid (DropAns L A s r L' A') ∧ ev = .returned (.int .i64 (if r then 0 else 13)) ∧ PutX w lb sb mb v L' q A' w' := by
  have hD := drop_act sb mb v L q A s w h.st hA hs
  have c0 : w.cell? ⟨lb, 0, none⟩ = some (.pointer (some ⟨sb, 0, none⟩)) := cell_of_row _ _ 0 _ _ _ h.face
  have hF : Calls Tryz.prog 39 #[.pointer (some ⟨lb, 0, none⟩), .string s] w fun ev w' => ∃ r L' A', Hid (DropAns L A s r L' A') ∧ ev = .returned (if r then Value.nilIface else .iface 36 (.int .i64 13)) ∧ PutX w lb sb mb v L' q A' w' := by
    have HX := hide h
    clear h
    go_enter Tryz.func39, Tryz.ntmps39
    go_wp2_with (go_at_call 61; refine hD.mono ?_; clear hD; rintro ev w1 (⟨hv, rfl, hk⟩ | ⟨hv, rfl, hk⟩))
    · go_ret
      exact ⟨false, _, _, hide (.none hv), rfl, PutX.of (unhide HX) (PutP.same (unhide HX).st hk)⟩
    · go_ret
      exact ⟨true, _, _, hide (.some hv), rfl, PutX.of (unhide HX) hk⟩
  have HV := hide hV
  have HF := hide hf
  clear hD h hV hf
  cases hg : getB L s.data.toList with
  | none =>
    have hF2 := hF.mono (R' := fun ev w' => ev = .returned (.iface 36 (.int .i64 13)) ∧ PutX w lb sb mb v L q A w') (fun ev w' h => by
      obtain ⟨r, L', A', HA, e1, e2⟩ := h
      cases unhide HA using DropAns.el with
      | none h => exact ⟨e1, e2⟩
      | some h => rw [hg] at h; cases h)
    have HG := hide hg
    clear hF hg
    go_enter Tryz.func17, Tryz.ntmps17
    go_wp2_with (first | (go_at_call 39; refine hF2.mono ?_; clear hF2; rintro ev w1 ⟨rfl, hk⟩; have hV1 := hk.vars (unhide HV) (unhide HF)) | (go_at_call 27; refine (tell_errno 13 _ hV1.err).mono ?_; rintro ev w2 ⟨rfl, hb2⟩))
    go_ret
    exact ⟨false, _, _, hide (.none (unhide HG)), rfl, hk.later hb2⟩
  | some b =>
    have hF2 := hF.mono (R' := fun ev w' => ev = .returned .nilIface ∧ PutX w lb sb mb v (delB L s.data.toList) q (A ++ [⟨5, s, nul, nul⟩]) w') (fun ev w' h => by
      obtain ⟨r, L', A', HA, e1, e2⟩ := h
      cases unhide HA using DropAns.el with
      | none h => rw [hg] at h; cases h
      | some h => exact ⟨e1, e2⟩)
    have HG : Hid ((getB L s.data.toList).isSome = true) := hide (by rw [hg]; rfl)
    clear hF hg
    go_enter Tryz.func17, Tryz.ntmps17
    go_wp2_with (first | (go_at_call 39; refine hF2.mono ?_; clear hF2; rintro ev w1 ⟨rfl, hk⟩) | (go_at_call 27; refine (tell_nil _).mono ?_; rintro ev w2 ⟨rfl, hb2⟩))
    go_ret
    exact ⟨true, _, _, hide (.some (unhide HG)), rfl, hk.later hb2⟩
end Go.Proofs.YtpiponkhhimaoaaGreatDoor
