import Derived.Test.YtkikhmleffcajaaGreatDoorJBfH
namespace Go.Proofs.YtkikhmleffcajaaGreatDoor
open Go.RowKit Go.Maps

theorem opN_from {t : List UInt8} (h : opN t = some 0) : t = wFROM := by
  unfold opN at h
  cases hf : tbl.find? (fun p => p.1 == t) with
  | none => rw [hf] at h; cases h
  | some p =>
    rw [hf] at h
    injection h with h
    have hm := List.mem_of_find?_eq_some hf
    have hk : p.1 = t := by simpa using List.find?_some hf
    have : ∀ p ∈ tbl, p.2 = 0 → p.1 = wFROM := by decide
    rw [← hk]; exact this p hm h
theorem from_is {xs : List Atm} {i : Nat} (h : opW xs = some i) : (plainW xs == some wFROM) = decide (i = 0) := by
  unfold opW at h
  cases hx : plainW xs with
  | none => rw [hx] at h; cases h
  | some t =>
    rw [hx] at h
    have h' : opN t = some i := h
    by_cases hi : i = 0
    · subst hi; rw [opN_from h']; decide
    · rw [decide_eq_false hi]
      simp only [beq_eq_false_iff_ne, ne_eq, Option.some.injEq]
      intro e
      rw [e] at h'
      have : opN wFROM = some 0 := by decide
      rw [this] at h'; injection h' with h'; exact hi h'.symm
theorem opW_some {xs : List Atm} {i : Nat} (h : opW xs = some i) : ∃ t, plainW xs = some t ∧ opN t = some i := by
  unfold opW at h
  cases hx : plainW xs with
  | none => rw [hx] at h; cases h
  | some t => rw [hx] at h; exact ⟨t, rfl, h⟩
/-- May an instruction of this rule stand here, with so many words? -/
def fitN (op : Nat) (n : Nat) (first : Bool) : Bool := decide (¬ ((n : Int) - 1 < (ruleT op).1) ∧ ¬ ((ruleT op).2.1 < (n : Int) - 1) ∧ ¬ (first = true ∧ op ≠ 0))
set_option maxHeartbeats 1000000 in
set_option maxRecDepth 10000 in
theorem place_gen (wv : Value) (ws : List WdM) (m0 : WdM) (st a b : Int) (f g0 : Value) (B : Nat) (w : World) (h : WsM w B wv ws) (h0 : ws[0]? = some m0) :
    Calls Tryz.prog 56 #[.agg #[wv, .int .i64 st, .int .i64 a, .int .i64 b, f, g0]] w fun ev w' => ev = .returned (.int .i64 (m0.place : Int)) ∧ Below w.heap.size w w' := by
  obtain ⟨g, cap, hv, q0, q1, hg⟩ := wd_at h 0 m0 h0
  have hl : 0 < ws.length := (List.getElem?_eq_some_iff.1 h0).1
  subst hv
  have n0 := World.new_ne w ⟨g, 0, none⟩ q0
  obtain ⟨n, hn⟩ : ∃ n, n = ws.length := ⟨_, rfl⟩
  have i1 : (0 : Int) < (n : Int) := by omega
  rw [← hn]
  clear h h0 hl hn
  go_enter Tryz.func56, Tryz.ntmps56
  go_wp2_with fail
  go_ret
  exact ⟨rfl, (Below.refl _ _).alloc (Nat.le_refl _) _⟩
set_option maxHeartbeats 1000000 in
set_option maxRecDepth 10000 in
theorem is_gen (wv : Value) (ws : List WdM) (x : WdM) (t : ByteArray) (st a b : Int) (f g0 : Value) (B : Nat) (w : World) (h : WsM w B wv ws) (h0 : ws[0]? = some x) (hl : (parts x.xs).length ≤ 1500) :
    Calls Tryz.prog 70 #[.agg #[wv, .int .i64 st, .int .i64 a, .int .i64 b, f, g0], .string t] w fun ev w' => ev = .returned (.bool (plainW x.xs == some t.data.toList)) ∧ Below w.heap.size w w' := by
  obtain ⟨g, cap, hv, q0, q1, hg⟩ := wd_at h 0 x h0
  have hok := h.all x (List.mem_of_getElem? h0)
  have hl0 : 0 < ws.length := (List.getElem?_eq_some_iff.1 h0).1
  have hb0 : Below w.heap.size w (w.alloc (.cells #[wv, .int .i64 st, .int .i64 a, .int .i64 b, f, g0] 99)) := (Below.refl _ _).alloc (Nat.le_refl _) _
  have hI := isM_any x t B _ (row_same hok (w' := w.alloc (.cells #[wv, .int .i64 st, .int .i64 a, .int .i64 b, f, g0] 99)) fun k hk => hb0.block k (World.ownsRow.lt hok k hk).2) hl
  obtain ⟨ao, n', cap', hxv⟩ := row_form hok
  rw [hxv] at q1
  obtain ⟨bb, hbb⟩ : ∃ bb, bb = (plainW x.xs == some t.data.toList) := ⟨_, rfl⟩
  rw [← hbb] at hI ⊢
  obtain ⟨pl, vv, xx⟩ := x
  simp only at hxv q0 hI
  subst hxv
  subst hv
  have n0 := World.new_ne w ⟨g, 0, none⟩ q0
  have i1 : (0 : Int) < (ws.length : Int) := by omega
  obtain ⟨n, hn⟩ : ∃ n, n = ws.length := ⟨_, rfl⟩
  rw [← hn] at hI hb0 i1 ⊢
  clear h h0 hok hl0 hn hbb hl
  go_enter Tryz.func70, Tryz.ntmps70
  go_wp2_with (go_at_call 81; refine hI.mono ?_; clear hI; rintro ev w1 ⟨rfl, hb1⟩)
  go_ret
  exact ⟨rfl, hb0.trans (hb1.mono hb0.size)⟩
set_option maxHeartbeats 2000000 in
set_option maxRecDepth 10000 in
theorem ruleFor_none (B fb ib : Nat) (sv wv : Value) (ss : List StM) (ws : List WdM) (x : WdM) (st a b : Int) (w : World) (h : FileM w B fb sv ss) (hi : InB w B ib wv ws st a b .nilFunc .nilFunc) (h0 : ws[0]? = some x) (ho : opW x.xs = none) :
    Calls Tryz.prog 53 #[.pointer (some ⟨fb, 0, none⟩), .pointer (some ⟨ib, 0, none⟩)] w fun ev w' => Wrg w' ev 5 x.place ∧ Below w.heap.size w w' := by
  obtain ⟨g, cap, hv, q0, q1, hg⟩ := wd_at hi.wsm 0 x h0
  have hok := hi.wsm.all x (List.mem_of_getElem? h0)
  have hsm := hi.small x (List.mem_of_getElem? h0)
  have hl0 : 0 < ws.length := (List.getElem?_eq_some_iff.1 h0).1
  have hsh := hi.short
  have hci := hi.cells
  obtain ⟨ao, n', cap', hxv⟩ := row_form hok
  obtain ⟨n, hn⟩ : ∃ n, n = ws.length := ⟨_, rfl⟩
  rw [hxv] at q1
  rw [hv, ← hn] at hci
  obtain ⟨W0, hW0⟩ : ∃ W0, W0 = w.alloc (.cells #[.int .i64 0, .int .i64 0, .nilFunc, .nilFunc] 97) := ⟨_, rfl⟩
  have hb0 : Below w.heap.size w W0 := by rw [hW0]; exact (Below.refl _ _).alloc (Nat.le_refl _) _
  have hr0 : W0.heap[w.heap.size]? = some (.cells #[.int .i64 0, .int .i64 0, .nilFunc, .nilFunc] 97 (0, 0)) := by rw [hW0]; exact heap_alloc_new _ _
  have hz0 : w.heap.size < W0.heap.size := by rw [hW0]; simp
  have q0' := cell_later hb0 q0
  have q1' := cell_later hb0 q1
  have c0 : W0.cell? ⟨ib, 0, none⟩ = some (.slice (some ⟨g, 0, none⟩) n cap) := cell_later hb0 (cell_of_row _ _ 0 _ _ _ hci)
  have i1 : (0 : Int) < (n : Int) := by omega
  have e1 : IntKind.i64.wrap ((n : Int) - 1) = (n : Int) - 1 := by simp [IntKind.wrap, IntKind.bits, IntKind.signed]; omega
  have HI := hide hi
  have HF := hide h
  have HN := hide hn
  have HV := hide hv
  have HR0 := hide hr0
  have HB0 := hide hb0
  have HC := hide (fun w1 (hb1 : Below w.heap.size w w1) => (hb1.block ib hi.lt).trans hci)
  have hRu := ruleOf_none x B W0 (row_same hok fun j hj => hb0.block j (World.ownsRow.lt hok j hj).2) hsm.1 hsm.2 ho
  unfold WdM.val at hRu
  rw [hxv] at hRu
  have hPl := fun w1 (hb1 : Below w.heap.size w w1) => place_gen wv ws x st a b .nilFunc .nilFunc B w1 (hi.wsm.below hb1) h0
  rw [hv, ← hn] at hPl
  have hFl := fun w' => fail_wrg 5 x.place w'
  clear hi h hok h0 hsm hn hci hr0 hb0 hxv q0 q1 hl0 hv ho
  go_enter Tryz.func53, Tryz.ntmps53
  go_upto_region 1 with fail
  rw [← hW0]
  clear hW0
  go_upto_region 2 with (go_at_call 69; refine hRu.mono ?_; clear hRu; rintro ev w1 ⟨rfl, hb1⟩)
  obtain ⟨W2, hW2⟩ : ∃ W2, W2 = w1.alloc (.cells #[.int .i64 0, .int .i64 0, .nilFunc, .nilFunc] 97) := ⟨_, rfl⟩
  have hb01 : Below w.heap.size w w1 := (unhide HB0).trans (hb1.mono (unhide HB0).size)
  have hb2 : Below w.heap.size w W2 := by rw [hW2]; exact hb01.alloc hb01.size _
  have hl2 : W2.heap[w1.heap.size]? = some (.cells #[.int .i64 0, .int .i64 0, .nilFunc, .nilFunc] 97 (0, 0)) := by rw [hW2]; exact heap_alloc_new _ _
  have hc2 := unhide HC W2 hb2
  have d0 : W2.cell? ⟨ib, 0, none⟩ = some (.slice (some ⟨g, 0, none⟩) n cap) := cell_of_row _ _ 0 _ _ _ hc2
  have d1 : W2.cell? ⟨ib, 1, none⟩ = some (.int .i64 st) := cell_of_row _ _ 1 _ _ _ hc2
  have d2 : W2.cell? ⟨ib, 2, none⟩ = some (.int .i64 a) := cell_of_row _ _ 2 _ _ _ hc2
  have d3 : W2.cell? ⟨ib, 3, none⟩ = some (.int .i64 b) := cell_of_row _ _ 3 _ _ _ hc2
  have d4 : W2.cell? ⟨ib, 4, none⟩ = some .nilFunc := cell_of_row _ _ 4 _ _ _ hc2
  have d5 : W2.cell? ⟨ib, 5, none⟩ = some .nilFunc := cell_of_row _ _ 5 _ _ _ hc2
  have HB2 := hide hb2
  rw [← hW2]
  clear hW2 hl2 hc2 hb2 q0' q1' c0
  go_wp2_with (first
    | (go_at_call 56; refine (hPl _ (unhide HB2)).mono ?_; clear hPl; rintro ev w3 ⟨rfl, hb3⟩)
    | (go_at_call 36; refine (hFl _).mono ?_; clear hFl; rintro ev w8 ⟨bb, rfl, hc, hb8⟩))
  exact ⟨rfl, ⟨bb, rfl, hc⟩, ((unhide HB2).trans (hb3.mono (unhide HB2).size)).trans (hb8.mono (Nat.le_trans (unhide HB2).size hb3.size))⟩
set_option maxHeartbeats 4000000 in
set_option maxRecDepth 10000 in
theorem ruleFor_some (B fb ib : Nat) (sv wv : Value) (ss : List StM) (ws : List WdM) (x : WdM) (st a b : Int) (op : Nat) (w : World) (h : FileM w B fb sv ss) (hi : InB w B ib wv ws st a b .nilFunc .nilFunc) (h0 : ws[0]? = some x) (ho : opW x.xs = some op) :
    Calls Tryz.prog 53 #[.pointer (some ⟨fb, 0, none⟩), .pointer (some ⟨ib, 0, none⟩)] w fun ev w' => (fitN op ws.length ss.isEmpty = false ∧ Wrg w' ev 5 x.place ∨ fitN op ws.length ss.isEmpty = true ∧ ev = .returned (ruleV op)) ∧ Below w.heap.size w w' := by
  obtain ⟨g, cap, hv, q0, q1, hg⟩ := wd_at hi.wsm 0 x h0
  have hok := hi.wsm.all x (List.mem_of_getElem? h0)
  have hsm := hi.small x (List.mem_of_getElem? h0)
  have hl0 : 0 < ws.length := (List.getElem?_eq_some_iff.1 h0).1
  have hsh := hi.short
  have hci := hi.cells
  obtain ⟨ao, n', cap', hxv⟩ := row_form hok
  obtain ⟨n, hn⟩ : ∃ n, n = ws.length := ⟨_, rfl⟩
  rw [hxv] at q1
  rw [hv, ← hn] at hci
  obtain ⟨W0, hW0⟩ : ∃ W0, W0 = w.alloc (.cells #[.int .i64 0, .int .i64 0, .nilFunc, .nilFunc] 97) := ⟨_, rfl⟩
  have hb0 : Below w.heap.size w W0 := by rw [hW0]; exact (Below.refl _ _).alloc (Nat.le_refl _) _
  have hr0 : W0.heap[w.heap.size]? = some (.cells #[.int .i64 0, .int .i64 0, .nilFunc, .nilFunc] 97 (0, 0)) := by rw [hW0]; exact heap_alloc_new _ _
  have hz0 : w.heap.size < W0.heap.size := by rw [hW0]; simp
  have q0' := cell_later hb0 q0
  have q1' := cell_later hb0 q1
  have c0 : W0.cell? ⟨ib, 0, none⟩ = some (.slice (some ⟨g, 0, none⟩) n cap) := cell_later hb0 (cell_of_row _ _ 0 _ _ _ hci)
  have i1 : (0 : Int) < (n : Int) := by omega
  have e1 : IntKind.i64.wrap ((n : Int) - 1) = (n : Int) - 1 := by simp [IntKind.wrap, IntKind.bits, IntKind.signed]; omega
  have HI := hide hi
  have HF := hide h
  have HN := hide hn
  have HV := hide hv
  have HR0 := hide hr0
  have HB0 := hide hb0
  have HC := hide (fun w1 (hb1 : Below w.heap.size w w1) => (hb1.block ib hi.lt).trans hci)
  obtain ⟨t, hxt, hot⟩ := opW_some ho
  have hRu := ruleOf_some x B W0 (row_same hok fun j hj => hb0.block j (World.ownsRow.lt hok j hj).2) hsm.1 hsm.2 t op hxt hot
  unfold WdM.val at hRu
  rw [hxv] at hRu
  have hPl := fun w1 (hb1 : Below w.heap.size w w1) => place_gen wv ws x st a b .nilFunc .nilFunc B w1 (hi.wsm.below hb1) h0
  rw [hv, ← hn] at hPl
  have hFl := fun w' => fail_wrg 5 x.place w'
  have hIs := fun w1 (hb1 : Below w.heap.size w w1) => is_gen wv ws x ⟨#[70, 82, 79, 77]⟩ st a b .nilFunc .nilFunc B w1 (hi.wsm.below hb1) h0 hsm.1
  rw [show (⟨#[70, 82, 79, 77]⟩ : ByteArray).data.toList = wFROM from rfl, from_is ho, hv, ← hn] at hIs
  obtain ⟨ra, rbb, rf, rg, hrv⟩ : ∃ ra rbb rf rg, ra = (ruleT op).1 ∧ rbb = (ruleT op).2.1 ∧ rf = (ruleT op).2.2.1 ∧ rg = (ruleT op).2.2.2 := ⟨_, _, _, _, rfl, rfl, rfl, rfl⟩
  have hrl : ruleV op = .agg #[.int .i64 ra, .int .i64 rbb, fnV rf, fnV rg] := by rw [hrv.1, hrv.2.1, hrv.2.2.1, hrv.2.2.2]; rfl
  rw [hrl] at hRu
  have HFit : Hid (fitN op ws.length ss.isEmpty = decide (¬ ((n : Int) - 1 < ra) ∧ ¬ (rbb < (n : Int) - 1) ∧ ¬ (ss.isEmpty = true ∧ op ≠ 0))) := hide (by unfold fitN; rw [hrv.1, hrv.2.1, hn])
  obtain ⟨ao2, cap2, hsv⟩ : ∃ ao cap, sv = .slice ao ss.length cap := by
    rcases h.row.2 with ⟨e, h0⟩ | ⟨g, cap, cur, e, _⟩
    · exact ⟨none, 0, by rw [e, h0]⟩
    · exact ⟨_, _, e⟩
  have HSV : Hid (∀ w1, Below w.heap.size w w1 → w1.cell? ⟨fb, 0, none⟩ = some (.slice ao2 ss.length cap2)) := hide (fun w1 hb1 => by rw [← hsv]; exact (h.below hb1).c0)
  have hse : ss.isEmpty = decide (ss.length = 0) := by cases ss <;> rfl
  have HRL := hide hrl
  obtain ⟨N, hN⟩ : ∃ N, N = ss.length := ⟨_, rfl⟩
  rw [hse, ← hN] at HFit ⊢
  rw [← hN] at HSV
  have hN5 : N ≤ 5 := by rw [hN]; exact h.short
  obtain ⟨F, hF⟩ : ∃ F, F = fitN op ws.length (decide (N = 0)) := ⟨_, rfl⟩
  rw [← hF] at HFit ⊢
  rw [hrl]
  clear hi h hok h0 hsm hn hci hr0 hb0 hxv q0 q1 hl0 hv ho hxt hot hrv hrl hsv hse hN hF
  have fwd : ∀ w3 w8 ev bb, F = false → Below w.heap.size w w3 → Below w3.heap.size w3 w8 → ev = .panicked [{ v := .iface 123 (.pointer (some ⟨bb, 0, none⟩)), recovered := false }] → w8.heap[bb]? = some (.cells #[.int .i64 (5 : Nat), .int .i64 (x.place : Int)] 126 (0, 0)) → (F = false ∧ Wrg w8 ev 5 x.place ∨ F = true ∧ ev = .returned (.agg #[.int .i64 ra, .int .i64 rbb, fnV rf, fnV rg])) ∧ Below w.heap.size w w8 := by
    intro w3 w8 ev bb hF hb3 hb8 he hc
    exact ⟨.inl ⟨hF, ⟨bb, he, hc⟩⟩, hb3.trans (hb8.mono hb3.size)⟩
  have FWD := hide fwd
  clear fwd
  go_enter Tryz.func53, Tryz.ntmps53
  go_upto_region 1 with fail
  rw [← hW0]
  clear hW0
  go_upto_region 2 with (go_at_call 69; refine hRu.mono ?_; clear hRu; rintro ev w1 ⟨rfl, hb1⟩)
  obtain ⟨W2, hW2⟩ : ∃ W2, W2 = w1.alloc (.cells #[.int .i64 ra, .int .i64 rbb, fnV rf, fnV rg] 97) := ⟨_, rfl⟩
  have hb01 : Below w.heap.size w w1 := (unhide HB0).trans (hb1.mono (unhide HB0).size)
  have hb2 : Below w.heap.size w W2 := by rw [hW2]; exact hb01.alloc hb01.size _
  have hl2 : W2.heap[w1.heap.size]? = some (.cells #[.int .i64 ra, .int .i64 rbb, fnV rf, fnV rg] 97 (0, 0)) := by rw [hW2]; exact heap_alloc_new _ _
  have hc2 := unhide HC W2 hb2
  have d0 : W2.cell? ⟨ib, 0, none⟩ = some (.slice (some ⟨g, 0, none⟩) n cap) := cell_of_row _ _ 0 _ _ _ hc2
  have d1 : W2.cell? ⟨ib, 1, none⟩ = some (.int .i64 st) := cell_of_row _ _ 1 _ _ _ hc2
  have d2 : W2.cell? ⟨ib, 2, none⟩ = some (.int .i64 a) := cell_of_row _ _ 2 _ _ _ hc2
  have d3 : W2.cell? ⟨ib, 3, none⟩ = some (.int .i64 b) := cell_of_row _ _ 3 _ _ _ hc2
  have d4 : W2.cell? ⟨ib, 4, none⟩ = some .nilFunc := cell_of_row _ _ 4 _ _ _ hc2
  have d5 : W2.cell? ⟨ib, 5, none⟩ = some .nilFunc := cell_of_row _ _ 5 _ _ _ hc2
  have HB2 := hide hb2
  have s0 := unhide HSV W2 hb2
  have l0 : W2.cell? ⟨w1.heap.size, 0, none⟩ = some (.int .i64 ra) := cell_of_row _ _ 0 _ _ _ hl2
  have l1 : W2.cell? ⟨w1.heap.size, 1, none⟩ = some (.int .i64 rbb) := cell_of_row _ _ 1 _ _ _ hl2
  have HL2 := hide hl2
  have HWL : Hid (w.heap.size < w1.heap.size ∧ w1.heap.size < W2.heap.size) := hide ⟨by have := hb1.size; omega, (Array.getElem?_eq_some_iff.1 hl2).1⟩
  have HR2 : Hid (W2.heap[w.heap.size]? = some (.cells #[.int .i64 0, .int .i64 0, .nilFunc, .nilFunc] 97 (0, 0))) := hide (by
    rw [hW2, Below.heap_alloc _ _ _ (by have := hb1.size; omega)]; exact (hb1.block _ hz0).trans (unhide HR0))
  rw [← hW2]
  clear hW2 hl2 hc2 hb2 q0' q1' c0
  by_cases g1 : (n : Int) - 1 < ra
  · have HFF : Hid (F = false) := hide (by rw [unhide HFit]; exact decide_eq_false (fun h => by have := h.1; omega))
    go_wp2_with (first
      | (go_at_call 56; refine (hPl _ (unhide HB2)).mono ?_; clear hPl; rintro ev w3 ⟨rfl, hb3⟩)
      | (go_at_call 36; refine (hFl _).mono ?_; clear hFl; rintro ev w8 ⟨bb, rfl, hc, hb8⟩))
    exact ⟨rfl, unhide FWD w3 w8 _ bb (unhide HFF) ((unhide HB2).trans (hb3.mono (unhide HB2).size)) hb8 rfl hc⟩
  by_cases g2 : rbb < (n : Int) - 1
  · have HFF : Hid (F = false) := hide (by rw [unhide HFit]; exact decide_eq_false (fun h => by have := h.2.1; omega))
    go_wp2_with (first
      | (go_at_call 56; refine (hPl _ (unhide HB2)).mono ?_; clear hPl; rintro ev w3 ⟨rfl, hb3⟩)
      | (go_at_call 36; refine (hFl _).mono ?_; clear hFl; rintro ev w8 ⟨bb, rfl, hc, hb8⟩))
    exact ⟨rfl, unhide FWD w3 w8 _ bb (unhide HFF) ((unhide HB2).trans (hb3.mono (unhide HB2).size)) hb8 rfl hc⟩
  by_cases g3 : N = 0
  · have g4 : ((N : Int) == 0) = true := by simp [g3]
    by_cases g5 : op = 0
    · have HFF : Hid (F = true) := hide (by rw [unhide HFit]; exact decide_eq_true ⟨by omega, by omega, fun h => h.2 g5⟩)
      rw [decide_eq_true g5] at hIs
      clear g3 g5
      go_upto_region 5 with (go_at_call 70; refine (hIs _ (unhide HB2)).mono ?_; clear hIs; rintro ev w3 ⟨rfl, hb3⟩)
      have hr1 : w3.heap[w.heap.size]? = some (.cells #[.int .i64 0, .int .i64 0, .nilFunc, .nilFunc] 97 (0, 0)) := (hb3.block _ (by have := (unhide HWL); omega)).trans (unhide HR2)
      have r0 : w3.cell? ⟨w.heap.size, 0, none⟩ = some (.int .i64 0) := cell_of_row _ _ 0 _ _ _ hr1
      have r1 : w3.cell? ⟨w.heap.size, 1, none⟩ = some (.int .i64 0) := cell_of_row _ _ 1 _ _ _ hr1
      have r2 : w3.cell? ⟨w.heap.size, 2, none⟩ = some .nilFunc := cell_of_row _ _ 2 _ _ _ hr1
      have r3 : w3.cell? ⟨w.heap.size, 3, none⟩ = some .nilFunc := cell_of_row _ _ 3 _ _ _ hr1
      have fz : ∀ i, w3.frozen? ⟨w.heap.size, i, none⟩ = false := fun i => by simp [World.frozen?, hr1]
      have f0 := fz 0
      have f1 := fz 1
      have f2 := fz 2
      have f3 := fz 3
      have p0 : w3.cell? ⟨w1.heap.size, 0, none⟩ = some (.int .i64 ra) := cell_of_row _ _ 0 _ _ _ ((hb3.block _ (unhide HWL).2).trans (unhide HL2))
      have p1 : w3.cell? ⟨w1.heap.size, 1, none⟩ = some (.int .i64 rbb) := cell_of_row _ _ 1 _ _ _ ((hb3.block _ (unhide HWL).2).trans (unhide HL2))
      have p2 : w3.cell? ⟨w1.heap.size, 2, none⟩ = some (fnV rf) := cell_of_row _ _ 2 _ _ _ ((hb3.block _ (unhide HWL).2).trans (unhide HL2))
      have p3 : w3.cell? ⟨w1.heap.size, 3, none⟩ = some (fnV rg) := cell_of_row _ _ 3 _ _ _ ((hb3.block _ (unhide HWL).2).trans (unhide HL2))
      have hne : w.heap.size ≠ w1.heap.size := by have := (unhide HWL).1; omega
      have HR1 := hide hr1
      clear hr1 fz
      go_wp2_with fail
      obtain ⟨W9, hW9⟩ : ∃ W9, W9 = (((w3.setCell ⟨w.heap.size, 0, none⟩ (.int .i64 ra)).setCell ⟨w.heap.size, 1, none⟩ (.int .i64 rbb)).setCell ⟨w.heap.size, 2, none⟩ (fnV rf)).setCell ⟨w.heap.size, 3, none⟩ (fnV rg) := ⟨_, rfl⟩
      rw [← hW9]
      have hr9 : W9.heap[w.heap.size]? = some (.cells #[.int .i64 ra, .int .i64 rbb, fnV rf, fnV rg] 97 (0, 0)) := by rw [hW9]; exact set4b _ _ _ _ (unhide HR1)
      have e0 : W9.cell? ⟨w.heap.size, 0, none⟩ = some (.int .i64 ra) := cell_of_row _ _ 0 _ _ _ hr9
      have e1 : W9.cell? ⟨w.heap.size, 1, none⟩ = some (.int .i64 rbb) := cell_of_row _ _ 1 _ _ _ hr9
      have e2 : W9.cell? ⟨w.heap.size, 2, none⟩ = some (fnV rf) := cell_of_row _ _ 2 _ _ _ hr9
      have e3 : W9.cell? ⟨w.heap.size, 3, none⟩ = some (fnV rg) := cell_of_row _ _ 3 _ _ _ hr9
      refine bodyPost_ret (v := .agg #[.int .i64 ra, .int .i64 rbb, fnV rf, fnV rg]) (by simp [results, Tryz.results53, go_sem, e0, e1, e2, e3]) rfl ⟨.inr ⟨unhide HFF, rfl⟩, ?_⟩
      rw [hW9]
      exact below_set4 _ _ _ _ ((unhide HB2).trans (hb3.mono (unhide HB2).size)) (Nat.le_refl _)
    · have HFF : Hid (F = false) := hide (by rw [unhide HFit]; exact decide_eq_false (fun h => h.2.2 ⟨by rw [g3]; rfl, g5⟩))
      rw [decide_eq_false g5] at hIs
      clear g3 g5
      go_upto_region 4 with (go_at_call 70; refine (hIs _ (unhide HB2)).mono ?_; clear hIs; rintro ev w3 ⟨rfl, hb3⟩)
      have hbw3 := (unhide HB2).trans (hb3.mono (unhide HB2).size)
      have hc3 := unhide HC w3 hbw3
      have t0 : w3.cell? ⟨ib, 0, none⟩ = some (.slice (some ⟨g, 0, none⟩) n cap) := cell_of_row _ _ 0 _ _ _ hc3
      have t1 : w3.cell? ⟨ib, 1, none⟩ = some (.int .i64 st) := cell_of_row _ _ 1 _ _ _ hc3
      have t2 : w3.cell? ⟨ib, 2, none⟩ = some (.int .i64 a) := cell_of_row _ _ 2 _ _ _ hc3
      have t3 : w3.cell? ⟨ib, 3, none⟩ = some (.int .i64 b) := cell_of_row _ _ 3 _ _ _ hc3
      have t4 : w3.cell? ⟨ib, 4, none⟩ = some .nilFunc := cell_of_row _ _ 4 _ _ _ hc3
      have t5 : w3.cell? ⟨ib, 5, none⟩ = some .nilFunc := cell_of_row _ _ 5 _ _ _ hc3
      have HB3 := hide hbw3
      clear hc3 hbw3
      go_wp2_with (first
        | (go_at_call 56; refine (hPl _ (unhide HB3)).mono ?_; clear hPl; rintro ev w4 ⟨rfl, hb4⟩)
        | (go_at_call 36; refine (hFl _).mono ?_; clear hFl; rintro ev w8 ⟨bb, rfl, hc, hb8⟩))
      exact ⟨rfl, unhide FWD w4 w8 _ bb (unhide HFF) ((unhide HB3).trans (hb4.mono (unhide HB3).size)) hb8 rfl hc⟩
  · have g4 : ((N : Int) == 0) = false := by simp; omega
    have HFF : Hid (F = true) := hide (by rw [unhide HFit]; exact decide_eq_true ⟨by omega, by omega, fun h => g3 (of_decide_eq_true h.1)⟩)
    clear g3
    go_upto_region 5 with fail
    have hr1 : W2.heap[w.heap.size]? = some (.cells #[.int .i64 0, .int .i64 0, .nilFunc, .nilFunc] 97 (0, 0)) := unhide HR2
    have r0 : W2.cell? ⟨w.heap.size, 0, none⟩ = some (.int .i64 0) := cell_of_row _ _ 0 _ _ _ hr1
    have r1 : W2.cell? ⟨w.heap.size, 1, none⟩ = some (.int .i64 0) := cell_of_row _ _ 1 _ _ _ hr1
    have r2 : W2.cell? ⟨w.heap.size, 2, none⟩ = some .nilFunc := cell_of_row _ _ 2 _ _ _ hr1
    have r3 : W2.cell? ⟨w.heap.size, 3, none⟩ = some .nilFunc := cell_of_row _ _ 3 _ _ _ hr1
    have fz : ∀ i, W2.frozen? ⟨w.heap.size, i, none⟩ = false := fun i => by simp [World.frozen?, hr1]
    have f0 := fz 0
    have f1 := fz 1
    have f2 := fz 2
    have f3 := fz 3
    have p0 : W2.cell? ⟨w1.heap.size, 0, none⟩ = some (.int .i64 ra) := cell_of_row _ _ 0 _ _ _ (unhide HL2)
    have p1 : W2.cell? ⟨w1.heap.size, 1, none⟩ = some (.int .i64 rbb) := cell_of_row _ _ 1 _ _ _ (unhide HL2)
    have p2 : W2.cell? ⟨w1.heap.size, 2, none⟩ = some (fnV rf) := cell_of_row _ _ 2 _ _ _ (unhide HL2)
    have p3 : W2.cell? ⟨w1.heap.size, 3, none⟩ = some (fnV rg) := cell_of_row _ _ 3 _ _ _ (unhide HL2)
    have hne : w.heap.size ≠ w1.heap.size := by have := (unhide HWL).1; omega
    have HR1 := hide hr1
    clear hr1 fz
    go_wp2_with fail
    obtain ⟨W9, hW9⟩ : ∃ W9, W9 = (((W2.setCell ⟨w.heap.size, 0, none⟩ (.int .i64 ra)).setCell ⟨w.heap.size, 1, none⟩ (.int .i64 rbb)).setCell ⟨w.heap.size, 2, none⟩ (fnV rf)).setCell ⟨w.heap.size, 3, none⟩ (fnV rg) := ⟨_, rfl⟩
    rw [← hW9]
    have hr9 : W9.heap[w.heap.size]? = some (.cells #[.int .i64 ra, .int .i64 rbb, fnV rf, fnV rg] 97 (0, 0)) := by rw [hW9]; exact set4b _ _ _ _ (unhide HR1)
    have e0 : W9.cell? ⟨w.heap.size, 0, none⟩ = some (.int .i64 ra) := cell_of_row _ _ 0 _ _ _ hr9
    have e1 : W9.cell? ⟨w.heap.size, 1, none⟩ = some (.int .i64 rbb) := cell_of_row _ _ 1 _ _ _ hr9
    have e2 : W9.cell? ⟨w.heap.size, 2, none⟩ = some (fnV rf) := cell_of_row _ _ 2 _ _ _ hr9
    have e3 : W9.cell? ⟨w.heap.size, 3, none⟩ = some (fnV rg) := cell_of_row _ _ 3 _ _ _ hr9
    refine bodyPost_ret (v := .agg #[.int .i64 ra, .int .i64 rbb, fnV rf, fnV rg]) (by simp [results, Tryz.results53, go_sem, e0, e1, e2, e3]) rfl ⟨.inr ⟨unhide HFF, rfl⟩, ?_⟩
    rw [hW9]
    exact below_set4 _ _ _ _ (unhide HB2) (Nat.le_refl _)
end Go.Proofs.YtkikhmleffcajaaGreatDoor

namespace Go.Proofs.YtkikhmleffcajaaGreatDoor
open Go.RowKit Go.Maps

/-- All that is asked of a word in memory. -/
structure WdF (w : World) (B g : Nat) (ws : List WdM) (i : Nat) (x : WdM) (ao : Option Addr) (n' cap' : Nat) : Prop where
  get : ws[i]? = some x
  c0 : w.cell? ⟨g, i * 2, none⟩ = some (.int .i64 (x.place : Int))
  c1 : w.cell? ⟨g, i * 2 + 1, none⟩ = some (.slice ao n' cap')
  v : x.v = .slice ao n' cap'
  ok : x.Ok w B
  small : (parts x.xs).length ≤ 1500
  text : ∀ t, plainW x.xs = some t → t.length ≤ 1500
theorem wdF {w : World} {B g cap : Nat} {ws : List WdM} (h : WsM w B (.slice (some ⟨g, 0, none⟩) ws.length cap) ws) (hs : ∀ x ∈ ws, (parts x.xs).length ≤ 1500 ∧ ∀ t, plainW x.xs = some t → t.length ≤ 1500) (i : Nat) (hi : i < ws.length) : ∃ x ao n' cap', WdF w B g ws i x ao n' cap' := by
  obtain ⟨x, hx⟩ : ∃ x, ws[i]? = some x := ⟨_, List.getElem?_eq_getElem hi⟩
  obtain ⟨g', cap', hv, q0, q1, _⟩ := wd_at h i x hx
  injection hv with e1 e2 e3
  injection e1 with e1
  injection e1 with e1
  subst e1
  have hok := h.all x (List.mem_of_getElem? hx)
  obtain ⟨ao, n', cap2, hxv⟩ := row_form hok
  rw [hxv] at q1
  exact ⟨x, ao, n', cap2, hx, q0, q1, hxv, hok, (hs x (List.mem_of_getElem? hx)).1, (hs x (List.mem_of_getElem? hx)).2⟩
theorem WdF.later {w w' : World} {B g : Nat} {ws : List WdM} {i : Nat} {x : WdM} {ao : Option Addr} {n' cap' : Nat} (h : WdF w B g ws i x ao n' cap') (hb : Below w.heap.size w w') : WdF w' B g ws i x ao n' cap' :=
  ⟨h.get, cell_later hb h.c0, cell_later hb h.c1, h.v, row_same h.ok fun j hj => hb.block j (World.ownsRow.lt h.ok j hj).2, h.small, h.text⟩
theorem WdF.pln {w : World} {B g : Nat} {ws : List WdM} {i : Nat} {x : WdM} {ao : Option Addr} {n' cap' : Nat} (h : WdF w B g ws i x ao n' cap') : pln (ws.map WdM.wd) i = plainW x.xs := by rw [pln_wd, h.get]
theorem WdF.plc {w : World} {B g : Nat} {ws : List WdM} {i : Nat} {x : WdM} {ao : Option Addr} {n' cap' : Nat} (h : WdF w B g ws i x ao n' cap') : plc (ws.map WdM.wd) i = x.place := plc_wd h.get
theorem WdF.nm {w : World} {B g : Nat} {ws : List WdM} {i : Nat} {x : WdM} {ao : Option Addr} {n' cap' : Nat} (h : WdF w B g ws i x ao n' cap') : nmW (ws.map WdM.wd) i = nameW x.xs := by
  unfold nmW; rw [List.getElem?_map, h.get]; rfl
theorem WdF.isM {w : World} {B g : Nat} {ws : List WdM} {i : Nat} {x : WdM} {ao : Option Addr} {n' cap' : Nat} (h : WdF w B g ws i x ao n' cap') (t : ByteArray) :
    Calls Tryz.prog 81 #[.agg #[.int .i64 (x.place : Int), .slice ao n' cap'], .string t] w fun ev w' => ev = .returned (.bool (plainW x.xs == some t.data.toList)) ∧ Below w.heap.size w w' := by
  have := isM_any x t B w h.ok h.small
  unfold WdM.val at this; rw [h.v] at this; exact this
theorem WdF.plain {w : World} {B g : Nat} {ws : List WdM} {i : Nat} {x : WdM} {ao : Option Addr} {n' cap' : Nat} (h : WdF w B g ws i x ao n' cap') :
    Calls Tryz.prog 79 #[.agg #[.int .i64 (x.place : Int), .slice ao n' cap']] w fun ev w' => ∃ t : ByteArray, ev = .returned (.tuple #[.string t, .bool (plainW x.xs).isSome]) ∧ Hid (t.data.toList = (plainW x.xs).getD []) ∧ Below w.heap.size w w' := by
  have := plainM_any x B w h.ok h.small
  unfold WdM.val at this; rw [h.v] at this; exact this
theorem WdF.name {w : World} {B g : Nat} {ws : List WdM} {i : Nat} {x : WdM} {ao : Option Addr} {n' cap' : Nat} (h : WdF w B g ws i x ao n' cap') :
    Calls Tryz.prog 134 #[.agg #[.int .i64 (x.place : Int), .slice ao n' cap']] w fun ev w' => (nameW x.xs = none ∧ Wrg w' ev 5 x.place ∨ ∃ u : ByteArray, nameW x.xs = some u.data.toList ∧ ev = .returned (.string u)) ∧ Below w.heap.size w w' := by
  have := stageName_any x B w h.ok h.small h.text
  unfold WdM.val at this; rw [h.v] at this; exact this
theorem WdF.name_none {w : World} {B g : Nat} {ws : List WdM} {i : Nat} {x : WdM} {ao : Option Addr} {n' cap' : Nat} (h : WdF w B g ws i x ao n' cap') (hn : nameW x.xs = none) :
    Calls Tryz.prog 134 #[.agg #[.int .i64 (x.place : Int), .slice ao n' cap']] w fun ev w' => ∃ b : Nat, ev = .panicked [{ v := .iface 123 (.pointer (some ⟨b, 0, none⟩)), recovered := false }] ∧ w'.heap[b]? = some (.cells #[.int .i64 ((5 : Nat) : Int), .int .i64 (x.place : Int)] 126 (0, 0)) ∧ Below w.heap.size w w' := by
  refine h.name.mono ?_
  rintro ev w' ⟨⟨_, b, he, hc⟩ | ⟨u, hu, _⟩, hb⟩
  · exact ⟨b, he, hc, hb⟩
  · rw [hn] at hu; cases hu
theorem WdF.name_some {w : World} {B g : Nat} {ws : List WdM} {i : Nat} {x : WdM} {ao : Option Addr} {n' cap' : Nat} (h : WdF w B g ws i x ao n' cap') {t : List UInt8} (hn : nameW x.xs = some t) :
    Calls Tryz.prog 134 #[.agg #[.int .i64 (x.place : Int), .slice ao n' cap']] w fun ev w' => ∃ u : ByteArray, ev = .returned (.string u) ∧ Hid (u.data.toList = t) ∧ Below w.heap.size w w' := by
  refine h.name.mono ?_
  rintro ev w' ⟨⟨h0, _⟩ | ⟨u, hu, he⟩, hb⟩
  · rw [hn] at h0; cases h0
  · rw [hn] at hu; injection hu with hu; exact ⟨u, he, hide hu.symm, hb⟩
/-- What the names of a FROM come to. -/
def NamesOut (w : World) (ev : Ending) (ws : List Wd) : Prop := match namesG ws with
  | .error (e, p) => Wrg w ev e p
  | .ok (b, n) => ∃ ub un : ByteArray, ev = .returned (.tuple #[.string ub, .string un]) ∧ ub.data.toList = b ∧ un.data.toList = n
set_option maxHeartbeats 2000000 in
set_option maxRecDepth 10000 in
theorem names_any (B : Nat) (wv : Value) (ws : List WdM) (w : World) (h : WsM w B wv ws) (hs : ∀ x ∈ ws, (parts x.xs).length ≤ 1500 ∧ ∀ t, plainW x.xs = some t → t.length ≤ 1500) (h2 : 2 ≤ ws.length) (h4 : ws.length ≤ 4) :
    Calls Tryz.prog 105 #[wv] w fun ev w' => NamesOut w' ev (ws.map WdM.wd) ∧ Below w.heap.size w w' := by
  obtain ⟨g, cap, rfl, _, _⟩ := World.ownsRow.form h.row (by omega)
  have hlen : (ws.map WdM.wd).length = ws.length := List.length_map _
  obtain ⟨x1, ao1, n1, cap1, X1⟩ := wdF h hs 1 (by omega)
  by_cases e2 : ws.length = 2
  · have HG : Hid (namesG (ws.map WdM.wd) = match nameW x1.xs with | none => .error (5, x1.place) | some b => .ok (b, [])) := hide (by
      unfold namesG
      rw [hlen, if_neg (by omega), if_neg (by omega), if_neg (by omega), X1.nm, X1.plc]
      rfl)
    have HX1 := hide X1
    have c0 := X1.c0
    have c1 := X1.c1
    rw [e2]
    clear h hs h2 h4 e2 hlen X1
    cases hn : nameW x1.xs with
    | none =>
      have hN := (unhide HX1).name_none hn
      have HG2 : Hid (namesG (ws.map WdM.wd) = .error (5, x1.place)) := hide (by rw [unhide HG, hn])
      clear HG hn
      go_enter Tryz.func105, Tryz.ntmps105
      go_wp2_with (go_at_call 134; refine hN.mono ?_; clear hN; rintro ev w8 ⟨bb, rfl, hc, hb8⟩)
      refine ⟨rfl, ?_, hb8⟩
      unfold NamesOut
      rw [unhide HG2]
      exact ⟨bb, rfl, hc⟩
    | some t =>
      have hN := (unhide HX1).name_some hn
      have HG2 : Hid (namesG (ws.map WdM.wd) = .ok (t, [])) := hide (by rw [unhide HG, hn])
      clear HG hn
      go_enter Tryz.func105, Tryz.ntmps105
      go_wp2_with (go_at_call 134; refine hN.mono ?_; clear hN; rintro ev w8 ⟨u, rfl, HU, hb8⟩)
      go_ret2
      refine ⟨?_, hb8⟩
      unfold NamesOut
      rw [unhide HG2]
      exact ⟨u, ⟨#[]⟩, rfl, unhide HU, rfl⟩
  obtain ⟨x2, ao2, n2, cap2, X2⟩ := wdF h hs 2 (by omega)
  have hI := X2.isM ⟨#[65, 83]⟩
  rw [show (⟨#[65, 83]⟩ : ByteArray).data.toList = wAS from rfl] at hI
  have hF2 := fun w' => fail_wrg 5 x2.place w'
  have HX1 := hide X1
  have HX2 := hide X2
  have d0 := X2.c0
  have d1 := X2.c1
  cases hb : (plainW x2.xs == some wAS) with
  | false =>
    have HG2 : Hid (namesG (ws.map WdM.wd) = .error (5, x2.place)) := hide (by
      unfold namesG
      rw [hlen, if_pos ⟨by omega, by rw [X2.pln]; simpa using hb⟩, X2.plc])
    rw [hb] at hI
    obtain ⟨n, hn⟩ : ∃ n, n = ws.length := ⟨_, rfl⟩
    have g1 : (2 : Int) < (n : Int) := by omega
    have HD : Hid (∀ w', Below w.heap.size w w' → w'.cell? ⟨g, 2 * 2, none⟩ = some (.int .i64 (x2.place : Int))) := hide (fun w' hb' => cell_later hb' d0)
    rw [← hn]
    clear h hs h2 h4 e2 hlen X1 X2 hn hb
    go_enter Tryz.func105, Tryz.ntmps105
    go_wp2_with (first
      | (go_at_call 81; refine hI.mono ?_; clear hI; rintro ev w2 ⟨rfl, hb2⟩; have d2 := unhide HD w2 hb2)
      | (go_at_call 36; refine (hF2 _).mono ?_; clear hF2; rintro ev w8 ⟨bb, rfl, hc, hb8⟩))
    refine ⟨rfl, ?_, hb2.trans (hb8.mono hb2.size)⟩
    unfold NamesOut
    rw [unhide HG2]
    exact ⟨bb, rfl, hc⟩
  | true =>
    have hbp : pln (ws.map WdM.wd) 2 = some wAS := by rw [X2.pln]; simpa using hb
    rw [hb] at hI
    by_cases e3 : ws.length = 3
    · obtain ⟨x0, ao0, n0, cap0, X0⟩ := wdF h hs 0 (by omega)
      have HG2 : Hid (namesG (ws.map WdM.wd) = .error (5, x0.place)) := hide (by
        unfold namesG
        rw [hlen, if_neg (fun hh => hh.2 hbp), if_pos e3, X0.plc])
      have hF0 := fun w' => fail_wrg 5 x0.place w'
      have HD : Hid (∀ w', Below w.heap.size w w' → w'.cell? ⟨g, 0 * 2, none⟩ = some (.int .i64 (x0.place : Int))) := hide (fun w' hb' => cell_later hb' X0.c0)
      rw [e3]
      clear h hs h2 h4 e2 e3 hlen X1 X2 X0 hb hbp
      go_enter Tryz.func105, Tryz.ntmps105
      go_wp2_with (first
        | (go_at_call 81; refine hI.mono ?_; clear hI; rintro ev w2 ⟨rfl, hb2⟩; have d2 := unhide HD w2 hb2)
        | (go_at_call 36; refine (hF0 _).mono ?_; clear hF0; rintro ev w8 ⟨bb, rfl, hc, hb8⟩))
      refine ⟨rfl, ?_, hb2.trans (hb8.mono hb2.size)⟩
      unfold NamesOut
      rw [unhide HG2]
      exact ⟨bb, rfl, hc⟩
    · have e4 : ws.length = 4 := by omega
      obtain ⟨x3, ao3, n3, cap3, X3⟩ := wdF h hs 3 (by omega)
      have HG : Hid (namesG (ws.map WdM.wd) = match nameW x3.xs with
          | none => .error (5, x3.place)
          | some n => match nameW x1.xs with
            | none => .error (5, x1.place)
            | some b => .ok (b, n)) := hide (by
        unfold namesG
        rw [hlen, if_neg (fun hh => hh.2 hbp), if_neg e3, if_pos e4, X3.nm, X3.plc, X1.nm, X1.plc]
        rfl)
      have HX3 := hide X3
      have HD : Hid (∀ w', Below w.heap.size w w' → WdF w' B g ws 3 x3 ao3 n3 cap3 ∧ WdF w' B g ws 1 x1 ao1 n1 cap1) := hide (fun w' hb' => ⟨X3.later hb', X1.later hb'⟩)
      rw [e4]
      clear h hs h2 h4 e2 e3 e4 hlen X1 X2 X3 hb hbp
      cases hn3 : nameW x3.xs with
      | none =>
        have HG2 : Hid (namesG (ws.map WdM.wd) = .error (5, x3.place)) := hide (by rw [unhide HG, hn3])
        have HN : Hid (nameW x3.xs = none) := hide hn3
        clear HG hn3
        go_enter Tryz.func105, Tryz.ntmps105
        go_wp2_with (first
          | (go_at_call 81; refine hI.mono ?_; clear hI; rintro ev w2 ⟨rfl, hb2⟩; have HY := hide (unhide HD w2 hb2); have f0 := (unhide HY).1.c0; have f1 := (unhide HY).1.c1)
          | (go_at_call_of 134 (Value.slice ao3 n3 cap3); refine ((unhide HY).1.name_none (unhide HN)).mono ?_; rintro ev w8 ⟨bb, rfl, hc, hb8⟩))
        refine ⟨rfl, ?_, hb2.trans (hb8.mono hb2.size)⟩
        unfold NamesOut
        rw [unhide HG2]
        exact ⟨bb, rfl, hc⟩
      | some t3 =>
        have HN : Hid (nameW x3.xs = some t3) := hide hn3
        cases hn1 : nameW x1.xs with
        | none =>
          have HG2 : Hid (namesG (ws.map WdM.wd) = .error (5, x1.place)) := hide (by rw [unhide HG, hn3]; simp only; rw [hn1])
          have HN1 : Hid (nameW x1.xs = none) := hide hn1
          clear HG hn3 hn1
          go_enter Tryz.func105, Tryz.ntmps105
          go_wp2_with (first
            | (go_at_call 81; refine hI.mono ?_; clear hI; rintro ev w2 ⟨rfl, hb2⟩; have HY := hide (unhide HD w2 hb2); have f0 := (unhide HY).1.c0; have f1 := (unhide HY).1.c1)
            | (go_at_call_of 134 (Value.slice ao3 n3 cap3); refine ((unhide HY).1.name_some (unhide HN)).mono ?_; rintro ev w3 ⟨u3, rfl, HU3, hb3⟩; have HZ := hide (unhide HD w3 (hb2.trans (hb3.mono hb2.size))); have h0 := (unhide HZ).2.c0; have h1 := (unhide HZ).2.c1)
            | (go_at_call_of 134 (Value.slice ao1 n1 cap1); refine ((unhide HZ).2.name_none (unhide HN1)).mono ?_; rintro ev w8 ⟨bb, rfl, hc, hb8⟩))
          refine ⟨rfl, ?_, (hb2.trans (hb3.mono hb2.size)).trans (hb8.mono (Nat.le_trans hb2.size hb3.size))⟩
          unfold NamesOut
          rw [unhide HG2]
          exact ⟨bb, rfl, hc⟩
        | some t1 =>
          have HG2 : Hid (namesG (ws.map WdM.wd) = .ok (t1, t3)) := hide (by rw [unhide HG, hn3]; simp only; rw [hn1])
          have HN1 : Hid (nameW x1.xs = some t1) := hide hn1
          clear HG hn3 hn1
          go_enter Tryz.func105, Tryz.ntmps105
          go_wp2_with (first
            | (go_at_call 81; refine hI.mono ?_; clear hI; rintro ev w2 ⟨rfl, hb2⟩; have HY := hide (unhide HD w2 hb2); have f0 := (unhide HY).1.c0; have f1 := (unhide HY).1.c1)
            | (go_at_call_of 134 (Value.slice ao3 n3 cap3); refine ((unhide HY).1.name_some (unhide HN)).mono ?_; rintro ev w3 ⟨u3, rfl, HU3, hb3⟩; have HZ := hide (unhide HD w3 (hb2.trans (hb3.mono hb2.size))); have h0 := (unhide HZ).2.c0; have h1 := (unhide HZ).2.c1)
            | (go_at_call_of 134 (Value.slice ao1 n1 cap1); refine ((unhide HZ).2.name_some (unhide HN1)).mono ?_; rintro ev w8 ⟨u1, rfl, HU1, hb8⟩))
          go_ret2
          refine ⟨?_, (hb2.trans (hb3.mono hb2.size)).trans (hb8.mono (Nat.le_trans hb2.size hb3.size))⟩
          unfold NamesOut
          rw [unhide HG2]
          exact ⟨u1, u3, rfl, unhide HU1, unhide HU3⟩
end Go.Proofs.YtkikhmleffcajaaGreatDoor

namespace Go.Proofs.YtkikhmleffcajaaGreatDoor
open Go.RowKit Go.Maps

theorem any_read (fb ib : Nat) (w : World) : Calls Tryz.prog 92 #[.pointer (some ⟨fb, 0, none⟩), .pointer (some ⟨ib, 0, none⟩)] w fun ev w' => ev = .returned (.tuple #[]) ∧ w' = w := by
  go_enter Tryz.func92, Tryz.ntmps92
  go_wp2_with fail
  go_end0
  exact ⟨rfl, rfl⟩
/-- What reading an instruction that names no stage comes to. -/
def PlainOut (w : World) (ev : Ending) (r : Res (List Stg × Int)) : Prop := match r with
  | .error (e, p) => Wrg w ev e p
  | .ok _ => ev = .returned (.tuple #[])
theorem InB.form {w : World} {B ib : Nat} {wv : Value} {ws : List WdM} {st a b : Int} {f g : Value} (h : InB w B ib wv ws st a b f g) (h0 : 0 < ws.length) : ∃ gw cap, wv = .slice (some ⟨gw, 0, none⟩) ws.length cap := by
  obtain ⟨gw, cap, e, _, _⟩ := World.ownsRow.form h.wsm.row h0
  exact ⟨gw, cap, e⟩
set_option maxHeartbeats 2000000 in
set_option maxRecDepth 10000 in
theorem env_read (B fb ib : Nat) (wv : Value) (ws : List WdM) (sts : List Stg) (st a b : Int) (f g : Value) (w : World) (hi : InB w B ib wv ws st a b f g) (h2 : 1 < ws.length) :
    Calls Tryz.prog 98 #[.pointer (some ⟨fb, 0, none⟩), .pointer (some ⟨ib, 0, none⟩)] w fun ev w' => PlainOut w' ev (readG 6 sts (ws.map WdM.wd)) ∧ Below w.heap.size w w' := by
  obtain ⟨gw, cap, hv⟩ := hi.form (by omega)
  have hws := hi.wsm
  rw [hv] at hws
  obtain ⟨x1, ao1, n1, cap1, X1⟩ := wdF hws hi.small 1 h2
  have c0 : w.cell? ⟨ib, 0, none⟩ = some wv := cell_of_row _ _ 0 _ _ _ hi.cells
  rw [hv] at c0
  have q0 := X1.c0
  have q1 := X1.c1
  have hP := X1.plain
  have hx1 := X1.text
  have HG : Hid (readG 6 sts (ws.map WdM.wd) = match plainW x1.xs with
    | some t => if isVarN t = true then .ok (sts, -1) else .error (5, x1.place)
    | none => .error (5, x1.place)) := hide (by
      unfold readG
      simp only
      rw [X1.pln, X1.plc]
      rfl)
  have hF := fun w' => fail_wrg 5 x1.place w'
  obtain ⟨n, hn⟩ : ∃ n, n = ws.length := ⟨_, rfl⟩
  rw [← hn] at c0
  have i1 : (1 : Int) < (n : Int) := by omega
  have HD : Hid (∀ w', Below w.heap.size w w' → w'.cell? ⟨ib, 0, none⟩ = some (.slice (some ⟨gw, 0, none⟩) n cap) ∧ w'.cell? ⟨gw, 1 * 2, none⟩ = some (.int .i64 (x1.place : Int))) := hide (fun w' hb' => ⟨cell_later hb' c0, cell_later hb' q0⟩)
  clear hi hws X1 hv hn h2
  cases hx : plainW x1.xs with
  | none =>
    have HG2 : Hid (readG 6 sts (ws.map WdM.wd) = .error (5, x1.place)) := hide (by rw [unhide HG, hx])
    rw [hx] at hP
    simp only [Option.isSome_none, Option.getD_none] at hP
    clear HG hx
    go_enter Tryz.func98, Tryz.ntmps98
    go_wp2_with (first
      | (go_at_call 79; refine hP.mono ?_; clear hP; rintro ev w2 ⟨u, rfl, HU, hb2⟩; obtain ⟨k0, k1⟩ := unhide HD w2 hb2)
      | (go_at_call 36; refine (hF _).mono ?_; clear hF; rintro ev w8 ⟨bb, rfl, hc, hb8⟩))
    refine ⟨rfl, ?_, hb2.trans (hb8.mono hb2.size)⟩
    unfold PlainOut
    rw [unhide HG2]
    exact ⟨bb, rfl, hc⟩
  | some t =>
    have htl := hx1 t hx
    rw [hx] at hP
    simp only [Option.isSome_some, Option.getD_some] at hP
    have hV : ∀ (u : ByteArray), u.data.toList = t → ∀ w', Calls Tryz.prog 76 #[.string u] w' fun e w'' => e = .returned (.bool (isVarN t)) ∧ w'' = w' := fun u hu w' => by
      have := isVar_any u w' (by rw [Lib.size_eq, hu]; omega)
      rw [hu] at this; exact this
    have HV := hide hV
    clear hV
    cases hb : isVarN t with
    | false =>
      have HG2 : Hid (readG 6 sts (ws.map WdM.wd) = .error (5, x1.place)) := hide (by rw [unhide HG, hx]; simp [hb])
      rw [hb] at HV
      clear HG hx hb hx1
      go_enter Tryz.func98, Tryz.ntmps98
      go_wp2_with (first
        | (go_at_call 79; refine hP.mono ?_; clear hP; rintro ev w2 ⟨u, rfl, HU, hb2⟩; obtain ⟨k0, k1⟩ := unhide HD w2 hb2)
        | (go_at_call 76; refine (unhide HV u (unhide HU) _).mono ?_; rintro ev w3 ⟨rfl, hw⟩; obtain rfl := hw.symm)
        | (go_at_call 36; refine (hF _).mono ?_; clear hF; rintro ev w8 ⟨bb, rfl, hc, hb8⟩))
      refine ⟨rfl, ?_, hb2.trans (hb8.mono hb2.size)⟩
      unfold PlainOut
      rw [unhide HG2]
      exact ⟨bb, rfl, hc⟩
    | true =>
      have HG2 : Hid (readG 6 sts (ws.map WdM.wd) = .ok (sts, -1)) := hide (by rw [unhide HG, hx]; simp [hb])
      rw [hb] at HV
      clear HG hx hb hx1
      go_enter Tryz.func98, Tryz.ntmps98
      go_wp2_with (first
        | (go_at_call 79; refine hP.mono ?_; clear hP; rintro ev w2 ⟨u, rfl, HU, hb2⟩)
        | (go_at_call 76; refine (unhide HV u (unhide HU) _).mono ?_; rintro ev w3 ⟨rfl, hw⟩; obtain rfl := hw.symm))
      go_end0
      refine ⟨?_, hb2⟩
      unfold PlainOut
      rw [unhide HG2]
set_option maxHeartbeats 2000000 in
set_option maxRecDepth 10000 in
theorem mkdir_read (B fb ib : Nat) (wv : Value) (ws : List WdM) (sts : List Stg) (st a b : Int) (f g : Value) (w : World) (hi : InB w B ib wv ws st a b f g) (h2 : 0 < ws.length) :
    Calls Tryz.prog 95 #[.pointer (some ⟨fb, 0, none⟩), .pointer (some ⟨ib, 0, none⟩)] w fun ev w' => PlainOut w' ev (readG 4 sts (ws.map WdM.wd)) ∧ Below w.heap.size w w' := by
  obtain ⟨gw, cap, hv⟩ := hi.form (by omega)
  have hws := hi.wsm
  rw [hv] at hws
  have hsh := hi.short
  have c0 : w.cell? ⟨ib, 0, none⟩ = some wv := cell_of_row _ _ 0 _ _ _ hi.cells
  rw [hv] at c0
  by_cases h3 : ws.length < 3
  · have HG2 : Hid (readG 4 sts (ws.map WdM.wd) = .ok (sts, -1)) := hide (by unfold readG; simp only; rw [List.length_map, if_pos h3])
    obtain ⟨n, hn⟩ : ∃ n, n = ws.length := ⟨_, rfl⟩
    rw [← hn] at c0
    have g1 : (n : Int) < 3 := by omega
    clear hi hws hv hn h2 h3
    go_enter Tryz.func95, Tryz.ntmps95
    go_wp2_with fail
    refine bodyPost_ret (results_none rfl _ _ _) rfl ?_
    refine ⟨?_, Below.refl _ _⟩
    unfold PlainOut
    rw [unhide HG2]
  obtain ⟨x1, ao1, n1, cap1, X1⟩ := wdF hws hi.small 2 (by omega)
  have q0 := X1.c0
  have q1 := X1.c1
  have hP := X1.plain
  have hx1 := X1.text
  have HG : Hid (readG 4 sts (ws.map WdM.wd) = match plainW x1.xs with
    | some t => if modeN t = true then .ok (sts, -1) else .error (5, x1.place)
    | none => .error (5, x1.place)) := hide (by
      unfold readG
      simp only
      rw [List.length_map, if_neg h3, X1.pln, X1.plc]
      rfl)
  have hF := fun w' => fail_wrg 5 x1.place w'
  obtain ⟨n, hn⟩ : ∃ n, n = ws.length := ⟨_, rfl⟩
  rw [← hn] at c0
  have g1 : ¬ (n : Int) < 3 := by omega
  have i1 : (2 : Int) < (n : Int) := by omega
  have HD : Hid (∀ w', Below w.heap.size w w' → w'.cell? ⟨ib, 0, none⟩ = some (.slice (some ⟨gw, 0, none⟩) n cap) ∧ w'.cell? ⟨gw, 2 * 2, none⟩ = some (.int .i64 (x1.place : Int))) := hide (fun w' hb' => ⟨cell_later hb' c0, cell_later hb' q0⟩)
  clear hi hws X1 hv hn h2 h3
  cases hx : plainW x1.xs with
  | none =>
    have HG2 : Hid (readG 4 sts (ws.map WdM.wd) = .error (5, x1.place)) := hide (by rw [unhide HG, hx])
    rw [hx] at hP
    simp only [Option.isSome_none, Option.getD_none] at hP
    clear HG hx
    go_enter Tryz.func95, Tryz.ntmps95
    go_wp2_with (first
      | (go_at_call 79; refine hP.mono ?_; clear hP; rintro ev w2 ⟨u, rfl, HU, hb2⟩; obtain ⟨k0, k1⟩ := unhide HD w2 hb2)
      | (go_at_call 36; refine (hF _).mono ?_; clear hF; rintro ev w8 ⟨bb, rfl, hc, hb8⟩))
    refine ⟨rfl, ?_, hb2.trans (hb8.mono hb2.size)⟩
    unfold PlainOut
    rw [unhide HG2]
    exact ⟨bb, rfl, hc⟩
  | some t =>
    rw [hx] at hP
    simp only [Option.isSome_some, Option.getD_some] at hP
    have hV : ∀ (u : ByteArray), u.data.toList = t → ∀ w', Calls Tryz.prog 126 #[.string u] w' fun e w'' => e = .returned (.bool (modeN t)) ∧ w'' = w' := fun u hu w' => by
      have := mode_any u w'
      rw [hu] at this; exact this
    have HV := hide hV
    clear hV
    cases hb : modeN t with
    | false =>
      have HG2 : Hid (readG 4 sts (ws.map WdM.wd) = .error (5, x1.place)) := hide (by rw [unhide HG, hx]; simp [hb])
      rw [hb] at HV
      clear HG hx hb hx1
      go_enter Tryz.func95, Tryz.ntmps95
      go_wp2_with (first
        | (go_at_call 79; refine hP.mono ?_; clear hP; rintro ev w2 ⟨u, rfl, HU, hb2⟩; obtain ⟨k0, k1⟩ := unhide HD w2 hb2)
        | (go_at_call 126; refine (unhide HV u (unhide HU) _).mono ?_; rintro ev w3 ⟨rfl, hw⟩; obtain rfl := hw.symm)
        | (go_at_call 36; refine (hF _).mono ?_; clear hF; rintro ev w8 ⟨bb, rfl, hc, hb8⟩))
      refine ⟨rfl, ?_, hb2.trans (hb8.mono hb2.size)⟩
      unfold PlainOut
      rw [unhide HG2]
      exact ⟨bb, rfl, hc⟩
    | true =>
      have HG2 : Hid (readG 4 sts (ws.map WdM.wd) = .ok (sts, -1)) := hide (by rw [unhide HG, hx]; simp [hb])
      rw [hb] at HV
      clear HG hx hb hx1
      go_enter Tryz.func95, Tryz.ntmps95
      go_wp2_with (first
        | (go_at_call 79; refine hP.mono ?_; clear hP; rintro ev w2 ⟨u, rfl, HU, hb2⟩)
        | (go_at_call 126; refine (unhide HV u (unhide HU) _).mono ?_; rintro ev w3 ⟨rfl, hw⟩; obtain rfl := hw.symm))
      go_end0
      refine ⟨?_, hb2⟩
      unfold PlainOut
      rw [unhide HG2]
end Go.Proofs.YtkikhmleffcajaaGreatDoor

namespace Go.Proofs.YtkikhmleffcajaaGreatDoor
open Go.RowKit Go.Maps

theorem row_tag {w : World} {B e z n q : Nat} {v : Value} {xs : List Value} {c : Array Value} {t : TypeId} (h : w.ownsRow B e z v n xs) (hq : w.heap[q]? = some (.cells c t (0, 0))) (hne : e ≠ t) : v.ownBlock ≠ some q := by
  intro e'
  rcases h.2 with ⟨rfl, _⟩ | ⟨a, cap, cur, rfl, _, ha, _⟩
  · cases e'
  obtain rfl : a = q := by simpa [Value.ownBlock] using e'
  rw [ha] at hq
  injection hq with hq
  injection hq with _ hq
  exact hne hq
theorem row_off {w w' : World} {B e z n q : Nat} {v : Value} {xs : List Value} (h : w.ownsRow B e z v n xs) (ht : Tb w.heap.size q w w') (hne : v.ownBlock ≠ some q) : w'.ownsRow B e z v n xs :=
  row_same h fun k hk => ht.block k (World.ownsRow.lt h k hk).2 (fun e => hne (by rw [← e]; exact hk))
theorem WsM.off {w w' : World} {B q : Nat} {v : Value} {ms : List WdM} {c : Array Value} {t : TypeId} (h : WsM w B v ms) (hq : w.heap[q]? = some (.cells c t (0, 0))) (h1 : t ≠ 133) (h2 : t ≠ 161) (ht : Tb w.heap.size q w w') : WsM w' B v ms :=
  ⟨row_off h.row ht (row_tag h.row hq h1.symm), fun m hm => row_off (h.all m hm) ht (row_tag (h.all m hm) hq h2.symm)⟩
theorem InM.Ok.off {m : InM} {w w' : World} {B q : Nat} {c : Array Value} {t : TypeId} (h : m.Ok w B) (hq : w.heap[q]? = some (.cells c t (0, 0))) (h1 : t ≠ 133) (h2 : t ≠ 161) (ht : Tb w.heap.size q w w') : m.Ok w' B :=
  ⟨h.ws.off hq h1 h2 ht, h.op, h.least, h.small, h.short⟩
/-- What turns in an instruction alone leaves a file as it is. -/
theorem FileM.off {w w' : World} {B fb ib : Nat} {sv : Value} {ss : List StM} {c : Array Value} (h : FileM w B fb sv ss) (hq : w.heap[ib]? = some (.cells c 99 (0, 0))) (hap : ∀ s ∈ ss, s.iv.ownBlock ≠ some ib) (ht : Tb w.heap.size ib w w') : FileM w' B fb sv ss := by
  have hne : fb ≠ ib := by
    rintro rfl
    have := h.cells
    rw [hq] at this
    injection this with this
    injection this with _ this
    cases this
  refine ⟨(ht.block fb h.lt hne).trans h.cells, h.base, row_off h.row ht (row_tag h.row hq (by decide)), fun s hs => ⟨row_off (h.all s hs).row ht (hap s hs), fun m hm => ((h.all s hs).all m hm).off hq (by decide) (by decide) ht, (h.all s hs).short⟩, h.short⟩
theorem InB.to {w : World} {B ib : Nat} {wv : Value} {ws : List WdM} {st a b : Int} {f g : Value} (h : InB w B ib wv ws st a b f g) (k : Int) : InB (w.setCell ⟨ib, 1, none⟩ (.int .i64 k)) B ib wv ws k a b f g :=
  ⟨heap_setCell_same _ _ 1 _ _ _ h.cells, h.wsm.off h.cells (by decide) (by decide) (Tb.to _ _ _ _ _), h.base, h.short, h.small⟩
theorem below_drewN2 {w w1 : World} {n : Nat} (h : Below (w.drewN n).heap.size (w.drewN n) w1) : Below w.heap.size w w1 := ⟨h.os, h.tape, h.output, h.size, h.block⟩
/-- What reading a COPY comes to. -/
def CopyOut (w : World) (ev : Ending) (B ib : Nat) (wv : Value) (ws : List WdM) (a b : Int) (f g : Value) (r : Res (List Stg × Int)) : Prop := match r with
  | .error (e, p) => Wrg w ev e p
  | .ok (_, k) => ev = .returned (.tuple #[]) ∧ InB w B ib wv ws k a b f g
theorem findG_lt (st : List Stg) (nm : List UInt8) : -1 ≤ findG st nm ∧ findG st nm < st.length := by
  unfold findG
  cases h : st.findIdx? (fun s => s.name == nm) with
  | none => simp; omega
  | some i =>
    have := (List.findIdx?_eq_some_iff_getElem.1 h).1
    simp only; omega
set_option maxHeartbeats 4000000 in
set_option maxRecDepth 10000 in
theorem copy_read (B fb ib : Nat) (sv wv : Value) (ss : List StM) (ws : List WdM) (a b : Int) (f g : Value) (w : World) (h : FileM w B fb sv ss) (hi : InB w B ib wv ws (-1) a b f g) (h3 : 3 ≤ ws.length) (h4 : ws.length ≤ 4) (hss : 0 < ss.length) (hfg : ∃ f' g' : Nat, f = fnV f' ∧ g = fnV g') :
    Calls Tryz.prog 90 #[.pointer (some ⟨fb, 0, none⟩), .pointer (some ⟨ib, 0, none⟩)] w fun ev w' => CopyOut w' ev B ib wv ws a b f g (copyG (ss.map StM.stg) (ws.map WdM.wd)) ∧ Tb w.heap.size ib w w' := by
  obtain ⟨f', g', hf, hg⟩ := hfg
  obtain ⟨gw, cap, hv⟩ := hi.form (by omega)
  have hws := hi.wsm
  rw [hv] at hws
  obtain ⟨x1, ao1, n1, cap1, X1⟩ := wdF hws hi.small 1 (by omega)
  obtain ⟨x0, ao0, n0, cap0, X0⟩ := wdF hws hi.small 0 (by omega)
  have hci := hi.cells
  rw [hv, hf, hg] at hci
  obtain ⟨n, hn⟩ : ∃ n, n = ws.length := ⟨_, rfl⟩
  rw [← hn] at hci
  have c0 : w.cell? ⟨ib, 0, none⟩ = some (.slice (some ⟨gw, 0, none⟩) n cap) := cell_of_row _ _ 0 _ _ _ hci
  have q0 := X1.c0
  have q1 := X1.c1
  have nn := World.new_ne w ⟨gw, 1 * 2, none⟩ q0
  have n2 := World.new_ne w ⟨ib, 0, none⟩ c0
  obtain ⟨W1, hW1⟩ : ∃ W1, W1 = w.alloc (.cells #[.int .i64 (x1.place : Int), .slice ao1 n1 cap1] 133) := ⟨_, rfl⟩
  have hb1 : Below w.heap.size w W1 := by rw [hW1]; exact (Below.refl _ _).alloc (Nat.le_refl _) _
  have hc1 : W1.heap[w.heap.size]? = some (.cells #[.int .i64 (x1.place : Int), .slice ao1 n1 cap1] 133 (0, 0)) := by rw [hW1]; exact heap_alloc_new _ _
  have hz1 : w.heap.size < W1.heap.size := by rw [hW1]; simp
  have p0 : W1.cell? ⟨w.heap.size, 0, none⟩ = some (.int .i64 (x1.place : Int)) := cell_of_row _ _ 0 _ _ _ hc1
  have p1 : W1.cell? ⟨w.heap.size, 1, none⟩ = some (.slice ao1 n1 cap1) := cell_of_row _ _ 1 _ _ _ hc1
  have hSO := stageOf_any x1 B W1 (X1.later hb1).ok X1.small
  unfold WdM.val at hSO
  rw [X1.v] at hSO
  have HG : Hid (copyG (ss.map StM.stg) (ws.map WdM.wd) = match fromW x1.xs with
    | none => if n = 4 then .error (5, x0.place) else .ok (ss.map StM.stg, -1)
    | some m =>
      if n ≠ 4 then .error (5, x0.place)
      else if stageNm m = false then .error (5, x1.place)
      else if findG (ss.map StM.stg) m = -1 ∨ findG (ss.map StM.stg) m = (ss.length : Int) - 1 then .error (6, x1.place)
      else .ok (ss.map StM.stg, findG (ss.map StM.stg) m)) := hide (by
    unfold copyG
    rw [List.getElem?_map, X1.get, X0.plc, X1.plc, List.length_map, List.length_map, ← hn]
    rfl)
  have hF5 := fun w' => fail_wrg 5 x0.place w'
  have hF1 := fun w' => fail_wrg 5 x1.place w'
  have hF6 := fun w' => fail_wrg 6 x1.place w'
  have HF := hide h
  have HI := hide hi
  have HCI : Hid (∀ w', Below w.heap.size w w' → w'.heap[ib]? = some (.cells #[.slice (some ⟨gw, 0, none⟩) n cap, .int .i64 (-1), .int .i64 a, .int .i64 b, fnV f', fnV g'] 99 (0, 0))) := hide (fun w' hb' => (hb'.block ib hi.lt).trans hci)
  have HC1 : Hid (∀ w', Below W1.heap.size W1 w' → w'.cell? ⟨w.heap.size, 0, none⟩ = some (.int .i64 (x1.place : Int))) := hide (fun w' hb' => cell_later hb' p0)
  have HPL : Hid (∀ w', Below w.heap.size w w' → Calls Tryz.prog 56 #[.agg #[.slice (some ⟨gw, 0, none⟩) n cap, .int .i64 (-1), .int .i64 a, .int .i64 b, fnV f', fnV g']] w' fun ev w'' => ev = .returned (.int .i64 (x0.place : Int)) ∧ Below w'.heap.size w' w'') := hide (fun w' hb' => by
    have := place_gen wv ws x0 (-1) a b (fnV f') (fnV g') B w' (hi.wsm.below hb') X0.get
    rw [hv, ← hn] at this; exact this)
  have HB1 := hide hb1
  have HWV : Hid (wv = .slice (some ⟨gw, 0, none⟩) n cap) := hide (by rw [hv, hn])
  have hn4 : n ≤ 4 := by omega
  have i1 : (1 : Int) < (n : Int) := by omega
  have HTX := hide X1.text
  clear h hi hws hci hc1 X0 X1 hv hn h3 h4 hb1
  cases hfr : fromW x1.xs with
  | none =>
    rw [hfr] at hSO
    simp only [Option.isSome_none] at hSO
    by_cases e4 : n = 4
    · have HG2 : Hid (copyG (ss.map StM.stg) (ws.map WdM.wd) = .error (5, x0.place)) := hide (by rw [unhide HG, hfr]; simp only; rw [if_pos e4])
      have g4 : ((n : Int) == 4) = true := by simp; omega
      clear HG hfr e4
      go_enter Tryz.func90, Tryz.ntmps90
      go_upto_region 1 with fail
      rw [← hW1]
      clear hW1
      go_upto_region 2 with (go_at_call 110; refine hSO.mono ?_; clear hSO; rintro ev w2 ⟨u, rfl, HU, hb2⟩)
      have hbw2 : Below w.heap.size w w2 := (unhide HB1).trans (hb2.mono (unhide HB1).size)
      have hc2 := unhide HCI w2 hbw2
      have d0 : w2.cell? ⟨ib, 0, none⟩ = some (.slice (some ⟨gw, 0, none⟩) n cap) := cell_of_row _ _ 0 _ _ _ hc2
      have d1 : w2.cell? ⟨ib, 1, none⟩ = some (.int .i64 (-1)) := cell_of_row _ _ 1 _ _ _ hc2
      have d2 : w2.cell? ⟨ib, 2, none⟩ = some (.int .i64 a) := cell_of_row _ _ 2 _ _ _ hc2
      have d3 : w2.cell? ⟨ib, 3, none⟩ = some (.int .i64 b) := cell_of_row _ _ 3 _ _ _ hc2
      have d4 : w2.cell? ⟨ib, 4, none⟩ = some (fnV f') := cell_of_row _ _ 4 _ _ _ hc2
      have d5 : w2.cell? ⟨ib, 5, none⟩ = some (fnV g') := cell_of_row _ _ 5 _ _ _ hc2
      have HBW2 := hide hbw2
      clear hc2 hbw2 c0 q0 q1
      go_wp2_with (first
        | (go_at_call 56; refine (unhide HPL _ (unhide HBW2)).mono ?_; rintro ev w3 ⟨rfl, hb3⟩)
        | (go_at_call 36; refine (hF5 _).mono ?_; clear hF5; rintro ev w8 ⟨bb, rfl, hc, hb8⟩))
      refine ⟨rfl, ?_, Tb.of_below (((unhide HBW2).trans (hb3.mono (unhide HBW2).size)).trans (hb8.mono (Nat.le_trans (unhide HBW2).size hb3.size)))⟩
      unfold CopyOut
      rw [unhide HG2]
      exact ⟨bb, rfl, hc⟩
    · have HG2 : Hid (copyG (ss.map StM.stg) (ws.map WdM.wd) = .ok (ss.map StM.stg, -1)) := hide (by rw [unhide HG, hfr]; simp only; rw [if_neg e4])
      have g4 : ((n : Int) == 4) = false := by simp; omega
      clear HG hfr e4
      go_enter Tryz.func90, Tryz.ntmps90
      go_upto_region 1 with fail
      rw [← hW1]
      clear hW1
      go_upto_region 2 with (go_at_call 110; refine hSO.mono ?_; clear hSO; rintro ev w2 ⟨u, rfl, HU, hb2⟩)
      have hbw2 : Below w.heap.size w w2 := (unhide HB1).trans (hb2.mono (unhide HB1).size)
      have hc2 := unhide HCI w2 hbw2
      have d0 : w2.cell? ⟨ib, 0, none⟩ = some (.slice (some ⟨gw, 0, none⟩) n cap) := cell_of_row _ _ 0 _ _ _ hc2
      have HBW2 := hide hbw2
      clear hc2 hbw2 c0 q0 q1
      go_wp2_with fail
      refine bodyPost_ret (results_none rfl _ _ _) rfl ?_
      refine ⟨?_, Tb.of_below (unhide HBW2)⟩
      unfold CopyOut
      rw [unhide HG2]
      exact ⟨rfl, (unhide HI).below (unhide HBW2)⟩
  | some m =>
    rw [hfr] at hSO
    simp only [Option.isSome_some] at hSO
    have hml : m.length ≤ 1500 := by
      unfold fromW at hfr
      cases hp : plainW x1.xs with
      | none => rw [hp] at hfr; cases hfr
      | some t =>
        rw [hp] at hfr
        simp only at hfr
        split at hfr
        · injection hfr with hfr
          rw [← hfr, List.length_drop]
          have := unhide HTX t hp; omega
        · cases hfr
    by_cases e4 : n = 4
    · have g4 : ((n : Int) == 4) = true := by simp; omega
      have hSN : ∀ (u : ByteArray), u.data.toList = m → ∀ w', Calls Tryz.prog 111 #[.string u] w' fun e w'' => e = .returned (.bool (stageNm m)) ∧ w'' = w' := fun u hu w' => by
        have := stageNm_any u w' (by rw [Lib.size_eq, hu]; omega)
        rw [hu] at this; exact this
      have HSN := hide hSN
      clear hSN
      cases hs : stageNm m with
      | false =>
        have HG2 : Hid (copyG (ss.map StM.stg) (ws.map WdM.wd) = .error (5, x1.place)) := hide (by rw [unhide HG, hfr]; simp only; rw [if_neg (by simpa using e4), if_pos hs])
        rw [hs] at HSN
        clear HG hfr e4 hs
        go_enter Tryz.func90, Tryz.ntmps90
        go_upto_region 1 with fail
        rw [← hW1]
        clear hW1
        go_upto_region 2 with (go_at_call 110; refine hSO.mono ?_; clear hSO; rintro ev w2 ⟨u, rfl, HU, hb2⟩)
        have hbw2 : Below w.heap.size w w2 := (unhide HB1).trans (hb2.mono (unhide HB1).size)
        have hc2 := unhide HCI w2 hbw2
        have d0 : w2.cell? ⟨ib, 0, none⟩ = some (.slice (some ⟨gw, 0, none⟩) n cap) := cell_of_row _ _ 0 _ _ _ hc2
        have d1 : w2.cell? ⟨ib, 1, none⟩ = some (.int .i64 (-1)) := cell_of_row _ _ 1 _ _ _ hc2
        have d2 : w2.cell? ⟨ib, 2, none⟩ = some (.int .i64 a) := cell_of_row _ _ 2 _ _ _ hc2
        have d3 : w2.cell? ⟨ib, 3, none⟩ = some (.int .i64 b) := cell_of_row _ _ 3 _ _ _ hc2
        have d4 : w2.cell? ⟨ib, 4, none⟩ = some (fnV f') := cell_of_row _ _ 4 _ _ _ hc2
        have d5 : w2.cell? ⟨ib, 5, none⟩ = some (fnV g') := cell_of_row _ _ 5 _ _ _ hc2
        have HBW2 := hide hbw2
        have HU2 : Hid (u.data.toList = m) := hide (unhide HU m rfl)
        have w0 := unhide HC1 w2 hb2
        clear hc2 hbw2 c0 q0 q1 HU
        go_wp2_with (first
          | (go_at_call 111; refine (unhide HSN u (unhide HU2) _).mono ?_; rintro ev w3 ⟨rfl, hw⟩; obtain rfl := hw.symm)
          | (go_at_call 36; refine (hF1 _).mono ?_; clear hF1; rintro ev w8 ⟨bb, rfl, hc, hb8⟩))
        refine ⟨rfl, ?_, Tb.of_below ((unhide HBW2).trans (hb8.mono (unhide HBW2).size))⟩
        unfold CopyOut
        rw [unhide HG2]
        exact ⟨bb, rfl, hc⟩
      | true =>
        have HG1 : Hid (copyG (ss.map StM.stg) (ws.map WdM.wd) = if findG (ss.map StM.stg) m = -1 ∨ findG (ss.map StM.stg) m = (ss.length : Int) - 1 then .error (6, x1.place) else .ok (ss.map StM.stg, findG (ss.map StM.stg) m)) := hide (by
          rw [unhide HG, hfr]; simp only; rw [if_neg (by simpa using e4), if_neg (by simp [hs])])
        rw [hs] at HSN
        clear HG hfr e4 hs
        go_enter Tryz.func90, Tryz.ntmps90
        go_upto_region 1 with fail
        rw [← hW1]
        clear hW1
        go_upto_region 2 with (go_at_call 110; refine hSO.mono ?_; clear hSO; rintro ev w2 ⟨u, rfl, HU, hb2⟩)
        have hbw2 : Below w.heap.size w w2 := (unhide HB1).trans (hb2.mono (unhide HB1).size)
        have hc2 := unhide HCI w2 hbw2
        have d0 : w2.cell? ⟨ib, 0, none⟩ = some (.slice (some ⟨gw, 0, none⟩) n cap) := cell_of_row _ _ 0 _ _ _ hc2
        have d1 : w2.cell? ⟨ib, 1, none⟩ = some (.int .i64 (-1)) := cell_of_row _ _ 1 _ _ _ hc2
        have d2 : w2.cell? ⟨ib, 2, none⟩ = some (.int .i64 a) := cell_of_row _ _ 2 _ _ _ hc2
        have d3 : w2.cell? ⟨ib, 3, none⟩ = some (.int .i64 b) := cell_of_row _ _ 3 _ _ _ hc2
        have d4 : w2.cell? ⟨ib, 4, none⟩ = some (fnV f') := cell_of_row _ _ 4 _ _ _ hc2
        have d5 : w2.cell? ⟨ib, 5, none⟩ = some (fnV g') := cell_of_row _ _ 5 _ _ _ hc2
        have HBW2 := hide hbw2
        have HU2 : Hid (u.data.toList = m) := hide (unhide HU m rfl)
        have w0 := unhide HC1 w2 hb2
        clear hc2 hbw2 c0 q0 q1 HU
        have hFd := find_any B fb sv ss u w2 ((unhide HF).below (unhide HBW2))
        rw [unhide HU2] at hFd
        obtain ⟨K, hK⟩ : ∃ K, K = findG (ss.map StM.stg) m := ⟨_, rfl⟩
        have hKl := findG_lt (ss.map StM.stg) m
        rw [List.length_map, ← hK] at hKl
        rw [← hK] at HG1 hFd
        clear hK
        have z1 : w2.frozen? ⟨ib, 1, none⟩ = false := by
          have := unhide HCI w2 (unhide HBW2)
          simp [World.frozen?, this]
        have HHC : Hid (∀ w', Below w.heap.size w w' → w'.cell? ⟨ib, 1, none⟩ = some (.int .i64 (-1)) ∧ w'.frozen? ⟨ib, 1, none⟩ = false) := hide (fun w' hb' => ⟨cell_of_row _ _ 1 _ _ _ (unhide HCI w' hb'), by simp [World.frozen?, unhide HCI w' hb']⟩)
        go_upto_region 8 with (first
          | (go_at_call 111; refine (unhide HSN u (unhide HU2) _).mono ?_; rintro ev w3 ⟨rfl, hw⟩; obtain rfl := hw.symm)
          | (go_at_call 106; refine hFd.mono ?_; clear hFd; rintro ev w4 ⟨rfl, hb4⟩; obtain ⟨k1, k2⟩ := unhide HHC w4 ((unhide HBW2).trans (hb4.mono (unhide HBW2).size))))
        have hbw4 : Below w.heap.size w w4 := (unhide HBW2).trans (hb4.mono (unhide HBW2).size)
        obtain ⟨W5, hW5⟩ : ∃ W5, W5 = w4.setCell ⟨ib, 1, none⟩ (.int .i64 K) := ⟨_, rfl⟩
        rw [← hW5]
        have hI5 : InB W5 B ib wv ws K a b f g := by rw [hW5]; exact ((unhide HI).below hbw4).to K
        have hT5 : Tb w4.heap.size ib w4 W5 := by rw [hW5]; exact Tb.to _ _ _ _ _
        have hT : Tb w.heap.size ib w W5 := (Tb.of_below hbw4).trans (hT5.mono hbw4.size)
        have hF4 := (unhide HF).below hbw4
        have hfne : fb ≠ ib := by
          rintro rfl
          have h1 := (unhide HF).cells
          have h2 := (unhide HI).cells
          rw [h1] at h2
          injection h2 with h2
          injection h2 with _ h2
          cases h2
        obtain ⟨ao2, cap2, hsv⟩ : ∃ ao cap, sv = .slice ao ss.length cap := by
          rcases (unhide HF).row.2 with ⟨e, h0⟩ | ⟨g, cap, cur, e, _⟩
          · exact ⟨none, 0, by rw [e, h0]⟩
          · exact ⟨_, _, e⟩
        have s0 : W5.cell? ⟨fb, 0, none⟩ = some (.slice ao2 ss.length cap2) := by
          rw [World.cell?_of_block (hT5.block fb hF4.lt hfne), ← hsv]; exact hF4.c0
        have s1 : W5.cell? ⟨ib, 1, none⟩ = some (.int .i64 K) := cell_of_row _ _ 1 _ _ _ hI5.cells
        have HI5 := hide hI5
        have HT := hide hT
        have hZ5 : w.heap.size < W5.heap.size := Nat.lt_of_lt_of_le hz1 (Nat.le_trans hb2.size (Nat.le_trans hb4.size hT5.size))
        have t0 : W5.cell? ⟨w.heap.size, 0, none⟩ = some (.int .i64 (x1.place : Int)) := by
          have h4 : w4.cell? ⟨w.heap.size, 0, none⟩ = some (.int .i64 (x1.place : Int)) := cell_later hb4 w0
          rw [World.cell?_of_block (hT5.block w.heap.size (World.block_lt_of_cell? _ _ h4) (by have := (unhide HI).lt; omega))]; exact h4
        obtain ⟨N, hN⟩ : ∃ N, N = ss.length := ⟨_, rfl⟩
        rw [← hN] at s0 HG1 hKl
        have hN5 : N ≤ 5 := by rw [hN]; exact (unhide HF).short
        have hN0 : 0 < N := by rw [hN]; exact hss
        have e5 : IntKind.i64.wrap ((N : Int) - 1) = (N : Int) - 1 := by simp [IntKind.wrap, IntKind.bits, IntKind.signed]; omega
        clear hW5 hI5 hT5 hT hF4 hfne hsv hN hbw4 k1 k2 hss
        by_cases kk : K = -1
        · have gk : (K == -1) = true := by simpa using kk
          have HG2 : Hid (copyG (ss.map StM.stg) (ws.map WdM.wd) = .error (6, x1.place)) := hide (by rw [unhide HG1, if_pos (.inl kk)])
          clear HG1 kk
          go_quiet (fail)
          go_wp2_with (go_at_call 36; refine (hF6 _).mono ?_; clear hF6; rintro ev w8 ⟨bb, rfl, hc, hb8⟩)
          refine ⟨rfl, ?_, (unhide HT).trans (Tb.of_below (Below.mono (B' := w.heap.size) (below_drewN2 hb8) (by show _ ≤ W5.heap.size; omega)))⟩
          unfold CopyOut
          rw [unhide HG2]
          exact ⟨bb, rfl, hc⟩
        have gk : (K == -1) = false := by simpa using kk
        by_cases kl : K = (N : Int) - 1
        · have gl : (K == (N : Int) - 1) = true := by simpa using kl
          have HG2 : Hid (copyG (ss.map StM.stg) (ws.map WdM.wd) = .error (6, x1.place)) := hide (by rw [unhide HG1, if_pos (.inr kl)])
          clear HG1 kk kl
          go_quiet (fail)
          go_wp2_with (go_at_call 36; refine (hF6 _).mono ?_; clear hF6; rintro ev w8 ⟨bb, rfl, hc, hb8⟩)
          refine ⟨rfl, ?_, (unhide HT).trans (Tb.of_below (Below.mono (B' := w.heap.size) (below_drewN2 hb8) (by show _ ≤ W5.heap.size; omega)))⟩
          unfold CopyOut
          rw [unhide HG2]
          exact ⟨bb, rfl, hc⟩
        have gl : (K == (N : Int) - 1) = false := by simpa using kl
        have HG2 : Hid (copyG (ss.map StM.stg) (ws.map WdM.wd) = .ok (ss.map StM.stg, K)) := hide (by rw [unhide HG1, if_neg (by rintro (h | h); exact kk h; exact kl h)])
        clear HG1 kk kl
        go_quiet (fail)
        go_wp2_with fail
        go_end0
        refine ⟨?_, (unhide HT).trans (Tb.of_below (below_drewN (Below.refl _ _) _))⟩
        unfold CopyOut
        rw [unhide HG2]
        exact ⟨rfl, (unhide HI5).below (below_drewN (Below.refl _ _) _)⟩
    · have HG2 : Hid (copyG (ss.map StM.stg) (ws.map WdM.wd) = .error (5, x0.place)) := hide (by rw [unhide HG, hfr]; simp only; rw [if_pos e4])
      have g4 : ((n : Int) == 4) = false := by simp; omega
      clear HG hfr e4
      go_enter Tryz.func90, Tryz.ntmps90
      go_upto_region 1 with fail
      rw [← hW1]
      clear hW1
      go_upto_region 2 with (go_at_call 110; refine hSO.mono ?_; clear hSO; rintro ev w2 ⟨u, rfl, HU, hb2⟩)
      have hbw2 : Below w.heap.size w w2 := (unhide HB1).trans (hb2.mono (unhide HB1).size)
      have hc2 := unhide HCI w2 hbw2
      have d0 : w2.cell? ⟨ib, 0, none⟩ = some (.slice (some ⟨gw, 0, none⟩) n cap) := cell_of_row _ _ 0 _ _ _ hc2
      have d1 : w2.cell? ⟨ib, 1, none⟩ = some (.int .i64 (-1)) := cell_of_row _ _ 1 _ _ _ hc2
      have d2 : w2.cell? ⟨ib, 2, none⟩ = some (.int .i64 a) := cell_of_row _ _ 2 _ _ _ hc2
      have d3 : w2.cell? ⟨ib, 3, none⟩ = some (.int .i64 b) := cell_of_row _ _ 3 _ _ _ hc2
      have d4 : w2.cell? ⟨ib, 4, none⟩ = some (fnV f') := cell_of_row _ _ 4 _ _ _ hc2
      have d5 : w2.cell? ⟨ib, 5, none⟩ = some (fnV g') := cell_of_row _ _ 5 _ _ _ hc2
      have HBW2 := hide hbw2
      have HU2 : Hid (u.data.toList = m) := hide (unhide HU m rfl)
      have w0 := unhide HC1 w2 hb2
      clear hc2 hbw2 c0 q0 q1 HU
      go_wp2_with (first
        | (go_at_call 56; refine (unhide HPL _ (unhide HBW2)).mono ?_; rintro ev w3 ⟨rfl, hb3⟩)
        | (go_at_call 36; refine (hF5 _).mono ?_; clear hF5; rintro ev w8 ⟨bb, rfl, hc, hb8⟩))
      refine ⟨rfl, ?_, Tb.of_below (((unhide HBW2).trans (hb3.mono (unhide HBW2).size)).trans (hb8.mono (Nat.le_trans (unhide HBW2).size hb3.size)))⟩
      unfold CopyOut
      rw [unhide HG2]
      exact ⟨bb, rfl, hc⟩
end Go.Proofs.YtkikhmleffcajaaGreatDoor

namespace Go.Proofs.YtkikhmleffcajaaGreatDoor
open Go.RowKit Go.Maps

/-- Below a number all is as it was, and every reader. -/
structure Fr (B : Nat) (w w' : World) : Prop where
  below : Below B w w'
  keep : ∀ (k : Nat) (c : Array Value) (fr : Nat × Nat), w.heap[k]? = some (Obj.cells c 130 fr) → w'.heap[k]? = some (.cells c 130 fr)
theorem Fr.size {B : Nat} {w w' : World} (h : Fr B w w') : w.heap.size ≤ w'.heap.size := h.below.size
theorem Fr.refl (B : Nat) (w : World) : Fr B w w := ⟨Below.refl _ _, fun _ _ _ h => h⟩
theorem Fr.trans {B : Nat} {a b c : World} (h : Fr B a b) (k : Fr B b c) : Fr B a c := ⟨h.below.trans k.below, fun i x fr hx => k.keep i x fr (h.keep i x fr hx)⟩
theorem Fr.of_below {B : Nat} {w w' : World} (h : Below w.heap.size w w') (hB : B ≤ w.heap.size) : Fr B w w' :=
  ⟨h.mono hB, fun k _ _ hk => (h.block k (Array.getElem?_eq_some_iff.1 hk).1).trans hk⟩
theorem Fr.next {B : Nat} {w w1 w2 : World} (h : Fr B w w1) (hb : Below w1.heap.size w1 w2) (hB : B ≤ w1.heap.size) : Fr B w w2 := h.trans (Fr.of_below hb hB)
theorem Fr.of_tb {B q : Nat} {w w' : World} {c : Array Value} {t : TypeId} {fr : Nat × Nat} (h : Tb w.heap.size q w w') (hq : w.heap[q]? = some (.cells c t fr)) (ht : t ≠ 130) (hB : B ≤ q) : Fr B w w' := by
  have hlt := (Array.getElem?_eq_some_iff.1 hq).1
  refine ⟨⟨h.os, h.tape, h.output, h.size, fun k hk => h.block k (by omega) (by omega)⟩, fun k c' fr' hk => (h.block k (Array.getElem?_eq_some_iff.1 hk).1 (fun e => ?_)).trans hk⟩
  rw [e, hq] at hk
  injection hk with hk
  injection hk with _ hk
  exact ht hk
theorem Fr.set {B q : Nat} {w w1 : World} {c : Array Value} {t : TypeId} {fr : Nat × Nat} (h : Fr B w w1) (hq : w1.heap[q]? = some (.cells c t fr)) (ht : t ≠ 130) (hB : B ≤ q) (i : Nat) (v : Value) : Fr B w (w1.setCell ⟨q, i, none⟩ v) :=
  h.trans (Fr.of_tb (Tb.to _ _ _ _ _) hq ht hB)
theorem Fr.grown {B e z n : Nat} {w w1 w2 : World} {v : Value} {xs : List Value} (h : Fr B w w1) (hr : w1.ownsRow B e z v n xs) (hg : w1.grownBy w2 v.ownBlock) (he : e ≠ 130) (hB : B ≤ w1.heap.size) : Fr B w w2 := by
  refine h.trans ⟨⟨hg.os, hg.tape, hg.output, hg.size, fun k hk => hg.block k (by omega) (fun e' => by have := (World.ownsRow.lt hr k e'.symm).1; omega)⟩, fun k c fr hk => (hg.block k (Array.getElem?_eq_some_iff.1 hk).1 (fun e' => ?_)).trans hk⟩
  rcases hr.2 with ⟨rfl, _⟩ | ⟨a, cap, cur, rfl, _, ha, _⟩
  · cases e'
  obtain rfl : k = a := by simpa [Value.ownBlock] using e'
  rw [ha] at hk
  injection hk with hk
  injection hk with _ hk
  exact he hk
end Go.Proofs.YtkikhmleffcajaaGreatDoor
