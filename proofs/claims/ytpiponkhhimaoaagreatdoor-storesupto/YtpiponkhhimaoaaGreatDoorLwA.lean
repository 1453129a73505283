import Derived.Test.YtpiponkhhimaoaaGreatDoorRstJ
import Derived.Laws.StructEq
namespace Go.Proofs.YtpiponkhhimaoaaGreatDoor
open Go.RowKit Go.Maps Go.Sort Go.Shelf

theorem struct138 : Tryz.prog.underlying 66 = some (.struct (Tryz.prog.fieldsOf 66)) := by kernel_rfl
theorem struct140 : Tryz.prog.underlying 68 = some (.struct (Tryz.prog.fieldsOf 68)) := by kernel_rfl
theorem stood138 : Tryz.prog.stoodInHeld 66 = false := by kernel_rfl
theorem stood140 : Tryz.prog.stoodInHeld 68 = false := by kernel_rfl
theorem fields138 : (Tryz.prog.fieldsOf 66).toList.map (fun f => (f.name, f.type, f.offset)) = [("What", 3, 0), ("Name", 9, 1), ("To", 9, 2), ("Data", 9, 3)] := by kernel_rfl
theorem fields140 : (Tryz.prog.fieldsOf 68).toList.map (fun f => (f.name, f.type, f.offset)) = [("Name", 9, 0), ("Data", 9, 1)] := by kernel_rfl
theorem fourF {l : List Field} {a b c d : String × TypeId × Nat} (h : l.map (fun f => (f.name, f.type, f.offset)) = [a, b, c, d]) : ∃ f1 f2 f3 f4 : Field, l = [f1, f2, f3, f4] ∧ (f1.name = a.1 ∧ f1.type = a.2.1 ∧ f1.offset = a.2.2) ∧ (f2.name = b.1 ∧ f2.type = b.2.1 ∧ f2.offset = b.2.2) ∧ (f3.name = c.1 ∧ f3.type = c.2.1 ∧ f3.offset = c.2.2) ∧ (f4.name = d.1 ∧ f4.type = d.2.1 ∧ f4.offset = d.2.2) := by
  match l, h with
  | [f1, f2, f3, f4], h =>
    simp only [List.map_cons, List.map_nil, List.cons.injEq, and_true] at h
    obtain ⟨rfl, rfl, rfl, rfl⟩ := h
    exact ⟨f1, f2, f3, f4, rfl, ⟨rfl, rfl, rfl⟩, ⟨rfl, rfl, rfl⟩, ⟨rfl, rfl, rfl⟩, ⟨rfl, rfl, rfl⟩⟩
theorem twoF {l : List Field} {a b : String × TypeId × Nat} (h : l.map (fun f => (f.name, f.type, f.offset)) = [a, b]) : ∃ f1 f2 : Field, l = [f1, f2] ∧ (f1.name = a.1 ∧ f1.type = a.2.1 ∧ f1.offset = a.2.2) ∧ (f2.name = b.1 ∧ f2.type = b.2.1 ∧ f2.offset = b.2.2) := by
  match l, h with
  | [f1, f2], h =>
    simp only [List.map_cons, List.map_nil, List.cons.injEq, and_true] at h
    obtain ⟨rfl, rfl⟩ := h
    exact ⟨f1, f2, rfl, ⟨rfl, rfl, rfl⟩, ⟨rfl, rfl, rfl⟩⟩
set_option maxRecDepth 100000 in
theorem neq138 (a : Ac) (w : World) : (binOp .neq 66 (.agg #[.int .i64 a.what, .string a.name, .string a.dest, .string a.data]) (.agg #[.int .i64 a.what, .string a.name, .string a.dest, .string a.data])).run Tryz.prog w = .ok (.bool false) w := by
  rw [run_neq_struct, run_equalIn_struct w 9999 66 _ _ struct138 stood138]
  obtain ⟨f1, f2, f3, f4, he, ⟨n1, t1, o1⟩, ⟨n2, t2, o2⟩, ⟨n3, t3, o3⟩, ⟨n4, t4, o4⟩⟩ := fourF fields138
  rw [he]
  have u9 := Tryz.underlying9
  have u3 := Tryz.underlying3
  simp only [Op.eqFields, n1, n2, n3, n4, t1, t2, t3, t4, o1, o2, o3, o4]
  simp [go_sem, part, u9, u3, Result.andThen]
set_option maxRecDepth 100000 in
theorem neq140 (a : Blb) (w : World) : (binOp .neq 68 (.agg #[.string a.name, .string a.data]) (.agg #[.string a.name, .string a.data])).run Tryz.prog w = .ok (.bool false) w := by
  rw [run_neq_struct, run_equalIn_struct w 9999 68 _ _ struct140 stood140]
  obtain ⟨f1, f2, he, ⟨n1, t1, o1⟩, ⟨n2, t2, o2⟩⟩ := twoF fields140
  rw [he]
  have u9 := Tryz.underlying9
  simp only [Op.eqFields, n1, n2, t1, t2, o1, o2]
  simp [go_sem, part, u9, Result.andThen]
/-- What 'plain.New' answers. -/
def NewX (w : World) (F : List Blb) (q : Int) (v : Value) (e n : Int) (w' : World) : Prop :=
  (∃ i : Nat, FirstBadF F i ∧ v = .pointer none ∧ e = 11 ∧ n = i) ∨
  (FirstBadF F (-1) ∧ (q < 0 ∨ 16777216 < q) ∧ v = .pointer none ∧ e = 10 ∧ n = -1) ∨
  (FirstBadF F (-1) ∧ (0 ≤ q ∧ q ≤ 16777216) ∧ e = 0 ∧ n = -1 ∧ ∃ (lb sb mb : Nat) (va : Value), v = .pointer (some ⟨lb, 0, none⟩) ∧ (∀ k, Own sb mb va k ∨ k = lb → w.heap.size ≤ k) ∧ XSt w' lb sb mb va (remL (putAll F) (putAll F)) q (remA (putAll F)))
set_option maxRecDepth 100000 in
theorem pnew_act (ao : Option Addr) (cap n : Nat) (F : List Blb) (q : Int) (w : World) (hr : BRow w ao F) (HN : Hid (n = F.length)) (hn : n ≤ 16777216) (hs : ∀ b ∈ F, b.name.size ≤ 16777216 ∧ b.data.size ≤ 16777216) (hV : Vars w) :
    Calls Tryz.prog 9 #[.slice ao n cap, .int .i64 q] w fun ev w' => ∃ v e k, ev = .returned (.tuple #[v, .int .i64 e, .int .i64 k]) ∧ NewX w F q v e k w' ∧ Below w.heap.size w w' := by
  have hP := new_act ao cap n F q w hr HN hn hs
  have hF : Calls Tryz.prog 26 #[.slice ao n cap, .int .i64 q] w fun ev w' => ∃ v er, ev = .returned (.tuple #[v, er]) ∧ (
      (∃ i p : Nat, FirstBadF F i ∧ v = .pointer none ∧ er = .iface 115 (.pointer (some ⟨p, 0, none⟩)) ∧ w'.cell? ⟨p, 0, none⟩ = some (.int .i64 11) ∧ w'.cell? ⟨p, 1, none⟩ = some (.int .i64 (i : Int))) ∨
      (FirstBadF F (-1) ∧ (q < 0 ∨ 16777216 < q) ∧ v = .pointer none ∧ er = .iface 36 (.int .i64 10)) ∨
      (FirstBadF F (-1) ∧ (0 ≤ q ∧ q ≤ 16777216) ∧ er = .nilIface ∧ ∃ (lb sb mb : Nat) (va : Value), v = .pointer (some ⟨lb, 0, none⟩) ∧ (∀ k, Own sb mb va k ∨ k = lb → w.heap.size ≤ k) ∧ XSt w' lb sb mb va (remL (putAll F) (putAll F)) q (remA (putAll F)))) ∧ Below w.heap.size w w' := by
    go_enter Tryz.func26, Tryz.ntmps26
    go_upto_region 2 with (go_at_call 54; refine hP.mono ?_; clear hP; rintro ev w1 ⟨v, er, rfl, hN, hb1⟩)
    rcases hN with ⟨i, p, hB, rfl, rfl, c0, c1⟩ | ⟨hB, hq, rfl, rfl⟩ | ⟨hB, hq, rfl, sb, mb, va, rfl, hfar, hPs⟩
    · go_wp2_with fail
      go_ret2
      exact ⟨_, _, rfl, .inl ⟨i, p, hB, rfl, rfl, c0, c1⟩, hb1⟩
    · go_wp2_with fail
      go_ret2
      exact ⟨_, _, rfl, .inr (.inl ⟨hB, hq, rfl, rfl⟩), hb1⟩
    · go_wp2_with fail
      go_ret2
      refine ⟨_, _, rfl, .inr (.inr ⟨hB, hq, rfl, w1.heap.size, sb, mb, va, rfl, ?_, ?_⟩), hb1.alloc hb1.size _⟩
      · rintro k (hk | rfl)
        · exact hfar k hk
        · exact hb1.size
      · exact ⟨heap_alloc_new _ _, hPs.below ((Below.refl _ _).alloc (Nat.le_refl _) _)⟩
  have HV := hide hV
  clear hP hV
  go_enter Tryz.func9, Tryz.ntmps9
  go_upto_region 2 with (go_at_call 26; refine hF.mono ?_; clear hF; rintro ev w1 ⟨v, er, rfl, hN, hb1⟩)
  have hV1 := (unhide HV).below hb1
  rcases hN with ⟨i, p, hB, rfl, rfl, c0, c1⟩ | ⟨hB, hq, rfl, rfl⟩ | ⟨hB, hq, rfl, lb, sb, mb, va, rfl, hfar, hX⟩
  · go_wp2_with (go_at_call 27; refine (tell_at p 11 i w1 hV1.err c0 c1).mono ?_; rintro ev w2 ⟨rfl, hb2⟩)
    refine bodyPost_ret (results_tmp3 rfl _ _ _) rfl ?_
    exact ⟨_, _, _, rfl, .inl ⟨i, hB, rfl, rfl, rfl⟩, hb1.trans (hb2.mono hb1.size)⟩
  · go_wp2_with (go_at_call 27; refine (tell_errno 10 w1 hV1.err).mono ?_; rintro ev w2 ⟨rfl, hb2⟩)
    refine bodyPost_ret (results_tmp3 rfl _ _ _) rfl ?_
    exact ⟨_, _, _, rfl, .inr (.inl ⟨hB, hq, rfl, rfl, rfl⟩), hb1.trans (hb2.mono hb1.size)⟩
  · go_wp2_with (go_at_call 27; refine (tell_nil w1).mono ?_; rintro ev w2 ⟨rfl, hb2⟩)
    refine bodyPost_ret (results_tmp3 rfl _ _ _) rfl ?_
    exact ⟨_, _, _, rfl, .inr (.inr ⟨hB, hq, rfl, rfl, lb, sb, mb, va, rfl, hfar, hX.below hb2⟩), hb1.trans (hb2.mono hb1.size)⟩
/-- Both stores, and what holds them. -/
structure Two (w : World) (B wb lb sb mb yb : Nat) (v vf va vs : Value) (L : List Blb) (q : Int) (A : List Ac) (N : List Blb) (c : Bool) : Prop where
  both : w.heap[wb]? = some (.cells #[.pointer (some ⟨lb, 0, none⟩), .pointer (some ⟨yb, 0, none⟩)] 45 (0, 0))
  x : XSt w lb sb mb v L q A
  y : RSt w yb vf va vs L q A N c
  acts : ∀ k, v.ownBlock = some k → va.ownBlock ≠ some k
  far : ∀ k, (Own sb mb v k ∨ k = lb) ∨ RAll yb vf va vs k ∨ k = wb → B ≤ k
/-- What 'opened' answers. -/
def OpenIs (w : World) (F : List Blb) (q : Int) (v : Value) (w' : World) : Prop :=
  (v = .pointer none ∧ ((∃ i : Nat, FirstBadF F i) ∨ (q < 0 ∨ 16777216 < q))) ∨
  (FirstBadF F (-1) ∧ (0 ≤ q ∧ q ≤ 16777216) ∧ ∃ (wb lb sb mb yb : Nat) (vp vf va : Value), v = .pointer (some ⟨wb, 0, none⟩) ∧ Two w' w.heap.size wb lb sb mb yb vp vf va (.slice none 0 0) (remL (putAll F) (putAll F)) q (remA (putAll F)) [] false)
set_option maxHeartbeats 1000000 in
set_option maxRecDepth 100000 in
theorem opened_any (ao : Option Addr) (cap n : Nat) (F : List Blb) (q : Int) (w : World) (hr : BRow w ao F) (HN : Hid (n = F.length)) (hn : n ≤ 16777216) (hs : ∀ b ∈ F, b.name.size ≤ 16777216 ∧ b.data.size ≤ 16777216) (hV : Vars w) :
    Calls Tryz.prog 5 #[.slice ao n cap, .int .i64 q] w fun ev w' => ∃ v, ev = .returned (.tuple #[v, .bool true]) ∧ OpenIs w F q v w' ∧ Below w.heap.size w w' := by
  have hP := pnew_act ao cap n F q w hr HN hn hs hV
  have hR : ∀ w1, Below w.heap.size w w1 → Calls Tryz.prog 10 #[.slice ao n cap, .int .i64 q] w1 fun ev w' => ∃ v e k, ev = .returned (.tuple #[v, .agg #[.int .i64 e, .int .i64 k]]) ∧ NewR w1 F q v e k w' ∧ Below w1.heap.size w1 w' := fun w1 hb => rnew_any ao cap n F q w1 (hr.below hb) HN hn hs
  clear hr hs
  go_enter Tryz.func5, Tryz.ntmps5
  go_upto_region 2 with (go_at_call 9; refine hP.mono ?_; clear hP; rintro ev w1 ⟨v1, e1, k1, rfl, hN1, hb1⟩)
  have hR1 := hR w1 hb1
  clear hR
  rcases hN1 with ⟨i, hB, rfl, rfl, rfl⟩ | ⟨hB, hq, rfl, rfl, rfl⟩ | ⟨hB, hq, rfl, rfl, lb, sb, mb, va, rfl, hfar, hX⟩
  · have hR2 : Calls Tryz.prog 10 #[.slice ao n cap, .int .i64 q] w1 fun ev w' => ev = .returned (.tuple #[.pointer none, .agg #[.int .i64 11, .int .i64 (i : Int)]]) ∧ Below w1.heap.size w1 w' := hR1.mono (fun ev w' h => by
      obtain ⟨v2, e2, k2, he, hN2, hb2⟩ := h
      rcases hN2 with ⟨j, hB2, rfl, rfl, rfl⟩ | ⟨hB2, _⟩ | ⟨hB2, _⟩
      · have := firstBadF_one hB hB2
        rw [this]; exact ⟨he, hb2⟩
      · have := firstBadF_one hB hB2; omega
      · have := firstBadF_one hB hB2; omega)
    clear hR1
    go_wp2_with (go_at_call 10; refine hR2.mono ?_; clear hR2; rintro ev w2 ⟨rfl, hb2⟩)
    go_ret2
    have R := hb1.trans (hb2.mono hb1.size)
    exact ⟨_, rfl, .inl ⟨rfl, .inl ⟨i, hB⟩⟩, R.alloc R.size _⟩
  · have hR2 : Calls Tryz.prog 10 #[.slice ao n cap, .int .i64 q] w1 fun ev w' => ev = .returned (.tuple #[.pointer none, .agg #[.int .i64 10, .int .i64 (-1)]]) ∧ Below w1.heap.size w1 w' := hR1.mono (fun ev w' h => by
      obtain ⟨v2, e2, k2, he, hN2, hb2⟩ := h
      rcases hN2 with ⟨j, hB2, rfl, rfl, rfl⟩ | ⟨hB2, _, rfl, rfl, rfl⟩ | ⟨hB2, hq2, _⟩
      · have := firstBadF_one hB hB2; omega
      · exact ⟨he, hb2⟩
      · omega)
    clear hR1
    go_wp2_with (go_at_call 10; refine hR2.mono ?_; clear hR2; rintro ev w2 ⟨rfl, hb2⟩)
    go_ret2
    have R := hb1.trans (hb2.mono hb1.size)
    exact ⟨_, rfl, .inl ⟨rfl, .inr hq⟩, R.alloc R.size _⟩
  · have hR2 : Calls Tryz.prog 10 #[.slice ao n cap, .int .i64 q] w1 fun ev w' => ∃ (yb : Nat) (vf vb : Value), ev = .returned (.tuple #[.pointer (some ⟨yb, 0, none⟩), .agg #[.int .i64 0, .int .i64 (-1)]]) ∧ (∀ k, RAll yb vf vb (.slice none 0 0) k → w1.heap.size ≤ k) ∧ RSt w' yb vf vb (.slice none 0 0) (remL (putAll F) (putAll F)) q (remA (putAll F)) [] false ∧ Below w1.heap.size w1 w' := hR1.mono (fun ev w' h => by
      obtain ⟨v2, e2, k2, he, hN2, hb2⟩ := h
      rcases hN2 with ⟨j, hB2, rfl, rfl, rfl⟩ | ⟨hB2, hq2, _⟩ | ⟨hB2, hq2, rfl, rfl, yb, vf, vb, rfl, h1, h2⟩
      · have := firstBadF_one hB hB2; omega
      · omega
      · exact ⟨yb, vf, vb, he, h1, h2, hb2⟩)
    clear hR1
    have HX := hide hX
    have HFar := hide hfar
    clear hX hfar
    go_wp2_with (go_at_call 10; refine hR2.mono ?_; clear hR2; rintro ev w2 ⟨yb, vf, vb, rfl, hf2, hR3, hb2⟩)
    go_ret2
    have R := hb1.trans (hb2.mono hb1.size)
    have hb3 : Below w2.heap.size w2 (w2.alloc (.cells #[.int .i64 0, .int .i64 (-1)] 41)) := (Below.refl _ _).alloc (Nat.le_refl _) _
    have R3 := R.trans (hb3.mono R.size)
    have hb4 : Below (w2.alloc (.cells #[.int .i64 0, .int .i64 (-1)] 41)).heap.size (w2.alloc (.cells #[.int .i64 0, .int .i64 (-1)] 41)) ((w2.alloc (.cells #[.int .i64 0, .int .i64 (-1)] 41)).alloc (.cells #[.pointer (some ⟨lb, 0, none⟩), .pointer (some ⟨yb, 0, none⟩)] 45)) := (Below.refl _ _).alloc (Nat.le_refl _) _
    have R4 := R3.trans (hb4.mono R3.size)
    have hX2 := (unhide HX).below hb2
    have hXl : ∀ k, va.ownBlock = some k → k < w1.heap.size := fun k hk => (unhide HX).st.lt k (.inr (.inr hk))
    refine ⟨_, rfl, .inr ⟨hB, hq, (w2.alloc (.cells #[.int .i64 0, .int .i64 (-1)] 41)).heap.size, lb, sb, mb, yb, va, vf, vb, by simp, ?_⟩, R4⟩
    refine ⟨heap_alloc_new _ _, (hX2.below hb3).below hb4, (hR3.below hb3).below hb4, fun k hk e => ?_, ?_⟩
    · have h1 := hXl k hk
      have h2 := hf2 k (.inl (.inr (.inl e)))
      omega
    · rintro k ((hk | hk) | hk | rfl)
      · exact unhide HFar k (.inl hk)
      · exact unhide HFar k (.inr hk)
      · exact Nat.le_trans hb1.size (hf2 k hk)
      · exact R3.size
end Go.Proofs.YtpiponkhhimaoaaGreatDoor
