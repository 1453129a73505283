import Derived.Test.YtpiponkhhimaoaaGreatDoorRstI
namespace Go.Proofs.YtpiponkhhimaoaaGreatDoor
open Go.RowKit Go.Maps Go.Sort Go.Shelf

/-- What the document's 'New' answers. -/
def NewR (w : World) (F : List Blb) (q : Int) (v : Value) (e n : Int) (w' : World) : Prop :=
  (∃ i : Nat, FirstBadF F i ∧ v = .pointer none ∧ e = 11 ∧ n = i) ∨
  (FirstBadF F (-1) ∧ (q < 0 ∨ 16777216 < q) ∧ v = .pointer none ∧ e = 10 ∧ n = -1) ∨
  (FirstBadF F (-1) ∧ (0 ≤ q ∧ q ≤ 16777216) ∧ e = 0 ∧ n = -1 ∧ ∃ (yb : Nat) (vf va : Value), v = .pointer (some ⟨yb, 0, none⟩) ∧ (∀ k, RAll yb vf va (.slice none 0 0) k → w.heap.size ≤ k) ∧ RSt w' yb vf va (.slice none 0 0) (remL (putAll F) (putAll F)) q (remA (putAll F)) [] false)
theorem new_rst (w : World) (q : Int) : RSt ((w.alloc (.cells #[.int .i64 0, .int .i64 0] 41)).alloc (.cells #[.slice none 0 0, .int .i64 q, .slice none 0 0, .slice none 0 0, .bool false] 64)) (w.heap.size + 1) (.slice none 0 0) (.slice none 0 0) (.slice none 0 0) [] q [] [] false := by
  refine ⟨?_, World.ownsRow_nil _ _ _ _, World.ownsRow_nil _ _ _ _, World.ownsRow_nil _ _ _ _, fun k e => by cases e⟩
  have := heap_alloc_new (w.alloc (.cells #[.int .i64 0, .int .i64 0] 41)) (.cells #[.slice none 0 0, .int .i64 q, .slice none 0 0, .slice none 0 0, .bool false] 64)
  rwa [World.size_alloc] at this
theorem below_set {w w' : World} {k i : Nat} {v : Value} (h : Below w.heap.size w w') (hk : w.heap.size ≤ k) : Below w.heap.size w (w'.setCell ⟨k, i, none⟩ v) := h.setCell (p := ⟨k, i, none⟩) hk v
set_option maxHeartbeats 2000000 in
set_option maxRecDepth 100000 in
theorem rnew_any (ao : Option Addr) (cap n : Nat) (F : List Blb) (q : Int) (w : World) (hr : BRow w ao F) (HN : Hid (n = F.length)) (hn : n ≤ 16777216) (hs : ∀ b ∈ F, b.name.size ≤ 16777216 ∧ b.data.size ≤ 16777216) :
    Calls Tryz.prog 10 #[.slice ao n cap, .int .i64 q] w fun ev w' => ∃ v e k, ev = .returned (.tuple #[v, .agg #[.int .i64 e, .int .i64 k]]) ∧ NewR w F q v e k w' ∧ Below w.heap.size w w' := by
  obtain ⟨W0, hW0⟩ : ∃ W0, W0 = (w.alloc (.cells #[.int .i64 0, .int .i64 0] 41)).alloc (.cells #[.slice none 0 0, .int .i64 q, .slice none 0 0, .slice none 0 0, .bool false] 64) := ⟨_, rfl⟩
  have hP0 := new_rst w q
  rw [← hW0] at hP0
  have hb0 : Below w.heap.size w W0 := by rw [hW0]; exact ((Below.refl _ _).alloc (Nat.le_refl _) _).alloc (by simp) _
  have hx0 : W0.heap[w.heap.size]? = some (.cells #[.int .i64 0, .int .i64 0] 41 (0, 0)) := by rw [hW0]; exact (Below.heap_alloc _ _ _ (by simp)).trans (heap_alloc_new _ _)
  have HW := hide hW0
  have HS := hide hs
  clear hW0 hs
  go_enter Tryz.func10, Tryz.ntmps10
  go_upto_region 2 with fail
  rw [← unhide HW]
  clear HW
  go_wp2
  go_loopw [7] (fun i wr => ∃ (k : Nat) (vf : Value), k ≤ n ∧ i = .int .i64 k ∧ RSt wr (w.heap.size + 1) vf (.slice none 0 0) (.slice none 0 0) (putAll (F.take k)) q [] [] false ∧ (∀ j, vf.ownBlock = some j → w.heap.size + 1 < j) ∧ Below w.heap.size w wr ∧ wr.heap[w.heap.size]? = some (.cells #[.int .i64 0, .int .i64 0] 41 (0, 0)) ∧ Hid (∀ j, j < k → okF F j = true)) (fun i _ => n - (intOf i).toNat)
  case atStart => exact ⟨0, _, by omega, rfl, by simpa [putAll] using hP0, fun j e => (by cases e), hb0, hx0, hide (fun j hj => by omega)⟩
  case round =>
    obtain ⟨k, vf, hk, rfl, hP, hvf, hb, hx, HK⟩ := hrel
    by_cases hlt : k < n
    · obtain ⟨e, he⟩ : ∃ e, F[k]? = some e := ⟨F[k]'(by have := unhide HN; omega), List.getElem?_eq_getElem (by have := unhide HN; omega)⟩
      obtain ⟨g, o, rfl, c0, c1⟩ := (hr.below hb) k e he
      have hgw : g < w.heap.size := by
        obtain ⟨g', o', e1, e2, _⟩ := hr k e he
        cases e1
        exact World.block_lt_of_cell? _ _ e2
      have i1 : (0 : Int) ≤ (k : Int) := by omega
      have i2 : (k : Int) < (n : Int) := by omega
      have hse := unhide HS e (List.mem_of_getElem? he)
      have hkl : Hid (k < F.length) := hide (by have := unhide HN; omega)
      have HE := hide he
      have HO : Hid (okF F k = (isN e.nm && !(getB (putAll (F.take k)) e.nm).isSome)) := hide (by rw [okF, he])
      have hLl : (putAll (F.take k)).length ≤ 16777216 := Nat.le_trans (len_all _) (by rw [List.length_take]; omega)
      have hI := isFile_any e.name wr (by omega)
      obtain ⟨fo, fc, fn, rfl, hfn, hfr, _⟩ := ownB_row hP.files
      have y0 : wr.cell? ⟨w.heap.size + 1, 0, none⟩ = some (.slice fo fn fc) := cell_of_row _ _ 0 _ _ _ hP.cells
      have HFn := hide hfn
      have hfl : fn ≤ 16777216 := by omega
      have HP := hide hP
      have HX := hide hx
      have HBw := hide hb
      have HVf := hide hvf
      have x0 : wr.cell? ⟨w.heap.size, 0, none⟩ = some (.int .i64 0) := cell_of_row _ _ 0 _ _ _ hx
      clear he hfn hP hx hb hvf
      cases hN : isN e.nm with
      | false =>
        have HBad : Hid (FirstBadF F k) := hide (.inr ⟨k, rfl, unhide hkl, by rw [unhide HO, hN]; rfl, unhide HK⟩)
        rw [show isN e.name.data.toList = false from hN] at hI
        clear HO hN
        go_upto_region 6 with (go_at_call 28; refine hI.mono ?_; clear hI; rintro ev w2 ⟨rfl, hw2⟩; obtain rfl := hw2.symm)
        go_region
        all_goals
          go_wp2_with (go_at_call 30; refine (bad_any 11 (k : Int) _).mono ?_; rintro ev w3 ⟨rfl, hb3⟩; have hx3 := keepD_below (chain0 hb3) (unhide HX); have q0 := cell_of_row _ _ 0 _ _ _ hx3; have q1 := cell_of_row _ _ 1 _ _ _ hx3; have g0 := frzD hx3 0; have g1 := frzD hx3 1)
          have hx4 := heap_setCell_same _ _ 1 _ _ (.int .i64 (k : Int)) (heap_setCell_same _ _ 0 _ _ (.int .i64 11) hx3)
          have r0 := cell_of_row _ _ 0 _ _ _ hx4
          have r1 := cell_of_row _ _ 1 _ _ _ hx4
          have hB3 : Below w.heap.size w w3 := (unhide HBw).trans ((chain0 hb3).mono (unhide HBw).size)
          refine bodyPost_ret (v := .tuple #[.pointer none, .agg #[.int .i64 11, .int .i64 (k : Int)]]) (by simp at r0 r1; simp [results, Tryz.results10, go_sem, r0, r1]) rfl ⟨_, _, _, rfl, .inl ⟨k, unhide HBad, rfl, rfl, rfl⟩, ?_⟩
          exact below_set (below_set hB3 (Nat.le_refl _)) (Nat.le_refl _)
      | true =>
        rw [show isN e.name.data.toList = true from hN] at hI
        have hFl := file_any fo fc fn (putAll (F.take k)) e.name wr.drew hfr HFn (by omega)
        cases hg : getB (putAll (F.take k)) e.name.data.toList with
        | some b =>
          have HG := hide hg
          have HBad : Hid (FirstBadF F k) := hide (.inr ⟨k, rfl, unhide hkl, by rw [unhide HO, show getB (putAll (F.take k)) e.nm = some b from hg]; simp, unhide HK⟩)
          clear HO hN hg
          go_upto_region 6 with (go_at_call 28; refine hI.mono ?_; clear hI; rintro ev w2 ⟨rfl, hw2⟩; obtain rfl := hw2.symm)
          go_region_held3 (fun w' => w'.cell? ⟨w.heap.size + 1, 0, none⟩ = some (.slice fo fn fc) ∧ w'.cell? ⟨g, o + k * 2, none⟩ = some (.string e.name))
            (first | (with_reducible exact ⟨y0, c0⟩) | go_keep)
            (first | (go_at_call 29; refine hFl.mono ?_; clear hFl; rintro ev w3 ⟨r, rfl, HF, rfl⟩; obtain ⟨k', rfl, _⟩ := file_some (unhide HF) (unhide HG); have i3 : (0 : Int) ≤ (k' : Int) := (by omega)))
          all_goals
            go_wp2_with (go_at_call 30; refine (bad_any 11 (k : Int) _).mono ?_; rintro ev w3 ⟨rfl, hb3⟩; have hx3 := keepD_below (chain0 hb3) (unhide HX); have q0 := cell_of_row _ _ 0 _ _ _ hx3; have q1 := cell_of_row _ _ 1 _ _ _ hx3; have g0 := frzD hx3 0; have g1 := frzD hx3 1)
            have hx4 := heap_setCell_same _ _ 1 _ _ (.int .i64 (k : Int)) (heap_setCell_same _ _ 0 _ _ (.int .i64 11) hx3)
            have r0 := cell_of_row _ _ 0 _ _ _ hx4
            have r1 := cell_of_row _ _ 1 _ _ _ hx4
            have hB3 : Below w.heap.size w w3 := (unhide HBw).trans ((chain0 hb3).mono (unhide HBw).size)
            refine bodyPost_ret (v := .tuple #[.pointer none, .agg #[.int .i64 11, .int .i64 (k : Int)]]) (by simp at r0 r1; simp [results, Tryz.results10, go_sem, r0, r1]) rfl ⟨_, _, _, rfl, .inl ⟨k, unhide HBad, rfl, rfl, rfl⟩, ?_⟩
            exact below_set (below_set hB3 (Nat.le_refl _)) (Nat.le_refl _)
        | none =>
          have HG := hide hg
          have HOk : Hid (∀ j, j < k + 1 → okF F j = true) := hide (fun j hj => by
            by_cases hjk : j = k
            · subst hjk; rw [unhide HO, hN, show getB (putAll (F.take j)) e.nm = none from hg]; rfl
            · exact unhide HK j (by omega))
          clear HO hN hg
          go_upto_region 6 with (go_at_call 28; refine hI.mono ?_; clear hI; rintro ev w2 ⟨rfl, hw2⟩; obtain rfl := hw2.symm)
          go_region_held3 (fun w' => w'.cell? ⟨w.heap.size + 1, 0, none⟩ = some (.slice fo fn fc) ∧ w'.cell? ⟨g, o + k * 2, none⟩ = some (.string e.name))
            (first | (with_reducible exact ⟨y0, c0⟩) | go_keep)
            (first | (go_at_call 29; refine hFl.mono ?_; clear hFl; rintro ev w3 ⟨r, rfl, HF, rfl⟩; obtain rfl := file_none (unhide HF) (unhide HG)))
          go_upto_region 8 with fail
          have hWr : ∀ W, BRow W fo (putAll (F.take k)) → Calls Tryz.prog 31 #[.slice fo fn fc, .string e.name, .string e.data] W fun ev w' => ∃ v, ev = .returned v ∧ OwnB w' W.heap.size v (putB (putAll (F.take k)) e) ∧ Below W.heap.size W w' := fun W hW => written_any fo fc fn (putAll (F.take k)) e.name e.data W hW HFn (by omega) (hide (rise_all _))
          go_region_with (go_at_call 31; refine (hWr _ (by exact hfr)).mono ?_; clear hWr; rintro ev w4 ⟨vf', rfl, hO4, hb4⟩; obtain ⟨ao4, cap4, nn4, rfl, hnn, _, _⟩ := ownB_row hO4; subst hnn; have hB4 : Below wr.heap.size wr w4 := ⟨hb4.os, hb4.tape, hb4.output, hb4.size, hb4.block⟩; have hc4 := ((unhide HP).below hB4).cells; have k0 : w4.cell? ⟨w.heap.size + 1, 0, none⟩ = some (.slice fo fn fc) := cell_of_row _ _ 0 _ _ _ hc4; have f0 : w4.frozen? ⟨w.heap.size + 1, 0, none⟩ = false := frzD hc4 0)
          all_goals
            obtain ⟨hP5, hG5⟩ := (unhide HP).set_files hB4 hO4.any (.inr fun j hj => hO4.new j hj)
            have R1 : RSt (w4.setCell ⟨w.heap.size + 1, 0, none⟩ (.slice ao4 (putB (putAll (F.take k)) e).length cap4)) (w.heap.size + 1) (.slice ao4 (putB (putAll (F.take k)) e).length cap4) (.slice none 0 0) (.slice none 0 0) (putAll (F.take (k + 1))) q [] [] false := by rw [takeB_snoc (unhide HE), putAll_snoc]; exact hP5
            have R2 : ∀ j, (Value.slice ao4 (putB (putAll (F.take k)) e).length cap4).ownBlock = some j → w.heap.size + 1 < j := fun j hj => by
              have h1 := hO4.new j hj
              have h2 := (unhide HP).lt (w.heap.size + 1) (.inl (.inl rfl))
              have h3 : wr.heap.size ≤ j := h1
              omega
            have R3 : Below w.heap.size w (w4.setCell ⟨w.heap.size + 1, 0, none⟩ (.slice ao4 (putB (putAll (F.take k)) e).length cap4)) := below_set ((unhide HBw).trans (hB4.mono (unhide HBw).size)) (by omega)
            have R4 : (w4.setCell ⟨w.heap.size + 1, 0, none⟩ (.slice ao4 (putB (putAll (F.take k)) e).length cap4)).heap[w.heap.size]? = some (.cells #[.int .i64 0, .int .i64 0] 41 (0, 0)) := (Below.heap_setCell _ _ _ _ (by show w.heap.size ≠ w.heap.size + 1; omega)).trans (keepD_below hB4 (unhide HX))
            clear hP5 hG5 hO4 hb4 hc4 k0 f0 hfr y0 c0 c1 x0
            generalize w4.setCell ⟨w.heap.size + 1, 0, none⟩ (.slice ao4 (putB (putAll (F.take k)) e).length cap4) = w5 at *
            try go_wp2_with fail
            go_roundw
            case rel =>
              first
                | exact ⟨k + 1, _, by omega, by go_num, R1, R2, R3, R4, HOk⟩
                | ((repeat apply Exists.intro); exact ⟨⟨k + 1, _, by omega, by go_num, R1, R2, R3, R4, HOk⟩, rfl⟩)
            case measure => simp [intOf]; omega
    · have HT : Hid (F.take k = F) := hide (List.take_of_length_le (by have := unhide HN; omega))
      have HF : Hid (FirstBadF F (-1)) := hide (.inl ⟨rfl, fun j hj => unhide HK j (by have := unhide HN; omega)⟩)
      rw [unhide HT] at hP
      obtain ⟨L, hLd⟩ : ∃ L, L = putAll F := ⟨_, rfl⟩
      rw [← hLd] at hP
      have HLd := hide hLd
      have hLl : L.length ≤ 16777216 := by rw [hLd]; exact Nat.le_trans (len_all _) (by have := unhide HN; omega)
      have HLs : Hid (∀ b ∈ L, b.name.size = 66 ∧ isN b.nm = true) := hide (fun b hb => by
        have h1 := all_isN (unhide HF) b (mem_all (by rw [← hLd]; exact hb))
        exact ⟨(Lib.size_eq _).trans (isN_size h1), h1⟩)
      have q0 := cell_of_row _ _ 0 _ _ _ hx
      have q1 := cell_of_row _ _ 1 _ _ _ hx
      have g0 := frzD hx 0
      have g1 := frzD hx 1
      clear HK hLd
      by_cases hq0 : q < 0
      · go_wp2_with (go_at_call 30; refine (bad_any 10 (-1) _).mono ?_; rintro ev w3 ⟨rfl, hb3⟩; have hx3 := keepD_below hb3 hx; have q0 := cell_of_row _ _ 0 _ _ _ hx3; have q1 := cell_of_row _ _ 1 _ _ _ hx3; have g0 := frzD hx3 0; have g1 := frzD hx3 1)
        have hx4 := heap_setCell_same _ _ 1 _ _ (.int .i64 (-1)) (heap_setCell_same _ _ 0 _ _ (.int .i64 10) hx3)
        have r0 := cell_of_row _ _ 0 _ _ _ hx4
        have r1 := cell_of_row _ _ 1 _ _ _ hx4
        have hB3 : Below w.heap.size w w3 := hb.trans (hb3.mono hb.size)
        refine bodyPost_ret (v := .tuple #[.pointer none, .agg #[.int .i64 10, .int .i64 (-1)]]) (by simp at r0 r1; simp [results, Tryz.results10, go_sem, r0, r1]) rfl ⟨_, _, _, rfl, .inr (.inl ⟨unhide HF, .inl hq0, rfl, rfl, rfl⟩), ?_⟩
        exact below_set (below_set hB3 (Nat.le_refl _)) (Nat.le_refl _)
      · by_cases hq1 : 16777216 < q
        · go_wp2_with (go_at_call 30; refine (bad_any 10 (-1) _).mono ?_; rintro ev w3 ⟨rfl, hb3⟩; have hx3 := keepD_below hb3 hx; have q0 := cell_of_row _ _ 0 _ _ _ hx3; have q1 := cell_of_row _ _ 1 _ _ _ hx3; have g0 := frzD hx3 0; have g1 := frzD hx3 1)
          have hx4 := heap_setCell_same _ _ 1 _ _ (.int .i64 (-1)) (heap_setCell_same _ _ 0 _ _ (.int .i64 10) hx3)
          have r0 := cell_of_row _ _ 0 _ _ _ hx4
          have r1 := cell_of_row _ _ 1 _ _ _ hx4
          have hB3 : Below w.heap.size w w3 := hb.trans (hb3.mono hb.size)
          refine bodyPost_ret (v := .tuple #[.pointer none, .agg #[.int .i64 10, .int .i64 (-1)]]) (by simp at r0 r1; simp [results, Tryz.results10, go_sem, r0, r1]) rfl ⟨_, _, _, rfl, .inr (.inl ⟨unhide HF, .inr hq1, rfl, rfl, rfl⟩), ?_⟩
          exact below_set (below_set hB3 (Nat.le_refl _)) (Nat.le_refl _)
        · obtain ⟨fo, fc, m, rfl, hm, hfr, _⟩ := ownB_row hP.files
          have y0 : wr.cell? ⟨w.heap.size + 1, 0, none⟩ = some (.slice fo m fc) := cell_of_row _ _ 0 _ _ _ hP.cells
          have HM := hide hm
          have hml : m ≤ 16777216 := by omega
          have HB := hide hb
          have HX := hide hx
          obtain ⟨w2, hw2⟩ : ∃ w2, w2 = wr := ⟨_, rfl⟩
          rw [← hw2] at hP hfr HB HX
          have HW2 := hide hw2
          clear hm hb hx q0 q1 g0 g1
          go_upto_region 13 with fail
          rw [← unhide HW2]
          clear HW2 hw2 y0
          go_wp2
          go_loopw [10] (fun i wq => ∃ (j : Nat) (vg va : Value), j ≤ m ∧ i = .int .i64 j ∧ RSt wq (w.heap.size + 1) vg va (.slice none 0 0) (remL L (L.take j)) q (remA (L.take j)) [] false ∧ RGoes w2 (w.heap.size + 1) (.slice fo m fc) (.slice none 0 0) (.slice none 0 0) wq vg va (.slice none 0 0)) (fun i _ => m - (intOf i).toNat)
          case atStart => exact ⟨0, _, _, by omega, rfl, by simpa [remL, remA] using hP, RGoes.of_below (Below.refl _ _)⟩
          case round =>
            obtain ⟨j, vg, va, hj, rfl, hPj, hGj⟩ := hrel
            by_cases hjm : j < m
            · obtain ⟨e, he⟩ : ∃ e, L[j]? = some e := ⟨L[j]'(by have := unhide HM; omega), List.getElem?_eq_getElem (by have := unhide HM; omega)⟩
              obtain ⟨g, o, rfl, c0, _⟩ := hfr j e he
              have hgg := hvf g rfl
              have c0 : wr.cell? ⟨g, o + j * 2, none⟩ = some (.string e.name) := hGj.turn.cell c0 (by
                rintro (e1 | e1 | e1)
                · simp only at e1; omega
                · cases e1
                · cases e1)
              have i1 : (0 : Int) ≤ (j : Int) := by omega
              have i2 : (j : Int) < (m : Int) := by omega
              obtain ⟨hse, hsn⟩ := unhide HLs e (List.mem_of_getElem? he)
              have h0 : 0 < e.name.size := by omega
              have hTT := isT_at hsn h0
              have HTk := hide (takeB_snoc he)
              have hAl : (remA (L.take j)).length ≤ 16777216 := Nat.le_trans (remA_len _) (by rw [List.length_take]; omega)
              have hRl : (remL L (L.take j)).length ≤ 16777216 := Nat.le_trans (remL_len _ _) hLl
              clear he hse hsn
              cases hT : isT e with
              | true =>
                have HR : Hid (remL L (L.take (j + 1)) = delB (remL L (L.take j)) e.name.data.toList ∧ remA (L.take (j + 1)) = remA (L.take j) ++ [⟨5, e.name, nul, nul⟩]) := hide (by rw [unhide HTk, remL_snoc, remA_snoc, hT]; exact ⟨rfl, rfl⟩)
                rw [hT] at hTT
                have hRm := do_any (w.heap.size + 1) vg va _ (remL L (L.take j)) _ q _ [] false ⟨5, e.name, nul, nul⟩ wr hPj (by omega) (done_remove hPj.files (by omega) e.name)
                have HGj := hide hGj
                clear hT hPj hGj
                go_wp2_with (go_at_call 32; refine hRm.mono ?_; clear hRm; rintro ev w4 ⟨rfl, vg4, va4, hP4, hG4⟩)
                go_roundw
                case rel =>
                  have R : RSt w4 (w.heap.size + 1) vg4 va4 (.slice none 0 0) (remL L (L.take (j + 1))) q (remA (L.take (j + 1))) [] false := by rw [(unhide HR).1, (unhide HR).2]; exact hP4
                  have R2 := (unhide HGj).trans hG4
                  first
                    | exact ⟨j + 1, vg4, va4, by omega, by go_num, R, R2⟩
                    | ((repeat apply Exists.intro); exact ⟨⟨j + 1, vg4, va4, by omega, by go_num, R, R2⟩, rfl⟩)
                case measure => simp [intOf]; omega
              | false =>
                have HR : Hid (remL L (L.take (j + 1)) = remL L (L.take j) ∧ remA (L.take (j + 1)) = remA (L.take j)) := hide (by rw [unhide HTk, remL_snoc, remA_snoc, hT]; exact ⟨rfl, rfl⟩)
                rw [hT] at hTT
                have HGj := hide hGj
                have HPj := hide hPj
                clear hT hPj hGj
                go_wp2_with fail
                go_roundw
                case rel =>
                  have R : RSt wr (w.heap.size + 1) vg va (.slice none 0 0) (remL L (L.take (j + 1))) q (remA (L.take (j + 1))) [] false := by rw [(unhide HR).1, (unhide HR).2]; exact unhide HPj
                  have R2 := unhide HGj
                  first
                    | exact ⟨j + 1, vg, va, by omega, by go_num, R, R2⟩
                    | ((repeat apply Exists.intro); exact ⟨⟨j + 1, vg, va, by omega, by go_num, R, R2⟩, rfl⟩)
                case measure => simp [intOf]; omega
            · have HT2 : Hid (L.take j = L) := hide (List.take_of_length_le (by have := unhide HM; omega))
              rw [unhide HT2] at hPj
              have hxj : wr.heap[w.heap.size]? = some (.cells #[.int .i64 0, .int .i64 0] 41 (0, 0)) := (hGj.turn.block w.heap.size (Array.getElem?_eq_some_iff.1 (unhide HX)).1 (by
                rintro (e1 | e1 | e1)
                · omega
                · cases e1
                · cases e1)).trans (unhide HX)
              have HPj := hide hPj
              have HGj := hide hGj
              clear hPj hGj
              go_wp2_with (go_at_call 33; refine (fine_any _).mono ?_; rintro ev w3 ⟨rfl, hb3⟩; have hx3 := keepD_below hb3 hxj; have q0 := cell_of_row _ _ 0 _ _ _ hx3; have q1 := cell_of_row _ _ 1 _ _ _ hx3; have g0 := frzD hx3 0; have g1 := frzD hx3 1)
              have hx4 := heap_setCell_same _ _ 1 _ _ (.int .i64 (-1)) (heap_setCell_same _ _ 0 _ _ (.int .i64 0) hx3)
              have r0 := cell_of_row _ _ 0 _ _ _ hx4
              have r1 := cell_of_row _ _ 1 _ _ _ hx4
              have hG := unhide HGj
              have hb2 := unhide HB
              have hz2 := hb2.size
              have hsl := (unhide HPj).lt (w.heap.size + 1) (.inl (.inl rfl))
              have hBr : Below w.heap.size w wr := by
                refine ⟨hG.turn.os.trans hb2.os, hG.turn.tape.trans hb2.tape, hG.turn.output.trans hb2.output, Nat.le_trans hz2 hG.turn.size, fun i hi => ?_⟩
                refine (hG.turn.block i (by omega) ?_).trans (hb2.block i hi)
                rintro (e1 | e1 | e1)
                · omega
                · cases e1
                · cases e1
              have hB3 : Below w.heap.size w w3 := hBr.trans (hb3.mono hBr.size)
              have hfar : ∀ i, RAll (w.heap.size + 1) vg va (.slice none 0 0) i → w.heap.size + 1 ≤ i := by
                rintro i ((e1 | e1 | e1) | e1)
                · omega
                · rcases hG.own i (.inr (.inl e1)) with (e2 | e2 | e2) | e2
                  · omega
                  · cases e2
                  · cases e2
                  · have := (unhide HX); have h9 := (Array.getElem?_eq_some_iff.1 this).1; omega
                · cases e1
                · rcases hG.all i e1 with e2 | e2
                  · have := hvf i e2; omega
                  · have := (unhide HX); have h9 := (Array.getElem?_eq_some_iff.1 this).1; omega
              have hfin : RSt ((w3.setCell ⟨w.heap.size, 0, none⟩ (.int .i64 0)).setCell ⟨w.heap.size, 1, none⟩ (.int .i64 (-1))) (w.heap.size + 1) vg va (.slice none 0 0) (remL L L) q (remA L) [] false :=
                ((unhide HPj).below hb3).turn ((Turn.of_set (S := fun i => i = w.heap.size) w3 ⟨w.heap.size, 0, none⟩ _ rfl).trans (Turn.of_set (S := fun i => i = w.heap.size) _ ⟨w.heap.size, 1, none⟩ _ rfl) (fun i hi => .inl hi)) (fun i hi e1 => by have := hfar i hi; omega)
              refine bodyPost_ret (v := .tuple #[.pointer (some ⟨w.heap.size + 1, 0, none⟩), .agg #[.int .i64 0, .int .i64 (-1)]]) (by simp at r0 r1; simp [results, Tryz.results10, go_sem, r0, r1]) rfl ⟨_, _, _, rfl, .inr (.inr ⟨unhide HF, ⟨by omega, by omega⟩, rfl, rfl, w.heap.size + 1, vg, va, rfl, fun i hi => by have := hfar i hi; omega, by rw [← unhide HLd]; exact hfin⟩), ?_⟩
              exact below_set (below_set hB3 (Nat.le_refl _)) (Nat.le_refl _)
end Go.Proofs.YtpiponkhhimaoaaGreatDoor
