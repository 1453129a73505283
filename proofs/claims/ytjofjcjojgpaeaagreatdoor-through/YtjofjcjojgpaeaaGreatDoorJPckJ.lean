import Derived.Test.YtjofjcjojgpaeaaGreatDoorJPckH
import Derived.Test.YtjofjcjojgpaeaaGreatDoorJPckC
import Derived.Test.YtjofjcjojgpaeaaGreatDoorJDigC
namespace Go.Proofs.YtjofjcjojgpaeaaGreatDoor
open Go.RowKit

/-- The block of a change. -/
def blockL (c : Ent) : List UInt8 := headL c ++ digL (totalL c) 6 ++ [32] ++ tailL c
theorem block_len {c : Ent} {m : Nat} (h : PkC c m) : (blockL c).length = 512 := by
  have h1 := octL_lt 5 (totalL c) (by have := total_lt h; simp; omega)
  simp only [blockL, List.length_append, head_len h, tail_len h, digL_len h1, List.length_cons, List.length_nil]
theorem fill_over {s : List UInt8} {n : Nat} : s ++ (List.replicate n (0 : UInt8)).drop s.length = fillL s n := by
  rw [List.drop_replicate, fillL]
/-- The header of a change, its check aside. -/
def preH (c : Ent) : Hd := ⟨fillL (partL (nameL c)).2 100, digL c.mode.toNat 7, digL 0 7, digL 0 7, digL (dataL c).length 11, digL 0 11, List.replicate 8 0, [flagL c], fillL (linkL c) 100, magicL, List.replicate 64 0, digL 0 7, digL 0 7, fillL (partL (nameL c)).1 155, List.replicate 12 0⟩
theorem hdB_ck (h : Hd) (x : List UInt8) : hdB { h with ck := x } = (h.nm ++ h.md ++ h.us ++ h.gr ++ h.sz ++ h.tm) ++ x ++ (h.kd ++ h.lk ++ h.mg ++ h.nn ++ h.d1 ++ h.d2 ++ h.ah ++ h.en) := by
  simp [hdB, List.append_assoc]
theorem pre_final (c : Ent) : hdB (checkH (preH c)) = blockL c := by
  have hs : sumL (hdB (blankH (preH c))) = totalL c := by
    rw [blankH, hdB_ck, sumL_app, sumL_app, totalL]
    have h8 : sumL (List.replicate 8 (32 : UInt8)) = 256 := by decide
    rw [h8]
    have e1 : (preH c).nm ++ (preH c).md ++ (preH c).us ++ (preH c).gr ++ (preH c).sz ++ (preH c).tm = headL c := rfl
    have e2 : (preH c).kd ++ (preH c).lk ++ (preH c).mg ++ (preH c).nn ++ (preH c).d1 ++ (preH c).d2 ++ (preH c).ah ++ (preH c).en = tailL c := rfl
    rw [e1, e2]; omega
  rw [checkH, hs, hdB_ck, blockL]
  have e1 : (preH c).nm ++ (preH c).md ++ (preH c).us ++ (preH c).gr ++ (preH c).sz ++ (preH c).tm = headL c := rfl
  have e2 : (preH c).kd ++ (preH c).lk ++ (preH c).mg ++ (preH c).nn ++ (preH c).d1 ++ (preH c).d2 ++ (preH c).ah ++ (preH c).en = tailL c := rfl
  rw [e1, e2]; simp [List.append_assoc]
theorem zero173 : Tryz.zeroCells148 = (Lib.byteCells (List.replicate 512 0)).toArray := by kernel_rfl
theorem info173 : (Tryz.prog.info? 148).map (·.size) = some 512 := by kernel_rfl
theorem cells_one (l : List UInt8) : (Lib.byteCells l).toArray.all (·.oneCell') = true := by
  simp [Lib.byteCells, Value.oneCell']
theorem grown_block {w w' : World} {b k : Nat} {o : Obj} (hg : w.grownBy w' (some b)) (h : w.heap[k]? = some o) (hne : k ≠ b) : w'.heap[k]? = some o :=
  (hg.block k (Array.getElem?_eq_some_iff.1 h).1 (fun e => hne (Option.some.inj e))).trans h
/-- What stands while the block of a change is filled. -/
structure NB (c : Ent) (w : World) (b : Nat) (W : World) (h : Hd) : Prop where
  at' : b = w.heap.size + 1 + 1
  b20 : 21 < b
  ok : HdOk h
  blk : Blk W b (hdB h)
  q : W.heap[w.heap.size]? = some (.cells #[.string c.path, .int .i64 c.kind, .int .i64 c.mode, .string c.data] 37 (0, 0))
  r : W.heap[w.heap.size + 1]? = some (.cells Tryz.zeroCells148 148 (0, 0))
  pk : Pk W
  below : Below w.heap.size w W
theorem NB.grown {c : Ent} {w W V : World} {b : Nat} {h n : Hd} (H : NB c w b W h) (hg : W.grownBy V (some b)) (hk : Blk V b (hdB n)) (ok : HdOk n) : NB c w b V n := by
  have hb := H.at'
  exact ⟨hb, H.b20, ok, hk, grown_block hg H.q (by omega), grown_block hg H.r (by omega), H.pk.grown hg H.b20,
    H.below.grown hg H.below.size (fun q hq => by cases hq; omega)⟩
theorem NB.under {c : Ent} {w W V : World} {b : Nat} {h : Hd} (H : NB c w b W h) (hb : Below W.heap.size W V) : NB c w b V h :=
  ⟨H.at', H.b20, H.ok, H.blk.below hb, (hb.block _ (Array.getElem?_eq_some_iff.1 H.q).1).trans H.q, (hb.block _ (Array.getElem?_eq_some_iff.1 H.r).1).trans H.r, H.pk.below hb, H.below.trans (hb.mono H.below.size)⟩
theorem NB.c0 {c : Ent} {w W : World} {b : Nat} {h : Hd} (H : NB c w b W h) : W.cell? ⟨w.heap.size, 0, none⟩ = some (.string c.path) := cell_of_row _ _ 0 _ _ _ H.q
theorem NB.c1 {c : Ent} {w W : World} {b : Nat} {h : Hd} (H : NB c w b W h) : W.cell? ⟨w.heap.size, 1, none⟩ = some (.int .i64 c.kind) := cell_of_row _ _ 1 _ _ _ H.q
theorem NB.c2 {c : Ent} {w W : World} {b : Nat} {h : Hd} (H : NB c w b W h) : W.cell? ⟨w.heap.size, 2, none⟩ = some (.int .i64 c.mode) := cell_of_row _ _ 2 _ _ _ H.q
theorem NB.c3 {c : Ent} {w W : World} {b : Nat} {h : Hd} (H : NB c w b W h) : W.cell? ⟨w.heap.size, 3, none⟩ = some (.string c.data) := cell_of_row _ _ 3 _ _ _ H.q
def namedH (c : Ent) : Hd := { hd0 with ah := (partL (nameL c)).1 ++ hd0.ah.drop (partL (nameL c)).1.length, nm := (partL (nameL c)).2 ++ hd0.nm.drop (partL (nameL c)).2.length }
theorem named_ok {c : Ent} {m : Nat} (h : PkC c m) : HdOk (namedH c) :=
  { hd0_ok with
    nm := (by show (_ ++ _ : List UInt8).length = 100; have := h.rest; rw [List.length_append, List.length_drop, hd0_ok.nm]; omega),
    ah := (by show (_ ++ _ : List UInt8).length = 155; have := h.ahead; rw [List.length_append, List.length_drop, hd0_ok.ah]; omega) }
theorem link_le {c : Ent} {m : Nat} (h : PkC c m) (hk : c.kind = 3) : c.data.size ≤ 100 := by
  have := h.link; rw [linkL, if_pos hk, ← Lib.size_eq] at this; exact this
theorem file_le {c : Ent} {m : Nat} (h : PkC c m) (hk : c.kind = 2) : c.data.size ≤ 4096 := by
  have := h.file; rw [dataL, if_pos hk, ← Lib.size_eq] at this; exact this
theorem kindH_ok {c : Ent} {m : Nat} {h : Hd} (hc : PkC c m) (ok : HdOk h) : HdOk (kindH h c) := by
  unfold kindH
  split
  · exact { ok with kd := rfl }
  · split
    · rename_i hk
      have := link_le hc hk
      exact { ok with kd := rfl, lk := (by show (_ ++ _ : List UInt8).length = 100; rw [List.length_append, List.length_drop, ok.lk, ← Lib.size_eq]; omega) }
    · split
      · rename_i hk
        have := file_le hc hk
        exact { ok with kd := rfl, sz := (by show (digL c.data.size 11).length = 12; exact digL_len (by have := octL_lt 5 c.data.size (by simp; omega); omega)) }
      · exact { ok with kd := rfl }
def numsH (c : Ent) (m : Nat) : Hd := { { { { { namedH c with md := digL m 7 } with us := digL 0 7 } with gr := digL 0 7 } with sz := digL 0 11 } with tm := digL 0 11 }
def magicB : ByteArray := ⟨#[117, 115, 116, 97, 114, 0, 48, 48]⟩
def lastH (h : Hd) : Hd := { { { h with mg := magicB.data.toList ++ h.mg.drop magicB.size } with d1 := digL 0 7 } with d2 := digL 0 7 }
theorem chain_final {c : Ent} {m : Nat} (h : PkC c m) : lastH (kindH (numsH c m) c) = preH c := by
  have hm : c.mode.toNat = m := by rw [h.mode]; rfl
  have e1 : (partL (nameL c)).1 ++ (List.replicate 155 (0 : UInt8)).drop (partL (nameL c)).1.length = fillL (partL (nameL c)).1 155 := fill_over
  have e2 : (partL (nameL c)).2 ++ (List.replicate 100 (0 : UInt8)).drop (partL (nameL c)).2.length = fillL (partL (nameL c)).2 100 := fill_over
  have e3 : c.data.data.toList ++ (List.replicate 100 (0 : UInt8)).drop c.data.size = fillL c.data.data.toList 100 := by rw [Lib.size_eq]; exact fill_over
  have e4 : magicB.data.toList ++ (List.replicate 8 (0 : UInt8)).drop magicB.size = magicL := by decide
  have e5 : fillL [] 100 = List.replicate 100 (0 : UInt8) := rfl
  unfold kindH preH flagL linkL dataL
  rw [hm]
  by_cases k1 : c.kind = 1
  · have k2 : c.kind ≠ 2 := by omega
    have k3 : c.kind ≠ 3 := by omega
    simp only [if_pos k1, if_neg k2, if_neg k3, lastH, numsH, namedH, hd0, e1, e2, e4, e5, List.length_nil]
  · by_cases k3 : c.kind = 3
    · have k2 : c.kind ≠ 2 := by omega
      simp only [if_neg k1, if_pos k3, if_neg k2, lastH, numsH, namedH, hd0, e1, e2, e3, e4, List.length_nil]
    · by_cases k2 : c.kind = 2
      · simp only [if_neg k1, if_neg k3, if_pos k2, lastH, numsH, namedH, hd0, e1, e2, e4, e5]
        rw [Lib.size_eq]
      · simp only [if_neg k1, if_neg k3, if_neg k2, lastH, numsH, namedH, hd0, e1, e2, e4, e5, List.length_nil]
set_option maxHeartbeats 4000000 in
set_option maxRecDepth 10000 in
theorem newBlock_any (c : Ent) (m : Nat) (w : World) (HPk : Hid (PkC c m)) (hP : Pk w) (hkd : c.kind = 1 ∨ c.kind = 2 ∨ c.kind = 3 ∨ c.kind = 4 ∨ c.kind = 5) (hp : (nameL c).length ≤ 100 ∨ ∃ i, slashFrom (nameL c) ((nameL c).length - 101) = some i) :
    Calls Tryz.prog 84 #[.agg #[.string c.path, .int .i64 c.kind, .int .i64 c.mode, .string c.data]] w fun ev w' => ev = .returned (.agg (Lib.byteCells (blockL c)).toArray) ∧ Below w.heap.size w w' := by
  have hw20 : 21 < w.heap.size := World.block_lt_of_cell? _ _ hP.bru
  obtain ⟨W0, hW0⟩ : ∃ W0, W0 = ((w.alloc (.cells #[.string c.path, .int .i64 c.kind, .int .i64 c.mode, .string c.data] 37)).alloc (.cells Tryz.zeroCells148 148)).alloc (.cells Tryz.zeroCells148 148) := ⟨_, rfl⟩
  obtain ⟨b, hb⟩ : ∃ b, b = w.heap.size + 1 + 1 := ⟨_, rfl⟩
  have H0 : Hid (NB c w b W0 hd0) := by
    have hB0 : Below w.heap.size w W0 := by rw [hW0]; exact (((Below.refl _ _).alloc (Nat.le_refl _) _).alloc (by simp) _).alloc (by simp; omega) _
    refine hide ⟨hb, by omega, hd0_ok, ?_, ?_, ?_, hP.below hB0, hB0⟩
    · rw [hd0_eq, hb]
      refine ⟨?_, by simp⟩
      rw [← zero173, hW0]
      have := heap_alloc_new ((w.alloc (.cells #[.string c.path, .int .i64 c.kind, .int .i64 c.mode, .string c.data] 37)).alloc (.cells Tryz.zeroCells148 148)) (.cells Tryz.zeroCells148 148)
      rw [World.size_alloc, World.size_alloc] at this
      exact this
    · rw [hW0]
      exact (Below.heap_alloc _ _ _ (by simp; omega)).trans ((Below.heap_alloc _ _ _ (by simp)).trans (heap_alloc_new _ _))
    · rw [hW0]
      refine (Below.heap_alloc _ _ _ (by simp)).trans ?_
      have := heap_alloc_new (w.alloc (.cells #[.string c.path, .int .i64 c.kind, .int .i64 c.mode, .string c.data] 37)) (.cells Tryz.zeroCells148 148)
      rw [World.size_alloc] at this
      exact this
  have hNm := nameOf_any c W0 (unhide HPk).path
  clear hP
  go_enter Tryz.func84, Tryz.ntmps84
  go_upto_region 2 with fail
  rw [← hW0, ← hb]
  clear hW0 hb hw20
  have q0 := (unhide H0).c0
  have q1 := (unhide H0).c1
  have q2 := (unhide H0).c2
  have q3 := (unhide H0).c3
  have hm5 := (unhide HPk).m512
  have HSn := hide (fun w1 hk1 hP1 => setName_any hd0 hd0_ok (nameL c) b w1 hk1 hP1 (unhide H0).b20 (unhide HPk).name hp (unhide HPk).rest (unhide HPk).ahead)
  clear hp
  go_upto_region 3 with (first
    | (go_at_call 104; refine hNm.mono ?_; clear hNm; rintro ev w1 ⟨rfl, hb1⟩)
    | (go_at_call 103; refine (unhide HSn w1 ((unhide H0).under hb1).blk ((unhide H0).under hb1).pk).mono ?_; rintro ev W2 ⟨rfl, HK, hg⟩))
  have H2 : Hid (NB c w b W2 (namedH c)) := hide (((unhide H0).under hb1).grown hg (unhide HK) (named_ok (unhide HPk)))
  obtain ⟨h2, e2⟩ : ∃ x, x = namedH c := ⟨_, rfl⟩
  rw [← e2] at H2
  have E2 := hide e2
  clear hg hb1 q0 q1 q2 q3 HSn H0 HK e2
  have f0 : W2.cell? ⟨1, 0, none⟩ = some (.int .i64 100) := ((unhide H2).pk.f (b := 1) (o := 100) (n := 8) (by decide)).1
  have f1 : W2.cell? ⟨1, 1, none⟩ = some (.int .i64 8) := ((unhide H2).pk.f (b := 1) (o := 100) (n := 8) (by decide)).2
  have q2 : W2.cell? ⟨w.heap.size, 2, none⟩ = some (.int .i64 (m : Int)) := by rw [← (unhide HPk).mode]; exact (unhide H2).c2
  have hT := num_md h2 (unhide H2).ok m b W2 (unhide H2).blk (by omega) (unhide H2).pk.bru
  go_upto_region 4 with (go_at_call 105; refine hT.mono ?_; clear hT; rintro ev W3 ⟨rfl, HV, hg⟩)
  obtain ⟨h3, e⟩ : ∃ x, x = { h2 with md := digL m 7 } := ⟨_, rfl⟩
  rw [← e] at HV
  have H3 : Hid (NB c w b W3 h3) := hide ((unhide H2).grown hg (unhide HV) (by rw [e]; exact { (unhide H2).ok with md := digL_len (by have := octL_lt 5 m (by first | decide | (simp; omega)); omega) }))
  have E3 := hide e
  clear e f0 f1 q2 HV hg H2
  have f0 : W3.cell? ⟨2, 0, none⟩ = some (.int .i64 108) := ((unhide H3).pk.f (b := 2) (o := 108) (n := 8) (by decide)).1
  have f1 : W3.cell? ⟨2, 1, none⟩ = some (.int .i64 8) := ((unhide H3).pk.f (b := 2) (o := 108) (n := 8) (by decide)).2
  have hT := num_us h3 (unhide H3).ok 0 b W3 (unhide H3).blk (by omega) (unhide H3).pk.bru
  go_upto_region 5 with (go_at_call 105; refine hT.mono ?_; clear hT; rintro ev W4 ⟨rfl, HV, hg⟩)
  obtain ⟨h4, e⟩ : ∃ x, x = { h3 with us := digL 0 7 } := ⟨_, rfl⟩
  rw [← e] at HV
  have H4 : Hid (NB c w b W4 h4) := hide ((unhide H3).grown hg (unhide HV) (by rw [e]; exact { (unhide H3).ok with us := digL_len (by have := octL_lt 5 0 (by first | decide | (simp; omega)); omega) }))
  have E4 := hide e
  clear e f0 f1 HV hg H3
  have f0 : W4.cell? ⟨3, 0, none⟩ = some (.int .i64 116) := ((unhide H4).pk.f (b := 3) (o := 116) (n := 8) (by decide)).1
  have f1 : W4.cell? ⟨3, 1, none⟩ = some (.int .i64 8) := ((unhide H4).pk.f (b := 3) (o := 116) (n := 8) (by decide)).2
  have hT := num_gr h4 (unhide H4).ok 0 b W4 (unhide H4).blk (by omega) (unhide H4).pk.bru
  go_upto_region 6 with (go_at_call 105; refine hT.mono ?_; clear hT; rintro ev W5 ⟨rfl, HV, hg⟩)
  obtain ⟨h5, e⟩ : ∃ x, x = { h4 with gr := digL 0 7 } := ⟨_, rfl⟩
  rw [← e] at HV
  have H5 : Hid (NB c w b W5 h5) := hide ((unhide H4).grown hg (unhide HV) (by rw [e]; exact { (unhide H4).ok with gr := digL_len (by have := octL_lt 5 0 (by first | decide | (simp; omega)); omega) }))
  have E5 := hide e
  clear e f0 f1 HV hg H4
  have f0 : W5.cell? ⟨4, 0, none⟩ = some (.int .i64 124) := ((unhide H5).pk.f (b := 4) (o := 124) (n := 12) (by decide)).1
  have f1 : W5.cell? ⟨4, 1, none⟩ = some (.int .i64 12) := ((unhide H5).pk.f (b := 4) (o := 124) (n := 12) (by decide)).2
  have hT := num_sz h5 (unhide H5).ok 0 b W5 (unhide H5).blk (by omega) (unhide H5).pk.bru
  go_upto_region 7 with (go_at_call 105; refine hT.mono ?_; clear hT; rintro ev W6 ⟨rfl, HV, hg⟩)
  obtain ⟨h6, e⟩ : ∃ x, x = { h5 with sz := digL 0 11 } := ⟨_, rfl⟩
  rw [← e] at HV
  have H6 : Hid (NB c w b W6 h6) := hide ((unhide H5).grown hg (unhide HV) (by rw [e]; exact { (unhide H5).ok with sz := digL_len (by have := octL_lt 5 0 (by first | decide | (simp; omega)); omega) }))
  have E6 := hide e
  clear e f0 f1 HV hg H5
  have f0 : W6.cell? ⟨5, 0, none⟩ = some (.int .i64 136) := ((unhide H6).pk.f (b := 5) (o := 136) (n := 12) (by decide)).1
  have f1 : W6.cell? ⟨5, 1, none⟩ = some (.int .i64 12) := ((unhide H6).pk.f (b := 5) (o := 136) (n := 12) (by decide)).2
  have hT := num_tm h6 (unhide H6).ok 0 b W6 (unhide H6).blk (by omega) (unhide H6).pk.bru
  go_upto_region 8 with (go_at_call 105; refine hT.mono ?_; clear hT; rintro ev W7 ⟨rfl, HV, hg⟩)
  obtain ⟨h7, e⟩ : ∃ x, x = { h6 with tm := digL 0 11 } := ⟨_, rfl⟩
  rw [← e] at HV
  have H7 : Hid (NB c w b W7 h7) := hide ((unhide H6).grown hg (unhide HV) (by rw [e]; exact { (unhide H6).ok with tm := digL_len (by have := octL_lt 5 0 (by first | decide | (simp; omega)); omega) }))
  have E7 := hide e
  clear e f0 f1 HV hg H6
  have q0 := (unhide H7).c0
  have q1 := (unhide H7).c1
  have q2 := (unhide H7).c2
  have q3 := (unhide H7).c3
  have hT := setKind_any h7 (unhide H7).ok c b W7 (unhide H7).blk (unhide H7).pk (unhide H7).b20 hkd (fun hk => link_le (unhide HPk) hk) (fun hk => file_le (unhide HPk) hk)
  clear hkd
  go_upto_region 9 with (go_at_call 106; refine hT.mono ?_; clear hT; rintro ev W8 ⟨rfl, HV, hg⟩)
  obtain ⟨h8, e⟩ : ∃ x, x = kindH h7 c := ⟨_, rfl⟩
  rw [← e] at HV
  have H8 : Hid (NB c w b W8 h8) := hide ((unhide H7).grown hg (unhide HV) (by rw [e]; exact kindH_ok (unhide HPk) (unhide H7).ok))
  have E8 := hide e
  clear e q0 q1 q2 q3 HV hg H7
  have f0 : W8.cell? ⟨6, 0, none⟩ = some (.int .i64 257) := ((unhide H8).pk.f (b := 6) (o := 257) (n := 8) (by decide)).1
  have f1 : W8.cell? ⟨6, 1, none⟩ = some (.int .i64 8) := ((unhide H8).pk.f (b := 6) (o := 257) (n := 8) (by decide)).2
  have hT := txt_mg h8 (unhide H8).ok magicB b W8 (unhide H8).blk (by decide)
  go_upto_region 10 with (go_at_call 107; refine hT.mono ?_; clear hT; rintro ev W9 ⟨rfl, HV, hg⟩)
  obtain ⟨h9, e⟩ : ∃ x, x = { h8 with mg := magicB.data.toList ++ h8.mg.drop magicB.size } := ⟨_, rfl⟩
  rw [← e] at HV
  have H9 : Hid (NB c w b W9 h9) := hide ((unhide H8).grown hg (unhide HV) (by rw [e]; exact { (unhide H8).ok with mg := over_len (unhide H8).ok.mg (by decide) }))
  have E9 := hide e
  clear e f0 f1 HV hg H8
  have f0 : W9.cell? ⟨7, 0, none⟩ = some (.int .i64 329) := ((unhide H9).pk.f (b := 7) (o := 329) (n := 8) (by decide)).1
  have f1 : W9.cell? ⟨7, 1, none⟩ = some (.int .i64 8) := ((unhide H9).pk.f (b := 7) (o := 329) (n := 8) (by decide)).2
  have hT := num_d1 h9 (unhide H9).ok 0 b W9 (unhide H9).blk (by omega) (unhide H9).pk.bru
  go_upto_region 11 with (go_at_call 105; refine hT.mono ?_; clear hT; rintro ev W10 ⟨rfl, HV, hg⟩)
  obtain ⟨h10, e⟩ : ∃ x, x = { h9 with d1 := digL 0 7 } := ⟨_, rfl⟩
  rw [← e] at HV
  have H10 : Hid (NB c w b W10 h10) := hide ((unhide H9).grown hg (unhide HV) (by rw [e]; exact { (unhide H9).ok with d1 := digL_len (by have := octL_lt 5 0 (by first | decide | (simp; omega)); omega) }))
  have E10 := hide e
  clear e f0 f1 HV hg H9
  have f0 : W10.cell? ⟨8, 0, none⟩ = some (.int .i64 337) := ((unhide H10).pk.f (b := 8) (o := 337) (n := 8) (by decide)).1
  have f1 : W10.cell? ⟨8, 1, none⟩ = some (.int .i64 8) := ((unhide H10).pk.f (b := 8) (o := 337) (n := 8) (by decide)).2
  have hT := num_d2 h10 (unhide H10).ok 0 b W10 (unhide H10).blk (by omega) (unhide H10).pk.bru
  go_upto_region 12 with (go_at_call 105; refine hT.mono ?_; clear hT; rintro ev W11 ⟨rfl, HV, hg⟩)
  obtain ⟨h11, e⟩ : ∃ x, x = { h10 with d2 := digL 0 7 } := ⟨_, rfl⟩
  rw [← e] at HV
  have H11 : Hid (NB c w b W11 h11) := hide ((unhide H10).grown hg (unhide HV) (by rw [e]; exact { (unhide H10).ok with d2 := digL_len (by have := octL_lt 5 0 (by first | decide | (simp; omega)); omega) }))
  have E11 := hide e
  clear e f0 f1 HV hg H10
  have hT := setCheck_any h11 (unhide H11).ok b W11 (unhide H11).blk (unhide H11).pk (unhide H11).b20
  have eP : h11 = preH c := by
    rw [← chain_final (unhide HPk), unhide E11, unhide E10, unhide E9, unhide E8, unhide E7, unhide E6, unhide E5, unhide E4, unhide E3, unhide E2]; rfl
  go_upto_region 13 with (go_at_call 108; refine hT.mono ?_; clear hT; rintro ev V ⟨rfl, HV, hg⟩)
  have hBk : Blk V b (blockL c) := by rw [← pre_final, ← eP]; exact unhide HV
  have hR := grown_block hg (unhide H11).r (by have := (unhide H11).at'; omega)
  have hB := (unhide H11).below.grown hg (unhide H11).below.size (fun q hq => by cases hq; have := (unhide H11).at'; omega)
  have hab := (unhide H11).at'
  clear eP hg HV H11 E11 E10 E9 E8 E7 E6 E5 E4 E3 E2
  have hl := block_len (unhide HPk)
  obtain ⟨U, hU⟩ : ∃ U, U = (Lib.byteCells (blockL c)).toArray := ⟨_, rfl⟩
  have hsz : U.size = 512 := by rw [hU]; simp [Lib.byteCells, hl]
  have hin : (Tryz.prog.info? 148).map (·.size) = some U.size := by rw [hsz]; exact info173
  have hz : Tryz.zeroCells148.size = 512 := by rw [zero173]; simp [Lib.byteCells]
  have hth := there_all hR U.size (by rw [hsz, hz]; exact Nat.le_refl _)
  have hon : U.all (·.oneCell') = true := by rw [hU]; exact cells_one _
  have hfin : Hid ((V.setCells (w.heap.size + 1) 0 U.toList).heap[w.heap.size + 1]? = some (.cells U 148 (0, 0))) := hide (heap_setCells_all hR (by rw [hsz, hz]))
  have hbel : Hid (Below w.heap.size w (V.setCells (w.heap.size + 1) 0 U.toList)) := hide (below_setCells (by omega) _ _ _ hB)
  have hblk2 : V.heap[b]? = some (.cells U 148 (0, 0)) := by rw [hU]; exact hBk.1
  have HU := hide hU
  clear hBk hR hB hl hsz hz hU hab HPk hm5
  go_wp2_with (first
    | (refine wpList_load_row rfl 148 (.tmp 3) rfl b rfl 148 _ (0, 0) _ hblk2 Tryz.underlying148 rfl hin ?_)
    | (refine wpList_store_mid rfl 148 (.tmp 2) (.tmp 28) rfl (w.heap.size + 1) 0 U rfl rfl hth hin hon ?_))
  refine bodyPost_ret (v := .agg U) (results_cell_row Tryz.results84 _ _ (w.heap.size + 1) 148 U (0, 0) _ rfl (unhide hfin) Tryz.underlying148 rfl hin) rfl ⟨by rw [unhide HU], unhide hbel⟩
end Go.Proofs.YtjofjcjojgpaeaaGreatDoor

namespace Go.Proofs.YtjofjcjojgpaeaaGreatDoor
open Go.RowKit

theorem noughts_any (n : Nat) (w : World) (hn : n ≤ 1048576) :
    Calls Tryz.prog 86 #[.int .i64 n] w fun ev w' => ev = .returned (.string (bt (List.replicate n 0))) ∧ Below w.heap.size w w' := by
  have h := repeat_any 0 n w hn
  go_enter Tryz.func86, Tryz.ntmps86
  go_wp2_with (go_at_call 109; refine h.mono ?_; clear h; rintro ev w1 ⟨rfl, hb1⟩)
  go_ret
  exact ⟨rfl, hb1⟩
theorem ending_any (w : World) :
    Calls Tryz.prog 57 #[] w fun ev w' => ev = .returned (.string (bt (List.replicate 1024 0))) ∧ Below w.heap.size w w' := by
  obtain ⟨T, hT⟩ : ∃ T, T = bt (List.replicate 1024 0) := ⟨_, rfl⟩
  have h : Calls Tryz.prog 86 #[.int .i64 1024] w fun ev w' => ev = .returned (.string T) ∧ Below w.heap.size w w' := by rw [hT]; exact noughts_any 1024 w (by omega)
  rw [← hT]
  clear hT
  go_enter Tryz.func57, Tryz.ntmps57
  go_wp2_with (go_at_call 86; refine h.mono ?_; clear h; rintro ev w1 ⟨rfl, hb1⟩)
  go_ret
  exact ⟨rfl, hb1⟩
theorem filledP_any (s : ByteArray) (w : World) (hs : s.size ≤ 1048576) :
    Calls Tryz.prog 85 #[.string s] w fun ev w' => ev = .returned (.string (bt (s.data.toList ++ List.replicate (padL s.size) 0))) ∧ Below w.heap.size w w' := by
  obtain ⟨r, hr⟩ : ∃ r, r = s.size % 512 := ⟨_, rfl⟩
  have e1 : (s.size : Int).tmod 512 = (r : Int) := by rw [hr]; exact Int.ofNat_tmod s.size 512
  have r5 : r < 512 := by rw [hr]; exact Nat.mod_lt _ (by omega)
  have HR := hide hr
  clear hr
  by_cases h0 : r = 0
  · subst h0
    have hp : padL s.size = 0 := by rw [padL, ← unhide HR]
    have HF : Hid (bt (s.data.toList ++ List.replicate (padL s.size) 0) = s) := hide (by rw [hp]; simp [bt_of])
    clear hp r5
    go_enter Tryz.func85, Tryz.ntmps85
    go_wp2
    go_ret
    exact ⟨by rw [unhide HF]; rfl, Below.refl _ _⟩
  · have hp : padL s.size = 512 - r := by rw [padL, ← unhide HR]; exact Nat.mod_eq_of_lt (by omega)
    obtain ⟨p, hpp⟩ : ∃ p, p = 512 - r := ⟨_, rfl⟩
    have e2 : (512 : Int) - (r : Int) = (p : Int) := by omega
    have p5 : p ≤ 512 := by omega
    have h := noughts_any p w (by omega)
    have HF : Hid (bt (s.data.toList ++ List.replicate (padL s.size) 0) = s ++ bt (List.replicate p 0)) := hide (by rw [hp, ← hpp, ← bt_app, bt_of])
    clear hp hpp
    have hz : (bt (List.replicate p 0)).size ≤ 512 := by rw [bt_size, List.length_replicate]; exact p5
    go_enter Tryz.func85, Tryz.ntmps85
    go_wp2_with (go_at_call 86; refine h.mono ?_; clear h; rintro ev w1 ⟨rfl, hb1⟩)
    go_ret
    exact ⟨by rw [unhide HF]; rfl, hb1⟩
theorem blk_back {w : World} {b : Nat} {xs : List UInt8} (h : Blk w b xs) : (convert 41 9 (.slice (some ⟨b, 0, none⟩) 512 512)).run Tryz.prog w = .ok (.string (bt xs)) w := by
  have := run_convert_bytes_back (P := Tryz.prog) w 41 9 5 ⟨b, 0, none⟩ 512 xs Tryz.underlying41 Tryz.underlying5 Tryz.underlying9 (fun j hj => by
    rw [Addr.add_lit, Nat.zero_add]; exact blk_cell h hj)
  rw [h.2] at this
  exact this
theorem entry_block {c : Ent} (h : c.kind ≠ 2) : entryL c = blockL c := by
  have e : dataL c = [] := by rw [dataL, if_neg h]
  rw [entryL, e, blockL]; simp [padL]
theorem entry_file {c : Ent} (h : c.kind = 2) : entryL c = blockL c ++ (c.data.data.toList ++ List.replicate (padL c.data.size) 0) := by
  have e : dataL c = c.data.data.toList := by rw [dataL, if_pos h]
  rw [entryL, e, blockL, Lib.size_eq]; simp [List.append_assoc]
set_option maxHeartbeats 1000000 in
set_option maxRecDepth 10000 in
theorem written_any (c : Ent) (m : Nat) (w : World) (HPk : Hid (PkC c m)) (hP : Pk w) (hkd : c.kind = 1 ∨ c.kind = 2 ∨ c.kind = 3 ∨ c.kind = 4 ∨ c.kind = 5) (hp : (nameL c).length ≤ 100 ∨ ∃ i, slashFrom (nameL c) ((nameL c).length - 101) = some i) :
    Calls Tryz.prog 56 #[.agg #[.string c.path, .int .i64 c.kind, .int .i64 c.mode, .string c.data]] w fun ev w' => ev = .returned (.string (bt (entryL c))) ∧ Below w.heap.size w w' := by
  obtain ⟨W0, hW0⟩ : ∃ W0, W0 = w.alloc (.cells #[.string c.path, .int .i64 c.kind, .int .i64 c.mode, .string c.data] 37) := ⟨_, rfl⟩
  have hB0 : Below w.heap.size w W0 := by rw [hW0]; exact (Below.refl _ _).alloc (Nat.le_refl _) _
  have hs0 : W0.heap.size = w.heap.size + 1 := by rw [hW0, World.size_alloc]
  have q0 : W0.cell? ⟨w.heap.size, 0, none⟩ = some (.string c.path) := by rw [hW0]; exact cell_of_row _ _ 0 _ _ _ (heap_alloc_new _ _)
  have q1 : W0.cell? ⟨w.heap.size, 1, none⟩ = some (.int .i64 c.kind) := by rw [hW0]; exact cell_of_row _ _ 1 _ _ _ (heap_alloc_new _ _)
  have q2 : W0.cell? ⟨w.heap.size, 2, none⟩ = some (.int .i64 c.mode) := by rw [hW0]; exact cell_of_row _ _ 2 _ _ _ (heap_alloc_new _ _)
  have q3 : W0.cell? ⟨w.heap.size, 3, none⟩ = some (.string c.data) := by rw [hW0]; exact cell_of_row _ _ 3 _ _ _ (heap_alloc_new _ _)
  have hN := newBlock_any c m W0 HPk (hP.below hB0) hkd hp
  have hl := block_len (unhide HPk)
  obtain ⟨U, hU⟩ : ∃ U, U = (Lib.byteCells (blockL c)).toArray := ⟨_, rfl⟩
  rw [← hU] at hN
  have hsz : U.size = 512 := by rw [hU]; simp [Lib.byteCells, hl]
  have hin : (Tryz.prog.info? 148).map (·.size) = some U.size := by rw [hsz]; exact info173
  have hon : U.all (·.oneCell') = true := by rw [hU]; exact cells_one _
  have HL := hide hl
  have HU := hide hU
  clear hl hU hP hkd hp
  go_enter Tryz.func56, Tryz.ntmps56
  go_upto_region 1 with fail
  rw [← hW0]
  clear hW0
  go_upto_region 2 with (first
    | (go_at_call 84; refine hN.mono ?_; clear hN; rintro ev w1 ⟨rfl, hb1⟩; have q1 := cell_later hb1 q1; have q3 := cell_later hb1 q3; have hz : Tryz.zeroCells148.size = 512 := (by rw [zero173]; simp [Lib.byteCells]); have hR := heap_alloc_new w1 (.cells Tryz.zeroCells148 148); have hth := there_all hR U.size (by rw [hsz, hz]; exact Nat.le_refl _))
    | (refine wpList_store_mid rfl 148 (.tmp 3) (.tmp 5) rfl w1.heap.size 0 U rfl rfl hth hin hon ?_))
  obtain ⟨V, hV⟩ : ∃ V, V = (w1.alloc (.cells Tryz.zeroCells148 148)).setCells w1.heap.size 0 U.toList := ⟨_, rfl⟩
  have hb2 : Below w1.heap.size w1 V := by rw [hV]; exact below_setCells (Nat.le_refl _) _ _ _ ((Below.refl _ _).alloc (Nat.le_refl _) _)
  have hK : Blk V w1.heap.size (blockL c) := ⟨by rw [← unhide HU, hV]; exact heap_setCells_all hR (by rw [hsz, hz]), unhide HL⟩
  have hback := blk_back hK
  have q1 := cell_later hb2 q1
  have q3 := cell_later hb2 q3
  have hB1 := hB0.trans (hb1.mono hB0.size)
  have hB2 := hB1.trans (hb2.mono hB1.size)
  rw [← hV]
  clear hV hth hR hz hin hon hsz HU
  by_cases hk : c.kind = 2
  · have HF := hide (entry_file hk)
    rw [hk] at q1
    have hfl := filledP_any c.data V (by have := (unhide HPk).data; omega)
    go_upto_region 4 with fail
    have hK' : Blk V.drew w1.heap.size (blockL c) := hK
    have hback' := blk_back hK'
    have hd := (unhide HPk).data
    have hpd : padL c.data.size < 512 := Nat.mod_lt _ (by omega)
    obtain ⟨T, hT⟩ : ∃ T, T = bt (c.data.data.toList ++ List.replicate (padL c.data.size) 0) := ⟨_, rfl⟩
    obtain ⟨S, hS⟩ : ∃ S, S = bt (blockL c) := ⟨_, rfl⟩
    have hTz : T.size ≤ 1049088 := by rw [hT, bt_size, List.length_append, List.length_replicate, ← Lib.size_eq]; omega
    have hSz : S.size = 512 := by rw [hS, bt_size]; exact unhide HL
    have n1 : ¬ 9223372036854775807 < S.size + T.size := by omega
    have HE : Hid (S ++ T = bt (entryL c)) := hide (by rw [hS, hT, bt_app, ← unhide HF])
    rw [← hT] at hfl
    rw [← hS] at hback'
    have HT := hide hT
    have HS := hide hS
    clear hfl hback hT hS hTz hSz hpd
    go_region_with (go_at_call 85; refine (filledP_any c.data _ hd).mono ?_; rw [← unhide HT]; rintro ev w2 ⟨rfl, hb3⟩; have hback2 := blk_back (hK.below (chain0 hb3)); rw [← unhide HS] at hback2)
    all_goals
      go_wp2
      go_ret
      exact ⟨by rw [← unhide HE]; rfl, hB2.trans ((chain0 hb3).mono hB2.size)⟩
  · have HF := hide (entry_block hk)
    have hk' : (c.kind == 2) = false := by simp [hk]
    go_wp2
    go_ret
    exact ⟨by rw [unhide HF]; rfl, hB2⟩
end Go.Proofs.YtjofjcjojgpaeaaGreatDoor
