import Derived.Test.YtkeefkfklmhcjaaGreatDoorJPckH
import Derived.Test.YtkeefkfklmhcjaaGreatDoorJPckC
import Derived.Test.YtkeefkfklmhcjaaGreatDoorJDigC
namespace Go.Proofs.YtkeefkfklmhcjaaGreatDoor
open Go.RowKit

/-- The block of a change. -/
def blockL (c : Ent) : List UInt8 := headL c ++ digL (totalL c) 6 ++ [32] ++ tailL c
theorem block_len {c : Ent} {m : Nat} (h : PkC c m) : (blockL c).length = 512 := by
  have h1 := octL_lt 5 (totalL c) (by have := total_lt h; simp; omega)
  simp only [blockL, List.length_append, head_len h, tail_len h, digL_len h1, List.length_cons, List.length_nil]
theorem fill_over {s : List UInt8} {n : Nat} : s ++ (List.replicate n (0 : UInt8)).drop s.length = fillL s n := by
  rw [List.drop_replicate, fillL]
/-- The header of a change, its check aside. -/
def preH (c : Ent) : Hd := ⟨fillL (partL (nameL c)).2 100, digL c.mode.toNat 7, digL 0 7, digL 0 7, digL (dataL c).length 11, digL 0 11, List.replicate 8 0, [flagL c], fillL (linkL c) 100, magicL, List.replicate 64 0, digL 0 7, digL 0 7, fillL (partL (nameL c)).1 155, List.replicate 12 0⟩
theorem hdB_ck (h : Hd) (x : List UInt8) : hdB { h with ck := x } = (h.nm ++ h.md ++ h.us ++ h.gr ++ h.sz ++ h.tm) ++ x ++ (h.kd ++ h.lk ++ h.mg ++ h.nn ++ h.d1 ++ h.d2 ++ h.ah ++ h.en) := by
  simp [hdB, List.append_assoc]
theorem pre_final (c : Ent) : hdB (checkH (preH c)) = blockL c := by
  have hs : sumL (hdB (blankH (preH c))) = totalL c := by
    rw [blankH, hdB_ck, sumL_app, sumL_app, totalL]
    have h8 : sumL (List.replicate 8 (32 : UInt8)) = 256 := by decide
    rw [h8]
    have e1 : (preH c).nm ++ (preH c).md ++ (preH c).us ++ (preH c).gr ++ (preH c).sz ++ (preH c).tm = headL c := rfl
    have e2 : (preH c).kd ++ (preH c).lk ++ (preH c).mg ++ (preH c).nn ++ (preH c).d1 ++ (preH c).d2 ++ (preH c).ah ++ (preH c).en = tailL c := rfl
    rw [e1, e2]; omega
  rw [checkH, hs, hdB_ck, blockL]
  have e1 : (preH c).nm ++ (preH c).md ++ (preH c).us ++ (preH c).gr ++ (preH c).sz ++ (preH c).tm = headL c := rfl
  have e2 : (preH c).kd ++ (preH c).lk ++ (preH c).mg ++ (preH c).nn ++ (preH c).d1 ++ (preH c).d2 ++ (preH c).ah ++ (preH c).en = tailL c := rfl
  rw [e1, e2]; simp [List.append_assoc]
theorem zero173 : Tryz.zeroCells174 = (Lib.byteCells (List.replicate 512 0)).toArray := by kernel_rfl
theorem info173 : (Tryz.prog.info? 174).map (·.size) = some 512 := by kernel_rfl
theorem cells_one (l : List UInt8) : (Lib.byteCells l).toArray.all (·.oneCell') = true := by
  simp [Lib.byteCells, Value.oneCell']
theorem grown_block {w w' : World} {b k : Nat} {o : Obj} (hg : w.grownBy w' (some b)) (h : w.heap[k]? = some o) (hne : k ≠ b) : w'.heap[k]? = some o :=
  (hg.block k (Array.getElem?_eq_some_iff.1 h).1 (fun e => hne (Option.some.inj e))).trans h
/-- What stands while the block of a change is filled. -/
structure NB (c : Ent) (w : World) (b : Nat) (W : World) (h : Hd) : Prop where
  at' : b = w.heap.size + 1 + 1
  b20 : 20 < b
  ok : HdOk h
  blk : Blk W b (hdB h)
  q : W.heap[w.heap.size]? = some (.cells #[.string c.path, .int .i64 c.kind, .int .i64 c.mode, .string c.data] 39 (0, 0))
  r : W.heap[w.heap.size + 1]? = some (.cells Tryz.zeroCells174 174 (0, 0))
  pk : Pk W
  below : Below w.heap.size w W
theorem NB.grown {c : Ent} {w W V : World} {b : Nat} {h n : Hd} (H : NB c w b W h) (hg : W.grownBy V (some b)) (hk : Blk V b (hdB n)) (ok : HdOk n) : NB c w b V n := by
  have hb := H.at'
  exact ⟨hb, H.b20, ok, hk, grown_block hg H.q (by omega), grown_block hg H.r (by omega), H.pk.grown hg H.b20,
    H.below.grown hg H.below.size (fun q hq => by cases hq; omega)⟩
theorem NB.under {c : Ent} {w W V : World} {b : Nat} {h : Hd} (H : NB c w b W h) (hb : Below W.heap.size W V) : NB c w b V h :=
  ⟨H.at', H.b20, H.ok, H.blk.below hb, (hb.block _ (Array.getElem?_eq_some_iff.1 H.q).1).trans H.q, (hb.block _ (Array.getElem?_eq_some_iff.1 H.r).1).trans H.r, H.pk.below hb, H.below.trans (hb.mono H.below.size)⟩
theorem NB.c0 {c : Ent} {w W : World} {b : Nat} {h : Hd} (H : NB c w b W h) : W.cell? ⟨w.heap.size, 0, none⟩ = some (.string c.path) := cell_of_row _ _ 0 _ _ _ H.q
theorem NB.c1 {c : Ent} {w W : World} {b : Nat} {h : Hd} (H : NB c w b W h) : W.cell? ⟨w.heap.size, 1, none⟩ = some (.int .i64 c.kind) := cell_of_row _ _ 1 _ _ _ H.q
theorem NB.c2 {c : Ent} {w W : World} {b : Nat} {h : Hd} (H : NB c w b W h) : W.cell? ⟨w.heap.size, 2, none⟩ = some (.int .i64 c.mode) := cell_of_row _ _ 2 _ _ _ H.q
theorem NB.c3 {c : Ent} {w W : World} {b : Nat} {h : Hd} (H : NB c w b W h) : W.cell? ⟨w.heap.size, 3, none⟩ = some (.string c.data) := cell_of_row _ _ 3 _ _ _ H.q
def namedH (c : Ent) : Hd := { hd0 with ah := (partL (nameL c)).1 ++ hd0.ah.drop (partL (nameL c)).1.length, nm := (partL (nameL c)).2 ++ hd0.nm.drop (partL (nameL c)).2.length }
theorem named_ok {c : Ent} {m : Nat} (h : PkC c m) : HdOk (namedH c) :=
  { hd0_ok with
    nm := (by show (_ ++ _ : List UInt8).length = 100; have := h.rest; rw [List.length_append, List.length_drop, hd0_ok.nm]; omega),
    ah := (by show (_ ++ _ : List UInt8).length = 155; have := h.ahead; rw [List.length_append, List.length_drop, hd0_ok.ah]; omega) }
theorem link_le {c : Ent} {m : Nat} (h : PkC c m) (hk : c.kind = 3) : c.data.size ≤ 100 := by
  have := h.link; rw [linkL, if_pos hk, ← Lib.size_eq] at this; exact this
theorem file_le {c : Ent} {m : Nat} (h : PkC c m) (hk : c.kind = 2) : c.data.size ≤ 4096 := by
  have := h.file; rw [dataL, if_pos hk, ← Lib.size_eq] at this; exact this
theorem kindH_ok {c : Ent} {m : Nat} {h : Hd} (hc : PkC c m) (ok : HdOk h) : HdOk (kindH h c) := by
  unfold kindH
  split
  · exact { ok with kd := rfl }
  · split
    · rename_i hk
      have := link_le hc hk
      exact { ok with kd := rfl, lk := (by show (_ ++ _ : List UInt8).length = 100; rw [List.length_append, List.length_drop, ok.lk, ← Lib.size_eq]; omega) }
    · split
      · rename_i hk
        have := file_le hc hk
        exact { ok with kd := rfl, sz := (by show (digL c.data.size 11).length = 12; exact digL_len (by have := octL_lt 5 c.data.size (by simp; omega); omega)) }
      · exact { ok with kd := rfl }
def numsH (c : Ent) (m : Nat) : Hd := { { { { { namedH c with md := digL m 7 } with us := digL 0 7 } with gr := digL 0 7 } with sz := digL 0 11 } with tm := digL 0 11 }
def magicB : ByteArray := ⟨#[117, 115, 116, 97, 114, 0, 48, 48]⟩
def lastH (h : Hd) : Hd := { { { h with mg := magicB.data.toList ++ h.mg.drop magicB.size } with d1 := digL 0 7 } with d2 := digL 0 7 }
theorem chain_final {c : Ent} {m : Nat} (h : PkC c m) : lastH (kindH (numsH c m) c) = preH c := by
  have hm : c.mode.toNat = m := by rw [h.mode]; rfl
  have e1 : (partL (nameL c)).1 ++ (List.replicate 155 (0 : UInt8)).drop (partL (nameL c)).1.length = fillL (partL (nameL c)).1 155 := fill_over
  have e2 : (partL (nameL c)).2 ++ (List.replicate 100 (0 : UInt8)).drop (partL (nameL c)).2.length = fillL (partL (nameL c)).2 100 := fill_over
  have e3 : c.data.data.toList ++ (List.replicate 100 (0 : UInt8)).drop c.data.size = fillL c.data.data.toList 100 := by rw [Lib.size_eq]; exact fill_over
  have e4 : magicB.data.toList ++ (List.replicate 8 (0 : UInt8)).drop magicB.size = magicL := by decide
  have e5 : fillL [] 100 = List.replicate 100 (0 : UInt8) := rfl
  unfold kindH preH flagL linkL dataL
  rw [hm]
  by_cases k1 : c.kind = 1
  · have k2 : c.kind ≠ 2 := by omega
    have k3 : c.kind ≠ 3 := by omega
    simp only [if_pos k1, if_neg k2, if_neg k3, lastH, numsH, namedH, hd0, e1, e2, e4, e5, List.length_nil]
  · by_cases k3 : c.kind = 3
    · have k2 : c.kind ≠ 2 := by omega
      simp only [if_neg k1, if_pos k3, if_neg k2, lastH, numsH, namedH, hd0, e1, e2, e3, e4, List.length_nil]
    · by_cases k2 : c.kind = 2
      · simp only [if_neg k1, if_neg k3, if_pos k2, lastH, numsH, namedH, hd0, e1, e2, e4, e5]
        rw [Lib.size_eq]
      · simp only [if_neg k1, if_neg k3, if_neg k2, lastH, numsH, namedH, hd0, e1, e2, e4, e5, List.length_nil]
set_option maxHeartbeats 4000000 in
set_option maxRecDepth 10000 in
theorem newBlock_any (c : Ent) (m : Nat) (w : World) (HPk : Hid (PkC c m)) (hP : Pk w) (hkd : c.kind = 1 ∨ c.kind = 2 ∨ c.kind = 3 ∨ c.kind = 4 ∨ c.kind = 5) (hp : (nameL c).length ≤ 100 ∨ ∃ i, slashFrom (nameL c) ((nameL c).length - 101) = some i) :
    Calls Tryz.prog 132 #[.agg #[.string c.path, .int .i64 c.kind, .int .i64 c.mode, .string c.data]] w fun ev w' => ev = .returned (.agg (Lib.byteCells (blockL c)).toArray) ∧ Below w.heap.size w w' := by
  have hw20 : 20 < w.heap.size := World.block_lt_of_cell? _ _ hP.bru
  obtain ⟨W0, hW0⟩ : ∃ W0, W0 = ((w.alloc (.cells #[.string c.path, .int .i64 c.kind, .int .i64 c.mode, .string c.data] 39)).alloc (.cells Tryz.zeroCells174 174)).alloc (.cells Tryz.zeroCells174 174) := ⟨_, rfl⟩
  obtain ⟨b, hb⟩ : ∃ b, b = w.heap.size + 1 + 1 := ⟨_, rfl⟩
  have H0 : Hid (NB c w b W0 hd0) := by
    have hB0 : Below w.heap.size w W0 := by rw [hW0]; exact (((Below.refl _ _).alloc (Nat.le_refl _) _).alloc (by simp) _).alloc (by simp; omega) _
    refine hide ⟨hb, by omega, hd0_ok, ?_, ?_, ?_, hP.below hB0, hB0⟩
    · rw [hd0_eq, hb]
      refine ⟨?_, by simp⟩
      rw [← zero173, hW0]
      have := heap_alloc_new ((w.alloc (.cells #[.string c.path, .int .i64 c.kind, .int .i64 c.mode, .string c.data] 39)).alloc (.cells Tryz.zeroCells174 174)) (.cells Tryz.zeroCells174 174)
      rw [World.size_alloc, World.size_alloc] at this
      exact this
    · rw [hW0]
      exact (Below.heap_alloc _ _ _ (by simp; omega)).trans ((Below.heap_alloc _ _ _ (by simp)).trans (heap_alloc_new _ _))
    · rw [hW0]
      refine (Below.heap_alloc _ _ _ (by simp)).trans ?_
      have := heap_alloc_new (w.alloc (.cells #[.string c.path, .int .i64 c.kind, .int .i64 c.mode, .string c.data] 39)) (.cells Tryz.zeroCells174 174)
      rw [World.size_alloc] at this
      exact this
  have hNm := nameOf_any c W0 (unhide HPk).path
  clear hP
  go_enter Tryz.func132, Tryz.ntmps132
  go_upto_region 2 with fail
  rw [← hW0, ← hb]
  clear hW0 hb hw20
  have q0 := (unhide H0).c0
  have q1 := (unhide H0).c1
  have q2 := (unhide H0).c2
  have q3 := (unhide H0).c3
  have hm5 := (unhide HPk).m512
  have HSn := hide (fun w1 hk1 hP1 => setName_any hd0 hd0_ok (nameL c) b w1 hk1 hP1 (unhide H0).b20 (unhide HPk).name hp (unhide HPk).rest (unhide HPk).ahead)
  clear hp
  go_upto_region 3 with (first
    | (go_at_call 156; refine hNm.mono ?_; clear hNm; rintro ev w1 ⟨rfl, hb1⟩)
    | (go_at_call 155; refine (unhide HSn w1 ((unhide H0).under hb1).blk ((unhide H0).under hb1).pk).mono ?_; rintro ev W2 ⟨rfl, HK, hg⟩))
  have H2 : Hid (NB c w b W2 (namedH c)) := hide (((unhide H0).under hb1).grown hg (unhide HK) (named_ok (unhide HPk)))
  obtain ⟨h2, e2⟩ : ∃ x, x = namedH c := ⟨_, rfl⟩
  rw [← e2] at H2
  have E2 := hide e2
  clear hg hb1 q0 q1 q2 q3 HSn H0 HK e2
  have f0 : W2.cell? ⟨1, 0, none⟩ = some (.int .i64 100) := ((unhide H2).pk.f (b := 1) (o := 100) (n := 8) (by decide)).1
  have f1 : W2.cell? ⟨1, 1, none⟩ = some (.int .i64 8) := ((unhide H2).pk.f (b := 1) (o := 100) (n := 8) (by decide)).2
  have q2 : W2.cell? ⟨w.heap.size, 2, none⟩ = some (.int .i64 (m : Int)) := by rw [← (unhide HPk).mode]; exact (unhide H2).c2
  have hT := num_md h2 (unhide H2).ok m b W2 (unhide H2).blk (by omega) (unhide H2).pk.bru
  go_upto_region 4 with (go_at_call 157; refine hT.mono ?_; clear hT; rintro ev W3 ⟨rfl, HV, hg⟩)
  obtain ⟨h3, e⟩ : ∃ x, x = { h2 with md := digL m 7 } := ⟨_, rfl⟩
  rw [← e] at HV
  have H3 : Hid (NB c w b W3 h3) := hide ((unhide H2).grown hg (unhide HV) (by rw [e]; exact { (unhide H2).ok with md := digL_len (by have := octL_lt 5 m (by first | decide | (simp; omega)); omega) }))
  have E3 := hide e
  clear e f0 f1 q2 HV hg H2
  have f0 : W3.cell? ⟨2, 0, none⟩ = some (.int .i64 108) := ((unhide H3).pk.f (b := 2) (o := 108) (n := 8) (by decide)).1
  have f1 : W3.cell? ⟨2, 1, none⟩ = some (.int .i64 8) := ((unhide H3).pk.f (b := 2) (o := 108) (n := 8) (by decide)).2
  have hT := num_us h3 (unhide H3).ok 0 b W3 (unhide H3).blk (by omega) (unhide H3).pk.bru
  go_upto_region 5 with (go_at_call 157; refine hT.mono ?_; clear hT; rintro ev W4 ⟨rfl, HV, hg⟩)
  obtain ⟨h4, e⟩ : ∃ x, x = { h3 with us := digL 0 7 } := ⟨_, rfl⟩
  rw [← e] at HV
  have H4 : Hid (NB c w b W4 h4) := hide ((unhide H3).grown hg (unhide HV) (by rw [e]; exact { (unhide H3).ok with us := digL_len (by have := octL_lt 5 0 (by first | decide | (simp; omega)); omega) }))
  have E4 := hide e
  clear e f0 f1 HV hg H3
  have f0 : W4.cell? ⟨3, 0, none⟩ = some (.int .i64 116) := ((unhide H4).pk.f (b := 3) (o := 116) (n := 8) (by decide)).1
  have f1 : W4.cell? ⟨3, 1, none⟩ = some (.int .i64 8) := ((unhide H4).pk.f (b := 3) (o := 116) (n := 8) (by decide)).2
  have hT := num_gr h4 (unhide H4).ok 0 b W4 (unhide H4).blk (by omega) (unhide H4).pk.bru
  go_upto_region 6 with (go_at_call 157; refine hT.mono ?_; clear hT; rintro ev W5 ⟨rfl, HV, hg⟩)
  obtain ⟨h5, e⟩ : ∃ x, x = { h4 with gr := digL 0 7 } := ⟨_, rfl⟩
  rw [← e] at HV
  have H5 : Hid (NB c w b W5 h5) := hide ((unhide H4).grown hg (unhide HV) (by rw [e]; exact { (unhide H4).ok with gr := digL_len (by have := octL_lt 5 0 (by first | decide | (simp; omega)); omega) }))
  have E5 := hide e
  clear e f0 f1 HV hg H4
  have f0 : W5.cell? ⟨4, 0, none⟩ = some (.int .i64 124) := ((unhide H5).pk.f (b := 4) (o := 124) (n := 12) (by decide)).1
  have f1 : W5.cell? ⟨4, 1, none⟩ = some (.int .i64 12) := ((unhide H5).pk.f (b := 4) (o := 124) (n := 12) (by decide)).2
  have hT := num_sz h5 (unhide H5).ok 0 b W5 (unhide H5).blk (by omega) (unhide H5).pk.bru
  go_upto_region 7 with (go_at_call 157; refine hT.mono ?_; clear hT; rintro ev W6 ⟨rfl, HV, hg⟩)
  obtain ⟨h6, e⟩ : ∃ x, x = { h5 with sz := digL 0 11 } := ⟨_, rfl⟩
  rw [← e] at HV
  have H6 : Hid (NB c w b W6 h6) := hide ((unhide H5).grown hg (unhide HV) (by rw [e]; exact { (unhide H5).ok with sz := digL_len (by have := octL_lt 5 0 (by first | decide | (simp; omega)); omega) }))
  have E6 := hide e
  clear e f0 f1 HV hg H5
  have f0 : W6.cell? ⟨5, 0, none⟩ = some (.int .i64 136) := ((unhide H6).pk.f (b := 5) (o := 136) (n := 12) (by decide)).1
  have f1 : W6.cell? ⟨5, 1, none⟩ = some (.int .i64 12) := ((unhide H6).pk.f (b := 5) (o := 136) (n := 12) (by decide)).2
  have hT := num_tm h6 (unhide H6).ok 0 b W6 (unhide H6).blk (by omega) (unhide H6).pk.bru
  go_upto_region 8 with (go_at_call 157; refine hT.mono ?_; clear hT; rintro ev W7 ⟨rfl, HV, hg⟩)
  obtain ⟨h7, e⟩ : ∃ x, x = { h6 with tm := digL 0 11 } := ⟨_, rfl⟩
  rw [← e] at HV
  have H7 : Hid (NB c w b W7 h7) := hide ((unhide H6).grown hg (unhide HV) (by rw [e]; exact { (unhide H6).ok with tm := digL_len (by have := octL_lt 5 0 (by first | decide | (simp; omega)); omega) }))
  have E7 := hide e
  clear e f0 f1 HV hg H6
  have q0 := (unhide H7).c0
  have q1 := (unhide H7).c1
  have q2 := (unhide H7).c2
  have q3 := (unhide H7).c3
  have hT := setKind_any h7 (unhide H7).ok c b W7 (unhide H7).blk (unhide H7).pk (unhide H7).b20 hkd (fun hk => link_le (unhide HPk) hk) (fun hk => file_le (unhide HPk) hk)
  clear hkd
  go_upto_region 9 with (go_at_call 158; refine hT.mono ?_; clear hT; rintro ev W8 ⟨rfl, HV, hg⟩)
  obtain ⟨h8, e⟩ : ∃ x, x = kindH h7 c := ⟨_, rfl⟩
  rw [← e] at HV
  have H8 : Hid (NB c w b W8 h8) := hide ((unhide H7).grown hg (unhide HV) (by rw [e]; exact kindH_ok (unhide HPk) (unhide H7).ok))
  have E8 := hide e
  clear e q0 q1 q2 q3 HV hg H7
  have f0 : W8.cell? ⟨6, 0, none⟩ = some (.int .i64 257) := ((unhide H8).pk.f (b := 6) (o := 257) (n := 8) (by decide)).1
  have f1 : W8.cell? ⟨6, 1, none⟩ = some (.int .i64 8) := ((unhide H8).pk.f (b := 6) (o := 257) (n := 8) (by decide)).2
  have hT := txt_mg h8 (unhide H8).ok magicB b W8 (unhide H8).blk (by decide)
  go_upto_region 10 with (go_at_call 159; refine hT.mono ?_; clear hT; rintro ev W9 ⟨rfl, HV, hg⟩)
  obtain ⟨h9, e⟩ : ∃ x, x = { h8 with mg := magicB.data.toList ++ h8.mg.drop magicB.size } := ⟨_, rfl⟩
  rw [← e] at HV
  have H9 : Hid (NB c w b W9 h9) := hide ((unhide H8).grown hg (unhide HV) (by rw [e]; exact { (unhide H8).ok with mg := over_len (unhide H8).ok.mg (by decide) }))
  have E9 := hide e
  clear e f0 f1 HV hg H8
  have f0 : W9.cell? ⟨7, 0, none⟩ = some (.int .i64 329) := ((unhide H9).pk.f (b := 7) (o := 329) (n := 8) (by decide)).1
  have f1 : W9.cell? ⟨7, 1, none⟩ = some (.int .i64 8) := ((unhide H9).pk.f (b := 7) (o := 329) (n := 8) (by decide)).2
  have hT := num_d1 h9 (unhide H9).ok 0 b W9 (unhide H9).blk (by omega) (unhide H9).pk.bru
  go_upto_region 11 with (go_at_call 157; refine hT.mono ?_; clear hT; rintro ev W10 ⟨rfl, HV, hg⟩)
  obtain ⟨h10, e⟩ : ∃ x, x = { h9 with d1 := digL 0 7 } := ⟨_, rfl⟩
  rw [← e] at HV
  have H10 : Hid (NB c w b W10 h10) := hide ((unhide H9).grown hg (unhide HV) (by rw [e]; exact { (unhide H9).ok with d1 := digL_len (by have := octL_lt 5 0 (by first | decide | (simp; omega)); omega) }))
  have E10 := hide e
  clear e f0 f1 HV hg H9
  have f0 : W10.cell? ⟨8, 0, none⟩ = some (.int .i64 337) := ((unhide H10).pk.f (b := 8) (o := 337) (n := 8) (by decide)).1
  have f1 : W10.cell? ⟨8, 1, none⟩ = some (.int .i64 8) := ((unhide H10).pk.f (b := 8) (o := 337) (n := 8) (by decide)).2
  have hT := num_d2 h10 (unhide H10).ok 0 b W10 (unhide H10).blk (by omega) (unhide H10).pk.bru
  go_upto_region 12 with (go_at_call 157; refine hT.mono ?_; clear hT; rintro ev W11 ⟨rfl, HV, hg⟩)
  obtain ⟨h11, e⟩ : ∃ x, x = { h10 with d2 := digL 0 7 } := ⟨_, rfl⟩
  rw [← e] at HV
  have H11 : Hid (NB c w b W11 h11) := hide ((unhide H10).grown hg (unhide HV) (by rw [e]; exact { (unhide H10).ok with d2 := digL_len (by have := octL_lt 5 0 (by first | decide | (simp; omega)); omega) }))
  have E11 := hide e
  clear e f0 f1 HV hg H10
  have hT := setCheck_any h11 (unhide H11).ok b W11 (unhide H11).blk (unhide H11).pk (unhide H11).b20
  have eP : h11 = preH c := by
    rw [← chain_final (unhide HPk), unhide E11, unhide E10, unhide E9, unhide E8, unhide E7, unhide E6, unhide E5, unhide E4, unhide E3, unhide E2]; rfl
  go_upto_region 13 with (go_at_call 160; refine hT.mono ?_; clear hT; rintro ev V ⟨rfl, HV, hg⟩)
  have hBk : Blk V b (blockL c) := by rw [← pre_final, ← eP]; exact unhide HV
  have hR := grown_block hg (unhide H11).r (by have := (unhide H11).at'; omega)
  have hB := (unhide H11).below.grown hg (unhide H11).below.size (fun q hq => by cases hq; have := (unhide H11).at'; omega)
  have hab := (unhide H11).at'
  clear eP hg HV H11 E11 E10 E9 E8 E7 E6 E5 E4 E3 E2
  have hl := block_len (unhide HPk)
  obtain ⟨U, hU⟩ : ∃ U, U = (Lib.byteCells (blockL c)).toArray := ⟨_, rfl⟩
  have hsz : U.size = 512 := by rw [hU]; simp [Lib.byteCells, hl]
  have hin : (Tryz.prog.info? 174).map (·.size) = some U.size := by rw [hsz]; exact info173
  have hz : Tryz.zeroCells174.size = 512 := by rw [zero173]; simp [Lib.byteCells]
  have hth := there_all hR U.size (by rw [hsz, hz]; exact Nat.le_refl _)
  have hon : U.all (·.oneCell') = true := by rw [hU]; exact cells_one _
  have hfin : Hid ((V.setCells (w.heap.size + 1) 0 U.toList).heap[w.heap.size + 1]? = some (.cells U 174 (0, 0))) := hide (heap_setCells_all hR (by rw [hsz, hz]))
  have hbel : Hid (Below w.heap.size w (V.setCells (w.heap.size + 1) 0 U.toList)) := hide (below_setCells (by omega) _ _ _ hB)
  have hblk2 : V.heap[b]? = some (.cells U 174 (0, 0)) := by rw [hU]; exact hBk.1
  have HU := hide hU
  clear hBk hR hB hl hsz hz hU hab HPk hm5
  go_wp2_with (first
    | (refine wpList_load_row rfl 174 (.tmp 3) rfl b rfl 174 _ (0, 0) _ hblk2 Tryz.underlying174 rfl hin ?_)
    | (refine wpList_store_mid rfl 174 (.tmp 2) (.tmp 28) rfl (w.heap.size + 1) 0 U rfl rfl hth hin hon ?_))
  refine bodyPost_ret (v := .agg U) (results_cell_row Tryz.results132 _ _ (w.heap.size + 1) 174 U (0, 0) _ rfl (unhide hfin) Tryz.underlying174 rfl hin) rfl ⟨by rw [unhide HU], unhide hbel⟩
end Go.Proofs.YtkeefkfklmhcjaaGreatDoor
