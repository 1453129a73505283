import Derived.Test.YtjofjcjojgpaeaaGreatDoorJUnpE
namespace Go.Proofs.YtjofjcjojgpaeaaGreatDoor
open Go.RowKit

theorem flag_no0 (c : Ent) : flagL c ≠ 0 := by
  unfold flagL; split
  · decide
  · split <;> decide
theorem upN_one {x : UInt8} (h : x ≠ 0) : upN [x] = [x] := by simp [upN, h]
theorem trim_slash (l : List UInt8) : Lib.trimSuffix (l ++ [47]) [47] = l := by
  have : Lib.hasSuffix (l ++ [47]) [47] = true := by
    rw [Lib.hasSuffix, List.isSuffixOf_iff_suffix]; exact List.suffix_append _ _
  rw [Lib.trimSuffix, this]
  simp
theorem chg_back {c : Ent} (h : chOk c = true) (r : List UInt8) : chgL (entryL c ++ r) = (c.path.data.toList, c.kind, linkL c) := by
  have hf := ent_fld (pkg_of h) r
  have hk := (chOk_kind h).1
  have hn := nm_back h r
  have hkd : upN (fldL (entryL c ++ r) 156 1) = [flagL c] := by rw [hf.kind, upN_one (flag_no0 c)]
  unfold chgL
  rw [hkd, hn]
  by_cases h1 : c.kind = 1
  · have e : flagL c = 53 := by simp [flagL, h1]
    have en : nameL c = c.path.data.toList ++ [47] := by simp [nameL, h1]
    have el : linkL c = [] := by simp [linkL, h1]
    rw [e, if_pos rfl, en, trim_slash, el, h1]
  · by_cases h3 : c.kind = 3
    · have e : flagL c = 50 := by simp [flagL, h3]
      have en : nameL c = c.path.data.toList := by simp [nameL, h3]
      rw [e, if_neg (by decide), if_pos rfl, en, hf.link, upN_fill (link_no0 h), h3]
    · have e : flagL c = 48 := by simp [flagL, h1, h3]
      have el : linkL c = [] := by simp [linkL, h3]
      have hu := unm_back h (by omega)
      rw [e, if_neg (by decide), if_neg (by decide), if_pos rfl, hu, el]
theorem digN_ne {v n : Nat} (h : (octL v).length ≤ n) (hn : 0 < n) : digN v n ≠ [] := fun e => by
  have := digN_len h
  rw [e] at this
  simp at this; omega
theorem mode_back {c : Ent} (h : chOk c = true) (r : List UInt8) {v : Int} (hv : NumIs (upN (fldL (entryL c ++ r) 100 8)) v) : v = c.mode := by
  have hm := (chOk_kind h).2.1
  have o1 : (octL c.mode.toNat).length ≤ 7 := by
    have := octL_lt 2 c.mode.toNat (by simp; omega)
    omega
  rw [(ent_fld (pkg_of h) r).mode, upN_dig] at hv
  have := hv (digN_ne o1 (by omega)) (digN_oct _ _)
  rw [digN_val] at this
  omega
theorem size_back {c : Ent} (h : chOk c = true) (r : List UInt8) {v : Int} (hv : NumIs (upN (fldL (entryL c ++ r) 124 12)) v) : v = ((dataL c).length : Nat) := by
  obtain ⟨m, hm⟩ := (pkg_of h).pkc
  have o2 : (octL (dataL c).length).length ≤ 11 := by
    have := octL_lt 4 (dataL c).length (by have := hm.file; simp; omega)
    omega
  rw [(ent_fld (pkg_of h) r).size, upN_dig] at hv
  have := hv (digN_ne o2 (by omega)) (digN_oct _ _)
  rw [digN_val] at this
  exact this
/-- A change without data is told by its path, its kind, its mode and its target. -/
theorem data_of {c : Ent} (h : chOk c = true) (hk : c.kind ≠ 2) : c.data.data.toList = linkL c := by
  unfold linkL
  split
  · rfl
  · rename_i h3
    unfold chOk at h
    by_cases hk4 : c.kind = 4 ∨ c.kind = 5
    · rw [if_pos hk4] at h
      simp only [Bool.and_eq_true, beq_iff_eq] at h
      exact h.2
    · rw [if_neg hk4] at h
      have hg := (ent_parts h).2.2
      have := good_kind hg
      unfold goodE at hg
      rw [if_pos (by omega)] at hg
      simp only [Bool.and_eq_true, beq_iff_eq] at hg
      exact hg.2
theorem fld_take {s : List UInt8} {o n : Nat} (h : o + n ≤ 512) : fldL (s.take 512) o n = fldL s o n := by
  rw [fldL, fldL, List.drop_take, List.take_take, Nat.min_eq_left (by omega)]
theorem nm_take (s : List UInt8) : nmL (s.take 512) = nmL s := by rw [nmL, nmL, fld_take (by omega), fld_take (by omega)]
theorem chg_take (s : List UInt8) : chgL (s.take 512) = chgL s := by
  unfold chgL; rw [fld_take (by omega), nm_take, fld_take (by omega)]
/-- What reading a text tells: if it begins with a change's writing, that change. -/
structure ReadIs (s : List UInt8) (c : Ent) : Prop where
  back : ∀ c' r, chOk c' = true → s = entryL c' ++ r → c = c'
  path : c.path.size ≤ 1048576
theorem entry_long {c : Ent} (h : chOk c = true) (r : List UInt8) : 512 ≤ (entryL c ++ r).length := by
  have := (ent_fld (pkg_of h) r).len; omega
theorem bt_inj {a b : List UInt8} (h : bt a = bt b) : a = b := by rw [← bt_list a, h, bt_list]
theorem ent_eq {c d : Ent} (h1 : c.path = d.path) (h2 : c.kind = d.kind) (h3 : c.mode = d.mode) (h4 : c.data = d.data) : c = d := by
  cases c; cases d; simp_all
theorem unm_len (n : List UInt8) : (unmL n).1.length ≤ n.length + 1 := by
  have h1 := dir_le n
  have h2 := name_le n
  unfold unmL
  split
  · exact Nat.le_succ_of_le h1
  · split
    · by_cases hs : 47 ∈ n
      · obtain ⟨a, b, rfl, hb⟩ := last_slash hs
        rw [(dir_at hb).1, (dir_at hb).2]
        simp only [inL]
        split <;> simp <;> omega
      · rw [(dir_no hs).1, (dir_no hs).2]
        simp [inL]; omega
    · exact Nat.le_succ _
theorem nm_len (s : List UInt8) : (nmL s).length ≤ 255 + 1 := by
  have h1 := Nat.le_trans (upN_len (fldL s 345 155)) (fld_le s 345 155)
  have h2 := Nat.le_trans (upN_len (fldL s 0 100)) (fld_le s 0 100)
  unfold nmL inL
  split
  · omega
  · rw [List.length_append, List.length_cons]; omega
theorem run_copy_long {w : World} (b : Nat) (s : ByteArray) (cur : Array Value) (hg : w.heap[b]? = some (.cells cur 148 (0, 0))) (hc : cur.size = 512) (hs : 512 ≤ s.size) :
    (Builtin.copy_ #[41, 9] 3 #[.slice (some ⟨b, 0, none⟩) 512 512, .string s]).run Tryz.prog w = .ok (goInt 512) (w.setRow b (Lib.byteCells (s.data.toList.take 512)).toArray) := by
  have hl : (Lib.byteCells (s.data.toList.take 512)).length = 512 := by rw [Lib.byteCells_length, List.length_take, ← Lib.size_eq]; omega
  have hst := run_storeCells_at Tryz.prog b 0 148 (Lib.byteCells (s.data.toList.take 512)) 0 cur w hg (by rw [hl, hc]; omega) (Lib.byteCells_one _)
  have hmin : Nat.min s.size 512 = 512 := Nat.min_eq_right hs
  have htk : List.take 512 (List.map (fun b : UInt8 => Value.int IntKind.u8 (b.toNat : Int)) s.data.toList) = Lib.byteCells (s.data.toList.take 512) := by
    rw [← List.map_take]; rfl
  rw [hl] at hst
  simp only [Nat.add_zero] at hst
  have hz := size5
  cases hq : Tryz.prog.info? 5 with
  | none => simp [hq] at hz
  | some i =>
    simp [Builtin.copy_, run_underlying Tryz.underlying41, Builtin.lenOf, Builtin.firstCells, sizeOf, typeInfo, hq, hmin]
    rw [htk, hst]
    simp [Result.andThen, hc, List.drop_eq_nil_of_le]
end Go.Proofs.YtjofjcjojgpaeaaGreatDoor

namespace Go.Proofs.YtjofjcjojgpaeaaGreatDoor
open Go.RowKit

theorem chg_path_len (s : List UInt8) : (chgL s).1.length ≤ 257 := by
  have h := nm_len s
  have hu := unm_len (nmL s)
  unfold chgL
  split
  · show (Lib.trimSuffix (nmL s) [47]).length ≤ 257
    unfold Lib.trimSuffix
    split
    · rw [List.length_take]; omega
    · omega
  · split
    · exact Nat.le_succ_of_le h
    · split
      · exact Nat.le_trans hu (by omega)
      · simp
theorem read_zero {s : ByteArray} (hs : s.size < 512) : ReadIs s.data.toList ⟨⟨#[]⟩, 0, 0, ⟨#[]⟩⟩ :=
  ⟨fun c' r h e => by have := entry_long h r; rw [← e, ← Lib.size_eq] at this; omega, by decide⟩
theorem read_chg {s : List UInt8} {c : Ent} (hc : ChgIs (s.take 512) c) (hk : c.kind ≠ 2) : ReadIs s c := by
  have h1 := hc.path
  have h2 := hc.kind
  have h3 := hc.data
  have h4 := hc.mode
  rw [chg_take] at h1 h2 h3
  rw [fld_take (by omega)] at h4
  refine ⟨fun c' r h e => ?_, ?_⟩
  · have hb := chg_back h r
    rw [← e] at hb
    rw [hb] at h1 h2 h3
    rw [e] at h4
    refine ent_eq (by rw [h1, bt_of]) h2 (mode_back h r h4) ?_
    have hk' : c'.kind ≠ 2 := fun x => hk (h2.trans x)
    rw [h3]
    show bt (linkL c') = _
    rw [← data_of h hk', bt_of]
  · rw [h1, bt_size]; exact Nat.le_trans (chg_path_len s) (by omega)
theorem read_file {s : List UInt8} {c : Ent} {v : Nat} {d : ByteArray} (hc : ChgIs (s.take 512) c) (hk : c.kind = 2) (hv : NumIs (upN (fldL (s.take 512) 124 12)) (v : Int)) (hd : d = bt ((s.drop 512).take v)) : ReadIs s { c with data := d } := by
  have h1 := hc.path
  have h2 := hc.kind
  have h4 := hc.mode
  rw [chg_take] at h1 h2
  rw [fld_take (by omega)] at h4 hv
  refine ⟨fun c' r h e => ?_, ?_⟩
  · have hb := chg_back h r
    rw [← e] at hb
    rw [hb] at h1 h2
    rw [e] at h4 hv
    have hk' : c'.kind = 2 := h2.symm.trans hk
    have hz := size_back h r hv
    have hdl : dataL c' = c'.data.data.toList := by simp [dataL, hk']
    refine ent_eq (by show c.path = _; rw [h1, bt_of]) h2 (mode_back h r h4) ?_
    show d = _
    have he := (ent_fld (pkg_of h) r).data
    rw [← e] at he
    unfold fldL at he
    rw [hd, show v = (dataL c').length by omega, he, hdl, bt_of]
  · show c.path.size ≤ _
    rw [h1, bt_size]; exact Nat.le_trans (chg_path_len s) (by omega)
theorem read_none {s : List UInt8} {c : Ent} {v : Int} (_ : ChgIs (s.take 512) c) (_ : c.kind = 2) (hv : NumIs (upN (fldL (s.take 512) 124 12)) v) (hb : v < 0 ∨ (s.length : Int) - 512 < v) : ReadIs s ⟨⟨#[]⟩, 0, 0, ⟨#[]⟩⟩ := by
  refine ⟨fun c' r h e => ?_, by decide⟩
  rw [fld_take (by omega), e] at hv
  have hz := size_back h r hv
  have hl := (ent_fld (pkg_of h) r).len
  rw [← e] at hl
  omega
set_option maxHeartbeats 2000000 in
set_option maxRecDepth 10000 in
theorem read_any (s : ByteArray) (w : World) (hR : Rd w) (hs : s.size ≤ 281474976710656) :
    Calls Tryz.prog 87 #[.string s] w fun ev w' => ∃ c : Ent, ev = .returned (.agg #[.string c.path, .int .i64 c.kind, .int .i64 c.mode, .string c.data]) ∧ Hid (ReadIs s.data.toList c) ∧ Below w.heap.size w w' := by
  obtain ⟨W0, hW0⟩ : ∃ W0, W0 = w.alloc (.cells #[.string ⟨#[]⟩, .int .i64 0, .int .i64 0, .string ⟨#[]⟩] 37) := ⟨_, rfl⟩
  have hB0 : Below w.heap.size w W0 := by rw [hW0]; exact (Below.refl _ _).alloc (Nat.le_refl _) _
  have hq0 : W0.heap[w.heap.size]? = some (.cells #[.string ⟨#[]⟩, .int .i64 0, .int .i64 0, .string ⟨#[]⟩] 37 (0, 0)) := by rw [hW0]; exact heap_alloc_new _ _
  have hs0 : W0.heap.size = w.heap.size + 1 := by rw [hW0, World.size_alloc]
  by_cases hl : s.size < 512
  · have HF := hide (read_zero hl)
    have i1 : (s.size : Int) < 512 := by omega
    have z0 : W0.cell? ⟨w.heap.size, 0, none⟩ = some (.string ⟨#[]⟩) := cell_of_row _ _ 0 _ _ _ hq0
    have z1 : W0.cell? ⟨w.heap.size, 1, none⟩ = some (.int .i64 0) := cell_of_row _ _ 1 _ _ _ hq0
    have z2 : W0.cell? ⟨w.heap.size, 2, none⟩ = some (.int .i64 0) := cell_of_row _ _ 2 _ _ _ hq0
    have z3 : W0.cell? ⟨w.heap.size, 3, none⟩ = some (.string ⟨#[]⟩) := cell_of_row _ _ 3 _ _ _ hq0
    have y0 := frz hq0 0
    have y1 := frz hq0 1
    have y2 := frz hq0 2
    have y3 := frz hq0 3
    clear hq0 hl hR hs0
    go_enter Tryz.func87, Tryz.ntmps87
    go_upto_region 1 with fail
    rw [← hW0]
    clear hW0
    go_wp2_with fail
    exact bodyPost_ret (v := .agg #[.string ⟨#[]⟩, .int .i64 0, .int .i64 0, .string ⟨#[]⟩]) (by simp [results, Tryz.results87, go_sem, z0, z1, z2, z3]) rfl ⟨⟨⟨#[]⟩, 0, 0, ⟨#[]⟩⟩, rfl, HF, below_z4 hB0⟩
  · have i1 : ¬ (s.size : Int) < 512 := by omega
    obtain ⟨W1, hW1⟩ : ∃ W1, W1 = W0.alloc (.cells Tryz.zeroCells148 148) := ⟨_, rfl⟩
    obtain ⟨bb, hbb⟩ : ∃ bb, bb = W0.heap.size := ⟨_, rfl⟩
    have hz1 : W1.heap[bb]? = some (.cells Tryz.zeroCells148 148 (0, 0)) := by rw [hW1, hbb]; exact heap_alloc_new _ _
    have hrun := run_copy_long bb s _ hz1 (by rw [zero173]; simp [Lib.byteCells]) (by omega)
    obtain ⟨V, hV⟩ : ∃ V, V = W1.setRow bb (Lib.byteCells (s.data.toList.take 512)).toArray := ⟨_, rfl⟩
    rw [← hV] at hrun
    have hK : Blk V bb (s.data.toList.take 512) := ⟨by rw [hV]; exact setRow_heap _ _ _ _ _ _ hz1, by rw [List.length_take, ← Lib.size_eq]; omega⟩
    have hB01 : Below W0.heap.size W0 W1 := by rw [hW1]; exact (Below.refl _ _).alloc (Nat.le_refl _) _
    have hB1V : Below W0.heap.size W0 V := by
      rw [hV]
      exact ⟨hB01.os, hB01.tape, hB01.output, by simpa using hB01.size, fun k hk => (setRow_other _ _ _ _ (by omega)).trans (hB01.block k hk)⟩
    have hBV : Below w.heap.size w V := hB0.trans (hB1V.mono hB0.size)
    have HQ := hide (keepC_below hB1V _ _ _ _ hq0)
    have HRV := hide (hR.below hBV)
    have HKV := hide hK
    have hbw : w.heap.size < bb := by omega
    have HW0 := hide hW0
    have HW1 := hide hW1
    have HBB : Hid (bb = w.heap.size + 1) := hide (by omega)
    clear hq0 hl hR hz1 hK hV hB01 hB1V hB0 hW0 hW1 hbb hs0
    go_enter Tryz.func87, Tryz.ntmps87
    go_upto_region 4 with fail
    rw [← unhide HW0, ← unhide HW1, ← unhide HBB]
    clear HW0 HW1 HBB
    go_upto_region 5 with (at_builtin; refine Lib.wpList_copy_run _ rfl _ _ 41 9 rfl _ _ rfl rfl hrun ?_)
    clear hrun
    go_upto_region 6 with (go_at_call 110; refine (change_any bb (s.data.toList.take 512) V (unhide HKV) (unhide HRV)).mono ?_; rintro ev w5 ⟨c, rfl, HC, hb5⟩)
    obtain ⟨W5, hW5⟩ : ∃ W5, W5 = w5.alloc (.cells #[.string c.path, .int .i64 c.kind, .int .i64 c.mode, .string c.data] 37) := ⟨_, rfl⟩
    rw [← hW5]
    have hb5' : Below w5.heap.size w5 W5 := by rw [hW5]; exact (Below.refl _ _).alloc (Nat.le_refl _) _
    have hBV5 : Below V.heap.size V W5 := hb5.trans (hb5'.mono hb5.size)
    have hq := (by rw [hW5]; exact heap_alloc_new _ _ : W5.heap[w5.heap.size]? = some (.cells #[.string c.path, .int .i64 c.kind, .int .i64 c.mode, .string c.data] 37 (0, 0)))
    have hz := keepC_below hBV5 _ _ _ _ (unhide HQ)
    have hlt0 : w.heap.size < w5.heap.size := Nat.lt_of_lt_of_le (Array.getElem?_eq_some_iff.1 (unhide HQ)).1 hb5.size
    have hB5 : Below w.heap.size w W5 := hBV.trans (hBV5.mono hBV.size)
    have q0 : W5.cell? ⟨w5.heap.size, 0, none⟩ = some (.string c.path) := cell_of_row _ _ 0 _ _ _ hq
    have q1 : W5.cell? ⟨w5.heap.size, 1, none⟩ = some (.int .i64 c.kind) := cell_of_row _ _ 1 _ _ _ hq
    have q2 : W5.cell? ⟨w5.heap.size, 2, none⟩ = some (.int .i64 c.mode) := cell_of_row _ _ 2 _ _ _ hq
    have q3 : W5.cell? ⟨w5.heap.size, 3, none⟩ = some (.string c.data) := cell_of_row _ _ 3 _ _ _ hq
    have z0 : W5.cell? ⟨w.heap.size, 0, none⟩ = some (.string ⟨#[]⟩) := cell_of_row _ _ 0 _ _ _ hz
    have z1 : W5.cell? ⟨w.heap.size, 1, none⟩ = some (.int .i64 0) := cell_of_row _ _ 1 _ _ _ hz
    have z2 : W5.cell? ⟨w.heap.size, 2, none⟩ = some (.int .i64 0) := cell_of_row _ _ 2 _ _ _ hz
    have z3 : W5.cell? ⟨w.heap.size, 3, none⟩ = some (.string ⟨#[]⟩) := cell_of_row _ _ 3 _ _ _ hz
    have y0 := frz hz 0
    have y1 := frz hz 1
    have y2 := frz hz 2
    have y3 := frz hz 3
    have HHq := hide hq
    have HHz := hide hz
    have HK5 := hide ((unhide HKV).below hBV5)
    have HR5 := hide ((unhide HRV).below hBV5)
    clear hW5 hb5' hb5 hBV5 hq hz HQ HKV HRV hBV
    by_cases hk : c.kind = 2
    · have hR5 := unhide HR5
      have p0 : W5.cell? ⟨4, 0, none⟩ = some (.int .i64 124) := (hR5.f (b := 4) (o := 124) (n := 12) (by decide)).1
      have p1 : W5.cell? ⟨4, 1, none⟩ = some (.int .i64 12) := (hR5.f (b := 4) (o := 124) (n := 12) (by decide)).2
      have HKd := hide hk
      have i2 : (512 : Int) ≤ (s.size : Int) := by omega
      have k1 := q1
      rw [hk] at k1
      clear hR5 hk q1
      go_upto_region 8 with fail
      go_region_held3 (fun w' => w'.cell? ⟨4, 0, none⟩ = some (.int .i64 124) ∧ w'.cell? ⟨4, 1, none⟩ = some (.int .i64 12))
        (first | exact ⟨p0, p1⟩ | exact ⟨cell_later (chain0 hb6) p0, cell_later (chain0 hb6) p1⟩ | go_keep)
        (first
          | (go_at_call 111; refine (number_rd bb 124 12 (s.data.toList.take 512) _ ?_ ?_ ?_ ?_ ?_).mono ?_; (exact (unhide HK5).drew); (exact (unhide HR5).drew); omega; omega; omega; rintro ev w6 ⟨v, rfl, HV, hb6⟩))
      have hB6 : Below w.heap.size w w6 := hB5.trans (Below.mono (B' := w.heap.size) (chain0 hb6) hB5.size)
      have hq := keepC_below (chain0 hb6) _ _ _ _ (unhide HHq)
      have hz := keepC_below (chain0 hb6) _ _ _ _ (unhide HHz)
      clear q0 k1 q2 q3 z0 z1 z2 z3 y0 y1 y2 y3 hb6 p0 p1 HHq HHz HK5 HR5 hB5
      have q0 : w6.cell? ⟨w5.heap.size, 0, none⟩ = some (.string c.path) := cell_of_row _ _ 0 _ _ _ hq
      have q1 : w6.cell? ⟨w5.heap.size, 1, none⟩ = some (.int .i64 c.kind) := cell_of_row _ _ 1 _ _ _ hq
      have q2 : w6.cell? ⟨w5.heap.size, 2, none⟩ = some (.int .i64 c.mode) := cell_of_row _ _ 2 _ _ _ hq
      have q3 : w6.cell? ⟨w5.heap.size, 3, none⟩ = some (.string c.data) := cell_of_row _ _ 3 _ _ _ hq
      have f3 := frz hq 3
      have z0 : w6.cell? ⟨w.heap.size, 0, none⟩ = some (.string ⟨#[]⟩) := cell_of_row _ _ 0 _ _ _ hz
      have z1 : w6.cell? ⟨w.heap.size, 1, none⟩ = some (.int .i64 0) := cell_of_row _ _ 1 _ _ _ hz
      have z2 : w6.cell? ⟨w.heap.size, 2, none⟩ = some (.int .i64 0) := cell_of_row _ _ 2 _ _ _ hz
      have z3 : w6.cell? ⟨w.heap.size, 3, none⟩ = some (.string ⟨#[]⟩) := cell_of_row _ _ 3 _ _ _ hz
      have y0 := frz hz 0
      have y1 := frz hz 1
      have y2 := frz hz 2
      have y3 := frz hz 3
      have hne : w5.heap.size ≠ w.heap.size := by omega
      have hne2 : w.heap.size ≠ w5.heap.size := by omega
      obtain ⟨D, hD⟩ : ∃ D, D = s.extract 512 s.size := ⟨_, rfl⟩
      have hDz : (D.size : Int) = (s.size : Int) - 512 := by rw [hD, ByteArray.size_extract]; omega
      have HD : Hid (D.data.toList = s.data.toList.drop 512) := hide (by rw [hD, ext_drop, bt_list])
      have HSz := hide (Lib.size_eq s)
      have HDZ := hide hDz
      rw [← hD]
      clear hq hz hD
      by_cases hv0 : v < 0
      · have HF := hide (read_none (unhide HC) (unhide HKd) (unhide HV) (.inl hv0))
        clear hDz
        go_wp2_with fail
        exact bodyPost_ret (v := .agg #[.string ⟨#[]⟩, .int .i64 0, .int .i64 0, .string ⟨#[]⟩]) (by simp [results, Tryz.results87, go_sem, z0, z1, z2, z3]) rfl ⟨⟨⟨#[]⟩, 0, 0, ⟨#[]⟩⟩, rfl, HF, below_z4 hB6⟩
      · by_cases hv1 : (D.size : Int) < v
        · have HF := hide (read_none (unhide HC) (unhide HKd) (unhide HV) (.inr (by rw [← unhide HSz]; omega)))
          clear hDz
          go_wp2_with fail
          exact bodyPost_ret (v := .agg #[.string ⟨#[]⟩, .int .i64 0, .int .i64 0, .string ⟨#[]⟩]) (by simp [results, Tryz.results87, go_sem, z0, z1, z2, z3]) rfl ⟨⟨⟨#[]⟩, 0, 0, ⟨#[]⟩⟩, rfl, HF, below_z4 hB6⟩
        · obtain ⟨k, rfl⟩ := Int.eq_ofNat_of_zero_le (by omega : 0 ≤ v)
          have i3 : (0 : Int) ≤ (k : Int) := by omega
          have i4 : (k : Int) ≤ (D.size : Int) := by omega
          have i5 : ¬ (k : Int) < 0 := by omega
          obtain ⟨d, hd⟩ : ∃ d, d = D.extract 0 k := ⟨_, rfl⟩
          have HF := hide (read_file (d := d) (unhide HC) (unhide HKd) (unhide HV) (by rw [hd, ext_take, unhide HD]))
          have HDd := hide hd
          clear hDz hv0 hd
          go_wp2_with fail
          rw [← unhide HDd]
          exact bodyPost_ret (v := .agg #[.string c.path, .int .i64 c.kind, .int .i64 c.mode, .string d]) (by simp [results, Tryz.results87, go_sem, z0, z1, z2, z3]) rfl ⟨⟨c.path, c.kind, c.mode, d⟩, rfl, HF, below_z4 (below_q hB6 hlt0)⟩
    · have HF := hide (read_chg (unhide HC) hk)
      have hk' : (c.kind == 2) = false := by simp [hk]
      clear hk
      go_wp2_with fail
      exact bodyPost_ret (v := .agg #[.string c.path, .int .i64 c.kind, .int .i64 c.mode, .string c.data]) (by simp [results, Tryz.results87, go_sem, z0, z1, z2, z3]) rfl ⟨c, rfl, HF, below_z4 hB5⟩
end Go.Proofs.YtjofjcjojgpaeaaGreatDoor
