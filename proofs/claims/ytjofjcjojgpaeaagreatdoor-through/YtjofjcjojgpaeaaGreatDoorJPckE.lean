import Derived.Test.YtjofjcjojgpaeaaGreatDoorJPckB
import Derived.Lib.BufferWrite
import Derived.Lib.SlBuf
import Derived.Laws.Tables
namespace Go.Proofs.YtjofjcjojgpaeaaGreatDoor
open Go.RowKit

theorem join_any (d r : ByteArray) (w : World) (_ : d.size ≤ 1073741824) (_ : r.size ≤ 1073741824) :
    Calls Tryz.prog 133 #[.string d, .string r] w fun ev w' => ev = .returned (.string (bt (inL d.data.toList r.data.toList))) ∧ w' = w := by
  by_cases hd : d.data.toList = []
  · have g1 : d.toList.isEmpty = true := by rw [Lib.toList_data]; simpa using hd
    have HF : Hid (r = bt (inL d.data.toList r.data.toList)) := hide (by rw [inL, if_pos hd, bt_of])
    clear hd
    go_enter Tryz.func133, Tryz.ntmps133
    go_wp2
    go_ret
    exact ⟨congrArg (fun t => Ending.returned (Value.string t)) (unhide HF), rfl⟩
  · have g1 : d.toList.isEmpty = false := by rw [Lib.toList_data]; simpa using hd
    have HF : Hid (d ++ (⟨#[47]⟩ : ByteArray) ++ r = bt (inL d.data.toList r.data.toList)) := hide (by
      rw [inL, if_neg hd]
      conv => lhs; rw [← bt_of d, ← bt_of r, show (⟨#[47]⟩ : ByteArray) = bt [47] from rfl, bt_app, bt_app]
      simp)
    clear hd
    go_enter Tryz.func133, Tryz.ntmps133
    go_wp2
    go_ret
    exact ⟨congrArg (fun t => Ending.returned (Value.string t)) (unhide HF), rfl⟩
theorem nameOf_any (c : Ent) (w : World) (hs : c.path.size ≤ 1048576) :
    Calls Tryz.prog 104 #[.agg #[.string c.path, .int .i64 c.kind, .int .i64 c.mode, .string c.data]] w fun ev w' => ev = .returned (.string (bt (nameL c))) ∧ Below w.heap.size w w' := by
  have hb0 : ∀ o, Below w.heap.size w (w.alloc o) := fun o => (Below.refl _ _).alloc (Nat.le_refl _) o
  by_cases h1 : c.kind = 1
  · have HF : Hid (c.path ++ (⟨#[47]⟩ : ByteArray) = bt (nameL c)) := hide (by
      rw [nameL, if_pos h1, ← bt_app, bt_of]; rfl)
    go_enter Tryz.func104, Tryz.ntmps104
    go_wp2
    go_ret
    exact ⟨congrArg (fun t => Ending.returned (Value.string t)) (unhide HF), hb0 _⟩
  · have h1' : (c.kind == 1) = false := by simp [h1]
    by_cases h4 : c.kind = 4
    · have HF : ∀ d n : ByteArray, d.data.toList = dirOf c.path.data.toList → n.data.toList = nameOf c.path.data.toList → bt (inL d.data.toList ((⟨#[46, 119, 104, 46]⟩ : ByteArray) ++ n).data.toList) = bt (nameL c) := fun d n hd hn => by
        rw [nameL, if_neg h1, if_pos h4, hd, ByteArray.data_append, Array.toList_append, hn]; rfl
      have HFh := hide HF
      have h4' : (c.kind == 4) = true := by simp [h4]
      clear HF
      go_enter Tryz.func104, Tryz.ntmps104
      go_wp2_with (first
        | (go_at_call 66; refine (last_any c.path _ (by omega)).mono ?_; rintro ev w1 ⟨dd, nn, rfl, HD, HNm, hb1⟩; have hds : dd.size ≤ 1048576 := (by rw [Lib.size_eq, unhide HD]; have := dir_le c.path.data.toList; rw [Lib.size_eq] at hs; omega); have hns : nn.size ≤ 1048576 := (by rw [Lib.size_eq, unhide HNm]; have := name_le c.path.data.toList; rw [Lib.size_eq] at hs; omega))
        | (go_at_call 133; refine (join_any dd ((⟨#[46, 119, 104, 46]⟩ : ByteArray) ++ nn) _ (by omega) (by rw [ByteArray.size_append]; show 4 + _ ≤ _; omega)).mono ?_; rintro ev w2 ⟨rfl, hw⟩; obtain rfl := hw.symm))
      go_ret
      exact ⟨congrArg (fun t => Ending.returned (Value.string t)) (unhide HFh dd nn (unhide HD) (unhide HNm)), (hb0 _).trans (hb1.mono (hb0 _).size)⟩
    · have h4' : (c.kind == 4) = false := by simp [h4]
      by_cases h5 : c.kind = 5
      · have h5' : (c.kind == 5) = true := by simp [h5]
        have HF : Hid (bt (inL c.path.data.toList (⟨#[46, 119, 104, 46, 46, 119, 104, 46, 46, 111, 112, 113]⟩ : ByteArray).data.toList) = bt (nameL c)) := hide (by
          rw [nameL, if_neg h1, if_neg h4, if_pos h5]; rfl)
        go_enter Tryz.func104, Tryz.ntmps104
        go_wp2_with (go_at_call 133; refine (join_any c.path ⟨#[46, 119, 104, 46, 46, 119, 104, 46, 46, 111, 112, 113]⟩ _ (by omega) (by decide)).mono ?_; rintro ev w2 ⟨rfl, hw⟩; obtain rfl := hw.symm)
        go_ret
        exact ⟨congrArg (fun t => Ending.returned (Value.string t)) (unhide HF), hb0 _⟩
      · have h5' : (c.kind == 5) = false := by simp [h5]
        have HF : Hid (c.path = bt (nameL c)) := hide (by rw [nameL, if_neg h1, if_neg h4, if_neg h5, bt_of])
        go_enter Tryz.func104, Tryz.ntmps104
        go_wp2
        go_ret
        exact ⟨congrArg (fun t => Ending.returned (Value.string t)) (unhide HF), hb0 _⟩
end Go.Proofs.YtjofjcjojgpaeaaGreatDoor

namespace Go.Proofs.YtjofjcjojgpaeaaGreatDoor
open Go.RowKit

theorem index_slash (a b : List UInt8) (h : (47 : UInt8) ∉ a) : Lib.index (a ++ 47 :: b) [47] = (a.length : Int) := by
  induction a with
  | nil => rw [List.nil_append, Lib.index]; simp [List.isPrefixOf]
  | cons c r ih =>
    simp only [List.mem_cons, not_or] at h
    have hp : List.isPrefixOf [47] (c :: (r ++ 47 :: b)) = false := by simp [List.isPrefixOf, h.1]
    rw [List.cons_append, Lib.index, hp, ih h.2]
    have hne : ((r.length : Int) == -1) = false := by simp
    simp [hne]
theorem cut_slash (a b : List UInt8) (h : (47 : UInt8) ∉ a) : Lib.cut (a ++ 47 :: b) [47] = (a, b, true) := by
  rw [Lib.cut, index_slash a b h, if_pos (by omega)]
  simp
theorem slash_some {l : List UInt8} {k i : Nat} (h : slashFrom l k = some i) : k ≤ i ∧ i < l.length ∧ l.drop k = (l.drop k).take (i - k) ++ 47 :: l.drop (i + 1) ∧ (47 : UInt8) ∉ (l.drop k).take (i - k) := by
  unfold slashFrom at h
  rw [List.find?_eq_some_iff_getElem] at h
  obtain ⟨h1, j, hj, e, h2⟩ := h
  simp only [List.length_range] at hj
  simp only [List.getElem_range] at e
  subst e
  simp only [Bool.and_eq_true, decide_eq_true_eq, beq_iff_eq] at h1
  have hg : l.getD j 0 = l[j] := by rw [List.getD_eq_getElem?_getD, List.getElem?_eq_getElem hj]; rfl
  refine ⟨h1.1, hj, ?_, fun hm => ?_⟩
  · have e1 : l.drop j = 47 :: l.drop (j + 1) := by rw [List.drop_eq_getElem_cons hj, ← hg, h1.2]
    have e2 : l.drop j = (l.drop k).drop (j - k) := by rw [List.drop_drop]; congr 1; omega
    rw [← e1, e2, List.take_append_drop]
  · obtain ⟨q, hq, e⟩ := List.getElem_of_mem hm
    rw [List.length_take, List.length_drop] at hq
    rw [List.getElem_take, List.getElem_drop] at e
    have := h2 (k + q) (by omega)
    simp only [List.getElem_range, Bool.not_eq_true', Bool.and_eq_false_iff, decide_eq_false_iff_not] at this
    rcases this with h3 | h3
    · exact h3 (by omega)
    · rw [List.getD_eq_getElem?_getD, List.getElem?_eq_getElem (by omega), Option.getD_some, e] at h3
      simp at h3
/-- The fields: a variable's block, where it begins, how many bytes it has. -/
def fieldTab : List (Nat × Nat × Nat) := [(1, 100, 8), (2, 108, 8), (3, 116, 8), (4, 124, 12), (5, 136, 12), (6, 257, 8), (7, 329, 8), (8, 337, 8), (9, 345, 155), (10, 0, 100), (11, 156, 1), (12, 157, 100), (13, 148, 8)]
def Flds (w : World) : Prop := ∀ t ∈ fieldTab, w.cell? ⟨t.1, 0, none⟩ = some (.int .i64 (t.2.1 : Nat)) ∧ w.cell? ⟨t.1, 1, none⟩ = some (.int .i64 (t.2.2 : Nat))
theorem Flds.below {w w' : World} (h : Flds w) (hb : Below w.heap.size w w') : Flds w' := fun t ht => ⟨cell_later hb (h t ht).1, cell_later hb (h t ht).2⟩
theorem Flds.at {w : World} (h : Flds w) {b o n : Nat} (ht : (b, o, n) ∈ fieldTab) : w.cell? ⟨b, 0, none⟩ = some (.int .i64 (o : Nat)) ∧ w.cell? ⟨b, 1, none⟩ = some (.int .i64 (n : Nat)) := h _ ht
set_option maxRecDepth 10000 in
theorem parted_any (l : List UInt8) (mx : Int) (w : World) (hl : l.length ≤ 1048576) (hF : Flds w) (hm : w.cell? ⟨14, 0, none⟩ = some (.int .i64 mx)) (hp : l.length ≤ 100 ∨ ∃ i, slashFrom l (l.length - 101) = some i) :
    Calls Tryz.prog 132 #[.string (bt l)] w fun ev w' => ev = .returned (.tuple #[.string (bt (partL l).1), .string (bt (partL l).2)]) ∧ Below w.heap.size w w' := by
  obtain ⟨f0, f1⟩ := hF.at (b := 10) (o := 0) (n := 100) (by decide)
  obtain ⟨s, hs⟩ : ∃ s, s = bt l := ⟨_, rfl⟩
  have hsl : s.data.toList = l := by rw [hs, bt_list]
  have hsz : s.size = l.length := by rw [hs, bt_size]
  have HS := hide hs
  have HL := hide hsl
  have HZ := hide hsz
  rw [← hs]
  have hs2 : s.size ≤ 1048576 := by omega
  by_cases h1 : l.length ≤ 100
  · have i1 : (s.size : Int) - 100 - 1 < 0 := by omega
    have HF : Hid (partL l = ([], l)) := hide (by rw [partL, if_pos h1])
    clear h1 hsl hs hp hsz
    go_enter Tryz.func132, Tryz.ntmps132
    go_wp2
    go_ret2
    refine ⟨?_, Below.refl _ _⟩
    rw [unhide HF, unhide HS]; rfl
  · obtain ⟨i, hi⟩ := hp.resolve_left h1
    obtain ⟨k1, k2, k3, k4⟩ := slash_some hi
    have HF : Hid (partL l = (l.take i, l.drop (i + 1))) := hide (by rw [partL, if_neg h1, hi])
    obtain ⟨k, hk⟩ : ∃ k : Nat, k = l.length - 101 := ⟨_, rfl⟩
    rw [← hk] at k1 k3 k4
    have hkz : (s.size : Int) - 100 - 1 = (k : Int) := by omega
    have i1 : ¬ (k : Int) < 0 := by omega
    have i2 : (0 : Int) ≤ (k : Int) := by omega
    have i3 : (k : Int) ≤ (s.size : Int) := by omega
    have E1 : Hid (s.extract k s.size = bt ((l.drop k).take (i - k) ++ 47 :: l.drop (i + 1))) := hide (by rw [ext_drop, hsl, ← k3])
    have E2 : Hid (s.extract 0 k = bt (l.take k)) := hide (by rw [ext_take, hsl])
    have E3 : Hid (l.take i = l.take k ++ (l.drop k).take (i - k)) := hide (by
      rw [← List.take_add]; congr 1; omega)
    have K4 := hide k4
    clear h1 hsl hs hp hsz hi k1 k2 k3 k4 hk
    obtain ⟨A, hA⟩ : ∃ A, A = (l.drop k).take (i - k) := ⟨_, rfl⟩
    obtain ⟨B, hB⟩ : ∃ B, B = l.drop (i + 1) := ⟨_, rfl⟩
    rw [← hA, ← hB] at E1
    rw [← hA] at E3 K4
    rw [← hB] at HF
    have hcut : Calls Tryz.prog 156 #[.string (s.extract k s.size), .string ⟨#[47]⟩] w fun ev w' => ev = .returned (.tuple #[.string (bt A), .string (bt B), .bool true]) ∧ Below w.heap.size w w' := by
      refine (Tryz.strings_Cut (s.extract k s.size) ⟨#[47]⟩ mx w (by rw [ByteArray.size_extract]; omega) hm).mono ?_
      rintro e w' ⟨rfl, n, rfl⟩
      refine ⟨?_, below_drewN2 n (Below.refl _ _)⟩
      have e1 : (s.extract k s.size).data.toList = A ++ 47 :: B := by rw [unhide E1, bt_list]
      rw [e1, show (⟨#[47]⟩ : ByteArray).data.toList = [47] from rfl, cut_slash A B (unhide K4)]
      rfl
    have hAz : (bt A).size ≤ 1048576 := by
      rw [bt_size, hA, List.length_take, List.length_drop]; omega
    obtain ⟨sa, hsa⟩ : ∃ sa, sa = bt A := ⟨_, rfl⟩
    obtain ⟨sb, hsb⟩ : ∃ sb, sb = bt B := ⟨_, rfl⟩
    rw [← hsa, ← hsb] at hcut
    rw [← hsa] at hAz
    have HR : Hid (s.extract 0 k ++ sa = bt (l.take i)) := hide (by rw [unhide E2, hsa, bt_app, unhide E3])
    have HSB := hide hsb
    clear hA hB hsa hsb E1 E2 E3 K4
    go_enter Tryz.func132, Tryz.ntmps132
    go_wp2_with (go_at_call 156; refine hcut.mono ?_; clear hcut; rintro ev w1 ⟨rfl, hb1⟩)
    go_ret2
    refine ⟨?_, hb1⟩
    rw [unhide HF]
    exact ret2 (unhide HR) (unhide HSB)
set_option maxRecDepth 10000 in
theorem bytes_any (b o n : Nat) (w : World) (h : o + n ≤ 512) (h0 : 0 < n) :
    Calls Tryz.prog 135 #[.pointer (some ⟨b, 0, none⟩), .agg #[.int .i64 (o : Nat), .int .i64 (n : Nat)]] w fun ev w' => ev = .returned (.slice (some ⟨b, o, none⟩) n (512 - o)) ∧ Below w.heap.size w w' := by
  have i0 : (0 : Int) ≤ (o : Int) := by omega
  have i1 : (o : Int) ≤ (o : Int) + (n : Int) := by omega
  have i2 : (o : Int) + (n : Int) ≤ 512 := by omega
  have i3 : ¬ 512 = o := by omega
  go_enter Tryz.func135, Tryz.ntmps135
  go_upto_region 1 with fail
  go_quiet (fail)
  go_wp2
  go_ret
  exact ⟨congrArg (fun t => Ending.returned (.slice (some ⟨b, o, none⟩) t (512 - o))) (Nat.add_sub_cancel_left o n), below_drewN2 _ ((Below.refl _ _).alloc (Nat.le_refl _) _)⟩
/-- A block of bytes in memory. -/
def Blk (w : World) (b : Nat) (xs : List UInt8) : Prop := w.heap[b]? = some (.cells (Lib.byteCells xs).toArray 148 (0, 0)) ∧ xs.length = 512
theorem Blk.below {w w' : World} {b : Nat} {xs : List UInt8} (h : Blk w b xs) (hb : Below w.heap.size w w') : Blk w' b xs :=
  ⟨(hb.block b (Array.getElem?_eq_some_iff.1 h.1).1).trans h.1, h.2⟩
theorem cell_grown {w w' : World} {b : Nat} (h : w.grownBy w' (some b)) {a : Addr} {v : Value} (ha : w.cell? a = some v) (hne : a.block ≠ b) : w'.cell? a = some v := by
  rw [World.cell?_of_block (h.block a.block (World.block_lt_of_cell? _ _ ha) (fun e => hne (Option.some.inj e)))]; exact ha
theorem grown_trans {w w1 w2 : World} {b : Nat} (h1 : w.grownBy w1 (some b)) (h2 : w1.grownBy w2 (some b)) : w.grownBy w2 (some b) :=
  ⟨h2.os.trans h1.os, h2.tape.trans h1.tape, h2.output.trans h1.output, Nat.le_trans h1.size h2.size, fun k hk hne => (h2.block k (Nat.lt_of_lt_of_le hk h1.size) hne).trans (h1.block k hk hne)⟩
theorem grown_below {w w' : World} {b : Nat} (h : Below w.heap.size w w') : w.grownBy w' (some b) := ⟨h.os, h.tape, h.output, h.size, fun k hk _ => h.block k hk⟩
theorem Flds.grown {w w' : World} {b : Nat} (h : Flds w) (hg : w.grownBy w' (some b)) (hb : 15 < b) : Flds w' := fun t ht => by
  have hlt : t.1 < 15 := by
    simp only [fieldTab, List.mem_cons, List.not_mem_nil, or_false] at ht
    rcases ht with rfl | rfl | rfl | rfl | rfl | rfl | rfl | rfl | rfl | rfl | rfl | rfl | rfl <;> decide
  exact ⟨cell_grown hg (h t ht).1 (by show t.1 ≠ b; omega), cell_grown hg (h t ht).2 (by show t.1 ≠ b; omega)⟩
theorem splice_cells {A X B s : List UInt8} (hs : s.length ≤ X.length) : (Lib.byteCells (A ++ X ++ B)).take A.length ++ Lib.byteCells s ++ (Lib.byteCells (A ++ X ++ B)).drop (A.length + s.length) = Lib.byteCells (A ++ (s ++ X.drop s.length) ++ B) := by
  have e1 : (Lib.byteCells (A ++ X ++ B)).take A.length = Lib.byteCells A := by
    rw [List.append_assoc, Lib.byteCells_append, List.take_left' (by rw [Lib.byteCells_length])]
  have e2 : (Lib.byteCells (A ++ X ++ B)).drop (A.length + s.length) = Lib.byteCells (X.drop s.length ++ B) := by
    rw [List.append_assoc, Lib.byteCells_append, ← List.drop_drop, List.drop_left' (by rw [Lib.byteCells_length]), Lib.byteCells, ← List.map_drop, ← Lib.byteCells, List.drop_append_of_le_length hs]
  rw [e1, e2, ← Lib.byteCells_append, ← Lib.byteCells_append]
  simp [List.append_assoc]
theorem size5 : (Tryz.prog.info? 5).map (·.size) = some 1 := by kernel_rfl
set_option maxRecDepth 10000 in
theorem setText_any (b o n : Nat) (A X B : List UInt8) (s : ByteArray) (w : World) (hk : Blk w b (A ++ X ++ B)) (hA : A.length = o) (hX : X.length = n) (hs : s.size ≤ n) (h0 : 0 < n) :
    Calls Tryz.prog 107 #[.pointer (some ⟨b, 0, none⟩), .agg #[.int .i64 (o : Nat), .int .i64 (n : Nat)], .string s] w fun ev w' => ev = .returned (.tuple #[]) ∧ Hid (Blk w' b (A ++ (s.data.toList ++ X.drop s.size) ++ B)) ∧ w.grownBy w' (some b) := by
  have hl := hk.2
  simp only [List.length_append] at hl
  have hon : o + n ≤ 512 := by omega
  have hz : s.size = s.data.toList.length := Lib.size_eq s
  have HK := hide hk
  have HA := hide hA
  have HZ := hide hz
  have hbl : b < w.heap.size := (Array.getElem?_eq_some_iff.1 hk.1).1
  have hfit : ∀ w1 : World, Below w.heap.size w w1 → ∃ w2, (Builtin.copy_ #[41, 9] 3 #[.slice (some ⟨b, o, none⟩) n (512 - o), .string s]).run Tryz.prog w1 = .ok (.int .i64 s.size) w2 ∧ Hid (Blk w2 b (A ++ (s.data.toList ++ X.drop s.size) ++ B)) ∧ w.grownBy w2 (some b) := fun w1 hb1 => by
    have hk1 := (unhide HK).below hb1
    refine ⟨_, Lib.run_copy_row_string w1 41 9 3 5 b o n (512 - o) s _ 148 Tryz.underlying41 size5 hk1.1 hs ?_, hide ⟨?_, ?_⟩, ?_⟩
    · rw [List.size_toArray, Lib.byteCells_length, hk1.2]; omega
    · refine (setRow_heap _ _ _ _ _ _ hk1.1).trans ?_
      congr 2
      rw [← hA, hz]
      exact congrArg List.toArray (splice_cells (by omega))
    · have := (unhide HK).2
      simp only [List.length_append, List.length_drop] at this ⊢
      omega
    · exact ⟨hb1.os, hb1.tape, hb1.output, by simpa using hb1.size, fun k hk hne => (setRow_other _ _ _ _ (fun e => hne (congrArg some e))).trans (hb1.block k hk)⟩
  have HFit := hide hfit
  have hb0 : Below w.heap.size w (w.alloc (.cells #[.int .i64 (o : Nat), .int .i64 (n : Nat)] 168)) := (Below.refl _ _).alloc (Nat.le_refl _) _
  clear hk hA hl hz hfit hX
  go_enter Tryz.func107, Tryz.ntmps107
  go_wp2_with (first
    | (go_at_call 135; refine (bytes_any b o n _ hon h0).mono ?_; rintro ev w1 ⟨rfl, hb1⟩; obtain ⟨w2, hrun, HB, hg⟩ := unhide HFit w1 (hb0.trans (hb1.mono hb0.size)))
    | (at_builtin; refine Lib.wpList_copy_run _ rfl _ _ 41 9 rfl _ _ rfl rfl hrun ?_))
  go_end0
  exact ⟨rfl, HB, hg⟩
end Go.Proofs.YtjofjcjojgpaeaaGreatDoor
