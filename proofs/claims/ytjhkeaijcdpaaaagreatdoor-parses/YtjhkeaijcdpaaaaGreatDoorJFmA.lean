import Derived.Test.YtjhkeaijcdpaaaaGreatDoorJRdX
import Derived.Shelf.Strings.OnBuilder
import Derived.Shelf.Strings.Builder1
import Derived.Shelf.Strings.BuilderF
import Derived.Shelf.Strings.BuilderK
import Derived.Test.YtjhkeaijcdpaaaaGreatDoorProg
namespace Go.Proofs.YtjhkeaijcdpaaaaGreatDoor
open Go.RowKit Go.Maps

/-- Does a byte stand for itself in a form? -/
def unchN (n : Nat) : Bool := decide (65 ≤ n ∧ n ≤ 90) || decide (48 ≤ n ∧ n ≤ 57) || decide (97 ≤ n ∧ n ≤ 122) || decide (0 ≤ Lib.indexByte [46, 47, 95, 61, 58, 45] n.toUInt8)
set_option maxHeartbeats 1000000 in
theorem unch_any (n : Nat) (w : World) : Calls Tryz.prog 95 #[.int .u8 (n : Int)] w fun e w' => e = .returned (.bool (unchN n)) ∧ w' = w := by
  have mC := cap_any n w
  have mD := dig_any n w
  have mI := idx_any ⟨#[46, 47, 95, 61, 58, 45]⟩ (n : Int) w
  have HD : Hid (unchN n = (decide (65 ≤ n ∧ n ≤ 90) || decide (48 ≤ n ∧ n ≤ 57) || decide (97 ≤ n ∧ n ≤ 122) || decide (0 ≤ Lib.indexByte [46, 47, 95, 61, 58, 45] n.toUInt8))) := hide rfl
  simp only [Int.toNat_natCast] at mI
  generalize hI : Lib.indexByte (ByteArray.mk #[46, 47, 95, 61, 58, 45]).data.toList n.toUInt8 = I at mI
  have hI2 : Lib.indexByte [46, 47, 95, 61, 58, 45] n.toUInt8 = I := hI
  rw [hI2] at HD
  generalize hc : decide (65 ≤ n ∧ n ≤ 90) = cc at mC HD
  generalize hd : decide (48 ≤ n ∧ n ≤ 57) = dd at mD HD
  clear hI hI2 hc hd
  go_enter Tryz.func95, Tryz.ntmps95
  go_wp2_with (first
    | (go_at_call 100; refine mC.mono ?_; clear mC; rintro ev w2 ⟨rfl, rfl⟩)
    | (go_at_call 101; refine mD.mono ?_; clear mD; rintro ev w2 ⟨rfl, rfl⟩)
    | (go_at_call 99; refine mI.mono ?_; clear mI; rintro ev w2 ⟨rfl, rfl⟩))
  all_goals
    go_ret
    exact ⟨ret_bool (by rw [unhide HD]; rw [Bool.eq_iff_iff]; simp_all <;> omega), rfl⟩
end Go.Proofs.YtjhkeaijcdpaaaaGreatDoor

namespace Go.Proofs
open Go.Shelf Go.RowKit
def Tryz.lays156_ren : Go.Shelf.Ren := ⟨fun | 156 => 65 | 165 => 82 | 166 => 39 | 169 => 41 | 240 => 63 | 241 => 97 | 276 => 80 | 277 => 115 | n => n, fun | 31 => 54 | 9 => 9 | 3 => 3 | 4 => 4 | 0 => 0 | 20 => 20 | 72 => 103 | 76 => 107 | 70 => 101 | 37 => 74 | 75 => 33 | 127 => 145 | 164 => 109 | 5 => 5 | 80 => 64 | n => n, fun | n => n⟩
theorem Tryz.lays156 : Go.Proofs.Lays.n156 Tryz.prog Tryz.lays156_ren := {
  mixed := by kernel_rfl
  f156 := Tryz.func65.trans (congrArg some (by kernel_rfl))
  f165 := Tryz.func82.trans (congrArg some (by kernel_rfl))
  f166 := Tryz.func39.trans (congrArg some (by kernel_rfl))
  f169 := Tryz.func41.trans (congrArg some (by kernel_rfl))
  f240 := Tryz.func63.trans (congrArg some (by kernel_rfl))
  f241 := Tryz.func97.trans (congrArg some (by kernel_rfl))
  f276 := Tryz.func80.trans (congrArg some (by kernel_rfl))
  f277 := Tryz.func115.trans (congrArg some (by kernel_rfl))
  t0 := Tryz.underlying0
  a0 := Tryz.isAgg0
  z0 := Tryz.sizeOf0
  v0 := Tryz.zeroValue0
  t3 := Tryz.underlying3
  a3 := Tryz.isAgg3
  z3 := Tryz.sizeOf3
  v3 := Tryz.zeroValue3
  t4 := Tryz.underlying4
  a4 := Tryz.isAgg4
  z4 := Tryz.sizeOf4
  v4 := Tryz.zeroValue4
  t9 := Tryz.underlying9
  a9 := Tryz.isAgg9
  z9 := Tryz.sizeOf9
  v9 := Tryz.zeroValue9
  t20 := Tryz.underlying20
  a20 := Tryz.isAgg20
  z20 := Tryz.sizeOf20
  v20 := Tryz.zeroValue20
  t31 := Tryz.underlying54
  a31 := Tryz.isAgg54
  z31 := Tryz.sizeOf54
  v31 := Tryz.zeroValue54
  t37 := Tryz.underlying74
  a37 := Tryz.isAgg74
  z37 := Tryz.sizeOf74
  v37 := Tryz.zeroValue74
  t70 := Tryz.underlying101
  a70 := Tryz.isAgg101
  z70 := Tryz.sizeOf101
  v70 := Tryz.zeroValue101
  t72 := Tryz.underlying103
  a72 := Tryz.isAgg103
  z72 := Tryz.sizeOf103
  v72 := Tryz.zeroValue103
  t75 := Tryz.underlying33
  a75 := Tryz.isAgg33
  z75 := Tryz.sizeOf33
  v75 := Tryz.zeroValue33
  t76 := Tryz.underlying107
  a76 := Tryz.isAgg107
  z76 := Tryz.sizeOf107
  v76 := Tryz.zeroValue107
  t127 := Tryz.underlying145
  a127 := Tryz.isAgg145
  z127 := Tryz.sizeOf145
  v127 := Tryz.zeroValue145
  t164 := Tryz.underlying109
  a164 := Tryz.isAgg109
  z164 := Tryz.sizeOf109
  v164 := Tryz.zeroValue109 }
theorem Tryz.Builder_Extra_156 : Builder.Extra Tryz.prog Tryz.lays156_ren := {
  sizeBuilder := by kernel_rfl
  liesBuilder := by kernel_rfl
  t5 := Tryz.underlying5
  a5 := Tryz.isAgg5
  z5 := Tryz.sizeOf5
  v5 := Tryz.zeroValue5
  infoByte := by kernel_rfl
  cellsByte := by kernel_rfl
  sizeByte := by kernel_rfl
  neB5 := by decide }
open Go.RowKit in
theorem Tryz.strings_Join_none (a : Option Addr) (c : Nat) (sep : ByteArray) (w : World) :
    Calls Tryz.prog 65 #[.slice a 0 c, .string sep] w fun e w' => e = .returned (.string ⟨#[]⟩) ∧ w' = w := Any.strings_Join_none Tryz.lays156 Tryz.Builder_Extra_156 a c sep w
open Go.RowKit in
theorem Tryz.strings_Join (bk o c : Nat) (xs : List ByteArray) (sep : ByteArray) (w : World) (hcells : ∀ (j : Nat) x, xs[j]? = some x → w.cell? ⟨bk, o + j, none⟩ = some (.string x)) (hbk : bk < w.heap.size) (hN : xs.length ≤ 140737488355328) (hcap : xs.length ≤ c) (hlen : (Lib.join (xs.map (·.data.toList)) sep.data.toList).length ≤ 140737488355328) :
    Calls Tryz.prog 65 #[.slice (some ⟨bk, o, none⟩) xs.length c, .string sep] w fun e w' => e = .returned (.string ⟨(Lib.join (xs.map (·.data.toList)) sep.data.toList).toArray⟩) ∧ Below w.heap.size w w' := Any.strings_Join Tryz.lays156 Tryz.Builder_Extra_156 bk o c xs sep w hcells hbk hN hcap hlen
def Tryz.renB : Go.Shelf.Ren := ⟨fun | 167 => 96 | n => Tryz.lays156_ren.f n, Tryz.lays156_ren.t, Tryz.lays156_ren.g⟩
theorem Tryz.laysB : Go.Proofs.Lays.n167 Tryz.prog Tryz.renB := {
  mixed := Tryz.lays156.mixed
  f167 := Tryz.func96.trans (congrArg some (by kernel_rfl))
  f240 := Tryz.func63.trans (congrArg some (by kernel_rfl))
  f276 := Tryz.func80.trans (congrArg some (by kernel_rfl))
  t0 := Tryz.lays156.t0
  a0 := Tryz.lays156.a0
  z0 := Tryz.lays156.z0
  v0 := Tryz.lays156.v0
  t4 := Tryz.lays156.t4
  a4 := Tryz.lays156.a4
  z4 := Tryz.lays156.z4
  v4 := Tryz.lays156.v4
  t5 := Tryz.underlying5
  a5 := Tryz.isAgg5
  z5 := Tryz.sizeOf5
  v5 := Tryz.zeroValue5
  t9 := Tryz.lays156.t9
  a9 := Tryz.lays156.a9
  z9 := Tryz.lays156.z9
  v9 := Tryz.lays156.v9
  t20 := Tryz.lays156.t20
  a20 := Tryz.lays156.a20
  z20 := Tryz.lays156.z20
  v20 := Tryz.lays156.v20
  t37 := Tryz.lays156.t37
  a37 := Tryz.lays156.a37
  z37 := Tryz.lays156.z37
  v37 := Tryz.lays156.v37
  t70 := Tryz.lays156.t70
  a70 := Tryz.lays156.a70
  z70 := Tryz.lays156.z70
  v70 := Tryz.lays156.v70
  t72 := Tryz.lays156.t72
  a72 := Tryz.lays156.a72
  z72 := Tryz.lays156.z72
  v72 := Tryz.lays156.v72
  t75 := Tryz.lays156.t75
  a75 := Tryz.lays156.a75
  z75 := Tryz.lays156.z75
  v75 := Tryz.lays156.v75
  t164 := Tryz.lays156.t164
  a164 := Tryz.lays156.a164
  z164 := Tryz.lays156.z164
  v164 := Tryz.lays156.v164 }
theorem Tryz.extraB : Builder.Extra Tryz.prog Tryz.renB := {
  sizeBuilder := by kernel_rfl
  liesBuilder := by kernel_rfl
  t5 := Tryz.underlying5
  a5 := Tryz.isAgg5
  z5 := Tryz.sizeOf5
  v5 := Tryz.zeroValue5
  infoByte := by kernel_rfl
  cellsByte := by kernel_rfl
  sizeByte := by kernel_rfl
  neB5 := by decide }
theorem Tryz.Builder_WriteByte (B b : Nat) (bs : List Value) (c : Int) (w : World) (h : Lib.IsBuilder 103 5 B b bs w) (hlen : bs.length + 1 ≤ 140737488355328) (hBw : B ≤ w.heap.size) :
    Calls Tryz.prog 96 #[.pointer (some ⟨b, 0, none⟩), .int .u8 c] w fun e w' => e = .returned .nilIface ∧ (Lib.BuilderAt 103 5 B b (.pointer (some ⟨b, 0, none⟩)) (bs ++ [.int .u8 c]) w' ∧ Below B w w') := Any.Builder_WriteByte Tryz.laysB Tryz.extraB B b bs c w h hlen hBw
theorem Tryz.Builder_WriteString (B b : Nat) (bs : List Value) (s : ByteArray) (w : World) (h : Lib.IsBuilder 103 5 B b bs w) (hlen : bs.length + s.size ≤ 140737488355328) (hBw : B ≤ w.heap.size) :
    Calls Tryz.prog 39 #[.pointer (some ⟨b, 0, none⟩), .string s] w fun e w' => e = .returned (.tuple #[.int .i64 s.size, .nilIface]) ∧ (Lib.BuilderAt 103 5 B b (.pointer (some ⟨b, 0, none⟩)) (bs ++ Lib.strCells s) w' ∧ Below B w w') := Any.Builder_WriteString { Tryz.lays156 with } Tryz.Builder_Extra_156 B b bs s w h hlen hBw
theorem Tryz.Builder_String_any (B b : Nat) (l : List UInt8) (w : World) (h : Lib.IsBuilder 103 5 B b (Lib.byteCells l) w) (hBw : B ≤ w.heap.size) :
    Calls Tryz.prog 41 #[.pointer (some ⟨b, 0, none⟩)] w fun e w' => e = .returned (.string ⟨l.toArray⟩) ∧ Below B w w' := Any.Builder_String_any { Tryz.lays156 with } Tryz.Builder_Extra_156 B b l w h hBw
end Go.Proofs

namespace Go.Proofs.YtjhkeaijcdpaaaaGreatDoor
open Go.RowKit Go.Maps

theorem builder_later {T e : TypeId} {B b : Nat} {p : Value} {bs : List Value} {w w' : World} (h : Lib.BuilderAt T e B b p bs w) (hb : Below w.heap.size w w') : Lib.BuilderAt T e B b p bs w' := by
  obtain ⟨h1, v, h2, h3, h4⟩ := h
  refine ⟨h1, v, (hb.block b (Array.getElem?_eq_some_iff.1 h2).1).trans h2, h3.kept (grown_of_below hb) ?_, h4⟩
  cases hv : v.ownBlock <;> simp
/-- A Builder of the call's own that holds this text. -/
def Bld (B b : Nat) (l : List UInt8) (w : World) : Prop := Lib.IsBuilder 103 5 B b (Lib.byteCells l) w ∧ B ≤ w.heap.size
theorem Bld.later {B b : Nat} {l : List UInt8} {w w' : World} (h : Bld B b l w) (hb : Below w.heap.size w w') : Bld B b l w' := by
  refine ⟨?_, Nat.le_trans h.2 hb.size⟩
  rcases h.1 with h1 | h1
  · exact .inl (builder_later h1 hb)
  · exact .inr (builder_later h1 hb)
theorem bld_new (w : World) : Bld w.heap.size w.heap.size [] (w.alloc (.cells #[.pointer none, .slice none 0 0] 103)) :=
  ⟨.inl ⟨Nat.le_refl _, .slice none 0 0, heap_alloc_new _ _, World.ownsRow_nil _ _ _ _, by simp [Value.ownBlock]⟩, by simp⟩
theorem byteCells_len (l : List UInt8) : (Lib.byteCells l).length = l.length := by simp [Lib.byteCells]
theorem wbB (B b : Nat) (l : List UInt8) (c : Int) (x : UInt8) (w : World) (h : Bld B b l w) (hc : c = (x.toNat : Int)) (hl : l.length ≤ 4294967296) :
    Calls Tryz.prog 96 #[.pointer (some ⟨b, 0, none⟩), .int .u8 c] w fun e w' => e = .returned .nilIface ∧ Bld B b (l ++ [x]) w' ∧ Below B w w' := by
  subst hc
  refine (Tryz.Builder_WriteByte B b _ _ w h.1 (by rw [byteCells_len]; omega) h.2).mono ?_
  rintro e w' ⟨rfl, hb, hbl⟩
  refine ⟨rfl, ⟨.inr ?_, Nat.le_trans h.2 hbl.size⟩, hbl⟩
  simpa [Lib.byteCells] using hb
theorem wsB (B b : Nat) (l : List UInt8) (s : ByteArray) (w : World) (h : Bld B b l w) (hl : l.length + s.size ≤ 4294967296) :
    Calls Tryz.prog 39 #[.pointer (some ⟨b, 0, none⟩), .string s] w fun e w' => e = .returned (.tuple #[.int .i64 s.size, .nilIface]) ∧ Bld B b (l ++ s.data.toList) w' ∧ Below B w w' := by
  refine (Tryz.Builder_WriteString B b _ _ w h.1 (by rw [byteCells_len]; omega) h.2).mono ?_
  rintro e w' ⟨rfl, hb, hbl⟩
  refine ⟨rfl, ⟨.inr ?_, Nat.le_trans h.2 hbl.size⟩, hbl⟩
  simpa [Lib.byteCells, Lib.strCells] using hb
theorem wstr (B b : Nat) (l : List UInt8) (w : World) (h : Bld B b l w) :
    Calls Tryz.prog 41 #[.pointer (some ⟨b, 0, none⟩)] w fun e w' => e = .returned (.string ⟨l.toArray⟩) ∧ Below B w w' :=
  Tryz.Builder_String_any B b l w h.1 h.2


/-- A byte's form, and a text's. -/
def byteF (c : UInt8) : List UInt8 := if unchN c.toNat then [c] else [92, c]
def bytesF (l : List UInt8) : List UInt8 := (l.map byteF).flatten
def textF (l : List UInt8) : List UInt8 := if l = [] then [34, 34] else bytesF l
theorem bytesF_len (l : List UInt8) : (bytesF l).length ≤ 2 * l.length := by
  induction l with
  | nil => simp [bytesF]
  | cons a r ih =>
    have h1 : bytesF (a :: r) = byteF a ++ bytesF r := by simp [bytesF]
    rw [h1, List.length_append, List.length_cons]
    have : (byteF a).length ≤ 2 := by unfold byteF; split <;> simp
    omega
theorem bytesF_snoc (l : List UInt8) (c : UInt8) : bytesF (l ++ [c]) = bytesF l ++ byteF c := by simp [bytesF]
theorem byteF_yes {c : UInt8} (h : unchN c.toNat = true) : byteF c = [c] := by simp [byteF, h]
theorem byteF_no {c : UInt8} (h : unchN c.toNat = false) : byteF c = [92] ++ [c] := by simp [byteF, h]
set_option maxHeartbeats 2000000 in
set_option maxRecDepth 10000 in
theorem text_any (s : ByteArray) (w : World) (hs : s.size ≤ 1073741824) :
    Calls Tryz.prog 81 #[.string s] w fun e w' => (∃ u : ByteArray, e = .returned (.string u) ∧ u.data.toList = textF s.data.toList) ∧ Below w.heap.size w w' := by
  by_cases he : s.data.toList = []
  · have g1 : s.toList.isEmpty = true := by rw [Lib.toList_data, he]; rfl
    have HN : Hid (textF s.data.toList = [34, 34]) := hide (by rw [he]; rfl)
    clear he
    go_enter Tryz.func81, Tryz.ntmps81
    go_wp2_with fail
    go_ret
    exact ⟨⟨_, rfl, (unhide HN).symm⟩, Below.refl _ _⟩
  · have g1 : s.toList.isEmpty = false := by rw [Lib.toList_data]; simpa using he
    have HN : Hid (textF s.data.toList = bytesF s.data.toList) := hide (by unfold textF; rw [if_neg he])
    clear he
    obtain ⟨W0, hW0⟩ : ∃ W0, W0 = w.alloc (.cells #[.pointer none, .slice none 0 0] 103) := ⟨_, rfl⟩
    have hb0 : Below w.heap.size w W0 := by rw [hW0]; exact (Below.refl _ _).alloc (Nat.le_refl _) _
    have hB0 : Bld w.heap.size w.heap.size [] W0 := by rw [hW0]; exact bld_new w
    go_enter Tryz.func81, Tryz.ntmps81
    go_wp2_with fail
    rw [← hW0]
    clear hW0
    go_loopw [9] (fun i wr => ∃ k : Nat, k ≤ s.size ∧ i = .int .i64 k ∧ Bld w.heap.size w.heap.size (bytesF (s.data.toList.take k)) wr ∧ Below w.heap.size w wr) (fun i _ => s.size - (intOf i).toNat)
    case atStart => exact ⟨0, Nat.zero_le _, rfl, hB0, hb0⟩
    case round =>
      obtain ⟨k, hk, rfl, hB, hb⟩ := hrel
      have HB := hide hB
      have Hb := hide hb
      clear hB hb hB0 hb0
      by_cases hlt : k < s.size
      · have hl : (bytesF (s.data.toList.take k)).length ≤ 2147483648 := by
          have := bytesF_len (s.data.toList.take k)
          rw [List.length_take] at this
          omega
        have HL := hide hl
        clear hl
        have hU := unch_any s[k].toNat wr
        cases hu : unchN s[k].toNat with
        | true =>
          rw [hu] at hU
          have HS : Hid (bytesF (s.data.toList.take (k + 1)) = bytesF (s.data.toList.take k) ++ [s[k]]) := hide (by rw [take_snoc s k hlt, bytesF_snoc, byteF_yes hu])
          clear hu
          have hW := fun w2 h => wbB w.heap.size w.heap.size (bytesF (s.data.toList.take k)) (s[k].toNat : Int) s[k] w2 h rfl (by have := unhide HL; omega)
          go_wp2_with (first
            | (go_at_call 95; refine hU.mono ?_; clear hU; rintro ev w2 ⟨rfl, hw⟩; obtain rfl := hw.symm)
            | (go_at_call 96; refine (hW _ (unhide HB)).mono ?_; clear hW; rintro ev w3 ⟨rfl, hB3, hb3⟩))
          go_roundw
          case rel => exact ⟨k + 1, hlt, by go_num, by rw [unhide HS]; exact hB3, (unhide Hb).trans hb3⟩
          case measure => simp [intOf]; omega
        | false =>
          rw [hu] at hU
          have HS : Hid (bytesF (s.data.toList.take (k + 1)) = bytesF (s.data.toList.take k) ++ [92] ++ [s[k]]) := hide (by rw [take_snoc s k hlt, bytesF_snoc, byteF_no hu, List.append_assoc])
          clear hu
          have hV := fun w2 h => wsB w.heap.size w.heap.size (bytesF (s.data.toList.take k)) ⟨#[92]⟩ w2 h (by have := unhide HL; have h1 : (ByteArray.mk #[92]).size = 1 := rfl; omega)
          have hW := fun w2 h => wbB w.heap.size w.heap.size (bytesF (s.data.toList.take k) ++ [92]) (s[k].toNat : Int) s[k] w2 h rfl (by have := unhide HL; simp; omega)
          go_wp2_with (first
            | (go_at_call 95; refine hU.mono ?_; clear hU; rintro ev w2 ⟨rfl, hw⟩; obtain rfl := hw.symm)
            | (go_at_call 39; refine (hV _ (unhide HB)).mono ?_; clear hV; rintro ev w3 ⟨rfl, hB3, hb3⟩)
            | (go_at_call 96; refine (hW _ hB3).mono ?_; clear hW; rintro ev w4 ⟨rfl, hB4, hb4⟩))
          go_roundw
          case rel => exact ⟨k + 1, hlt, by go_num, by rw [unhide HS]; exact hB4, ((unhide Hb).trans hb3).trans hb4⟩
          case measure => simp [intOf]; omega
      · have hke : k = s.size := by omega
        have hW := wstr w.heap.size w.heap.size _ wr (unhide HB)
        have HS : Hid (bytesF (s.data.toList.take k) = textF s.data.toList) := hide (by rw [unhide HN, List.take_of_length_le (by rw [hke, Lib.size_eq]; exact Nat.le_refl _)])
        clear hke
        go_wp2_with (go_at_call 41; refine hW.mono ?_; clear hW; rintro ev w3 ⟨rfl, hb3⟩)
        go_ret
        exact ⟨⟨_, rfl, (List.toList_toArray).trans (unhide HS)⟩, (unhide Hb).trans hb3⟩
end Go.Proofs.YtjhkeaijcdpaaaaGreatDoor

namespace Go.Proofs.YtjhkeaijcdpaaaaGreatDoor
open Go.RowKit Go.Maps

/-- A part's form, a word's. -/
def partF (p : Prt) : List UInt8 := if p.isVar then [36, 123] ++ p.text.data.toList ++ [125] else textF p.text.data.toList
def partsF (l : List Prt) : List UInt8 := (l.map partF).flatten
def formW (l : List Prt) : List UInt8 := if l = [] then [34, 34] else partsF l
def szP (l : List Prt) : Nat := (l.map fun p => 2 * p.text.size + 3).sum
theorem textF_len (l : List UInt8) : (textF l).length ≤ 2 * l.length + 2 := by
  unfold textF
  split
  · simp
  · have := bytesF_len l; omega
theorem partF_len (p : Prt) : (partF p).length ≤ 2 * p.text.size + 3 := by
  unfold partF
  split
  · have := Lib.size_eq p.text; rw [List.length_append, List.length_append, ← this]; simp; omega
  · have := textF_len p.text.data.toList; rw [← Lib.size_eq] at this; omega
theorem partsF_snoc (l : List Prt) (p : Prt) : partsF (l ++ [p]) = partsF l ++ partF p := by simp [partsF]
theorem partsF_len (l : List Prt) : (partsF l).length ≤ szP l := by
  induction l with
  | nil => simp [partsF, szP]
  | cons a r ih =>
    have h1 : partsF (a :: r) = partF a ++ partsF r := by simp [partsF]
    have h2 : szP (a :: r) = 2 * a.text.size + 3 + szP r := by simp [szP]
    rw [h1, h2, List.length_append]
    have := partF_len a
    omega
theorem szP_app (l r : List Prt) : szP (l ++ r) = szP l + szP r := by simp [szP]
theorem szP_take (l : List Prt) (k : Nat) : szP (l.take k) ≤ szP l := by
  have := szP_app (l.take k) (l.drop k)
  rw [List.take_append_drop] at this
  omega
theorem szP_mem {l : List Prt} {k : Nat} {p : Prt} (h : l[k]? = some p) : szP (l.take k) + (2 * p.text.size + 3) ≤ szP l := by
  have h1 : l.take (k + 1) = l.take k ++ [p] := by rw [List.take_add_one, h]; rfl
  have h2 := szP_take l (k + 1)
  rw [h1, szP_app] at h2
  have h3 : szP [p] = 2 * p.text.size + 3 := by simp [szP]
  omega
set_option maxHeartbeats 4000000 in
set_option maxRecDepth 10000 in
theorem form_word (m : WdM) (B : Nat) (w : World) (h : m.Ok w B) (hl : (parts m.xs).length ≤ 1500) (hz : szP (parts m.xs) ≤ 268435456) :
    Calls Tryz.prog 64 #[m.val] w fun ev w' => (∃ u : ByteArray, ev = .returned (.string u) ∧ u.data.toList = formW (parts m.xs)) ∧ Below w.heap.size w w' := by
  obtain ⟨place, v, xs⟩ := m
  unfold WdM.Ok at h
  simp only at h hl hz ⊢
  obtain ⟨ps, hps⟩ : ∃ ps, ps = parts xs := ⟨_, rfl⟩
  rw [← hps] at h hl hz ⊢
  clear hps
  obtain ⟨W0, hW0⟩ : ∃ W0, W0 = w.alloc (.cells #[.int .i64 (place : Int), v] 138) := ⟨_, rfl⟩
  have hb0 : Below w.heap.size w W0 := by rw [hW0]; exact (Below.refl _ _).alloc (Nat.le_refl _) _
  have hz0 : W0.heap.size = w.heap.size + 1 := by rw [hW0]; simp
  have hc0 : W0.heap[w.heap.size]? = some (.cells #[.int .i64 (place : Int), v] 138 (0, 0)) := by rw [hW0]; exact heap_alloc_new _ _
  have p1 : W0.cell? ⟨w.heap.size, 1, none⟩ = some v := cell_of_row _ _ 1 _ _ _ hc0
  by_cases he : ps = []
  · subst he
    have HB := hide hb0
    have hT := text_any ⟨#[]⟩ W0 (by decide)
    have HF : Hid (formW [] = textF (ByteArray.mk #[]).data.toList) := hide rfl
    rcases row_nil0 h with rfl | ⟨g, cap, rfl⟩
    all_goals
      clear h hl hz hb0 hc0
      go_enter Tryz.func64, Tryz.ntmps64
      go_upto_region 1 with fail
      rw [← hW0]
      clear hW0
      go_wp2_with (go_at_call 81; refine hT.mono ?_; clear hT; rintro ev w2 ⟨⟨u, rfl, hu⟩, hb2⟩)
      go_ret
      exact ⟨⟨_, rfl, by rw [unhide HF]; exact hu⟩, (unhide HB).trans (hb2.mono (by omega))⟩
  · have hpos : 0 < ps.length := List.length_pos_iff.2 he
    obtain ⟨g, cap, rfl, _, hgl⟩ := World.ownsRow.form h hpos
    have HF : Hid (formW ps = partsF ps) := hide (by unfold formW; rw [if_neg he])
    clear he
    obtain ⟨n, hn⟩ : ∃ n, n = ps.length := ⟨_, rfl⟩
    have HN := hide hn
    have HROW := hide h
    have HZ := hide hz
    have HG := hide hgl
    rw [← hn] at p1 hl hpos hW0 ⊢
    have g0 : ((n : Int) == 0) = false := by simp; omega
    obtain ⟨W1, hW1⟩ : ∃ W1, W1 = W0.alloc (.cells #[.pointer none, .slice none 0 0] 103) := ⟨_, rfl⟩
    have HB1 : Hid (Below (w.heap.size + 1) W0 W1) := hide (by rw [hW1]; exact (Below.refl _ _).alloc (by omega) _)
    have HBl : Hid (Bld (w.heap.size + 1) (w.heap.size + 1) [] W1) := hide (by rw [hW1, ← hz0]; exact bld_new W0)
    have p2 : W1.cell? ⟨w.heap.size, 1, none⟩ = some (.slice (some ⟨g, 0, none⟩) n cap) := cell_later ((unhide HB1).mono (by omega)) p1
    have HB0 := hide hb0
    clear h hz hgl hc0 hb0 hn
    go_enter Tryz.func64, Tryz.ntmps64
    go_upto_region 1 with fail
    rw [← hW0]
    clear hW0
    go_upto_region 4 with fail
    rw [← hW1]
    clear hW1
    go_wp2_with fail
    clear p1 p2
    go_loopw [14] (fun i wr => ∃ k : Nat, k ≤ n ∧ i = .int .i64 k ∧ Bld (w.heap.size + 1) (w.heap.size + 1) (partsF (ps.take k)) wr ∧ Below (w.heap.size + 1) W0 wr) (fun i _ => n - (intOf i).toNat)
    case atStart => exact ⟨0, Nat.zero_le _, rfl, unhide HBl, unhide HB1⟩
    case round =>
      obtain ⟨k, hk, rfl, hB, hb⟩ := hrel
      have HB := hide hB
      have Hb := hide hb
      clear hB HBl HB1
      by_cases hlt : k < n
      · obtain ⟨p, hp⟩ : ∃ p, ps[k]? = some p := ⟨_, List.getElem?_eq_getElem (by rw [← unhide HN]; exact hlt)⟩
        have hbw : Below w.heap.size w wr := (unhide HB0).trans (hb.mono (by omega))
        have hrow3 := row_same (unhide HROW) (w' := wr) (fun i hi => hbw.block i (World.ownsRow.lt (unhide HROW) i hi).2)
        obtain ⟨t0, t1, t2⟩ := prC_get _ k p hp
        have hjl : k < ps.length := by rw [← unhide HN]; exact hlt
        have u0 : wr.cell? ⟨g, k * 3, none⟩ = some (.string p.text) := by rw [World.ownsRow.cellAt hrow3 _ (by omega)]; exact t0
        have u1 : wr.cell? ⟨g, k * 3 + 1, none⟩ = some (.bool p.isVar) := by rw [World.ownsRow.cellAt hrow3 _ (by omega)]; exact t1
        have u2 : wr.cell? ⟨g, k * 3 + 2, none⟩ = some (.int .i64 p.place) := by rw [World.ownsRow.cellAt hrow3 _ (by omega)]; exact t2
        have hsp := szP_mem hp
        have hsz : p.text.size ≤ 1073741824 ∧ (partsF (ps.take k)).length + (2 * p.text.size + 3) ≤ 268435456 := by
          have h1 := partsF_len (ps.take k)
          have h2 := unhide HZ
          omega
        have HSZ := hide hsz
        have HS : Hid (partsF (ps.take (k + 1)) = partsF (ps.take k) ++ partF p) := hide (by rw [List.take_add_one, hp]; exact partsF_snoc _ _)
        have n0 := World.new_ne wr ⟨g, k * 3, none⟩ u0
        obtain ⟨W2, hW2⟩ : ∃ W2, W2 = wr.alloc (.cells #[.string p.text, .bool p.isVar, .int .i64 p.place] 167) := ⟨_, rfl⟩
        have hb2 : Below wr.heap.size wr W2 := by rw [hW2]; exact (Below.refl _ _).alloc (Nat.le_refl _) _
        have HB2 : Hid (Below (w.heap.size + 1) W0 W2) := hide (hb.trans (hb2.mono (by have := hb.size; omega)))
        have HL2 : Hid (Bld (w.heap.size + 1) (w.heap.size + 1) (partsF (ps.take k)) W2) := hide ((unhide HB).later hb2)
        have hc2 : W2.heap[wr.heap.size]? = some (.cells #[.string p.text, .bool p.isVar, .int .i64 p.place] 167 (0, 0)) := by rw [hW2]; exact heap_alloc_new _ _
        have q0 : W2.cell? ⟨wr.heap.size, 0, none⟩ = some (.string p.text) := cell_of_row _ _ 0 _ _ _ hc2
        have q1 : W2.cell? ⟨wr.heap.size, 1, none⟩ = some (.bool p.isVar) := cell_of_row _ _ 1 _ _ _ hc2
        clear hp hbw hrow3 t0 t1 t2 hjl hsp hsz hb2 hc2 hb HB Hb
        go_upto_region 7 with fail
        rw [← hW2]
        clear hW2 u0 u1 u2 n0
        cases hv : p.isVar with
        | true =>
          rw [hv] at q1
          have HP : Hid (partF p = [36, 123] ++ p.text.data.toList ++ [125]) := hide (by unfold partF; rw [hv]; rfl)
          clear hv
          have HV : Hid (({ data := #[36, 123] } ++ p.text ++ { data := #[125] } : ByteArray).size = p.text.size + 3) := hide (by
            rw [ByteArray.size_append, ByteArray.size_append]
            have h1 : (ByteArray.mk #[36, 123]).size = 2 := rfl
            have h2 : (ByteArray.mk #[125]).size = 1 := rfl
            omega)
          have hps1 : p.text.size ≤ 1073741824 := (unhide HSZ).1
          go_wp2_with (go_at_call 39; refine (wsB _ _ _ _ _ (unhide HL2) ?_).mono ?_; (have hh := (unhide HSZ).2; rw [unhide HV]; omega); rintro ev w3 ⟨rfl, hB3, hb3⟩)
          go_roundw
          case rel => exact ⟨k + 1, hlt, by go_num, by rw [unhide HS, unhide HP]; simpa using hB3, (unhide HB2).trans hb3⟩
          case measure => simp [intOf]; omega
        | false =>
          rw [hv] at q1
          have HP : Hid (partF p = textF p.text.data.toList) := hide (by unfold partF; rw [hv]; rfl)
          clear hv
          have hT := text_any p.text W2 (unhide HSZ).1
          have hlen := textF_len p.text.data.toList
          have HLE := hide hlen
          clear hlen
          go_wp2_with (first
            | (go_at_call 81; refine hT.mono ?_; clear hT; rintro ev w3 ⟨⟨u, rfl, hu⟩, hb3⟩; have HU := hide hu; have HL3 := hide ((unhide HL2).later hb3); clear hu)
            | (go_at_call 39; refine (wsB _ _ _ _ _ (unhide HL3) ?_).mono ?_; (have hh := (unhide HSZ).2; have h2 := unhide HLE; rw [← unhide HU, ← Lib.size_eq, ← Lib.size_eq] at h2; omega); rintro ev w4 ⟨rfl, hB4, hb4⟩))
          go_roundw
          case rel => exact ⟨k + 1, hlt, by go_num, by rw [unhide HS, unhide HP, ← unhide HU]; exact hB4, ((unhide HB2).trans (hb3.mono (by have := (unhide HB2).size; omega))).trans hb4⟩
          case measure => simp [intOf]; omega
      · have hke : k = n := by omega
        have hW := wstr _ _ _ wr (unhide HB)
        have HS : Hid (partsF (ps.take k) = formW ps) := hide (by rw [unhide HF, List.take_of_length_le (by rw [hke, unhide HN]; exact Nat.le_refl _)])
        clear hke hb
        go_wp2_with (go_at_call 41; refine hW.mono ?_; clear hW; rintro ev w3 ⟨rfl, hb3⟩)
        go_ret
        exact ⟨⟨_, rfl, (List.toList_toArray).trans (unhide HS)⟩, ((unhide HB0).trans ((unhide Hb).mono (by omega))).trans (hb3.mono (by omega))⟩
end Go.Proofs.YtjhkeaijcdpaaaaGreatDoor

namespace Go.Proofs.YtjhkeaijcdpaaaaGreatDoor
open Go.RowKit Go.Maps

/-- An instruction's form. -/
def formI (ws : List (List Atm)) : List UInt8 := Lib.join (ws.map fun x => formW (parts x)) [32]
def szI (ws : List (List Atm)) : Nat := (ws.map fun x => szP (parts x) + 3).sum
theorem formW_len (l : List Prt) : (formW l).length ≤ szP l + 2 := by
  unfold formW
  split
  · simp
  · have := partsF_len l; omega
theorem join_len : ∀ xs : List (List UInt8), (Lib.join xs [32]).length ≤ (xs.map fun l => l.length + 1).sum
  | [] => by simp [Lib.join, List.intercalate]
  | [a] => by simp [Lib.join, List.intercalate]
  | a :: b :: r => by
    have ih := join_len (b :: r)
    have h1 : Lib.join (a :: b :: r) [32] = a ++ [32] ++ Lib.join (b :: r) [32] := by simp [Lib.join, List.intercalate]
    rw [h1, List.length_append, List.length_append, List.map_cons, List.sum_cons]
    simp only [List.length_cons, List.length_nil]
    omega
theorem formI_len (ws : List (List Atm)) : (formI ws).length ≤ szI ws := by
  refine Nat.le_trans (join_len _) ?_
  unfold szI
  induction ws with
  | nil => simp
  | cons a r ih =>
    simp only [List.map_cons, List.sum_cons]
    have := formW_len (parts a)
    omega
theorem szI_mem {ws : List (List Atm)} {x : List Atm} (h : x ∈ ws) : szP (parts x) ≤ szI ws := by
  induction ws with
  | nil => cases h
  | cons a r ih =>
    have h2 : szI (a :: r) = szP (parts a) + 3 + szI r := by simp [szI]
    rcases List.mem_cons.1 h with rfl | h
    · omega
    · have := ih h; omega
theorem info9w : (Tryz.prog.info? 9).map (fun i => (i.zero, i.size, i.bytes)) = some (some (.string ByteArray.empty), 1, 16) := by kernel_rfl
abbrev StrRow (w : World) (B : Nat) (v : Value) (us : List ByteArray) : Prop := w.ownsRow B 9 1 v us.length (us.map Value.string)
set_option maxHeartbeats 1000000 in
set_option maxRecDepth 10000 in
theorem form_in (m : InM) (B : Nat) (w : World) (h : m.Ok w B) (hz : szI (m.ws.map WdM.xs) ≤ 268435456) :
    Calls Tryz.prog 40 #[m.val] w fun ev w' => (∃ u : ByteArray, ev = .returned (.string u) ∧ u.data.toList = formI (m.ws.map WdM.xs)) ∧ Below w.heap.size w w' := by
  obtain ⟨wv, ws, st, rl⟩ := m
  obtain ⟨hws, hop, _, hsm, hsh⟩ := h
  simp only at hws hop hsm hsh hz ⊢
  have hpos : 0 < ws.length := by
    cases ws with
    | nil => cases hop
    | cons a r => simp
  obtain ⟨g, cap, rfl, _, hgl⟩ := World.ownsRow.form hws.row hpos
  obtain ⟨n, hn⟩ : ∃ n, n = ws.length := ⟨_, rfl⟩
  have HN := hide hn
  have HWS := hide hws
  have HSM := hide hsm
  have HZ := hide hz
  unfold InM.val
  simp only
  generalize (ruleT rl).1 = r1
  generalize (ruleT rl).2.1 = r2
  generalize (ruleT rl).2.2.1 = r3
  generalize (ruleT rl).2.2.2 = r4
  rw [← hn] at hsh hpos ⊢
  obtain ⟨W0, hW0⟩ : ∃ W0, W0 = w.alloc (.cells #[.slice (some ⟨g, 0, none⟩) n cap, .int .i64 st, .int .i64 r1, .int .i64 r2, fnV r3, fnV r4] 99) := ⟨_, rfl⟩
  have hb0 : Below w.heap.size w W0 := by rw [hW0]; exact (Below.refl _ _).alloc (Nat.le_refl _) _
  have hz0' : W0.heap.size = w.heap.size + 1 := by rw [hW0]; simp
  have hc0 : W0.heap[w.heap.size]? = some (.cells #[.slice (some ⟨g, 0, none⟩) n cap, .int .i64 st, .int .i64 r1, .int .i64 r2, fnV r3, fnV r4] 99 (0, 0)) := by rw [hW0]; exact heap_alloc_new _ _
  have p0 : W0.cell? ⟨w.heap.size, 0, none⟩ = some (.slice (some ⟨g, 0, none⟩) n cap) := cell_of_row _ _ 0 _ _ _ hc0
  have HB0 := hide hb0
  clear hws hop hsm hz hn hb0 hc0
  go_enter Tryz.func40, Tryz.ntmps40
  go_upto_region 1 with fail
  rw [← hW0]
  clear hW0
  go_wp2_with fail
  clear p0
  go_loopw [3, 9] (fun sv i wr => ∃ (k : Nat) (us : List ByteArray), k ≤ n ∧ us.length = k ∧ i = .int .i64 k ∧ StrRow wr (w.heap.size + 1) sv us ∧ us.map (·.data.toList) = (ws.take k).map (fun x => formW (parts x.xs)) ∧ Below (w.heap.size + 1) W0 wr) (fun _ i _ => n - (intOf i).toNat)
  case atStart => exact ⟨0, [], Nat.zero_le _, rfl, rfl, World.ownsRow_nil _ _ _ _, rfl, Below.refl _ _⟩
  case round =>
    obtain ⟨k, us, hk, huk, rfl, hrow, hus, hb⟩ := hrel
    obtain ⟨aos, ns, caps, hsv⟩ := row_form hrow
    subst hsv
    have HROW := hide hrow
    have HUS := hide hus
    have HUK := hide huk
    have Hb := hide hb
    clear hrow hus huk
    have hbw : Below w.heap.size w wr := (unhide HB0).trans (hb.mono (by omega))
    by_cases hlt : k < n
    · have hlt' : k < ws.length := by rw [← unhide HN]; exact hlt
      obtain ⟨x, hx⟩ : ∃ x, ws[k]? = some x := ⟨_, List.getElem?_eq_getElem hlt'⟩
      have hWr := (unhide HWS).below hbw
      obtain ⟨gw, capw, hwv, q0, q1, _⟩ := wd_at hWr k x hx
      rw [← unhide HN] at hwv
      injection hwv with e1 e2 e3
      injection e1 with e1
      injection e1 with e1
      subst e1 e3
      clear e2
      have hok := hWr.all x (List.mem_of_getElem? hx)
      obtain ⟨aox, nx, capx, hxv⟩ := row_form hok
      rw [hxv] at q1
      have n0 := World.new_ne wr ⟨g, k * 2, none⟩ q0
      obtain ⟨W1, hW1⟩ : ∃ W1, W1 = wr.alloc (.cells #[.int .i64 (x.place : Int), .slice aox nx capx] 138) := ⟨_, rfl⟩
      have hb1 : Below wr.heap.size wr W1 := by rw [hW1]; exact (Below.refl _ _).alloc (Nat.le_refl _) _
      have hc1 : W1.heap[wr.heap.size]? = some (.cells #[.int .i64 (x.place : Int), .slice aox nx capx] 138 (0, 0)) := by rw [hW1]; exact heap_alloc_new _ _
      have p0 : W1.cell? ⟨wr.heap.size, 0, none⟩ = some (.int .i64 (x.place : Int)) := cell_of_row _ _ 0 _ _ _ hc1
      have p1 : W1.cell? ⟨wr.heap.size, 1, none⟩ = some (.slice aox nx capx) := cell_of_row _ _ 1 _ _ _ hc1
      have hok1 : x.Ok W1 B := row_same hok fun j hj => hb1.block j (World.ownsRow.lt hok j hj).2
      have hF := form_word x B W1 hok1 (unhide HSM x (List.mem_of_getElem? hx)).1 (Nat.le_trans (szI_mem (List.mem_map.2 ⟨x, List.mem_of_getElem? hx, rfl⟩)) (unhide HZ))
      unfold WdM.val at hF
      rw [hxv] at hF
      have HB1 : Hid (Below (w.heap.size + 1) W0 W1) := hide (hb.trans (hb1.mono (by have := hb.size; omega)))
      have HR1 : Hid (StrRow W1 (w.heap.size + 1) (.slice aos ns caps) us) := hide (row_same (unhide HROW) fun j hj => hb1.block j (World.ownsRow.lt (unhide HROW) j hj).2)
      have HX : Hid ((ws.take (k + 1)).map (fun x => formW (parts x.xs)) = (ws.take k).map (fun x => formW (parts x.xs)) ++ [formW (parts x.xs)]) := hide (by rw [List.take_add_one, hx]; simp)
      obtain ⟨i0, hi, hz0, hz1, hz2⟩ := info_parts info9w
      clear hx hWr hok hxv hb1 hc1 hok1 hbw hb
      go_upto_region 5 with fail
      rw [← hW1]
      clear hW1 q0 q1 n0
      go_wp2_with (first
        | (go_at_call 64; refine hF.mono ?_; clear hF; rintro ev w3 ⟨⟨u, rfl, hu⟩, hb3⟩; have HU := hide hu; have HB3 := hide hb3; have HR3 : Hid (StrRow w3 (w.heap.size + 1) (.slice aos ns caps) us) := hide (row_same (unhide HR1) fun j hj => hb3.block j (World.ownsRow.lt (unhide HR1) j hj).2); have HR4 := hide ((unhide HR3).alloc (.cells #[.string u] 9)); have HSZ := hide (Nat.le_trans (unhide HB1).size hb3.size); clear hu hb3)
        | (at_builtin; refine wpList_append_own _ rfl _ _ 54 rfl (w.heap.size + 1) 9 i0 _ 1 16 Tryz.underlying54 hi hz0 hz1 hz2 rfl (by decide) _ us.length (us.map Value.string) rfl (unhide HR4) ⟨w3.heap.size, 0, none⟩ 1 1 [.string u] rfl rfl (World.news_of_block (cs := #[.string u]) (t := 9) (fr := (0, 0)) (heap_alloc_new _ _)) (by intro u hu; simp only [List.mem_cons, List.not_mem_nil, or_false] at hu; rw [hu]; rfl) (by have := unhide HUK; unfold maxLen; omega) (by have := unhide HUK; omega) (by have := unhide HSZ; simp; omega) ?_; intro v6 w6 hown6 hgrow6 _))
      have hb6 : Below (w.heap.size + 1) w3 w6 := ((Below.refl _ w3).alloc (by have := unhide HSZ; omega) _).grown hgrow6 (by have := unhide HSZ; simp; omega) (fun q hq => (World.ownsRow.lt (unhide HR3) q hq).1)
      have HB6 : Hid (Below (w.heap.size + 1) W0 w6) := hide (((unhide HB1).trans ((unhide HB3).mono (by have := (unhide HB1).size; omega))).trans hb6)
      have HR6 : Hid (StrRow w6 (w.heap.size + 1) v6 (us ++ [u])) := hide (by unfold StrRow; rw [List.length_append, List.map_append]; exact hown6)
      have HU6 : Hid ((us ++ [u]).map (·.data.toList) = (ws.take (k + 1)).map (fun x => formW (parts x.xs))) := hide (by rw [unhide HX, List.map_append, unhide HUS, ← unhide HU]; rfl)
      clear hgrow6 hown6 hb6
      go_roundw
      case rel => exact ⟨k + 1, us ++ [u], hlt, by rw [List.length_append, unhide HUK]; rfl, by go_num, unhide HR6, unhide HU6, unhide HB6⟩
      case measure => simp [intOf]; omega
    · have hke : k = n := by omega
      have hul : us.length = n := by rw [unhide HUK, hke]
      rcases (unhide HROW).2 with ⟨_, h0⟩ | ⟨g2, cap2, cur, hv2, _, hg2, hc2, _⟩
      · omega
      injection hv2 with e1 e2 e3
      subst e1 e2 e3
      have hcells : ∀ (j : Nat) x, us[j]? = some x → wr.cell? ⟨g2, 0 + j, none⟩ = some (.string x) := fun j x hj => by
        have hjl := (List.getElem?_eq_some_iff.1 hj).1
        rw [Nat.zero_add, World.ownsRow.cellAt (unhide HROW) j (by omega), List.getElem?_map, hj]; rfl
      have HFI : Hid (Lib.join (us.map (·.data.toList)) [32] = formI (ws.map WdM.xs)) := hide (by
        rw [unhide HUS, List.take_of_length_le (by rw [hke, unhide HN]; exact Nat.le_refl _)]
        unfold formI; rw [List.map_map]; rfl)
      have hJ := Tryz.strings_Join g2 0 caps us ⟨#[32]⟩ wr hcells (Array.getElem?_eq_some_iff.1 hg2).1 (by omega) hc2 (by
        show (Lib.join (us.map (·.data.toList)) [32]).length ≤ _
        rw [unhide HFI]
        have h1 := formI_len (ws.map WdM.xs)
        have h2 := unhide HZ
        omega)
      have HJ : Hid ((Lib.join (us.map (·.data.toList)) (ByteArray.mk #[32]).data.toList) = formI (ws.map WdM.xs)) := hide (unhide HFI)
      generalize (Lib.join (us.map (·.data.toList)) (ByteArray.mk #[32]).data.toList) = J at hJ HJ
      clear hke hul hcells hg2 hc2 hb
      go_wp2_with (go_at_call 65; refine hJ.mono ?_; clear hJ; rintro ev w3 ⟨rfl, hb3⟩)
      go_ret
      exact ⟨⟨_, rfl, (List.toList_toArray).trans (unhide HJ)⟩, hbw.trans (hb3.mono hbw.size)⟩
end Go.Proofs.YtjhkeaijcdpaaaaGreatDoor

namespace Go.Proofs.YtjhkeaijcdpaaaaGreatDoor
open Go.RowKit Go.Maps

theorem sum_mem {α : Type} (f : α → Nat) : ∀ (l : List α) (k : Nat) (x : α), l[k]? = some x → ((l.take k).map f).sum + f x ≤ (l.map f).sum := by
  intro l
  induction l with
  | nil => intro k x h; simp at h
  | cons a r ih =>
    intro k x h
    cases k with
    | zero => simp at h; subst h; simp
    | succ k =>
      simp only [List.getElem?_cons_succ] at h
      have := ih k x h
      simp only [List.take_succ_cons, List.map_cons, List.sum_cons]
      omega
theorem flat_len {α : Type} (g : α → List UInt8) (f : α → Nat) (h : ∀ x, (g x).length ≤ f x) (l : List α) : ((l.map g).flatten).length ≤ (l.map f).sum := by
  induction l with
  | nil => simp
  | cons a r ih =>
    simp only [List.map_cons, List.flatten_cons, List.length_append, List.sum_cons]
    have := h a
    omega
theorem flat_snoc {α : Type} (g : α → List UInt8) (l : List α) (k : Nat) (x : α) (h : l[k]? = some x) : ((l.take (k + 1)).map g).flatten = ((l.take k).map g).flatten ++ g x := by
  rw [List.take_add_one, h]; simp
/-- A line of a form; the lines of a stage; those of a file. -/
def inL (m : InM) : List UInt8 := formI (m.ws.map WdM.xs) ++ [10]
def insL (l : List InM) : List UInt8 := (l.map inL).flatten
def stL (s : StM) : List UInt8 := insL s.ins
def filL (ss : List StM) : List UInt8 := (ss.map stL).flatten
def szM (m : InM) : Nat := szI (m.ws.map WdM.xs) + 1
def szL (l : List InM) : Nat := (l.map szM).sum
def szT (s : StM) : Nat := szL s.ins
def szF (ss : List StM) : Nat := (ss.map szT).sum
theorem inL_len (m : InM) : (inL m).length ≤ szM m := by
  unfold inL szM
  rw [List.length_append]
  have := formI_len (m.ws.map WdM.xs)
  simp; omega
theorem insL_len (l : List InM) : (insL l).length ≤ szL l := flat_len inL szM inL_len l
theorem filL_len (ss : List StM) : (filL ss).length ≤ szF ss := flat_len stL szT (fun s => insL_len s.ins) ss
set_option maxHeartbeats 1000000 in
set_option maxRecDepth 10000 in
theorem form_file (B fb : Nat) (sv : Value) (ss : List StM) (w : World) (h : FileM w B fb sv ss) (hz : szF ss ≤ 268435456) :
    Calls Tryz.prog 20 #[.pointer (some ⟨fb, 0, none⟩)] w fun ev w' => (∃ u : ByteArray, ev = .returned (.string u) ∧ u.data.toList = filL ss) ∧ Below w.heap.size w w' := by
  have c0 := h.c0
  obtain ⟨ao, n', cap, hsv⟩ := row_form h.row
  have hn' : n' = ss.length := by
    rcases h.row.2 with ⟨e, h0⟩ | ⟨gg, cc, cur, e, _⟩
    · rw [e] at hsv; injection hsv with _ h1 _; rw [← h1, h0]
    · rw [e] at hsv; injection hsv with _ h1 _; exact h1.symm
  have hsh := h.short
  obtain ⟨n, hn⟩ : ∃ n, n = ss.length := ⟨_, rfl⟩
  rw [← hn] at hn' hsh
  subst hn'
  have HN := hide hn
  have HF := hide h
  have HSV := hide hsv
  have HZ := hide hz
  rw [hsv] at c0
  obtain ⟨W0, hW0⟩ : ∃ W0, W0 = w.alloc (.cells #[.pointer none, .slice none 0 0] 103) := ⟨_, rfl⟩
  have hb0 : Below w.heap.size w W0 := by rw [hW0]; exact (Below.refl _ _).alloc (Nat.le_refl _) _
  have HB0 := hide hb0
  have HL0 : Hid (Bld w.heap.size w.heap.size [] W0) := hide (by rw [hW0]; exact bld_new w)
  have d0 : W0.cell? ⟨fb, 0, none⟩ = some (.slice ao n' cap) := cell_later hb0 c0
  clear h hz hn hsv hb0 c0
  go_enter Tryz.func20, Tryz.ntmps20
  go_upto_region 2 with fail
  rw [← hW0]
  clear hW0
  go_wp2_with fail
  clear d0
  go_loopw [13] (fun i wr => ∃ k : Nat, k ≤ n' ∧ i = .int .i64 k ∧ Bld w.heap.size w.heap.size (filL (ss.take k)) wr ∧ Below w.heap.size w wr) (fun i _ => n' - (intOf i).toNat)
  case atStart => exact ⟨0, Nat.zero_le _, rfl, unhide HL0, unhide HB0⟩
  case round =>
    obtain ⟨k, hk, rfl, hB, hb⟩ := hrel
    have HB := hide hB
    have Hb := hide hb
    clear hB HL0 HB0
    by_cases hlt : k < n'
    · obtain ⟨s, hs⟩ : ∃ s, ss[k]? = some s := ⟨_, List.getElem?_eq_getElem (by rw [← unhide HN]; exact hlt)⟩
      have hFr := (unhide HF).below hb
      have hrow := hFr.row
      obtain ⟨g, cap', hv, _, hgl⟩ := World.ownsRow.form hrow (by rw [← unhide HN]; omega)
      have hv2 := unhide HSV
      rw [hv, ← unhide HN] at hv2
      injection hv2 with e1 e2 e3
      subst e1 e3
      clear e2
      rw [hv] at hrow
      obtain ⟨q0, q1⟩ := st_at hrow k s hs
      have hok := hFr.all s (List.mem_of_getElem? hs)
      obtain ⟨aoi, ni, capi, hiv⟩ := row_form hok.row
      have hni : ni = s.ins.length := by
        rcases hok.row.2 with ⟨e, h0⟩ | ⟨gg, cc, cur, e, _⟩
        · rw [e] at hiv; injection hiv with _ h1 _; rw [← h1, h0]
        · rw [e] at hiv; injection hiv with _ h1 _; exact h1.symm
      have hish := hok.short
      rw [← hni] at hish
      rw [hiv] at q1
      have n0 := World.new_ne wr ⟨g, k * 2, none⟩ q0
      obtain ⟨W1, hW1⟩ : ∃ W1, W1 = wr.alloc (.cells #[.string s.name, .slice aoi ni capi] 106) := ⟨_, rfl⟩
      have hb1 : Below wr.heap.size wr W1 := by rw [hW1]; exact (Below.refl _ _).alloc (Nat.le_refl _) _
      have hc1 : W1.heap[wr.heap.size]? = some (.cells #[.string s.name, .slice aoi ni capi] 106 (0, 0)) := by rw [hW1]; exact heap_alloc_new _ _
      have p1 : W1.cell? ⟨wr.heap.size, 1, none⟩ = some (.slice aoi ni capi) := cell_of_row _ _ 1 _ _ _ hc1
      have HB1 : Hid (Below w.heap.size w W1) := hide (hb.trans (hb1.mono hb.size))
      have HL1 : Hid (Bld w.heap.size w.heap.size (filL (ss.take k) ++ insL (s.ins.take 0)) W1) := hide (by
        have := (unhide HB).later hb1
        simpa [insL] using this)
      have HOK : Hid (s.Ok w B) := hide ((unhide HF).all s (List.mem_of_getElem? hs))
      have HIV := hide hiv
      have HNI := hide hni
      have HSS := hide (flat_snoc stL ss k s hs)
      have HSZ := hide (sum_mem szT ss k s hs)
      clear hs hFr hrow hv hok hiv hni hb1 hc1 hb
      go_upto_region 5 with fail
      rw [← hW1]
      clear hW1 q0 q1 n0
      go_wp2_with fail
      clear p1
      go_loopw [20] (fun i w2 => ∃ j : Nat, j ≤ ni ∧ i = .int .i64 j ∧ Bld w.heap.size w.heap.size (filL (ss.take k) ++ insL (s.ins.take j)) w2 ∧ Below w.heap.size w w2) (fun i _ => ni - (intOf i).toNat)
      case atStart => exact ⟨0, Nat.zero_le _, rfl, unhide HL1, unhide HB1⟩
      case round =>
        obtain ⟨j, hj, rfl, hB2, hb2⟩ := hrel
        have HB2 := hide hB2
        have Hb2 := hide hb2
        clear hB2 HL1 HB1
        by_cases hlt2 : j < ni
        · have hlt3 : j < s.ins.length := by rw [← unhide HNI]; exact hlt2
          obtain ⟨m, hm⟩ : ∃ m, s.ins[j]? = some m := ⟨_, List.getElem?_eq_getElem hlt3⟩
          have hokr := (unhide HOK).below hb2
          have hrow := hokr.row
          obtain ⟨gi, capj, hvi, _, hgil⟩ := World.ownsRow.form hrow (by omega)
          have hvi2 := unhide HIV
          rw [hvi, ← unhide HNI] at hvi2
          injection hvi2 with e1 e2 e3
          subst e1 e3
          clear e2
          rw [hvi] at hrow
          obtain ⟨q0, q1, q2, q3, q4, q5⟩ := in_at hrow j m hm
          have hmok := hokr.all m (List.mem_of_getElem? hm)
          obtain ⟨aow, nw, capw, hwv⟩ := row_form hmok.ws.row
          rw [hwv] at q0
          have n0 := World.new_ne wr ⟨gi, j * 6, none⟩ q0
          obtain ⟨W2, hW2⟩ : ∃ W2, W2 = wr.alloc (.cells #[.slice aow nw capw, .int .i64 m.stage, .int .i64 (ruleT m.rule).1, .int .i64 (ruleT m.rule).2.1, fnV (ruleT m.rule).2.2.1, fnV (ruleT m.rule).2.2.2] 99) := ⟨_, rfl⟩
          have hb3 : Below wr.heap.size wr W2 := by rw [hW2]; exact (Below.refl _ _).alloc (Nat.le_refl _) _
          have hc1 : W2.heap[wr.heap.size]? = some (.cells #[.slice aow nw capw, .int .i64 m.stage, .int .i64 (ruleT m.rule).1, .int .i64 (ruleT m.rule).2.1, fnV (ruleT m.rule).2.2.1, fnV (ruleT m.rule).2.2.2] 99 (0, 0)) := by rw [hW2]; exact heap_alloc_new _ _
          have r0 : W2.cell? ⟨wr.heap.size, 0, none⟩ = some (.slice aow nw capw) := cell_of_row _ _ 0 _ _ _ hc1
          have r1 : W2.cell? ⟨wr.heap.size, 1, none⟩ = some (.int .i64 m.stage) := cell_of_row _ _ 1 _ _ _ hc1
          have r2 : W2.cell? ⟨wr.heap.size, 2, none⟩ = some (.int .i64 (ruleT m.rule).1) := cell_of_row _ _ 2 _ _ _ hc1
          have r3 : W2.cell? ⟨wr.heap.size, 3, none⟩ = some (.int .i64 (ruleT m.rule).2.1) := cell_of_row _ _ 3 _ _ _ hc1
          have r4 : W2.cell? ⟨wr.heap.size, 4, none⟩ = some (fnV (ruleT m.rule).2.2.1) := cell_of_row _ _ 4 _ _ _ hc1
          have r5 : W2.cell? ⟨wr.heap.size, 5, none⟩ = some (fnV (ruleT m.rule).2.2.2) := cell_of_row _ _ 5 _ _ _ hc1
          have hmsz := sum_mem szM s.ins j m hm
          have HLEN : Hid ((filL (ss.take k) ++ insL (s.ins.take j)).length + (szI (m.ws.map WdM.xs) + 1) ≤ 268435456) := hide (by
            have h1 := filL_len (ss.take k)
            have h2 := insL_len (s.ins.take j)
            have h3 : szF (ss.take k) + szL s.ins ≤ szF ss := unhide HSZ
            have h4 := unhide HZ
            have h5 : szL (s.ins.take j) + (szI (m.ws.map WdM.xs) + 1) ≤ szL s.ins := hmsz
            rw [List.length_append]
            omega)
          have hF := form_in m B W2 (hmok.below hb3) (by have := unhide HLEN; omega)
          unfold InM.val at hF
          rw [hwv] at hF
          have HFL := hide (formI_len (m.ws.map WdM.xs))
          have HSN := hide (flat_snoc inL s.ins j m hm)
          have HB3 : Hid (Below w.heap.size w W2) := hide (hb2.trans (hb3.mono hb2.size))
          have HL3 := hide ((unhide HB2).later hb3)
          clear hm hokr hrow hvi hmok hwv hb3 hc1 hmsz hb2
          go_upto_region 8 with fail
          rw [← hW2]
          clear hW2 q0 q1 q2 q3 q4 q5 n0
          go_wp2_with (first
            | (go_at_call 40; refine hF.mono ?_; clear hF; rintro ev w3 ⟨⟨u, rfl, hu⟩, hb4⟩; have HU := hide hu; have HB4 := hide hb4; have HL4 := hide ((unhide HL3).later hb4); have hus : u.size ≤ 268435456 := (by have h1 := unhide HFL; have h2 := unhide HLEN; rw [← hu, ← Lib.size_eq] at h1; omega); have HV : Hid ((u ++ { data := #[10] } : ByteArray).size = u.size + 1) := hide (by rw [ByteArray.size_append]; rfl); clear hu hb4)
            | (go_at_call 39; refine (wsB _ _ _ _ _ (unhide HL4) ?_).mono ?_; (have h1 := unhide HFL; have h2 := unhide HLEN; rw [← unhide HU, ← Lib.size_eq] at h1; rw [unhide HV]; omega); rintro ev w5 ⟨rfl, hB5, hb5⟩))
          have HE : Hid (filL (ss.take k) ++ insL (s.ins.take (j + 1)) = filL (ss.take k) ++ insL (s.ins.take j) ++ (u ++ { data := #[10] } : ByteArray).data.toList) := hide (by
            have h1 := unhide HSN
            show _ ++ ((s.ins.take (j + 1)).map inL).flatten = _
            rw [h1, List.append_assoc]
            unfold insL inL
            rw [← unhide HU]
            simp)
          go_roundw
          case rel => exact ⟨j + 1, hlt2, by go_num, by rw [unhide HE]; exact hB5, ((unhide HB3).trans ((unhide HB4).mono (unhide HB3).size)).trans hb5⟩
          case measure => simp [intOf]; omega
        · have hje : j = ni := by omega
          have HE : Hid (filL (ss.take k) ++ insL (s.ins.take j) = filL (ss.take (k + 1))) := hide (by
            rw [show s.ins.take j = s.ins from List.take_of_length_le (by rw [hje, unhide HNI]; exact Nat.le_refl _)]
            exact (unhide HSS).symm)
          clear hje hb2
          go_wp2_with fail
          go_roundw
          case rel => exact ⟨k + 1, hlt, by go_num, by rw [← unhide HE]; exact unhide HB2, unhide Hb2⟩
          case measure => simp [intOf]; omega
    · have hke : k = n' := by omega
      have hW := wstr _ _ _ wr (unhide HB)
      have HS : Hid (filL (ss.take k) = filL ss) := hide (by rw [List.take_of_length_le (by rw [hke, unhide HN]; exact Nat.le_refl _)])
      clear hke hb
      go_wp2_with (go_at_call 41; refine hW.mono ?_; clear hW; rintro ev w3 ⟨rfl, hb3⟩)
      go_ret
      exact ⟨⟨_, rfl, (List.toList_toArray).trans (unhide HS)⟩, (unhide Hb).trans hb3⟩
end Go.Proofs.YtjhkeaijcdpaaaaGreatDoor
