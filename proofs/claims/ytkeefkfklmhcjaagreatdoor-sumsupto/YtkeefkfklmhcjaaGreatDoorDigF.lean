import Derived.Test.YtkeefkfklmhcjaaGreatDoorDigE
import Derived.Test.YtkeefkfklmhcjaaGreatDoorShelfB
namespace Go.Proofs.YtkeefkfklmhcjaaGreatDoor
open Go.RowKit

theorem builder_later {T e : TypeId} {B b : Nat} {p : Value} {bs : List Value} {w w' : World} (h : Lib.BuilderAt T e B b p bs w) (hb : Below w.heap.size w w') : Lib.BuilderAt T e B b p bs w' := by
  obtain ⟨h1, v, h2, h3, h4⟩ := h
  refine ⟨h1, v, (hb.block b (Array.getElem?_eq_some_iff.1 h2).1).trans h2, h3.kept (grown_of_below hb) ?_, h4⟩
  cases hv : v.ownBlock <;> simp
/-- A Builder of the call's own that holds this text. -/
def Bld (B b : Nat) (l : List UInt8) (w : World) : Prop := Lib.IsBuilder 132 5 B b (Lib.byteCells l) w ∧ B ≤ w.heap.size
theorem Bld.later {B b : Nat} {l : List UInt8} {w w' : World} (h : Bld B b l w) (hb : Below w.heap.size w w') : Bld B b l w' := by
  refine ⟨?_, Nat.le_trans h.2 hb.size⟩
  rcases h.1 with h1 | h1
  · exact .inl (builder_later h1 hb)
  · exact .inr (builder_later h1 hb)
theorem bld_new (w : World) : Bld w.heap.size w.heap.size [] (w.alloc (.cells #[.pointer none, .slice none 0 0] 132)) :=
  ⟨.inl ⟨Nat.le_refl _, .slice none 0 0, heap_alloc_new _ _, World.ownsRow_nil _ _ _ _, by simp [Value.ownBlock]⟩, by simp⟩
theorem byteCells_len (l : List UInt8) : (Lib.byteCells l).length = l.length := by simp [Lib.byteCells]
theorem wb (B b : Nat) (l : List UInt8) (c : Int) (x : UInt8) (w : World) (h : Bld B b l w) (hc : c = (x.toNat : Int)) (hl : l.length ≤ 4294967296) :
    Calls Tryz.prog 141 #[.pointer (some ⟨b, 0, none⟩), .int .u8 c] w fun e w' => e = .returned .nilIface ∧ Bld B b (l ++ [x]) w' ∧ Below B w w' := by
  subst hc
  refine (Tryz.Builder_WriteByte B b _ _ w h.1 (by rw [byteCells_len]; omega) h.2).mono ?_
  rintro e w' ⟨rfl, hb, hbl⟩
  refine ⟨rfl, ⟨.inr ?_, Nat.le_trans h.2 hbl.size⟩, hbl⟩
  simpa [Lib.byteCells] using hb
theorem ws (B b : Nat) (l : List UInt8) (s : ByteArray) (w : World) (h : Bld B b l w) (hl : l.length + s.size ≤ 4294967296) :
    Calls Tryz.prog 91 #[.pointer (some ⟨b, 0, none⟩), .string s] w fun e w' => e = .returned (.tuple #[.int .i64 s.size, .nilIface]) ∧ Bld B b (l ++ s.data.toList) w' ∧ Below B w w' := by
  refine (Tryz.Builder_WriteString B b _ _ w h.1 (by rw [byteCells_len]; omega) h.2).mono ?_
  rintro e w' ⟨rfl, hb, hbl⟩
  refine ⟨rfl, ⟨.inr ?_, Nat.le_trans h.2 hbl.size⟩, hbl⟩
  simpa [Lib.byteCells, Lib.strCells] using hb
theorem wstr (B b : Nat) (l : List UInt8) (w : World) (h : Bld B b l w) :
    Calls Tryz.prog 94 #[.pointer (some ⟨b, 0, none⟩)] w fun e w' => e = .returned (.string ⟨l.toArray⟩) ∧ Below B w w' :=
  Tryz.Builder_String_any B b l w h.1 h.2

/-- How many noughts; the bytes of the length; what is left of a text, filled up. -/
def zer (r : Nat) : Nat := (64 - (r + 9) % 64) % 64
def lenB (n j : Nat) : UInt8 := UInt8.ofNat (n * 8 / 2 ^ (56 - 8 * j))
def lenBs (n k : Nat) : List UInt8 := (List.range k).map (lenB n)
def fil (l : List UInt8) (n : Nat) : List UInt8 := l ++ [128] ++ List.replicate (zer l.length) 0 ++ lenBs n 8
theorem lenB0 (n : Nat) : ((lenB n 0).toNat : Int) = (n : Int) * 8 / 72057594037927936 % 256 := by
  have : (lenB n 0).toNat = n * 8 / 72057594037927936 % 256 := by simp [lenB]
  rw [this]; omega
theorem lenB1 (n : Nat) : ((lenB n 1).toNat : Int) = (n : Int) * 8 / 281474976710656 % 256 := by
  have : (lenB n 1).toNat = n * 8 / 281474976710656 % 256 := by simp [lenB]
  rw [this]; omega
theorem lenB2 (n : Nat) : ((lenB n 2).toNat : Int) = (n : Int) * 8 / 1099511627776 % 256 := by
  have : (lenB n 2).toNat = n * 8 / 1099511627776 % 256 := by simp [lenB]
  rw [this]; omega
theorem lenB3 (n : Nat) : ((lenB n 3).toNat : Int) = (n : Int) * 8 / 4294967296 % 256 := by
  have : (lenB n 3).toNat = n * 8 / 4294967296 % 256 := by simp [lenB]
  rw [this]; omega
theorem lenB4 (n : Nat) : ((lenB n 4).toNat : Int) = (n : Int) * 8 / 16777216 % 256 := by
  have : (lenB n 4).toNat = n * 8 / 16777216 % 256 := by simp [lenB]
  rw [this]; omega
theorem lenB5 (n : Nat) : ((lenB n 5).toNat : Int) = (n : Int) * 8 / 65536 % 256 := by
  have : (lenB n 5).toNat = n * 8 / 65536 % 256 := by simp [lenB]
  rw [this]; omega
theorem lenB6 (n : Nat) : ((lenB n 6).toNat : Int) = (n : Int) * 8 / 256 % 256 := by
  have : (lenB n 6).toNat = n * 8 / 256 % 256 := by simp [lenB]
  rw [this]; omega
theorem lenB7 (n : Nat) : ((lenB n 7).toNat : Int) = (n : Int) * 8 / 1 % 256 := by
  have : (lenB n 7).toNat = n * 8 / 1 % 256 := by simp [lenB]
  rw [this]; omega
theorem lenBs_succ (n k : Nat) : lenBs n (k + 1) = lenBs n k ++ [lenB n k] := by simp [lenBs, List.range_succ]
theorem lenBs_len (n k : Nat) : (lenBs n k).length = k := by simp [lenBs]
theorem rep_noughts (c : Nat) : Lib.repeatL [0] c = List.replicate c 0 := by
  induction c with
  | zero => rfl
  | succ c ih => rw [Lib.repeatL, ih, List.replicate_succ]; rfl

set_option maxHeartbeats 1000000 in
set_option maxRecDepth 100000 in
theorem filled_any (s : ByteArray) (n : Nat) (hs : s.size ≤ 64) (hn : n ≤ 1073741824) (w : World) :
    Calls Tryz.prog 109 #[.string s, .int .i64 n] w fun ev w' => ev = .returned (.string ⟨(fil s.data.toList n).toArray⟩) ∧ Below w.heap.size w w' := by
  have hz : (64 - (s.size + 9) % 64) % 64 = zer s.data.toList.length := by rw [← Lib.size_eq]; rfl
  obtain ⟨z, hzz⟩ : ∃ z, z = zer s.data.toList.length := ⟨_, rfl⟩
  have HZ := hide hzz
  have hz64 : z < 64 := by rw [hzz, ← hz]; exact Nat.mod_lt _ (by decide)
  have hzi : ((64 - ((s.size : Int) + 1 + 8) % 64) % 64) = (z : Int) := by rw [hzz, ← hz]; omega
  have HL : Hid (s.data.toList.length = s.size) := hide (Lib.size_eq s).symm
  have hb0 := bld_new w
  clear hz hzz
  go_enter Tryz.func109, Tryz.ntmps109
  go_wp2_with fail
  refine (ws _ _ _ _ _ hb0 (by simp; omega)).mono ?_
  rintro ev w1 ⟨rfl, hb1, hl1⟩
  clear hb0
  go_wp2_with fail
  refine (wb _ _ _ _ 128 _ hb1 (by decide) (by simp; have := unhide HL; omega)).mono ?_
  rintro ev w2 ⟨rfl, hb2, hl2⟩
  go_wp2_with fail
  refine (Tryz.strings_Repeat _ z _ (by omega) (by show 1 * z ≤ _; omega)).mono ?_
  rintro ev w3 ⟨rfl, hl3⟩
  have hb3 := hb2.later hl3
  go_wp2_with fail
  refine (ws _ _ _ _ _ hb3 ?_).mono ?_
  · have := unhide HL
    have e : (⟨(Lib.repeatL (⟨#[0]⟩ : ByteArray).data.toList z).toArray⟩ : ByteArray).size = z := by rw [Lib.size_eq]; show (Lib.repeatL [0] z).length = z; rw [rep_noughts]; simp
    rw [e]; simp; omega
  rintro ev w4 ⟨rfl, hb4, hl4⟩
  have hB4 : Below w.heap.size w w4 := ((((Below.refl _ _).alloc (Nat.le_refl _) _).trans (hl1.trans hl2)).trans (hl3.mono hb2.2)).trans hl4
  have hpre : Hid (([] ++ s.data.toList ++ [128] ++ (⟨(Lib.repeatL (⟨#[0]⟩ : ByteArray).data.toList z).toArray⟩ : ByteArray).data.toList) = s.data.toList ++ [128] ++ List.replicate (zer s.data.toList.length) 0) := hide (by
    show [] ++ s.data.toList ++ [128] ++ Lib.repeatL [0] z = _
    rw [rep_noughts, unhide HZ]; rfl)
  generalize hP : ([] ++ s.data.toList ++ [128] ++ (⟨(Lib.repeatL (⟨#[0]⟩ : ByteArray).data.toList z).toArray⟩ : ByteArray).data.toList) = Pre at *
  have hPl : Hid (Pre.length ≤ 200) := hide (by rw [unhide hpre]; simp only [List.length_append, List.length_cons, List.length_nil, List.length_replicate]; have := unhide HL; have := unhide HZ; omega)
  clear hP hb1 hb2 hb3 hl1 hl2 hl3 hl4
  go_wp2_with fail
  go_loopw [8] (fun i wr => ∃ k : Nat, k ≤ 8 ∧ i = .int .i64 (7 - (k : Int)) ∧ Bld w.heap.size w.heap.size (Pre ++ lenBs n k) wr ∧ Below w.heap.size w wr) (fun i _ => (intOf i + 1).toNat)
  case atStart => exact ⟨0, by omega, rfl, by simpa [lenBs] using hb4, hB4⟩
  case round =>
    obtain ⟨k, hk, rfl, hbr, hbl⟩ := hrel
    by_cases hlt : k < 8
    · match k, hlt, hbr with
      | 0, _, hbr =>
        go_wp2_with (go_at_call 141; refine (wb _ _ _ _ (lenB n 0) _ hbr ?_ ?_).mono ?_; (first | exact (lenB0 n).symm | (rw [lenB0]; omega)); (rw [List.length_append, lenBs_len]; have := unhide hPl; omega); rintro ev w5 ⟨rfl, hb5, hl5⟩; rw [List.append_assoc, ← lenBs_succ] at hb5)
        go_roundw
        case rel => exact ⟨1, by omega, by go_num, hb5, hbl.trans hl5⟩
        case measure => simp [intOf]
      | 1, _, hbr =>
        go_wp2_with (go_at_call 141; refine (wb _ _ _ _ (lenB n 1) _ hbr ?_ ?_).mono ?_; (first | exact (lenB1 n).symm | (rw [lenB1]; omega)); (rw [List.length_append, lenBs_len]; have := unhide hPl; omega); rintro ev w5 ⟨rfl, hb5, hl5⟩; rw [List.append_assoc, ← lenBs_succ] at hb5)
        go_roundw
        case rel => exact ⟨2, by omega, by go_num, hb5, hbl.trans hl5⟩
        case measure => simp [intOf]
      | 2, _, hbr =>
        go_wp2_with (go_at_call 141; refine (wb _ _ _ _ (lenB n 2) _ hbr ?_ ?_).mono ?_; (first | exact (lenB2 n).symm | (rw [lenB2]; omega)); (rw [List.length_append, lenBs_len]; have := unhide hPl; omega); rintro ev w5 ⟨rfl, hb5, hl5⟩; rw [List.append_assoc, ← lenBs_succ] at hb5)
        go_roundw
        case rel => exact ⟨3, by omega, by go_num, hb5, hbl.trans hl5⟩
        case measure => simp [intOf]
      | 3, _, hbr =>
        go_wp2_with (go_at_call 141; refine (wb _ _ _ _ (lenB n 3) _ hbr ?_ ?_).mono ?_; (first | exact (lenB3 n).symm | (rw [lenB3]; omega)); (rw [List.length_append, lenBs_len]; have := unhide hPl; omega); rintro ev w5 ⟨rfl, hb5, hl5⟩; rw [List.append_assoc, ← lenBs_succ] at hb5)
        go_roundw
        case rel => exact ⟨4, by omega, by go_num, hb5, hbl.trans hl5⟩
        case measure => simp [intOf]
      | 4, _, hbr =>
        go_wp2_with (go_at_call 141; refine (wb _ _ _ _ (lenB n 4) _ hbr ?_ ?_).mono ?_; (first | exact (lenB4 n).symm | (rw [lenB4]; omega)); (rw [List.length_append, lenBs_len]; have := unhide hPl; omega); rintro ev w5 ⟨rfl, hb5, hl5⟩; rw [List.append_assoc, ← lenBs_succ] at hb5)
        go_roundw
        case rel => exact ⟨5, by omega, by go_num, hb5, hbl.trans hl5⟩
        case measure => simp [intOf]
      | 5, _, hbr =>
        go_wp2_with (go_at_call 141; refine (wb _ _ _ _ (lenB n 5) _ hbr ?_ ?_).mono ?_; (first | exact (lenB5 n).symm | (rw [lenB5]; omega)); (rw [List.length_append, lenBs_len]; have := unhide hPl; omega); rintro ev w5 ⟨rfl, hb5, hl5⟩; rw [List.append_assoc, ← lenBs_succ] at hb5)
        go_roundw
        case rel => exact ⟨6, by omega, by go_num, hb5, hbl.trans hl5⟩
        case measure => simp [intOf]
      | 6, _, hbr =>
        go_wp2_with (go_at_call 141; refine (wb _ _ _ _ (lenB n 6) _ hbr ?_ ?_).mono ?_; (first | exact (lenB6 n).symm | (rw [lenB6]; omega)); (rw [List.length_append, lenBs_len]; have := unhide hPl; omega); rintro ev w5 ⟨rfl, hb5, hl5⟩; rw [List.append_assoc, ← lenBs_succ] at hb5)
        go_roundw
        case rel => exact ⟨7, by omega, by go_num, hb5, hbl.trans hl5⟩
        case measure => simp [intOf]
      | 7, _, hbr =>
        go_wp2_with (go_at_call 141; refine (wb _ _ _ _ (lenB n 7) _ hbr ?_ ?_).mono ?_; (first | exact (lenB7 n).symm | (rw [lenB7]; omega)); (rw [List.length_append, lenBs_len]; have := unhide hPl; omega); rintro ev w5 ⟨rfl, hb5, hl5⟩; rw [List.append_assoc, ← lenBs_succ] at hb5)
        go_roundw
        case rel => exact ⟨8, by omega, by go_num, hb5, hbl.trans hl5⟩
        case measure => simp [intOf]
    · obtain rfl : k = 8 := by omega
      have HF : Hid (Pre ++ lenBs n 8 = fil s.data.toList n) := hide (by rw [unhide hpre]; rfl)
      go_wp2_with (go_at_call 94; refine (wstr _ _ _ _ hbr).mono ?_; rintro ev w6 ⟨rfl, hl6⟩)
      go_ret
      exact ⟨congrArg (fun l : List UInt8 => Ending.returned (.string ⟨l.toArray⟩)) (unhide HF), hbl.trans hl6⟩
end Go.Proofs.YtkeefkfklmhcjaaGreatDoor
