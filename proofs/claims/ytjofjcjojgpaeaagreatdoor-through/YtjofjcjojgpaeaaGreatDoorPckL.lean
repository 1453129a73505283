import Derived.Test.YtjofjcjojgpaeaaGreatDoorJPckJ
import Derived.Test.YtjofjcjojgpaeaaGreatDoorJPckC
import Derived.Test.YtjofjcjojgpaeaaGreatDoorJChgB
import Derived.Test.YtjofjcjojgpaeaaGreatDoorJShelfB
namespace Go.Proofs.YtjofjcjojgpaeaaGreatDoor
open Go.RowKit

/-- What a change that may be packed keeps. -/
structure PkG (c : Ent) : Prop where
  pkc : ∃ m, PkC c m
  kind : c.kind = 1 ∨ c.kind = 2 ∨ c.kind = 3 ∨ c.kind = 4 ∨ c.kind = 5
  part : (nameL c).length ≤ 100 ∨ ∃ i, slashFrom (nameL c) ((nameL c).length - 101) = some i
/-- What archive.Pack answers. -/
def APkIs (w : World) (cs : List Ent) (v er : Value) : Prop :=
  (∃ s : ByteArray, v = .string s ∧ s = bt (packL cs) ∧ er = .nilIface ∧ FirstBadC cs (-1)) ∨
  (∃ i : Nat, v = .string ⟨#[]⟩ ∧ ErIs w er 3 i ∧ FirstBadC cs i)
theorem bld_low {B b : Nat} {l : List UInt8} {w : World} (h : Bld B b l w) : B ≤ b := by
  rcases h.1 with h1 | h1
  · exact h1.1
  · exact h1.1
theorem packs_len {cs : List Ent} (h : ∀ c ∈ cs, PkG c) (k : Nat) : ((cs.take k).map entryL).flatten.length ≤ k * 6000 := by
  induction k with
  | zero => simp
  | succ k ih =>
    by_cases hk : k < cs.length
    · have hc : cs[k]? = some cs[k] := List.getElem?_eq_getElem hk
      obtain ⟨m, hm⟩ := (h cs[k] (List.mem_of_getElem? hc)).pkc
      have h1 := entry_len hm
      rw [flatE_snoc hc, List.length_append, Nat.add_mul]
      exact Nat.add_le_add ih (by omega)
    · rw [List.take_of_length_le (by omega)] at ih ⊢
      exact Nat.le_trans ih (Nat.mul_le_mul_right _ (Nat.le_succ k))
set_option maxHeartbeats 2000000 in
set_option maxRecDepth 10000 in
theorem aPack_any (ao : Option Addr) (cap n : Nat) (cs : List Ent) (w : World) (hr : ERow w ao cs) (HN : Hid (n = cs.length)) (hn : n ≤ 4294967280) (hcap : n ≤ cap) (HS : Hid (Small cs)) (hP : Pk w) (HG : Hid (FirstBadC cs (-1) → n ≤ 80 ∧ ∀ c ∈ cs, PkG c)) :
    Calls Tryz.prog 32 #[.slice ao n cap] w fun ev w' => ∃ v er, ev = .returned (.tuple #[v, er]) ∧ Hid (APkIs w' cs v er) ∧ Below w.heap.size w w' := by
  obtain ⟨mx, hm⟩ := hP.max
  have hC := check_any ao cap n cs mx w hr HN hn hcap HS hm
  have HP := hide hP
  have HR := hide hr
  clear hP hr hm
  go_enter Tryz.func32, Tryz.ntmps32
  go_upto_region 2 with (go_at_call 49; refine hC.mono ?_; clear hC; rintro ev w1 ⟨er, rfl, HO, hb1⟩)
  rcases unhide HO with ⟨rfl, hF⟩ | ⟨i, ⟨q, rfl, e0, e1⟩, hF⟩
  · have HF := hide hF
    have hn80 := (unhide HG hF).1
    have HA := hide (unhide HG hF).2
    have HP1 := hide ((unhide HP).below hb1)
    have HR1 := hide ((unhide HR).below hb1)
    have HB0 := hide (bld_new w1)
    have hB0 : Below w1.heap.size w1 (w1.alloc (.cells #[.pointer none, .slice none 0 0] 109)) := (Below.refl _ _).alloc (Nat.le_refl _) _
    clear HO hF hn HS
    go_wp2_with fail
    go_loopw [15] (fun i wr => ∃ k : Nat, k ≤ n ∧ i = .int .i64 k ∧ Hid (Bld w1.heap.size w1.heap.size ((cs.take k).map entryL).flatten wr) ∧ Below w1.heap.size w1 wr) (fun i _ => n - (intOf i).toNat)
    case atStart => exact ⟨0, by omega, rfl, HB0, hB0⟩
    case round =>
      obtain ⟨k, hk, rfl, HB, hb⟩ := hrel
      clear HB0 hB0
      have HL : Hid (((cs.take k).map entryL).flatten.length ≤ k * 6000) := hide (packs_len (unhide HA) k)
      by_cases hlt : k < n
      · obtain ⟨c, hc⟩ : ∃ c, cs[k]? = some c := ⟨cs[k]'(by have := unhide HN; omega), List.getElem?_eq_getElem (by have := unhide HN; omega)⟩
        obtain ⟨g, o, rfl, c0, c1, c2, c3⟩ := ((unhide HR1).below hb) k c hc
        have hG := unhide HA c (List.mem_of_getElem? hc)
        obtain ⟨m, hm⟩ := hG.pkc
        have HFl := hide (flatE_snoc hc)
        have HEl := hide (entry_len hm)
        have i0 : (0 : Int) ≤ (k : Int) := by omega
        have i1 : (k : Int) < (n : Int) := by omega
        obtain ⟨W0, hW0⟩ : ∃ W0, W0 = wr.alloc (.cells #[.string c.path, .int .i64 c.kind, .int .i64 c.mode, .string c.data] 37) := ⟨_, rfl⟩
        have hB0w : Below wr.heap.size wr W0 := by rw [hW0]; exact (Below.refl _ _).alloc (Nat.le_refl _) _
        have hB0 := hb.trans (hB0w.mono hb.size)
        have q0 : W0.cell? ⟨wr.heap.size, 0, none⟩ = some (.string c.path) := by rw [hW0]; exact cell_of_row _ _ 0 _ _ _ (heap_alloc_new _ _)
        have q1 : W0.cell? ⟨wr.heap.size, 1, none⟩ = some (.int .i64 c.kind) := by rw [hW0]; exact cell_of_row _ _ 1 _ _ _ (heap_alloc_new _ _)
        have q2 : W0.cell? ⟨wr.heap.size, 2, none⟩ = some (.int .i64 c.mode) := by rw [hW0]; exact cell_of_row _ _ 2 _ _ _ (heap_alloc_new _ _)
        have q3 : W0.cell? ⟨wr.heap.size, 3, none⟩ = some (.string c.data) := by rw [hW0]; exact cell_of_row _ _ 3 _ _ _ (heap_alloc_new _ _)
        have hWr := written_any c m W0 (hide hm) ((unhide HP1).below hB0) hG.kind hG.part
        have HB1 := hide ((unhide HB).later hB0w)
        have HSz : Hid ((bt (entryL c)).size ≤ 6000) := hide (by rw [bt_size]; exact unhide HEl)
        obtain ⟨T, hT⟩ : ∃ T, T = bt (entryL c) := ⟨_, rfl⟩
        rw [← hT] at hWr HSz
        have HT := hide hT
        clear hc hG hm hT
        go_upto_region 8 with fail
        rw [← hW0]
        clear hW0 c0 c1 c2 c3
        go_upto_region 9 with (first
          | (go_at_call 56; refine hWr.mono ?_; clear hWr; rintro ev w2 ⟨rfl, hb2⟩)
          | (go_at_call 55; refine (ws _ _ _ _ _ ((unhide HB1).later hb2) (by have := unhide HL; have := unhide HSz; omega)).mono ?_; rintro ev w3 ⟨rfl, HB3, hb3⟩))
        have HB4 : Hid (Bld w1.heap.size w1.heap.size ((cs.take (k + 1)).map entryL).flatten w3) := hide (by rw [unhide HFl]; rw [unhide HT, bt_list] at HB3; exact HB3)
        have hB3 := (hB0.trans (hb2.mono hB0.size)).trans hb3
        clear HB3 hb3 hb2
        go_wp2_with fail
        go_roundw
        case rel =>
          first
            | exact ⟨k + 1, by omega, by go_num, HB4, hB3⟩
            | ((repeat apply Exists.intro); exact ⟨⟨k + 1, by omega, by go_num, HB4, hB3⟩, rfl⟩)
        case measure => simp [intOf]; omega
      · have HE : Hid ((cs.take k).map entryL = cs.map entryL) := hide (by rw [List.take_of_length_le (by have := unhide HN; omega)])
        obtain ⟨T, hT⟩ : ∃ T, T = bt (List.replicate 1024 0) := ⟨_, rfl⟩
        have hEn := ending_any wr
        rw [← hT] at hEn
        have HTz : Hid (T.size = 1024) := hide (by rw [hT, bt_size, List.length_replicate])
        have HT := hide hT
        clear hT
        go_wp2_with (first
          | (go_at_call 57; refine hEn.mono ?_; clear hEn; rintro ev w2 ⟨rfl, hb2⟩)
          | (go_at_call 55; refine (ws _ _ _ _ _ ((unhide HB).later hb2) (by have := unhide HL; have := unhide HTz; omega)).mono ?_; rintro ev w3 ⟨rfl, HB3, hb3⟩)
          | (go_at_call 58; refine (wstr _ _ _ _ HB3).mono ?_; rintro ev w4 ⟨rfl, hb4⟩))
        go_ret2
        have hB2 := hb.trans (hb2.mono hb.size)
        refine ⟨_, _, rfl, hide (.inl ⟨_, rfl, ?_, rfl, unhide HF⟩), hb1.trans (((hB2.trans hb3).trans hb4).mono hb1.size)⟩
        rw [← List.map_take, unhide HE, unhide HT, bt_list, packL]; rfl
  · have HF := hide hF
    clear HO hF
    go_wp2_with fail
    go_ret2
    exact ⟨_, _, rfl, hide (.inr ⟨i, rfl, ⟨q, rfl, e0, e1⟩, unhide HF⟩), hb1⟩
end Go.Proofs.YtjofjcjojgpaeaaGreatDoor
