import Derived.Test.YtkeefkfklmhcjaaGreatDoorJOctC
import Derived.Test.YtkeefkfklmhcjaaGreatDoorTreeP
import Derived.Test.YtkeefkfklmhcjaaGreatDoorRefD
import Derived.Test.YtkeefkfklmhcjaaGreatDoorInB
import Derived.Deep.RegionHeld3
namespace Go.Proofs.YtkeefkfklmhcjaaGreatDoor
open Go.RowKit

theorem dig10 (r : Nat) (h : r < 10) : ((⟨#[48, 49, 50, 51, 52, 53, 54, 55, 56, 57]⟩ : ByteArray).extract r (r + 1)).data.toList = [UInt8.ofNat (48 + r)] := by
  rw [Lib.extract_data]
  match r, h with
  | 0, _ => rfl
  | 1, _ => rfl
  | 2, _ => rfl
  | 3, _ => rfl
  | 4, _ => rfl
  | 5, _ => rfl
  | 6, _ => rfl
  | 7, _ => rfl
  | 8, _ => rfl
  | 9, _ => rfl

theorem decL_len (n : Nat) : (decL n).length ≤ n + 1 := by
  induction n using Nat.strongRecOn with
  | ind n ih =>
    rw [decL]
    split
    · simp
    · rename_i h
      have := ih (n / 10) (by omega)
      simp only [List.length_append, List.length_cons, List.length_nil]
      omega
set_option maxHeartbeats 400000 in
theorem decimal_any : ∀ (n : Nat), n ≤ 1073741824 → ∀ w : World, Calls Tryz.prog 49 #[.int .i64 (n : Int)] w fun ev w' => ∃ s : ByteArray, ev = .returned (.string s) ∧ Hid (s.data.toList = decL n) ∧ s.size ≤ n + 1 ∧ w' = w := by
  intro n
  induction n using Nat.strongRecOn with
  | ind n ih =>
    intro hn w
    obtain ⟨r, er⟩ : ∃ r, r = n % 10 := ⟨_, rfl⟩
    have r8 : r < 10 := by omega
    have f1 : (n : Int) % 10 = (r : Int) := by omega
    have f2 : (n : Int).tmod 10 = (r : Int) := by rw [Int.tmod_eq_emod_of_nonneg (by omega)]; exact f1
    have r0 : (0 : Int) ≤ (r : Int) := by omega
    have r1 : (r : Int) + 1 ≤ 10 := by omega
    have HD := hide (dig10 r r8)
    by_cases hs : n < 10
    · have HE : Hid (decL n = [UInt8.ofNat (48 + r)]) := hide (by rw [decL, if_pos hs, er, Nat.mod_eq_of_lt hs])
      have hs2 : (n : Int) < 10 := by omega
      clear er ih
      go_enter Tryz.func49, Tryz.ntmps49
      go_wp2
      go_ret
      exact ⟨_, rfl, hide (by rw [unhide HD, unhide HE]), by rw [Lib.size_eq, unhide HD]; simp, rfl⟩
    · obtain ⟨q, eq⟩ : ∃ q, q = n / 10 := ⟨_, rfl⟩
      have HE : Hid (decL n = decL q ++ [UInt8.ofNat (48 + r)]) := hide (by rw [decL, if_neg hs, er, eq])
      have hq := ih q (by omega) (by omega)
      have g1 : (n : Int) / 10 = (q : Int) := by omega
      have g2 : (n : Int).tdiv 10 = (q : Int) := by rw [Int.tdiv_eq_ediv_of_nonneg (by omega)]; exact g1
      have hs2 : ¬ (n : Int) < 10 := by omega
      have hqn : q + 1 ≤ n := by omega
      have hz : ((⟨#[48, 49, 50, 51, 52, 53, 54, 55, 56, 57]⟩ : ByteArray).extract r (r + 1)).size = 1 := by rw [Lib.size_eq, unhide HD]; rfl
      clear er eq ih
      go_enter Tryz.func49, Tryz.ntmps49
      go_wp2_with (go_at_call 49; refine (hq _).mono ?_; rintro ev w' ⟨s, rfl, HS, hsz, hw⟩; obtain rfl := hw.symm)
      go_ret
      exact ⟨_, rfl, hide (by rw [data_append, unhide HS, unhide HD, unhide HE]), by rw [Lib.size_eq, data_append, List.length_append, ← Lib.size_eq, unhide HD]; simp; omega, rfl⟩

set_option maxHeartbeats 400000 in
theorem root_any (w : World) : Calls Tryz.prog 26 #[] w fun ev w' => ev = .returned (.agg #[.string rootE.path, .int .i64 rootE.kind, .int .i64 rootE.mode, .string rootE.data]) ∧ Below w.heap.size w w' := by
  go_enter Tryz.func26, Tryz.ntmps26
  go_wp2
  refine bodyPost_ret (v := .agg #[.string rootE.path, .int .i64 rootE.kind, .int .i64 rootE.mode, .string rootE.data]) (by simp [results, Tryz.results26, go_sem, rootE]) rfl ⟨rfl, ?_⟩
  exact (Below.refl _ _).alloc (Nat.le_refl _) _
end Go.Proofs.YtkeefkfklmhcjaaGreatDoor

namespace Go.Proofs
open Go.RowKit
theorem Tryz.Builder_WriteString_k (B b : Nat) (bs : List Value) (s : ByteArray) (w : World) (h : Lib.IsBuilderF 132 5 B b bs w) (hlen : bs.length + s.size ≤ 140737488355328) (hBw : B ≤ w.heap.size) :
    Calls Tryz.prog 91 #[.pointer (some ⟨b, 0, none⟩), .string s] w fun e w' => e = .returned (.tuple #[.int .i64 s.size, .nilIface]) ∧ (Lib.BuilderAtF 132 5 B b (.pointer (some ⟨b, 0, none⟩)) (bs ++ Lib.strCells s) w' ∧ Below B w w' ∧ Lib.OthersKept 5 (some b) w w') := Any.Builder_WriteString_k { Tryz.lays105 with } Tryz.Builder_Extra_105 B b bs s w h hlen hBw
theorem Tryz.Builder_String_k (B b : Nat) (l : List UInt8) (w : World) (h : Lib.IsBuilderF 132 5 B b (Lib.byteCells l) w) (hBw : B ≤ w.heap.size) :
    Calls Tryz.prog 94 #[.pointer (some ⟨b, 0, none⟩)] w fun e w' => e = .returned (.string ⟨l.toArray⟩) ∧ (Lib.IsBuilderF 132 5 B b (Lib.byteCells l) w' ∧ Below B w w' ∧ Lib.OthersKept 5 (some b) w w') := Any.Builder_String_any_k Tryz.lays169 Tryz.Builder_Extra_169 B b l w h hBw
end Go.Proofs
namespace Go.Proofs.YtkeefkfklmhcjaaGreatDoor
open Go.RowKit Go.Maps
/-- A Builder of the call's own that holds this text. -/
def BldF (B b : Nat) (l : List UInt8) (w : World) : Prop := Lib.IsBuilderF 132 5 B b (Lib.byteCells l) w ∧ B ≤ w.heap.size
theorem bldF_new (w : World) : BldF w.heap.size w.heap.size [] (w.alloc (.cells #[.pointer none, .slice none 0 0] 132)) :=
  ⟨Lib.IsBuilderF.of (bld_new w).1, by simp⟩
theorem builderF_row {T e : TypeId} {B b : Nat} {p : Value} {bs : List Value} {w w' : World} {row : Option Nat} (h : Lib.BuilderAtF T e B b p bs w) (hg : w.grownBy w' row) (hr : ∀ r, row = some r → ∃ o : Obj, w.heap[r]? = some o ∧ o.isCells = false) : Lib.BuilderAtF T e B b p bs w' := by
  obtain ⟨h1, v, h2, h3, h4⟩ := h
  have hb : row ≠ some b := fun e => by
    obtain ⟨o, ho, hc⟩ := hr b e
    rw [h2] at ho; cases ho; cases hc
  refine ⟨h1, v, (hg.block b (Array.getElem?_eq_some_iff.1 h2).1 (fun e => hb e.symm)).trans h2, h3.kept hg ?_, h4⟩
  by_cases hv : v.ownBlock = none
  · exact .inl hv
  · refine .inr (fun e => ?_)
    obtain ⟨_, ⟨hx, _⟩ | ⟨g, cap, cur, fz, hx, _, hgh, _⟩⟩ := h3
    · rw [hx] at hv; exact hv rfl
    · rw [hx] at e
      obtain ⟨o, ho, hc⟩ := hr g e.symm
      rw [hgh] at ho; cases ho; cases hc
theorem BldF.row {B b : Nat} {l : List UInt8} {w w' : World} {row : Option Nat} (h : BldF B b l w) (hg : w.grownBy w' row) (hr : ∀ r, row = some r → ∃ o : Obj, w.heap[r]? = some o ∧ o.isCells = false) : BldF B b l w' := by
  refine ⟨?_, Nat.le_trans h.2 hg.size⟩
  rcases h.1 with h1 | h1
  · exact .inl (builderF_row h1 hg hr)
  · exact .inr (builderF_row h1 hg hr)
theorem BldF.later {B b : Nat} {l : List UInt8} {w w' : World} (h : BldF B b l w) (hb : Below w.heap.size w w') : BldF B b l w' := h.row (grown_of_below hb) (fun r e => by cases e)
theorem BldF.cells {B b : Nat} {l : List UInt8} {w : World} (h : BldF B b l w) : ∃ p v, w.heap[b]? = some (.cells #[p, v] 132 (0, 0)) := by
  rcases h.1 with ⟨_, v, h1, _⟩ | ⟨_, v, h1, _⟩
  · exact ⟨_, _, h1⟩
  · exact ⟨_, _, h1⟩
theorem wsF (B b : Nat) (l : List UInt8) (s : ByteArray) (w : World) (h : BldF B b l w) (hl : l.length + s.size ≤ 4294967296) :
    Calls Tryz.prog 91 #[.pointer (some ⟨b, 0, none⟩), .string s] w fun e w' => e = .returned (.tuple #[.int .i64 s.size, .nilIface]) ∧ BldF B b (l ++ s.data.toList) w' ∧ Below B w w' ∧ Lib.OthersKept 5 (some b) w w' := by
  refine (Tryz.Builder_WriteString_k B b _ _ w h.1 (by rw [byteCells_len]; omega) h.2).mono ?_
  rintro e w' ⟨rfl, hb, hbl, hk⟩
  refine ⟨rfl, ⟨.inr ?_, Nat.le_trans h.2 hbl.size⟩, hbl, hk⟩
  simpa [Lib.byteCells, Lib.strCells] using hb
theorem stF (B b : Nat) (l : List UInt8) (w : World) (h : BldF B b l w) :
    Calls Tryz.prog 94 #[.pointer (some ⟨b, 0, none⟩)] w fun e w' => e = .returned (.string ⟨l.toArray⟩) ∧ Below B w w' ∧ Lib.OthersKept 5 (some b) w w' := by
  refine (Tryz.Builder_String_k B b l w h.1 h.2).mono ?_
  rintro e w' ⟨rfl, _, hb⟩
  exact ⟨rfl, hb⟩
theorem oct_size {m : Nat} {s : ByteArray} (h : Hid (s.data.toList = octL m)) (hm : m < 512) : s.size ≤ 600 := by
  have h1 : s.size = (octL m).length := by rw [← unhide h]; exact Array.length_toList.symm
  have := octL_len m
  omega
theorem dec_size {n : Nat} {s : ByteArray} (h : Hid (s.data.toList = decL n)) (hn : n ≤ 1048576) : s.size ≤ 1048577 := by
  have h1 : s.size = (decL n).length := by rw [← unhide h]; exact Array.length_toList.symm
  have := decL_len n
  omega
set_option maxHeartbeats 1000000 in
set_option maxRecDepth 100000 in
theorem file_any (nb m : Nat) (pth data : ByteArray) (mp : Value) (w : World) (hc : w.heap[nb]? = some (.cells #[.string pth, .int .i64 2, .int .i64 (m : Int), .string data, mp] 102 (0, 0))) (hm : m < 512) (hd : data.size ≤ 1048576) (ht : Tabs w) :
    Calls Tryz.prog 71 #[.pointer (some ⟨nb, 0, none⟩)] w fun ev w' => ∃ s : ByteArray, ev = .returned (.string s) ∧ Hid (s.data.toList = [102, 105, 108, 101, 32] ++ octL m ++ [32] ++ decL data.size ++ [10] ++ data.data.toList) ∧ Below w.heap.size w w' := by
  have c1 : w.cell? ⟨nb, 1, none⟩ = some (.int .i64 2) := cell_of_row _ _ 1 _ _ _ hc
  have c2 : w.cell? ⟨nb, 2, none⟩ = some (.int .i64 (m : Int)) := cell_of_row _ _ 2 _ _ _ hc
  have c3 : w.cell? ⟨nb, 3, none⟩ = some (.string data) := cell_of_row _ _ 3 _ _ _ hc
  have HT := hide ht
  clear hc ht
  go_enter Tryz.func71, Tryz.ntmps71
  go_upto_region 3 with fail
  go_region_held3 (fun w' => w'.cell? ⟨nb, 2, none⟩ = some (.int .i64 (m : Int)) ∧ w'.cell? ⟨nb, 3, none⟩ = some (.string data))
    (first | exact ⟨q2, q3⟩ | exact ⟨p2, p3⟩ | exact ⟨c2, c3⟩ | go_keep)
    (first | (go_at_call 111; refine (oct_any m _ (by omega) (by exact (unhide HT).bru)).mono ?_; rintro ev w1 ⟨s1, rfl, HS1, hb1⟩; have p2 := cell_later (chain0 hb1) c2; have p3 := cell_later (chain0 hb1) c3; have HT1 := hide ((unhide HT).below (chain0 hb1)); have z1 : s1.size ≤ 600 := oct_size HS1 hm; have n1 : ¬ 9223372036854775807 < 5 + s1.size := (by omega); have n2 : ¬ 9223372036854775807 < 5 + s1.size + 1 := (by omega)) | (go_at_call 112; refine (itoa_any data.size _ (by omega) (by exact (unhide HT1).pow)).mono ?_; rintro ev w2 ⟨s2, rfl, HS2, hb2'⟩; have hb2 : Below w1.heap.size w1 w2 := (by first | exact hb2' | exact chain0 hb2'); have q2 := cell_later hb2 p2; have q3 := cell_later hb2 p3; have z2 : s2.size ≤ 1048577 := dec_size HS2 hd; have n3 : ¬ 9223372036854775807 < 5 + s1.size + 1 + s2.size := (by omega); have n4 : ¬ 9223372036854775807 < 5 + s1.size + 1 + s2.size + 1 := (by omega); have n5 : ¬ 9223372036854775807 < 5 + s1.size + 1 + s2.size + 1 + data.size := (by omega)))
  go_wp2_with fail
  go_ret
  refine ⟨_, rfl, hide ?_, (chain0 hb1).trans (hb2.mono (chain0 hb1).size)⟩
  simp [unhide HS1, unhide HS2]
end Go.Proofs.YtkeefkfklmhcjaaGreatDoor
