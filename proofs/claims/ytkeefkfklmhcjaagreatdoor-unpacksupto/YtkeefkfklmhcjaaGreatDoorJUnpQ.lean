import Derived.Test.YtkeefkfklmhcjaaGreatDoorUnpP
import Derived.Test.YtkeefkfklmhcjaaGreatDoorUnpL
import Derived.Test.YtkeefkfklmhcjaaGreatDoorRefE
namespace Go.Proofs.YtkeefkfklmhcjaaGreatDoor
open Go.RowKit

set_option maxHeartbeats 1000000 in
theorem unpacks_any (s : ByteArray) (w : World) (hl : LaidU w) (hs : s.size ≤ 1073741824) :
    Calls Tryz.prog 21 #[.string s] w fun ev w' => ev = .returned (.bool true) ∧ Below w.heap.size w w' := by
  have HL := hide hl
  clear hl
  go_enter Tryz.func21, Tryz.ntmps21
  go_upto_region 3 with (first
    | (go_at_call 43; refine (pUnpack_any s w (unhide HL) hs).mono ?_; rintro ev w1 ⟨v1, e1, k1, rfl, HP1, hb1⟩)
    | (go_at_call 44; refine (rUnpack_any s w1 hs).mono ?_; rintro ev w2 ⟨v2, k2, rfl, HP2, hb2⟩))
  have hB2 := hb1.trans (hb2.mono hb1.size)
  rcases unhide HP1 with ⟨cs, hO, rfl, rfl, hU⟩ | ⟨i, rfl, rfl, rfl, hU⟩
  · rcases unhide HP2 with ⟨ds, hO2, rfl, hU2⟩ | ⟨j, rfl, rfl, hU2⟩
    · obtain rfl := unp_ok hU hU2
      obtain ⟨ao, ca, n, rfl, HN, hrow, hcap⟩ := ownC_row (hO.later hb2)
      obtain ⟨bo, cb, n2, rfl, HN2, hrow2, hcap2⟩ := ownC_row hO2
      obtain rfl : n = n2 := (unhide HN).trans (unhide HN2).symm
      have hn : n ≤ 80 := by rw [unhide HN]; exact chain_len hU.1
      have HR1 := hide hrow
      have HR2 := hide hrow2
      clear HP1 HP2 hU hU2 hO hO2 hrow hrow2 hb1 hb2 HL
      go_wp2_with (go_at_call 13; refine (sameC_any ao bo ca cb n cs w2 (unhide HR1) (unhide HR2) HN (by omega)).mono ?_; rintro ev w3 ⟨rfl, hb3⟩)
      go_ret
      exact ⟨rfl, hB2.trans (hb3.mono hB2.size)⟩
    · exact (unp_no hU hU2).elim
  · rcases unhide HP2 with ⟨ds, hO2, rfl, hU2⟩ | ⟨j, rfl, rfl, hU2⟩
    · exact (unp_no hU2 hU).elim
    · obtain rfl := unp_bad hU hU2
      have i0 : (0 : Int) ≤ (i : Int) := by omega
      clear HP1 HP2 hU hU2 hb1 hb2 HL
      go_wp2_with fail
      go_ret
      exact ⟨rfl, hB2⟩
end Go.Proofs.YtkeefkfklmhcjaaGreatDoor

namespace Go.Proofs.YtkeefkfklmhcjaaGreatDoor
open Go.RowKit

theorem pick_any (c : Int) (n : Nat) (w : World) (hn : 0 < n) (hn2 : n ≤ 1073741824) :
    Calls Tryz.prog 22 #[.int .i64 c, .int .i64 n] w fun ev w' => ∃ k : Nat, ev = .returned (.int .i64 k) ∧ k < n ∧ w' = w := by
  obtain ⟨r, hr⟩ : ∃ r, r = c.tmod (n : Int) := ⟨_, rfl⟩
  have h1 : r < (n : Int) := by rw [hr]; exact Int.tmod_lt_of_pos _ (by omega)
  have h2 : -(n : Int) < r := by rw [hr]; exact Int.lt_tmod_of_pos _ (by omega)
  have n0 : ¬ (n : Int) = 0 := by omega
  have n1 : ((n : Int) == 0) = false := by simpa using n0
  have hr2 : c.tmod (n : Int) = r := hr.symm
  clear hr
  by_cases h0 : r < 0
  · obtain ⟨k, hk⟩ := Int.eq_ofNat_of_zero_le (by omega : 0 ≤ r + n)
    go_enter Tryz.func22, Tryz.ntmps22
    go_wp2
    go_ret
    exact ⟨k, by first | rfl | (congr 2), by omega, rfl⟩
  · obtain ⟨k, hk⟩ := Int.eq_ofNat_of_zero_le (by omega : 0 ≤ r)
    go_enter Tryz.func22, Tryz.ntmps22
    go_wp2
    go_ret
    exact ⟨k, by first | rfl | (congr 2), by omega, rfl⟩
end Go.Proofs.YtkeefkfklmhcjaaGreatDoor

namespace Go.Proofs.YtkeefkfklmhcjaaGreatDoor
open Go.RowKit

theorem pack_len {cs : List Ent} (h : Chain cs) : 1024 ≤ (packL cs).length ∧ (packL cs).length ≤ 481024 := by
  have h1 := packs_len (fun c hc => pkg_of (chain_ch h hc)) cs.length
  rw [List.take_length] at h1
  have h2 := chain_len h
  rw [packL, List.length_append, List.length_replicate]
  omega
theorem row_frozen (w : World) (t : ByteArray) (k : Nat) (hk : k < t.size) : (Lib.bytesWorld w 5 t).frozen? ⟨w.heap.size, k, none⟩ = false := by
  have hz : t.size ≤ (Lib.bytesCells w 5 t).size := by
    simp only [Lib.bytesCells, Array.size_append, Array.size_map, Array.size_replicate]
    exact Nat.le_add_right _ _
  simp only [World.frozen?, Lib.bytesWorld_at_new]
  simp; omega
theorem xor_byte (a b : Int) : ∃ x : UInt8, bits .xor .u8 a b = (x.toNat : Int) := by
  have h1 := bits_lo_u8 .xor a b
  have h2 := bits_hi_u8 .xor a b
  refine ⟨UInt8.ofNat (bits .xor .u8 a b).toNat, ?_⟩
  rw [UInt8.toNat_ofNat']
  omega
theorem row_set (w : World) (t : ByteArray) (k : Nat) (x : UInt8) (hk : k < t.size) (cap : Nat) : (convert 46 9 (.slice (some ⟨w.heap.size, 0, none⟩) t.size cap)).run Tryz.prog ((Lib.bytesWorld w 5 t).setCell ⟨w.heap.size, k, none⟩ (.int .u8 (x.toNat : Int))) = .ok (.string (bt (t.data.toList.set k x))) ((Lib.bytesWorld w 5 t).setCell ⟨w.heap.size, k, none⟩ (.int .u8 (x.toNat : Int))) := by
  have hl : (t.data.toList.set k x).length = t.size := by rw [List.length_set, ← Lib.size_eq]
  have := run_convert_bytes_back (P := Tryz.prog) ((Lib.bytesWorld w 5 t).setCell ⟨w.heap.size, k, none⟩ (.int .u8 (x.toNat : Int))) 46 9 5 ⟨w.heap.size, 0, none⟩ cap (t.data.toList.set k x) Tryz.underlying46 Tryz.underlying5 Tryz.underlying9 (fun j hj => by
    rw [Addr.add_lit, Nat.zero_add]
    have hj2 : j < t.size := by rw [← hl]; exact hj
    by_cases hjk : j = k
    · subst hjk
      rw [World.cell?_setCell_same _ _ _ (by rw [Lib.bytesWorld_cell w 5 t j hj2])]
      simp
    · rw [World.cell?_setCell_other _ _ _ _ (by intro e; injection e with _ e2; exact hjk e2.symm), Lib.bytesWorld_cell w 5 t j hj2]
      rw [List.getElem_set_ne (Ne.symm hjk), List.getD_eq_getElem?_getD, List.getElem?_eq_getElem (by rw [← Lib.size_eq]; exact hj2)]
      rfl)
  rw [hl] at this
  exact this
set_option maxHeartbeats 2000000 in
set_option maxRecDepth 100000 in
theorem lawN_any (ao : Option Addr) (cap n : Nat) (cs : List Ent) (c byv : Int) (s : ByteArray) (w : World) (hr : ERow w ao cs) (HN : Hid (n = cs.length)) (hn : n ≤ 4294967280) (hcap : n ≤ cap) (HS : Hid (Small cs)) (hl : LaidU w) (hs : s.size ≤ 1048576) (_ : 0 ≤ byv) (_ : byv ≤ 255) :
    Calls Tryz.prog 7 #[.slice ao n cap, .int .i64 c, .int .u8 byv, .string s] w fun ev w' => ev = .returned (.bool true) ∧ Below w.heap.size w w' := by
  have HL := hide hl
  have HR := hide hr
  clear hl hr
  go_enter Tryz.func7, Tryz.ntmps7
  go_upto_region 3 with (first
    | (go_at_call 21; refine (unpacks_any s w (unhide HL) (by omega)).mono ?_; rintro ev w1 ⟨rfl, hw1⟩)
    | (go_at_call 16; refine (barred_any ao cap n cs w1 ((unhide HR).below hw1) HN hn hcap HS).mono ?_; rintro ev w2 ⟨r, rfl, HB, hw2⟩))
  have hB2 := hw1.trans (hw2.mono hw1.size)
  have HL2 := hide ((unhide HL).below hB2)
  have HR2 := hide ((unhide HR).below hB2)
  rcases bad_neg (unhide HB) with ⟨rfl, hch⟩ | ⟨hr0, hch⟩
  · have HCh := hide hch
    have hn80 : n ≤ 80 := by rw [unhide HN]; exact chain_len hch
    have HPk := hide (refPack_any ao cap n cs w2 (unhide HR2) HN hn80 (hide (fun c hc => (pkg_of (chain_ch hch hc)).pkc)))
    clear hch HB hw1 hw2 hn HR2 HR
    have HPl := hide (pack_len (unhide HCh))
    go_upto_region 7 with (first
      | (go_at_call 20; refine (unhide HPk).mono ?_; rintro ev w3 ⟨t, rfl, HT, hw3⟩; have hB3 := hB2.trans (hw3.mono hB2.size); have HL3 := hide ((unhide HL2).below hw3); have htz : 1024 ≤ t.size ∧ t.size ≤ 481024 := (by rw [unhide HT, bt_size]; exact unhide HPl))
      | (go_at_call 21; refine (unpacks_any t w3 (unhide HL3) (by omega)).mono ?_; rintro ev w4 ⟨rfl, hw4⟩; have hB4 := hB3.trans (hw4.mono hB3.size); have HL4 := hide ((unhide HL3).below hw4)))
    have hcv := Lib.run_convert_string_bytes (P := Tryz.prog) w4 9 46 5 t Tryz.underlying9 Tryz.underlying46 Tryz.underlying5
    obtain ⟨W5, hW5⟩ : ∃ W5, W5 = Lib.bytesWorld w4 5 t := ⟨_, rfl⟩
    obtain ⟨bc, hbc⟩ : ∃ bc, bc = grownCap w4 t.size 0 5 := ⟨_, rfl⟩
    rw [← hW5, ← hbc] at hcv
    have HW5 := hide hW5
    clear hW5 hbc
    go_upto_region 8 with fail
    have t0 : 0 < t.size := by omega
    go_upto_region 9 with (go_at_call 22; refine (pick_any c t.size W5 t0 (by omega)).mono ?_; rintro ev w6 ⟨k, rfl, hk, hw6⟩; obtain rfl := hw6.symm)
    obtain ⟨bk, hbk⟩ : ∃ bk : UInt8, bk = t.data.toList.getD k 0 := ⟨_, rfl⟩
    have hcell : W5.cell? ⟨w4.heap.size, k, none⟩ = some (.int .u8 (bk.toNat : Int)) := by rw [unhide HW5, hbk]; exact Lib.bytesWorld_cell w4 5 t k hk
    clear hbk
    have hfrz : W5.frozen? ⟨w4.heap.size, k, none⟩ = false := by rw [unhide HW5]; exact row_frozen w4 t k hk
    have k0 : (0 : Int) ≤ (k : Int) := by omega
    have k1 : (k : Int) < (t.size : Int) := by omega
    have k2 : (k : Int) ≤ (t.size : Int) := by omega
    obtain ⟨x, hx⟩ := xor_byte (bk.toNat : Int) byv
    have hxx := bits_lo_u8 .xor (bk.toNat : Int) byv
    go_upto_region 10 with fail
    obtain ⟨W6, hW6⟩ : ∃ W6, W6 = W5.setCell ⟨w4.heap.size, k, none⟩ (.int .u8 (x.toNat : Int)) := ⟨_, rfl⟩
    rw [← hW6]
    have hback := row_set w4 t k x hk bc
    rw [← unhide HW5, ← hW6] at hback
    have hB45 : Below w4.heap.size w4 W6 := by rw [hW6, unhide HW5]; exact (below_bytes w4 t).setCell (p := ⟨w4.heap.size, k, none⟩) (Nat.le_refl _) _
    have hB6 := hB4.trans (hB45.mono hB4.size)
    have HL6 := hide ((unhide HL4).below hB45)
    obtain ⟨S6, hS6⟩ : ∃ S6, S6 = bt (t.data.toList.set k x) := ⟨_, rfl⟩
    have hS6z : S6.size = t.size := by rw [hS6, bt_size, List.length_set, ← Lib.size_eq]
    rw [← hS6] at hback
    have HZ6 := hide hS6z
    clear hx hxx hcell hfrz hcv hW6 hB45 hS6 hS6z HW5
    obtain ⟨S7, hS7⟩ : ∃ S7, S7 = t.extract 0 k := ⟨_, rfl⟩
    have hS7z : S7.size ≤ 481024 := by rw [hS7, ByteArray.size_extract]; omega
    have HS7 := hide hS7
    clear hS7
    have nsum : ¬ 9223372036854775807 < t.size + s.size := by omega
    go_upto_region 11 with (go_at_call 21; refine (unpacks_any S6 W6 (unhide HL6) (by have := unhide HZ6; omega)).mono ?_; rintro ev w7 ⟨rfl, hw7⟩; have hB7 := hB6.trans (hw7.mono hB6.size); have HL7 := hide ((unhide HL6).below hw7))
    go_upto_region 12 with (go_at_call 21; rw [← unhide HS7]; refine (unpacks_any S7 w7 (unhide HL7) (by omega)).mono ?_; rintro ev w8 ⟨rfl, hw8⟩; have hB8 := hB7.trans (hw8.mono hB7.size); have HL8 := hide ((unhide HL7).below hw8))
    go_wp2_with (go_at_call 21; refine (unpacks_any (t ++ s) w8 (unhide HL8) (by rw [ByteArray.size_append]; omega)).mono ?_; rintro ev w9 ⟨rfl, hw9⟩; have hB9 := hB8.trans (hw9.mono hB8.size))
    go_ret
    exact ⟨rfl, hB9⟩
  · have HCh := hide chain_nil
    have HPk := hide (refPack_any none 0 0 [] w2 (erow_nil _ _) (hide rfl) (by omega) (hide (fun c hc => by simp at hc)))
    clear hch HB hw1 hw2 hn HR2 HR
    have HPl := hide (pack_len (unhide HCh))
    go_upto_region 7 with (first
      | (go_at_call 20; refine (unhide HPk).mono ?_; rintro ev w3 ⟨t, rfl, HT, hw3⟩; have hB3 := hB2.trans (hw3.mono hB2.size); have HL3 := hide ((unhide HL2).below hw3); have htz : 1024 ≤ t.size ∧ t.size ≤ 481024 := (by rw [unhide HT, bt_size]; exact unhide HPl))
      | (go_at_call 21; refine (unpacks_any t w3 (unhide HL3) (by omega)).mono ?_; rintro ev w4 ⟨rfl, hw4⟩; have hB4 := hB3.trans (hw4.mono hB3.size); have HL4 := hide ((unhide HL3).below hw4)))
    have hcv := Lib.run_convert_string_bytes (P := Tryz.prog) w4 9 46 5 t Tryz.underlying9 Tryz.underlying46 Tryz.underlying5
    obtain ⟨W5, hW5⟩ : ∃ W5, W5 = Lib.bytesWorld w4 5 t := ⟨_, rfl⟩
    obtain ⟨bc, hbc⟩ : ∃ bc, bc = grownCap w4 t.size 0 5 := ⟨_, rfl⟩
    rw [← hW5, ← hbc] at hcv
    have HW5 := hide hW5
    clear hW5 hbc
    go_upto_region 8 with fail
    have t0 : 0 < t.size := by omega
    go_upto_region 9 with (go_at_call 22; refine (pick_any c t.size W5 t0 (by omega)).mono ?_; rintro ev w6 ⟨k, rfl, hk, hw6⟩; obtain rfl := hw6.symm)
    obtain ⟨bk, hbk⟩ : ∃ bk : UInt8, bk = t.data.toList.getD k 0 := ⟨_, rfl⟩
    have hcell : W5.cell? ⟨w4.heap.size, k, none⟩ = some (.int .u8 (bk.toNat : Int)) := by rw [unhide HW5, hbk]; exact Lib.bytesWorld_cell w4 5 t k hk
    clear hbk
    have hfrz : W5.frozen? ⟨w4.heap.size, k, none⟩ = false := by rw [unhide HW5]; exact row_frozen w4 t k hk
    have k0 : (0 : Int) ≤ (k : Int) := by omega
    have k1 : (k : Int) < (t.size : Int) := by omega
    have k2 : (k : Int) ≤ (t.size : Int) := by omega
    obtain ⟨x, hx⟩ := xor_byte (bk.toNat : Int) byv
    have hxx := bits_lo_u8 .xor (bk.toNat : Int) byv
    go_upto_region 10 with fail
    obtain ⟨W6, hW6⟩ : ∃ W6, W6 = W5.setCell ⟨w4.heap.size, k, none⟩ (.int .u8 (x.toNat : Int)) := ⟨_, rfl⟩
    rw [← hW6]
    have hback := row_set w4 t k x hk bc
    rw [← unhide HW5, ← hW6] at hback
    have hB45 : Below w4.heap.size w4 W6 := by rw [hW6, unhide HW5]; exact (below_bytes w4 t).setCell (p := ⟨w4.heap.size, k, none⟩) (Nat.le_refl _) _
    have hB6 := hB4.trans (hB45.mono hB4.size)
    have HL6 := hide ((unhide HL4).below hB45)
    obtain ⟨S6, hS6⟩ : ∃ S6, S6 = bt (t.data.toList.set k x) := ⟨_, rfl⟩
    have hS6z : S6.size = t.size := by rw [hS6, bt_size, List.length_set, ← Lib.size_eq]
    rw [← hS6] at hback
    have HZ6 := hide hS6z
    clear hx hxx hcell hfrz hcv hW6 hB45 hS6 hS6z HW5
    obtain ⟨S7, hS7⟩ : ∃ S7, S7 = t.extract 0 k := ⟨_, rfl⟩
    have hS7z : S7.size ≤ 481024 := by rw [hS7, ByteArray.size_extract]; omega
    have HS7 := hide hS7
    clear hS7
    have nsum : ¬ 9223372036854775807 < t.size + s.size := by omega
    go_upto_region 11 with (go_at_call 21; refine (unpacks_any S6 W6 (unhide HL6) (by have := unhide HZ6; omega)).mono ?_; rintro ev w7 ⟨rfl, hw7⟩; have hB7 := hB6.trans (hw7.mono hB6.size); have HL7 := hide ((unhide HL6).below hw7))
    go_upto_region 12 with (go_at_call 21; rw [← unhide HS7]; refine (unpacks_any S7 w7 (unhide HL7) (by omega)).mono ?_; rintro ev w8 ⟨rfl, hw8⟩; have hB8 := hB7.trans (hw8.mono hB7.size); have HL8 := hide ((unhide HL7).below hw8))
    go_wp2_with (go_at_call 21; refine (unpacks_any (t ++ s) w8 (unhide HL8) (by rw [ByteArray.size_append]; omega)).mono ?_; rintro ev w9 ⟨rfl, hw9⟩; have hB9 := hB8.trans (hw9.mono hB8.size))
    go_ret
    exact ⟨rfl, hB9⟩
end Go.Proofs.YtkeefkfklmhcjaaGreatDoor
