import Derived.Test.YtjofjcjojgpaeaaGreatDoorJUnpL
import Derived.Test.YtjofjcjojgpaeaaGreatDoorJLst
import Derived.Test.YtjofjcjojgpaeaaGreatDoorJPatY
import Derived.Test.YtjofjcjojgpaeaaGreatDoorJRefH
import Derived.Laws.BitsLemmas
import Derived.Lib.ConvBytes
import Derived.Laws.Closers25b
namespace Go.Proofs.YtjofjcjojgpaeaaGreatDoor
open Go.RowKit Go.Maps

theorem bits_xor_u8 (a b : Nat) (ha : a < 256) (hb : b < 256) : bits .xor .u8 (a : Int) (b : Int) = ((a ^^^ b : Nat) : Int) := by
  have hx : a ^^^ b < 2 ^ 8 := Nat.xor_lt_two_pow (by omega) (by omega)
  have h1 : (BitVec.ofInt 8 (a : Int)).toNat = a := by
    rw [BitVec.ofInt_natCast, BitVec.toNat_ofNat]; exact Nat.mod_eq_of_lt (by omega)
  have h2 : (BitVec.ofInt 8 (b : Int)).toNat = b := by
    rw [BitVec.ofInt_natCast, BitVec.toNat_ofNat]; exact Nat.mod_eq_of_lt (by omega)
  show IntKind.u8.wrap ((BitVec.ofInt 8 (a : Int) ^^^ BitVec.ofInt 8 (b : Int)).toNat : Int) = _
  rw [BitVec.toNat_xor, h1, h2, IntKind.wrap_u8]
  omega
theorem xor_same {a b : Nat} (h : a ^^^ b = a) : b = 0 := by
  have h2 : a ^^^ (a ^^^ b) = b := by rw [← Nat.xor_assoc, Nat.xor_self, Nat.zero_xor]
  rw [h, Nat.xor_self] at h2
  exact h2.symm
/-- A byte, turned. -/
theorem turned (a : UInt8) (b : Int) (h0 : 0 ≤ b) (h1 : b ≤ 255) : ∃ x : UInt8, bits .xor .u8 (a.toNat : Int) b = (x.toNat : Int) ∧ (x = a ↔ b = 0) := by
  obtain ⟨n, rfl⟩ := Int.eq_ofNat_of_zero_le h0
  have ha := a.toNat_lt
  have hn : n < 256 := by omega
  have hx : a.toNat ^^^ n < 2 ^ 8 := Nat.xor_lt_two_pow (by omega) (by omega)
  refine ⟨UInt8.ofNat (a.toNat ^^^ n), ?_, ?_⟩
  · rw [bits_xor_u8 _ _ (by omega) hn, UInt8.toNat_ofNat']; omega
  · constructor
    · intro e
      have := congrArg UInt8.toNat e
      rw [UInt8.toNat_ofNat', Nat.mod_eq_of_lt (by omega)] at this
      rw [xor_same this]; rfl
    · intro e
      have : n = 0 := by omega
      subst this
      rw [Nat.xor_zero]
      apply UInt8.toNat_inj.1
      rw [UInt8.toNat_ofNat']; omega
theorem pickR_any (c : Int) (n : Nat) (w : World) (hn : 0 < n) (hn2 : n ≤ 1073741824) :
    Calls Tryz.prog 17 #[.int .i64 c, .int .i64 n] w fun ev w' => ∃ k : Nat, ev = .returned (.int .i64 k) ∧ k < n ∧ w' = w := by
  obtain ⟨r, hr⟩ : ∃ r, r = c.tmod (n : Int) := ⟨_, rfl⟩
  have h1 : r < (n : Int) := by rw [hr]; exact Int.tmod_lt_of_pos _ (by omega)
  have h2 : -(n : Int) < r := by rw [hr]; exact Int.lt_tmod_of_pos _ (by omega)
  have n0 : ¬ (n : Int) = 0 := by omega
  have n1 : ((n : Int) == 0) = false := by simpa using n0
  have hr2 : c.tmod (n : Int) = r := hr.symm
  clear hr
  by_cases h0 : r < 0
  · obtain ⟨k, hk⟩ := Int.eq_ofNat_of_zero_le (by omega : 0 ≤ r + n)
    go_enter Tryz.func17, Tryz.ntmps17
    go_wp2
    go_ret
    exact ⟨k, by first | rfl | (congr 2), by omega, rfl⟩
  · obtain ⟨k, hk⟩ := Int.eq_ofNat_of_zero_le (by omega : 0 ≤ r)
    go_enter Tryz.func17, Tryz.ntmps17
    go_wp2
    go_ret
    exact ⟨k, by first | rfl | (congr 2), by omega, rfl⟩
theorem pickK_any (c : Int) (n : Nat) (w : World) (hn : 0 < n) (hn2 : n ≤ 1073741824) :
    Calls Tryz.prog 14 #[.int .i64 c, .int .i64 n] w fun ev w' => ∃ k : Nat, ev = .returned (.int .i64 k) ∧ k < n ∧ w' = w := by
  have h := pickR_any c n w hn hn2
  go_enter Tryz.func14, Tryz.ntmps14
  go_wp2_with (go_at_call 17; refine h.mono ?_; clear h; rintro ev w1 ⟨k, rfl, hk, hw⟩; obtain rfl := hw.symm)
  go_ret
  exact ⟨k, rfl, hk, rfl⟩
theorem bad_le {s : List UInt8} {i : Nat} (h : UnpBad s i) : i ≤ s.length := by
  obtain ⟨cs, r, _, e, hi, _⟩ := h
  rw [e, List.length_append]; omega
theorem unp_pack {s : List UInt8} {cs : List Ent} (h : UnpOk s cs) : packL cs = s := h.2.symm
theorem pack_unp {cs : List Ent} (h : Chain cs) : UnpOk (packL cs) cs := ⟨h, rfl⟩
theorem set_same {l : List UInt8} {k : Nat} (hk : k < l.length) : l.set k (l.getD k 0) = l := by
  rw [List.getD_eq_getElem?_getD, List.getElem?_eq_getElem hk]
  simp
theorem set_other {l : List UInt8} {k : Nat} {x : UInt8} (hk : k < l.length) (h : x ≠ l.getD k 0) : l.set k x ≠ l := fun e => by
  have := congrArg (fun l => l.getD k 0) e
  simp only [List.getD_eq_getElem?_getD] at this
  rw [List.getElem?_set_self hk] at this
  exact h (by rw [List.getD_eq_getElem?_getD]; simpa using this)
theorem pack_len {cs : List Ent} (h : Chain cs) : 1024 ≤ (packL cs).length ∧ (packL cs).length ≤ 481024 := by
  have h1 := packs_len (fun c hc => pkg_of (chain_ch h hc)) cs.length
  rw [List.take_length] at h1
  have h2 := chain_len h
  rw [packL, List.length_append, List.length_replicate]
  omega
end Go.Proofs.YtjofjcjojgpaeaaGreatDoor

namespace Go.Proofs.YtjofjcjojgpaeaaGreatDoor
open Go.RowKit Go.Maps

theorem below_bytes2 (w : World) (t : ByteArray) : Below w.heap.size w (Lib.bytesWorld w 5 t) :=
  ⟨rfl, rfl, rfl, by rw [Lib.bytesWorld_size]; omega, fun k hk => Lib.bytesWorld_at_old w 5 t k hk⟩
theorem row_frozen (w : World) (t : ByteArray) (k : Nat) (hk : k < t.size) : (Lib.bytesWorld w 5 t).frozen? ⟨w.heap.size, k, none⟩ = false := by
  have hz : t.size ≤ (Lib.bytesCells w 5 t).size := by
    simp only [Lib.bytesCells, Array.size_append, Array.size_map, Array.size_replicate]
    exact Nat.le_add_right _ _
  simp only [World.frozen?, Lib.bytesWorld_at_new]
  simp; omega
theorem row_set (w : World) (t : ByteArray) (k : Nat) (x : UInt8) (hk : k < t.size) (cap : Nat) : ∀ W : World, W.heap = ((Lib.bytesWorld w 5 t).setCell ⟨w.heap.size, k, none⟩ (.int .u8 (x.toNat : Int))).heap → (convert 41 9 (.slice (some ⟨w.heap.size, 0, none⟩) t.size cap)).run Tryz.prog W = .ok (.string (bt (t.data.toList.set k x))) W := fun W hW => by
  have hl : (t.data.toList.set k x).length = t.size := by rw [List.length_set, ← Lib.size_eq]
  have := run_convert_bytes_back (P := Tryz.prog) W 41 9 5 ⟨w.heap.size, 0, none⟩ cap (t.data.toList.set k x) Tryz.underlying41 Tryz.underlying5 Tryz.underlying9 (fun j hj => by
    rw [Addr.add_lit, Nat.zero_add]
    have hj2 : j < t.size := by rw [← hl]; exact hj
    have e : W.cell? ⟨w.heap.size, j, none⟩ = ((Lib.bytesWorld w 5 t).setCell ⟨w.heap.size, k, none⟩ (.int .u8 (x.toNat : Int))).cell? ⟨w.heap.size, j, none⟩ := by
      unfold World.cell?; rw [hW]
    rw [e]
    by_cases hjk : j = k
    · subst hjk
      rw [World.cell?_setCell_same _ _ _ (by rw [Lib.bytesWorld_cell w 5 t j hj2])]
      simp
    · rw [World.cell?_setCell_other _ _ _ _ (by intro e; injection e with _ e2; exact hjk e2.symm), Lib.bytesWorld_cell w 5 t j hj2]
      rw [List.getElem_set_ne (Ne.symm hjk), List.getD_eq_getElem?_getD, List.getElem?_eq_getElem (by rw [← Lib.size_eq]; exact hj2)]
      rfl)
  rw [hl] at this
  exact this
theorem treeS_nil : TreeS [] := ⟨List.Pairwise.nil, fun e he => by simp at he, fun e he => by simp at he⟩
theorem LaidU.laid {w : World} (h : LaidU w) : Laid w := ⟨h.err, h.rd.pk.max⟩
theorem LaidU.laidK {w : World} (h : LaidU w) : LaidK w := ⟨h.err, h.rd.pk⟩
set_option maxHeartbeats 4000000 in
set_option maxRecDepth 100000 in
theorem lawT_any (ao : Option Addr) (ca na : Nat) (xs : List Tg) (c byv : Int) (s : ByteArray) (w : World) (ha : TgRow w ao xs) (HNa : Hid (na = xs.length)) (hna : na ≤ 140737488351232) (hl : LaidU w) (hs : s.size ≤ 140737488351232) (hb0 : 0 ≤ byv) (hb1 : byv ≤ 255) :
    Calls Tryz.prog 5 #[.slice ao na ca, .int .i64 c, .int .u8 byv, .string s] w fun ev w' => ev = .returned (.bool true) ∧ Below w.heap.size w w' := by
  have HL := hide hl
  have hRa := rawTree_any ao ca na xs w ha HNa hna
  clear ha hl
  go_enter Tryz.func5, Tryz.ntmps5
  go_upto_region 2 with (first
    | (go_at_call 6; refine hRa.mono ?_; clear hRa; rintro ev w1 ⟨eo, ec1, en, xa, rfl, HEN, hea, hec, HTa, hw1⟩; have HEA := hide hea; have hen : en ≤ 17 := (by rw [unhide HEN]; exact (unhide HTa).len))
    | (go_at_call 7; refine (pdiff_any none eo 0 ec1 0 en [] xa w1 (erow_nil _ _) (unhide HEA) (hide rfl) HEN (by omega) (by omega) (hide nil_small) (hide (unhide HTa).sizes) ((unhide HL).below hw1).laid).mono ?_; rintro ev w2 ⟨dv, de, dn, rfl, HD, hw2⟩))
  have hB2 : Below w.heap.size w w2 := hw1.trans (hw2.mono hw1.size)
  have hLa : xa.length ≤ 17 := (unhide HTa).len
  have HFa : Hid (FirstBad xa (-1)) := hide (firstBad_of (unhide HTa).tree (by omega))
  obtain ⟨rfl, rfl, B2, hO2⟩ : de = 0 ∧ dn = -1 ∧ ∃ B, OwnC w2 B dv (diffF [] xa) := by
    rcases unhide HD with ⟨i, h, _⟩ | ⟨_, _, h1, h2, h3⟩
    · rcases h with h | ⟨_, h⟩
      · have := firstBad_one h nil_bad; omega
      · have := firstBad_one h (unhide HFa); omega
    · exact ⟨h1, h2, h3⟩
  obtain ⟨D, hD⟩ : ∃ D, D = diffF [] xa := ⟨_, rfl⟩
  rw [← hD] at hO2
  have hch : Chain D := by rw [hD]; exact chain_bad.2 (diff_fine treeS_nil (unhide HTa).tree (by simp; omega))
  obtain ⟨go, gc, gn, rfl, HGN, hgr, hgc⟩ := ownC_row hO2
  have hgn : gn ≤ 80 := by rw [unhide HGN]; exact chain_len hch
  have HCh := hide hch
  have HPk := hide (pPack_any go gc gn D w2 hgr HGN (by omega) hgc (hide (chain_small hch)) ((unhide HL).below hB2).laidK (hide (fun hF => by rw [unhide HGN]; exact all_pkg hF)))
  have HL2 := hide ((unhide HL).below hB2)
  clear HD hO2 hgr hD hch HFa HTa HEN hea HEA hw1 hw2
  go_upto_region 3 with (go_at_call 10; refine (unhide HPk).mono ?_; rintro ev w3 ⟨t, e3, k3, rfl, HPP, hw3⟩)
  obtain ⟨hT, rfl, rfl⟩ : t = bt (packL D) ∧ e3 = 0 ∧ k3 = -1 := by
    rcases unhide HPP with ⟨h, h0, h1, _⟩ | ⟨i, _, _, _, h⟩
    · exact ⟨h, h0, h1⟩
    · have := firstBadC_one h (chain_bad.1 (unhide HCh)); omega
  have htz : 1024 ≤ t.size ∧ t.size ≤ 481024 := by rw [hT, bt_size]; exact pack_len (unhide HCh)
  have hB3 := hB2.trans (hw3.mono hB2.size)
  have HL3 := hide ((unhide HL2).below hw3)
  have HT := hide hT
  have HTl : Hid (t.data.toList = packL D) := hide (by rw [hT, bt_list])
  clear HPP HPk hT hw3 HL2 hB2
  have t0 : 0 < t.size := by omega
  have t1 : ¬ (t.size : Int) = 0 := by omega
  have t2 : ((t.size : Int) == 0) = false := by simpa using t1
  have hcv := Lib.run_convert_string_bytes (P := Tryz.prog) w3 9 41 5 t Tryz.underlying9 Tryz.underlying41 Tryz.underlying5
  obtain ⟨W5, hW5⟩ : ∃ W5, W5 = Lib.bytesWorld w3 5 t := ⟨_, rfl⟩
  obtain ⟨bc, hbc⟩ : ∃ bc, bc = grownCap w3 t.size 0 5 := ⟨_, rfl⟩
  rw [← hW5, ← hbc] at hcv
  have HW5 := hide hW5
  clear hW5 hbc
  go_upto_region 6 with fail
  go_upto_region 7 with (go_at_call 14; refine (pickK_any c t.size W5 t0 (by omega)).mono ?_; rintro ev w6 ⟨k, rfl, hk, hw6⟩; obtain rfl := hw6.symm)
  obtain ⟨bk, hbk⟩ : ∃ bk : UInt8, bk = t.data.toList.getD k 0 := ⟨_, rfl⟩
  have hcell : W5.cell? ⟨w3.heap.size, k, none⟩ = some (.int .u8 (bk.toNat : Int)) := by rw [unhide HW5, hbk]; exact Lib.bytesWorld_cell w3 5 t k hk
  have hfrz : W5.frozen? ⟨w3.heap.size, k, none⟩ = false := by rw [unhide HW5]; exact row_frozen w3 t k hk
  have k0 : (0 : Int) ≤ (k : Int) := by omega
  have k1 : (k : Int) < (t.size : Int) := by omega
  have k2 : (k : Int) ≤ (t.size : Int) := by omega
  obtain ⟨x, hx, hxe⟩ := turned bk byv hb0 hb1
  have hxx := bits_lo_u8 .xor (bk.toNat : Int) byv
  have HXe := hide hxe
  have HBk := hide hbk
  clear hbk hxe
  go_upto_region 8 with fail
  obtain ⟨W6, hW6⟩ : ∃ W6, W6 = W5.setCell ⟨w3.heap.size, k, none⟩ (.int .u8 (x.toNat : Int)) := ⟨_, rfl⟩
  rw [← hW6]
  obtain ⟨S6, hS6⟩ : ∃ S6, S6 = bt (t.data.toList.set k x) := ⟨_, rfl⟩
  have hbk : ∀ W : World, W.heap = W6.heap → (convert 41 9 (.slice (some ⟨w3.heap.size, 0, none⟩) t.size bc)).run Tryz.prog W = .ok (.string S6) W := fun W hW => by
    rw [hS6]; exact row_set w3 t k x hk bc W (by rw [hW, hW6, unhide HW5])
  have hB45 : Below w3.heap.size w3 W6 := by rw [hW6, unhide HW5]; exact (below_bytes2 w3 t).setCell (p := ⟨w3.heap.size, k, none⟩) (Nat.le_refl _) _
  have hB6 := hB3.trans (hB45.mono hB3.size)
  have HL6 := hide ((unhide HL3).below hB45)
  have hS6z : S6.size = t.size := by rw [hS6, bt_size, List.length_set, ← Lib.size_eq]
  have HS6 := hide hS6
  obtain ⟨S7, hS7⟩ : ∃ S7, S7 = t.extract 0 k := ⟨_, rfl⟩
  have hS7z : S7.size ≤ 481024 := by rw [hS7, ByteArray.size_extract]; omega
  obtain ⟨S8, hS8⟩ : ∃ S8, S8 = t ++ s := ⟨_, rfl⟩
  have hS8z : S8.size ≤ 140737488832256 := by rw [hS8, ByteArray.size_append]; omega
  have nsum : ¬ 9223372036854775807 < t.size + s.size := by omega
  have hb6 := hbk W6.drew rfl
  have hb6' := hbk W6 rfl
  clear hx hxx hcell hfrz hcv hW6 hB45 hS6 HW5 HL3 hbk
  have HS7 := hide hS7
  have HS8 := hide hS8
  clear hS7 hS8
  go_region
  rw [← unhide HS7, ← unhide HS8]
  obtain ⟨W8, hW8⟩ : ∃ W8, W8 = (W6.alloc (.cells #[.string s, .string S6, .string S7, .string S8] 9)).drew := ⟨_, rfl⟩
  obtain ⟨R, hR⟩ : ∃ R, R = W6.heap.size := ⟨_, rfl⟩
  rw [← hW8, ← hR]
  have hrow8 : W8.heap[R]? = some (.cells #[.string s, .string S6, .string S7, .string S8] 9 (0, 0)) := by rw [hW8, hR]; exact heap_alloc_new _ _
  have d0 : W8.cell? ⟨R, 0, none⟩ = some (.string s) := cell_of_row _ _ 0 _ _ _ hrow8
  have d1 : W8.cell? ⟨R, 1, none⟩ = some (.string S6) := cell_of_row _ _ 1 _ _ _ hrow8
  have d2 : W8.cell? ⟨R, 2, none⟩ = some (.string S7) := cell_of_row _ _ 2 _ _ _ hrow8
  have d3 : W8.cell? ⟨R, 3, none⟩ = some (.string S8) := cell_of_row _ _ 3 _ _ _ hrow8
  have hB68 : Below W6.heap.size W6 W8 := by
    have h1 : Below W6.heap.size W6 (W6.alloc (.cells #[.string s, .string S6, .string S7, .string S8] 9)) := (Below.refl _ _).alloc (Nat.le_refl _) _
    rw [hW8]; exact ⟨h1.os, h1.tape, h1.output, h1.size, h1.block⟩
  have hB8 : Below w.heap.size w W8 := hB6.trans (hB68.mono hB6.size)
  have HL8 := hide ((unhide HL6).below hB68)
  have HD0 := hide d0
  have HD1 := hide d1
  have HD2 := hide d2
  have HD3 := hide d3
  have HUD : Hid (UnpOk t.data.toList D) := hide (by rw [unhide HTl]; exact pack_unp (unhide HCh))
  have HE0 : Hid (byv = 0 → S6 = t) := hide (fun h => by
    have hx := (unhide HXe).2 h
    rw [unhide HS6, hx, unhide HBk, set_same (by rw [← Lib.size_eq]; exact hk), bt_of])
  have HE1 : Hid (byv ≠ 0 → S6 ≠ t) := hide (fun h e => by
    have hx : x ≠ t.data.toList.getD k 0 := fun e2 => h ((unhide HXe).1 (e2.trans (unhide HBk).symm))
    have := set_other (by rw [← Lib.size_eq]; exact hk) hx
    apply this
    have e3 : S6.data.toList = t.data.toList := by rw [e]
    rw [unhide HS6, bt_list] at e3
    exact e3)
  clear hW8 hR hrow8 hB68 d0 d1 d2 d3 hb6 hb6' HL6 hB6 HXe HBk HT HTl HGN hgc hgn HS6 HS7 HS8 HCh
  go_wp2_with fail
  go_loopw [18] (fun j wr => ∃ q : Nat, q ≤ 4 ∧ j = .int .i64 q ∧ Below W8.heap.size W8 wr) (fun j _ => 4 - (intOf j).toNat)
  case atStart => exact ⟨0, by omega, rfl, Below.refl _ _⟩
  case round =>
    obtain ⟨q, hq, rfl, hbr⟩ := hrel
    have hBr : Below w.heap.size w wr := hB8.trans (hbr.mono hB8.size)
    have HLr := hide ((unhide HL8).below hbr)
    have hcs : q = 0 ∨ q = 1 ∨ q = 2 ∨ q = 3 ∨ q = 4 := by omega
    rcases hcs with rfl | rfl | rfl | rfl | rfl
    · have dj := cell_later hbr (unhide HD0)
      go_upto_region 13 with (go_at_call 11; refine (pUnpack_any s wr (unhide HLr) (by omega)).mono ?_; rintro ev w9 ⟨v9, e9, n9, rfl, HP9, hb9⟩; have dj := cell_later hb9 dj)
      rcases unhide HP9 with ⟨cs, hO, rfl, rfl, hU⟩ | ⟨i9, rfl, rfl, rfl, hU⟩
      · have HU := hide hU
        obtain ⟨bo, bcap, bn, rfl, HN9, hrow9, hcap9⟩ := ownC_row hO
        have hbn : bn ≤ 80 := by rw [unhide HN9]; exact chain_len hU.1
        have HPk9 := hide (pPack_any bo bcap bn cs w9 hrow9 HN9 (by omega) hcap9 (hide (chain_small hU.1)) ((unhide HLr).below hb9).laidK (hide (fun hF => by rw [unhide HN9]; exact all_pkg hF)))
        clear HP9 hU hO hrow9
        go_wp2_with (go_at_call 10; refine (unhide HPk9).mono ?_; rintro ev w10 ⟨t9, e10, k10, rfl, HPP9, hb10⟩; have dj := cell_later hb10 dj; obtain ⟨ht9, he10⟩ : t9 = s ∧ e10 = 0 := (by rcases unhide HPP9 with ⟨h, h0, _, _⟩ | ⟨i, _, _, _, h⟩; exact ⟨by rw [h, unp_pack (unhide HU), bt_of], h0⟩; have := firstBadC_one h (chain_bad.1 (unhide HU).1); omega); subst ht9 he10; clear HPP9)
        have hB10 : Below W8.heap.size W8 w10 := hbr.trans ((hb9.trans (hb10.mono hb9.size)).mono hbr.size)
        go_roundw
        case rel =>
          first
            | exact ⟨1, by omega, by go_num, hB10⟩
            | ((repeat apply Exists.intro); exact ⟨⟨1, by omega, by go_num, hB10⟩, rfl⟩)
        case measure => simp [intOf]
      · have hle : i9 ≤ s.size := by rw [Lib.size_eq]; exact bad_le hU
        have i0 : ¬ (i9 : Int) < 0 := by omega
        have i1 : ¬ (s.size : Int) < (i9 : Int) := by omega
        clear HP9 hU
        go_wp2_with fail
        have hB10 : Below W8.heap.size W8 w9 := hbr.trans (hb9.mono hbr.size)
        go_roundw
        case rel =>
          first
            | exact ⟨1, by omega, by go_num, hB10⟩
            | ((repeat apply Exists.intro); exact ⟨⟨1, by omega, by go_num, hB10⟩, rfl⟩)
        case measure => simp [intOf]
    · by_cases hby : byv = 0
      · obtain rfl : S6 = t := unhide HE0 hby
        subst hby
        have dj := cell_later hbr (unhide HD1)
        go_upto_region 13 with (go_at_call 11; refine (pUnpack_any S6 wr (unhide HLr) (by omega)).mono ?_; rintro ev w9 ⟨v9, e9, n9, rfl, HP9, hb9⟩; have dj := cell_later hb9 dj)
        rcases unhide HP9 with ⟨cs, hO, rfl, rfl, hU⟩ | ⟨i9, rfl, rfl, rfl, hU⟩
        · have HU := hide hU
          obtain ⟨bo, bcap, bn, rfl, HN9, hrow9, hcap9⟩ := ownC_row hO
          have hbn : bn ≤ 80 := by rw [unhide HN9]; exact chain_len hU.1
          have HPk9 := hide (pPack_any bo bcap bn cs w9 hrow9 HN9 (by omega) hcap9 (hide (chain_small hU.1)) ((unhide HLr).below hb9).laidK (hide (fun hF => by rw [unhide HN9]; exact all_pkg hF)))
          clear HP9 hU hO hrow9
          go_wp2_with (go_at_call 10; refine (unhide HPk9).mono ?_; rintro ev w10 ⟨t9, e10, k10, rfl, HPP9, hb10⟩; have dj := cell_later hb10 dj; obtain ⟨ht9, he10⟩ : t9 = S6 ∧ e10 = 0 := (by rcases unhide HPP9 with ⟨h, h0, _, _⟩ | ⟨i, _, _, _, h⟩; exact ⟨by rw [h, unp_pack (unhide HU), bt_of], h0⟩; have := firstBadC_one h (chain_bad.1 (unhide HU).1); omega); subst ht9 he10; clear HPP9)
          have hB10 : Below W8.heap.size W8 w10 := hbr.trans ((hb9.trans (hb10.mono hb9.size)).mono hbr.size)
          go_roundw
          case rel =>
            first
              | exact ⟨2, by omega, by go_num, hB10⟩
              | ((repeat apply Exists.intro); exact ⟨⟨2, by omega, by go_num, hB10⟩, rfl⟩)
          case measure => simp [intOf]
        · exact (unp_no (unhide HUD) hU).elim
      · have hby2 : (byv == 0) = false := by simpa using hby
        have hne := unhide HE1 hby
        have hne2 : (S6.toList == t.toList) = false := by
          rw [Lib.toList_data, Lib.toList_data]
          simp only [beq_eq_false_iff_ne, ne_eq]
          exact fun e => hne (by rw [← bt_of S6, e, bt_of])
        have dj := cell_later hbr (unhide HD1)
        go_upto_region 13 with (go_at_call 11; refine (pUnpack_any S6 wr (unhide HLr) (by omega)).mono ?_; rintro ev w9 ⟨v9, e9, n9, rfl, HP9, hb9⟩; have dj := cell_later hb9 dj)
        rcases unhide HP9 with ⟨cs, hO, rfl, rfl, hU⟩ | ⟨i9, rfl, rfl, rfl, hU⟩
        · have HU := hide hU
          obtain ⟨bo, bcap, bn, rfl, HN9, hrow9, hcap9⟩ := ownC_row hO
          have hbn : bn ≤ 80 := by rw [unhide HN9]; exact chain_len hU.1
          have HPk9 := hide (pPack_any bo bcap bn cs w9 hrow9 HN9 (by omega) hcap9 (hide (chain_small hU.1)) ((unhide HLr).below hb9).laidK (hide (fun hF => by rw [unhide HN9]; exact all_pkg hF)))
          clear HP9 hU hO hrow9
          go_wp2_with (go_at_call 10; refine (unhide HPk9).mono ?_; rintro ev w10 ⟨t9, e10, k10, rfl, HPP9, hb10⟩; have dj := cell_later hb10 dj; obtain ⟨ht9, he10⟩ : t9 = S6 ∧ e10 = 0 := (by rcases unhide HPP9 with ⟨h, h0, _, _⟩ | ⟨i, _, _, _, h⟩; exact ⟨by rw [h, unp_pack (unhide HU), bt_of], h0⟩; have := firstBadC_one h (chain_bad.1 (unhide HU).1); omega); subst ht9 he10; clear HPP9)
          have hB10 : Below W8.heap.size W8 w10 := hbr.trans ((hb9.trans (hb10.mono hb9.size)).mono hbr.size)
          go_roundw
          case rel =>
            first
              | exact ⟨2, by omega, by go_num, hB10⟩
              | ((repeat apply Exists.intro); exact ⟨⟨2, by omega, by go_num, hB10⟩, rfl⟩)
          case measure => simp [intOf]
        · have hle : i9 ≤ S6.size := by rw [Lib.size_eq]; exact bad_le hU
          have i0 : ¬ (i9 : Int) < 0 := by omega
          have i1 : ¬ (S6.size : Int) < (i9 : Int) := by omega
          clear HP9 hU
          go_wp2_with fail
          have hB10 : Below W8.heap.size W8 w9 := hbr.trans (hb9.mono hbr.size)
          go_roundw
          case rel =>
            first
              | exact ⟨2, by omega, by go_num, hB10⟩
              | ((repeat apply Exists.intro); exact ⟨⟨2, by omega, by go_num, hB10⟩, rfl⟩)
          case measure => simp [intOf]
    · have dj := cell_later hbr (unhide HD2)
      go_upto_region 13 with (go_at_call 11; refine (pUnpack_any S7 wr (unhide HLr) (by omega)).mono ?_; rintro ev w9 ⟨v9, e9, n9, rfl, HP9, hb9⟩; have dj := cell_later hb9 dj)
      rcases unhide HP9 with ⟨cs, hO, rfl, rfl, hU⟩ | ⟨i9, rfl, rfl, rfl, hU⟩
      · have HU := hide hU
        obtain ⟨bo, bcap, bn, rfl, HN9, hrow9, hcap9⟩ := ownC_row hO
        have hbn : bn ≤ 80 := by rw [unhide HN9]; exact chain_len hU.1
        have HPk9 := hide (pPack_any bo bcap bn cs w9 hrow9 HN9 (by omega) hcap9 (hide (chain_small hU.1)) ((unhide HLr).below hb9).laidK (hide (fun hF => by rw [unhide HN9]; exact all_pkg hF)))
        clear HP9 hU hO hrow9
        go_wp2_with (go_at_call 10; refine (unhide HPk9).mono ?_; rintro ev w10 ⟨t9, e10, k10, rfl, HPP9, hb10⟩; have dj := cell_later hb10 dj; obtain ⟨ht9, he10⟩ : t9 = S7 ∧ e10 = 0 := (by rcases unhide HPP9 with ⟨h, h0, _, _⟩ | ⟨i, _, _, _, h⟩; exact ⟨by rw [h, unp_pack (unhide HU), bt_of], h0⟩; have := firstBadC_one h (chain_bad.1 (unhide HU).1); omega); subst ht9 he10; clear HPP9)
        have hB10 : Below W8.heap.size W8 w10 := hbr.trans ((hb9.trans (hb10.mono hb9.size)).mono hbr.size)
        go_roundw
        case rel =>
          first
            | exact ⟨3, by omega, by go_num, hB10⟩
            | ((repeat apply Exists.intro); exact ⟨⟨3, by omega, by go_num, hB10⟩, rfl⟩)
        case measure => simp [intOf]
      · have hle : i9 ≤ S7.size := by rw [Lib.size_eq]; exact bad_le hU
        have i0 : ¬ (i9 : Int) < 0 := by omega
        have i1 : ¬ (S7.size : Int) < (i9 : Int) := by omega
        clear HP9 hU
        go_wp2_with fail
        have hB10 : Below W8.heap.size W8 w9 := hbr.trans (hb9.mono hbr.size)
        go_roundw
        case rel =>
          first
            | exact ⟨3, by omega, by go_num, hB10⟩
            | ((repeat apply Exists.intro); exact ⟨⟨3, by omega, by go_num, hB10⟩, rfl⟩)
        case measure => simp [intOf]
    · have dj := cell_later hbr (unhide HD3)
      go_upto_region 13 with (go_at_call 11; refine (pUnpack_any S8 wr (unhide HLr) (by omega)).mono ?_; rintro ev w9 ⟨v9, e9, n9, rfl, HP9, hb9⟩; have dj := cell_later hb9 dj)
      rcases unhide HP9 with ⟨cs, hO, rfl, rfl, hU⟩ | ⟨i9, rfl, rfl, rfl, hU⟩
      · have HU := hide hU
        obtain ⟨bo, bcap, bn, rfl, HN9, hrow9, hcap9⟩ := ownC_row hO
        have hbn : bn ≤ 80 := by rw [unhide HN9]; exact chain_len hU.1
        have HPk9 := hide (pPack_any bo bcap bn cs w9 hrow9 HN9 (by omega) hcap9 (hide (chain_small hU.1)) ((unhide HLr).below hb9).laidK (hide (fun hF => by rw [unhide HN9]; exact all_pkg hF)))
        clear HP9 hU hO hrow9
        go_wp2_with (go_at_call 10; refine (unhide HPk9).mono ?_; rintro ev w10 ⟨t9, e10, k10, rfl, HPP9, hb10⟩; have dj := cell_later hb10 dj; obtain ⟨ht9, he10⟩ : t9 = S8 ∧ e10 = 0 := (by rcases unhide HPP9 with ⟨h, h0, _, _⟩ | ⟨i, _, _, _, h⟩; exact ⟨by rw [h, unp_pack (unhide HU), bt_of], h0⟩; have := firstBadC_one h (chain_bad.1 (unhide HU).1); omega); subst ht9 he10; clear HPP9)
        have hB10 : Below W8.heap.size W8 w10 := hbr.trans ((hb9.trans (hb10.mono hb9.size)).mono hbr.size)
        go_roundw
        case rel =>
          first
            | exact ⟨4, by omega, by go_num, hB10⟩
            | ((repeat apply Exists.intro); exact ⟨⟨4, by omega, by go_num, hB10⟩, rfl⟩)
        case measure => simp [intOf]
      · have hle : i9 ≤ S8.size := by rw [Lib.size_eq]; exact bad_le hU
        have i0 : ¬ (i9 : Int) < 0 := by omega
        have i1 : ¬ (S8.size : Int) < (i9 : Int) := by omega
        clear HP9 hU
        go_wp2_with fail
        have hB10 : Below W8.heap.size W8 w9 := hbr.trans (hb9.mono hbr.size)
        go_roundw
        case rel =>
          first
            | exact ⟨4, by omega, by go_num, hB10⟩
            | ((repeat apply Exists.intro); exact ⟨⟨4, by omega, by go_num, hB10⟩, rfl⟩)
        case measure => simp [intOf]
    · go_wp2_with fail
      go_ret
      exact ⟨rfl, hBr⟩
end Go.Proofs.YtjofjcjojgpaeaaGreatDoor
