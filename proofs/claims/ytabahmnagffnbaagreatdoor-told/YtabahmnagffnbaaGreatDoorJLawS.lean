import Derived.Test.YtabahmnagffnbaaGreatDoorJOfA
import Derived.Test.YtabahmnagffnbaaGreatDoorJAs
import Derived.Test.YtabahmnagffnbaaGreatDoorJInD
import Derived.Test.YtabahmnagffnbaaGreatDoorJTolA
namespace Go.Proofs.YtabahmnagffnbaaGreatDoor
open Go.RowKit Go.Maps

/-- What is laid, and what is told of the world ahead of a call. -/
structure LaidS (w : World) : Prop where
  tabs : Tabs w
  err : w.cell? ⟨0, 0, none⟩ = some (.iface 124 (.agg #[.pointer (some ⟨8, 41, none⟩)]))
  max : ∃ m : Int, w.cell? ⟨2, 0, none⟩ = some (.int .i64 m)
theorem LaidS.below {w w' : World} (h : LaidS w) (hb : Below w.heap.size w w') : LaidS w' := by
  obtain ⟨m, hm⟩ := h.max
  exact ⟨h.tabs.below hb, cell_later hb h.err, m, cell_later hb hm⟩
/-- The answers of 'layers.Sum'. -/
def LSumIs (w : World) (es : List Ent) (v er : Value) : Prop :=
  (∃ s : ByteArray, FirstBad es (-1) ∧ v = .string s ∧ s.data.toList = sumF es (es.length + 1) rootE ∧ er = .nilIface) ∨
  (∃ (i q : Nat), FirstBad es i ∧ v = .string ⟨#[]⟩ ∧ er = .iface 56 (.pointer (some ⟨q, 0, none⟩)) ∧ w.cell? ⟨q, 0, none⟩ = some (.int .i64 2) ∧ w.cell? ⟨q, 1, none⟩ = some (.int .i64 (i : Int)))
theorem lsum_any (ao : Option Addr) (cap n : Nat) (es : List Ent) (w : World) (hr : ERow w ao es) (HN : Hid (n = es.length)) (hn : n ≤ 4294967280) (HS : Hid (Small es)) (hl : LaidS w) :
    Calls Tryz.prog 14 #[.slice ao n cap] w fun ev w' => ∃ v er, ev = .returned (.tuple #[v, er]) ∧ Hid (LSumIs w' es v er) ∧ Below w.heap.size w w' := by
  obtain ⟨m, hm⟩ := hl.max
  have HL := hide hl
  clear hl
  go_enter Tryz.func14, Tryz.ntmps14
  go_upto_region 2 with (go_at_call 20; refine (of_tree ao cap n es m w hr HN hn HS hm).mono ?_; rintro ev w1 ⟨v, er, rfl, HO, hb1⟩)
  rcases unhide HO with ⟨r, ns, rfl, rfl, hE, hM, hF⟩ | ⟨i, q, rfl, rfl, c0, c1, hF⟩
  · have HE := hide hE
    have HM := hide hM
    have HF := hide hF
    clear HO hE hM hF hm hr
    go_wp2_with (go_at_call 21; refine (nsum_any es _ r ns HE (hide (tree_of (unhide HF) (unhide HS))) (es.length + 1) r (by simp) (hide (by rw [(unhide HM).root]; exact deep_root es)) _ (unhide HM) ((unhide HL).below hb1).tabs).mono ?_; rintro ev w2 ⟨s, rfl, HSu, hb2⟩)
    go_ret2
    exact ⟨_, _, rfl, hide (.inl ⟨s, unhide HF, rfl, by rw [unhide HSu, (unhide HM).root], rfl⟩), hb1.trans (hb2.mono hb1.size)⟩
  · have HF := hide hF
    clear HO hF hm hr
    go_wp2_with fail
    go_ret2
    exact ⟨_, _, rfl, hide (.inr ⟨i, q, unhide HF, rfl, rfl, c0, c1⟩), hb1⟩
/-- The answers of 'plain.Sum'. -/
def PSumIs (es : List Ent) (s : ByteArray) (e n : Int) : Prop :=
  (FirstBad es (-1) ∧ s.data.toList = sumF es (es.length + 1) rootE ∧ e = 0 ∧ n = -1) ∨
  (∃ i : Nat, FirstBad es i ∧ s = ⟨#[]⟩ ∧ e = 2 ∧ n = i)
theorem psum_any (ao : Option Addr) (cap n : Nat) (es : List Ent) (w : World) (hr : ERow w ao es) (HN : Hid (n = es.length)) (hn : n ≤ 4294967280) (HS : Hid (Small es)) (hl : LaidS w) :
    Calls Tryz.prog 7 #[.slice ao n cap] w fun ev w' => ∃ s e k, ev = .returned (.tuple #[.string s, .int .i64 e, .int .i64 k]) ∧ Hid (PSumIs es s e k) ∧ Below w.heap.size w w' := by
  have HL := hide hl
  clear hl
  go_enter Tryz.func7, Tryz.ntmps7
  go_upto_region 2 with (go_at_call 14; refine (lsum_any ao cap n es w hr HN hn HS (unhide HL)).mono ?_; rintro ev w1 ⟨v, er, rfl, HO, hb1⟩)
  have HL1 := hide ((unhide HL).below hb1)
  rcases unhide HO with ⟨s, hF, rfl, hs, rfl⟩ | ⟨i, q, hF, rfl, rfl, c0, c1⟩
  · have HF := hide hF
    have HS2 := hide hs
    clear HO hF hs hr
    go_wp2_with (go_at_call 15; refine (tell_nil _).mono ?_; rintro ev w2 ⟨rfl, hb2⟩)
    go_ret3
    exact ⟨_, _, _, rfl, hide (.inl ⟨unhide HF, unhide HS2, rfl, rfl⟩), hb1.trans (hb2.mono hb1.size)⟩
  · have HF := hide hF
    clear HO hF hr
    go_wp2_with (go_at_call 15; refine (tell_at q 2 i _ (unhide HL1).err c0 c1).mono ?_; rintro ev w2 ⟨rfl, hb2⟩)
    go_ret3
    exact ⟨_, _, _, rfl, hide (.inr ⟨i, unhide HF, rfl, rfl, rfl⟩), hb1.trans (hb2.mono hb1.size)⟩
theorem bytes_ext {a b : ByteArray} (h : a.data.toList = b.data.toList) : a = b := by
  cases a; cases b
  simpa using h
theorem bad_nil {r : Int} (h : FirstBad [] r) : r = -1 := by
  rcases h with ⟨h, _⟩ | ⟨i, _, hi, _⟩
  · exact h
  · simp at hi
end Go.Proofs.YtabahmnagffnbaaGreatDoor

namespace Go.Proofs.YtabahmnagffnbaaGreatDoor
open Go.RowKit

abbrev t10 : ByteArray := ⟨#[10]⟩
theorem TSt.mono {w : World} {B lb n z m y : Nat} (h : TSt w B lb n z) (hn : n ≤ m) (hz : z ≤ y) : TSt w B lb m y := by
  obtain ⟨sb, mb, v, L, A, hX, ho, hg, hsz, hA, hB⟩ := h
  exact ⟨sb, mb, v, L, A, hX, ho, hg.mono hn, by omega, by omega, hB⟩
theorem tput2 (B lb n z y : Nat) (d : ByteArray) (w0 w : World) (h : TSt w B lb n z) (hV : Vars w0) (hb : Below B w0 w) (hB : 2 ≤ B) (hn : n ≤ 1000) (hy : y ≤ 1000000) (hz : z + d.size ≤ y) :
    Calls Tryz.prog 8 #[.pointer (some ⟨lb, 0, none⟩), .string d] w fun ev w' => ∃ x : ByteArray, ev = .returned (.tuple #[.string x, .int .i64 0]) ∧ Hid (x = dig d) ∧ x.size = 64 ∧ TSt w' B lb (n + 4) y ∧ Below B w0 w' := by
  refine (tput B lb n z d w h (hV.far hb hB) hB hn (by omega) (by omega)).mono ?_
  rintro ev w' ⟨rfl, hT, hb'⟩
  exact ⟨dig d, rfl, hide rfl, dig_size d, hT.mono (Nat.le_refl _) hz, hb.trans hb'⟩
theorem tol_eq {d m : Nat} {data tx s o1 c1 o2 : ByteArray} (hs : s.data.toList = sumF (tolE d m data (⟨#[116]⟩ ++ tx)) 4 rootE) (h1 : o1.data.toList = octL m) (h2 : c1.data.toList = decL data.size) (h3 : o2.data.toList = octL d) :
    s = dig (⟨#[100, 105, 114, 32, 55, 53, 53, 10, 100, 32]⟩ ++ dig (⟨#[100, 105, 114, 32]⟩ ++ o2 ++ ⟨#[10, 102, 32]⟩ ++ dig (⟨#[102, 105, 108, 101, 32]⟩ ++ o1 ++ ⟨#[32]⟩ ++ c1 ++ ⟨#[10]⟩ ++ data) ++ ⟨#[10, 108, 32]⟩ ++ dig (⟨#[108, 105, 110, 107, 32]⟩ ++ (⟨#[116]⟩ ++ tx)) ++ ⟨#[10]⟩) ++ ⟨#[10]⟩) := by
  refine bytes_ext ?_
  rw [hs, tol_sum]
  simp only [dig, data_append, h1, h2, h3, List.toList_toArray, Int.toNat_natCast]
theorem tol_row (w : World) (d m : Nat) (data tx : ByteArray) : ERow (w.alloc (.cells #[.string ⟨#[100]⟩, .int .i64 1, .int .i64 (d : Int), .string ⟨#[]⟩, .string ⟨#[100, 47, 102]⟩, .int .i64 2, .int .i64 (m : Int), .string data, .string ⟨#[100, 47, 108]⟩, .int .i64 3, .int .i64 0, .string tx] 27)) (some ⟨w.heap.size, 0, none⟩) (tolE d m data tx) := by
  have h : ∀ o : Obj, (w.alloc o).heap[w.heap.size]? = some o := fun o => by show (w.heap.push o)[w.heap.size]? = _; exact Array.getElem?_push_size
  have hb := h (.cells #[.string ⟨#[100]⟩, .int .i64 1, .int .i64 (d : Int), .string ⟨#[]⟩, .string ⟨#[100, 47, 102]⟩, .int .i64 2, .int .i64 (m : Int), .string data, .string ⟨#[100, 47, 108]⟩, .int .i64 3, .int .i64 0, .string tx] 27)
  intro k e hk
  match k, hk with
  | 0, hk => cases hk; exact ⟨_, _, rfl, cell_of_row _ _ 0 _ _ _ hb, cell_of_row _ _ 1 _ _ _ hb, cell_of_row _ _ 2 _ _ _ hb, cell_of_row _ _ 3 _ _ _ hb⟩
  | 1, hk => cases hk; exact ⟨_, _, rfl, cell_of_row _ _ 4 _ _ _ hb, cell_of_row _ _ 5 _ _ _ hb, cell_of_row _ _ 6 _ _ _ hb, cell_of_row _ _ 7 _ _ _ hb⟩
  | 2, hk => cases hk; exact ⟨_, _, rfl, cell_of_row _ _ 8 _ _ _ hb, cell_of_row _ _ 9 _ _ _ hb, cell_of_row _ _ 10 _ _ _ hb, cell_of_row _ _ 11 _ _ _ hb⟩
  | k + 3, hk => simp [tolE] at hk
theorem tol_small {d m : Int} {data tx : ByteArray} (h1 : data.size ≤ 4096) (h2 : tx.size ≤ 1001) : Small (tolE d m data tx) := by
  intro e he
  simp only [tolE, List.mem_cons, List.not_mem_nil, or_false] at he
  rcases he with rfl | rfl | rfl
  · exact ⟨by show (1 : Nat) ≤ 1048576; decide, by show (0 : Nat) ≤ 1048576; decide⟩
  · exact ⟨by show (3 : Nat) ≤ 1048576; decide, by show data.size ≤ _; omega⟩
  · exact ⟨by show (3 : Nat) ≤ 1048576; decide, by show tx.size ≤ _; omega⟩
theorem psum_tol (d m t : Nat) (data tx : ByteArray) (w : World) (hd : (d : Int) < 512) (hm : (m : Int) < 512) (ht : (t : Int) < 1000) (hs : data.size ≤ 4096) (hx : tx.size ≤ t + 1) (HX : Hid (tx.data.toList = decL t)) (hl : LaidS w) :
    Calls Tryz.prog 7 #[.slice (some ⟨w.heap.size, 0, none⟩) 3 3] (w.alloc (.cells #[.string ⟨#[100]⟩, .int .i64 1, .int .i64 (d : Int), .string ⟨#[]⟩, .string ⟨#[100, 47, 102]⟩, .int .i64 2, .int .i64 (m : Int), .string data, .string ⟨#[100, 47, 108]⟩, .int .i64 3, .int .i64 0, .string (⟨#[116]⟩ ++ tx)] 27)) fun ev w' => ∃ s : ByteArray, ev = .returned (.tuple #[.string s, .int .i64 0, .int .i64 (-1)]) ∧ Hid (s.data.toList = sumF (tolE d m data (⟨#[116]⟩ ++ tx)) 4 rootE) ∧ Below w.heap.size w w' := by
  have hz : (⟨#[116]⟩ ++ tx : ByteArray).size ≤ 1001 := by
    rw [ByteArray.size_append]
    show 1 + tx.size ≤ 1001
    omega
  have hb : Below w.heap.size w (w.alloc (.cells #[.string ⟨#[100]⟩, .int .i64 1, .int .i64 (d : Int), .string ⟨#[]⟩, .string ⟨#[100, 47, 102]⟩, .int .i64 2, .int .i64 (m : Int), .string data, .string ⟨#[100, 47, 108]⟩, .int .i64 3, .int .i64 0, .string (⟨#[116]⟩ ++ tx)] 27)) := (Below.refl _ _).alloc (Nat.le_refl _) _
  refine (psum_any _ 3 3 (tolE d m data (⟨#[116]⟩ ++ tx)) _ (tol_row w d m data _) (hide rfl) (by decide) (hide (tol_small hs hz)) (hl.below hb)).mono ?_
  rintro ev w' ⟨s, e, k, rfl, HP, hb'⟩
  have hok : FirstBad (tolE d m data (⟨#[116]⟩ ++ tx)) (-1) := tol_ok (by simp [modeOk]; omega) (by simp [modeOk]; omega) hs (by
    rw [data_append, unhide HX]
    exact dec_tgt t (by omega))
  rcases unhide HP with ⟨_, h1, rfl, rfl⟩ | ⟨i, hF, _⟩
  · exact ⟨s, rfl, hide h1, hb.trans (hb'.mono hb.size)⟩
  · have := firstBad_one hok hF
    omega
set_option maxHeartbeats 1000000 in
set_option maxRecDepth 100000 in
theorem told_small (dir mode target : Int) (data : ByteArray) (w : World) (hs : data.size ≤ 4096) (hl : LaidS w) :
    Calls Tryz.prog 3 #[.int .i64 dir, .int .i64 mode, .string data, .int .i64 target] w fun ev w' => ev = .returned (.bool true) ∧ Below w.heap.size w w' := by
  have hV : Vars w := ⟨hl.tabs.ks, hl.err⟩
  have HV := hide hV
  have HL := hide hl
  have h2 : 2 ≤ w.heap.size := World.block_lt_of_cell? _ _ (hV.ks 0 (by decide))
  have hBg := begun_any w hV
  have hsz : data.size ≤ 4096 := hs
  have hsi : ¬ (4096 : Int) < (data.size : Int) := by omega
  clear hl hV
  go_enter Tryz.func3, Tryz.ntmps3
  go_upto_region 6 with (go_at_call 4; refine hBg.mono ?_; clear hBg; rintro ev w1 ⟨lb, rfl, HT1, hb1⟩)
  go_upto_region 9 with (first
    | (go_at_call_of 5 (Value.int .i64 dir); refine (kpick_any dir 512 _ (by decide) (by decide)).mono ?_; rintro ev wd ⟨d, rfl, hd, hwd⟩; obtain rfl := hwd.symm)
    | (go_at_call_of 5 (Value.int .i64 mode); refine (kpick_any mode 512 _ (by decide) (by decide)).mono ?_; rintro ev wm ⟨m, rfl, hm, hwm⟩; obtain rfl := hwm.symm)
    | (go_at_call_of 5 (Value.int .i64 target); refine (kpick_any target 1000 _ (by decide) (by decide)).mono ?_; rintro ev wt ⟨t, rfl, ht, hwt⟩; obtain rfl := hwt.symm)
    | (go_at_call 6; refine (decimal_any t (by omega) _).mono ?_; rintro ev wx ⟨tx, rfl, HX, hxs, hwx⟩; obtain rfl := hwx.symm))
  have hSum := psum_tol d m t data tx w1 hd hm ht hsz hxs HX ((unhide HL).below hb1)
  go_upto_region 11 with (go_at_call 7; refine hSum.mono ?_; clear hSum; rintro ev w2 ⟨s, rfl, HS, hb2⟩)
  have hB2 : Below w.heap.size w w2 := hb1.trans (hb2.mono hb1.size)
  have HT2 := hide (HT1.below hb2)
  clear HT1
  go_upto_region 12 with (first
    | (go_at_call 9; refine (octal_any m (by omega) _).mono ?_; rintro ev wo ⟨o1, rfl, HO1, ho1, hwo⟩; obtain rfl := hwo.symm)
    | (go_at_call 6; refine (decimal_any data.size (by omega) _).mono ?_; rintro ev wc ⟨c1, rfl, HC1, hc1, hwc⟩; obtain rfl := hwc.symm)
    | (go_at_call 8; refine (tput2 w.heap.size lb 8 8 10000 _ w _ (unhide HT2) (unhide HV) hB2 h2 (by decide) (by decide) (by simp only [ByteArray.size_append]; show 8 + (5 + o1.size + 1 + c1.size + 1 + data.size) ≤ 10000; omega)).mono ?_; rintro ev w3 ⟨x1, rfl, HX1, hx1, hT3, hB3⟩))
  have HT3 := hide hT3
  clear HT2 hT3
  go_upto_region 13 with (go_at_call 8; refine (tput2 w.heap.size lb 12 10000 20000 _ w _ (unhide HT3) (unhide HV) hB3 h2 (by decide) (by decide) (by simp only [ByteArray.size_append]; show 10000 + (5 + (1 + tx.size)) ≤ 20000; omega)).mono ?_; rintro ev w4 ⟨x2, rfl, HX2, hx2, hT4, hB4⟩)
  have HT4 := hide hT4
  clear HT3 hT4
  go_upto_region 14 with (first
    | (go_at_call 9; refine (octal_any d (by omega) _).mono ?_; rintro ev wo ⟨o2, rfl, HO2, ho2, hwo⟩; obtain rfl := hwo.symm)
    | (go_at_call 8; refine (tput2 w.heap.size lb 16 20000 30000 _ w _ (unhide HT4) (unhide HV) hB4 h2 (by decide) (by decide) (by simp only [ByteArray.size_append]; show 20000 + (4 + o2.size + 3 + x1.size + 3 + x2.size + 1) ≤ 30000; omega)).mono ?_; rintro ev w5 ⟨x3, rfl, HX3, hx3, hT5, hB5⟩))
  have HT5 := hide hT5
  clear HT4 hT5
  have hEq0 := tol_eq (unhide HS) (unhide HO1) (unhide HC1) (unhide HO2)
  clear HS
  go_wp2_with (go_at_call 8; refine (tput2 w.heap.size lb 20 30000 40000 _ w _ (unhide HT5) (unhide HV) hB5 h2 (by decide) (by decide) (by simp only [ByteArray.size_append]; show 30000 + (10 + x3.size + 1) ≤ 40000; omega)).mono ?_; rintro ev w6 ⟨x4, rfl, HX4, hx4, hT6, hB6⟩; have hEq : s = x4 := hEq0.trans (by rw [unhide HX4, unhide HX3, unhide HX2, unhide HX1]); clear HX4 HX3 HX2 HX1; subst hEq)
  go_ret
  exact ⟨rfl, hB6⟩
set_option maxHeartbeats 1000000 in
set_option maxRecDepth 100000 in
theorem told_big (dir mode target : Int) (data : ByteArray) (w : World) (hs : 4096 < data.size) (hl : LaidS w) :
    Calls Tryz.prog 3 #[.int .i64 dir, .int .i64 mode, .string data, .int .i64 target] w fun ev w' => ev = .returned (.bool true) ∧ Below w.heap.size w w' := by
  have hV : Vars w := ⟨hl.tabs.ks, hl.err⟩
  have HV := hide hV
  have HL := hide hl
  have h2 : 2 ≤ w.heap.size := World.block_lt_of_cell? _ _ (hV.ks 0 (by decide))
  have hBg := begun_any w hV
  have hsi : (4096 : Int) < (data.size : Int) := by omega
  have hsz : (data.extract 0 4096).size ≤ 4096 := by rw [ByteArray.size_extract]; omega
  clear hl hV
  go_enter Tryz.func3, Tryz.ntmps3
  go_upto_region 6 with (go_at_call 4; refine hBg.mono ?_; clear hBg; rintro ev w1 ⟨lb, rfl, HT1, hb1⟩)
  generalize data.extract 0 4096 = D at hsz ⊢
  go_upto_region 9 with (first
    | (go_at_call_of 5 (Value.int .i64 dir); refine (kpick_any dir 512 _ (by decide) (by decide)).mono ?_; rintro ev wd ⟨d, rfl, hd, hwd⟩; obtain rfl := hwd.symm)
    | (go_at_call_of 5 (Value.int .i64 mode); refine (kpick_any mode 512 _ (by decide) (by decide)).mono ?_; rintro ev wm ⟨m, rfl, hm, hwm⟩; obtain rfl := hwm.symm)
    | (go_at_call_of 5 (Value.int .i64 target); refine (kpick_any target 1000 _ (by decide) (by decide)).mono ?_; rintro ev wt ⟨t, rfl, ht, hwt⟩; obtain rfl := hwt.symm)
    | (go_at_call 6; refine (decimal_any t (by omega) _).mono ?_; rintro ev wx ⟨tx, rfl, HX, hxs, hwx⟩; obtain rfl := hwx.symm))
  have hSum := psum_tol d m t D tx w1 hd hm ht hsz hxs HX ((unhide HL).below hb1)
  go_upto_region 11 with (go_at_call 7; refine hSum.mono ?_; clear hSum; rintro ev w2 ⟨s, rfl, HS, hb2⟩)
  have hB2 : Below w.heap.size w w2 := hb1.trans (hb2.mono hb1.size)
  have HT2 := hide (HT1.below hb2)
  clear HT1
  go_upto_region 12 with (first
    | (go_at_call 9; refine (octal_any m (by omega) _).mono ?_; rintro ev wo ⟨o1, rfl, HO1, ho1, hwo⟩; obtain rfl := hwo.symm)
    | (go_at_call 6; refine (decimal_any D.size (by omega) _).mono ?_; rintro ev wc ⟨c1, rfl, HC1, hc1, hwc⟩; obtain rfl := hwc.symm)
    | (go_at_call 8; refine (tput2 w.heap.size lb 8 8 10000 _ w _ (unhide HT2) (unhide HV) hB2 h2 (by decide) (by decide) (by simp only [ByteArray.size_append]; show 8 + (5 + o1.size + 1 + c1.size + 1 + D.size) ≤ 10000; omega)).mono ?_; rintro ev w3 ⟨x1, rfl, HX1, hx1, hT3, hB3⟩))
  have HT3 := hide hT3
  clear HT2 hT3
  go_upto_region 13 with (go_at_call 8; refine (tput2 w.heap.size lb 12 10000 20000 _ w _ (unhide HT3) (unhide HV) hB3 h2 (by decide) (by decide) (by simp only [ByteArray.size_append]; show 10000 + (5 + (1 + tx.size)) ≤ 20000; omega)).mono ?_; rintro ev w4 ⟨x2, rfl, HX2, hx2, hT4, hB4⟩)
  have HT4 := hide hT4
  clear HT3 hT4
  go_upto_region 14 with (first
    | (go_at_call 9; refine (octal_any d (by omega) _).mono ?_; rintro ev wo ⟨o2, rfl, HO2, ho2, hwo⟩; obtain rfl := hwo.symm)
    | (go_at_call 8; refine (tput2 w.heap.size lb 16 20000 30000 _ w _ (unhide HT4) (unhide HV) hB4 h2 (by decide) (by decide) (by simp only [ByteArray.size_append]; show 20000 + (4 + o2.size + 3 + x1.size + 3 + x2.size + 1) ≤ 30000; omega)).mono ?_; rintro ev w5 ⟨x3, rfl, HX3, hx3, hT5, hB5⟩))
  have HT5 := hide hT5
  clear HT4 hT5
  have hEq0 := tol_eq (unhide HS) (unhide HO1) (unhide HC1) (unhide HO2)
  clear HS
  go_wp2_with (go_at_call 8; refine (tput2 w.heap.size lb 20 30000 40000 _ w _ (unhide HT5) (unhide HV) hB5 h2 (by decide) (by decide) (by simp only [ByteArray.size_append]; show 30000 + (10 + x3.size + 1) ≤ 40000; omega)).mono ?_; rintro ev w6 ⟨x4, rfl, HX4, hx4, hT6, hB6⟩; have hEq : s = x4 := hEq0.trans (by rw [unhide HX4, unhide HX3, unhide HX2, unhide HX1]); clear HX4 HX3 HX2 HX1; subst hEq)
  go_ret
  exact ⟨rfl, hB6⟩
theorem lawT_any (dir mode target : Int) (data : ByteArray) (w : World) (hl : LaidS w) :
    Calls Tryz.prog 3 #[.int .i64 dir, .int .i64 mode, .string data, .int .i64 target] w fun ev w' => ev = .returned (.bool true) ∧ Below w.heap.size w w' := by
  by_cases hs : data.size ≤ 4096
  · exact told_small dir mode target data w hs hl
  · exact told_big dir mode target data w (by omega) hl
end Go.Proofs.YtabahmnagffnbaaGreatDoor
