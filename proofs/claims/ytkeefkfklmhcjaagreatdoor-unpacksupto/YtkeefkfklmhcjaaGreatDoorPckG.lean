import Derived.Test.YtkeefkfklmhcjaaGreatDoorJPckE
import Derived.Test.YtkeefkfklmhcjaaGreatDoorJOctA
import Derived.Test.YtkeefkfklmhcjaaGreatDoorShelf
namespace Go.Proofs.YtkeefkfklmhcjaaGreatDoor
open Go.RowKit

theorem rep_one (x : UInt8) (c : Nat) : Lib.repeatL [x] c = List.replicate c x := by
  induction c with
  | zero => rfl
  | succ c ih => simp [Lib.repeatL, List.replicate_succ] at ih ⊢; exact ih
theorem repeat_any (x : UInt8) (c : Nat) (w : World) (hc : c ≤ 1048576) :
    Calls Tryz.prog 142 #[.string ⟨#[x]⟩, .int .i64 c] w fun ev w' => ev = .returned (.string (bt (List.replicate c x))) ∧ Below w.heap.size w w' := by
  refine (Tryz.strings_Repeat ⟨#[x]⟩ c w (by omega) (by show 1 * c ≤ _; omega)).mono ?_
  rintro e w' ⟨rfl, hb⟩
  refine ⟨?_, hb⟩
  rw [show (⟨#[x]⟩ : ByteArray).data.toList = [x] from rfl, rep_one]; rfl
set_option maxHeartbeats 1000000 in
set_option maxRecDepth 10000 in
theorem setNumber_any (b o n v : Nat) (A X B : List UInt8) (w : World) (hk : Blk w b (A ++ X ++ B)) (hA : A.length = o) (hX : X.length = n) (h0 : 0 < n) (hv : v < 262144) (hd : (octL v).length + 1 ≤ n) (h20 : w.cell? ⟨20, 7, none⟩ = some (.int .u8 3)) :
    Calls Tryz.prog 157 #[.pointer (some ⟨b, 0, none⟩), .agg #[.int .i64 (o : Nat), .int .i64 (n : Nat)], .int .i64 v] w fun ev w' => ev = .returned (.tuple #[]) ∧ Hid (Blk w' b (A ++ digL v (n - 1) ++ B)) ∧ w.grownBy w' (some b) := by
  have hl := hk.2
  simp only [List.length_append] at hl
  have hn5 : n ≤ 512 := by omega
  have HK := hide hk
  have HA := hide hA
  have HX := hide hX
  obtain ⟨W0, hW0⟩ : ∃ W0, W0 = w.alloc (.cells #[.int .i64 (o : Nat), .int .i64 (n : Nat)] 194) := ⟨_, rfl⟩
  have hB0 : Below w.heap.size w W0 := by rw [hW0]; exact (Below.refl _ _).alloc (Nat.le_refl _) _
  have q0 : W0.cell? ⟨w.heap.size, 0, none⟩ = some (.int .i64 (o : Nat)) := by rw [hW0]; exact cell_of_row _ _ 0 _ _ _ (heap_alloc_new _ _)
  have q1 : W0.cell? ⟨w.heap.size, 1, none⟩ = some (.int .i64 (n : Nat)) := by rw [hW0]; exact cell_of_row _ _ 1 _ _ _ (heap_alloc_new _ _)
  have hf := fmt_any v W0 hv (cell_later hB0 h20)
  clear hk hA hX hl h20
  go_enter Tryz.func157, Tryz.ntmps157
  go_upto_region 1 with fail
  rw [← hW0]
  clear hW0
  go_upto_region 2 with (go_at_call 143; refine hf.mono ?_; clear hf; rintro ev w1 ⟨ds, rfl, HDS, hb1⟩; have q0 := cell_later hb1 q0; have q1 := cell_later hb1 q1)
  have hdz : ds.size = (octL v).length := by rw [Lib.size_eq, unhide HDS]
  obtain ⟨z, hz⟩ : ∃ z : Nat, z = n - 1 - (octL v).length := ⟨_, rfl⟩
  have e1 : (n : Int) - 1 - (ds.size : Int) = (z : Int) := by omega
  have hz5 : z ≤ 512 := by omega
  have HZ := hide hz
  have HDZ := hide hdz
  have hds5 : ds.size ≤ 512 := by omega
  have hB1 := hB0.trans (hb1.mono hB0.size)
  clear hz hd hdz
  have hRp := repeat_any 48 z w1 (by omega)
  go_upto_region 3 with (go_at_call 142; refine hRp.mono ?_; clear hRp; rintro ev w2 ⟨rfl, hb2⟩; have q0 := cell_later hb2 q0; have q1 := cell_later hb2 q1)
  obtain ⟨zs, hzs⟩ : ∃ zs, zs = bt (List.replicate z 48) := ⟨_, rfl⟩
  rw [← hzs]
  have hzz : zs.size = z := by rw [hzs, bt_size, List.length_replicate]
  have hB2 := hB1.trans (hb2.mono hB1.size)
  have HT : Hid ((zs ++ ds ++ (⟨#[0]⟩ : ByteArray)).data.toList = digL v (n - 1)) := hide (by
    rw [hzs, ← bt_of ds, unhide HDS, show (⟨#[0]⟩ : ByteArray) = bt [0] from rfl, bt_app, bt_app, bt_list, digL, unhide HZ])
  have hsz : (zs ++ ds ++ (⟨#[0]⟩ : ByteArray)).size = n := by
    have := unhide HZ
    have := unhide HDZ
    rw [ByteArray.size_append, ByteArray.size_append, hzz]
    show z + ds.size + 1 = n
    omega
  have hS := setText_any b o n A X B (zs ++ ds ++ (⟨#[0]⟩ : ByteArray)) w2 ((unhide HK).below hB2) (unhide HA) (unhide HX) (by omega) h0
  have HSZ := hide hsz
  clear hzs hsz
  go_wp2_with (go_at_call 159; refine hS.mono ?_; clear hS; rintro ev w3 ⟨rfl, HB3, hg3⟩)
  go_end0
  refine ⟨rfl, hide ?_, grown_trans (grown_below hB2) hg3⟩
  have h := unhide HB3
  rw [unhide HT, unhide HSZ, List.drop_of_length_le (by rw [unhide HX]; exact Nat.le_refl _), List.append_nil] at h
  exact h
/-- The parts of a header. -/
structure Hd where
  nm : List UInt8
  md : List UInt8
  us : List UInt8
  gr : List UInt8
  sz : List UInt8
  tm : List UInt8
  ck : List UInt8
  kd : List UInt8
  lk : List UInt8
  mg : List UInt8
  nn : List UInt8
  d1 : List UInt8
  d2 : List UInt8
  ah : List UInt8
  en : List UInt8
/-- A header's bytes. -/
def hdB (h : Hd) : List UInt8 := h.nm ++ (h.md ++ (h.us ++ (h.gr ++ (h.sz ++ (h.tm ++ (h.ck ++ (h.kd ++ (h.lk ++ (h.mg ++ (h.nn ++ (h.d1 ++ (h.d2 ++ (h.ah ++ (h.en))))))))))))))
structure HdOk (h : Hd) : Prop where
  nm : h.nm.length = 100
  md : h.md.length = 8
  us : h.us.length = 8
  gr : h.gr.length = 8
  sz : h.sz.length = 12
  tm : h.tm.length = 12
  ck : h.ck.length = 8
  kd : h.kd.length = 1
  lk : h.lk.length = 100
  mg : h.mg.length = 8
  nn : h.nn.length = 64
  d1 : h.d1.length = 8
  d2 : h.d2.length = 8
  ah : h.ah.length = 155
  en : h.en.length = 12
def hd0 : Hd := ⟨List.replicate 100 0, List.replicate 8 0, List.replicate 8 0, List.replicate 8 0, List.replicate 12 0, List.replicate 12 0, List.replicate 8 0, List.replicate 1 0, List.replicate 100 0, List.replicate 8 0, List.replicate 64 0, List.replicate 8 0, List.replicate 8 0, List.replicate 155 0, List.replicate 12 0⟩
theorem hd0_ok : HdOk hd0 := ⟨rfl, rfl, rfl, rfl, rfl, rfl, rfl, rfl, rfl, rfl, rfl, rfl, rfl, rfl, rfl⟩
theorem hd0_eq : hdB hd0 = List.replicate 512 0 := by decide +kernel
theorem hdr_nm (h : Hd) (x : List UInt8) : hdB { h with nm := x } = (([] : List UInt8)) ++ x ++ (h.md ++ h.us ++ h.gr ++ h.sz ++ h.tm ++ h.ck ++ h.kd ++ h.lk ++ h.mg ++ h.nn ++ h.d1 ++ h.d2 ++ h.ah ++ h.en) := by
  simp [hdB, List.append_assoc]
theorem at_nm {h : Hd} (_ : HdOk h) : (([] : List UInt8)).length = 0 := by
  simp []
theorem txt_nm (h : Hd) (ok : HdOk h) (s : ByteArray) (b : Nat) (w : World) (hk : Blk w b (hdB h)) (hs : s.size ≤ 100) :
    Calls Tryz.prog 159 #[.pointer (some ⟨b, 0, none⟩), .agg #[.int .i64 0, .int .i64 100], .string s] w fun ev w' => ev = .returned (.tuple #[]) ∧ Hid (Blk w' b (hdB { h with nm := s.data.toList ++ h.nm.drop s.size })) ∧ w.grownBy w' (some b) := by
  rw [hdr_nm]
  exact setText_any b 0 100 _ h.nm _ s w (by rw [← hdr_nm]; exact hk) (at_nm ok) ok.nm hs (by omega)
theorem hdr_md (h : Hd) (x : List UInt8) : hdB { h with md := x } = (h.nm) ++ x ++ (h.us ++ h.gr ++ h.sz ++ h.tm ++ h.ck ++ h.kd ++ h.lk ++ h.mg ++ h.nn ++ h.d1 ++ h.d2 ++ h.ah ++ h.en) := by
  simp [hdB, List.append_assoc]
theorem at_md {h : Hd} (ok : HdOk h) : (h.nm).length = 100 := by
  simp [ok.nm]
theorem txt_md (h : Hd) (ok : HdOk h) (s : ByteArray) (b : Nat) (w : World) (hk : Blk w b (hdB h)) (hs : s.size ≤ 8) :
    Calls Tryz.prog 159 #[.pointer (some ⟨b, 0, none⟩), .agg #[.int .i64 100, .int .i64 8], .string s] w fun ev w' => ev = .returned (.tuple #[]) ∧ Hid (Blk w' b (hdB { h with md := s.data.toList ++ h.md.drop s.size })) ∧ w.grownBy w' (some b) := by
  rw [hdr_md]
  exact setText_any b 100 8 _ h.md _ s w (by rw [← hdr_md]; exact hk) (at_md ok) ok.md hs (by omega)
theorem num_md (h : Hd) (ok : HdOk h) (v b : Nat) (w : World) (hk : Blk w b (hdB h)) (hv : v < 262144) (h20 : w.cell? ⟨20, 7, none⟩ = some (.int .u8 3)) :
    Calls Tryz.prog 157 #[.pointer (some ⟨b, 0, none⟩), .agg #[.int .i64 100, .int .i64 8], .int .i64 v] w fun ev w' => ev = .returned (.tuple #[]) ∧ Hid (Blk w' b (hdB { h with md := digL v 7 })) ∧ w.grownBy w' (some b) := by
  rw [hdr_md]
  exact setNumber_any b 100 8 v _ h.md _ w (by rw [← hdr_md]; exact hk) (at_md ok) ok.md (by omega) hv (by have := octL_lt 5 v (by simpa using hv); omega) h20
theorem hdr_us (h : Hd) (x : List UInt8) : hdB { h with us := x } = (h.nm ++ h.md) ++ x ++ (h.gr ++ h.sz ++ h.tm ++ h.ck ++ h.kd ++ h.lk ++ h.mg ++ h.nn ++ h.d1 ++ h.d2 ++ h.ah ++ h.en) := by
  simp [hdB, List.append_assoc]
theorem at_us {h : Hd} (ok : HdOk h) : (h.nm ++ h.md).length = 108 := by
  simp [ok.nm, ok.md]
theorem txt_us (h : Hd) (ok : HdOk h) (s : ByteArray) (b : Nat) (w : World) (hk : Blk w b (hdB h)) (hs : s.size ≤ 8) :
    Calls Tryz.prog 159 #[.pointer (some ⟨b, 0, none⟩), .agg #[.int .i64 108, .int .i64 8], .string s] w fun ev w' => ev = .returned (.tuple #[]) ∧ Hid (Blk w' b (hdB { h with us := s.data.toList ++ h.us.drop s.size })) ∧ w.grownBy w' (some b) := by
  rw [hdr_us]
  exact setText_any b 108 8 _ h.us _ s w (by rw [← hdr_us]; exact hk) (at_us ok) ok.us hs (by omega)
theorem num_us (h : Hd) (ok : HdOk h) (v b : Nat) (w : World) (hk : Blk w b (hdB h)) (hv : v < 262144) (h20 : w.cell? ⟨20, 7, none⟩ = some (.int .u8 3)) :
    Calls Tryz.prog 157 #[.pointer (some ⟨b, 0, none⟩), .agg #[.int .i64 108, .int .i64 8], .int .i64 v] w fun ev w' => ev = .returned (.tuple #[]) ∧ Hid (Blk w' b (hdB { h with us := digL v 7 })) ∧ w.grownBy w' (some b) := by
  rw [hdr_us]
  exact setNumber_any b 108 8 v _ h.us _ w (by rw [← hdr_us]; exact hk) (at_us ok) ok.us (by omega) hv (by have := octL_lt 5 v (by simpa using hv); omega) h20
theorem hdr_gr (h : Hd) (x : List UInt8) : hdB { h with gr := x } = (h.nm ++ h.md ++ h.us) ++ x ++ (h.sz ++ h.tm ++ h.ck ++ h.kd ++ h.lk ++ h.mg ++ h.nn ++ h.d1 ++ h.d2 ++ h.ah ++ h.en) := by
  simp [hdB, List.append_assoc]
theorem at_gr {h : Hd} (ok : HdOk h) : (h.nm ++ h.md ++ h.us).length = 116 := by
  simp [ok.nm, ok.md, ok.us]
theorem txt_gr (h : Hd) (ok : HdOk h) (s : ByteArray) (b : Nat) (w : World) (hk : Blk w b (hdB h)) (hs : s.size ≤ 8) :
    Calls Tryz.prog 159 #[.pointer (some ⟨b, 0, none⟩), .agg #[.int .i64 116, .int .i64 8], .string s] w fun ev w' => ev = .returned (.tuple #[]) ∧ Hid (Blk w' b (hdB { h with gr := s.data.toList ++ h.gr.drop s.size })) ∧ w.grownBy w' (some b) := by
  rw [hdr_gr]
  exact setText_any b 116 8 _ h.gr _ s w (by rw [← hdr_gr]; exact hk) (at_gr ok) ok.gr hs (by omega)
theorem num_gr (h : Hd) (ok : HdOk h) (v b : Nat) (w : World) (hk : Blk w b (hdB h)) (hv : v < 262144) (h20 : w.cell? ⟨20, 7, none⟩ = some (.int .u8 3)) :
    Calls Tryz.prog 157 #[.pointer (some ⟨b, 0, none⟩), .agg #[.int .i64 116, .int .i64 8], .int .i64 v] w fun ev w' => ev = .returned (.tuple #[]) ∧ Hid (Blk w' b (hdB { h with gr := digL v 7 })) ∧ w.grownBy w' (some b) := by
  rw [hdr_gr]
  exact setNumber_any b 116 8 v _ h.gr _ w (by rw [← hdr_gr]; exact hk) (at_gr ok) ok.gr (by omega) hv (by have := octL_lt 5 v (by simpa using hv); omega) h20
theorem hdr_sz (h : Hd) (x : List UInt8) : hdB { h with sz := x } = (h.nm ++ h.md ++ h.us ++ h.gr) ++ x ++ (h.tm ++ h.ck ++ h.kd ++ h.lk ++ h.mg ++ h.nn ++ h.d1 ++ h.d2 ++ h.ah ++ h.en) := by
  simp [hdB, List.append_assoc]
theorem at_sz {h : Hd} (ok : HdOk h) : (h.nm ++ h.md ++ h.us ++ h.gr).length = 124 := by
  simp [ok.nm, ok.md, ok.us, ok.gr]
theorem txt_sz (h : Hd) (ok : HdOk h) (s : ByteArray) (b : Nat) (w : World) (hk : Blk w b (hdB h)) (hs : s.size ≤ 12) :
    Calls Tryz.prog 159 #[.pointer (some ⟨b, 0, none⟩), .agg #[.int .i64 124, .int .i64 12], .string s] w fun ev w' => ev = .returned (.tuple #[]) ∧ Hid (Blk w' b (hdB { h with sz := s.data.toList ++ h.sz.drop s.size })) ∧ w.grownBy w' (some b) := by
  rw [hdr_sz]
  exact setText_any b 124 12 _ h.sz _ s w (by rw [← hdr_sz]; exact hk) (at_sz ok) ok.sz hs (by omega)
theorem num_sz (h : Hd) (ok : HdOk h) (v b : Nat) (w : World) (hk : Blk w b (hdB h)) (hv : v < 262144) (h20 : w.cell? ⟨20, 7, none⟩ = some (.int .u8 3)) :
    Calls Tryz.prog 157 #[.pointer (some ⟨b, 0, none⟩), .agg #[.int .i64 124, .int .i64 12], .int .i64 v] w fun ev w' => ev = .returned (.tuple #[]) ∧ Hid (Blk w' b (hdB { h with sz := digL v 11 })) ∧ w.grownBy w' (some b) := by
  rw [hdr_sz]
  exact setNumber_any b 124 12 v _ h.sz _ w (by rw [← hdr_sz]; exact hk) (at_sz ok) ok.sz (by omega) hv (by have := octL_lt 5 v (by simpa using hv); omega) h20
theorem hdr_tm (h : Hd) (x : List UInt8) : hdB { h with tm := x } = (h.nm ++ h.md ++ h.us ++ h.gr ++ h.sz) ++ x ++ (h.ck ++ h.kd ++ h.lk ++ h.mg ++ h.nn ++ h.d1 ++ h.d2 ++ h.ah ++ h.en) := by
  simp [hdB, List.append_assoc]
theorem at_tm {h : Hd} (ok : HdOk h) : (h.nm ++ h.md ++ h.us ++ h.gr ++ h.sz).length = 136 := by
  simp [ok.nm, ok.md, ok.us, ok.gr, ok.sz]
theorem txt_tm (h : Hd) (ok : HdOk h) (s : ByteArray) (b : Nat) (w : World) (hk : Blk w b (hdB h)) (hs : s.size ≤ 12) :
    Calls Tryz.prog 159 #[.pointer (some ⟨b, 0, none⟩), .agg #[.int .i64 136, .int .i64 12], .string s] w fun ev w' => ev = .returned (.tuple #[]) ∧ Hid (Blk w' b (hdB { h with tm := s.data.toList ++ h.tm.drop s.size })) ∧ w.grownBy w' (some b) := by
  rw [hdr_tm]
  exact setText_any b 136 12 _ h.tm _ s w (by rw [← hdr_tm]; exact hk) (at_tm ok) ok.tm hs (by omega)
theorem num_tm (h : Hd) (ok : HdOk h) (v b : Nat) (w : World) (hk : Blk w b (hdB h)) (hv : v < 262144) (h20 : w.cell? ⟨20, 7, none⟩ = some (.int .u8 3)) :
    Calls Tryz.prog 157 #[.pointer (some ⟨b, 0, none⟩), .agg #[.int .i64 136, .int .i64 12], .int .i64 v] w fun ev w' => ev = .returned (.tuple #[]) ∧ Hid (Blk w' b (hdB { h with tm := digL v 11 })) ∧ w.grownBy w' (some b) := by
  rw [hdr_tm]
  exact setNumber_any b 136 12 v _ h.tm _ w (by rw [← hdr_tm]; exact hk) (at_tm ok) ok.tm (by omega) hv (by have := octL_lt 5 v (by simpa using hv); omega) h20
theorem hdr_ck (h : Hd) (x : List UInt8) : hdB { h with ck := x } = (h.nm ++ h.md ++ h.us ++ h.gr ++ h.sz ++ h.tm) ++ x ++ (h.kd ++ h.lk ++ h.mg ++ h.nn ++ h.d1 ++ h.d2 ++ h.ah ++ h.en) := by
  simp [hdB, List.append_assoc]
theorem at_ck {h : Hd} (ok : HdOk h) : (h.nm ++ h.md ++ h.us ++ h.gr ++ h.sz ++ h.tm).length = 148 := by
  simp [ok.nm, ok.md, ok.us, ok.gr, ok.sz, ok.tm]
theorem txt_ck (h : Hd) (ok : HdOk h) (s : ByteArray) (b : Nat) (w : World) (hk : Blk w b (hdB h)) (hs : s.size ≤ 8) :
    Calls Tryz.prog 159 #[.pointer (some ⟨b, 0, none⟩), .agg #[.int .i64 148, .int .i64 8], .string s] w fun ev w' => ev = .returned (.tuple #[]) ∧ Hid (Blk w' b (hdB { h with ck := s.data.toList ++ h.ck.drop s.size })) ∧ w.grownBy w' (some b) := by
  rw [hdr_ck]
  exact setText_any b 148 8 _ h.ck _ s w (by rw [← hdr_ck]; exact hk) (at_ck ok) ok.ck hs (by omega)
theorem hdr_kd (h : Hd) (x : List UInt8) : hdB { h with kd := x } = (h.nm ++ h.md ++ h.us ++ h.gr ++ h.sz ++ h.tm ++ h.ck) ++ x ++ (h.lk ++ h.mg ++ h.nn ++ h.d1 ++ h.d2 ++ h.ah ++ h.en) := by
  simp [hdB, List.append_assoc]
theorem at_kd {h : Hd} (ok : HdOk h) : (h.nm ++ h.md ++ h.us ++ h.gr ++ h.sz ++ h.tm ++ h.ck).length = 156 := by
  simp [ok.nm, ok.md, ok.us, ok.gr, ok.sz, ok.tm, ok.ck]
theorem txt_kd (h : Hd) (ok : HdOk h) (s : ByteArray) (b : Nat) (w : World) (hk : Blk w b (hdB h)) (hs : s.size ≤ 1) :
    Calls Tryz.prog 159 #[.pointer (some ⟨b, 0, none⟩), .agg #[.int .i64 156, .int .i64 1], .string s] w fun ev w' => ev = .returned (.tuple #[]) ∧ Hid (Blk w' b (hdB { h with kd := s.data.toList ++ h.kd.drop s.size })) ∧ w.grownBy w' (some b) := by
  rw [hdr_kd]
  exact setText_any b 156 1 _ h.kd _ s w (by rw [← hdr_kd]; exact hk) (at_kd ok) ok.kd hs (by omega)
theorem hdr_lk (h : Hd) (x : List UInt8) : hdB { h with lk := x } = (h.nm ++ h.md ++ h.us ++ h.gr ++ h.sz ++ h.tm ++ h.ck ++ h.kd) ++ x ++ (h.mg ++ h.nn ++ h.d1 ++ h.d2 ++ h.ah ++ h.en) := by
  simp [hdB, List.append_assoc]
theorem at_lk {h : Hd} (ok : HdOk h) : (h.nm ++ h.md ++ h.us ++ h.gr ++ h.sz ++ h.tm ++ h.ck ++ h.kd).length = 157 := by
  simp [ok.nm, ok.md, ok.us, ok.gr, ok.sz, ok.tm, ok.ck, ok.kd]
theorem txt_lk (h : Hd) (ok : HdOk h) (s : ByteArray) (b : Nat) (w : World) (hk : Blk w b (hdB h)) (hs : s.size ≤ 100) :
    Calls Tryz.prog 159 #[.pointer (some ⟨b, 0, none⟩), .agg #[.int .i64 157, .int .i64 100], .string s] w fun ev w' => ev = .returned (.tuple #[]) ∧ Hid (Blk w' b (hdB { h with lk := s.data.toList ++ h.lk.drop s.size })) ∧ w.grownBy w' (some b) := by
  rw [hdr_lk]
  exact setText_any b 157 100 _ h.lk _ s w (by rw [← hdr_lk]; exact hk) (at_lk ok) ok.lk hs (by omega)
theorem hdr_mg (h : Hd) (x : List UInt8) : hdB { h with mg := x } = (h.nm ++ h.md ++ h.us ++ h.gr ++ h.sz ++ h.tm ++ h.ck ++ h.kd ++ h.lk) ++ x ++ (h.nn ++ h.d1 ++ h.d2 ++ h.ah ++ h.en) := by
  simp [hdB, List.append_assoc]
theorem at_mg {h : Hd} (ok : HdOk h) : (h.nm ++ h.md ++ h.us ++ h.gr ++ h.sz ++ h.tm ++ h.ck ++ h.kd ++ h.lk).length = 257 := by
  simp [ok.nm, ok.md, ok.us, ok.gr, ok.sz, ok.tm, ok.ck, ok.kd, ok.lk]
theorem txt_mg (h : Hd) (ok : HdOk h) (s : ByteArray) (b : Nat) (w : World) (hk : Blk w b (hdB h)) (hs : s.size ≤ 8) :
    Calls Tryz.prog 159 #[.pointer (some ⟨b, 0, none⟩), .agg #[.int .i64 257, .int .i64 8], .string s] w fun ev w' => ev = .returned (.tuple #[]) ∧ Hid (Blk w' b (hdB { h with mg := s.data.toList ++ h.mg.drop s.size })) ∧ w.grownBy w' (some b) := by
  rw [hdr_mg]
  exact setText_any b 257 8 _ h.mg _ s w (by rw [← hdr_mg]; exact hk) (at_mg ok) ok.mg hs (by omega)
theorem hdr_d1 (h : Hd) (x : List UInt8) : hdB { h with d1 := x } = (h.nm ++ h.md ++ h.us ++ h.gr ++ h.sz ++ h.tm ++ h.ck ++ h.kd ++ h.lk ++ h.mg ++ h.nn) ++ x ++ (h.d2 ++ h.ah ++ h.en) := by
  simp [hdB, List.append_assoc]
theorem at_d1 {h : Hd} (ok : HdOk h) : (h.nm ++ h.md ++ h.us ++ h.gr ++ h.sz ++ h.tm ++ h.ck ++ h.kd ++ h.lk ++ h.mg ++ h.nn).length = 329 := by
  simp [ok.nm, ok.md, ok.us, ok.gr, ok.sz, ok.tm, ok.ck, ok.kd, ok.lk, ok.mg, ok.nn]
theorem txt_d1 (h : Hd) (ok : HdOk h) (s : ByteArray) (b : Nat) (w : World) (hk : Blk w b (hdB h)) (hs : s.size ≤ 8) :
    Calls Tryz.prog 159 #[.pointer (some ⟨b, 0, none⟩), .agg #[.int .i64 329, .int .i64 8], .string s] w fun ev w' => ev = .returned (.tuple #[]) ∧ Hid (Blk w' b (hdB { h with d1 := s.data.toList ++ h.d1.drop s.size })) ∧ w.grownBy w' (some b) := by
  rw [hdr_d1]
  exact setText_any b 329 8 _ h.d1 _ s w (by rw [← hdr_d1]; exact hk) (at_d1 ok) ok.d1 hs (by omega)
theorem num_d1 (h : Hd) (ok : HdOk h) (v b : Nat) (w : World) (hk : Blk w b (hdB h)) (hv : v < 262144) (h20 : w.cell? ⟨20, 7, none⟩ = some (.int .u8 3)) :
    Calls Tryz.prog 157 #[.pointer (some ⟨b, 0, none⟩), .agg #[.int .i64 329, .int .i64 8], .int .i64 v] w fun ev w' => ev = .returned (.tuple #[]) ∧ Hid (Blk w' b (hdB { h with d1 := digL v 7 })) ∧ w.grownBy w' (some b) := by
  rw [hdr_d1]
  exact setNumber_any b 329 8 v _ h.d1 _ w (by rw [← hdr_d1]; exact hk) (at_d1 ok) ok.d1 (by omega) hv (by have := octL_lt 5 v (by simpa using hv); omega) h20
theorem hdr_d2 (h : Hd) (x : List UInt8) : hdB { h with d2 := x } = (h.nm ++ h.md ++ h.us ++ h.gr ++ h.sz ++ h.tm ++ h.ck ++ h.kd ++ h.lk ++ h.mg ++ h.nn ++ h.d1) ++ x ++ (h.ah ++ h.en) := by
  simp [hdB, List.append_assoc]
theorem at_d2 {h : Hd} (ok : HdOk h) : (h.nm ++ h.md ++ h.us ++ h.gr ++ h.sz ++ h.tm ++ h.ck ++ h.kd ++ h.lk ++ h.mg ++ h.nn ++ h.d1).length = 337 := by
  simp [ok.nm, ok.md, ok.us, ok.gr, ok.sz, ok.tm, ok.ck, ok.kd, ok.lk, ok.mg, ok.nn, ok.d1]
theorem txt_d2 (h : Hd) (ok : HdOk h) (s : ByteArray) (b : Nat) (w : World) (hk : Blk w b (hdB h)) (hs : s.size ≤ 8) :
    Calls Tryz.prog 159 #[.pointer (some ⟨b, 0, none⟩), .agg #[.int .i64 337, .int .i64 8], .string s] w fun ev w' => ev = .returned (.tuple #[]) ∧ Hid (Blk w' b (hdB { h with d2 := s.data.toList ++ h.d2.drop s.size })) ∧ w.grownBy w' (some b) := by
  rw [hdr_d2]
  exact setText_any b 337 8 _ h.d2 _ s w (by rw [← hdr_d2]; exact hk) (at_d2 ok) ok.d2 hs (by omega)
theorem num_d2 (h : Hd) (ok : HdOk h) (v b : Nat) (w : World) (hk : Blk w b (hdB h)) (hv : v < 262144) (h20 : w.cell? ⟨20, 7, none⟩ = some (.int .u8 3)) :
    Calls Tryz.prog 157 #[.pointer (some ⟨b, 0, none⟩), .agg #[.int .i64 337, .int .i64 8], .int .i64 v] w fun ev w' => ev = .returned (.tuple #[]) ∧ Hid (Blk w' b (hdB { h with d2 := digL v 7 })) ∧ w.grownBy w' (some b) := by
  rw [hdr_d2]
  exact setNumber_any b 337 8 v _ h.d2 _ w (by rw [← hdr_d2]; exact hk) (at_d2 ok) ok.d2 (by omega) hv (by have := octL_lt 5 v (by simpa using hv); omega) h20
theorem hdr_ah (h : Hd) (x : List UInt8) : hdB { h with ah := x } = (h.nm ++ h.md ++ h.us ++ h.gr ++ h.sz ++ h.tm ++ h.ck ++ h.kd ++ h.lk ++ h.mg ++ h.nn ++ h.d1 ++ h.d2) ++ x ++ (h.en) := by
  simp [hdB, List.append_assoc]
theorem at_ah {h : Hd} (ok : HdOk h) : (h.nm ++ h.md ++ h.us ++ h.gr ++ h.sz ++ h.tm ++ h.ck ++ h.kd ++ h.lk ++ h.mg ++ h.nn ++ h.d1 ++ h.d2).length = 345 := by
  simp [ok.nm, ok.md, ok.us, ok.gr, ok.sz, ok.tm, ok.ck, ok.kd, ok.lk, ok.mg, ok.nn, ok.d1, ok.d2]
theorem txt_ah (h : Hd) (ok : HdOk h) (s : ByteArray) (b : Nat) (w : World) (hk : Blk w b (hdB h)) (hs : s.size ≤ 155) :
    Calls Tryz.prog 159 #[.pointer (some ⟨b, 0, none⟩), .agg #[.int .i64 345, .int .i64 155], .string s] w fun ev w' => ev = .returned (.tuple #[]) ∧ Hid (Blk w' b (hdB { h with ah := s.data.toList ++ h.ah.drop s.size })) ∧ w.grownBy w' (some b) := by
  rw [hdr_ah]
  exact setText_any b 345 155 _ h.ah _ s w (by rw [← hdr_ah]; exact hk) (at_ah ok) ok.ah hs (by omega)
end Go.Proofs.YtkeefkfklmhcjaaGreatDoor
