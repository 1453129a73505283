import Derived.Test.YtabahmnagffnbaaGreatDoorDigG
import Derived.Deep.DeepCutAuto
import Derived.Test.YtabahmnagffnbaaGreatDoorJStoE
import Derived.Test.YtabahmnagffnbaaGreatDoorProg
import Derived.WalkKit
import Derived.WalkSmall
import Derived.OwnWalk
import Derived.ArgAppend
import Derived.Laws.OwnMore
import Derived.Deep.AppendLies
import Derived.Test.YtabahmnagffnbaaGreatDoorJDigE
import Derived.Deep.RegionHeld3
namespace Go.Proofs.YtabahmnagffnbaaGreatDoor
open Go.RowKit

theorem mixN_pre (v : St) (a b : List UInt8) : ∀ m, 64 * m ≤ a.length → mixN v (a ++ b) m = mixN v a m
  | 0, _ => rfl
  | m + 1, h => by
    rw [mixN, mixN, mixN_pre v a b m (by omega), List.drop_append_of_le_length (by omega), List.take_append_of_le_length (by simp; omega)]
theorem mixN_add (v : St) (a b : List UInt8) (m : Nat) (h : a.length = 64 * m) : ∀ k, mixN v (a ++ b) (m + k) = mixN (mixN v a m) b k
  | 0 => mixN_pre v a b m (by omega)
  | k + 1 => by
    rw [← Nat.add_assoc, mixN, mixN, mixN_add v a b m h k, show 64 * (m + k) = a.length + 64 * k from by omega, List.drop_append, show a.drop (a.length + 64 * k) = [] from List.drop_eq_nil_of_le (by omega)]
    simp
theorem fil_len (l : List UInt8) (n : Nat) : (fil l n).length % 64 = 0 := by
  simp only [fil, List.length_append, List.length_cons, List.length_nil, List.length_replicate, lenBs_len, zer]
  omega
theorem fil_le (l : List UInt8) (n : Nat) (h : l.length ≤ 64) : (fil l n).length ≤ 200 := by
  simp only [fil, List.length_append, List.length_cons, List.length_nil, List.length_replicate, lenBs_len, zer]
  omega
theorem fil_split (a b : List UInt8) (n m : Nat) (h : a.length = 64 * m) : fil (a ++ b) n = a ++ fil b n := by
  have e : zer (a ++ b).length = zer b.length := by simp only [zer, List.length_append, h]; omega
  simp only [fil, e, List.append_assoc]
/-- The digest of a text. -/
def sha (l : List UInt8) : List UInt8 := hexs (mixN H0 (fil l l.length) ((fil l l.length).length / 64)).list 8
theorem sha_split (a b : List UInt8) (m : Nat) (h : a.length = 64 * m) :
    sha (a ++ b) = hexs (mixN (mixN H0 a m) (fil b (a ++ b).length) ((fil b (a ++ b).length).length / 64)).list 8 := by
  unfold sha
  rw [fil_split a b _ m h, ← mixN_add H0 a _ m h]
  congr 3
  rw [List.length_append, h]
  have := fil_len b (a ++ b).length
  omega
theorem sha_len (l : List UInt8) : (sha l).length = 64 := by rw [sha, hexs_len _ _ (by simp [St.list])]

theorem mixAll_at (v : St) (hv : v.ok) (s : ByteArray) (n : Nat) (hs : s.size = 64 * n) (hn : n ≤ 1073741824) (w : World) (hK : KsLie w) :
    Calls Tryz.prog 55 #[.agg #[.int .u32 v.a, .int .u32 v.b, .int .u32 v.c, .int .u32 v.d, .int .u32 v.e, .int .u32 v.f, .int .u32 v.g, .int .u32 v.q], .string s] w fun ev w' => ∃ y : St, ev = .returned (.agg #[.int .u32 y.a, .int .u32 y.b, .int .u32 y.c, .int .u32 y.d, .int .u32 y.e, .int .u32 y.f, .int .u32 y.g, .int .u32 y.q]) ∧ Hid (y = mixN v s.data.toList n) ∧ Below w.heap.size w w' := by
  refine (mixAll_any v hv s n hs hn w hK).mono ?_
  rintro ev w' ⟨rfl, hb⟩
  exact ⟨_, rfl, hide rfl, hb⟩
theorem start_at (w : World) : Calls Tryz.prog 56 #[] w fun ev w' => ∃ y : St, ev = .returned (.agg #[.int .u32 y.a, .int .u32 y.b, .int .u32 y.c, .int .u32 y.d, .int .u32 y.e, .int .u32 y.f, .int .u32 y.g, .int .u32 y.q]) ∧ Hid (y = H0) ∧ Below w.heap.size w w' := by
  refine (start_any w).mono ?_
  rintro ev w' ⟨rfl, hb⟩
  exact ⟨_, rfl, hide rfl, hb⟩

attribute [local go_sem] setCell_drewN alloc_drewN
attribute [local go_sem] Go.wp_at_zero Go.wp_at_succ

set_option maxHeartbeats 1000000 in
set_option maxRecDepth 100000 in
theorem of_any (s : ByteArray) (hs : s.size ≤ 1073741824) (w : World) (hK : KsLie w) :
    Calls Tryz.prog 31 #[.string s] w fun ev w' => ev = .returned (.string ⟨(sha s.data.toList).toArray⟩) ∧ Below w.heap.size w w' := by
  have HK := hide hK
  obtain ⟨m, hm⟩ : ∃ m, m = s.size / 64 := ⟨_, rfl⟩
  have hw : (s.size : Int) - (s.size : Int) % 64 = ((64 * m : Nat) : Int) := by omega
  have hm1 : 64 * m ≤ s.size := by omega
  clear hK hm
  go_enter Tryz.func31, Tryz.ntmps31
  go_upto_region 2 with fail
  go_cut [4] (fun p wx => ∃ (g : Nat) (y : St), p = .pointer (some ⟨g, 0, none⟩) ∧ wx.heap[g]? = some (.cells y.arr 109 (0, 0)) ∧ w.heap.size ≤ g ∧ Hid (y = mixN H0 (s.data.toList.take (64 * m)) m) ∧ Below w.heap.size w wx)
  case first =>
    go_region_with (first
      | (go_at_call 56; refine (start_at _).mono ?_; rintro ev w1 ⟨x, rfl, HX, hb1⟩; first
        | (have hz1 := hb1.block w.heap.size (by simp); have hq1 := hz1.trans (heap_alloc_new _ _); obtain ⟨⟨d0, d1, d2, d3, d4, d5, d6, d7⟩, fz⟩ := cells8 (x := ⟨0, 0, 0, 0, 0, 0, 0, 0⟩) hq1; have hB1 := hide (chainA hb1); clear hz1 hb1)
        | (have hB1 := hide (chain0 hb1); clear hb1))
      | (go_at_call 55; refine (mixAll_at x ?_ _ m ?_ ?_ _ ?_).mono ?_; (rw [unhide HX]; exact H0_ok); (rw [ByteArray.size_extract]; omega); omega; (first | exact (unhide HK).below (unhide hB1) | exact (unhide HK).below ((unhide hB1).alloc (unhide hB1).size _)); rintro ev w2 ⟨y, rfl, HY, hb2⟩; first
        | (have hq2 := (hb2.block w.heap.size (Array.getElem?_eq_some_iff.1 hq1).1).trans hq1; obtain ⟨⟨e0, e1, e2, e3, e4, e5, e6, e7⟩, fz2⟩ := cells8 (x := ⟨0, 0, 0, 0, 0, 0, 0, 0⟩) hq2; have hB2 := hide ((unhide hB1).trans (hb2.mono (unhide hB1).size)); clear hb2)
        | (have hq2 := (hb2.block w1.heap.size (by simp)).trans (heap_alloc_new _ _); obtain ⟨⟨e0, e1, e2, e3, e4, e5, e6, e7⟩, fz2⟩ := cells8 (x := ⟨0, 0, 0, 0, 0, 0, 0, 0⟩) hq2; have hB2 := hide (((unhide hB1).alloc (unhide hB1).size _).trans (hb2.mono (Nat.le_trans (unhide hB1).size (by simp)))); clear hb2)
        | (have hB2 := hide ((unhide hB1).trans (hb2.mono (unhide hB1).size)); clear hb2)))
    all_goals
      have hy : y = mixN H0 (s.data.toList.take (64 * m)) m := by
        have e := unhide HY
        rw [Lib.extract_data, unhide HX] at e
        simpa using e
      go_wp2_with fail
      go_meet
      refine ⟨_, y, rfl, ?_, ?_, hide hy, ?_⟩
      · first
          | (have hh := block8 (x := ⟨0, 0, 0, 0, 0, 0, 0, 0⟩) y hq2; exact hh)
          | exact heap_alloc_new _ _
      · first
          | (have hh := hq1; exact Nat.le_refl _)
          | (have hh := hq2; exact (unhide hB1).size)
          | exact (unhide hB2).size
      · first
          | (have hh := hq1; exact below8 y (unhide hB2) (Nat.le_refl _))
          | (have hh := hq2; exact below8 y (unhide hB2) (unhide hB1).size)
          | exact (unhide hB2).alloc (unhide hB2).size _
  case rest =>
    obtain ⟨g, y, rfl, hq, hg, HY, hB⟩ := hcut
    have hgl := (Array.getElem?_eq_some_iff.1 hq).1
    obtain ⟨⟨c0, c1, c2, c3, c4, c5, c6, c7⟩, fz⟩ := cells8 hq
    go_upto_region 3 with fail
    obtain ⟨F, HF⟩ : ∃ F, Hid (F = fil (List.take (s.size - 64 * m) (List.drop (64 * m) s.data.toList)) s.size) := ⟨_, hide rfl⟩
    have HFs : Hid (F.length = 64 * (F.length / 64)) := hide (by have := fil_len (List.take (s.size - 64 * m) (List.drop (64 * m) s.data.toList)) s.size; rw [← unhide HF] at this; omega)
    have HFl : Hid (F.length ≤ 200) := hide (by rw [unhide HF]; refine fil_le _ _ ?_; rw [List.length_take]; omega)
    go_cut [] (fun wx => ∃ z : St, wx.heap[g]? = some (.cells z.arr 109 (0, 0)) ∧ Hid (z = mixN y F (F.length / 64)) ∧ Below w.heap.size w wx)
    case first =>
      go_region_with (first
        | (go_at_call 57; refine (filled_any _ s.size ?_ ?_ _).mono ?_; (rw [ByteArray.size_extract]; omega); omega; rintro ev w3 ⟨rfl, hb3⟩; have hB3 := hide (hB.trans (Below.mono (B' := w.heap.size) (chain0 hb3) hB.size)); have hq3 := ((chain0 hb3).block g hgl).trans hq; obtain ⟨⟨d0, d1, d2, d3, d4, d5, d6, d7⟩, fz3⟩ := cells8 hq3; have hgl3 := (Array.getElem?_eq_some_iff.1 hq3).1; clear hb3)
        | (go_at_call 55; refine (mixAll_at y ?_ _ (F.length / 64) ?_ ?_ _ ?_).mono ?_; (rw [unhide HY]; exact mixN_ok H0_ok _ _); (have hh := unhide HFs; rw [unhide HF] at hh ⊢; rw [Lib.size_eq]; exact hh); (have := unhide HFl; omega); exact (unhide HK).below (unhide hB3); rintro ev w4 ⟨z, rfl, HZ, hb4⟩; have hq4 := (hb4.block g hgl3).trans hq3; obtain ⟨⟨e0, e1, e2, e3, e4, e5, e6, e7⟩, fz4⟩ := cells8 hq4; have hB4 := hide ((unhide hB3).trans (hb4.mono (unhide hB3).size)); clear hb4))
      all_goals
        have hz : z = mixN y F (F.length / 64) := by
          have e := unhide HZ
          rw [← unhide HF] at e
          exact e
        go_wp2_with fail
        go_meet
        refine ⟨z, ?_, hide hz, ?_⟩
        · have hh := block8 z hq4
          exact hh
        · exact below8 z (unhide hB4) hg
    case rest =>
      obtain ⟨z, hqz, HZ, hBz⟩ := hcut
      obtain ⟨⟨d0, d1, d2, d3, d4, d5, d6, d7⟩, fz3⟩ := cells8 hqz
      have hzo : z.ok := by rw [unhide HZ]; exact mixN_ok (by rw [unhide HY]; exact mixN_ok H0_ok _ _) _ _
      go_wp2_with (go_at_call 58; refine (hex_any z hzo _).mono ?_; rintro ev w5 ⟨rfl, hb5⟩)
      go_ret
      refine ⟨?_, hBz.trans (hb5.mono hBz.size)⟩
      have hts : s.data.toList.take (64 * m) ++ s.data.toList.drop (64 * m) = s.data.toList := List.take_append_drop _ _
      have hln : s.data.toList.length = s.size := (Lib.size_eq s).symm
      have hsp := sha_split (s.data.toList.take (64 * m)) (s.data.toList.drop (64 * m)) m (by rw [List.length_take]; omega)
      rw [hts, hln] at hsp
      have hF := unhide HF
      rw [List.take_of_length_le (by rw [List.length_drop]; omega)] at hF
      have hE : sha s.data.toList = hexs z.list 8 := by rw [hsp, unhide HZ, unhide HY, ← hF]
      rw [hE]
      rfl
end Go.Proofs.YtabahmnagffnbaaGreatDoor

namespace Go.Proofs.YtabahmnagffnbaaGreatDoor
open Go.RowKit Go.Maps

/-- The file of a blob. -/
def blobN (s : ByteArray) : ByteArray := ⟨#[98, 47]⟩ ++ s
theorem blobN_bytes (s : ByteArray) : (blobN s).data.toList = 98 :: 47 :: s.data.toList := by simp [blobN]
/-- What 'blob' tells. -/
def blobV (L : List Blb) (s : ByteArray) : ByteArray × Bool := match getB L (blobN s).data.toList with
  | some b => (b.data, decide (sha b.data.data.toList = s.data.toList))
  | none => (emp, false)
theorem KsLie.turn {w w' : World} {B : Nat} (h : KsLie w) (hb : Below B w w') (hB : 2 ≤ B) : KsLie w' := fun i hi => (hb.cell (p := ⟨1, i, none⟩) (by show 1 < B; omega)).trans (h i hi)
theorem dec_eqS (l : List UInt8) (s : ByteArray) : (l == s.toList) = decide (l = s.data.toList) := by
  rw [Lib.toList_data]
  by_cases h : l = s.data.toList <;> simp [h]
theorem box_cell (w : World) (b : Blb) : (w.alloc (.cells #[.string b.name, .string b.data] 93)).drew.cell? ⟨w.heap.size, 1, none⟩ = some (.string b.data) := cell_of_row (w.alloc (.cells #[.string b.name, .string b.data] 93)) _ 1 _ _ _ (heap_alloc_new _ _)
theorem box_below (w : World) (o : Obj) : Below w.heap.size w (w.alloc o).drew := by
  have b := (Below.refl _ w).alloc (Nat.le_refl _) o
  exact ⟨b.os, b.tape, b.output, b.size, b.block⟩
theorem ks_box {w : World} (h : KsLie w) (o : Obj) : KsLie (w.alloc o).drew := h.below (w' := w.alloc o) ((Below.refl _ w).alloc (Nat.le_refl _) _)
set_option maxHeartbeats 1000000 in
set_option maxRecDepth 100000 in
theorem blob_act (sb mb : Nat) (v : Value) (L : List Blb) (q : Int) (A : List Ac) (s : ByteArray) (w : World) (h : PSt w sb mb v L q A) (hs : s.size ≤ 1048576) (hd : ∀ b ∈ L, b.data.size ≤ 1073741824) (hK : KsLie w) :
    Calls Tryz.prog 37 #[.pointer (some ⟨sb, 0, none⟩), .string s] w fun ev w' => ev = .returned (.tuple #[.string (blobV L s).1, .bool (blobV L s).2]) ∧ Below w.heap.size w w' := by
  have c0 : w.cell? ⟨sb, 0, none⟩ = some (.map (some mb)) := cell_of_row _ _ 0 _ _ _ h.cells
  have hn : (blobN s).size ≤ 1073741824 := by
    simp only [blobN, ByteArray.size_append]
    have : (⟨#[98, 47]⟩ : ByteArray).size = 2 := rfl
    omega
  have hk := h.map.look (blobN s) hn true
  simp only [if_true] at hk
  cases hg : getB L (blobN s).data.toList with
  | none =>
    have e : blobV L s = (emp, false) := by rw [blobV, hg]
    rw [lookV, hg] at hk
    rw [e]
    simp only [Blb.val, blobN] at hk
    clear h e
    go_enter Tryz.func37, Tryz.ntmps37
    go_upto_region 2 with fail
    go_region
    all_goals
      try go_wp2_with fail
      go_ret2
      exact ⟨rfl, box_below _ _⟩
  | some b =>
    have e : blobV L s = (b.data, decide (sha b.data.data.toList = s.data.toList)) := by rw [blobV, hg]
    rw [lookV, hg] at hk
    rw [e]
    have hbd := hd b (get_some hg).1
    simp only [Blb.val, blobN] at hk
    have HK := hide hK
    clear h e hK
    go_enter Tryz.func37, Tryz.ntmps37
    go_upto_region 2 with fail
    go_region_held3 (fun w' => w'.cell? ⟨w.heap.size, 1, none⟩ = some (.string b.data)) (first | exact cell_later (w := (w.alloc (.cells #[.string b.name, .string b.data] 93)).drew) hb1 (box_cell w b) | go_keep) (first | (go_at_call 31; refine (of_any b.data hbd _ (ks_box (unhide HK) _)).mono ?_; rintro ev w1 ⟨rfl, hb1⟩))
    all_goals
      try go_wp2_with fail
      go_ret2
      refine ⟨?_, (box_below _ _).trans (Below.mono hb1 (box_below w _).size)⟩
      rw [← dec_eqS]
      rfl
end Go.Proofs.YtabahmnagffnbaaGreatDoor

namespace Go.Proofs.YtabahmnagffnbaaGreatDoor
open Go.RowKit

/-- An append to a row of the call's own, in a statement that draws its order: the old row's cells stay. -/
theorem step_append_row {P : Program} (w : World) {ops : Array Oper} {o : Oper} {a : Act} {K : Act → World → Prop} {Q : Exit → Act → World → Prop} {E : Prop} (hgd : o.guard = none) (s x : Operand) (t : TypeId)
    (ho : o.op = .call { callee := .builtin .append, args := #[s, x], argTypes := #[t, t] })
    (base : Nat) (e : TypeId) (i : TypeInfo) (z : Value) (bytes : Nat) (ht : P.underlying t = some (.slice e)) (hi : P.info? e = some i) (hz : i.zero = some z)
    (hsize : i.size = 1) (hby : i.bytes = bytes) (hzs : z.cells.size = 1)
    (g n cap : Nat) (xs : List Value) (hs : a.eval s = .slice (some ⟨g, 0, none⟩) n cap) (hown : w.ownsRow base e 1 (.slice (some ⟨g, 0, none⟩) n cap) n xs)
    (ad : Addr) (m c : Nat) (news : List Value) (hx : a.eval x = .slice (some ad) m c) (hl : news.length = m * 1) (hnews : ∀ j u, news[j]? = some u → w.cell? (ad.add j) = some u) (h1 : ∀ u ∈ news, u.oneCell' = true)
    (hm : 0 < m) (h63 : n + m ≤ maxLen) (hbytes : (n + m) * bytes ≤ 140737488355328) (hbase : base ≤ w.heap.size)
    (h : ∀ g' cap' w', w'.ownsRow base e 1 (.slice (some ⟨g', 0, none⟩) (n + m) cap') (n + m) (xs ++ news) → w.grownBy w' (some g) → (∀ j u, j < n → w.cell? ⟨g, j, none⟩ = some u → w'.cell? ⟨g, j, none⟩ = some u) → K (a.put o.dst (.slice (some ⟨g', 0, none⟩) (n + m) cap')) w') :
    if Region.wanted o (yielded ops a.tmps) = true then Oper.wp P o a w K Q else E := by
  have hw : Region.wanted o (yielded ops a.tmps) = true := by simp [Region.wanted, hgd]
  rw [if_pos hw]
  by_cases hroom : n + m ≤ cap
  · obtain ⟨w', hr, h2, h3⟩ := run_append_fits (P := P) w base t o.type e i 1 ht hi hsize g n cap xs hown ad m c news hl hnews h1 hroom
    unfold Oper.wp execOp
    simp only [ho, resolve, invoke, builtin, Sem.run_bind, Sem.run_pure, Result.andThen_ok, List.map_toArray, List.map_cons, List.map_nil, hs, hx, hr]
    refine h g cap w' h2 h3 fun j u hj hc => ?_
    have hxl : xs.length = n := by simpa using hown.1
    rw [World.ownsRow.cellAt hown j (by omega)] at hc
    rw [World.ownsRow.cellAt h2 j (by omega), List.getElem?_append_left (by omega)]
    exact hc
  · obtain ⟨v', w', hr, r1, r2⟩ := run_append_arg_grows (P := P) w t o.type e i z 1 bytes ht hi hz hsize hby hzs (by decide) ⟨g, 0, none⟩ n cap xs hown.1 (hown.cells rfl) ad m c news hl hnews (by omega) h63 hbytes
    obtain ⟨g', cap', rfl, _, _⟩ := r1.form (by omega)
    unfold Oper.wp execOp
    simp only [ho, resolve, invoke, builtin, Sem.run_bind, Sem.run_pure, Result.andThen_ok, List.map_toArray, List.map_cons, List.map_nil, hs, hx, hr]
    have r3 : w'.ownsRow base e 1 (.slice (some ⟨g', 0, none⟩) (n + m) cap') (n + m) (xs ++ news) := by
      refine ⟨r1.1, ?_⟩
      rcases r1.2 with h0 | ⟨q, qc, cur, k1, k2, k3⟩
      · exact .inl h0
      · exact .inr ⟨q, qc, cur, k1, Nat.le_trans hbase k2, k3⟩
    exact h g' cap' w' r3 ⟨r2.os, r2.tape, r2.output, r2.size, fun k hk _ => r2.block k hk (by simp)⟩ (fun j u _ hc => r2.cell hc (by simp))
end Go.Proofs.YtabahmnagffnbaaGreatDoor

namespace Go.Proofs.YtabahmnagffnbaaGreatDoor
open Go.RowKit

theorem Tryz.info3 : (Tryz.prog.info? 3).map (fun i => (i.zero, i.size, i.bytes)) = some (some (.int .i64 0), 1, 8) := by kernel_rfl
def ints (ws : List Nat) : List Value := ws.map fun (n : Nat) => Value.int .i64 (n : Int)
/-- A row of numbers that the call made. -/
def OwnI (w : World) (B : Nat) (v : Value) (ws : List Nat) : Prop := w.ownsRow B 3 1 v ws.length (ints ws)
theorem ints_one (ws : List Nat) : ∀ u ∈ ints ws, u.oneCell' = true := fun u hu => by
  obtain ⟨n, _, rfl⟩ := List.mem_map.1 hu; rfl

theorem ownI_cell {w : World} {B g n cap : Nat} {ws : List Nat} (h : OwnI w B (.slice (some ⟨g, 0, none⟩) n cap) ws) (k : Nat) (hk : k < ws.length) : w.cell? ⟨g, k, none⟩ = some (.int .i64 ((ws.getD k 0 : Nat) : Int)) := by
  have e : n = ws.length := by
    rcases h.2 with ⟨hv, _⟩ | ⟨_, _, _, hv, _⟩
    · cases hv
    · cases hv; rfl
  subst e
  rw [World.ownsRow.cellAt h k (by simpa using hk)]
  simp [ints, List.getD_eq_getElem?_getD, hk]
theorem ownI_form {w : World} {B : Nat} {v : Value} {ws : List Nat} (h : OwnI w B v ws) (hn : ws ≠ []) : ∃ g cap, v = .slice (some ⟨g, 0, none⟩) ws.length cap ∧ B ≤ g ∧ g < w.heap.size := by
  rcases h.2 with ⟨_, h0⟩ | ⟨g, cap, cur, hv, hb, hg, _⟩
  · exact absurd (List.length_eq_zero_iff.1 h0) hn
  · exact ⟨g, cap, hv, hb, (Array.getElem?_eq_some_iff.1 hg).1⟩
theorem i_sS0 (e : Nat) (he : e < 4294967296) : bits .xor .i64 (bits .xor .i64 ((rr e 7 : Nat) : Int) ((rr e 18 : Nat) : Int)) ((e : Int) / 8) = ((sS0 e : Nat) : Int) := by
  rw [i64_xor_nat _ _ (rr_lt he) (rr_lt he), show (e : Int) / 8 = ((e / 8 : Nat) : Int) from by omega, i64_xor_nat _ _ (xor_lt (rr_lt he) (rr_lt he)) (div_lt he)]; rfl
theorem i_sS1 (e : Nat) (he : e < 4294967296) : bits .xor .i64 (bits .xor .i64 ((rr e 17 : Nat) : Int) ((rr e 19 : Nat) : Int)) ((e : Int) / 1024) = ((sS1 e : Nat) : Int) := by
  rw [i64_xor_nat _ _ (rr_lt he) (rr_lt he), show (e : Int) / 1024 = ((e / 1024 : Nat) : Int) from by omega, i64_xor_nat _ _ (xor_lt (rr_lt he) (rr_lt he)) (div_lt he)]; rfl
theorem ownI_snoc {w : World} {B : Nat} {v : Value} {ws : List Nat} {y : Nat} (h : w.ownsRow B 3 1 v (ws.length + 1) (ints ws ++ [.int .i64 (y : Int)])) : OwnI w B v (ws ++ [y]) := by
  unfold OwnI
  simpa [ints] using h

attribute [local go_sem] setCell_drewN alloc_drewN
attribute [local go_sem] Go.wp_at_zero Go.wp_at_succ

end Go.Proofs.YtabahmnagffnbaaGreatDoor

namespace Go.Proofs.YtabahmnagffnbaaGreatDoor
open Go.RowKit

theorem i_bS1 (e : Nat) (he : e < 4294967296) : bits .xor .i64 (bits .xor .i64 ((rr e 6 : Nat) : Int) ((rr e 11 : Nat) : Int)) ((rr e 25 : Nat) : Int) = ((bS1 e : Nat) : Int) := by
  rw [i64_xor_nat _ _ (rr_lt he) (rr_lt he), i64_xor_nat _ _ (xor_lt (rr_lt he) (rr_lt he)) (rr_lt he)]; rfl
theorem i_bS0 (e : Nat) (he : e < 4294967296) : bits .xor .i64 (bits .xor .i64 ((rr e 2 : Nat) : Int) ((rr e 13 : Nat) : Int)) ((rr e 22 : Nat) : Int) = ((bS0 e : Nat) : Int) := by
  rw [i64_xor_nat _ _ (rr_lt he) (rr_lt he), i64_xor_nat _ _ (xor_lt (rr_lt he) (rr_lt he)) (rr_lt he)]; rfl
theorem i_cho (e f g : Nat) (he : e < 4294967296) (hf : f < 4294967296) (hg : g < 4294967296) : bits .xor .i64 (bits .and .i64 (e : Int) (f : Int)) (bits .and .i64 ((4294967295 - e : Nat) : Int) (g : Int)) = ((cho e f g : Nat) : Int) := by
  rw [i64_and_nat _ _ he hf, i64_and_nat _ _ (by omega) hg, i64_xor_nat _ _ (and_lt hf) (and_lt hg)]; rfl
theorem i_maj (a b c : Nat) (ha : a < 4294967296) (hb : b < 4294967296) (hc : c < 4294967296) : bits .xor .i64 (bits .xor .i64 (bits .and .i64 (a : Int) (b : Int)) (bits .and .i64 (a : Int) (c : Int))) (bits .and .i64 (b : Int) (c : Int)) = ((maj a b c : Nat) : Int) := by
  rw [i64_and_nat _ _ ha hb, i64_and_nat _ _ ha hc, i64_and_nat _ _ hb hc, i64_xor_nat _ _ (and_lt hb) (and_lt hc), i64_xor_nat _ _ (xor_lt (and_lt hb) (and_lt hc)) (and_lt hc)]; rfl

theorem ownI_set {w : World} {B g n cap : Nat} {ws : List Nat} (h : OwnI w B (.slice (some ⟨g, 0, none⟩) n cap) ws) (i y : Nat) : OwnI (w.setCell ⟨g, i, none⟩ (.int .i64 (y : Int))) B (.slice (some ⟨g, 0, none⟩) n cap) (ws.set i y) := by
  rcases h.2 with ⟨hv, _⟩ | ⟨g', cap', cur, hv, hbg, hg, hnc, hcm, hcs, htake⟩
  · cases hv
  · cases hv
    refine ⟨by simp [ints], .inr ⟨g, cap, cur.setIfInBounds i (.int .i64 (y : Int)), by rw [List.length_set], hbg, heap_setCell_same _ _ _ _ _ _ hg, by rw [List.length_set]; exact hnc, hcm, by simpa using hcs, ?_⟩⟩
    rw [List.length_set, Array.toList_setIfInBounds, List.take_set, htake]
    simp [ints, List.map_set]
theorem ownI_frozen {w : World} {B g n cap : Nat} {ws : List Nat} (h : OwnI w B (.slice (some ⟨g, 0, none⟩) n cap) ws) (i : Nat) : w.frozen? ⟨g, i, none⟩ = false := by
  rcases h.2 with ⟨hv, _⟩ | ⟨g', cap', cur, hv, hbg, hg, _⟩
  · cases hv
  · cases hv
    exact frozen_of_row w g i _ _ hg
theorem ownI_below {w w' : World} {B : Nat} {v : Value} {ws : List Nat} (h : OwnI w B v ws) (hb : Below w.heap.size w w') : OwnI w' B v ws :=
  World.ownsRow.kept (row := none) h ⟨hb.os, hb.tape, hb.output, hb.size, fun k hk _ => hb.block k hk⟩ (by cases v.ownBlock <;> simp)
theorem cells_I {w : World} {B g n cap : Nat} {x : St} (h : OwnI w B (.slice (some ⟨g, 0, none⟩) n cap) x.list) :
    w.cell? ⟨g, 0, none⟩ = some (.int .i64 x.a) ∧ w.cell? ⟨g, 1, none⟩ = some (.int .i64 x.b) ∧ w.cell? ⟨g, 2, none⟩ = some (.int .i64 x.c) ∧ w.cell? ⟨g, 3, none⟩ = some (.int .i64 x.d) ∧ w.cell? ⟨g, 4, none⟩ = some (.int .i64 x.e) ∧ w.cell? ⟨g, 5, none⟩ = some (.int .i64 x.f) ∧ w.cell? ⟨g, 6, none⟩ = some (.int .i64 x.g) ∧ w.cell? ⟨g, 7, none⟩ = some (.int .i64 x.q) := by
  refine ⟨ownI_cell h 0 ?_, ownI_cell h 1 ?_, ownI_cell h 2 ?_, ownI_cell h 3 ?_, ownI_cell h 4 ?_, ownI_cell h 5 ?_, ownI_cell h 6 ?_, ownI_cell h 7 ?_⟩ <;> (show _ < 8; decide)
theorem ownI_new {w : World} {B : Nat} (hB : B ≤ w.heap.size) (ws : List Nat) (hm : ws.length ≤ 4294967296) : OwnI (w.alloc (.cells (ints ws).toArray 3)) B (.slice (some ⟨w.heap.size, 0, none⟩) ws.length ws.length) ws :=
  ⟨by simp [ints], .inr ⟨w.heap.size, ws.length, (ints ws).toArray, rfl, hB, heap_alloc_new _ _, Nat.le_refl _, by unfold maxLen; omega, by simp [ints], List.take_of_length_le (by simp [ints])⟩⟩

attribute [local go_sem] setCell_drewN alloc_drewN
attribute [local go_sem] Go.wp_at_zero Go.wp_at_succ

theorem rnd_ref (y : St) (K W A4 T : Nat) (h1 : A4 = y.q + bS1 y.e + cho y.e y.f y.g + K + W) (h2 : T = bS0 y.a + maj y.a y.b y.c) : (⟨(A4 + T) % 4294967296, y.a, y.b, y.c, (y.d + A4) % 4294967296, y.e, y.f, y.g⟩ : St) = y.rnd (W + K) := by
  have e1 : A4 + T = y.q + bS1 y.e + cho y.e y.f y.g + (W + K) + bS0 y.a + maj y.a y.b y.c := by omega
  have e2 : y.d + A4 = y.d + (y.q + bS1 y.e + cho y.e y.f y.g + (W + K)) := by omega
  rw [e1, e2, St.rnd]
theorem St.list_lt {v : St} (h : v.ok) (k : Nat) : v.list.getD k 0 < 4294967296 := by
  obtain ⟨h1, h2, h3, h4, h5, h6, h7, h8⟩ := h
  match k with
  | 0 => exact h1
  | 1 => exact h2
  | 2 => exact h3
  | 3 => exact h4
  | 4 => exact h5
  | 5 => exact h6
  | 6 => exact h7
  | 7 => exact h8
  | n + 8 => simp [St.list]
theorem pl_set (v y : St) (k : Nat) (h : k < 8) : (pl v y k).set k ((v.list.getD k 0 + y.list.getD k 0) % 4294967296) = pl v y (k + 1) := by
  match k, h with
  | 0, _ => rfl
  | 1, _ => rfl
  | 2, _ => rfl
  | 3, _ => rfl
  | 4, _ => rfl
  | 5, _ => rfl
  | 6, _ => rfl
  | 7, _ => rfl
theorem St.add_comm (v y : St) : v.add y = y.add v := by simp only [St.add, Nat.add_comm]

end Go.Proofs.YtabahmnagffnbaaGreatDoor
