import Derived.Test.YtpiponkhhimaoaaGreatDoorDigG
import Derived.Deep.DeepCutAuto
namespace Go.Proofs.YtpiponkhhimaoaaGreatDoor
open Go.RowKit

theorem mixN_pre (v : St) (a b : List UInt8) : ∀ m, 64 * m ≤ a.length → mixN v (a ++ b) m = mixN v a m
  | 0, _ => rfl
  | m + 1, h => by
    rw [mixN, mixN, mixN_pre v a b m (by omega), List.drop_append_of_le_length (by omega), List.take_append_of_le_length (by simp; omega)]
theorem mixN_add (v : St) (a b : List UInt8) (m : Nat) (h : a.length = 64 * m) : ∀ k, mixN v (a ++ b) (m + k) = mixN (mixN v a m) b k
  | 0 => mixN_pre v a b m (by omega)
  | k + 1 => by
    rw [← Nat.add_assoc, mixN, mixN, mixN_add v a b m h k, show 64 * (m + k) = a.length + 64 * k from by omega, List.drop_append, show a.drop (a.length + 64 * k) = [] from List.drop_eq_nil_of_le (by omega)]
    simp
theorem fil_len (l : List UInt8) (n : Nat) : (fil l n).length % 64 = 0 := by
  simp only [fil, List.length_append, List.length_cons, List.length_nil, List.length_replicate, lenBs_len, zer]
  omega
theorem fil_le (l : List UInt8) (n : Nat) (h : l.length ≤ 64) : (fil l n).length ≤ 200 := by
  simp only [fil, List.length_append, List.length_cons, List.length_nil, List.length_replicate, lenBs_len, zer]
  omega
theorem fil_split (a b : List UInt8) (n m : Nat) (h : a.length = 64 * m) : fil (a ++ b) n = a ++ fil b n := by
  have e : zer (a ++ b).length = zer b.length := by simp only [zer, List.length_append, h]; omega
  simp only [fil, e, List.append_assoc]
/-- The digest of a text. -/
def sha (l : List UInt8) : List UInt8 := hexs (mixN H0 (fil l l.length) ((fil l l.length).length / 64)).list 8
theorem sha_split (a b : List UInt8) (m : Nat) (h : a.length = 64 * m) :
    sha (a ++ b) = hexs (mixN (mixN H0 a m) (fil b (a ++ b).length) ((fil b (a ++ b).length).length / 64)).list 8 := by
  unfold sha
  rw [fil_split a b _ m h, ← mixN_add H0 a _ m h]
  congr 3
  rw [List.length_append, h]
  have := fil_len b (a ++ b).length
  omega
theorem sha_len (l : List UInt8) : (sha l).length = 64 := by rw [sha, hexs_len _ _ (by simp [St.list])]

theorem mixAll_at (v : St) (hv : v.ok) (s : ByteArray) (n : Nat) (hs : s.size = 64 * n) (hn : n ≤ 1073741824) (w : World) (hK : KsLie w) :
    Calls Tryz.prog 151 #[.agg #[.int .u32 v.a, .int .u32 v.b, .int .u32 v.c, .int .u32 v.d, .int .u32 v.e, .int .u32 v.f, .int .u32 v.g, .int .u32 v.q], .string s] w fun ev w' => ∃ y : St, ev = .returned (.agg #[.int .u32 y.a, .int .u32 y.b, .int .u32 y.c, .int .u32 y.d, .int .u32 y.e, .int .u32 y.f, .int .u32 y.g, .int .u32 y.q]) ∧ Hid (y = mixN v s.data.toList n) ∧ Below w.heap.size w w' := by
  refine (mixAll_any v hv s n hs hn w hK).mono ?_
  rintro ev w' ⟨rfl, hb⟩
  exact ⟨_, rfl, hide rfl, hb⟩
theorem start_at (w : World) : Calls Tryz.prog 152 #[] w fun ev w' => ∃ y : St, ev = .returned (.agg #[.int .u32 y.a, .int .u32 y.b, .int .u32 y.c, .int .u32 y.d, .int .u32 y.e, .int .u32 y.f, .int .u32 y.g, .int .u32 y.q]) ∧ Hid (y = H0) ∧ Below w.heap.size w w' := by
  refine (start_any w).mono ?_
  rintro ev w' ⟨rfl, hb⟩
  exact ⟨_, rfl, hide rfl, hb⟩

attribute [local go_sem] setCell_drewN alloc_drewN
attribute [local go_sem] Go.wp_at_zero Go.wp_at_succ

set_option maxHeartbeats 1000000 in
set_option maxRecDepth 100000 in
theorem of_any (s : ByteArray) (hs : s.size ≤ 1073741824) (w : World) (hK : KsLie w) :
    Calls Tryz.prog 100 #[.string s] w fun ev w' => ev = .returned (.string ⟨(sha s.data.toList).toArray⟩) ∧ Below w.heap.size w w' := by
  have HK := hide hK
  obtain ⟨m, hm⟩ : ∃ m, m = s.size / 64 := ⟨_, rfl⟩
  have hw : (s.size : Int) - (s.size : Int) % 64 = ((64 * m : Nat) : Int) := by omega
  have hm1 : 64 * m ≤ s.size := by omega
  clear hK hm
  go_enter Tryz.func100, Tryz.ntmps100
  go_upto_region 2 with fail
  go_cut [4] (fun p wx => ∃ (g : Nat) (y : St), p = .pointer (some ⟨g, 0, none⟩) ∧ wx.heap[g]? = some (.cells y.arr 241 (0, 0)) ∧ w.heap.size ≤ g ∧ Hid (y = mixN H0 (s.data.toList.take (64 * m)) m) ∧ Below w.heap.size w wx)
  case first =>
    go_region_with (first
      | (go_at_call 152; refine (start_at _).mono ?_; rintro ev w1 ⟨x, rfl, HX, hb1⟩; first
        | (have hz1 := hb1.block w.heap.size (by simp); have hq1 := hz1.trans (heap_alloc_new _ _); obtain ⟨⟨d0, d1, d2, d3, d4, d5, d6, d7⟩, fz⟩ := cells8 (x := ⟨0, 0, 0, 0, 0, 0, 0, 0⟩) hq1; have hB1 := hide (chainA hb1); clear hz1 hb1)
        | (have hB1 := hide (chain0 hb1); clear hb1))
      | (go_at_call 151; refine (mixAll_at x ?_ _ m ?_ ?_ _ ?_).mono ?_; (rw [unhide HX]; exact H0_ok); (rw [ByteArray.size_extract]; omega); omega; (first | exact (unhide HK).below (unhide hB1) | exact (unhide HK).below ((unhide hB1).alloc (unhide hB1).size _)); rintro ev w2 ⟨y, rfl, HY, hb2⟩; first
        | (have hq2 := (hb2.block w.heap.size (Array.getElem?_eq_some_iff.1 hq1).1).trans hq1; obtain ⟨⟨e0, e1, e2, e3, e4, e5, e6, e7⟩, fz2⟩ := cells8 (x := ⟨0, 0, 0, 0, 0, 0, 0, 0⟩) hq2; have hB2 := hide ((unhide hB1).trans (hb2.mono (unhide hB1).size)); clear hb2)
        | (have hq2 := (hb2.block w1.heap.size (by simp)).trans (heap_alloc_new _ _); obtain ⟨⟨e0, e1, e2, e3, e4, e5, e6, e7⟩, fz2⟩ := cells8 (x := ⟨0, 0, 0, 0, 0, 0, 0, 0⟩) hq2; have hB2 := hide (((unhide hB1).alloc (unhide hB1).size _).trans (hb2.mono (Nat.le_trans (unhide hB1).size (by simp)))); clear hb2)
        | (have hB2 := hide ((unhide hB1).trans (hb2.mono (unhide hB1).size)); clear hb2)))
    all_goals
      have hy : y = mixN H0 (s.data.toList.take (64 * m)) m := by
        have e := unhide HY
        rw [Lib.extract_data, unhide HX] at e
        simpa using e
      go_wp2_with fail
      go_meet
      refine ⟨_, y, rfl, ?_, ?_, hide hy, ?_⟩
      · first
          | (have hh := block8 (x := ⟨0, 0, 0, 0, 0, 0, 0, 0⟩) y hq2; exact hh)
          | exact heap_alloc_new _ _
      · first
          | (have hh := hq1; exact Nat.le_refl _)
          | (have hh := hq2; exact (unhide hB1).size)
          | exact (unhide hB2).size
      · first
          | (have hh := hq1; exact below8 y (unhide hB2) (Nat.le_refl _))
          | (have hh := hq2; exact below8 y (unhide hB2) (unhide hB1).size)
          | exact (unhide hB2).alloc (unhide hB2).size _
  case rest =>
    obtain ⟨g, y, rfl, hq, hg, HY, hB⟩ := hcut
    have hgl := (Array.getElem?_eq_some_iff.1 hq).1
    obtain ⟨⟨c0, c1, c2, c3, c4, c5, c6, c7⟩, fz⟩ := cells8 hq
    go_upto_region 3 with fail
    obtain ⟨F, HF⟩ : ∃ F, Hid (F = fil (List.take (s.size - 64 * m) (List.drop (64 * m) s.data.toList)) s.size) := ⟨_, hide rfl⟩
    have HFs : Hid (F.length = 64 * (F.length / 64)) := hide (by have := fil_len (List.take (s.size - 64 * m) (List.drop (64 * m) s.data.toList)) s.size; rw [← unhide HF] at this; omega)
    have HFl : Hid (F.length ≤ 200) := hide (by rw [unhide HF]; refine fil_le _ _ ?_; rw [List.length_take]; omega)
    go_cut [] (fun wx => ∃ z : St, wx.heap[g]? = some (.cells z.arr 241 (0, 0)) ∧ Hid (z = mixN y F (F.length / 64)) ∧ Below w.heap.size w wx)
    case first =>
      go_region_with (first
        | (go_at_call 153; refine (filled_any _ s.size ?_ ?_ _).mono ?_; (rw [ByteArray.size_extract]; omega); omega; rintro ev w3 ⟨rfl, hb3⟩; have hB3 := hide (hB.trans (Below.mono (B' := w.heap.size) (chain0 hb3) hB.size)); have hq3 := ((chain0 hb3).block g hgl).trans hq; obtain ⟨⟨d0, d1, d2, d3, d4, d5, d6, d7⟩, fz3⟩ := cells8 hq3; have hgl3 := (Array.getElem?_eq_some_iff.1 hq3).1; clear hb3)
        | (go_at_call 151; refine (mixAll_at y ?_ _ (F.length / 64) ?_ ?_ _ ?_).mono ?_; (rw [unhide HY]; exact mixN_ok H0_ok _ _); (have hh := unhide HFs; rw [unhide HF] at hh ⊢; rw [Lib.size_eq]; exact hh); (have := unhide HFl; omega); exact (unhide HK).below (unhide hB3); rintro ev w4 ⟨z, rfl, HZ, hb4⟩; have hq4 := (hb4.block g hgl3).trans hq3; obtain ⟨⟨e0, e1, e2, e3, e4, e5, e6, e7⟩, fz4⟩ := cells8 hq4; have hB4 := hide ((unhide hB3).trans (hb4.mono (unhide hB3).size)); clear hb4))
      all_goals
        have hz : z = mixN y F (F.length / 64) := by
          have e := unhide HZ
          rw [← unhide HF] at e
          exact e
        go_wp2_with fail
        go_meet
        refine ⟨z, ?_, hide hz, ?_⟩
        · have hh := block8 z hq4
          exact hh
        · exact below8 z (unhide hB4) hg
    case rest =>
      obtain ⟨z, hqz, HZ, hBz⟩ := hcut
      obtain ⟨⟨d0, d1, d2, d3, d4, d5, d6, d7⟩, fz3⟩ := cells8 hqz
      have hzo : z.ok := by rw [unhide HZ]; exact mixN_ok (by rw [unhide HY]; exact mixN_ok H0_ok _ _) _ _
      go_wp2_with (go_at_call 154; refine (hex_any z hzo _).mono ?_; rintro ev w5 ⟨rfl, hb5⟩)
      go_ret
      refine ⟨?_, hBz.trans (hb5.mono hBz.size)⟩
      have hts : s.data.toList.take (64 * m) ++ s.data.toList.drop (64 * m) = s.data.toList := List.take_append_drop _ _
      have hln : s.data.toList.length = s.size := (Lib.size_eq s).symm
      have hsp := sha_split (s.data.toList.take (64 * m)) (s.data.toList.drop (64 * m)) m (by rw [List.length_take]; omega)
      rw [hts, hln] at hsp
      have hF := unhide HF
      rw [List.take_of_length_le (by rw [List.length_drop]; omega)] at hF
      have hE : sha s.data.toList = hexs z.list 8 := by rw [hsp, unhide HZ, unhide HY, ← hF]
      rw [hE]
      rfl
end Go.Proofs.YtpiponkhhimaoaaGreatDoor
