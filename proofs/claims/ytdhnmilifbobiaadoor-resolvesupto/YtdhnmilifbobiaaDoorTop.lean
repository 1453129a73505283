import Derived.Test.YtdhnmilifbobiaaDoorTell
import Derived.Test.YtdhnmilifbobiaaDoorRefa
import Derived.Test.YtdhnmilifbobiaaDoorRefb
import Derived.Test.YtdhnmilifbobiaaDoorRefc
import Derived.Test.YtdhnmilifbobiaaDoorRefd
import Derived.Test.YtdhnmilifbobiaaDoorPra
import Derived.Test.YtdhnmilifbobiaaDoorPrb
import Derived.Test.YtdhnmilifbobiaaDoorPrc
namespace Go.Proofs.YtdhnmilifbobiaaDoor
open Go.RowKit

theorem ref_any (s t : ByteArray) (w : World) (hs : s.size ≤ 1073741824) (ht : t.size ≤ 1073741824) :
    Calls Tryd.prog 5 #[.string s, .string t] w fun e w' => e = .returned (.tuple #[.string (bs ((res s.data.toList t.data.toList).getD [])), .bool (res s.data.toList t.data.toList).isSome]) ∧ Below w.heap.size w w' := by
  by_cases hsl : t.data.toList.head? = some 47
  · exact ref_slash s t w ht hsl
  · by_cases hE : s.data.toList = []
    · rcases head_not hsl with h | ⟨h, h0, h47⟩
      · exact ref_a s t w hs ht hsl hE h
      · exact ref_b s t w hs ht hsl hE h h0 h47
    · rcases head_not hsl with h | ⟨h, h0, h47⟩
      · exact ref_c s t w hs ht hsl hE h
      · exact ref_d s t w hs ht hsl hE h h0 h47

theorem paths_any (s t : ByteArray) (m : Int) (w : World) (hs : s.size ≤ 1073741824) (ht : t.size ≤ 1073741824) (hm : w.cell? ⟨1, 0, none⟩ = some (.int .i64 m)) :
    Calls Tryd.prog 13 #[.string s, .string t] w fun e w' => e = .returned (.tuple #[.string (bs ((resP s.data.toList t.data.toList).getD [])), errV (resP s.data.toList t.data.toList)]) ∧ Below w.heap.size w w' := by
  cases h : isP s.data.toList
  · exact paths_bad s t m w hm h
  · by_cases hsl : t.data.toList.head? = some 47
    · exact paths_slash s t m w hs ht hm h hsl
    · by_cases hE : s.data.toList = []
      · exact paths_nil s t m w hs ht hm h hsl hE
      · exact paths_row s t m w hs ht hm h hsl hE

set_option maxHeartbeats 1000000 in
theorem tell_nil (w : World) : Calls Tryd.prog 8 #[.nilIface] w fun e w' => e = .returned (.tuple #[.int .i64 0, .int .i64 (-1)]) ∧ Below w.heap.size w w' := by
  go_enter Tryd.func8, Tryd.ntmps8
  go_wp2
  go_ret2
  exact ⟨rfl, ((Below.refl _ _).alloc (Nat.le_refl _) _).alloc (by simp) _⟩

theorem as_miss_b (n : Int) (t : Addr) (w : World) (hg : w.cell? ⟨0, 0, none⟩ = some (.iface 72 (.agg #[.pointer (some ⟨4, 30, none⟩)]))) :
    Calls Tryd.prog 14 #[.iface 22 (.int .i64 n), .iface 41 (.pointer (some t))] w fun ev w' => ev = .returned (.bool false) ∧ Below w.heap.size w w' := by
  refine (as_miss n t w hg).mono ?_
  rintro e w' ⟨rfl, rfl⟩
  exact ⟨rfl, (((Below.refl _ _).alloc (Nat.le_refl _) _).alloc (by simp) _).alloc (by simp; omega) _⟩
theorem as_hit_b (n : Int) (t : Addr) (old : Value) (B : Nat) (w : World) (hg : w.cell? ⟨0, 0, none⟩ = some (.iface 72 (.agg #[.pointer (some ⟨4, 30, none⟩)]))) (ht0 : w.cell? t = some old) (hf0 : w.frozen? t = false) (hB : B ≤ t.block) :
    Calls Tryd.prog 14 #[.iface 22 (.int .i64 n), .iface 44 (.pointer (some t))] w fun ev w' => ev = .returned (.bool true) ∧ w'.cell? t = some (.int .i64 n) ∧ Below B w w' := by
  have htl : t.block < w.heap.size := World.block_lt_of_cell? _ _ ht0
  refine (as_hit n t old w hg ht0 hf0).mono ?_
  rintro e w' ⟨rfl, rfl⟩
  refine ⟨rfl, ?_, (((((Below.refl _ _).alloc (by omega) _).alloc (by simp; omega) _).alloc (by simp; omega) _).alloc (by simp; omega) _).setCell hB _⟩
  refine World.cell?_setCell_same _ _ _ (u := old) (by rw [World.cell?_alloc_lt _ _ t (by simp; omega), World.cell?_alloc_lt _ _ t (by simp; omega), World.cell?_alloc_lt _ _ t (by simp; omega), World.cell?_alloc_lt _ _ t htl]; exact ht0)

set_option maxHeartbeats 2000000 in
theorem tell_errno (n : Int) (w : World) (hg : w.cell? ⟨0, 0, none⟩ = some (.iface 72 (.agg #[.pointer (some ⟨4, 30, none⟩)]))) : Calls Tryd.prog 8 #[.iface 22 (.int .i64 n)] w fun e w' => e = .returned (.tuple #[.int .i64 n, .int .i64 (-1)]) ∧ Below w.heap.size w w' := by
  have hlt : 0 < w.heap.size := World.block_lt_of_cell? _ _ hg
  go_enter Tryd.func8, Tryd.ntmps8
  go_wp2_with fail
  refine (as_miss_b n _ _ ?hgA).mono ?_
  case hgA => rw [World.cell?_alloc_lt _ _ ⟨0, 0, none⟩ (by simp), World.cell?_alloc_lt _ _ ⟨0, 0, none⟩ hlt]; exact hg
  rintro e w1 ⟨rfl, hb1⟩
  have hg1 : w1.cell? ⟨0, 0, none⟩ = some (.iface 72 (.agg #[.pointer (some ⟨4, 30, none⟩)])) := by
    rw [hb1.cell (p := ⟨0, 0, none⟩) (by simp), World.cell?_alloc_lt _ _ ⟨0, 0, none⟩ (by simp), World.cell?_alloc_lt _ _ ⟨0, 0, none⟩ hlt]; exact hg
  have ht1 : w1.cell? ⟨w.heap.size + 1, 0, none⟩ = some (.int .i64 0) := by
    rw [hb1.cell (p := ⟨w.heap.size + 1, 0, none⟩) (by simp)]; simp
  have hf1 : w1.frozen? ⟨w.heap.size + 1, 0, none⟩ = false := by
    rw [hb1.frozen (p := ⟨w.heap.size + 1, 0, none⟩) (by simp)]; simp
  have hbw : Below w.heap.size w w1 := (((Below.refl _ _).alloc (Nat.le_refl _) _).alloc (by simp) _).trans (hb1.mono (by simp; omega))
  clear hb1
  go_wp2_with fail
  refine (as_hit_b n _ _ w.heap.size _ hg1 ht1 hf1 (by simp)).mono ?_
  rintro e w2 ⟨rfl, hc2, hb2⟩
  go_wp2
  go_ret2
  exact ⟨rfl, hbw.trans hb2⟩

set_option maxHeartbeats 400000 in
theorem layers_any (s t : ByteArray) (m : Int) (w : World) (hs : s.size ≤ 1073741824) (ht : t.size ≤ 1073741824) (hm : w.cell? ⟨1, 0, none⟩ = some (.int .i64 m)) :
    Calls Tryd.prog 7 #[.string s, .string t] w fun e w' => e = .returned (.tuple #[.string (bs ((resP s.data.toList t.data.toList).getD [])), errV (resP s.data.toList t.data.toList)]) ∧ Below w.heap.size w w' := by
  go_enter Tryd.func7, Tryd.ntmps7
  go_wp2_with (go_at_call 13; refine (paths_any _ _ m _ hs ht hm).mono ?_; rintro e w1 ⟨rfl, hb1⟩)
  go_ret2
  exact ⟨rfl, hb1⟩

/-- What the walks want of the world: the two variables' cells. -/
def Fit (m : Int) (w : World) : Prop := w.cell? ⟨1, 0, none⟩ = some (.int .i64 m) ∧ w.cell? ⟨0, 0, none⟩ = some (.iface 72 (.agg #[.pointer (some ⟨4, 30, none⟩)]))
theorem Fit.below {m : Int} {w w' : World} (h : Fit m w) (hb : Below w.heap.size w w') : Fit m w' :=
  ⟨cell_later hb h.1, cell_later hb h.2⟩

set_option maxHeartbeats 400000 in
theorem plain_some (s t : ByteArray) (x : List UInt8) (m : Int) (w : World) (hs : s.size ≤ 1073741824) (ht : t.size ≤ 1073741824) (hf : Fit m w) (hx : resP s.data.toList t.data.toList = some x) :
    Calls Tryd.prog 4 #[.string s, .string t] w fun e w' => e = .returned (.tuple #[.string (bs x), .int .i64 0, .int .i64 (-1)]) ∧ Below w.heap.size w w' := by
  have hc := layers_any s t m w hs ht hf.1
  rw [hx] at hc
  have HC := hide hc
  clear hc hx hf
  go_enter Tryd.func4, Tryd.ntmps4
  go_wp2_with (first
    | (go_at_call 7; refine (unhide HC).mono ?_; rintro e w1 ⟨rfl, hb1⟩; simp only [errV, Option.getD_some])
    | (go_at_call 8; refine (tell_nil _).mono ?_; rintro e w2 ⟨rfl, hb2⟩))
  go_ret3
  exact ⟨rfl, hb1.trans (hb2.mono hb1.size)⟩

set_option maxHeartbeats 400000 in
theorem plain_none (s t : ByteArray) (m : Int) (w : World) (hs : s.size ≤ 1073741824) (ht : t.size ≤ 1073741824) (hf : Fit m w) (hx : resP s.data.toList t.data.toList = none) :
    Calls Tryd.prog 4 #[.string s, .string t] w fun e w' => e = .returned (.tuple #[.string ⟨#[]⟩, .int .i64 1, .int .i64 (-1)]) ∧ Below w.heap.size w w' := by
  have hc := layers_any s t m w hs ht hf.1
  rw [hx] at hc
  have HC := hide hc
  have HF := hide hf
  clear hc hx hf
  go_enter Tryd.func4, Tryd.ntmps4
  go_wp2_with (first
    | (go_at_call 7; refine (unhide HC).mono ?_; rintro e w1 ⟨rfl, hb1⟩; have hg1 := (Fit.below (unhide HF) hb1).2; simp only [errV, Option.getD_none])
    | (go_at_call 8; refine (tell_errno _ _ hg1).mono ?_; rintro e w2 ⟨rfl, hb2⟩))
  go_ret3
  exact ⟨rfl, hb1.trans (hb2.mono hb1.size)⟩

theorem known_res : resP [97, 47, 98] [46, 46, 47, 99, 47, 47, 46, 47, 100] = some [97, 47, 99, 47, 100] := by decide +kernel

theorem known_txt : ((bs [97, 47, 99, 47, 100]).toList == [97, 47, 99, 47, 100]) = true := by rw [Lib.toList_data]; decide
theorem same_txt (x : List UInt8) : ((bs x).toList == (bs x).toList) = true := by simp

set_option maxHeartbeats 1000000 in
theorem law_none (s t : ByteArray) (m : Int) (w : World) (hs : s.size ≤ 1073741824) (ht : t.size ≤ 1073741824) (hf : Fit m w) (hx : resP s.data.toList t.data.toList = none) (hr : isP s.data.toList = true → res s.data.toList t.data.toList = none) :
    Calls Tryd.prog 3 #[.string s, .string t] w fun e w' => e = .returned (.bool true) ∧ Below w.heap.size w w' := by
  have HF := hide hf
  have HX := hide hx
  have hq : isP s.data.toList = false ∨ (isP s.data.toList = true ∧ (res s.data.toList t.data.toList).isSome = false) := by
    cases h : isP s.data.toList
    · exact .inl rfl
    · exact .inr ⟨rfl, by rw [hr h]; rfl⟩
  clear hf hx hr
  have hkn := known_txt
  rcases hq with hq | ⟨hq, hr⟩
  all_goals
    go_enter Tryd.func3, Tryd.ntmps3
    go_wp2_with fail
    refine (plain_some ⟨#[97, 47, 98]⟩ ⟨#[46, 46, 47, 99, 47, 47, 46, 47, 100]⟩ [97, 47, 99, 47, 100] m _ (by decide) (by decide) (unhide HF) known_res).mono ?_
    rintro e w1 ⟨rfl, hb1⟩
    have HF1 := hide ((unhide HF).below hb1)
    go_wp2_with fail
    refine (plain_none s t m _ hs ht (unhide HF1) (unhide HX)).mono ?_
    rintro e w2 ⟨rfl, hb2⟩
    go_wp2_with (first
      | (go_at_call 5; refine (ref_any _ _ _ hs ht).mono ?_; rintro e w3 ⟨rfl, hb3⟩)
      | (go_at_call 6; refine (isPath_any _ _ (by omega)).mono ?_; rintro e w4 ⟨rfl, hb4⟩))
    go_ret
    exact ⟨rfl, ((hb1.trans (hb2.mono hb1.size)).trans (hb3.mono (Nat.le_trans hb1.size hb2.size))).trans (hb4.mono (Nat.le_trans hb1.size (Nat.le_trans hb2.size hb3.size)))⟩

set_option maxHeartbeats 1000000 in
theorem law_some (s t : ByteArray) (x : List UInt8) (m : Int) (w : World) (hs : s.size ≤ 1073741824) (ht : t.size ≤ 1073741824) (hf : Fit m w) (hq : isP s.data.toList = true) (hx : res s.data.toList t.data.toList = some x) :
    Calls Tryd.prog 3 #[.string s, .string t] w fun e w' => e = .returned (.bool true) ∧ Below w.heap.size w w' := by
  have HF := hide hf
  have HX := hide ((res_same hq).trans hx)
  have hrf := ref_any s t
  rw [hx] at hrf
  have HR := hide hrf
  clear hf hx hrf
  have hkn := known_txt
  have hsm := same_txt x
  go_enter Tryd.func3, Tryd.ntmps3
  go_wp2_with fail
  refine (plain_some ⟨#[97, 47, 98]⟩ ⟨#[46, 46, 47, 99, 47, 47, 46, 47, 100]⟩ [97, 47, 99, 47, 100] m _ (by decide) (by decide) (unhide HF) known_res).mono ?_
  rintro e w1 ⟨rfl, hb1⟩
  have HF1 := hide ((unhide HF).below hb1)
  go_wp2_with fail
  refine (plain_some s t x m _ hs ht (unhide HF1) (unhide HX)).mono ?_
  rintro e w2 ⟨rfl, hb2⟩
  go_wp2_with (first
    | (go_at_call 5; refine (unhide HR _ hs ht).mono ?_; rintro e w3 ⟨rfl, hb3⟩)
    | (go_at_call 6; refine (isPath_any _ _ (by omega)).mono ?_; rintro e w4 ⟨rfl, hb4⟩))
  go_ret
  exact ⟨rfl, ((hb1.trans (hb2.mono hb1.size)).trans (hb3.mono (Nat.le_trans hb1.size hb2.size))).trans (hb4.mono (Nat.le_trans hb1.size (Nat.le_trans hb2.size hb3.size)))⟩

theorem law_any (s t : ByteArray) (m : Int) (w : World) (hs : s.size ≤ 1073741824) (ht : t.size ≤ 1073741824) (hf : Fit m w) :
    Calls Tryd.prog 3 #[.string s, .string t] w fun e w' => e = .returned (.bool true) ∧ Below w.heap.size w w' := by
  cases hq : isP s.data.toList
  · exact law_none s t m w hs ht hf (by simp [resP, hq]) (fun h => by rw [hq] at h; cases h)
  · cases hx : res s.data.toList t.data.toList with
    | none => exact law_none s t m w hs ht hf ((res_same hq).trans hx) (fun _ => hx)
    | some x => exact law_some s t x m w hs ht hf hq hx
end Go.Proofs.YtdhnmilifbobiaaDoor
