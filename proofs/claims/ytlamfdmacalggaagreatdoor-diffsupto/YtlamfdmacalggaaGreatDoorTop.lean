import Derived.Test.YtlamfdmacalggaaGreatDoorTell
import Derived.Test.YtlamfdmacalggaaGreatDoorRefH
namespace Go.Proofs.YtlamfdmacalggaaGreatDoor
open Go.RowKit Go.Maps

theorem as_hit_b (q t : Addr) (old : Value) (B : Nat) (w : World) (hg : w.cell? ⟨0, 0, none⟩ = some (.iface 134 (.agg #[.pointer (some ⟨8, 43, none⟩)]))) (ht0 : w.cell? t = some old) (hf0 : w.frozen? t = false) (hB : B ≤ t.block) :
    Calls Tryz.prog 36 #[.iface 71 (.pointer (some q)), .iface 73 (.pointer (some t))] w fun ev w' => ev = .returned (.bool true) ∧ w'.cell? t = some (.pointer (some q)) ∧ Below B w w' := by
  have htl : t.block < w.heap.size := World.block_lt_of_cell? _ _ ht0
  refine (as_hit q t old w hg ht0 hf0).mono ?_
  rintro e w' ⟨rfl, rfl⟩
  refine ⟨rfl, ?_, (((((Below.refl _ _).alloc (by omega) _).alloc (by simp; omega) _).alloc (by simp; omega) _).alloc (by simp; omega) _).setCell hB _⟩
  refine World.cell?_setCell_same _ _ _ (u := old) (by rw [World.cell?_alloc_lt _ _ t (by simp; omega), World.cell?_alloc_lt _ _ t (by simp; omega), World.cell?_alloc_lt _ _ t (by simp; omega), World.cell?_alloc_lt _ _ t htl]; exact ht0)
set_option maxHeartbeats 2000000 in
theorem tell_at (q : Nat) (e n : Int) (w : World) (hg : w.cell? ⟨0, 0, none⟩ = some (.iface 134 (.agg #[.pointer (some ⟨8, 43, none⟩)]))) (h0 : w.cell? ⟨q, 0, none⟩ = some (.int .i64 e)) (h1 : w.cell? ⟨q, 1, none⟩ = some (.int .i64 n)) :
    Calls Tryz.prog 18 #[.iface 71 (.pointer (some ⟨q, 0, none⟩))] w fun ev w' => ev = .returned (.tuple #[.int .i64 e, .int .i64 n]) ∧ Below w.heap.size w w' := by
  have hlt : 0 < w.heap.size := World.block_lt_of_cell? _ _ hg
  have hq : q < w.heap.size := World.block_lt_of_cell? _ _ h0
  go_enter Tryz.func18, Tryz.ntmps18
  go_wp2_with fail
  refine (as_hit_b ⟨q, 0, none⟩ ⟨w.heap.size, 0, none⟩ (.pointer none) w.heap.size _ ?hgA ?htA ?hfA (Nat.le_refl _)).mono ?_
  case hgA => rw [World.cell?_alloc_lt _ _ ⟨0, 0, none⟩ (by simp), World.cell?_alloc_lt _ _ ⟨0, 0, none⟩ hlt]; exact hg
  case htA => rw [World.cell?_alloc_lt _ _ ⟨w.heap.size, 0, none⟩ (by simp)]; simp
  case hfA => rw [World.frozen?_alloc_old _ _ ⟨w.heap.size, 0, none⟩ (by simp)]; simp
  rintro ev w1 ⟨rfl, hc1, hb1⟩
  have hbw : Below w.heap.size w w1 := (((Below.refl _ _).alloc (Nat.le_refl _) _).alloc (by simp) _).trans hb1
  have d0 : w1.cell? ⟨q, 0, none⟩ = some (.int .i64 e) := cell_later hbw h0
  have d1 : w1.cell? ⟨q, 1, none⟩ = some (.int .i64 n) := cell_later hbw h1
  clear hb1
  go_upto_region 6 with fail
  go_quiet (fail)
  go_wp2
  go_ret2
  exact ⟨rfl, hbw.os, hbw.tape, hbw.output, hbw.size, hbw.block⟩
/-- What is laid, and what is told of the world ahead of a call. -/
structure Laid (w : World) : Prop where
  err : w.cell? ⟨0, 0, none⟩ = some (.iface 134 (.agg #[.pointer (some ⟨8, 43, none⟩)]))
  max : ∃ m : Int, w.cell? ⟨2, 0, none⟩ = some (.int .i64 m)
theorem Laid.below {w w' : World} (h : Laid w) (hb : Below w.heap.size w w') : Laid w' := by
  obtain ⟨m, hm⟩ := h.max
  exact ⟨cell_later hb h.err, m, cell_later hb hm⟩
/-- The answers of 'layers.Diff'. -/
def LDiffIs (w : World) (xa xb : List Ent) (v er : Value) : Prop :=
  (∃ (i q : Nat), (FirstBad xa i ∨ (FirstBad xa (-1) ∧ FirstBad xb i)) ∧ v = .slice none 0 0 ∧ er = .iface 71 (.pointer (some ⟨q, 0, none⟩)) ∧ w.cell? ⟨q, 0, none⟩ = some (.int .i64 2) ∧ w.cell? ⟨q, 1, none⟩ = some (.int .i64 (i : Int))) ∨
  (FirstBad xa (-1) ∧ FirstBad xb (-1) ∧ er = .nilIface ∧ ∃ B, OwnC w B v (diffF xa xb))
theorem ldiff_any (ao bo : Option Addr) (ca cb na nb : Nat) (xa xb : List Ent) (w : World) (ha : ERow w ao xa) (hb : ERow w bo xb) (HNa : Hid (na = xa.length)) (HNb : Hid (nb = xb.length)) (hna : na ≤ 4294967280) (hnb : nb ≤ 4294967280) (HSa : Hid (Small xa)) (HSb : Hid (Small xb)) (hl : Laid w) :
    Calls Tryz.prog 26 #[.slice ao na ca, .slice bo nb cb] w fun ev w' => ∃ v er, ev = .returned (.tuple #[v, er]) ∧ Hid (LDiffIs w' xa xb v er) ∧ Below w.heap.size w w' := by
  obtain ⟨m, hm⟩ := hl.max
  have HM := hide hm
  have hOa := of_tree ao ca na xa m w ha HNa hna HSa hm
  clear hl
  go_enter Tryz.func26, Tryz.ntmps26
  go_upto_region 2 with (go_at_call 34; refine hOa.mono ?_; clear hOa; rintro ev w1 ⟨v1, e1, rfl, HO1, hb1⟩)
  rcases unhide HO1 with ⟨r, ns, rfl, rfl, hE, hMm, hF⟩ | ⟨i, q, rfl, rfl, c0, c1, hF⟩
  · have HT1 : Hid (Tr w1 w.heap.size r ns xa) := hide ⟨hMm, hE, tree_of hF (unhide HSa)⟩
    have HF1 := hide hF
    have hOb := of_tree bo cb nb xb m w1 (hb.below hb1) HNb hnb HSb (cell_later hb1 (unhide HM))
    clear HO1 hE hMm hF ha hb hm
    go_upto_region 5 with (go_at_call 34; refine hOb.mono ?_; clear hOb; rintro ev w2 ⟨v2, e2, rfl, HO2, hb2⟩)
    have hB2 : Below w.heap.size w w2 := hb1.trans (hb2.mono hb1.size)
    rcases unhide HO2 with ⟨r2, ms, rfl, rfl, hE2, hMm2, hF2⟩ | ⟨i, q, rfl, rfl, c0, c1, hF2⟩
    · have HT2 : Hid (Tr w2 w1.heap.size r2 ms xb) := hide ⟨hMm2, hE2, tree_of hF2 (unhide HSb)⟩
      have HF2 := hide hF2
      have hD := diff_any m w2 ((unhide HT1).below hb2) (unhide HT2) (cell_later hB2 (unhide HM))
      clear HO2 hE2 hMm2 hF2
      go_wp2_with (go_at_call 45; refine hD.mono ?_; clear hD; rintro ev w3 ⟨v3, rfl, hO3, hb3⟩)
      go_ret2
      exact ⟨_, _, rfl, hide (.inr ⟨unhide HF1, unhide HF2, rfl, _, hO3⟩), hB2.trans (hb3.mono hB2.size)⟩
    · have HF2 := hide hF2
      clear HO2 hF2
      go_wp2_with fail
      go_ret2
      exact ⟨_, _, rfl, hide (.inl ⟨i, q, .inr ⟨unhide HF1, unhide HF2⟩, rfl, rfl, c0, c1⟩), hB2⟩
  · have HF1 := hide hF
    clear HO1 hF ha hb hm
    go_wp2_with fail
    go_ret2
    exact ⟨_, _, rfl, hide (.inl ⟨i, q, .inl (unhide HF1), rfl, rfl, c0, c1⟩), hb1⟩
/-- The answers of 'plain.Diff'. -/
def PDiffIs (w : World) (xa xb : List Ent) (v : Value) (e n : Int) : Prop :=
  (∃ i : Nat, (FirstBad xa i ∨ (FirstBad xa (-1) ∧ FirstBad xb i)) ∧ v = .slice none 0 0 ∧ e = 2 ∧ n = i) ∨
  (FirstBad xa (-1) ∧ FirstBad xb (-1) ∧ e = 0 ∧ n = -1 ∧ ∃ B, OwnC w B v (diffF xa xb))
theorem pdiff_any (ao bo : Option Addr) (ca cb na nb : Nat) (xa xb : List Ent) (w : World) (ha : ERow w ao xa) (hb : ERow w bo xb) (HNa : Hid (na = xa.length)) (HNb : Hid (nb = xb.length)) (hna : na ≤ 4294967280) (hnb : nb ≤ 4294967280) (HSa : Hid (Small xa)) (HSb : Hid (Small xb)) (hl : Laid w) :
    Calls Tryz.prog 9 #[.slice ao na ca, .slice bo nb cb] w fun ev w' => ∃ (v : Value) (e n : Int), ev = .returned (.tuple #[v, .int .i64 e, .int .i64 n]) ∧ Hid (PDiffIs w' xa xb v e n) ∧ Below w.heap.size w w' := by
  have HL := hide hl
  have hD := ldiff_any ao bo ca cb na nb xa xb w ha hb HNa HNb hna hnb HSa HSb hl
  clear ha hb hl
  go_enter Tryz.func9, Tryz.ntmps9
  go_upto_region 2 with (go_at_call 26; refine hD.mono ?_; clear hD; rintro ev w1 ⟨v, er, rfl, HO, hb1⟩)
  have HL1 := hide ((unhide HL).below hb1)
  rcases unhide HO with ⟨i, q, hF, rfl, rfl, c0, c1⟩ | ⟨hF1, hF2, rfl, B, hO⟩
  · have HF := hide hF
    have hT := tell_at q 2 i w1 (unhide HL1).err c0 c1
    clear HO hF c0 c1
    go_wp2_with (go_at_call 18; refine hT.mono ?_; clear hT; rintro ev w2 ⟨rfl, hb2⟩)
    refine bodyPost_ret (results_tmp3 rfl _ _ _) rfl ?_
    exact ⟨_, _, _, rfl, hide (.inl ⟨i, unhide HF, rfl, rfl, rfl⟩), hb1.trans (hb2.mono hb1.size)⟩
  · have HF1 := hide hF1
    have HF2 := hide hF2
    have HOw := hide hO
    clear HO hF1 hF2 hO
    go_wp2_with (go_at_call 18; refine (tell_nil w1).mono ?_; rintro ev w2 ⟨rfl, hb2⟩)
    refine bodyPost_ret (results_tmp3 rfl _ _ _) rfl ?_
    exact ⟨_, _, _, rfl, hide (.inr ⟨unhide HF1, unhide HF2, rfl, rfl, B, (unhide HOw).later hb2⟩), hb1.trans (hb2.mono hb1.size)⟩
/-- The example. -/
def treeE : List Ent := [⟨⟨#[97]⟩, 1, 493, ⟨#[]⟩⟩, ⟨⟨#[97, 47, 120]⟩, 2, 420, ⟨#[104, 105]⟩⟩, ⟨⟨#[108]⟩, 3, 0, ⟨#[97, 47, 120]⟩⟩]
theorem tree_bad : FirstBad treeE (-1) := .inl ⟨rfl, fun i hi => by
  have h : i = 0 ∨ i = 1 ∨ i = 2 := by simp [treeE] at hi; omega
  rcases h with rfl | rfl | rfl <;> decide +kernel⟩
theorem tree_small : Small treeE := fun e he => by
  simp only [treeE, List.mem_cons, List.not_mem_nil, or_false] at he
  rcases he with rfl | rfl | rfl <;> decide
theorem nil_bad : FirstBad [] (-1) := .inl ⟨rfl, fun i hi => absurd hi (by simp)⟩
theorem nil_small : Small [] := fun e he => by simp at he
theorem erow_nil (w : World) (ao : Option Addr) : ERow w ao [] := fun k e hk => by simp at hk
theorem treeE_any (w : World) : Calls Tryz.prog 10 #[] w fun ev w' => ∃ ao cap, ev = .returned (.slice ao 3 cap) ∧ ERow w' ao treeE ∧ Below w.heap.size w w' := by
  go_enter Tryz.func10, Tryz.ntmps10
  go_wp2
  go_ret
  refine ⟨_, _, rfl, fun k e hk => ?_, (Below.refl _ _).alloc (Nat.le_refl _) _⟩
  have hk3 : k < 3 := (List.getElem?_eq_some_iff.1 hk).1
  have hc : ∀ j, (w.alloc (.cells #[.string ⟨#[97]⟩, .int .i64 1, .int .i64 493, .string ⟨#[]⟩, .string ⟨#[97, 47, 120]⟩, .int .i64 2, .int .i64 420, .string ⟨#[104, 105]⟩, .string ⟨#[108]⟩, .int .i64 3, .int .i64 0, .string ⟨#[97, 47, 120]⟩] 49)).cell? ⟨w.heap.size, j, none⟩ = (#[.string ⟨#[97]⟩, .int .i64 1, .int .i64 493, .string ⟨#[]⟩, .string ⟨#[97, 47, 120]⟩, .int .i64 2, .int .i64 420, .string ⟨#[104, 105]⟩, .string ⟨#[108]⟩, .int .i64 3, .int .i64 0, .string ⟨#[97, 47, 120]⟩] : Array Value)[j]? := fun j => cell_of_row _ _ j _ _ _ (heap_alloc_new _ _)
  refine ⟨w.heap.size, 0, rfl, ?_⟩
  have h : k = 0 ∨ k = 1 ∨ k = 2 := by omega
  rcases h with rfl | rfl | rfl
  all_goals
    simp only [treeE, List.getElem?_cons_zero, List.getElem?_cons_succ, Option.some.injEq] at hk
    subst hk
    exact ⟨hc _, hc _, hc _, hc _⟩
end Go.Proofs.YtlamfdmacalggaaGreatDoor
