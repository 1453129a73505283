import Derived.Test.YtjofjcjojgpaeaaGreatDoorJRefE
import Derived.Test.YtjofjcjojgpaeaaGreatDoorJPatO
import Derived.Test.YtjofjcjojgpaeaaGreatDoorJPth
import Derived.Test.YtjofjcjojgpaeaaGreatDoorJTopK
namespace Go.Proofs.YtjofjcjojgpaeaaGreatDoor
open Go.RowKit

end Go.Proofs.YtjofjcjojgpaeaaGreatDoor

namespace Go.Proofs.YtjofjcjojgpaeaaGreatDoor
open Go.RowKit Go.Maps

/-- The answers of 'layers.Diff'. -/
def LDiffIs (w : World) (xa xb : List Ent) (v er : Value) : Prop :=
  (∃ (i q : Nat), (FirstBad xa i ∨ (FirstBad xa (-1) ∧ FirstBad xb i)) ∧ v = .slice none 0 0 ∧ er = .iface 68 (.pointer (some ⟨q, 0, none⟩)) ∧ w.cell? ⟨q, 0, none⟩ = some (.int .i64 2) ∧ w.cell? ⟨q, 1, none⟩ = some (.int .i64 (i : Int))) ∨
  (FirstBad xa (-1) ∧ FirstBad xb (-1) ∧ er = .nilIface ∧ ∃ B, OwnC w B v (diffF xa xb))
theorem ldiff_any (ao bo : Option Addr) (ca cb na nb : Nat) (xa xb : List Ent) (w : World) (ha : ERow w ao xa) (hb : ERow w bo xb) (HNa : Hid (na = xa.length)) (HNb : Hid (nb = xb.length)) (hna : na ≤ 4294967280) (hnb : nb ≤ 4294967280) (HSa : Hid (Small xa)) (HSb : Hid (Small xb)) (hl : Laid w) :
    Calls Tryz.prog 19 #[.slice ao na ca, .slice bo nb cb] w fun ev w' => ∃ v er, ev = .returned (.tuple #[v, er]) ∧ Hid (LDiffIs w' xa xb v er) ∧ Below w.heap.size w w' := by
  obtain ⟨m, hm⟩ := hl.max
  have HM := hide hm
  have hOa := of_tree ao ca na xa m w ha HNa hna HSa hm
  clear hl
  go_enter Tryz.func19, Tryz.ntmps19
  go_upto_region 2 with (go_at_call 27; refine hOa.mono ?_; clear hOa; rintro ev w1 ⟨v1, e1, rfl, HO1, hb1⟩)
  rcases unhide HO1 with ⟨r, ns, rfl, rfl, hE, hMm, hF⟩ | ⟨i, q, rfl, rfl, c0, c1, hF⟩
  · have HT1 : Hid (Tr w1 w.heap.size r ns xa) := hide ⟨hMm, hE, tree_of hF (unhide HSa)⟩
    have HF1 := hide hF
    have hOb := of_tree bo cb nb xb m w1 (hb.below hb1) HNb hnb HSb (cell_later hb1 (unhide HM))
    clear HO1 hE hMm hF ha hb hm
    go_upto_region 5 with (go_at_call 27; refine hOb.mono ?_; clear hOb; rintro ev w2 ⟨v2, e2, rfl, HO2, hb2⟩)
    have hB2 : Below w.heap.size w w2 := hb1.trans (hb2.mono hb1.size)
    rcases unhide HO2 with ⟨r2, ms, rfl, rfl, hE2, hMm2, hF2⟩ | ⟨i, q, rfl, rfl, c0, c1, hF2⟩
    · have HT2 : Hid (Tr w2 w1.heap.size r2 ms xb) := hide ⟨hMm2, hE2, tree_of hF2 (unhide HSb)⟩
      have HF2 := hide hF2
      have hD := diff_any m w2 ((unhide HT1).below hb2) (unhide HT2) (cell_later hB2 (unhide HM))
      clear HO2 hE2 hMm2 hF2
      go_wp2_with (go_at_call 28; refine hD.mono ?_; clear hD; rintro ev w3 ⟨v3, rfl, hO3, hb3⟩)
      go_ret2
      exact ⟨_, _, rfl, hide (.inr ⟨unhide HF1, unhide HF2, rfl, _, hO3⟩), hB2.trans (hb3.mono hB2.size)⟩
    · have HF2 := hide hF2
      clear HO2 hF2
      go_wp2_with fail
      go_ret2
      exact ⟨_, _, rfl, hide (.inl ⟨i, q, .inr ⟨unhide HF1, unhide HF2⟩, rfl, rfl, c0, c1⟩), hB2⟩
  · have HF1 := hide hF
    clear HO1 hF ha hb hm
    go_wp2_with fail
    go_ret2
    exact ⟨_, _, rfl, hide (.inl ⟨i, q, .inl (unhide HF1), rfl, rfl, c0, c1⟩), hb1⟩
/-- The answers of 'plain.Diff'. -/
def PDiffIs (w : World) (xa xb : List Ent) (v : Value) (e n : Int) : Prop :=
  (∃ i : Nat, (FirstBad xa i ∨ (FirstBad xa (-1) ∧ FirstBad xb i)) ∧ v = .slice none 0 0 ∧ e = 2 ∧ n = i) ∨
  (FirstBad xa (-1) ∧ FirstBad xb (-1) ∧ e = 0 ∧ n = -1 ∧ ∃ B, OwnC w B v (diffF xa xb))
theorem pdiff_any (ao bo : Option Addr) (ca cb na nb : Nat) (xa xb : List Ent) (w : World) (ha : ERow w ao xa) (hb : ERow w bo xb) (HNa : Hid (na = xa.length)) (HNb : Hid (nb = xb.length)) (hna : na ≤ 4294967280) (hnb : nb ≤ 4294967280) (HSa : Hid (Small xa)) (HSb : Hid (Small xb)) (hl : Laid w) :
    Calls Tryz.prog 7 #[.slice ao na ca, .slice bo nb cb] w fun ev w' => ∃ (v : Value) (e n : Int), ev = .returned (.tuple #[v, .int .i64 e, .int .i64 n]) ∧ Hid (PDiffIs w' xa xb v e n) ∧ Below w.heap.size w w' := by
  have HL := hide hl
  have hD := ldiff_any ao bo ca cb na nb xa xb w ha hb HNa HNb hna hnb HSa HSb hl
  clear ha hb hl
  go_enter Tryz.func7, Tryz.ntmps7
  go_upto_region 2 with (go_at_call 19; refine hD.mono ?_; clear hD; rintro ev w1 ⟨v, er, rfl, HO, hb1⟩)
  have HL1 := hide ((unhide HL).below hb1)
  rcases unhide HO with ⟨i, q, hF, rfl, rfl, c0, c1⟩ | ⟨hF1, hF2, rfl, B, hO⟩
  · have HF := hide hF
    have hT := tell_at q 2 i w1 (unhide HL1).err c0 c1
    clear HO hF c0 c1
    go_wp2_with (go_at_call 20; refine hT.mono ?_; clear hT; rintro ev w2 ⟨rfl, hb2⟩)
    refine bodyPost_ret (results_tmp3 rfl _ _ _) rfl ?_
    exact ⟨_, _, _, rfl, hide (.inl ⟨i, unhide HF, rfl, rfl, rfl⟩), hb1.trans (hb2.mono hb1.size)⟩
  · have HF1 := hide hF1
    have HF2 := hide hF2
    have HOw := hide hO
    clear HO hF1 hF2 hO
    go_wp2_with (go_at_call 20; refine (tell_nil w1).mono ?_; rintro ev w2 ⟨rfl, hb2⟩)
    refine bodyPost_ret (results_tmp3 rfl _ _ _) rfl ?_
    exact ⟨_, _, _, rfl, hide (.inr ⟨unhide HF1, unhide HF2, rfl, rfl, B, (unhide HOw).later hb2⟩), hb1.trans (hb2.mono hb1.size)⟩
end Go.Proofs.YtjofjcjojgpaeaaGreatDoor
