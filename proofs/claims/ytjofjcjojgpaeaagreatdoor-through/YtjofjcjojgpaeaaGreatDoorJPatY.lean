import Derived.Test.YtjofjcjojgpaeaaGreatDoorJTopK
import Derived.Test.YtjofjcjojgpaeaaGreatDoorJTelE
import Derived.Test.YtjofjcjojgpaeaaGreatDoorJLst
namespace Go.Proofs.YtjofjcjojgpaeaaGreatDoor
open Go.RowKit Go.Maps

/-- The errors that the changes tell, and their places. -/
def PErr (xa cs : List Ent) (c : Int) (i : Nat) : Prop :=
  (c = 3 ∧ FirstBadC cs i) ∨ (c = 8 ∧ FirstBadC cs (-1) ∧ FirstP (mrkAt xa cs) cs.length i) ∨
  (c = 9 ∧ FirstBadC cs (-1) ∧ FirstP (mrkAt xa cs) cs.length (-1) ∧ FirstP (putBad (marksF xa cs) cs) cs.length i)
def PFine (xa cs : List Ent) : Prop := FirstBadC cs (-1) ∧ FirstP (mrkAt xa cs) cs.length (-1) ∧ FirstP (putBad (marksF xa cs) cs) cs.length (-1)
/-- The answers of 'layers.Patch'. -/
def LPatIs (w : World) (xa cs ks : List Ent) (er : Value) : Prop :=
  (∃ i : Nat, ks = [] ∧ ErIs w er 2 i ∧ FirstBad xa i) ∨
  (FirstBad xa (-1) ∧ ∃ (c : Int) (i : Nat), ks = [] ∧ ErIs w er c i ∧ PErr xa cs c i) ∨
  (FirstBad xa (-1) ∧ PFine xa cs ∧ 40 < (patF xa cs).length ∧ ks = [] ∧ er = .iface 26 (.int .i64 10)) ∨
  (FirstBad xa (-1) ∧ PFine xa cs ∧ (patF xa cs).length ≤ 40 ∧ ks = patF xa cs ∧ er = .nilIface)
/-- The answers of 'plain.Patch'. -/
def PPatIs (xa cs ks : List Ent) (e n : Int) : Prop :=
  (∃ i : Nat, ks = [] ∧ e = 2 ∧ n = i ∧ FirstBad xa i) ∨
  (FirstBad xa (-1) ∧ ∃ (c : Int) (i : Nat), ks = [] ∧ e = c ∧ n = i ∧ PErr xa cs c i) ∨
  (FirstBad xa (-1) ∧ PFine xa cs ∧ 40 < (patF xa cs).length ∧ ks = [] ∧ e = 10 ∧ n = -1) ∨
  (FirstBad xa (-1) ∧ PFine xa cs ∧ (patF xa cs).length ≤ 40 ∧ ks = patF xa cs ∧ e = 0 ∧ n = -1)
set_option maxHeartbeats 2000000 in
theorem lpatch_any (ao bo : Option Addr) (ca cb na nb : Nat) (xa cs : List Ent) (w : World) (ha : ERow w ao xa) (hb : ERow w bo cs) (HNa : Hid (na = xa.length)) (HNb : Hid (nb = cs.length)) (hna : na ≤ 4294967280) (hnb : nb ≤ 4294967280) (hcb : nb ≤ cb) (HSa : Hid (Small xa)) (HSb : Hid (Small cs)) (hl : Laid w) :
    Calls Tryz.prog 21 #[.slice ao na ca, .slice bo nb cb] w fun ev w' => ∃ (vo : Option Addr) (vc vn : Nat) (ks : List Ent) (er : Value), ev = .returned (.tuple #[.slice vo vn vc, er]) ∧ Hid (vn = ks.length) ∧ Hid (ERow w' vo ks) ∧ Hid (LPatIs w' xa cs ks er) ∧ Below w.heap.size w w' := by
  obtain ⟨m, hm⟩ := hl.max
  have HM := hide hm
  have HRb := hide hb
  have hOa := of_tree ao ca na xa m w ha HNa hna HSa hm
  clear hl hb hm
  go_enter Tryz.func21, Tryz.ntmps21
  go_upto_region 2 with (go_at_call 27; refine hOa.mono ?_; clear hOa; rintro ev w1 ⟨v1, e1, rfl, HO1, hb1⟩)
  rcases unhide HO1 with ⟨r, ns, rfl, rfl, hE, hMm, hF⟩ | ⟨i, q, rfl, rfl, c0, c1, hF⟩
  · have HT1 : Hid (Tree xa) := hide (tree_of hF (unhide HSa))
    have HF1 := hide hF
    have HMm := hide hMm
    have HE := hide hE
    have hP := patch_any r ns w.heap.size xa bo cb nb cs m w1 hMm HE HT1 (fun W h => (unhide HRb).below (hb1.trans h)) HNb hnb hcb HSb hb1.size (fun W h => cell_later (hb1.trans h) (unhide HM))
    clear HO1 hE hMm hF ha
    go_upto_region 5 with (go_at_call 30; refine hP.mono ?_; clear hP; rintro ev w2 ⟨er, rfl, HP2, hb2⟩)
    have hB2 : Below w.heap.size w w2 := hb1.trans hb2
    have bad : ∀ (c : Int) (i : Nat), ErIs w2 er c i → PErr xa cs c i → ∃ b : Nat, er = .iface 68 (.pointer (some ⟨b, 0, none⟩)) ∧ Hid (LPatIs w2 xa cs [] er) := fun c i he hp => by
      obtain ⟨b, h1, h2, h3⟩ := he
      exact ⟨b, h1, hide (.inr (.inl ⟨unhide HF1, c, i, rfl, ⟨b, h1, h2, h3⟩, hp⟩))⟩
    have HBad := hide bad
    clear bad
    have fin : (∃ b : Nat, er = .iface 68 (.pointer (some ⟨b, 0, none⟩)) ∧ Hid (LPatIs w2 xa cs [] er)) ∨ (er = .iface 26 (.int .i64 10) ∧ Hid (LPatIs w2 xa cs [] er)) ∨ (er = .nilIface ∧ Hid (PFine xa cs ∧ (patF xa cs).length ≤ 40 ∧ TreeS (patF xa cs) ∧ ∃ ns, Mem w2 w.heap.size r ns ∧ entsN ns = patF xa cs)) := by
      rcases unhide HP2 with ⟨i, he, hf⟩ | ⟨h0, i, he, hf⟩ | ⟨h0, h1, i, he, hf⟩ | ⟨h0, h1, h2, hts, _, h3⟩
      · exact .inl (unhide HBad 3 i he (.inl ⟨rfl, hf⟩))
      · exact .inl (unhide HBad 8 i he (.inr (.inl ⟨rfl, h0, hf⟩)))
      · exact .inl (unhide HBad 9 i he (.inr (.inr ⟨rfl, h0, h1, hf⟩)))
      · rcases h3 with ⟨h3, h4⟩ | ⟨h3, h4, h5⟩
        · exact .inr (.inl ⟨h4, hide (.inr (.inr (.inl ⟨unhide HF1, ⟨h0, h1, h2⟩, h3, rfl, h4⟩)))⟩)
        · exact .inr (.inr ⟨h4, hide ⟨⟨h0, h1, h2⟩, h3, hts, h5⟩⟩)
    clear HP2 HBad
    rcases fin with ⟨b, rfl, HL⟩ | ⟨rfl, HL⟩ | ⟨rfl, HL⟩
    · go_wp2_with fail
      go_ret2
      exact ⟨none, 0, 0, [], _, rfl, hide rfl, hide (erow_nil _ _), HL, hB2⟩
    · go_wp2_with fail
      go_ret2
      exact ⟨none, 0, 0, [], _, rfl, hide rfl, hide (erow_nil _ _), HL, hB2⟩
    · obtain ⟨hfine, hlen, hts, ns2, hM2, hE2⟩ := unhide HL
      have HTG : Hid (TreeG (patF xa cs)) := hide ⟨hts.ok, by omega, puts_small cs (marks_small cs (unhide HSa)) (unhide HSb)⟩
      have hL := list_any w2 hM2 (hide hE2) HTG
      have HFi := hide hfine
      have HLe := hide hlen
      clear HL hfine hlen hts hM2 hE2
      go_wp2_with (go_at_call 31; refine hL.mono ?_; clear hL; rintro ev w3 ⟨vo, vc, vn, rfl, HVN, hvr, hb3⟩)
      go_ret2
      exact ⟨vo, vc, vn, patF xa cs, _, rfl, HVN, hide hvr, hide (.inr (.inr (.inr ⟨unhide HF1, unhide HFi, unhide HLe, rfl, rfl⟩))), hB2.trans (hb3.mono hB2.size)⟩
  · have HF1 := hide hF
    clear HO1 hF ha
    go_wp2_with fail
    go_ret2
    exact ⟨none, 0, 0, [], _, rfl, hide rfl, hide (erow_nil _ _), hide (.inl ⟨i, rfl, ⟨q, rfl, c0, c1⟩, unhide HF1⟩), hb1⟩
set_option maxHeartbeats 2000000 in
theorem ppatch_any (ao bo : Option Addr) (ca cb na nb : Nat) (xa cs : List Ent) (w : World) (ha : ERow w ao xa) (hb : ERow w bo cs) (HNa : Hid (na = xa.length)) (HNb : Hid (nb = cs.length)) (hna : na ≤ 4294967280) (hnb : nb ≤ 4294967280) (hcb : nb ≤ cb) (HSa : Hid (Small xa)) (HSb : Hid (Small cs)) (hl : Laid w) :
    Calls Tryz.prog 8 #[.slice ao na ca, .slice bo nb cb] w fun ev w' => ∃ (vo : Option Addr) (vc vn : Nat) (ks : List Ent) (e n : Int), ev = .returned (.tuple #[.slice vo vn vc, .int .i64 e, .int .i64 n]) ∧ Hid (vn = ks.length) ∧ Hid (ERow w' vo ks) ∧ Hid (PPatIs xa cs ks e n) ∧ Below w.heap.size w w' := by
  have HL := hide hl
  have hD := lpatch_any ao bo ca cb na nb xa cs w ha hb HNa HNb hna hnb hcb HSa HSb hl
  clear ha hb hl
  go_enter Tryz.func8, Tryz.ntmps8
  go_upto_region 2 with (go_at_call 21; refine hD.mono ?_; clear hD; rintro ev w1 ⟨vo, vc, vn, ks, er, rfl, HVN, HVR, HO, hb1⟩)
  have HL1 := hide ((unhide HL).below hb1)
  have fin : (∃ (b : Nat) (c i : Int), er = .iface 68 (.pointer (some ⟨b, 0, none⟩)) ∧ w1.cell? ⟨b, 0, none⟩ = some (.int .i64 c) ∧ w1.cell? ⟨b, 1, none⟩ = some (.int .i64 i) ∧ Hid (PPatIs xa cs ks c i)) ∨ (er = .iface 26 (.int .i64 10) ∧ Hid (PPatIs xa cs ks 10 (-1))) ∨ (er = .nilIface ∧ Hid (PPatIs xa cs ks 0 (-1))) := by
    rcases unhide HO with ⟨i, h1, ⟨b, h2, h3, h4⟩, h5⟩ | ⟨h0, c, i, h1, ⟨b, h2, h3, h4⟩, h5⟩ | ⟨h0, h1, h2, h3, h4⟩ | ⟨h0, h1, h2, h3, h4⟩
    · exact .inl ⟨b, 2, i, h2, h3, h4, hide (.inl ⟨i, h1, rfl, rfl, h5⟩)⟩
    · exact .inl ⟨b, c, i, h2, h3, h4, hide (.inr (.inl ⟨h0, c, i, h1, rfl, rfl, h5⟩))⟩
    · exact .inr (.inl ⟨h4, hide (.inr (.inr (.inl ⟨h0, h1, h2, h3, rfl, rfl⟩)))⟩)
    · exact .inr (.inr ⟨h4, hide (.inr (.inr (.inr ⟨h0, h1, h2, h3, rfl, rfl⟩)))⟩)
  clear HO
  rcases fin with ⟨b, c, i, rfl, c0, c1, HP⟩ | ⟨rfl, HP⟩ | ⟨rfl, HP⟩
  · have hT := tell_at b c i w1 (unhide HL1).err c0 c1
    clear c0 c1
    go_wp2_with (go_at_call 20; refine hT.mono ?_; clear hT; rintro ev w2 ⟨rfl, hb2⟩)
    refine bodyPost_ret (results_tmp3 rfl _ _ _) rfl ?_
    exact ⟨_, _, _, _, _, _, rfl, HVN, hide ((unhide HVR).below hb2), HP, hb1.trans (hb2.mono hb1.size)⟩
  · have hT := tell_errno 10 w1 (unhide HL1).err
    go_wp2_with (go_at_call 20; refine hT.mono ?_; clear hT; rintro ev w2 ⟨rfl, hb2⟩)
    refine bodyPost_ret (results_tmp3 rfl _ _ _) rfl ?_
    exact ⟨_, _, _, _, _, _, rfl, HVN, hide ((unhide HVR).below hb2), HP, hb1.trans (hb2.mono hb1.size)⟩
  · go_wp2_with (go_at_call 20; refine (tell_nil w1).mono ?_; rintro ev w2 ⟨rfl, hb2⟩)
    refine bodyPost_ret (results_tmp3 rfl _ _ _) rfl ?_
    exact ⟨_, _, _, _, _, _, rfl, HVN, hide ((unhide HVR).below hb2), HP, hb1.trans (hb2.mono hb1.size)⟩
end Go.Proofs.YtjofjcjojgpaeaaGreatDoor

namespace Go.Proofs.YtjofjcjojgpaeaaGreatDoor
open Go.RowKit Go.Maps

theorem firstBad_of {es : List Ent} (h : TreeS es) (hl : es.length ≤ 40) : FirstBad es (-1) := by
  refine .inl ⟨rfl, fun i hi => ?_⟩
  have he : es[i]? = some es[i] := List.getElem?_eq_getElem hi
  have h1 := h.ok i hi
  rw [okG_eq he] at h1
  unfold okAt
  rw [he]
  simp only [Bool.and_eq_true] at h1 ⊢
  exact ⟨⟨⟨decide_eq_true (by omega), h1.1.1⟩, h1.1.2⟩, h1.2⟩
theorem diff_smallE {xa xb : List Ent} (hA : Small xa) (hB : Small xb) : Small (diffF xa xb) := fun c hc => by
  obtain ⟨p, _, h⟩ := diff_told.1 hc
  have of : ∀ {es : List Ent} {d : Ent} (k : Int), Small es → d ∈ es → d.path.data.toList = p → (markE p k).path.size ≤ 1048576 ∧ (markE p k).data.size ≤ 1048576 := fun {es d} k hs hd hp => by
    refine ⟨?_, Nat.zero_le _⟩
    have h1 := (hs d hd).1
    rw [Lib.size_eq, hp] at h1
    rw [Lib.size_eq]
    exact h1
  rcases step_told.1 h with ⟨h1, _⟩ | ⟨rfl, h1⟩ | ⟨rfl, h1⟩
  · exact hB c (atE_some h1).1
  · by_cases hp : p = []
    · subst hp; exact ⟨Nat.zero_le _, Nat.zero_le _⟩
    · obtain ⟨d, hd, hq, _⟩ := kindP_one (clr_parts h1).1 hp
      exact of 5 hA hd hq
  · obtain ⟨⟨e, he⟩, _⟩ := gone_parts h1
    exact of 4 hA (atE_some he).1 (atE_some he).2
theorem und_told {xa xb ks : List Ent} {e n : Int} (hA : TreeS xa) (hB : TreeS xb) (hF : FirstBad xa (-1)) (hl : xa.length + xb.length ≤ 39) (h : PPatIs xa (diffF xa xb) ks e n) : ks = xb ∧ e = 0 := by
  have h1 := diff_fine hA hB hl
  have h2 := diff_marks hA hB
  obtain ⟨h4, h3⟩ := diff_does hA hB
  rcases h with ⟨i, _, _, _, h⟩ | ⟨_, c, i, _, _, _, h⟩ | ⟨_, _, h, _⟩ | ⟨_, _, _, rfl, rfl, _⟩
  · have := firstBad_one h hF; omega
  · rcases h with ⟨_, h⟩ | ⟨_, _, h⟩ | ⟨_, _, _, h⟩
    · have := firstBadC_one h h1; omega
    · have := firstP_one h h2; omega
    · have := firstP_one h h3; omega
  · rw [h4] at h; omega
  · exact ⟨h4, rfl⟩
end Go.Proofs.YtjofjcjojgpaeaaGreatDoor
