import Derived.Test.YtephkedlihediaaGreatDoorPatR
import Derived.Test.YtephkedlihediaaGreatDoorJPatB
import Derived.Test.YtephkedlihediaaGreatDoorJTopK
import Derived.Test.YtephkedlihediaaGreatDoorLst
namespace Go.Proofs.YtephkedlihediaaGreatDoor
open Go.RowKit Go.Maps

/-- The tree that comes out. -/
def patF (es cs : List Ent) : List Ent := putsF (marksF es cs) cs
/-- What changes.Patch answers. -/
def PatIs (w : World) (B : Nat) (r : Nd) (es cs : List Ent) (er : Value) : Prop :=
  (∃ i : Nat, ErIs w er 3 i ∧ FirstBadC cs i) ∨
  (FirstBadC cs (-1) ∧ ∃ i : Nat, ErIs w er 8 i ∧ FirstP (mrkAt es cs) cs.length i) ∨
  (FirstBadC cs (-1) ∧ FirstP (mrkAt es cs) cs.length (-1) ∧ ∃ i : Nat, ErIs w er 9 i ∧ FirstP (putBad (marksF es cs) cs) cs.length i) ∨
  (FirstBadC cs (-1) ∧ FirstP (mrkAt es cs) cs.length (-1) ∧ FirstP (putBad (marksF es cs) cs) cs.length (-1) ∧ TreeS (patF es cs) ∧ (patF es cs).length ≤ 120 ∧
    ((40 < (patF es cs).length ∧ er = .iface 23 (.int .i64 10)) ∨ ((patF es cs).length ≤ 40 ∧ er = .nilIface ∧ ∃ ns, Mem w B r ns ∧ entsN ns = patF es cs)))
theorem ErIs.below {w w' : World} {er : Value} {c i : Int} (h : ErIs w er c i) (hb : Below w.heap.size w w') : ErIs w' er c i := by
  obtain ⟨b, h1, h2, h3⟩ := h
  exact ⟨b, h1, cell_later hb h2, cell_later hb h3⟩
theorem okAll {cs : List Ent} (h : FirstBadC cs (-1)) : (∀ c ∈ cs, chOk c = true) ∧ cs.length ≤ 80 := by
  rcases h with ⟨_, h⟩ | ⟨i, hi, _⟩
  · refine ⟨fun c hc => ?_, allCh_lt h⟩
    obtain ⟨k, hk, rfl⟩ := List.getElem_of_mem hc
    exact (okCh_parts (List.getElem?_eq_getElem hk) (h k hk)).1
  · omega
theorem puts_small : ∀ (cs : List Ent) {t : List Ent}, Small t → Small cs → Small (putsF t cs)
  | [], _, h, _ => h
  | c :: cs, t, h, hc => puts_small cs (t := put1 t c) (by
      unfold put1
      split
      · exact h
      · intro e he
        rcases put_mem.1 he with e1 | ⟨e1, _⟩
        · rw [e1]; exact hc c (by simp)
        · exact h e e1) (fun e he => hc e (by simp [he]))
theorem marks_small : ∀ (cs : List Ent) {t : List Ent}, Small t → Small (marksF t cs)
  | [], _, h => h
  | c :: cs, t, h => marks_small cs (t := mark1 t c) (fun e he => h e (by
      unfold mark1 at he
      split at he
      · exact (List.mem_filter.1 he).1
      · split at he
        · exact (List.mem_filter.1 he).1
        · exact he))
set_option maxHeartbeats 2000000 in
set_option maxRecDepth 100000 in
theorem patch_any (r : Nd) (ns : List Nd) (B : Nat) (es : List Ent) (ao : Option Addr) (cap n : Nat) (cs : List Ent) (m : Int) (w : World) (hM : Mem w B r ns) (HE : Hid (entsN ns = es)) (HT : Hid (Tree es)) (hr : ∀ W, Below B w W → ERow W ao cs) (HN : Hid (n = cs.length)) (hn : n ≤ 4294967280) (hcap : n ≤ cap) (HS : Hid (Small cs)) (hB : B ≤ w.heap.size) (hm : ∀ W, Below B w W → W.cell? ⟨15, 0, none⟩ = some (.int .i64 m)) :
    Calls Tryz.prog 57 #[.pointer (some ⟨r.nb, 0, none⟩), .slice ao n cap] w fun ev w' => ∃ er, ev = .returned er ∧ Hid (PatIs w' B r es cs er) ∧ Below B w w' := by
  have HM := hide hm
  have HMem := hide hM
  have HR := hide hr
  have HB := hide hB
  have HTS : Hid (TreeS es) := hide (treeS_of (unhide HT).ok)
  clear hm hM hr hB
  go_enter Tryz.func57, Tryz.ntmps57
  go_upto_region 2 with (go_at_call 85; refine (check_any ao cap n cs m w (unhide HR _ (Below.refl _ _)) HN hn hcap HS (unhide HM _ (Below.refl _ _))).mono ?_; rintro ev w1 ⟨er1, rfl, HC1, hb1⟩)
  have hB1 := hb1.mono (unhide HB)
  rcases unhide HC1 with ⟨rfl, hf1⟩ | ⟨i, ⟨b, rfl, hc, hi⟩, hf1⟩
  · have HF1 := hide hf1
    clear hf1 HC1
    have HM1 := hide ((unhide HMem).below hb1)
    go_upto_region 5 with (go_at_call 86; refine (checkMarks_any r ns B es ao cap n cs m w1 (unhide HM1) HE HTS (unhide HR _ hB1) HN hn HS (unhide HM _ hB1)).mono ?_; rintro ev w2 ⟨er2, rfl, HC2, hb2⟩)
    have hB2 := hB1.trans (hb2.mono (Nat.le_trans (unhide HB) hb1.size))
    rcases unhide HC2 with ⟨rfl, hf2⟩ | ⟨i, ⟨b, rfl, hc, hi⟩, hf2⟩
    · have HF2 := hide hf2
      clear hf2 HC2
      have HM2 := hide ((unhide HM1).below hb2)
      have hz2 : B ≤ w2.heap.size := Nat.le_trans (unhide HB) hB2.size
      have HCk : Hid (∀ c ∈ cs, chOk c = true) := hide (okAll (unhide HF1)).1
      have hn80 : n ≤ 80 := by rw [unhide HN]; exact (okAll (unhide HF1)).2
      go_upto_region 8 with (go_at_call 87; refine (doMarks_any r ns B es ao cap n cs m w2 (unhide HM2) HE HTS (fun W h => unhide HR W (hB2.trans h)) HN hn HS HCk hz2 (fun W h => unhide HM W (hB2.trans h))).mono ?_; rintro ev w3 ⟨rfl, HC3, hb3⟩)
      have hB3 := hB2.trans hb3
      obtain ⟨ns3, hm3, he3⟩ := unhide HC3
      have HM3 := hide hm3
      have HE3 := hide he3
      have hz3 : B ≤ w3.heap.size := Nat.le_trans (unhide HB) hB3.size
      have HT3 : Hid (TreeS (marksF es cs)) := hide (marks_tree cs (unhide HTS))
      have hl3 : (marksF es cs).length ≤ 40 := Nat.le_trans (marks_len cs es) (unhide HT).len
      clear hm3 he3 HC3
      go_upto_region 9 with (go_at_call 88; refine (putEntries_any r ns3 B (marksF es cs) ao cap n cs m w3 (unhide HM3) HE3 HT3 hl3 (fun W h => unhide HR W (hB3.trans h)) HN hn80 HS HCk hz3 (fun W h => unhide HM W (hB3.trans h))).mono ?_; rintro ev w4 ⟨er4, rfl, HC4, HG4, hb4⟩)
      have hB4 := hB3.trans hb4
      rcases unhide HC4 with ⟨rfl, hf4⟩ | ⟨i, ⟨b, rfl, hc, hi⟩, hf4⟩
      · have HF4 := hide hf4
        obtain ⟨ns4, hm4, he4, ht4, hl4⟩ := unhide HG4 (by simp)
        have HM4 := hide hm4
        have HE4 : Hid (entsN ns4 = patF es cs) := hide he4
        have HT4 : Hid (TreeS (patF es cs)) := hide ht4
        have HG : Hid (TreeG (patF es cs)) := hide ⟨ht4.ok, hl4, puts_small cs (marks_small cs (unhide HT).small) (unhide HS)⟩
        have hl5 : ns4.length = (patF es cs).length := by rw [← unhide HE4]; simp [entsN]
        have hl6 : (patF es cs).length ≤ 120 := hl4
        clear hf4 HC4 HG4 hm4 he4 ht4 hl4
        have hBl := below_any w4 (unhide HM4) HE4 HG
        rw [hl5] at hBl
        obtain ⟨q, hq⟩ : ∃ q, q = (patF es cs).length := ⟨_, rfl⟩
        rw [← hq] at hBl hl6
        have HQ := hide hq
        clear hq hl5
        by_cases h40 : q ≤ 40
        · have i40 : (q : Int) ≤ 40 := by omega
          go_wp2_with (go_at_call 89; refine hBl.mono ?_; clear hBl; rintro ev w5 ⟨rfl, hb5⟩)
          go_ret
          refine ⟨_, rfl, hide (.inr (.inr (.inr ⟨unhide HF1, unhide HF2, unhide HF4, unhide HT4, (by rw [← unhide HQ]; exact hl6), .inr ⟨(by rw [← unhide HQ]; exact h40), rfl, ns4, (unhide HM4).below hb5, unhide HE4⟩⟩))), hB4.trans (hb5.mono (Nat.le_trans (unhide HB) hB4.size))⟩
        · have i40 : ¬ (q : Int) ≤ 40 := by omega
          have i41 : (40 : Int) < (q : Int) := by omega
          go_wp2_with (go_at_call 89; refine hBl.mono ?_; clear hBl; rintro ev w5 ⟨rfl, hb5⟩)
          go_ret
          refine ⟨_, rfl, hide (.inr (.inr (.inr ⟨unhide HF1, unhide HF2, unhide HF4, unhide HT4, (by rw [← unhide HQ]; exact hl6), .inl ⟨(by rw [← unhide HQ]; omega), rfl⟩⟩))), hB4.trans (hb5.mono (Nat.le_trans (unhide HB) hB4.size))⟩
      · have HX : Hid (PatIs w4 B r es cs (.iface 83 (.pointer (some ⟨b, 0, none⟩)))) := hide (.inr (.inr (.inl ⟨unhide HF1, unhide HF2, i, ⟨b, rfl, hc, hi⟩, hf4⟩)))
        clear hf4 HC4 HG4 hc hi
        go_wp2_with fail
        go_ret
        exact ⟨_, rfl, HX, hB4⟩
    · have HX : Hid (PatIs w2 B r es cs (.iface 83 (.pointer (some ⟨b, 0, none⟩)))) := hide (.inr (.inl ⟨unhide HF1, i, ⟨b, rfl, hc, hi⟩, hf2⟩))
      clear hf2 HC2 hc hi
      go_wp2_with fail
      go_ret
      exact ⟨_, rfl, HX, hB2⟩
  · have HX : Hid (PatIs w1 B r es cs (.iface 83 (.pointer (some ⟨b, 0, none⟩)))) := hide (.inl ⟨i, ⟨b, rfl, hc, hi⟩, hf1⟩)
    clear hf1 HC1 hc hi
    go_wp2_with fail
    go_ret
    exact ⟨_, rfl, HX, hB1⟩
end Go.Proofs.YtephkedlihediaaGreatDoor

namespace Go.Proofs.YtephkedlihediaaGreatDoor
open Go.RowKit Go.Maps

/-- The errors that the changes tell, and their places. -/
def PErr (xa cs : List Ent) (c : Int) (i : Nat) : Prop :=
  (c = 3 ∧ FirstBadC cs i) ∨ (c = 8 ∧ FirstBadC cs (-1) ∧ FirstP (mrkAt xa cs) cs.length i) ∨
  (c = 9 ∧ FirstBadC cs (-1) ∧ FirstP (mrkAt xa cs) cs.length (-1) ∧ FirstP (putBad (marksF xa cs) cs) cs.length i)
def PFine (xa cs : List Ent) : Prop := FirstBadC cs (-1) ∧ FirstP (mrkAt xa cs) cs.length (-1) ∧ FirstP (putBad (marksF xa cs) cs) cs.length (-1)
/-- The answers of 'layers.Patch'. -/
def LPatIs (w : World) (xa cs ks : List Ent) (er : Value) : Prop :=
  (∃ i : Nat, ks = [] ∧ ErIs w er 2 i ∧ FirstBad xa i) ∨
  (FirstBad xa (-1) ∧ ∃ (c : Int) (i : Nat), ks = [] ∧ ErIs w er c i ∧ PErr xa cs c i) ∨
  (FirstBad xa (-1) ∧ PFine xa cs ∧ 40 < (patF xa cs).length ∧ ks = [] ∧ er = .iface 23 (.int .i64 10)) ∨
  (FirstBad xa (-1) ∧ PFine xa cs ∧ (patF xa cs).length ≤ 40 ∧ ks = patF xa cs ∧ er = .nilIface)
/-- The answers of 'plain.Patch'. -/
def PPatIs (xa cs ks : List Ent) (e n : Int) : Prop :=
  (∃ i : Nat, ks = [] ∧ e = 2 ∧ n = i ∧ FirstBad xa i) ∨
  (FirstBad xa (-1) ∧ ∃ (c : Int) (i : Nat), ks = [] ∧ e = c ∧ n = i ∧ PErr xa cs c i) ∨
  (FirstBad xa (-1) ∧ PFine xa cs ∧ 40 < (patF xa cs).length ∧ ks = [] ∧ e = 10 ∧ n = -1) ∨
  (FirstBad xa (-1) ∧ PFine xa cs ∧ (patF xa cs).length ≤ 40 ∧ ks = patF xa cs ∧ e = 0 ∧ n = -1)
set_option maxHeartbeats 2000000 in
theorem lpatch_any (ao bo : Option Addr) (ca cb na nb : Nat) (xa cs : List Ent) (w : World) (ha : ERow w ao xa) (hb : ERow w bo cs) (HNa : Hid (na = xa.length)) (HNb : Hid (nb = cs.length)) (hna : na ≤ 4294967280) (hnb : nb ≤ 4294967280) (hcb : nb ≤ cb) (HSa : Hid (Small xa)) (HSb : Hid (Small cs)) (hl : Laid w) :
    Calls Tryz.prog 36 #[.slice ao na ca, .slice bo nb cb] w fun ev w' => ∃ (vo : Option Addr) (vc vn : Nat) (ks : List Ent) (er : Value), ev = .returned (.tuple #[.slice vo vn vc, er]) ∧ Hid (vn = ks.length) ∧ Hid (ERow w' vo ks) ∧ Hid (LPatIs w' xa cs ks er) ∧ Below w.heap.size w w' := by
  obtain ⟨m, hm⟩ := hl.max
  have HM := hide hm
  have HRb := hide hb
  have hOa := of_tree ao ca na xa m w ha HNa hna HSa hm
  clear hl hb hm
  go_enter Tryz.func36, Tryz.ntmps36
  go_upto_region 2 with (go_at_call 45; refine hOa.mono ?_; clear hOa; rintro ev w1 ⟨v1, e1, rfl, HO1, hb1⟩)
  rcases unhide HO1 with ⟨r, ns, rfl, rfl, hE, hMm, hF⟩ | ⟨i, q, rfl, rfl, c0, c1, hF⟩
  · have HT1 : Hid (Tree xa) := hide (tree_of hF (unhide HSa))
    have HF1 := hide hF
    have HMm := hide hMm
    have HE := hide hE
    have hP := patch_any r ns w.heap.size xa bo cb nb cs m w1 hMm HE HT1 (fun W h => (unhide HRb).below (hb1.trans h)) HNb hnb hcb HSb hb1.size (fun W h => cell_later (hb1.trans h) (unhide HM))
    clear HO1 hE hMm hF ha
    go_upto_region 5 with (go_at_call 57; refine hP.mono ?_; clear hP; rintro ev w2 ⟨er, rfl, HP2, hb2⟩)
    have hB2 : Below w.heap.size w w2 := hb1.trans hb2
    have bad : ∀ (c : Int) (i : Nat), ErIs w2 er c i → PErr xa cs c i → ∃ b : Nat, er = .iface 83 (.pointer (some ⟨b, 0, none⟩)) ∧ Hid (LPatIs w2 xa cs [] er) := fun c i he hp => by
      obtain ⟨b, h1, h2, h3⟩ := he
      exact ⟨b, h1, hide (.inr (.inl ⟨unhide HF1, c, i, rfl, ⟨b, h1, h2, h3⟩, hp⟩))⟩
    have HBad := hide bad
    clear bad
    have fin : (∃ b : Nat, er = .iface 83 (.pointer (some ⟨b, 0, none⟩)) ∧ Hid (LPatIs w2 xa cs [] er)) ∨ (er = .iface 23 (.int .i64 10) ∧ Hid (LPatIs w2 xa cs [] er)) ∨ (er = .nilIface ∧ Hid (PFine xa cs ∧ (patF xa cs).length ≤ 40 ∧ TreeS (patF xa cs) ∧ ∃ ns, Mem w2 w.heap.size r ns ∧ entsN ns = patF xa cs)) := by
      rcases unhide HP2 with ⟨i, he, hf⟩ | ⟨h0, i, he, hf⟩ | ⟨h0, h1, i, he, hf⟩ | ⟨h0, h1, h2, hts, _, h3⟩
      · exact .inl (unhide HBad 3 i he (.inl ⟨rfl, hf⟩))
      · exact .inl (unhide HBad 8 i he (.inr (.inl ⟨rfl, h0, hf⟩)))
      · exact .inl (unhide HBad 9 i he (.inr (.inr ⟨rfl, h0, h1, hf⟩)))
      · rcases h3 with ⟨h3, h4⟩ | ⟨h3, h4, h5⟩
        · exact .inr (.inl ⟨h4, hide (.inr (.inr (.inl ⟨unhide HF1, ⟨h0, h1, h2⟩, h3, rfl, h4⟩)))⟩)
        · exact .inr (.inr ⟨h4, hide ⟨⟨h0, h1, h2⟩, h3, hts, h5⟩⟩)
    clear HP2 HBad
    rcases fin with ⟨b, rfl, HL⟩ | ⟨rfl, HL⟩ | ⟨rfl, HL⟩
    · go_wp2_with fail
      go_ret2
      exact ⟨none, 0, 0, [], _, rfl, hide rfl, hide (erow_nil _ _), HL, hB2⟩
    · go_wp2_with fail
      go_ret2
      exact ⟨none, 0, 0, [], _, rfl, hide rfl, hide (erow_nil _ _), HL, hB2⟩
    · obtain ⟨hfine, hlen, hts, ns2, hM2, hE2⟩ := unhide HL
      have HTG : Hid (TreeG (patF xa cs)) := hide ⟨hts.ok, by omega, puts_small cs (marks_small cs (unhide HSa)) (unhide HSb)⟩
      have hL := list_any w2 hM2 (hide hE2) HTG
      have HFi := hide hfine
      have HLe := hide hlen
      clear HL hfine hlen hts hM2 hE2
      go_wp2_with (go_at_call 58; refine hL.mono ?_; clear hL; rintro ev w3 ⟨vo, vc, vn, rfl, HVN, hvr, hb3⟩)
      go_ret2
      exact ⟨vo, vc, vn, patF xa cs, _, rfl, HVN, hide hvr, hide (.inr (.inr (.inr ⟨unhide HF1, unhide HFi, unhide HLe, rfl, rfl⟩))), hB2.trans (hb3.mono hB2.size)⟩
  · have HF1 := hide hF
    clear HO1 hF ha
    go_wp2_with fail
    go_ret2
    exact ⟨none, 0, 0, [], _, rfl, hide rfl, hide (erow_nil _ _), hide (.inl ⟨i, rfl, ⟨q, rfl, c0, c1⟩, unhide HF1⟩), hb1⟩
set_option maxHeartbeats 2000000 in
theorem ppatch_any (ao bo : Option Addr) (ca cb na nb : Nat) (xa cs : List Ent) (w : World) (ha : ERow w ao xa) (hb : ERow w bo cs) (HNa : Hid (na = xa.length)) (HNb : Hid (nb = cs.length)) (hna : na ≤ 4294967280) (hnb : nb ≤ 4294967280) (hcb : nb ≤ cb) (HSa : Hid (Small xa)) (HSb : Hid (Small cs)) (hl : Laid w) :
    Calls Tryz.prog 15 #[.slice ao na ca, .slice bo nb cb] w fun ev w' => ∃ (vo : Option Addr) (vc vn : Nat) (ks : List Ent) (e n : Int), ev = .returned (.tuple #[.slice vo vn vc, .int .i64 e, .int .i64 n]) ∧ Hid (vn = ks.length) ∧ Hid (ERow w' vo ks) ∧ Hid (PPatIs xa cs ks e n) ∧ Below w.heap.size w w' := by
  have HL := hide hl
  have hD := lpatch_any ao bo ca cb na nb xa cs w ha hb HNa HNb hna hnb hcb HSa HSb hl
  clear ha hb hl
  go_enter Tryz.func15, Tryz.ntmps15
  go_upto_region 2 with (go_at_call 36; refine hD.mono ?_; clear hD; rintro ev w1 ⟨vo, vc, vn, ks, er, rfl, HVN, HVR, HO, hb1⟩)
  have HL1 := hide ((unhide HL).below hb1)
  have fin : (∃ (b : Nat) (c i : Int), er = .iface 83 (.pointer (some ⟨b, 0, none⟩)) ∧ w1.cell? ⟨b, 0, none⟩ = some (.int .i64 c) ∧ w1.cell? ⟨b, 1, none⟩ = some (.int .i64 i) ∧ Hid (PPatIs xa cs ks c i)) ∨ (er = .iface 23 (.int .i64 10) ∧ Hid (PPatIs xa cs ks 10 (-1))) ∨ (er = .nilIface ∧ Hid (PPatIs xa cs ks 0 (-1))) := by
    rcases unhide HO with ⟨i, h1, ⟨b, h2, h3, h4⟩, h5⟩ | ⟨h0, c, i, h1, ⟨b, h2, h3, h4⟩, h5⟩ | ⟨h0, h1, h2, h3, h4⟩ | ⟨h0, h1, h2, h3, h4⟩
    · exact .inl ⟨b, 2, i, h2, h3, h4, hide (.inl ⟨i, h1, rfl, rfl, h5⟩)⟩
    · exact .inl ⟨b, c, i, h2, h3, h4, hide (.inr (.inl ⟨h0, c, i, h1, rfl, rfl, h5⟩))⟩
    · exact .inr (.inl ⟨h4, hide (.inr (.inr (.inl ⟨h0, h1, h2, h3, rfl, rfl⟩)))⟩)
    · exact .inr (.inr ⟨h4, hide (.inr (.inr (.inr ⟨h0, h1, h2, h3, rfl, rfl⟩)))⟩)
  clear HO
  rcases fin with ⟨b, c, i, rfl, c0, c1, HP⟩ | ⟨rfl, HP⟩ | ⟨rfl, HP⟩
  · have hT := tell_at b c i w1 (unhide HL1).err c0 c1
    clear c0 c1
    go_wp2_with (go_at_call 24; refine hT.mono ?_; clear hT; rintro ev w2 ⟨rfl, hb2⟩)
    refine bodyPost_ret (results_tmp3 rfl _ _ _) rfl ?_
    exact ⟨_, _, _, _, _, _, rfl, HVN, hide ((unhide HVR).below hb2), HP, hb1.trans (hb2.mono hb1.size)⟩
  · have hT := tell_errno 10 w1 (unhide HL1).err
    go_wp2_with (go_at_call 24; refine hT.mono ?_; clear hT; rintro ev w2 ⟨rfl, hb2⟩)
    refine bodyPost_ret (results_tmp3 rfl _ _ _) rfl ?_
    exact ⟨_, _, _, _, _, _, rfl, HVN, hide ((unhide HVR).below hb2), HP, hb1.trans (hb2.mono hb1.size)⟩
  · go_wp2_with (go_at_call 24; refine (tell_nil w1).mono ?_; rintro ev w2 ⟨rfl, hb2⟩)
    refine bodyPost_ret (results_tmp3 rfl _ _ _) rfl ?_
    exact ⟨_, _, _, _, _, _, rfl, HVN, hide ((unhide HVR).below hb2), HP, hb1.trans (hb2.mono hb1.size)⟩
end Go.Proofs.YtephkedlihediaaGreatDoor

namespace Go.Proofs.YtephkedlihediaaGreatDoor
open Go.RowKit

theorem blwB {p q : List UInt8} (hq : isP q = true) : blw q p = underB p q := by
  cases h : underB p q
  · cases h2 : blw q p
    · rfl
    · rw [underB_iff.2 ((blw_under hq).1 h2)] at h; cases h
  · exact (blw_under hq).2 (underB_iff.1 h)
theorem wo_yes {es : List Ent} {k : Nat} {e : Ent} {p : List UInt8} {self : Bool} (he : es[k]? = some e) (h : keepW p self e.path.data.toList = true) : wo (es.take (k + 1)) p self = wo (es.take k) p self ++ [e] := by
  rw [wo, wo, woG, woG, List.take_add_one, he, List.filter_append]; simp [Ent.q, h]
theorem wo_not {es : List Ent} {k : Nat} {e : Ent} {p : List UInt8} {self : Bool} (he : es[k]? = some e) (h : keepW p self e.path.data.toList = false) : wo (es.take (k + 1)) p self = wo (es.take k) p self := by
  rw [wo, wo, woG, woG, List.take_add_one, he, List.filter_append]; simp [Ent.q, h]

set_option maxHeartbeats 1000000 in
set_option maxRecDepth 100000 in
theorem without_any (ao : Option Addr) (cap n : Nat) (es : List Ent) (p : ByteArray) (self : Bool) (w : World) (hr : ERow w ao es) (HN : Hid (n = es.length)) (hn : n ≤ 1000) (hp : p.size ≤ 1048576) (HP : Hid (∀ e ∈ es, isP e.path.data.toList = true)) :
    Calls Tryz.prog 38 #[.slice ao n cap, .string p, .bool self] w fun ev w' => ∃ ao' cap' n', ev = .returned (.slice ao' n' cap') ∧ Hid (n' = (wo es p.data.toList self).length) ∧ ERow w' ao' (wo es p.data.toList self) ∧ n' ≤ cap' ∧ Below w.heap.size w w' := by
  obtain ⟨i0, hi, hz0, hz1, hz2⟩ := info_parts Tryz.info56
  go_enter Tryz.func38, Tryz.ntmps38
  go_wp2
  go_loopw [7, 8] (fun v i wr => ∃ (k : Nat) (ks : List Ent), k ≤ n ∧ ks.length ≤ k ∧ i = .int .i64 k ∧ OwnE wr w.heap.size v ks ∧ Below w.heap.size w wr ∧ Hid (ks = wo (es.take k) p.data.toList self)) (fun _ i _ => n - (intOf i).toNat)
  case atStart => exact ⟨0, [], by omega, by simp, rfl, World.ownsRow_nil _ _ _ _, Below.refl _ _, hide (by simp [wo, woG])⟩
  case round =>
    obtain ⟨k, ks, hk, hkl, rfl, hown, hb, HK⟩ := hrel
    by_cases hlt : k < n
    · obtain ⟨e, he⟩ : ∃ e, es[k]? = some e := ⟨es[k]'(by have := unhide HN; omega), List.getElem?_eq_getElem (by have := unhide HN; omega)⟩
      obtain ⟨g, o, rfl, c0, c1, c2, c3⟩ := (hr.below hb) k e he
      have i1 : (0 : Int) ≤ (k : Int) := by omega
      have i2 : (k : Int) < (n : Int) := by omega
      have HE := hide he
      have HKW : Hid (keepW p.data.toList self e.path.data.toList = !(blw e.path.data.toList p.data.toList || (self && e.path.data.toList == p.data.toList))) := hide (by rw [blwB (unhide HP e (List.mem_of_getElem? he))]; rfl)
      clear he
      go_upto_region 6 with (go_at_call 37; refine (refBelow_any e.path p _ (by omega)).mono ?_; rintro ev w4 ⟨rfl, hw⟩; obtain rfl := hw.symm)
      cases hbl : blw e.path.data.toList p.data.toList
      · cases self
        · have HQ : Hid (wo (es.take (k + 1)) p.data.toList false = ks ++ [e]) := hide (by rw [wo_yes (unhide HE) (by rw [unhide HKW, hbl]; rfl), unhide HK])
          go_wp2_with (first | (at_builtin; refine wpList_append_own _ rfl _ _ 22 rfl w.heap.size 56 i0 _ 4 48 Tryz.underlying22 hi hz0 hz1 hz2 rfl (by decide) _ _ _ rfl (World.ownsRow.alloc hown _) ⟨wr.heap.size, 0, none⟩ 1 1 (ec e) rfl rfl (World.news_of_block (cs := #[.string e.path, .int .i64 e.kind, .int .i64 e.mode, .string e.data]) (t := 56) (fr := (0, 0)) (heap_alloc_new _ _)) (fun y hy => by simp [ec] at hy; rcases hy with rfl | rfl | rfl | rfl <;> rfl) (by unfold maxLen; omega) (by omega) (by have := hb.size; simp; omega) ?_; intro v' w5 hown5 hgrow _))
          go_roundw
          case rel =>
            have R1 : OwnE w5 w.heap.size v' (ks ++ [e]) := by
              unfold OwnE
              rw [List.length_append, show entC (ks ++ [e]) = entC ks ++ ec e from by simp [entC]]
              exact hown5
            have R2 : Below w.heap.size w w5 := (hb.alloc hb.size _).grown hgrow (by have := hb.size; simp; omega) (fun q hq => (World.ownsRow.lt hown q hq).1)
            first
              | exact ⟨k + 1, ks ++ [e], by omega, by simp; omega, by go_num, R1, R2, hide (unhide HQ).symm⟩
              | ((repeat apply Exists.intro); exact ⟨⟨k + 1, ks ++ [e], by omega, by simp; omega, by go_num, R1, R2, hide (unhide HQ).symm⟩, rfl⟩)
          case measure => simp [intOf]; omega
        · by_cases hq : e.path.data.toList = p.data.toList
          · have g1 : (e.path.toList == p.toList) = true := by rw [Lib.toList_data, Lib.toList_data, hq]; simp
            have HQ : Hid (wo (es.take (k + 1)) p.data.toList true = ks) := hide (by rw [wo_not (unhide HE) (by rw [unhide HKW, hq]; simp), unhide HK])
            clear hq
            go_wp2_with fail
            go_roundw
            case rel =>
              first
                | exact ⟨k + 1, ks, by omega, by omega, by go_num, hown, hb, hide (unhide HQ).symm⟩
                | ((repeat apply Exists.intro); exact ⟨⟨k + 1, ks, by omega, by omega, by go_num, hown, hb, hide (unhide HQ).symm⟩, rfl⟩)
            case measure => simp [intOf]; omega
          · have g1 : (e.path.toList == p.toList) = false := by rw [Lib.toList_data, Lib.toList_data]; simpa using hq
            have HQ : Hid (wo (es.take (k + 1)) p.data.toList true = ks ++ [e]) := hide (by
              have h2 : (e.path.data.toList == p.data.toList) = false := by simpa using hq
              rw [wo_yes (unhide HE) (by rw [unhide HKW, hbl, h2]; rfl), unhide HK])
            clear hq
            go_wp2_with (first | (at_builtin; refine wpList_append_own _ rfl _ _ 22 rfl w.heap.size 56 i0 _ 4 48 Tryz.underlying22 hi hz0 hz1 hz2 rfl (by decide) _ _ _ rfl (World.ownsRow.alloc hown _) ⟨wr.heap.size, 0, none⟩ 1 1 (ec e) rfl rfl (World.news_of_block (cs := #[.string e.path, .int .i64 e.kind, .int .i64 e.mode, .string e.data]) (t := 56) (fr := (0, 0)) (heap_alloc_new _ _)) (fun y hy => by simp [ec] at hy; rcases hy with rfl | rfl | rfl | rfl <;> rfl) (by unfold maxLen; omega) (by omega) (by have := hb.size; simp; omega) ?_; intro v' w5 hown5 hgrow _))
            go_roundw
            case rel =>
              have R1 : OwnE w5 w.heap.size v' (ks ++ [e]) := by
                unfold OwnE
                rw [List.length_append, show entC (ks ++ [e]) = entC ks ++ ec e from by simp [entC]]
                exact hown5
              have R2 : Below w.heap.size w w5 := (hb.alloc hb.size _).grown hgrow (by have := hb.size; simp; omega) (fun q hq => (World.ownsRow.lt hown q hq).1)
              first
                | exact ⟨k + 1, ks ++ [e], by omega, by simp; omega, by go_num, R1, R2, hide (unhide HQ).symm⟩
                | ((repeat apply Exists.intro); exact ⟨⟨k + 1, ks ++ [e], by omega, by simp; omega, by go_num, R1, R2, hide (unhide HQ).symm⟩, rfl⟩)
            case measure => simp [intOf]; omega
      · have HQ : Hid (wo (es.take (k + 1)) p.data.toList self = ks) := hide (by rw [wo_not (unhide HE) (by rw [unhide HKW, hbl]; rfl), unhide HK])
        go_wp2_with fail
        go_roundw
        case rel =>
          first
            | exact ⟨k + 1, ks, by omega, by omega, by go_num, hown, hb, hide (unhide HQ).symm⟩
            | ((repeat apply Exists.intro); exact ⟨⟨k + 1, ks, by omega, by omega, by go_num, hown, hb, hide (unhide HQ).symm⟩, rfl⟩)
        case measure => simp [intOf]; omega
    · obtain ⟨ao', cap', n', rfl, HN', hrow, hnc⟩ := ownE_row hown
      have HF : Hid (ks = wo es p.data.toList self) := hide (by rw [unhide HK, List.take_of_length_le (by have := unhide HN; omega)])
      go_wp2_with fail
      go_ret
      exact ⟨ao', cap', n', rfl, hide (by rw [← unhide HF]; exact unhide HN'), (by rw [← unhide HF]; exact hrow), hnc, hb⟩
end Go.Proofs.YtephkedlihediaaGreatDoor
