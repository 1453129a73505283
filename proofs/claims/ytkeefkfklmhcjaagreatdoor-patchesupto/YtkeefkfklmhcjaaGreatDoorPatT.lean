import Derived.Test.YtkeefkfklmhcjaaGreatDoorJChgD
import Derived.Test.YtkeefkfklmhcjaaGreatDoorJPatM
namespace Go.Proofs.YtkeefkfklmhcjaaGreatDoor
open Go.RowKit Go.Maps

/-- The tree that comes out. -/
def patF (es cs : List Ent) : List Ent := putsF (marksF es cs) cs
/-- What changes.Patch answers. -/
def PatIs (w : World) (B : Nat) (r : Nd) (es cs : List Ent) (er : Value) : Prop :=
  (∃ i : Nat, ErIs w er 3 i ∧ FirstBadC cs i) ∨
  (FirstBadC cs (-1) ∧ ∃ i : Nat, ErIs w er 8 i ∧ FirstP (mrkAt es cs) cs.length i) ∨
  (FirstBadC cs (-1) ∧ FirstP (mrkAt es cs) cs.length (-1) ∧ ∃ i : Nat, ErIs w er 9 i ∧ FirstP (putBad (marksF es cs) cs) cs.length i) ∨
  (FirstBadC cs (-1) ∧ FirstP (mrkAt es cs) cs.length (-1) ∧ FirstP (putBad (marksF es cs) cs) cs.length (-1) ∧ TreeS (patF es cs) ∧ (patF es cs).length ≤ 120 ∧
    ((40 < (patF es cs).length ∧ er = .iface 23 (.int .i64 10)) ∨ ((patF es cs).length ≤ 40 ∧ er = .nilIface ∧ ∃ ns, Mem w B r ns ∧ entsN ns = patF es cs)))
theorem ErIs.below {w w' : World} {er : Value} {c i : Int} (h : ErIs w er c i) (hb : Below w.heap.size w w') : ErIs w' er c i := by
  obtain ⟨b, h1, h2, h3⟩ := h
  exact ⟨b, h1, cell_later hb h2, cell_later hb h3⟩
theorem okAll {cs : List Ent} (h : FirstBadC cs (-1)) : (∀ c ∈ cs, chOk c = true) ∧ cs.length ≤ 80 := by
  rcases h with ⟨_, h⟩ | ⟨i, hi, _⟩
  · refine ⟨fun c hc => ?_, allCh_lt h⟩
    obtain ⟨k, hk, rfl⟩ := List.getElem_of_mem hc
    exact (okCh_parts (List.getElem?_eq_getElem hk) (h k hk)).1
  · omega
theorem puts_small : ∀ (cs : List Ent) {t : List Ent}, Small t → Small cs → Small (putsF t cs)
  | [], _, h, _ => h
  | c :: cs, t, h, hc => puts_small cs (t := put1 t c) (by
      unfold put1
      split
      · exact h
      · intro e he
        rcases put_mem.1 he with e1 | ⟨e1, _⟩
        · rw [e1]; exact hc c (by simp)
        · exact h e e1) (fun e he => hc e (by simp [he]))
theorem marks_small : ∀ (cs : List Ent) {t : List Ent}, Small t → Small (marksF t cs)
  | [], _, h => h
  | c :: cs, t, h => marks_small cs (t := mark1 t c) (fun e he => h e (by
      unfold mark1 at he
      split at he
      · exact (List.mem_filter.1 he).1
      · split at he
        · exact (List.mem_filter.1 he).1
        · exact he))
set_option maxHeartbeats 2000000 in
set_option maxRecDepth 100000 in
theorem patch_any (r : Nd) (ns : List Nd) (B : Nat) (es : List Ent) (ao : Option Addr) (cap n : Nat) (cs : List Ent) (m : Int) (w : World) (hM : Mem w B r ns) (HE : Hid (entsN ns = es)) (HT : Hid (Tree es)) (hr : ∀ W, Below B w W → ERow W ao cs) (HN : Hid (n = cs.length)) (hn : n ≤ 4294967280) (hcap : n ≤ cap) (HS : Hid (Small cs)) (hB : B ≤ w.heap.size) (hm : ∀ W, Below B w W → W.cell? ⟨15, 0, none⟩ = some (.int .i64 m)) :
    Calls Tryz.prog 57 #[.pointer (some ⟨r.nb, 0, none⟩), .slice ao n cap] w fun ev w' => ∃ er, ev = .returned er ∧ Hid (PatIs w' B r es cs er) ∧ Below B w w' := by
  have HM := hide hm
  have HMem := hide hM
  have HR := hide hr
  have HB := hide hB
  have HTS : Hid (TreeS es) := hide (treeS_of (unhide HT).ok)
  clear hm hM hr hB
  go_enter Tryz.func57, Tryz.ntmps57
  go_upto_region 2 with (go_at_call 85; refine (check_any ao cap n cs m w (unhide HR _ (Below.refl _ _)) HN hn hcap HS (unhide HM _ (Below.refl _ _))).mono ?_; rintro ev w1 ⟨er1, rfl, HC1, hb1⟩)
  have hB1 := hb1.mono (unhide HB)
  rcases unhide HC1 with ⟨rfl, hf1⟩ | ⟨i, ⟨b, rfl, hc, hi⟩, hf1⟩
  · have HF1 := hide hf1
    clear hf1 HC1
    have HM1 := hide ((unhide HMem).below hb1)
    go_upto_region 5 with (go_at_call 86; refine (checkMarks_any r ns B es ao cap n cs m w1 (unhide HM1) HE HTS (unhide HR _ hB1) HN hn HS (unhide HM _ hB1)).mono ?_; rintro ev w2 ⟨er2, rfl, HC2, hb2⟩)
    have hB2 := hB1.trans (hb2.mono (Nat.le_trans (unhide HB) hb1.size))
    rcases unhide HC2 with ⟨rfl, hf2⟩ | ⟨i, ⟨b, rfl, hc, hi⟩, hf2⟩
    · have HF2 := hide hf2
      clear hf2 HC2
      have HM2 := hide ((unhide HM1).below hb2)
      have hz2 : B ≤ w2.heap.size := Nat.le_trans (unhide HB) hB2.size
      have HCk : Hid (∀ c ∈ cs, chOk c = true) := hide (okAll (unhide HF1)).1
      have hn80 : n ≤ 80 := by rw [unhide HN]; exact (okAll (unhide HF1)).2
      go_upto_region 8 with (go_at_call 87; refine (doMarks_any r ns B es ao cap n cs m w2 (unhide HM2) HE HTS (fun W h => unhide HR W (hB2.trans h)) HN hn HS HCk hz2 (fun W h => unhide HM W (hB2.trans h))).mono ?_; rintro ev w3 ⟨rfl, HC3, hb3⟩)
      have hB3 := hB2.trans hb3
      obtain ⟨ns3, hm3, he3⟩ := unhide HC3
      have HM3 := hide hm3
      have HE3 := hide he3
      have hz3 : B ≤ w3.heap.size := Nat.le_trans (unhide HB) hB3.size
      have HT3 : Hid (TreeS (marksF es cs)) := hide (marks_tree cs (unhide HTS))
      have hl3 : (marksF es cs).length ≤ 40 := Nat.le_trans (marks_len cs es) (unhide HT).len
      clear hm3 he3 HC3
      go_upto_region 9 with (go_at_call 88; refine (putEntries_any r ns3 B (marksF es cs) ao cap n cs m w3 (unhide HM3) HE3 HT3 hl3 (fun W h => unhide HR W (hB3.trans h)) HN hn80 HS HCk hz3 (fun W h => unhide HM W (hB3.trans h))).mono ?_; rintro ev w4 ⟨er4, rfl, HC4, HG4, hb4⟩)
      have hB4 := hB3.trans hb4
      rcases unhide HC4 with ⟨rfl, hf4⟩ | ⟨i, ⟨b, rfl, hc, hi⟩, hf4⟩
      · have HF4 := hide hf4
        obtain ⟨ns4, hm4, he4, ht4, hl4⟩ := unhide HG4 (by simp)
        have HM4 := hide hm4
        have HE4 : Hid (entsN ns4 = patF es cs) := hide he4
        have HT4 : Hid (TreeS (patF es cs)) := hide ht4
        have HG : Hid (TreeG (patF es cs)) := hide ⟨ht4.ok, hl4, puts_small cs (marks_small cs (unhide HT).small) (unhide HS)⟩
        have hl5 : ns4.length = (patF es cs).length := by rw [← unhide HE4]; simp [entsN]
        have hl6 : (patF es cs).length ≤ 120 := hl4
        clear hf4 HC4 HG4 hm4 he4 ht4 hl4
        have hBl := below_any w4 (unhide HM4) HE4 HG
        rw [hl5] at hBl
        obtain ⟨q, hq⟩ : ∃ q, q = (patF es cs).length := ⟨_, rfl⟩
        rw [← hq] at hBl hl6
        have HQ := hide hq
        clear hq hl5
        by_cases h40 : q ≤ 40
        · have i40 : (q : Int) ≤ 40 := by omega
          go_wp2_with (go_at_call 89; refine hBl.mono ?_; clear hBl; rintro ev w5 ⟨rfl, hb5⟩)
          go_ret
          refine ⟨_, rfl, hide (.inr (.inr (.inr ⟨unhide HF1, unhide HF2, unhide HF4, unhide HT4, (by rw [← unhide HQ]; exact hl6), .inr ⟨(by rw [← unhide HQ]; exact h40), rfl, ns4, (unhide HM4).below hb5, unhide HE4⟩⟩))), hB4.trans (hb5.mono (Nat.le_trans (unhide HB) hB4.size))⟩
        · have i40 : ¬ (q : Int) ≤ 40 := by omega
          have i41 : (40 : Int) < (q : Int) := by omega
          go_wp2_with (go_at_call 89; refine hBl.mono ?_; clear hBl; rintro ev w5 ⟨rfl, hb5⟩)
          go_ret
          refine ⟨_, rfl, hide (.inr (.inr (.inr ⟨unhide HF1, unhide HF2, unhide HF4, unhide HT4, (by rw [← unhide HQ]; exact hl6), .inl ⟨(by rw [← unhide HQ]; omega), rfl⟩⟩))), hB4.trans (hb5.mono (Nat.le_trans (unhide HB) hB4.size))⟩
      · have HX : Hid (PatIs w4 B r es cs (.iface 83 (.pointer (some ⟨b, 0, none⟩)))) := hide (.inr (.inr (.inl ⟨unhide HF1, unhide HF2, i, ⟨b, rfl, hc, hi⟩, hf4⟩)))
        clear hf4 HC4 HG4 hc hi
        go_wp2_with fail
        go_ret
        exact ⟨_, rfl, HX, hB4⟩
    · have HX : Hid (PatIs w2 B r es cs (.iface 83 (.pointer (some ⟨b, 0, none⟩)))) := hide (.inr (.inl ⟨unhide HF1, i, ⟨b, rfl, hc, hi⟩, hf2⟩))
      clear hf2 HC2 hc hi
      go_wp2_with fail
      go_ret
      exact ⟨_, rfl, HX, hB2⟩
  · have HX : Hid (PatIs w1 B r es cs (.iface 83 (.pointer (some ⟨b, 0, none⟩)))) := hide (.inl ⟨i, ⟨b, rfl, hc, hi⟩, hf1⟩)
    clear hf1 HC1 hc hi
    go_wp2_with fail
    go_ret
    exact ⟨_, rfl, HX, hB1⟩
end Go.Proofs.YtkeefkfklmhcjaaGreatDoor
