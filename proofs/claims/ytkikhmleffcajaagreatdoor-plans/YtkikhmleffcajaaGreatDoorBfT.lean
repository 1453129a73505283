import Derived.Test.YtkikhmleffcajaaGreatDoorBfS
namespace Go.Proofs.YtkikhmleffcajaaGreatDoor
open Go.RowKit Go.Maps

theorem file_end {l : List UInt8} {st : List Stg} {k : Nat} (h : ¬ k < l.length) : fileG l st k = if st = [] then .error (5, l.length) else .ok st := by
  rw [fileG, if_neg h]
theorem file_bad {l : List UInt8} {st : List Stg} {k : Nat} {e : Nat × Nat} (h : k < l.length) (hl : linG l [] k = .error e) : fileG l st k = .error e := by
  rw [fileG, if_pos h, hl]
theorem file_none {l : List UInt8} {st : List Stg} {k t : Nat} (h : k < l.length) (hl : linG l [] k = .ok ([], t)) (ht : k < t) : fileG l st k = fileG l st t := by
  rw [fileG, if_pos h, hl]
  simp only
  rw [dif_pos ht]
  simp
theorem file_some {l : List UInt8} {st : List Stg} {k t : Nat} {ws : List Wd} (h : k < l.length) (hl : linG l [] k = .ok (ws, t)) (ht : k < t) (hw : ws ≠ []) : fileG l st k = match takeG st ws with
    | .error e => .error e
    | .ok st' => fileG l st' t := by
  rw [fileG, if_pos h, hl]
  simp only
  rw [dif_pos ht, if_neg hw]
  rfl
theorem plain_len {xs : List Atm} {t : List UInt8} (h : plainW xs = some t) : t.length ≤ xs.length := by
  induction xs generalizing t with
  | nil => cases h; simp
  | cons a r ih =>
    cases a with
    | inr pA => obtain ⟨n, k⟩ := pA; cases h
    | inl c =>
      simp only [plainW] at h
      cases hr : plainW r with
      | none => rw [hr] at h; cases h
      | some u =>
        rw [hr] at h
        injection h with h
        have := ih hr
        rw [← h]; simp; omega
/-- What turns in a reader alone leaves a file as it is. -/
theorem FileM.rd {w w' : World} {B fb q : Nat} {sv : Value} {ss : List StM} {c : Array Value} (h : FileM w B fb sv ss) (hq : w.heap[q]? = some (.cells c 130 (0, 0))) (ht : Tb w.heap.size q w w') : FileM w' B fb sv ss := by
  have hne : fb ≠ q := by
    rintro rfl
    have := h.cells
    rw [hq] at this
    injection this with this
    injection this with _ this
    cases this
  exact ⟨(ht.block fb h.lt hne).trans h.cells, h.base, row_off h.row ht (row_tag h.row hq (by decide)), fun s hs => ⟨row_off (h.all s hs).row ht (row_tag (h.all s hs).row hq (by decide)), fun m hm => ((h.all s hs).all m hm).off hq (by decide) (by decide) ht, (h.all s hs).short⟩, h.short⟩
/-- What reading a file comes to. -/
def FileOut (w w' : World) (ev : Ending) (r : Res (List Stg)) : Prop := match r with
  | .error (e, p) => Wrg w' ev e p
  | .ok st => ∃ fb sv ss, ev = .returned (.pointer (some ⟨fb, 0, none⟩)) ∧ FileM w' w.heap.size fb sv ss ∧ ss.map StM.stg = st
set_option maxHeartbeats 4000000 in
set_option maxRecDepth 10000 in
theorem read_file (s : ByteArray) (m : Int) (w : World) (hm : w.cell? ⟨1, 0, none⟩ = some (.int .i64 m)) :
    Calls Tryz.prog 18 #[.string s] w fun ev w' => FileOut w w' ev (parseG s.data.toList) ∧ Below w.heap.size w w' := by
  have hml : (1 : Nat) < w.heap.size := World.block_lt_of_cell? _ _ hm
  have HM := hide hm
  obtain ⟨W0, hW0⟩ : ∃ W0, W0 = w.alloc (.cells #[.slice none 0 0] 86) := ⟨_, rfl⟩
  have hb0 : Below w.heap.size w W0 := by rw [hW0]; exact (Below.refl _ _).alloc (Nat.le_refl _) _
  have hF0 : FileM W0 w.heap.size w.heap.size (.slice none 0 0) [] := ⟨by rw [hW0]; exact heap_alloc_new _ _, Nat.le_refl _, World.ownsRow_nil _ _ _ _, by simp, by simp⟩
  have hN := new_any s W0
  unfold NewOut at hN
  have HB0 := hide hb0
  have HF0 := hide hF0
  clear hm hb0 hF0
  by_cases h15 : 1500 < s.size
  · simp only [if_pos h15] at hN
    unfold Wrg at hN
    have HG : Hid (parseG s.data.toList = .error (10, 1500)) := hide (by unfold parseG; rw [← Lib.size_eq, if_pos h15])
    clear h15
    go_enter Tryz.func18, Tryz.ntmps18
    go_upto_region 2 with fail
    rw [← hW0]
    clear hW0
    go_wp2_with (go_at_call 32; refine hN.mono ?_; clear hN; rintro ev w8 ⟨⟨bb, rfl, hc⟩, hb8⟩)
    refine ⟨rfl, ?_, (unhide HB0).trans (hb8.mono (unhide HB0).size)⟩
    unfold FileOut
    rw [unhide HG]
    exact ⟨bb, rfl, hc⟩
  simp only [if_neg h15] at hN
  by_cases hmay : mayN s.data.toList < s.size
  · simp only [if_pos hmay] at hN
    unfold Wrg at hN
    have HG : Hid (parseG s.data.toList = .error (5, mayN s.data.toList)) := hide (by unfold parseG; rw [← Lib.size_eq, if_neg h15, if_pos hmay])
    clear h15 hmay
    go_enter Tryz.func18, Tryz.ntmps18
    go_upto_region 2 with fail
    rw [← hW0]
    clear hW0
    go_wp2_with (go_at_call 32; refine hN.mono ?_; clear hN; rintro ev w8 ⟨⟨bb, rfl, hc⟩, hb8⟩)
    refine ⟨rfl, ?_, (unhide HB0).trans (hb8.mono (unhide HB0).size)⟩
    unfold FileOut
    rw [unhide HG]
    exact ⟨bb, rfl, hc⟩
  simp only [if_neg hmay] at hN
  have HG : Hid (parseG s.data.toList = fileG s.data.toList [] 0) := hide (by unfold parseG; rw [← Lib.size_eq, if_neg h15, if_neg hmay])
  have hs : s.size ≤ 1500 := by omega
  clear h15 hmay
  go_enter Tryz.func18, Tryz.ntmps18
  go_upto_region 2 with fail
  rw [← hW0]
  clear hW0
  go_wp2_with (go_at_call 32; refine hN.mono ?_; clear hN; rintro ev w1 ⟨⟨rb, rfl, hrb, hR1⟩, hb1⟩)
  have hB1 : Below w.heap.size w w1 := (unhide HB0).trans (hb1.mono (unhide HB0).size)
  have hF1 := (unhide HF0).below hb1
  have hrw : w.heap.size ≤ rb := Nat.le_trans (unhide HB0).size hrb
  have HF1 := hide hF1
  have HR1 := hide hR1
  have HB1 := hide hB1
  clear hF1 hR1 hB1 hb1 hrb
  go_loopw [10] (fun _ wr => ∃ (j : Nat) (sv : Value) (ss : List StM), Rdr wr rb s j ∧ j ≤ s.size ∧ FileM wr w.heap.size w.heap.size sv ss ∧ Begun ss ∧ ApartS ss ∧ fileG s.data.toList [] 0 = fileG s.data.toList (ss.map StM.stg) j ∧ Below w.heap.size w wr) (fun _ wr => s.size - atOf wr rb)
  case atStart => exact ⟨0, _, [], unhide HR1, Nat.zero_le _, unhide HF1, fun i s hs => by simp at hs, List.Pairwise.nil, rfl, unhide HB1⟩
  case round =>
    obtain ⟨j, sv, ss, hR, hj, hF, hBeg, hAp, hG, hB⟩ := hrel
    have HA := hide hR.at
    have HR := hide hR
    have HF := hide hF
    have HBeg := hide hBeg
    have HAp := hide hAp
    have HGf := hide hG
    have HB := hide hB
    have hBw : w.heap.size ≤ wr.heap.size := hB.size
    have HMr : Hid (∀ w', Below w.heap.size w w' → w'.cell? ⟨1, 0, none⟩ = some (.int .i64 m)) := hide (fun w' hb' => by rw [World.cell?_of_block (hb'.block 1 hml)]; exact unhide HM)
    clear hR hF hBeg hAp hG hB
    by_cases hlt : j < s.size
    · have hlt' : j < s.data.toList.length := by rw [← Lib.size_eq]; exact hlt
      have mM := moreR rb s j true wr (unhide HR) (decide_eq_true hlt)
      have mL := fun w2 (hb2 : Below wr.heap.size wr w2) => line_any rb s j m w2 ((unhide HR).tb hb2) hj hs (unhide HMr w2 ((unhide HB).trans (hb2.mono hBw))) (by omega)
      unfold LineOut at mL
      cases hln : linG s.data.toList [] j with
      | error e =>
        obtain ⟨e, p⟩ := e
        rw [hln] at mL
        unfold Wrg at mL
        have HE : Hid (fileG s.data.toList [] 0 = .error (e, p)) := hide (by rw [unhide HGf]; exact file_bad hlt' hln)
        clear hln
        go_wp2_with (first
          | (go_at_call 33; refine mM.mono ?_; clear mM; rintro ev w2 ⟨rfl, hR2, hb2⟩)
          | (go_at_call 34; refine (mL _ hb2).mono ?_; clear mL; rintro ev w8 ⟨⟨bb, rfl, hc⟩, hT8⟩))
        refine ⟨rfl, ?_, ((unhide HB).trans (hb2.mono hBw)).trans ((hT8.mono (Nat.le_trans hBw hb2.size)).below hrw)⟩
        unfold FileOut
        rw [unhide HG, unhide HE]
        exact ⟨bb, rfl, hc⟩
      | ok y =>
        obtain ⟨ws, t⟩ := y
        rw [hln] at mL
        have HLN := hide hln
        clear hln
        go_upto_region 5 with (first
          | (go_at_call 33; refine mM.mono ?_; clear mM; rintro ev w2 ⟨rfl, hR2, hb2⟩)
          | (go_at_call 34; refine (mL _ hb2).mono ?_; clear mL; rintro ev w3 ⟨⟨v, ms, rfl, hMS, hmap, hR3, hjt, hjt2, hts, hml3, hxl⟩, hT3⟩))
        have hB2 : Below w.heap.size w w2 := (unhide HB).trans (hb2.mono hBw)
        have hB3 : Below w.heap.size w w3 := hB2.trans ((hT3.mono hB2.size).below hrw)
        have hF3 : FileM w3 w.heap.size w.heap.size sv ss := ((unhide HF).below hb2).rd hR2 hT3
        have hjt' := hjt2 hlt
        have hMS3 : WsM w3 w.heap.size v ms := ⟨row_base hMS.row hB2.size, fun x hx => row_base (hMS.all x hx) hB2.size⟩
        obtain ⟨aov, capv, hv⟩ := ws_form hMS3
        have HR3 := hide hR3
        have HF3 := hide hF3
        have HB3 := hide hB3
        have HMS3 := hide hMS3
        have HMAP := hide hmap
        have HXL := hide hxl
        have HVV := hide hv
        subst hv
        clear hR3 hF3 hB3 hMS3 hmap hxl hMS hR2 hT3 hjt hjt2 hb2 hB2
        by_cases hms : ms = []
        · subst hms
          have HE : Hid (fileG s.data.toList [] 0 = fileG s.data.toList (ss.map StM.stg) t) := hide (by
            rw [unhide HGf]
            have hl := unhide HLN
            rw [← unhide HMAP] at hl
            exact file_none hlt' hl hjt')
          go_wp2_with fail
          go_roundw
          case rel =>
            first
              | exact ⟨t, sv, ss, unhide HR3, hts, unhide HF3, unhide HBeg, unhide HAp, unhide HE, unhide HB3⟩
              | ((repeat apply Exists.intro); exact ⟨⟨t, sv, ss, unhide HR3, hts, unhide HF3, unhide HBeg, unhide HAp, unhide HE, unhide HB3⟩, rfl⟩)
          case measure => rw [unhide HA, (unhide HR3).at]; omega
        · have hml0 : 0 < ms.length := List.length_pos_iff.2 hms
          obtain ⟨x0, hx0⟩ : ∃ x0, ms[0]? = some x0 := ⟨_, List.getElem?_eq_getElem hml0⟩
          obtain ⟨n, hn⟩ : ∃ n, n = ms.length := ⟨_, rfl⟩
          obtain ⟨W4, hW4⟩ : ∃ W4, W4 = w3.alloc (.cells #[.slice aov n capv, .int .i64 (-1), .int .i64 0, .int .i64 0, .nilFunc, .nilFunc] 99) := ⟨_, rfl⟩
          have hb4 : Below w3.heap.size w3 W4 := by rw [hW4]; exact (Below.refl _ _).alloc (Nat.le_refl _) _
          have hI4 : InB W4 w.heap.size w3.heap.size (.slice aov n capv) ms (-1) 0 0 .nilFunc .nilFunc := ⟨by rw [hW4]; exact heap_alloc_new _ _, by rw [hn]; exact (unhide HMS3).below hb4, (unhide HB3).size, by omega, fun x hx => by
            have h1 := unhide HXL x hx
            have h2 := (parts_le x.xs).1
            exact ⟨by omega, fun t ht => by have := plain_len ht; omega⟩⟩
          have hF4 := (unhide HF3).below hb4
          have hTk := take_inst w.heap.size w.heap.size w3.heap.size sv (.slice aov n capv) ss ms x0 W4 hF4 hI4 (fun s' hs' e => by
            have := (World.ownsRow.lt ((unhide HF3).all s' hs').row _ e).2; omega) (unhide HBeg) (unhide HAp) hx0
          unfold TakeOut at hTk
          have hB4 : w.heap.size ≤ w3.heap.size := (unhide HB3).size
          have HB4 : Hid (Below w.heap.size w W4) := hide ((unhide HB3).trans (hb4.mono hB4))
          have HR4 : Hid (Rdr W4 rb s t) := hide ((unhide HR3).tb hb4)
          have hws : ws ≠ [] := by rw [← unhide HMAP]; simpa using hms
          have HFS := hide (file_some (st := ss.map StM.stg) hlt' (unhide HLN) hjt' hws)
          rw [← unhide HMAP] at HFS
          have g0 : (0 : Int) < (n : Int) := by omega
          rw [← hn]
          clear hms hx0 hn hb4 hI4 hF4 hws hml0
          cases htk : takeG (ss.map StM.stg) (ms.map WdM.wd) with
          | error e =>
            obtain ⟨e, p⟩ := e
            rw [htk] at hTk
            unfold Wrg at hTk
            have HE : Hid (fileG s.data.toList [] 0 = .error (e, p)) := hide (by rw [unhide HGf, unhide HFS, htk])
            clear htk
            go_upto_region 6 with fail
            go_wp2_with (go_at_call 35; rw [← hW4]; refine hTk.mono ?_; clear hTk; rintro ev w8 ⟨⟨bb, rfl, hc⟩, hb8⟩)
            refine ⟨rfl, ?_, (unhide HB4).trans hb8.below⟩
            unfold FileOut
            rw [unhide HG, unhide HE]
            exact ⟨bb, rfl, hc⟩
          | ok st' =>
            rw [htk] at hTk
            have HE : Hid (fileG s.data.toList [] 0 = fileG s.data.toList st' t) := hide (by rw [unhide HGf, unhide HFS, htk])
            clear htk
            go_upto_region 6 with fail
            go_wp2_with (go_at_call 35; rw [← hW4]; refine hTk.mono ?_; clear hTk; rintro ev w5 ⟨⟨rfl, sv5, ss5, hF5, hst5, hBg5, hAp5⟩, hb5⟩)
            have hR5 : Rdr w5 rb s t := hb5.keep _ _ _ (unhide HR4)
            go_roundw
            case rel =>
              first
                | exact ⟨t, sv5, ss5, hR5, hts, hF5, hBg5, hAp5, by rw [hst5]; exact unhide HE, (unhide HB4).trans hb5.below⟩
                | ((repeat apply Exists.intro); exact ⟨⟨t, sv5, ss5, hR5, hts, hF5, hBg5, hAp5, by rw [hst5]; exact unhide HE, (unhide HB4).trans hb5.below⟩, rfl⟩)
            case measure => rw [unhide HA, hR5.at]; omega
    · have mM := moreR rb s j false wr (unhide HR) (decide_eq_false hlt)
      have HGE : Hid (fileG s.data.toList [] 0 = if ss.map StM.stg = [] then .error (5, s.size) else .ok (ss.map StM.stg)) := hide (by
        rw [unhide HGf, file_end (by rw [← Lib.size_eq]; exact hlt), ← Lib.size_eq])
      obtain ⟨ao, cap, hsv⟩ : ∃ ao cap, sv = .slice ao ss.length cap := by
        rcases (unhide HF).row.2 with ⟨e, h0⟩ | ⟨g, cap, cur, e, _⟩
        · exact ⟨none, 0, by rw [e, h0]⟩
        · exact ⟨_, _, e⟩
      have HC : Hid (∀ w2, Below wr.heap.size wr w2 → w2.cell? ⟨w.heap.size, 0, none⟩ = some (.slice ao ss.length cap)) := hide (fun w2 hb2 => by rw [← hsv]; exact ((unhide HF).below hb2).c0)
      clear hsv
      cases hss : ss with
      | nil =>
        have HE : Hid (fileG s.data.toList [] 0 = .error (5, s.size)) := hide (by rw [unhide HGE, hss]; rfl)
        have hFl := fun w' => fail_wrg 5 s.size w'
        rw [hss] at HC
        clear hss
        go_wp2_with (first
          | (go_at_call 33; refine mM.mono ?_; clear mM; rintro ev w2 ⟨rfl, hR2, hb2⟩; have c0 := unhide HC w2 hb2)
          | (go_at_call 36; refine (hFl _).mono ?_; clear hFl; rintro ev w8 ⟨bb, rfl, hc, hb8⟩))
        refine ⟨rfl, ?_, ((unhide HB).trans (hb2.mono hBw)).trans (hb8.mono (Nat.le_trans hBw hb2.size))⟩
        unfold FileOut
        rw [unhide HG, unhide HE]
        exact ⟨bb, rfl, hc⟩
      | cons s0 sr =>
        have HE : Hid (fileG s.data.toList [] 0 = .ok (ss.map StM.stg)) := hide (by rw [unhide HGE, if_neg (by rw [hss]; simp)])
        obtain ⟨N, hN⟩ : ∃ N, N = ss.length := ⟨_, rfl⟩
        rw [← hN] at HC
        have g0 : ((N : Int) == 0) = false := by rw [hN, hss]; simp; omega
        clear hss hN
        go_wp2_with (go_at_call 33; refine mM.mono ?_; clear mM; rintro ev w2 ⟨rfl, hR2, hb2⟩; have c0 := unhide HC w2 hb2)
        go_ret
        refine ⟨?_, (unhide HB).trans (hb2.mono hBw)⟩
        unfold FileOut
        rw [unhide HG, unhide HE]
        exact ⟨_, sv, ss, rfl, (unhide HF).below hb2, rfl⟩
end Go.Proofs.YtkikhmleffcajaaGreatDoor
