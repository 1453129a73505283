import Derived.Test.YtkikhmleffcajaaGreatDoorPnD
import Derived.Test.YtkikhmleffcajaaGreatDoorJDcS
namespace Go.Proofs.YtkikhmleffcajaaGreatDoor
open Go.RowKit Go.Maps

theorem Rel.want {ss : List DsM} {st : List Stg} (h : Rel ss st) {i : Nat} {s : DsM} (hs : ss[i]? = some s) (k : Nat) : wantD s k = wantG st i k := by
  have hi := (List.getElem?_eq_some_iff.1 hs).1
  have hi' : i < st.length := by rw [← h.len]; exact hi
  obtain ⟨t, ht⟩ : ∃ t, st[i]? = some t := ⟨_, List.getElem?_eq_getElem hi'⟩
  obtain ⟨ws, he, _⟩ := (h.each i s t hs ht).ins
  unfold wantD wantG
  rw [ht]
  simp only
  rw [he, List.any_cons, List.any_map, Bool.or_comm]
  rfl
def R1 (w : World) (st : List Stg) (m : Nat) (mv : Value) (wr : World) : Prop := ∃ (b : Bool) (bs : List Bool), mv = .bool b ∧ Mk w w.heap.size wr w.heap.size bs ∧ bs.length = m + 1 ∧ Snd st bs ∧ (b = false → Clo st bs)
def R2 (w : World) (st : List Stg) (bs0 : List Bool) (m : Nat) (mv iv : Value) (wr : World) : Prop := ∃ (b : Bool) (bs : List Bool) (i : Nat), i ≤ m + 1 ∧ iv = .int .i64 (i : Int) ∧ mv = .bool b ∧ Mk w w.heap.size wr w.heap.size bs ∧ bs.length = m + 1 ∧ St3 st bs0 bs b i 0
def R3 (w : World) (st : List Stg) (bs0 : List Bool) (m i : Nat) (mv kv : Value) (wr : World) : Prop := ∃ (b : Bool) (bs : List Bool) (k : Nat), k ≤ i ∧ kv = .int .i64 (k : Int) ∧ mv = .bool b ∧ Mk w w.heap.size wr w.heap.size bs ∧ bs.length = m + 1 ∧ St3 st bs0 bs b i k
set_option maxHeartbeats 8000000 in
set_option maxRecDepth 10000 in
theorem needed_doc (v : Value) (ss : List DsM) (st : List Stg) (B : Nat) (w : World) (hS : StD w B v ss) (hR : Rel ss st) (hl : ss.length ≤ 5) (hst : ∀ s ∈ ss, s.steps.length ≤ 24) (hF : Fwd st) (hne : st ≠ []) :
    Calls Tryz.prog 6 #[v] w fun e w' => NeedOut st w.heap.size w' e ∧ Below w.heap.size w w' := by
  have hlen := hR.len
  have h0 : 0 < st.length := List.length_pos_iff.2 hne
  obtain ⟨g0, cap, hv, _, _⟩ := row_capz hS.row (by omega)
  subst hv
  obtain ⟨i4, hi4, hz4, hs4, hb4⟩ := info_parts info4
  obtain ⟨i3, hi3, hz3, hs3, hb3⟩ := info_parts info3
  obtain ⟨m, hm⟩ : ∃ m, st.length = m + 1 := ⟨st.length - 1, by omega⟩
  have hn : ss.length = m + 1 := by omega
  have hm5 : m ≤ 4 := by omega
  have HS0 : Hid (Snd st ((List.replicate (m + 1) false).set m true)) := hide (by have := snd_start hne; rw [hm] at this; exact this)
  have HM := hide hm
  have HN := hide hn
  have HS := hide hS
  have HR := hide hR
  have HST := hide hst
  have HF := hide hF
  have i1 : IntKind.i64.wrap (((m + 1 : Nat) : Int) - 1) = (m : Int) := by
    rw [show (((m + 1 : Nat) : Int) - 1) = ((m : Nat) : Int) by omega]; exact wrap_i64 m (by omega)
  rw [hn]
  clear hS hR hst hF hne hlen h0 hm hn hl
  go_enter Tryz.func6, Tryz.ntmps6
  go_upto_region 2 with (at_make; refine wpList_make_full _ rfl _ _ 53 rfl w.heap.size 4 i4 (.bool false) 1 Tryz.underlying53 hi4 hz4 hs4 _ _ _ _ (m + 1) rfl rfl rfl rfl (by rw [hb4]; omega) (by unfold maxLen; omega) (Nat.le_refl _) ?_; intro w1 hrow1 hgrow1; have HK1 := hide (Mk.ofMade hrow1 hgrow1); clear hrow1 hgrow1)
  have q1 : w1.cell? ⟨w.heap.size, m, none⟩ = some (.bool false) := (unhide HK1).get (by rw [List.getElem?_replicate]; simp)
  have f1 := (unhide HK1).frz m
  obtain ⟨W2, hW2⟩ : ∃ W2, W2 = w1.setCell ⟨w.heap.size, m, none⟩ (.bool true) := ⟨_, rfl⟩
  have HK2 : Hid (Mk w w.heap.size W2 w.heap.size ((List.replicate (m + 1) false).set m true)) := hide (by rw [hW2]; exact (unhide HK1).set m)
  go_upto_region 3 with fail
  rw [← hW2]
  clear hW2 q1 f1 HK1
  go_wp2_with fail
  go_loopw [4] (fun mv wr => R1 w st m mv wr) (fun mv wr => 2 * nfW w.heap.size wr + bit mv)
  case atStart => exact ⟨true, _, rfl, unhide HK2, by simp, unhide HS0, fun e => (by cases e)⟩
  case round =>
    obtain ⟨b0, bs0, rfl, hk0, hl0, hs0, hc0⟩ := hrel
    clear HK2
    cases b0 with
    | false =>
      have HMA : Hid (Marks st bs0) := hide (Marks.clo (by rw [hl0, unhide HM]) hs0 (hc0 rfl))
      have HK0 := hide hk0
      have HL0 := hide hl0
      clear hk0 hs0 hc0 hl0 HS0
      go_wp2_with fail
      go_loopw [8, 9] (fun ov iv wr => ∃ (k : Nat) (u : Value), k ≤ m + 1 ∧ iv = .int .i64 (k : Int) ∧ u = ov ∧ St4 w w.heap.size wr w.heap.size bs0 u k) (fun _ iv _ => m + 1 - (intOf iv).toNat)
      case atStart => exact ⟨0, _, Nat.zero_le _, rfl, rfl, unhide HK0, World.ownsRow_nil _ _ _ _⟩
      case round =>
        obtain ⟨k, u, hk, rfl, hu, h4⟩ := hrel
        subst hu
        by_cases hlt : k < m + 1
        · obtain ⟨b, hb⟩ := some_bool (unhide HL0) hlt
          have qk := h4.mks.get hb
          have n0 := World.new_ne _ ⟨w.heap.size, k, none⟩ qk
          have H4 := hide h4
          obtain ⟨ao, n', c', hov⟩ := row_form h4.row
          subst hov
          have hlk := idxB_len bs0 k
          have hsz := h4.mks.below.size
          cases b with
          | false =>
            have H5 : Hid (St4 w w.heap.size wr w.heap.size bs0 (.slice ao n' c') (k + 1)) := hide ⟨h4.mks, by rw [idxB_skip (by rw [hb]; simp)]; exact h4.row⟩
            clear h4 hb
            go_wp2_with fail
            go_roundw
            case rel => exact ⟨k + 1, _, hlt, by go_num, rfl, unhide H5⟩
            case measure => simp [intOf]; omega
          | true =>
            have HB := hide hb
            obtain ⟨xs, hxs⟩ : ∃ xs, xs = idxB bs0 k := ⟨_, rfl⟩
            have HXS := hide hxs
            have HRow : Hid (NumR wr w.heap.size (.slice ao n' c') xs) := hide (by rw [hxs]; exact h4.row)
            rw [← hxs] at hlk
            clear h4 hb hxs
            go_wp2_with (at_builtin; refine wpList_append_own _ rfl _ _ 22 rfl w.heap.size 3 i3 _ 1 8 Tryz.underlying22 hi3 hz3 hs3 hb3 rfl (by decide) (.slice ao n' c') xs.length _ rfl (row_same (unhide HRow) (fun q hq => Below.heap_alloc _ _ q (World.ownsRow.lt (unhide HRow) q hq).2)) ⟨wr.heap.size, 0, none⟩ 1 1 [.int .i64 (k : Int)] rfl rfl (World.news_of_block (cs := #[.int .i64 (k : Int)]) (t := 3) (fr := (0, 0)) (heap_alloc_new _ _)) (by intro u hu; simp only [List.mem_cons, List.not_mem_nil, or_false] at hu; rcases hu with rfl; rfl) (by unfold maxLen; omega) (by omega) (by simp; omega) ?_; intro v6 w6 hown6 hgrow6 _; have HO := hide hown6; have HG := hide hgrow6; clear hown6 hgrow6)
            go_roundw
            case rel =>
              refine ⟨k + 1, _, hlt, by go_num, rfl, ?_, ?_⟩
              · exact ((unhide H4).mks.later ((Below.refl _ _).alloc (Nat.le_refl _) _)).grown (unhide HG) (unhide H4).apart (fun q hq => (World.ownsRow.lt (unhide H4).row q hq).1)
              · rw [idxB_more (unhide HB), ← unhide HXS]
                have := unhide HO
                show World.ownsRow _ _ _ _ _ _ _
                simp only [List.length_append, List.length_cons, List.length_nil, List.map_append, List.map_cons, List.map_nil]
                exact this
            case measure => simp [intOf]; omega
        · have hkm : k = m + 1 := by omega
          have H5 : Hid (NeedOut st w.heap.size wr (.returned u) ∧ Below w.heap.size w wr) := hide ⟨⟨u, bs0, unhide HMA, rfl, by rw [unhide HM, ← hkm]; exact h4.row⟩, h4.mks.below⟩
          obtain ⟨ao, n', c', hov⟩ := row_form h4.row
          subst hov
          clear h4 hkm
          go_wp2_with fail
          go_ret
          exact unhide H5
    | true =>
      have H3 : Hid (St3 st bs0 bs0 false 0 0) := hide (.start hs0)
      have HK0 := hide hk0
      have HL0 := hide hl0
      have HNF0 := hide hk0.nf
      clear hk0 hs0 hc0 hl0 HS0
      go_wp2_with fail
      go_loopw [4, 5] (fun mv iv wr => R2 w st bs0 m mv iv wr) (fun _ iv _ => m + 1 - (intOf iv).toNat)
      case atStart => exact ⟨false, bs0, 0, Nat.zero_le _, rfl, rfl, unhide HK0, unhide HL0, unhide H3⟩
      case round =>
        obtain ⟨b, bs, i, hi, rfl, rfl, hk, hlb, h3⟩ := hrel
        have HK := hide hk
        have HLB := hide hlb
        have H32 := hide h3
        clear hk hlb h3
        by_cases hlt : i < m + 1
        · obtain ⟨s, hs⟩ : ∃ s, ss[i]? = some s := ⟨_, List.getElem?_eq_getElem (by rw [unhide HN]; exact hlt)⟩
          have HSI := hide hs
          have hltI : (i : Int) < (m : Int) + 1 := by omega
          clear hs
          go_wp2_with fail
          go_loopw [4, 6] (fun mv kv wr => R3 w st bs0 m i mv kv wr) (fun _ kv _ => i - (intOf kv).toNat)
          case atStart => exact ⟨b, bs, 0, Nat.zero_le _, rfl, rfl, unhide HK, unhide HLB, unhide H32⟩
          case round =>
            clear HK HLB H32
            obtain ⟨b3, bs3, k, hki, rfl, rfl, hk3, hl3, h33⟩ := hrel
            by_cases hltk : k < i
            · obtain ⟨bi, hbi⟩ := some_bool hl3 hlt
              obtain ⟨bk, hbk⟩ := some_bool hl3 (show k < m + 1 by omega)
              have hSw := (unhide HS).below hk3.below
              have hsok := hSw.all s (List.mem_of_getElem? (unhide HSI))
              obtain ⟨c0, c1, c2, c3⟩ := ds_at hSw.row i s (unhide HSI)
              have hW := wants_doc s k B wr hsok (by have := unhide HST s (List.mem_of_getElem? (unhide HSI)); omega)
              rw [(unhide HR).want (unhide HSI) k] at hW
              obtain ⟨wk, hwk⟩ : ∃ wk, wk = wantG st i k := ⟨_, rfl⟩
              rw [← hwk] at hW
              obtain ⟨sa, sn, sc, hsv⟩ := row_form hsok.steps
              obtain ⟨va, vn, vc, hvv⟩ := row_form hsok.vars
              rw [hsv] at c2
              rw [hvv] at c3
              rw [hsv, hvv] at hW
              obtain ⟨nm, hnm⟩ : ∃ nm, nm = bt s.name := ⟨_, rfl⟩
              obtain ⟨bb, hbb⟩ : ∃ bb, bb = s.base := ⟨_, rfl⟩
              rw [← hnm] at c0 hW
              rw [← hbb] at c1 hW
              have HK3 := hide hk3
              have HL3 := hide hl3
              have H33 := hide h33
              have HBI := hide hbi
              have HBK := hide hbk
              have HWK := hide hwk
              clear hk3 hl3 h33 hbi hbk hwk hSw hsok hsv hvv hnm hbb
              go_upto_region 13 with (go_at_call 16; refine hW.mono ?_; clear hW; rintro ev w4 ⟨rfl, hb4⟩; have HK4 := hide ((unhide HK3).later hb4); clear hb4 c0 c1 c2 c3)
              have qi := (unhide HK4).get (unhide HBI)
              have qk := (unhide HK4).get (unhide HBK)
              have fk := (unhide HK4).frz k
              have skp : Hid (¬ (bi = true ∧ wk = true ∧ bk = false) → St3 st bs0 bs3 b3 i (k + 1)) := hide (fun hno => (unhide H33).skip (fun h1 h2 => by
                rw [unhide HBI] at h1
                rw [← unhide HWK] at h2
                rw [unhide HBK]
                cases bk
                · exact absurd ⟨by simpa using h1, h2, rfl⟩ hno
                · rfl))
              cases bi with
              | false =>
                go_wp2_with fail
                go_roundw
                case rel =>
                  first
                    | exact ⟨b3, bs3, k + 1, hltk, by go_num, rfl, unhide HK4, unhide HL3, unhide skp (by simp)⟩
                    | ((repeat apply Exists.intro); exact ⟨⟨b3, bs3, k + 1, hltk, by go_num, rfl, unhide HK4, unhide HL3, unhide skp (by simp)⟩, rfl⟩)
                case measure => simp [intOf]; omega
              | true =>
                cases wk with
                | false =>
                  go_wp2_with fail
                  go_roundw
                  case rel => exact ⟨b3, bs3, k + 1, hltk, by go_num, rfl, unhide HK4, unhide HL3, unhide skp (by simp)⟩
                  case measure => simp [intOf]; omega
                | true =>
                  cases bk with
                  | true =>
                    go_wp2_with fail
                    go_roundw
                    case rel => exact ⟨b3, bs3, k + 1, hltk, by go_num, rfl, unhide HK4, unhide HL3, unhide skp (by simp)⟩
                    case measure => simp [intOf]; omega
                  | false =>
                    have HX : Hid (St3 st bs0 (bs3.set k true) true i (k + 1)) := hide ((unhide H33).mark (unhide HBI) (unhide HWK).symm (unhide HBK))
                    go_wp2_with fail
                    go_roundw
                    case rel => exact ⟨true, bs3.set k true, k + 1, hltk, by go_num, rfl, (unhide HK4).set k, by rw [List.length_set]; exact unhide HL3, unhide HX⟩
                    case measure => simp [intOf]; omega
            · have hkk : k = i := by omega
              subst hkk
              have H34 := hide (h33.next (unhide HF))
              have HK3 := hide hk3
              have HL3 := hide hl3
              clear hk3 hl3 h33
              go_wp2_with fail
              go_roundw
              case rel => exact ⟨b3, bs3, k + 1, hlt, by go_num, rfl, unhide HK3, unhide HL3, unhide H34⟩
              case measure => simp [intOf]; omega
        · have hii : i = m + 1 := by omega
          go_wp2_with fail
          go_roundw
          case rel => exact ⟨b, bs, rfl, unhide HK, unhide HLB, (unhide H32).snd, fun e => by subst e; exact (unhide H32).done (by rw [unhide HLB, hii]; exact Nat.le_refl _)⟩
          case measure =>
            have e1 := (unhide HK).nf
            have e2 := unhide HNF0
            have h1 := (unhide H32).lt
            have h2 := (unhide H32).le
            rw [e1, e2]
            cases b
            · simp [bit]; omega
            · have := h1 rfl
              simp [bit]; omega
end Go.Proofs.YtkikhmleffcajaaGreatDoor
