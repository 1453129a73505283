import Derived.Test.YtkikhmleffcajaaGreatDoorPnD
namespace Go.Proofs.YtkikhmleffcajaaGreatDoor
open Go.RowKit Go.Maps

/-- On the way from the end: what the stages from j on want is marked; and what the first k instructions of the stage ahead of them name. -/
structure St6 (st : List Stg) (bs : List Bool) (j : Nat) : Prop where
  snd : Snd st bs
  behind : ∀ i k, j ≤ i → bs[i]? = some true → wantG st i k = true → bs[k]? = some true
structure St5 (st : List Stg) (bs : List Bool) (i : Nat) (ins : List Ins) (k : Nat) : Prop where
  s6 : St6 st bs (i + 1)
  here : ∀ (q : Nat) (x : Ins) (n : Nat), q < k → ins[q]? = some x → bs[i]? = some true → x.stage = (n : Int) → bs[n]? = some true
theorem St6.start {st : List Stg} {bs : List Bool} {n : Nat} (h : Snd st bs) (hl : bs.length ≤ n) : St6 st bs n := ⟨h, fun i k hi h1 => by have := (List.getElem?_eq_some_iff.1 h1).1; omega⟩
theorem St6.done {st : List Stg} {bs : List Bool} (h : St6 st bs 0) : Clo st bs := fun i k => h.behind i k (Nat.zero_le _)
theorem St5.start {st : List Stg} {bs : List Bool} {i : Nat} {ins : List Ins} (h : St6 st bs (i + 1)) : St5 st bs i ins 0 := ⟨h, fun q x n hq => by omega⟩
theorem St5.skip {st : List Stg} {bs : List Bool} {i k : Nat} {ins : List Ins} {x : Ins} (h : St5 st bs i ins k) (hx : ins[k]? = some x) (hs : bs[i]? = some true → x.stage = -1) : St5 st bs i ins (k + 1) :=
  ⟨h.s6, fun q y n hq hy h1 h2 => by
    by_cases hqk : q = k
    · subst hqk; rw [hx] at hy; cases hy
      have := hs h1; omega
    · exact h.here q y n (by omega) hy h1 h2⟩
theorem St5.mark {st : List Stg} {bs : List Bool} {i k n : Nat} {s : Stg} {x : Ins} (h : St5 st bs i s.ins k) (hs : st[i]? = some s) (hx : s.ins[k]? = some x) (h1 : bs[i]? = some true) (he : x.stage = (n : Int)) (hn : n < i) : St5 st (bs.set n true) i s.ins (k + 1) := by
  have hi := (List.getElem?_eq_some_iff.1 h1).1
  have hne : ∀ j, i ≤ j → (bs.set n true)[j]? = bs[j]? := fun j hj => List.getElem?_set_ne (by omega)
  refine ⟨⟨⟨fun j hj => ?_, set_keep h.s6.snd.2⟩, fun j q hj h2 h3 => ?_⟩, fun q y m hq hy h2 h3 => ?_⟩
  · rcases set_true hj with rfl | hj
    · exact .more (h.s6.snd.1 _ h1) (want_mem hs (List.mem_of_getElem? hx) he)
    · exact h.s6.snd.1 _ hj
  · rw [hne j (by omega)] at h2
    exact set_keep (h.s6.behind j q hj h2 h3)
  · by_cases hqk : q = k
    · subst hqk; rw [hx] at hy; cases hy
      have : n = m := by omega
      subst this
      exact set_here (by omega)
    · exact set_keep (h.here q y m (by omega) hy h1 h3)
theorem St5.next {st : List Stg} {bs : List Bool} {i k : Nat} {s : Stg} (h : St5 st bs i s.ins k) (hs : st[i]? = some s) (hk : s.ins.length ≤ k) : St6 st bs i :=
  ⟨h.s6.snd, fun j q hj h1 h2 => by
    by_cases hji : j = i
    · subst hji
      obtain ⟨t, x, ht, hx, he⟩ := want_some h2
      rw [hs] at ht; cases ht
      obtain ⟨p, hp⟩ := List.getElem?_of_mem hx
      exact h.here p x q (by have := (List.getElem?_eq_some_iff.1 hp).1; omega) hp h1 he
    · exact h.s6.behind j q (by omega) h1 h2⟩
set_option maxHeartbeats 8000000 in
set_option maxRecDepth 10000 in
theorem needed_any (B fb : Nat) (sv : Value) (ss : List StM) (w : World) (h : FileM w B fb sv ss) (hF : Fwd (ss.map StM.stg)) (hne : ss.map StM.stg ≠ []) :
    Calls Tryz.prog 19 #[.pointer (some ⟨fb, 0, none⟩)] w fun e w' => NeedOut (ss.map StM.stg) w.heap.size w' e ∧ Below w.heap.size w w' := by
  have h0 : 0 < ss.length := by have := List.length_pos_iff.2 hne; rwa [List.length_map] at this
  obtain ⟨g0, cap, hv, _, _⟩ := row_capz h.row h0
  subst hv
  obtain ⟨i4, hi4, hz4, hs4, hb4⟩ := info_parts info4
  obtain ⟨i3, hi3, hz3, hs3, hb3⟩ := info_parts info3
  obtain ⟨m, hm⟩ : ∃ m, ss.length = m + 1 := ⟨ss.length - 1, by omega⟩
  obtain ⟨st, hst⟩ : ∃ st, st = ss.map StM.stg := ⟨_, rfl⟩
  have hl5 := h.short
  have hm5 : m ≤ 4 := by omega
  have hml : st.length = m + 1 := by rw [hst, List.length_map, hm]
  rw [← hst] at hF hne ⊢
  have HS0 : Hid (Snd st ((List.replicate (m + 1) false).set m true)) := hide (by have := snd_start hne; rw [hml] at this; exact this)
  have c0 := h.c0
  rw [hm] at c0
  have HM := hide hm
  have HML := hide hml
  have HS := hide hst
  have HFM := hide h
  have HF := hide hF
  have HC0 : Hid (∀ wr, Below w.heap.size w wr → wr.cell? ⟨fb, 0, none⟩ = some (.slice (some ⟨g0, 0, none⟩) (m + 1) cap)) := hide (fun wr hb => cell_later hb c0)
  have hfb := h.lt
  have i1 : IntKind.i64.wrap (((m + 1 : Nat) : Int) - 1) = (m : Int) := by
    rw [show (((m + 1 : Nat) : Int) - 1) = ((m : Nat) : Int) by omega]; exact wrap_i64 m (by omega)
  clear h hF hne h0 hm hml hst hl5
  go_enter Tryz.func19, Tryz.ntmps19
  go_upto_region 2 with (at_make; refine wpList_make_full _ rfl _ _ 53 rfl w.heap.size 4 i4 (.bool false) 1 Tryz.underlying53 hi4 hz4 hs4 _ _ _ _ (m + 1) rfl rfl rfl rfl (by rw [hb4]; omega) (by unfold maxLen; omega) (Nat.le_refl _) ?_; intro w1 hrow1 hgrow1; have HK1 := hide (Mk.ofMade hrow1 hgrow1); clear hrow1 hgrow1 c0)
  have c1 := unhide HC0 w1 (unhide HK1).below
  have q1 : w1.cell? ⟨w.heap.size, m, none⟩ = some (.bool false) := (unhide HK1).get (by rw [List.getElem?_replicate]; simp)
  have f1 := (unhide HK1).frz m
  obtain ⟨W2, hW2⟩ : ∃ W2, W2 = w1.setCell ⟨w.heap.size, m, none⟩ (.bool true) := ⟨_, rfl⟩
  have HK2 : Hid (Mk w w.heap.size W2 w.heap.size ((List.replicate (m + 1) false).set m true)) := hide (by rw [hW2]; exact (unhide HK1).set m)
  go_upto_region 3 with fail
  rw [← hW2]
  clear hW2 q1 f1 HK1 c1
  have c2 := unhide HC0 W2 (unhide HK2).below
  go_wp2_with fail
  go_loopw [4] (fun iv wr => ∃ (j : Nat) (bs : List Bool), j ≤ m + 1 ∧ iv = .int .i64 ((j : Int) - 1) ∧ Mk w w.heap.size wr w.heap.size bs ∧ bs.length = m + 1 ∧ St6 st bs j) (fun iv _ => (intOf iv + 1).toNat)
  case atStart => exact ⟨m + 1, _, Nat.le_refl _, by first | rfl | (congr 1; omega), unhide HK2, by simp, .start (unhide HS0) (by simp)⟩
  case round =>
    clear c2 HK2 HS0
    obtain ⟨j, bs, hj, rfl, hk, hlb, h6⟩ := hrel
    cases j with
    | zero =>
      have HMA : Hid (Marks st bs) := hide (Marks.clo (by rw [hlb, unhide HML]) h6.snd h6.done)
      have HK0 := hide hk
      have HL0 := hide hlb
      have e0 : (((0 : Nat) : Int) - 1) = -1 := rfl
      rw [e0]
      clear hk h6 hlb e0
      go_wp2_with fail
      go_loopw [7, 63] (fun ov iv wr => ∃ (k : Nat) (u : Value), k ≤ m + 1 ∧ iv = .int .i64 (k : Int) ∧ u = ov ∧ St4 w w.heap.size wr w.heap.size bs u k) (fun _ iv _ => m + 1 - (intOf iv).toNat)
      case atStart => exact ⟨0, _, Nat.zero_le _, rfl, rfl, unhide HK0, World.ownsRow_nil _ _ _ _⟩
      case round =>
        obtain ⟨k, u, hk, rfl, hu, h4⟩ := hrel
        subst hu
        by_cases hlt : k < m + 1
        · obtain ⟨b, hb⟩ := some_bool (unhide HL0) hlt
          have qk := h4.mks.get hb
          have n0 := World.new_ne _ ⟨w.heap.size, k, none⟩ qk
          have H4 := hide h4
          obtain ⟨ao, n', c', hov⟩ := row_form h4.row
          subst hov
          have hlk := idxB_len bs k
          have hsz := h4.mks.below.size
          cases b with
          | false =>
            have H5 : Hid (St4 w w.heap.size wr w.heap.size bs (.slice ao n' c') (k + 1)) := hide ⟨h4.mks, by rw [idxB_skip (by rw [hb]; simp)]; exact h4.row⟩
            clear h4 hb
            go_wp2_with fail
            go_roundw
            case rel => exact ⟨k + 1, _, hlt, by go_num, rfl, unhide H5⟩
            case measure => simp [intOf]; omega
          | true =>
            have HB := hide hb
            obtain ⟨xs, hxs⟩ : ∃ xs, xs = idxB bs k := ⟨_, rfl⟩
            have HXS := hide hxs
            have HRow : Hid (NumR wr w.heap.size (.slice ao n' c') xs) := hide (by rw [hxs]; exact h4.row)
            rw [← hxs] at hlk
            clear h4 hb hxs
            go_wp2_with (at_builtin; refine wpList_append_own _ rfl _ _ 22 rfl w.heap.size 3 i3 _ 1 8 Tryz.underlying22 hi3 hz3 hs3 hb3 rfl (by decide) (.slice ao n' c') xs.length _ rfl (row_same (unhide HRow) (fun q hq => Below.heap_alloc _ _ q (World.ownsRow.lt (unhide HRow) q hq).2)) ⟨wr.heap.size, 0, none⟩ 1 1 [.int .i64 (k : Int)] rfl rfl (World.news_of_block (cs := #[.int .i64 (k : Int)]) (t := 3) (fr := (0, 0)) (heap_alloc_new _ _)) (by intro u hu; simp only [List.mem_cons, List.not_mem_nil, or_false] at hu; rcases hu with rfl; rfl) (by unfold maxLen; omega) (by omega) (by simp; omega) ?_; intro v6 w6 hown6 hgrow6 _; have HO := hide hown6; have HG := hide hgrow6; clear hown6 hgrow6)
            go_roundw
            case rel =>
              refine ⟨k + 1, _, hlt, by go_num, rfl, ?_, ?_⟩
              · exact ((unhide H4).mks.later ((Below.refl _ _).alloc (Nat.le_refl _) _)).grown (unhide HG) (unhide H4).apart (fun q hq => (World.ownsRow.lt (unhide H4).row q hq).1)
              · rw [idxB_more (unhide HB), ← unhide HXS]
                have := unhide HO
                show World.ownsRow _ _ _ _ _ _ _
                simp only [List.length_append, List.length_cons, List.length_nil, List.map_append, List.map_cons, List.map_nil]
                exact this
            case measure => simp [intOf]; omega
        · have hkm : k = m + 1 := by omega
          have H5 : Hid (NeedOut st w.heap.size wr (.returned u) ∧ Below w.heap.size w wr) := hide ⟨⟨u, bs, unhide HMA, rfl, by rw [unhide HML, ← hkm]; exact h4.row⟩, h4.mks.below⟩
          obtain ⟨ao, n', c', hov⟩ := row_form h4.row
          subst hov
          clear h4 hkm
          go_wp2_with fail
          go_ret
          exact unhide H5
    | succ i =>
      have e0 : (((i + 1 : Nat) : Int) - 1) = (i : Int) := by omega
      rw [e0]
      clear e0
      obtain ⟨s, hs⟩ : ∃ s, ss[i]? = some s := ⟨_, List.getElem?_eq_getElem (by rw [unhide HM]; omega)⟩
      have hFr := (unhide HFM).below hk.below
      have hok := hFr.all s (List.mem_of_getElem? hs)
      obtain ⟨q0, q1⟩ := st_at hFr.row i s hs
      obtain ⟨ao, nI, cI, hiv, hnI⟩ := st_form hok
      rw [hiv] at q1
      have c3 := hFr.c0
      rw [unhide HM] at c3
      have hsI := hok.short
      rw [← hnI] at hsI
      have HSI := hide hs
      have HST : Hid (st[i]? = some s.stg) := hide (by rw [unhide HS, List.getElem?_map, hs]; rfl)
      have HIV := hide hiv
      have HNI := hide hnI
      have HK := hide hk
      have HLB := hide hlb
      have H6 := hide h6
      have hi1 : i < m + 1 := by omega
      have hlo : (0 : Int) ≤ (i : Int) := by omega
      clear hs hFr hok hiv hnI hk hlb h6 q0
      go_wp2_with fail
      go_loopw [43] (fun kv wr => ∃ (k : Nat) (bs : List Bool), k ≤ nI ∧ kv = .int .i64 (k : Int) ∧ Mk w w.heap.size wr w.heap.size bs ∧ bs.length = m + 1 ∧ St5 st bs i s.stg.ins k) (fun kv _ => nI - (intOf kv).toNat)
      case atStart => exact ⟨0, bs, Nat.zero_le _, rfl, unhide HK, unhide HLB, .start (unhide H6)⟩
      case round =>
        clear HK HLB H6 q1 c3
        obtain ⟨k, bs3, hkn, rfl, hk3, hl3, h5⟩ := hrel
        by_cases hlt : k < nI
        · obtain ⟨x, hx⟩ : ∃ x, s.ins[k]? = some x := ⟨_, List.getElem?_eq_getElem (by rw [← unhide HNI]; exact hlt)⟩
          have hFr := (unhide HFM).below hk3.below
          have hok := hFr.all s (List.mem_of_getElem? (unhide HSI))
          obtain ⟨gI, cI2, hvI, _, _⟩ := row_capz hok.row (by rw [← unhide HNI]; omega)
          have hrow := hok.row
          have hv2 := unhide HIV
          rw [hvI] at hv2 hrow
          injection hv2 with e1 _ e3
          subst e1 e3
          obtain ⟨d0, d1, d2, d3, d4, d5⟩ := in_at hrow k x hx
          obtain ⟨b, hb⟩ := some_bool hl3 hi1
          have hxf := unhide HF i s.stg (unhide HST) x.ins (List.mem_map.2 ⟨x, List.mem_of_getElem? hx, rfl⟩)
          obtain ⟨g2, cap2, hwv⟩ : ∃ g2 n2 cap2, x.wv = .slice g2 n2 cap2 := row_form (hok.all x (List.mem_of_getElem? hx)).ws.row
          obtain ⟨c2, hwv⟩ := hwv
          rw [hwv] at d0
          obtain ⟨W4, hW4⟩ : ∃ W4, W4 = wr.alloc (.cells #[.slice g2 cap2 c2, .int .i64 x.stage, .int .i64 (ruleT x.rule).1, .int .i64 (ruleT x.rule).2.1, fnV (ruleT x.rule).2.2.1, fnV (ruleT x.rule).2.2.2] 99) := ⟨_, rfl⟩
          have hc4 : W4.heap[wr.heap.size]? = some (.cells #[.slice g2 cap2 c2, .int .i64 x.stage, .int .i64 (ruleT x.rule).1, .int .i64 (ruleT x.rule).2.1, fnV (ruleT x.rule).2.2.1, fnV (ruleT x.rule).2.2.2] 99 (0, 0)) := by rw [hW4]; exact heap_alloc_new _ _
          have r1 : W4.cell? ⟨wr.heap.size, 1, none⟩ = some (.int .i64 x.stage) := cell_of_row _ _ 1 _ _ _ hc4
          have hk4 : Mk w w.heap.size W4 w.heap.size bs3 := by rw [hW4]; exact hk3.later ((Below.refl _ _).alloc (Nat.le_refl _) _)
          have qi := hk4.get hb
          have n0 := World.new_ne wr ⟨gI, k * 6, none⟩ d0
          have hx2 : s.stg.ins[k]? = some x.ins := by show (s.ins.map InM.ins)[k]? = _; rw [List.getElem?_map, hx]; rfl
          have HX := hide hx2
          have HK4 := hide hk4
          have HL3 := hide hl3
          have H5 := hide h5
          have HB := hide hb
          have hxs : x.ins.stage = x.stage := rfl
          rw [hxs] at hxf
          have HXS := hide hxs
          obtain ⟨sg, hsg⟩ : ∃ sg, sg = x.stage := ⟨_, rfl⟩
          have HSG := hide hsg
          rw [← hsg] at hxf r1 d1 hW4
          clear hx hFr hok hvI hrow hk3 hl3 h5 hb hc4 hk4 hx2 hwv hxs hsg
          go_upto_region 9 with fail
          rw [← hW4]
          clear hW4 d0 d1 d2 d3 d4 d5 n0
          cases b with
          | false =>
            have H55 : Hid (St5 st bs3 i s.stg.ins (k + 1)) := hide ((unhide H5).skip (unhide HX) (fun e => by rw [unhide HB] at e; cases e))
            go_wp2_with fail
            go_roundw
            case rel => exact ⟨k + 1, bs3, hlt, by go_num, unhide HK4, unhide HL3, unhide H55⟩
            case measure => simp [intOf]; omega
          | true =>
            by_cases hsm : sg = -1
            · have H55 : Hid (St5 st bs3 i s.stg.ins (k + 1)) := hide ((unhide H5).skip (unhide HX) (fun _ => by rw [unhide HXS, ← unhide HSG, hsm]))
              subst hsm
              go_wp2_with fail
              go_roundw
              case rel => exact ⟨k + 1, bs3, hlt, by go_num, unhide HK4, unhide HL3, unhide H55⟩
              case measure => simp [intOf]; omega
            · obtain ⟨n, hn⟩ : ∃ n : Nat, sg = (n : Int) := ⟨sg.toNat, by omega⟩
              subst hn
              have hni : n < i := by omega
              have H55 : Hid (St5 st (bs3.set n true) i s.stg.ins (k + 1)) := hide ((unhide H5).mark (unhide HST) (unhide HX) (unhide HB) (by rw [unhide HXS, ← unhide HSG]) hni)
              obtain ⟨bn, hbn⟩ := some_bool (unhide HL3) (show n < m + 1 by omega)
              have qn := (unhide HK4).get hbn
              have fn := (unhide HK4).frz n
              have g1 : (((n : Nat) : Int) != -1) = true := by simp
              have hnm : n < m + 1 := by omega
              clear hxf hbn hsm
              go_wp2_with fail
              go_roundw
              case rel => exact ⟨k + 1, bs3.set n true, hlt, by go_num, (unhide HK4).set n, by rw [List.length_set]; exact unhide HL3, unhide H55⟩
              case measure => simp [intOf]; omega
        · have H66 : Hid (St6 st bs3 i) := hide (h5.next (unhide HST) (by show (s.ins.map InM.ins).length ≤ k; rw [List.length_map, ← unhide HNI]; omega))
          have HK3 := hide hk3
          have HL3 := hide hl3
          clear hk3 hl3 h5
          go_wp2_with fail
          go_roundw
          case rel => exact ⟨i, bs3, by omega, by first | rfl | go_num, unhide HK3, unhide HL3, unhide H66⟩
          case measure => simp [intOf]
end Go.Proofs.YtkikhmleffcajaaGreatDoor
