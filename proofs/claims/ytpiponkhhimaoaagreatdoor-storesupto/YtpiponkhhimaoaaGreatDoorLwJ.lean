import Derived.Test.YtpiponkhhimaoaaGreatDoorLwI
namespace Go.Proofs.YtpiponkhhimaoaaGreatDoor
open Go.RowKit Go.Maps Go.Sort Go.Shelf

/-- A row of steps. -/
def SRow (w : World) (ao : Option Addr) (l : List Stp) : Prop := ∀ k s, l[k]? = some s → ∃ g o, ao = some ⟨g, o, none⟩ ∧ w.cell? ⟨g, o + k * 6, none⟩ = some (.int .i64 s.kind) ∧ w.cell? ⟨g, o + k * 6 + 1, none⟩ = some (.int .i64 s.which) ∧ w.cell? ⟨g, o + k * 6 + 2, none⟩ = some (.string s.name) ∧ w.cell? ⟨g, o + k * 6 + 3, none⟩ = some (.string s.data) ∧ w.cell? ⟨g, o + k * 6 + 4, none⟩ = some (.slice s.ctx s.cn s.cc) ∧ w.cell? ⟨g, o + k * 6 + 5, none⟩ = some (.int .i64 s.quota)
theorem SRow.below {w w' : World} {ao : Option Addr} {l : List Stp} {B : Nat} (h : SRow w ao l) (hb : Below B w w') (hB : w.heap.size ≤ B) : SRow w' ao l := fun k s hk => by
  obtain ⟨g, o, e, h0, h1, h2, h3, h4, h5⟩ := h k s hk
  have hg : g < B := Nat.lt_of_lt_of_le (World.block_lt_of_cell? _ _ h0) hB
  exact ⟨g, o, e, (hb.cell (p := ⟨g, _, none⟩) hg).trans h0, (hb.cell (p := ⟨g, _, none⟩) hg).trans h1, (hb.cell (p := ⟨g, _, none⟩) hg).trans h2, (hb.cell (p := ⟨g, _, none⟩) hg).trans h3, (hb.cell (p := ⟨g, _, none⟩) hg).trans h4, (hb.cell (p := ⟨g, _, none⟩) hg).trans h5⟩
theorem BRow.far {w w' : World} {ao : Option Addr} {l : List Blb} {B : Nat} (h : BRow w ao l) (hb : Below B w w') (hB : w.heap.size ≤ B) : BRow w' ao l := fun k s hk => by
  obtain ⟨g, o, e, h0, h1⟩ := h k s hk
  have hg : g < B := Nat.lt_of_lt_of_le (World.block_lt_of_cell? _ _ h0) hB
  exact ⟨g, o, e, (hb.cell (p := ⟨g, _, none⟩) hg).trans h0, (hb.cell (p := ⟨g, _, none⟩) hg).trans h1⟩
theorem bad_none {r : Int} (h : FirstBadF [] r) : r = -1 := by
  rcases h with ⟨e, _⟩ | ⟨i, _, hi, _⟩
  · exact e
  · simp at hi
theorem ks_size {w : World} (h : KsLie w) : 2 ≤ w.heap.size := World.block_lt_of_cell? _ _ (h 0 (by decide))
/-- A store is opened of no files. -/
theorem open_nil {w w' : World} {q : Int} {v : Value} (h : OpenIs w [] q v w') (hq : 0 ≤ q ∧ q ≤ 16777216) (_ : Below w.heap.size w w') : ∃ (wb lb sb mb yb : Nat) (vp vf va : Value) (A : List Ac), v = .pointer (some ⟨wb, 0, none⟩) ∧ Two w' w.heap.size wb lb sb mb yb vp vf va (.slice none 0 0) [] q A [] false ∧ A = [] := by
  rcases h with ⟨_, h | h⟩ | ⟨_, _, wb, lb, sb, mb, yb, vp, vf, va, rfl, hT⟩
  · obtain ⟨i, hi⟩ := h
    have := bad_none hi; omega
  · omega
  · exact ⟨wb, lb, sb, mb, yb, vp, vf, va, _, rfl, hT, rfl⟩
theorem good_nil : Good [] 0 := ⟨List.Pairwise.nil, fun b hb => by simp at hb, fun b hb => by simp at hb, by simp [szL], by simp⟩
theorem Wst.more {w : World} {B wb n m : Nat} (h : Wst w B wb n m) : Wst w B wb (n + 1) (m + 1) := by
  obtain ⟨lb, sb, mb, yb, vf, vs, L, q, N, c, h1, h2, h3, h4⟩ := h
  exact ⟨lb, sb, mb, yb, vf, vs, L, q, N, c, h1, h2.mono (by omega), h3, by omega⟩
/-- The steps of a script may be taken. -/
def SmallS (l : List Stp) : Prop := ∀ s ∈ l, s.name.size ≤ 1048576 ∧ s.data.size ≤ 1048576
/-- Any step. -/
theorem step_any (B wb n m : Nat) (s : Stp) (w : World) (h : Wst w B wb n m) (hV : Vars w) (hB : 2 ≤ B) (hn : n ≤ 16777216) (hm : m ≤ 16777216) (hs : s.name.size ≤ 1048576) (hd : s.data.size ≤ 1048576) (hk : 0 ≤ s.kind ∧ s.kind ≤ 3) :
    Calls Tryz.prog 6 #[.pointer (some ⟨wb, 0, none⟩), .agg #[.int .i64 s.kind, .int .i64 s.which, .string s.name, .string s.data, .slice s.ctx s.cn s.cc, .int .i64 s.quota]] w fun ev w' => ev = .returned (.bool true) ∧ Wst w' B wb (n + 1) (m + 1) ∧ Below B w w' := by
  obtain ⟨kind, which, name, data, ctx, cn, cc, quota⟩ := s
  have up : ∀ w', Wst w' B wb n m → Wst w' B wb (n + 1) (m + 1) := fun w' ⟨lb, sb, mb, yb, vf, vs, L, q, N, c, h1, h2, h3, h4⟩ => ⟨lb, sb, mb, yb, vf, vs, L, q, N, c, h1, h2.mono (by omega), h3, by omega⟩
  simp only at hs hd hk ⊢
  rcases (by omega : kind = 0 ∨ kind = 1 ∨ kind = 2 ∨ kind = 3) with rfl | rfl | rfl | rfl
  · exact step_put B wb n m which name data ctx cn cc quota w h.any hV hB hn hm (by omega)
  · exact (step_get B wb n m which name data ctx cn cc quota w h hV hB hn hs).mono (fun ev w' ⟨h1, h2, h3⟩ => ⟨h1, up w' h2, h3⟩)
  · exact (step_drop B wb n m which name data ctx cn cc quota w h hV hB hn hs).mono (fun ev w' ⟨h1, h2, h3⟩ => ⟨h1, up w' h2, h3⟩)
  · exact (step_open B wb n m which name data ctx cn cc quota w h hV hB hn).mono (fun ev w' ⟨h1, h2, h3⟩ => ⟨h1, up w' h2, h3⟩)
/-- What a store is that was opened and looked at. -/
theorem open_wst {w w' : World} {F : List Blb} {q : Int} {v : Value} (hO : OpenIs w F q v w') (hd : ∀ b ∈ F, b.data.size ≤ 16777216) (hz : szL F ≤ 16777216) (hl : F.length ≤ 1048576) : v = .pointer none ∨ ∃ wb, v = .pointer (some ⟨wb, 0, none⟩) ∧ Calls Tryz.prog 8 #[.pointer (some ⟨wb, 0, none⟩)] w' fun ev w'' => ev = .returned (.bool true) ∧ Wst w'' w.heap.size wb 1048576 0 ∧ Below w.heap.size w' w'' := by
  rcases hO with ⟨h, _⟩ | ⟨hF, hq, wb, lb, sb, mb, yb, vp, vf, va, rfl, hT⟩
  · exact .inl h
  · have hG : Good (remL (putAll F) (putAll F)) 1048576 := Good.opened hF hd hz hl
    have hA : GoodA (remA (putAll F)) 1048576 := goodA_rem hF hl
    refine .inr ⟨wb, rfl, (alike_any w.heap.size wb lb sb mb yb vp vf va _ _ q _ [] false w' hT (by have := hA.1; omega) (fun a ha => by have := hA.2 a ha; omega) (by have := hG.len; omega) (fun b hb => by have h1 := hG.size hb; have h2 := hG.data b hb; omega)).mono (fun ev w'' h => ?_)⟩
    obtain ⟨h1, h2, h3⟩ := h
    exact ⟨h1, ⟨lb, sb, mb, yb, vf, _, _, q, [], false, h2, hG, hq, by simp⟩, h3⟩
theorem first_wst {w w' : World} {v : Value} (h : OpenIs w [] 16777216 v w') (hb : Below w.heap.size w w') : ∃ wb, v = .pointer (some ⟨wb, 0, none⟩) ∧ Wst0 w' w.heap.size wb 0 0 := by
  obtain ⟨wb, lb, sb, mb, yb, vp, vf, va, A, rfl, hT, rfl⟩ := open_nil h (by omega) hb
  exact ⟨wb, rfl, lb, sb, mb, yb, vp, vf, va, _, _, _, _, _, hT, good_nil, by omega, by simp⟩
set_option maxHeartbeats 2000000 in
set_option maxRecDepth 100000 in
theorem plays_any (ao so : Option Addr) (cap n sc ns : Nat) (F : List Blb) (S : List Stp) (q : Int) (w : World) (hr : BRow w ao F) (HN : Hid (n = F.length)) (hn : n ≤ 1048576) (hs : ∀ b ∈ F, b.name.size ≤ 1048576 ∧ b.data.size ≤ 1048576) (hz : szL F ≤ 16777216) (hS : SRow w so S) (HM : Hid (ns = S.length)) (hns : ns ≤ 1048576) (hSs : SmallS S) (hV : Vars w) :
    Calls Tryz.prog 4 #[.slice ao n cap, .int .i64 q, .slice so ns sc, .int .i64 3] w fun ev w' => ev = .returned (.bool true) ∧ Below w.heap.size w w' := by
  have hnil : BRow w none [] := fun k b hk => by simp at hk
  have hO1 := opened_any none 0 0 [] 16777216 w hnil (hide rfl) (by omega) (fun b hb => by simp at hb) hV
  have hs' : ∀ b ∈ F, b.name.size ≤ 16777216 ∧ b.data.size ≤ 16777216 := fun b hb => by have := hs b hb; omega
  have hw10 := ks_size hV.ks
  have HR := hide hr
  have HS := hide hS
  have HV := hide hV
  have HSs := hide hSs
  have Hs := hide hs'
  have Hz := hide hz
  clear hr hS hV hSs hs hs' hz hnil
  go_enter Tryz.func4, Tryz.ntmps4
  go_upto_region 2 with (go_at_call 5; refine hO1.mono ?_; clear hO1; rintro ev w1 ⟨v1, rfl, hI1, hb1⟩)
  obtain ⟨wb1, rfl, hW1⟩ := first_wst hI1 hb1
  have hV1 := (unhide HV).below hb1
  have hSt := step_put w.heap.size wb1 0 0 0 ⟨#[]⟩ ⟨#[97, 98, 99]⟩ none 0 0 0 w1 hW1 hV1 hw10 (by omega) (by omega) (by decide)
  clear hI1 hW1
  go_upto_region 7 with (go_at_call 6; refine hSt.mono ?_; clear hSt; rintro ev w2 ⟨rfl, hW2, hb2⟩)
  have hB2 : Below w.heap.size w w2 := hb1.trans hb2
  have hV2 := (unhide HV).far hB2 hw10
  have hO2 := opened_any ao cap n F q w2 ((unhide HR).far hB2 (Nat.le_refl _)) HN (by omega) (unhide Hs) hV2
  clear hW2 hb2 hV1 hb1
  go_upto_region 8 with (go_at_call 5; refine hO2.mono ?_; clear hO2; rintro ev w3 ⟨v3, rfl, hI3, hb3⟩)
  have hB3 : Below w.heap.size w w3 := hB2.trans (hb3.mono hB2.size)
  have hV3 := (unhide HV).far hB3 hw10
  have hcase := open_wst hI3 (fun b hb => (unhide Hs b hb).2) (unhide Hz) (by have := unhide HN; omega)
  have hpk : ∃ k : Nat, k < 16777216 ∧ ∀ W : World, Calls Tryz.prog 7 #[.int .i64 q, .int .i64 16777216] W fun ev w' => ev = .returned (.int .i64 k) ∧ w' = W := pickS q 16777216 (by omega) (by omega)
  obtain ⟨pk, hpk1, hpk2⟩ := hpk
  have hO4 := opened_any none 0 0 [] (pk : Int) w3 (fun k b hk => by simp at hk) (hide rfl) (by omega) (fun b hb => by simp at hb) hV3
  have hz2 : w.heap.size ≤ w2.heap.size := hB2.size
  have hz3 : w.heap.size ≤ w3.heap.size := hB3.size
  clear hI3 hb3 hV2 hV3
  rcases hcase with rfl | ⟨wb3, rfl, hAl3⟩
  · go_upto_region 14 with (first | (go_at_call 7; refine (hpk2 _).mono ?_; clear hpk2; rintro ev w4 ⟨rfl, hw4⟩; obtain rfl := hw4.symm) | (go_at_call_of 5 (Value.slice none 0 0); refine hO4.mono ?_; clear hO4; rintro ev w4 ⟨v4, rfl, hI4, hb4⟩; obtain ⟨wb4, _, _, _, _, _, _, _, _, rfl, _, _⟩ := open_nil hI4 (by omega) hb4))
    have h5 : w.heap.size ≤ w3.heap.size := hz3
    obtain ⟨B5, hB5e⟩ : ∃ B5, B5 = w3.heap.size := ⟨_, rfl⟩
    rcases open_wst hI4 (fun b hb => by simp at hb) (by simp [szL]) (by simp) with hbad | ⟨wb5, hwb, hAl5⟩
    · cases hbad
    obtain rfl : wb4 = wb5 := by simpa using hwb
    obtain ⟨wb5, hwb5⟩ : ∃ wb5, wb5 = wb4 := ⟨_, rfl⟩
    rw [← hB5e] at hAl5 h5
    rw [← hwb5] at hAl5 ⊢
    have hB5 : Below w.heap.size w w4 := hB3.trans (hb4.mono hB3.size)
    clear hI4 hb4 hB5e hwb hwb5 hB3 hB2
    have HB5 := hide hB5
    have hAl5' := hAl5
    clear hAl5 hB5
    go_upto_region 15 with (go_at_call 8; refine hAl5'.mono ?_; clear hAl5'; rintro ev w6 ⟨rfl, hW6, hb6⟩)
    have hB6 : Below w.heap.size w w6 := (unhide HB5).trans (Below.mono hb6 h5)
    have h510 : 2 ≤ B5 := Nat.le_trans hw10 h5
    clear hb6 HB5
    go_wp2
    go_loopw [10, 11] (fun okv i wr => ∃ k : Nat, k ≤ ns ∧ i = .int .i64 k ∧ okv = .bool true ∧ Wst wr B5 wb5 (1048576 + k) k ∧ Below w.heap.size w wr) (fun _ i _ => ns - (intOf i).toNat)
    case atStart => exact ⟨0, by omega, rfl, rfl, hW6, hB6⟩
    case round =>
      obtain ⟨k, hk, rfl, rfl, hWk, hBk⟩ := hrel
      by_cases hlt : k < ns
      · obtain ⟨e, he⟩ : ∃ e, S[k]? = some e := ⟨S[k]'(by have := unhide HM; omega), List.getElem?_eq_getElem (by have := unhide HM; omega)⟩
        obtain ⟨g, o, rfl, d0, d1, d2, d3, d4, d5⟩ := ((unhide HS).below hBk (Nat.le_refl _)) k e he
        obtain ⟨z1, z2⟩ := unhide HSs e (List.mem_of_getElem? he)
        have i1 : (0 : Int) ≤ (k : Int) := by omega
        have i2 : (k : Int) < (ns : Int) := by omega
        have hVk := (unhide HV).far hBk hw10
        clear he
        by_cases hk0 : 0 ≤ e.kind
        · by_cases hk3 : e.kind ≤ 3
          · have hSt := step_any B5 wb5 (1048576 + k) k e wr hWk hVk h510 (by omega) (by omega) z1 z2 ⟨hk0, hk3⟩
            have HBk := hide hBk
            clear hWk hVk hBk z1 z2
            go_wp2_with (go_at_call 6; refine hSt.mono ?_; clear hSt; rintro ev w7 ⟨rfl, hW7, hb7⟩)
            go_roundw
            case rel =>
              have R : Below w.heap.size w w7 := (unhide HBk).trans (Below.mono hb7 h5)
              first
                | exact ⟨k + 1, by omega, by go_num, rfl, hW7, R⟩
                | ((repeat apply Exists.intro); exact ⟨⟨k + 1, by omega, by go_num, rfl, hW7, R⟩, rfl⟩)
            case measure => simp [intOf]; omega
          · have hW7 := Wst.more hWk
            have HBk := hide hBk
            clear hWk hVk hBk z1 z2
            go_wp2_with fail
            go_roundw
            case rel =>
              first
                | exact ⟨k + 1, by omega, by go_num, rfl, hW7, unhide HBk⟩
                | ((repeat apply Exists.intro); exact ⟨⟨k + 1, by omega, by go_num, rfl, hW7, unhide HBk⟩, rfl⟩)
            case measure => simp [intOf]; omega
        · have hW7 := Wst.more hWk
          have HBk := hide hBk
          clear hWk hVk hBk z1 z2
          go_wp2_with fail
          go_roundw
          case rel =>
            first
              | exact ⟨k + 1, by omega, by go_num, rfl, hW7, unhide HBk⟩
              | ((repeat apply Exists.intro); exact ⟨⟨k + 1, by omega, by go_num, rfl, hW7, unhide HBk⟩, rfl⟩)
          case measure => simp [intOf]; omega
      · go_wp2_with fail
        go_ret
        exact ⟨rfl, hBk⟩
  · go_upto_region 14 with fail
    have h5 : w.heap.size ≤ w2.heap.size := hz2
    obtain ⟨B5, hB5e⟩ : ∃ B5, B5 = w2.heap.size := ⟨_, rfl⟩
    obtain ⟨wb5, hwb5⟩ : ∃ wb5, wb5 = wb3 := ⟨_, rfl⟩
    have hAl5 := hAl3
    rw [← hB5e] at hAl5 h5
    rw [← hwb5] at hAl5 ⊢
    have hB5 : Below w.heap.size w w3 := hB3
    clear hAl3 hB5e hwb5 hB3 hB2
    have HB5 := hide hB5
    have hAl5' := hAl5
    clear hAl5 hB5 hO4 hpk2
    go_upto_region 15 with (go_at_call 8; refine hAl5'.mono ?_; clear hAl5'; rintro ev w6 ⟨rfl, hW6, hb6⟩)
    have hB6 : Below w.heap.size w w6 := (unhide HB5).trans (Below.mono hb6 h5)
    have h510 : 2 ≤ B5 := Nat.le_trans hw10 h5
    clear hb6 HB5
    go_wp2
    go_loopw [10, 11] (fun okv i wr => ∃ k : Nat, k ≤ ns ∧ i = .int .i64 k ∧ okv = .bool true ∧ Wst wr B5 wb5 (1048576 + k) k ∧ Below w.heap.size w wr) (fun _ i _ => ns - (intOf i).toNat)
    case atStart => exact ⟨0, by omega, rfl, rfl, hW6, hB6⟩
    case round =>
      obtain ⟨k, hk, rfl, rfl, hWk, hBk⟩ := hrel
      by_cases hlt : k < ns
      · obtain ⟨e, he⟩ : ∃ e, S[k]? = some e := ⟨S[k]'(by have := unhide HM; omega), List.getElem?_eq_getElem (by have := unhide HM; omega)⟩
        obtain ⟨g, o, rfl, d0, d1, d2, d3, d4, d5⟩ := ((unhide HS).below hBk (Nat.le_refl _)) k e he
        obtain ⟨z1, z2⟩ := unhide HSs e (List.mem_of_getElem? he)
        have i1 : (0 : Int) ≤ (k : Int) := by omega
        have i2 : (k : Int) < (ns : Int) := by omega
        have hVk := (unhide HV).far hBk hw10
        clear he
        by_cases hk0 : 0 ≤ e.kind
        · by_cases hk3 : e.kind ≤ 3
          · have hSt := step_any B5 wb5 (1048576 + k) k e wr hWk hVk h510 (by omega) (by omega) z1 z2 ⟨hk0, hk3⟩
            have HBk := hide hBk
            clear hWk hVk hBk z1 z2
            go_wp2_with (go_at_call 6; refine hSt.mono ?_; clear hSt; rintro ev w7 ⟨rfl, hW7, hb7⟩)
            go_roundw
            case rel =>
              have R : Below w.heap.size w w7 := (unhide HBk).trans (Below.mono hb7 h5)
              first
                | exact ⟨k + 1, by omega, by go_num, rfl, hW7, R⟩
                | ((repeat apply Exists.intro); exact ⟨⟨k + 1, by omega, by go_num, rfl, hW7, R⟩, rfl⟩)
            case measure => simp [intOf]; omega
          · have hW7 := Wst.more hWk
            have HBk := hide hBk
            clear hWk hVk hBk z1 z2
            go_wp2_with fail
            go_roundw
            case rel =>
              first
                | exact ⟨k + 1, by omega, by go_num, rfl, hW7, unhide HBk⟩
                | ((repeat apply Exists.intro); exact ⟨⟨k + 1, by omega, by go_num, rfl, hW7, unhide HBk⟩, rfl⟩)
            case measure => simp [intOf]; omega
        · have hW7 := Wst.more hWk
          have HBk := hide hBk
          clear hWk hVk hBk z1 z2
          go_wp2_with fail
          go_roundw
          case rel =>
            first
              | exact ⟨k + 1, by omega, by go_num, rfl, hW7, unhide HBk⟩
              | ((repeat apply Exists.intro); exact ⟨⟨k + 1, by omega, by go_num, rfl, hW7, unhide HBk⟩, rfl⟩)
          case measure => simp [intOf]; omega
      · go_wp2_with fail
        go_ret
        exact ⟨rfl, hBk⟩
set_option maxRecDepth 100000 in
theorem lawT_any (ao so : Option Addr) (cap n sc ns : Nat) (F : List Blb) (S : List Stp) (q : Int) (w : World) (hr : BRow w ao F) (HN : Hid (n = F.length)) (hn : n ≤ 1048576) (hs : ∀ b ∈ F, b.name.size ≤ 1048576 ∧ b.data.size ≤ 1048576) (hz : szL F ≤ 16777216) (hS : SRow w so S) (HM : Hid (ns = S.length)) (hns : ns ≤ 1048576) (hSs : SmallS S) (hV : Vars w) :
    Calls Tryz.prog 3 #[.slice ao n cap, .int .i64 q, .slice so ns sc] w fun ev w' => ev = .returned (.bool true) ∧ Below w.heap.size w w' := by
  have hP := plays_any ao so cap n sc ns F S q w hr HN hn hs hz hS HM hns hSs hV
  clear hr hs hz hS hSs hV
  go_enter Tryz.func3, Tryz.ntmps3
  go_wp2_with (go_at_call 4; refine hP.mono ?_; clear hP; rintro ev w1 ⟨rfl, hb1⟩)
  go_ret
  exact ⟨rfl, hb1⟩
end Go.Proofs.YtpiponkhhimaoaaGreatDoor
