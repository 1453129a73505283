import Derived.Test.YtkeefkfklmhcjaaGreatDoorUnpO
import Derived.Test.YtkeefkfklmhcjaaGreatDoorJOwC
import Derived.Test.YtkeefkfklmhcjaaGreatDoorJChgD
namespace Go.Proofs.YtkeefkfklmhcjaaGreatDoor
open Go.RowKit

/-- What the document's Unpack answers. -/
def RUnpIs (w : World) (B : Nat) (s : List UInt8) (v : Value) (k : Int) : Prop :=
  (∃ cs, OwnC w B v cs ∧ k = -1 ∧ UnpOk s cs) ∨ (∃ i : Nat, v = .slice none 0 0 ∧ k = i ∧ UnpBad s i)
theorem chain_mayF {cs : List Ent} {c : Ent} (h : Chain (cs ++ [c])) : mayF cs c = true := by
  have := chain_at h (i := cs.length) (c := c) (by simp)
  rwa [List.take_left] at this
theorem bad_neg {cs : List Ent} {r : Int} (h : FirstBadC cs r) : (r = -1 ∧ Chain cs) ∨ (0 ≤ r ∧ ¬ Chain cs) := by
  rcases h with ⟨rfl, h⟩ | ⟨i, rfl, h1, h2, h3⟩
  · exact .inl ⟨rfl, h⟩
  · exact .inr ⟨by omega, fun hc => by rw [hc i h1] at h2; cases h2⟩
set_option maxHeartbeats 4000000 in
set_option maxRecDepth 10000 in
theorem rUnpack_any (s : ByteArray) (w : World) (hs : s.size ≤ 1073741824) :
    Calls Tryz.prog 44 #[.string s] w fun ev w' => ∃ v k, ev = .returned (.tuple #[v, .int .i64 k]) ∧ Hid (RUnpIs w' w.heap.size s.data.toList v k) ∧ Below w.heap.size w w' := by
  obtain ⟨i0, hi, hz0, hz1, hz2⟩ := info_parts Tryz.info39
  obtain ⟨T, hT⟩ : ∃ T, T = bt (fillL [] 1024) := ⟨_, rfl⟩
  have hfl : Calls Tryz.prog 42 #[.string ⟨#[]⟩, .int .i64 1024] w fun ev w' => ev = .returned (.string T) ∧ w' = w := by rw [hT]; exact filledD_any [] 1024 w (by simp) (by omega)
  have HT : Hid (T = bt endL) := hide (by rw [hT]; simp [fillL, endL])
  clear hT
  go_enter Tryz.func44, Tryz.ntmps44
  go_wp2_with (go_at_call 42; refine hfl.mono ?_; clear hfl; rintro ev w1 ⟨rfl, hw⟩; obtain rfl := hw.symm)
  go_loopw [4, 6] (fun v j wr => ∃ (cs : List Ent) (i : Nat), j = .int .i64 i ∧ i ≤ s.size ∧ OwnC wr w.heap.size v cs ∧ Hid (Chain cs) ∧ Hid (s.data.toList = flatE cs ++ s.data.toList.drop i ∧ i = (flatE cs).length) ∧ Below w.heap.size w wr) (fun _ j _ => s.size - (intOf j).toNat)
  case atStart => exact ⟨[], 0, rfl, Nat.zero_le _, World.ownsRow_nil _ _ _ _, hide chain_nil, hide ⟨by simp [flatE], rfl⟩, Below.refl _ _⟩
  case round =>
    obtain ⟨cs, i, rfl, hi1, hO, HC, HX, hb⟩ := hrel
    obtain ⟨X, hX⟩ : ∃ X, X = s.extract i s.size := ⟨_, rfl⟩
    have hXl : X.data.toList = s.data.toList.drop i := by rw [hX, ext_drop, bt_list]
    have hXz : X.size = s.size - i := by rw [hX, ByteArray.size_extract]; omega
    have j0 : (0 : Int) ≤ (i : Int) := by omega
    have j1 : (i : Int) ≤ (s.size : Int) := by omega
    by_cases hx : X = T
    · have HU : Hid (UnpOk s.data.toList cs) := hide ⟨unhide HC, by
        have := (unhide HX).1
        rw [← hXl, hx, unhide HT, bt_list] at this
        exact this⟩
      have hx2 : ((s.extract i s.size).toList == T.toList) = true := by rw [← hX, hx]; simp
      clear hx hX hXl hXz HX HC
      go_wp2_with fail
      go_ret2
      exact ⟨_, _, rfl, hide (.inl ⟨cs, hO, rfl, unhide HU⟩), hb⟩
    · have hx2 : ((s.extract i s.size).toList == T.toList) = false := by
        rw [← hX, Lib.toList_data, Lib.toList_data]
        simp only [beq_eq_false_iff_ne, ne_eq]
        exact fun e => hx (by rw [← bt_of X, e, bt_of])
      have HNe : Hid (X.data.toList ≠ endL) := hide (fun e => hx (by rw [unhide HT, ← e, bt_of]))
      have HXl := hide hXl
      have HXe := hide hX
      have HBad : Hid ((∀ c, mayF cs c = true → ¬ entryL c <+: X.data.toList) → UnpBad s.data.toList i) := hide (fun h => ⟨cs, X.data.toList, unhide HC, by rw [unhide HXl]; exact (unhide HX).1, (unhide HX).2, unhide HNe, h⟩)
      have HXz := hide hXz
      by_cases h512 : s.size - i < 512
      · have HB : Hid (UnpBad s.data.toList i) := hide (unhide HBad (fun c hc ⟨r, e⟩ => by
          have h1 := entry_long (mayF_ch hc) r
          rw [e, ← Lib.size_eq] at h1
          omega))
        have j2 : (s.size : Int) - (i : Int) < 512 := by omega
        clear hx hX hXl hXz HX HC HBad
        go_wp2_with fail
        go_ret2
        exact ⟨_, _, rfl, hide (.inr ⟨i, rfl, rfl, unhide HB⟩), hb⟩
      · have j2 : ¬ (s.size : Int) - (i : Int) < 512 := by omega
        obtain ⟨ao, cap, n, rfl, HN, hrow, hcap⟩ := ownC_row hO
        have hn : n ≤ 80 := by rw [unhide HN]; exact chain_len (unhide HC)
        have hks : cs.length ≤ 80 := chain_len (unhide HC)
        have HO := hide hO
        have HSd := hide (said_any X wr (by omega) (by omega))
        clear hx hX hXl hXz hO hrow
        go_upto_region 8 with (go_at_call 65; rw [← unhide HXe]; refine (unhide HSd).mono ?_; rintro ev w2 ⟨c, rfl, HSc, hb2⟩)
        obtain ⟨W2, hW2⟩ : ∃ W2, W2 = w2.alloc (.cells #[.string c.path, .int .i64 c.kind, .int .i64 c.mode, .string c.data] 39) := ⟨_, rfl⟩
        rw [← hW2]
        have hb2' : Below w2.heap.size w2 W2 := by rw [hW2]; exact (Below.refl _ _).alloc (Nat.le_refl _) _
        have hBr2 : Below wr.heap.size wr W2 := hb2.trans (hb2'.mono hb2.size)
        have hB2 : Below w.heap.size w W2 := hb.trans (hBr2.mono hb.size)
        have HO2 := hide ((unhide HO).later hBr2)
        have hq := (by rw [hW2]; exact heap_alloc_new _ _ : W2.heap[w2.heap.size]? = some (.cells #[.string c.path, .int .i64 c.kind, .int .i64 c.mode, .string c.data] 39 (0, 0)))
        have q0 : W2.cell? ⟨w2.heap.size, 0, none⟩ = some (.string c.path) := cell_of_row _ _ 0 _ _ _ hq
        have q1 : W2.cell? ⟨w2.heap.size, 1, none⟩ = some (.int .i64 c.kind) := cell_of_row _ _ 1 _ _ _ hq
        have q2 : W2.cell? ⟨w2.heap.size, 2, none⟩ = some (.int .i64 c.mode) := cell_of_row _ _ 2 _ _ _ hq
        have q3 : W2.cell? ⟨w2.heap.size, 3, none⟩ = some (.string c.data) := cell_of_row _ _ 3 _ _ _ hq
        have HHq := hide hq
        have HLt : Hid (∀ q, (Value.slice ao n cap).ownBlock = some q → q < w2.heap.size) := hide (fun q e => Nat.lt_of_lt_of_le (World.ownsRow.lt (unhide HO) q e).2 hb2.size)
        have hlt2 : w2.heap.size < W2.heap.size := (Array.getElem?_eq_some_iff.1 hq).1
        clear hW2 hb2' hBr2 hb2 hq HO HSd
        go_upto_region 9 with (at_builtin; refine wpList_append_own _ rfl _ _ 29 rfl w.heap.size 39 i0 _ 4 48 Tryz.underlying29 hi hz0 hz1 hz2 rfl (by decide) _ _ _ rfl (World.ownsRow.alloc (unhide HO2) _) ⟨W2.heap.size, 0, none⟩ 1 1 (ec c) rfl rfl (World.news_of_block (cs := #[.string c.path, .int .i64 c.kind, .int .i64 c.mode, .string c.data]) (t := 39) (fr := (0, 0)) (heap_alloc_new _ _)) (ec_oneC _) (by unfold maxLen; omega) (by omega) (by have := hB2.size; simp; omega) ?_; intro v6 w6 hown6 hgrow6 _; have HO6 := hide (ownC_snoc hown6); have hB6 := ownC_below (unhide HO2) hB2 hgrow6; have HGr := hide hgrow6; clear hown6 hgrow6)
        have hq6 : w6.heap[w2.heap.size]? = some (.cells #[.string c.path, .int .i64 c.kind, .int .i64 c.mode, .string c.data] 39 (0, 0)) := ((unhide HGr).block w2.heap.size (by rw [World.size_alloc]; omega) (fun e => absurd (unhide HLt _ e.symm) (Nat.lt_irrefl _))).trans ((Below.heap_alloc _ _ _ hlt2).trans (unhide HHq))
        have HQ6 := hide hq6
        clear hq6 HGr
        clear q0 q1 q2 q3 HHq HLt HO2 hB2 hlt2
        obtain ⟨ao6, cap6, n6, rfl, HN6, hrow6, hcap6⟩ := ownC_row (unhide HO6)
        have HSm : Hid (Small (cs ++ [c])) := hide (fun e he => by
          rcases List.mem_append.1 he with h | h
          · exact chain_small (unhide HC) e h
          · rw [List.mem_singleton.1 h]; exact ⟨(unhide HSc).path, (unhide HSc).data⟩)
        have HBd := hide (barred_any ao6 cap6 n6 (cs ++ [c]) w6 hrow6 HN6 (by have := unhide HN6; rw [List.length_append, List.length_singleton] at this; omega) hcap6 HSm)
        clear hrow6
        go_upto_region 10 with (go_at_call 16; refine (unhide HBd).mono ?_; rintro ev w7 ⟨r, rfl, HBr, hb7⟩)
        have hB7 : Below w.heap.size w w7 := hB6.trans (hb7.mono hB6.size)
        have hq := keepC_below hb7 _ _ _ _ (unhide HQ6)
        have HO7 := hide ((unhide HO6).later hb7)
        rcases bad_neg (unhide HBr) with ⟨rfl, hch⟩ | ⟨hr0, hch⟩
        · have hmf := chain_mayF hch
          have hG := pkg_of (mayF_ch hmf)
          obtain ⟨m, hm⟩ := hG.pkc
          have HEn := hide (refEntry_any c m w7 (hide hm))
          have HEl := hide (entry_len hm)
          have HCh := hide hch
          have HMf := hide hmf
          have q0 : w7.cell? ⟨w2.heap.size, 0, none⟩ = some (.string c.path) := cell_of_row _ _ 0 _ _ _ hq
          have q1 : w7.cell? ⟨w2.heap.size, 1, none⟩ = some (.int .i64 c.kind) := cell_of_row _ _ 1 _ _ _ hq
          have q2 : w7.cell? ⟨w2.heap.size, 2, none⟩ = some (.int .i64 c.mode) := cell_of_row _ _ 2 _ _ _ hq
          have q3 : w7.cell? ⟨w2.heap.size, 3, none⟩ = some (.string c.data) := cell_of_row _ _ 3 _ _ _ hq
          clear hch hmf hG hm hq HBr HBd HQ6 HO6 hb7 hB6 HSm
          go_upto_region 13 with (go_at_call 41; refine (unhide HEn).mono ?_; rintro ev w8 ⟨t, rfl, HTt, hb8⟩)
          have hB8 : Below w.heap.size w w8 := hB7.trans (hb8.mono hB7.size)
          have HO8 := hide ((unhide HO7).later hb8)
          have htz : t.size ≤ 6000 := by rw [unhide HTt, bt_size]; exact unhide HEl
          have HBg := hide (begins_any X t w8)
          cases hh : Lib.hasPrefix X.data.toList t.data.toList with
          | false =>
            have HB : Hid (UnpBad s.data.toList i) := hide (unhide HBad (fun c' hc ⟨u, e⟩ => by
              have h1 := (unhide HSc).back c' u (mayF_ch hc) e.symm
              rw [unhide HTt, bt_list, h1, Lib.hasPrefix, ← e] at hh
              have h2 : (entryL c').isPrefixOf (entryL c' ++ u) = true := by rw [List.isPrefixOf_iff_prefix]; exact List.prefix_append _ _
              rw [h2] at hh; cases hh))
            rw [hh] at HBg
            clear hh
            go_wp2_with (go_at_call 59; rw [← unhide HXe]; refine (unhide HBg).mono ?_; rintro ev w9 ⟨rfl, hw9⟩; obtain rfl := hw9.symm)
            go_ret2
            exact ⟨_, _, rfl, hide (.inr ⟨i, rfl, rfl, unhide HB⟩), hB8⟩
          | true =>
            have hle := pre_le hh
            have ht5 : 512 ≤ t.size := by
              rw [unhide HTt, bt_size]
              have := entry_long (mayF_ch (unhide HMf)) []
              rwa [List.append_nil] at this
            obtain ⟨i2, hi2⟩ : ∃ i2, i2 = i + t.size := ⟨_, rfl⟩
            have hi3 : i2 ≤ s.size := by have := unhide HXz; omega
            have hi4 : (i : Int) + (t.size : Int) = (i2 : Int) := by omega
            have HX2 : Hid (s.data.toList = flatE (cs ++ [c]) ++ s.data.toList.drop i2 ∧ i2 = (flatE (cs ++ [c])).length) := hide (by
              rw [unhide HTt, bt_list, Lib.hasPrefix, List.isPrefixOf_iff_prefix] at hh
              obtain ⟨u, e⟩ := hh
              have e1 : s.data.toList = flatE (cs ++ [c]) ++ u := by
                rw [flatE_snoc', List.append_assoc, e, unhide HXl]; exact (unhide HX).1
              have e2 : i2 = (flatE (cs ++ [c])).length := by
                rw [flatE_snoc', List.length_append, ← (unhide HX).2, hi2, unhide HTt, bt_size]
              refine ⟨?_, e2⟩
              rw [e2]
              conv => rhs; rw [e1]
              rw [List.drop_left]; exact e1)
            have hdec : s.size - i2 < s.size - i := by omega
            rw [hh] at HBg
            clear hh hi2
            go_wp2_with (go_at_call 59; rw [← unhide HXe]; refine (unhide HBg).mono ?_; rintro ev w9 ⟨rfl, hw9⟩; obtain rfl := hw9.symm)
            go_roundw
            case rel =>
              first
                | exact ⟨cs ++ [c], i2, by go_num, hi3, unhide HO8, HCh, HX2, hB8⟩
                | ((repeat apply Exists.intro); exact ⟨⟨cs ++ [c], i2, by go_num, hi3, unhide HO8, HCh, HX2, hB8⟩, rfl⟩)
            case measure => simp [intOf]; omega
        · have HB : Hid (UnpBad s.data.toList i) := hide (unhide HBad (fun c' hc ⟨u, e⟩ => by
            have h1 := (unhide HSc).back c' u (mayF_ch hc) e.symm
            rw [← h1] at hc
            exact hch (chain_snoc (unhide HC) hc)))
          have hr1 : (0 : Int) ≤ r := hr0
          clear hch hq HBr HBd HQ6 HO6 HO7 HX
          go_wp2_with fail
          go_ret2
          exact ⟨_, _, rfl, hide (.inr ⟨i, rfl, rfl, unhide HB⟩), hB7⟩
end Go.Proofs.YtkeefkfklmhcjaaGreatDoor
