import Derived.Test.YtkeefkfklmhcjaaGreatDoorPth
import Derived.Test.YtkeefkfklmhcjaaGreatDoorChl
import Derived.Test.YtkeefkfklmhcjaaGreatDoorOwC
namespace Go.Proofs.YtkeefkfklmhcjaaGreatDoor
open Go.RowKit Go.Maps

theorem ec_one (e : Ent) : ∀ y ∈ ec e, y.oneCell' = true := ec_oneC e
theorem mark_eq {b : ByteArray} {p : List UInt8} (h : b.data.toList = p) (k : Int) : markE p k = ⟨b, k, 0, ⟨#[]⟩⟩ := by
  subst h; rfl
theorem step_take {xa xb : List Ent} {k : Nat} {p : List UInt8} (h : (allP xa xb)[k]? = some p) : (((allP xa xb).take (k + 1)).map (stepF xa xb)).flatten = (((allP xa xb).take k).map (stepF xa xb)).flatten ++ stepF xa xb p := by
  rw [List.take_add_one, h]; simp
theorem clr_is {B B2 : Nat} {r r2 : Nd} {ns ms : List Nd} {xa xb : List Ent} {p : List UInt8} {v u : Value} {c : Bool} (w : World) (hc : Hid (clrF xa xb p = c)) (h : Tr w B r ns xa) (h2 : Tr w B2 r2 ms xb) (hv : Found r ns xa p v) (hu : Found r2 ms xb p u) :
    Calls Tryz.prog 82 #[v, u] w fun ev w' => ev = .returned (.bool c) ∧ Below w.heap.size w w' := (unhide hc) ▸ clr_at w h h2 hv hu
theorem told_is {B B2 : Nat} {r r2 : Nd} {ns ms : List Nd} {xa xb : List Ent} {c : Bool} (s : ByteArray) (m : Int) (w : World) (hc : Hid ((decide (kindP xb (dirOf s.data.toList) = 1) && !clrF xa xb (dirOf s.data.toList)) = c)) (h : Tr w B r ns xa) (h2 : Tr w B2 r2 ms xb) (hs : s.size ≤ 1048576) (hm : w.cell? ⟨15, 0, none⟩ = some (.int .i64 m)) :
    Calls Tryz.prog 84 #[.pointer (some ⟨r.nb, 0, none⟩), .pointer (some ⟨r2.nb, 0, none⟩), .string s] w fun ev w' => ev = .returned (.bool c) ∧ Below w.heap.size w w' := (unhide hc) ▸ told_any s m w h h2 hs hm
theorem same_is {c : Bool} (x y : Nd) (w : World) (hc : Hid (eqE x.ent y.ent = c)) (hx : w.heap[x.nb]? = some (.cells x.cells 102 (0, 0))) (hy : w.heap[y.nb]? = some (.cells y.cells 102 (0, 0))) :
    Calls Tryz.prog 80 #[.pointer (some ⟨x.nb, 0, none⟩), .pointer (some ⟨y.nb, 0, none⟩)] w fun ev w' => ev = .returned (.bool c) ∧ Below w.heap.size w w' := (unhide hc) ▸ same_any x y w hx hy
set_option maxHeartbeats 3000000 in
set_option maxRecDepth 100000 in
theorem diff_any {B B2 : Nat} {r r2 : Nd} {ns ms : List Nd} {xa xb : List Ent} (m : Int) (w : World) (h : Tr w B r ns xa) (h2 : Tr w B2 r2 ms xb) (hm : w.cell? ⟨15, 0, none⟩ = some (.int .i64 m)) :
    Calls Tryz.prog 56 #[.pointer (some ⟨r.nb, 0, none⟩), .pointer (some ⟨r2.nb, 0, none⟩)] w fun ev w' => ∃ v, ev = .returned v ∧ OwnC w' w.heap.size v (diffF xa xb) ∧ Below w.heap.size w w' := by
  obtain ⟨i0, hi, hz0, hz1, hz2⟩ := info_parts Tryz.info39
  have HA := hide h
  have HB := hide h2
  have HM := hide hm
  have HR : Hid (eqE r.ent r2.ent = true) := hide (by rw [h.mem.root, h2.mem.root]; exact eqE_iff.2 rfl)
  clear h h2 hm
  go_enter Tryz.func56, Tryz.ntmps56
  go_upto_region 3 with (go_at_call 78; refine (paths_any m w (unhide HA) (unhide HB) (unhide HM)).mono ?_; rintro ev w1 ⟨g, cap, n, ps, rfl, HN, ht, HT, hb1⟩)
  have hn : n ≤ 81 := by
    have := allP_len (unhide HA).tree (unhide HB).tree
    rw [unhide HN, ← txts_len, unhide HT]; exact this
  have HTR := hide ht
  clear ht
  go_loopw [5, 14] (fun v i wr => ∃ (k : Nat) (ks : List Ent), k ≤ n ∧ i = .int .i64 k ∧ ks.length ≤ 3 * k ∧ OwnC wr w1.heap.size v ks ∧ Below w1.heap.size w1 wr ∧ Hid (ks = (((allP xa xb).take k).map (stepF xa xb)).flatten)) (fun _ i _ => n - (intOf i).toNat)
  case atStart => exact ⟨0, [], by omega, rfl, by simp, World.ownsRow_nil _ _ _ _, Below.refl _ _, hide (by simp)⟩
  case round =>
    obtain ⟨k, ks, hk, rfl, hkl, hown, hbr, HK⟩ := hrel
    have hb : Below w.heap.size w wr := hb1.trans (hbr.mono hb1.size)
    by_cases hlt : k < n
    · obtain ⟨b, hbk⟩ := get_lt (unhide HN) hlt
      obtain ⟨g', hg', cb⟩ := (unhide HTR).below hbr k b hbk
      cases hg'
      have hpk : (allP xa xb)[k]? = some b.data.toList := by rw [← unhide HT]; exact txts_get hbk
      have HP := hide (step_take hpk)
      have hmem := allP_mem.1 (List.mem_of_getElem? hpk)
      have hbs : b.size ≤ 1048576 := by
        rcases hmem with h | h | h
        · rw [Lib.size_eq, h]; simp
        · obtain ⟨e, he, hp⟩ := List.mem_map.1 h
          rw [Lib.size_eq, ← hp, ← Lib.size_eq]; exact ((unhide HA).tree.small e he).1
        · obtain ⟨e, he, hp⟩ := List.mem_map.1 h
          rw [Lib.size_eq, ← hp, ← Lib.size_eq]; exact ((unhide HB).tree.small e he).1
      have HMem := hide hmem
      have i0' : (0 : Int) ≤ (k : Int) := by omega
      have i1' : (k : Int) < (n : Int) := by omega
      have HOwn := hide hown
      clear hbk hpk hmem hown
      go_upto_region 6 with (first
        | (go_at_call_of 79 (Value.pointer (some ⟨r.nb, 0, none⟩)); refine (find_tr b m _ ((unhide HA).below hb) hbs (cell_later hb (unhide HM))).mono ?_; rintro ev w2 ⟨v1, rfl, HF1, hb2⟩; have hB2 := hb.trans (hb2.mono hb.size))
        | (go_at_call_of 79 (Value.pointer (some ⟨r2.nb, 0, none⟩)); refine (find_tr b m _ ((unhide HB).below hB2) hbs (cell_later hB2 (unhide HM))).mono ?_; rintro ev w3 ⟨v2, rfl, HF2, hb3⟩; have hB3 := hB2.trans (hb3.mono hB2.size)))
      have hO3 := ((unhide HOwn).later hb2).later hb3
      have hR3 : Below w1.heap.size w1 w3 := hbr.trans ((hb2.trans (hb3.mono hb2.size)).mono hbr.size)
      have HO3 := hide hO3
      clear HOwn hO3 hb2 hb3

      have hR3' := hR3
      rcases unhide HF2 with ⟨hv2, hp, hno⟩ | ⟨hv2, hp⟩ | ⟨y, hy, hv2, hyp, hp, hay⟩
      · obtain ⟨x, hv1, hax⟩ : ∃ x : Nd, v1 = .pointer (some ⟨x.nb, 0, none⟩) ∧ atE xa b.data.toList = some x.ent := by
          rcases unhide HF1 with ⟨_, _, ha⟩ | ⟨_, hp'⟩ | ⟨x, hx, hv, hxp, _, ha⟩
          · exfalso
            rcases unhide HMem with h | h | h
            · exact hp h
            · obtain ⟨e, he, hep⟩ := List.mem_map.1 h; exact atE_none ha e he hep
            · obtain ⟨e, he, hep⟩ := List.mem_map.1 h; exact atE_none hno e he hep
          · exact absurd hp' hp
          · exact ⟨x, hv, ha⟩
        have HC : Hid (clrF xa xb b.data.toList = false) := hide (by simp [clrF, kindP_at hp, hno])
        have HG : Hid (goneF xa xb b.data.toList = (decide (kindP xb (dirOf b.data.toList) = 1) && !clrF xa xb (dirOf b.data.toList))) := hide (by simp [goneF, hax, hno])
        have HPu : Hid (putF xa xb b.data.toList = []) := hide (by simp [putF, hno])
        subst hv1 hv2
        clear hp hno hax
        cases htd : (decide (kindP xb (dirOf b.data.toList) = 1) && !clrF xa xb (dirOf b.data.toList))
        · have HTd := hide htd
          have HS : Hid (stepF xa xb b.data.toList = []) := hide (by rw [stepF, unhide HPu, unhide HC, unhide HG, htd]; rfl)
          clear htd
          go_wp2_with (first
        | (go_at_call 82; refine (clr_is w3 HC ((unhide HA).below hB3) ((unhide HB).below hB3) (unhide HF1) (unhide HF2)).mono ?_; rintro ev w4 ⟨rfl, hb4⟩; have hB4 := hB3.trans (hb4.mono hB3.size); have hR4 := hR3.trans (hb4.mono hR3.size); have HO4 := hide ((unhide HO3).later hb4); clear hb4)
        | (go_at_call 84; refine (told_is b m w4 HTd ((unhide HA).below hB4) ((unhide HB).below hB4) hbs (cell_later hB4 (unhide HM))).mono ?_; rintro ev w5 ⟨rfl, hb5⟩; have hB5 := hB4.trans (hb5.mono hB4.size); have hR5 := hR4.trans (hb5.mono hR4.size); have HO5 := hide ((unhide HO4).later hb5); clear hb5))
          go_roundw
          case rel =>
            have hl : (ks).length ≤ 3 * (k + 1) := by
              have h3 := stepF_len xa xb b.data.toList
              rw [unhide HS] at h3
              simp at h3 ⊢
              omega
            have R : ks = (((allP xa xb).take (k + 1)).map (stepF xa xb)).flatten := by rw [unhide HP, ← unhide HK, unhide HS] <;> simp
            have RO : OwnC _ w1.heap.size _ (ks) := unhide HO5
            have RB : Below w1.heap.size w1 _ := hR5
            first
              | exact ⟨k + 1, ks, by omega, by go_num, hl, RO, RB, hide R⟩
              | ((repeat apply Exists.intro); exact ⟨⟨k + 1, ks, by omega, by go_num, hl, RO, RB, hide R⟩, rfl⟩)
          case measure => simp [intOf]; omega
        · have HTd := hide htd
          have HS : Hid (stepF xa xb b.data.toList = [(⟨b, 4, 0, ⟨#[]⟩⟩ : Ent)]) := hide (by rw [stepF, unhide HPu, unhide HC, unhide HG, htd, ← mark_eq rfl]; rfl)
          clear htd
          go_wp2_with (first
        | (go_at_call 82; refine (clr_is w3 HC ((unhide HA).below hB3) ((unhide HB).below hB3) (unhide HF1) (unhide HF2)).mono ?_; rintro ev w4 ⟨rfl, hb4⟩; have hB4 := hB3.trans (hb4.mono hB3.size); have hR4 := hR3.trans (hb4.mono hR3.size); have HO4 := hide ((unhide HO3).later hb4); clear hb4)
        | (go_at_call 84; refine (told_is b m w4 HTd ((unhide HA).below hB4) ((unhide HB).below hB4) hbs (cell_later hB4 (unhide HM))).mono ?_; rintro ev w5 ⟨rfl, hb5⟩; have hB5 := hB4.trans (hb5.mono hB4.size); have hR5 := hR4.trans (hb5.mono hR4.size); have HO5 := hide ((unhide HO4).later hb5); clear hb5)
        | (go_at_call 83; refine (mark_any b 4 _ hbs).mono ?_; rintro ev w6 ⟨rfl, hb6⟩; have hB6 := hB5.trans (hb6.mono hB5.size); have hR6 := hR5.trans (hb6.mono hR5.size); have HO6 := hide ((unhide HO5).later hb6); clear hb6)
        | (at_builtin; refine wpList_append_own _ rfl _ _ 29 rfl w1.heap.size 39 i0 _ 4 48 Tryz.underlying29 hi hz0 hz1 hz2 rfl (by decide) _ _ _ rfl (World.ownsRow.alloc (unhide HO6) _) ⟨w6.heap.size, 0, none⟩ 1 1 (ec (⟨b, 4, 0, ⟨#[]⟩⟩ : Ent)) rfl rfl (World.news_of_block (cs := #[.string (⟨b, 4, 0, ⟨#[]⟩⟩ : Ent).path, .int .i64 (⟨b, 4, 0, ⟨#[]⟩⟩ : Ent).kind, .int .i64 (⟨b, 4, 0, ⟨#[]⟩⟩ : Ent).mode, .string (⟨b, 4, 0, ⟨#[]⟩⟩ : Ent).data]) (t := 39) (fr := (0, 0)) (heap_alloc_new _ _)) (ec_one _) (by unfold maxLen; (try simp only [List.length_append, List.length_cons, List.length_nil]); omega) (by (try simp only [List.length_append, List.length_cons, List.length_nil]); omega) (by have := hR6.size; simp; omega) ?_; intro v7 w7 hown7 hgrow7 _; have HO7 := hide (ownC_snoc hown7); have hR7 := ownC_below (unhide HO6) hR6 hgrow7; have hB7 := hb1.trans (hR7.mono hb1.size); clear hown7 hgrow7))
          go_roundw
          case rel =>
            have hl : (ks ++ [(⟨b, 4, 0, ⟨#[]⟩⟩ : Ent)]).length ≤ 3 * (k + 1) := by
              have h3 := stepF_len xa xb b.data.toList
              rw [unhide HS] at h3
              simp at h3 ⊢
              omega
            have R : ks ++ [(⟨b, 4, 0, ⟨#[]⟩⟩ : Ent)] = (((allP xa xb).take (k + 1)).map (stepF xa xb)).flatten := by rw [unhide HP, ← unhide HK, unhide HS] <;> simp
            have RO : OwnC _ w1.heap.size _ (ks ++ [(⟨b, 4, 0, ⟨#[]⟩⟩ : Ent)]) := unhide HO7
            have RB : Below w1.heap.size w1 _ := hR7
            first
              | exact ⟨k + 1, ks ++ [(⟨b, 4, 0, ⟨#[]⟩⟩ : Ent)], by omega, by go_num, hl, RO, RB, hide R⟩
              | ((repeat apply Exists.intro); exact ⟨⟨k + 1, ks ++ [(⟨b, 4, 0, ⟨#[]⟩⟩ : Ent)], by omega, by go_num, hl, RO, RB, hide R⟩, rfl⟩)
          case measure => simp [intOf]; omega
      · have hv1 : v1 = .pointer (some ⟨r.nb, 0, none⟩) := by
          rcases unhide HF1 with ⟨_, hp', _⟩ | ⟨hv, _⟩ | ⟨_, _, _, _, hp', _⟩
          · exact absurd hp hp'
          · exact hv
          · exact absurd hp hp'
        have HPu : Hid (putF xa xb b.data.toList = []) := hide (by
          have : atE xb b.data.toList = none := atE_miss fun e he => by rw [hp]; exact ((unhide HB).tree.path he).1
          simp [putF, this])
        have HG : Hid (goneF xa xb b.data.toList = false) := hide (by
          have : atE xa b.data.toList = none := atE_miss fun e he => by rw [hp]; exact ((unhide HA).tree.path he).1
          simp [goneF, this])
        have HE1 : Hid (eqE r.ent r2.ent = true) := HR
        have HXm : Hid (r ∈ r :: ns) := hide (by simp)
        have HYm : Hid (r2 ∈ r2 :: ms) := hide (by simp)
        subst hv1 hv2
        clear hp
        cases hcl : clrF xa xb b.data.toList
        · have HC := hide hcl
          have HS : Hid (stepF xa xb b.data.toList = []) := hide (by rw [stepF, unhide HPu, hcl, unhide HG]; rfl)
          clear hcl
          go_wp2_with (first
        | (go_at_call 80; refine (same_is r r2 w3 HE1 (((unhide HA).below hB3).mem.all r (unhide HXm)).2.2.1 (((unhide HB).below hB3).mem.all r2 (unhide HYm)).2.2.1).mono ?_; rintro ev w4 ⟨rfl, hb4⟩; have hB4 := hB3.trans (hb4.mono hB3.size); have hR4 := hR3.trans (hb4.mono hR3.size); have HO4 := hide ((unhide HO3).later hb4); clear hb4)
        | (go_at_call 82; refine (clr_is w4 HC ((unhide HA).below hB4) ((unhide HB).below hB4) (unhide HF1) (unhide HF2)).mono ?_; rintro ev w5 ⟨rfl, hb5⟩; have hB5 := hB4.trans (hb5.mono hB4.size); have hR5 := hR4.trans (hb5.mono hR4.size); have HO5 := hide ((unhide HO4).later hb5); clear hb5))
          go_roundw
          case rel =>
            have hl : (ks).length ≤ 3 * (k + 1) := by
              have h3 := stepF_len xa xb b.data.toList
              rw [unhide HS] at h3
              simp at h3 ⊢
              omega
            have R : ks = (((allP xa xb).take (k + 1)).map (stepF xa xb)).flatten := by rw [unhide HP, ← unhide HK, unhide HS] <;> simp
            have RO : OwnC _ w1.heap.size _ (ks) := unhide HO5
            have RB : Below w1.heap.size w1 _ := hR5
            first
              | exact ⟨k + 1, ks, by omega, by go_num, hl, RO, RB, hide R⟩
              | ((repeat apply Exists.intro); exact ⟨⟨k + 1, ks, by omega, by go_num, hl, RO, RB, hide R⟩, rfl⟩)
          case measure => simp [intOf]; omega
        · have HC := hide hcl
          have HS : Hid (stepF xa xb b.data.toList = [(⟨b, 5, 0, ⟨#[]⟩⟩ : Ent)]) := hide (by rw [stepF, unhide HPu, hcl, unhide HG, ← mark_eq rfl]; rfl)
          clear hcl
          go_wp2_with (first
        | (go_at_call 80; refine (same_is r r2 w3 HE1 (((unhide HA).below hB3).mem.all r (unhide HXm)).2.2.1 (((unhide HB).below hB3).mem.all r2 (unhide HYm)).2.2.1).mono ?_; rintro ev w4 ⟨rfl, hb4⟩; have hB4 := hB3.trans (hb4.mono hB3.size); have hR4 := hR3.trans (hb4.mono hR3.size); have HO4 := hide ((unhide HO3).later hb4); clear hb4)
        | (go_at_call 82; refine (clr_is w4 HC ((unhide HA).below hB4) ((unhide HB).below hB4) (unhide HF1) (unhide HF2)).mono ?_; rintro ev w5 ⟨rfl, hb5⟩; have hB5 := hB4.trans (hb5.mono hB4.size); have hR5 := hR4.trans (hb5.mono hR4.size); have HO5 := hide ((unhide HO4).later hb5); clear hb5)
        | (go_at_call 83; refine (mark_any b 5 _ hbs).mono ?_; rintro ev w6 ⟨rfl, hb6⟩; have hB6 := hB5.trans (hb6.mono hB5.size); have hR6 := hR5.trans (hb6.mono hR5.size); have HO6 := hide ((unhide HO5).later hb6); clear hb6)
        | (at_builtin; refine wpList_append_own _ rfl _ _ 29 rfl w1.heap.size 39 i0 _ 4 48 Tryz.underlying29 hi hz0 hz1 hz2 rfl (by decide) _ _ _ rfl (World.ownsRow.alloc (unhide HO6) _) ⟨w6.heap.size, 0, none⟩ 1 1 (ec (⟨b, 5, 0, ⟨#[]⟩⟩ : Ent)) rfl rfl (World.news_of_block (cs := #[.string (⟨b, 5, 0, ⟨#[]⟩⟩ : Ent).path, .int .i64 (⟨b, 5, 0, ⟨#[]⟩⟩ : Ent).kind, .int .i64 (⟨b, 5, 0, ⟨#[]⟩⟩ : Ent).mode, .string (⟨b, 5, 0, ⟨#[]⟩⟩ : Ent).data]) (t := 39) (fr := (0, 0)) (heap_alloc_new _ _)) (ec_one _) (by unfold maxLen; (try simp only [List.length_append, List.length_cons, List.length_nil]); omega) (by (try simp only [List.length_append, List.length_cons, List.length_nil]); omega) (by have := hR6.size; simp; omega) ?_; intro v7 w7 hown7 hgrow7 _; have HO7 := hide (ownC_snoc hown7); have hR7 := ownC_below (unhide HO6) hR6 hgrow7; have hB7 := hb1.trans (hR7.mono hb1.size); clear hown7 hgrow7))
          go_roundw
          case rel =>
            have hl : (ks ++ [(⟨b, 5, 0, ⟨#[]⟩⟩ : Ent)]).length ≤ 3 * (k + 1) := by
              have h3 := stepF_len xa xb b.data.toList
              rw [unhide HS] at h3
              simp at h3 ⊢
              omega
            have R : ks ++ [(⟨b, 5, 0, ⟨#[]⟩⟩ : Ent)] = (((allP xa xb).take (k + 1)).map (stepF xa xb)).flatten := by rw [unhide HP, ← unhide HK, unhide HS] <;> simp
            have RO : OwnC _ w1.heap.size _ (ks ++ [(⟨b, 5, 0, ⟨#[]⟩⟩ : Ent)]) := unhide HO7
            have RB : Below w1.heap.size w1 _ := hR7
            first
              | exact ⟨k + 1, ks ++ [(⟨b, 5, 0, ⟨#[]⟩⟩ : Ent)], by omega, by go_num, hl, RO, RB, hide R⟩
              | ((repeat apply Exists.intro); exact ⟨⟨k + 1, ks ++ [(⟨b, 5, 0, ⟨#[]⟩⟩ : Ent)], by omega, by go_num, hl, RO, RB, hide R⟩, rfl⟩)
          case measure => simp [intOf]; omega
      · have HYm : Hid (y ∈ r2 :: ms) := hide (by simp [hy])
        have HYs : Hid (y.ent.path.size ≤ 1048576 ∧ y.ent.data.size ≤ 1048576) := hide ((unhide HB).tree.small y.ent ((unhide HB).in hy))
        have HG : Hid (goneF xa xb b.data.toList = false) := hide (by simp [goneF, hay])
        subst hv2
        rcases unhide HF1 with ⟨hv1, _, hax⟩ | ⟨_, hp'⟩ | ⟨x, hx, hv1, hxp, _, hax⟩
        · have HPu : Hid (putF xa xb b.data.toList = [y.ent]) := hide (by simp [putF, hay, hax])
          have HC : Hid (clrF xa xb b.data.toList = false) := hide (by simp [clrF, kindP_at hp, hax])
          have HS : Hid (stepF xa xb b.data.toList = [y.ent]) := hide (by rw [stepF, unhide HPu, unhide HC, unhide HG]; rfl)
          subst hv1
          clear hp hay hax hyp hy
          go_wp2_with (first
        | (go_at_call 80; refine (same_nil _ w3).mono ?_; rintro ev w4 ⟨rfl, hb4⟩; have hB4 := hB3.trans (hb4.mono hB3.size); have hR4 := hR3.trans (hb4.mono hR3.size); have HO4 := hide ((unhide HO3).later hb4); clear hb4)
        | (go_at_call 81; refine (copy_any y w4 (((unhide HB).below hB4).mem.all y (unhide HYm)).2.2.1 (unhide HYs).1 (unhide HYs).2).mono ?_; rintro ev w5 ⟨rfl, hb5⟩; have hB5 := hB4.trans (hb5.mono hB4.size); have hR5 := hR4.trans (hb5.mono hR4.size); have HO5 := hide ((unhide HO4).later hb5); clear hb5)
        | (at_builtin; refine wpList_append_own _ rfl _ _ 29 rfl w1.heap.size 39 i0 _ 4 48 Tryz.underlying29 hi hz0 hz1 hz2 rfl (by decide) _ _ _ rfl (World.ownsRow.alloc (unhide HO5) _) ⟨w5.heap.size, 0, none⟩ 1 1 (ec y.ent) rfl rfl (World.news_of_block (cs := #[.string y.ent.path, .int .i64 y.ent.kind, .int .i64 y.ent.mode, .string y.ent.data]) (t := 39) (fr := (0, 0)) (heap_alloc_new _ _)) (ec_one _) (by unfold maxLen; (try simp only [List.length_append, List.length_cons, List.length_nil]); omega) (by (try simp only [List.length_append, List.length_cons, List.length_nil]); omega) (by have := hR5.size; simp; omega) ?_; intro v6 w6 hown6 hgrow6 _; have HO6 := hide (ownC_snoc hown6); have hR6 := ownC_below (unhide HO5) hR5 hgrow6; have hB6 := hb1.trans (hR6.mono hb1.size); clear hown6 hgrow6)
        | (go_at_call 82; refine (clr_is w6 HC ((unhide HA).below hB6) ((unhide HB).below hB6) (unhide HF1) (unhide HF2)).mono ?_; rintro ev w7 ⟨rfl, hb7⟩; have hB7 := hB6.trans (hb7.mono hB6.size); have hR7 := hR6.trans (hb7.mono hR6.size); have HO7 := hide ((unhide HO6).later hb7); clear hb7))
          go_roundw
          case rel =>
            have hl : (ks ++ [y.ent]).length ≤ 3 * (k + 1) := by
              have h3 := stepF_len xa xb b.data.toList
              rw [unhide HS] at h3
              simp at h3 ⊢
              omega
            have R : ks ++ [y.ent] = (((allP xa xb).take (k + 1)).map (stepF xa xb)).flatten := by rw [unhide HP, ← unhide HK, unhide HS] <;> simp
            have RO : OwnC _ w1.heap.size _ (ks ++ [y.ent]) := unhide HO7
            have RB : Below w1.heap.size w1 _ := hR7
            first
              | exact ⟨k + 1, ks ++ [y.ent], by omega, by go_num, hl, RO, RB, hide R⟩
              | ((repeat apply Exists.intro); exact ⟨⟨k + 1, ks ++ [y.ent], by omega, by go_num, hl, RO, RB, hide R⟩, rfl⟩)
          case measure => simp [intOf]; omega
        · exact absurd hp' hp
        · have HXm : Hid (x ∈ r :: ns) := hide (by simp [hx])
          subst hv1
          cases heq : eqE x.ent y.ent
          · have HE1 := hide heq
            have HPu : Hid (putF xa xb b.data.toList = [y.ent]) := hide (by simp [putF, hay, hax, heq])
            clear hp hay hax hyp hy hx hxp heq
            cases hcl : clrF xa xb b.data.toList
            · have HC := hide hcl
              have HS : Hid (stepF xa xb b.data.toList = [y.ent]) := hide (by rw [stepF, unhide HPu, hcl, unhide HG]; rfl)
              clear hcl
              go_wp2_with (first
        | (go_at_call 80; refine (same_is x y w3 HE1 (((unhide HA).below hB3).mem.all x (unhide HXm)).2.2.1 (((unhide HB).below hB3).mem.all y (unhide HYm)).2.2.1).mono ?_; rintro ev w4 ⟨rfl, hb4⟩; have hB4 := hB3.trans (hb4.mono hB3.size); have hR4 := hR3.trans (hb4.mono hR3.size); have HO4 := hide ((unhide HO3).later hb4); clear hb4)
        | (go_at_call 81; refine (copy_any y w4 (((unhide HB).below hB4).mem.all y (unhide HYm)).2.2.1 (unhide HYs).1 (unhide HYs).2).mono ?_; rintro ev w5 ⟨rfl, hb5⟩; have hB5 := hB4.trans (hb5.mono hB4.size); have hR5 := hR4.trans (hb5.mono hR4.size); have HO5 := hide ((unhide HO4).later hb5); clear hb5)
        | (at_builtin; refine wpList_append_own _ rfl _ _ 29 rfl w1.heap.size 39 i0 _ 4 48 Tryz.underlying29 hi hz0 hz1 hz2 rfl (by decide) _ _ _ rfl (World.ownsRow.alloc (unhide HO5) _) ⟨w5.heap.size, 0, none⟩ 1 1 (ec y.ent) rfl rfl (World.news_of_block (cs := #[.string y.ent.path, .int .i64 y.ent.kind, .int .i64 y.ent.mode, .string y.ent.data]) (t := 39) (fr := (0, 0)) (heap_alloc_new _ _)) (ec_one _) (by unfold maxLen; (try simp only [List.length_append, List.length_cons, List.length_nil]); omega) (by (try simp only [List.length_append, List.length_cons, List.length_nil]); omega) (by have := hR5.size; simp; omega) ?_; intro v6 w6 hown6 hgrow6 _; have HO6 := hide (ownC_snoc hown6); have hR6 := ownC_below (unhide HO5) hR5 hgrow6; have hB6 := hb1.trans (hR6.mono hb1.size); clear hown6 hgrow6)
        | (go_at_call 82; refine (clr_is w6 HC ((unhide HA).below hB6) ((unhide HB).below hB6) (unhide HF1) (unhide HF2)).mono ?_; rintro ev w7 ⟨rfl, hb7⟩; have hB7 := hB6.trans (hb7.mono hB6.size); have hR7 := hR6.trans (hb7.mono hR6.size); have HO7 := hide ((unhide HO6).later hb7); clear hb7))
              go_roundw
              case rel =>
                have hl : (ks ++ [y.ent]).length ≤ 3 * (k + 1) := by
                  have h3 := stepF_len xa xb b.data.toList
                  rw [unhide HS] at h3
                  simp at h3 ⊢
                  omega
                have R : ks ++ [y.ent] = (((allP xa xb).take (k + 1)).map (stepF xa xb)).flatten := by rw [unhide HP, ← unhide HK, unhide HS] <;> simp
                have RO : OwnC _ w1.heap.size _ (ks ++ [y.ent]) := unhide HO7
                have RB : Below w1.heap.size w1 _ := hR7
                first
                  | exact ⟨k + 1, ks ++ [y.ent], by omega, by go_num, hl, RO, RB, hide R⟩
                  | ((repeat apply Exists.intro); exact ⟨⟨k + 1, ks ++ [y.ent], by omega, by go_num, hl, RO, RB, hide R⟩, rfl⟩)
              case measure => simp [intOf]; omega
            · have HC := hide hcl
              have HS : Hid (stepF xa xb b.data.toList = [y.ent] ++ [(⟨b, 5, 0, ⟨#[]⟩⟩ : Ent)]) := hide (by rw [stepF, unhide HPu, hcl, unhide HG, ← mark_eq rfl]; rfl)
              clear hcl
              go_wp2_with (first
        | (go_at_call 80; refine (same_is x y w3 HE1 (((unhide HA).below hB3).mem.all x (unhide HXm)).2.2.1 (((unhide HB).below hB3).mem.all y (unhide HYm)).2.2.1).mono ?_; rintro ev w4 ⟨rfl, hb4⟩; have hB4 := hB3.trans (hb4.mono hB3.size); have hR4 := hR3.trans (hb4.mono hR3.size); have HO4 := hide ((unhide HO3).later hb4); clear hb4)
        | (go_at_call 81; refine (copy_any y w4 (((unhide HB).below hB4).mem.all y (unhide HYm)).2.2.1 (unhide HYs).1 (unhide HYs).2).mono ?_; rintro ev w5 ⟨rfl, hb5⟩; have hB5 := hB4.trans (hb5.mono hB4.size); have hR5 := hR4.trans (hb5.mono hR4.size); have HO5 := hide ((unhide HO4).later hb5); clear hb5)
        | (at_builtin; refine wpList_append_own _ rfl _ _ 29 rfl w1.heap.size 39 i0 _ 4 48 Tryz.underlying29 hi hz0 hz1 hz2 rfl (by decide) _ _ _ rfl (World.ownsRow.alloc (unhide HO5) _) ⟨w5.heap.size, 0, none⟩ 1 1 (ec y.ent) rfl rfl (World.news_of_block (cs := #[.string y.ent.path, .int .i64 y.ent.kind, .int .i64 y.ent.mode, .string y.ent.data]) (t := 39) (fr := (0, 0)) (heap_alloc_new _ _)) (ec_one _) (by unfold maxLen; (try simp only [List.length_append, List.length_cons, List.length_nil]); omega) (by (try simp only [List.length_append, List.length_cons, List.length_nil]); omega) (by have := hR5.size; simp; omega) ?_; intro v6 w6 hown6 hgrow6 _; have HO6 := hide (ownC_snoc hown6); have hR6 := ownC_below (unhide HO5) hR5 hgrow6; have hB6 := hb1.trans (hR6.mono hb1.size); clear hown6 hgrow6)
        | (go_at_call 82; refine (clr_is w6 HC ((unhide HA).below hB6) ((unhide HB).below hB6) (unhide HF1) (unhide HF2)).mono ?_; rintro ev w7 ⟨rfl, hb7⟩; have hB7 := hB6.trans (hb7.mono hB6.size); have hR7 := hR6.trans (hb7.mono hR6.size); have HO7 := hide ((unhide HO6).later hb7); clear hb7)
        | (go_at_call 83; refine (mark_any b 5 _ hbs).mono ?_; rintro ev w8 ⟨rfl, hb8⟩; have hB8 := hB7.trans (hb8.mono hB7.size); have hR8 := hR7.trans (hb8.mono hR7.size); have HO8 := hide ((unhide HO7).later hb8); clear hb8)
        | (at_builtin; refine wpList_append_own _ rfl _ _ 29 rfl w1.heap.size 39 i0 _ 4 48 Tryz.underlying29 hi hz0 hz1 hz2 rfl (by decide) _ _ _ rfl (World.ownsRow.alloc (unhide HO8) _) ⟨w8.heap.size, 0, none⟩ 1 1 (ec (⟨b, 5, 0, ⟨#[]⟩⟩ : Ent)) rfl rfl (World.news_of_block (cs := #[.string (⟨b, 5, 0, ⟨#[]⟩⟩ : Ent).path, .int .i64 (⟨b, 5, 0, ⟨#[]⟩⟩ : Ent).kind, .int .i64 (⟨b, 5, 0, ⟨#[]⟩⟩ : Ent).mode, .string (⟨b, 5, 0, ⟨#[]⟩⟩ : Ent).data]) (t := 39) (fr := (0, 0)) (heap_alloc_new _ _)) (ec_one _) (by unfold maxLen; (try simp only [List.length_append, List.length_cons, List.length_nil]); omega) (by (try simp only [List.length_append, List.length_cons, List.length_nil]); omega) (by have := hR8.size; simp; omega) ?_; intro v9 w9 hown9 hgrow9 _; have HO9 := hide (ownC_snoc hown9); have hR9 := ownC_below (unhide HO8) hR8 hgrow9; have hB9 := hb1.trans (hR9.mono hb1.size); clear hown9 hgrow9))
              go_roundw
              case rel =>
                have hl : (ks ++ [y.ent] ++ [(⟨b, 5, 0, ⟨#[]⟩⟩ : Ent)]).length ≤ 3 * (k + 1) := by
                  have h3 := stepF_len xa xb b.data.toList
                  rw [unhide HS] at h3
                  simp at h3 ⊢
                  omega
                have R : ks ++ [y.ent] ++ [(⟨b, 5, 0, ⟨#[]⟩⟩ : Ent)] = (((allP xa xb).take (k + 1)).map (stepF xa xb)).flatten := by rw [unhide HP, ← unhide HK, unhide HS] <;> simp
                have RO : OwnC _ w1.heap.size _ (ks ++ [y.ent] ++ [(⟨b, 5, 0, ⟨#[]⟩⟩ : Ent)]) := unhide HO9
                have RB : Below w1.heap.size w1 _ := hR9
                first
                  | exact ⟨k + 1, ks ++ [y.ent] ++ [(⟨b, 5, 0, ⟨#[]⟩⟩ : Ent)], by omega, by go_num, hl, RO, RB, hide R⟩
                  | ((repeat apply Exists.intro); exact ⟨⟨k + 1, ks ++ [y.ent] ++ [(⟨b, 5, 0, ⟨#[]⟩⟩ : Ent)], by omega, by go_num, hl, RO, RB, hide R⟩, rfl⟩)
              case measure => simp [intOf]; omega
          · have HE1 := hide heq
            have HPu : Hid (putF xa xb b.data.toList = []) := hide (by simp [putF, hay, hax, heq])
            clear hp hay hax hyp hy hx hxp heq
            cases hcl : clrF xa xb b.data.toList
            · have HC := hide hcl
              have HS : Hid (stepF xa xb b.data.toList = []) := hide (by rw [stepF, unhide HPu, hcl, unhide HG]; rfl)
              clear hcl
              go_wp2_with (first
        | (go_at_call 80; refine (same_is x y w3 HE1 (((unhide HA).below hB3).mem.all x (unhide HXm)).2.2.1 (((unhide HB).below hB3).mem.all y (unhide HYm)).2.2.1).mono ?_; rintro ev w4 ⟨rfl, hb4⟩; have hB4 := hB3.trans (hb4.mono hB3.size); have hR4 := hR3.trans (hb4.mono hR3.size); have HO4 := hide ((unhide HO3).later hb4); clear hb4)
        | (go_at_call 82; refine (clr_is w4 HC ((unhide HA).below hB4) ((unhide HB).below hB4) (unhide HF1) (unhide HF2)).mono ?_; rintro ev w5 ⟨rfl, hb5⟩; have hB5 := hB4.trans (hb5.mono hB4.size); have hR5 := hR4.trans (hb5.mono hR4.size); have HO5 := hide ((unhide HO4).later hb5); clear hb5))
              go_roundw
              case rel =>
                have hl : (ks).length ≤ 3 * (k + 1) := by
                  have h3 := stepF_len xa xb b.data.toList
                  rw [unhide HS] at h3
                  simp at h3 ⊢
                  omega
                have R : ks = (((allP xa xb).take (k + 1)).map (stepF xa xb)).flatten := by rw [unhide HP, ← unhide HK, unhide HS] <;> simp
                have RO : OwnC _ w1.heap.size _ (ks) := unhide HO5
                have RB : Below w1.heap.size w1 _ := hR5
                first
                  | exact ⟨k + 1, ks, by omega, by go_num, hl, RO, RB, hide R⟩
                  | ((repeat apply Exists.intro); exact ⟨⟨k + 1, ks, by omega, by go_num, hl, RO, RB, hide R⟩, rfl⟩)
              case measure => simp [intOf]; omega
            · have HC := hide hcl
              have HS : Hid (stepF xa xb b.data.toList = [(⟨b, 5, 0, ⟨#[]⟩⟩ : Ent)]) := hide (by rw [stepF, unhide HPu, hcl, unhide HG, ← mark_eq rfl]; rfl)
              clear hcl
              go_wp2_with (first
        | (go_at_call 80; refine (same_is x y w3 HE1 (((unhide HA).below hB3).mem.all x (unhide HXm)).2.2.1 (((unhide HB).below hB3).mem.all y (unhide HYm)).2.2.1).mono ?_; rintro ev w4 ⟨rfl, hb4⟩; have hB4 := hB3.trans (hb4.mono hB3.size); have hR4 := hR3.trans (hb4.mono hR3.size); have HO4 := hide ((unhide HO3).later hb4); clear hb4)
        | (go_at_call 82; refine (clr_is w4 HC ((unhide HA).below hB4) ((unhide HB).below hB4) (unhide HF1) (unhide HF2)).mono ?_; rintro ev w5 ⟨rfl, hb5⟩; have hB5 := hB4.trans (hb5.mono hB4.size); have hR5 := hR4.trans (hb5.mono hR4.size); have HO5 := hide ((unhide HO4).later hb5); clear hb5)
        | (go_at_call 83; refine (mark_any b 5 _ hbs).mono ?_; rintro ev w6 ⟨rfl, hb6⟩; have hB6 := hB5.trans (hb6.mono hB5.size); have hR6 := hR5.trans (hb6.mono hR5.size); have HO6 := hide ((unhide HO5).later hb6); clear hb6)
        | (at_builtin; refine wpList_append_own _ rfl _ _ 29 rfl w1.heap.size 39 i0 _ 4 48 Tryz.underlying29 hi hz0 hz1 hz2 rfl (by decide) _ _ _ rfl (World.ownsRow.alloc (unhide HO6) _) ⟨w6.heap.size, 0, none⟩ 1 1 (ec (⟨b, 5, 0, ⟨#[]⟩⟩ : Ent)) rfl rfl (World.news_of_block (cs := #[.string (⟨b, 5, 0, ⟨#[]⟩⟩ : Ent).path, .int .i64 (⟨b, 5, 0, ⟨#[]⟩⟩ : Ent).kind, .int .i64 (⟨b, 5, 0, ⟨#[]⟩⟩ : Ent).mode, .string (⟨b, 5, 0, ⟨#[]⟩⟩ : Ent).data]) (t := 39) (fr := (0, 0)) (heap_alloc_new _ _)) (ec_one _) (by unfold maxLen; (try simp only [List.length_append, List.length_cons, List.length_nil]); omega) (by (try simp only [List.length_append, List.length_cons, List.length_nil]); omega) (by have := hR6.size; simp; omega) ?_; intro v7 w7 hown7 hgrow7 _; have HO7 := hide (ownC_snoc hown7); have hR7 := ownC_below (unhide HO6) hR6 hgrow7; have hB7 := hb1.trans (hR7.mono hb1.size); clear hown7 hgrow7))
              go_roundw
              case rel =>
                have hl : (ks ++ [(⟨b, 5, 0, ⟨#[]⟩⟩ : Ent)]).length ≤ 3 * (k + 1) := by
                  have h3 := stepF_len xa xb b.data.toList
                  rw [unhide HS] at h3
                  simp at h3 ⊢
                  omega
                have R : ks ++ [(⟨b, 5, 0, ⟨#[]⟩⟩ : Ent)] = (((allP xa xb).take (k + 1)).map (stepF xa xb)).flatten := by rw [unhide HP, ← unhide HK, unhide HS] <;> simp
                have RO : OwnC _ w1.heap.size _ (ks ++ [(⟨b, 5, 0, ⟨#[]⟩⟩ : Ent)]) := unhide HO7
                have RB : Below w1.heap.size w1 _ := hR7
                first
                  | exact ⟨k + 1, ks ++ [(⟨b, 5, 0, ⟨#[]⟩⟩ : Ent)], by omega, by go_num, hl, RO, RB, hide R⟩
                  | ((repeat apply Exists.intro); exact ⟨⟨k + 1, ks ++ [(⟨b, 5, 0, ⟨#[]⟩⟩ : Ent)], by omega, by go_num, hl, RO, RB, hide R⟩, rfl⟩)
              case measure => simp [intOf]; omega
    · have HF : Hid (ks = diffF xa xb) := hide (by
        rw [unhide HK, diffF, List.take_of_length_le]
        rw [← unhide HT, txts_len, ← unhide HN]; omega)
      go_wp2_with fail
      go_ret
      exact ⟨_, rfl, by rw [← unhide HF]; exact hown.base hb1.size, hb⟩
end Go.Proofs.YtkeefkfklmhcjaaGreatDoor
