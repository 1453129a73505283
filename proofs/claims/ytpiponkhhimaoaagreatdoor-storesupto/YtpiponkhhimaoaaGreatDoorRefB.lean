import Derived.Test.YtpiponkhhimaoaaGreatDoorRefA
namespace Go.Proofs.YtpiponkhhimaoaaGreatDoor
open Go.RowKit

theorem i_bS1 (e : Nat) (he : e < 4294967296) : bits .xor .i64 (bits .xor .i64 ((rr e 6 : Nat) : Int) ((rr e 11 : Nat) : Int)) ((rr e 25 : Nat) : Int) = ((bS1 e : Nat) : Int) := by
  rw [i64_xor_nat _ _ (rr_lt he) (rr_lt he), i64_xor_nat _ _ (xor_lt (rr_lt he) (rr_lt he)) (rr_lt he)]; rfl
theorem i_bS0 (e : Nat) (he : e < 4294967296) : bits .xor .i64 (bits .xor .i64 ((rr e 2 : Nat) : Int) ((rr e 13 : Nat) : Int)) ((rr e 22 : Nat) : Int) = ((bS0 e : Nat) : Int) := by
  rw [i64_xor_nat _ _ (rr_lt he) (rr_lt he), i64_xor_nat _ _ (xor_lt (rr_lt he) (rr_lt he)) (rr_lt he)]; rfl
theorem i_cho (e f g : Nat) (he : e < 4294967296) (hf : f < 4294967296) (hg : g < 4294967296) : bits .xor .i64 (bits .and .i64 (e : Int) (f : Int)) (bits .and .i64 ((4294967295 - e : Nat) : Int) (g : Int)) = ((cho e f g : Nat) : Int) := by
  rw [i64_and_nat _ _ he hf, i64_and_nat _ _ (by omega) hg, i64_xor_nat _ _ (and_lt hf) (and_lt hg)]; rfl
theorem i_maj (a b c : Nat) (ha : a < 4294967296) (hb : b < 4294967296) (hc : c < 4294967296) : bits .xor .i64 (bits .xor .i64 (bits .and .i64 (a : Int) (b : Int)) (bits .and .i64 (a : Int) (c : Int))) (bits .and .i64 (b : Int) (c : Int)) = ((maj a b c : Nat) : Int) := by
  rw [i64_and_nat _ _ ha hb, i64_and_nat _ _ ha hc, i64_and_nat _ _ hb hc, i64_xor_nat _ _ (and_lt hb) (and_lt hc), i64_xor_nat _ _ (xor_lt (and_lt hb) (and_lt hc)) (and_lt hc)]; rfl

theorem ownI_set {w : World} {B g n cap : Nat} {ws : List Nat} (h : OwnI w B (.slice (some ⟨g, 0, none⟩) n cap) ws) (i y : Nat) : OwnI (w.setCell ⟨g, i, none⟩ (.int .i64 (y : Int))) B (.slice (some ⟨g, 0, none⟩) n cap) (ws.set i y) := by
  rcases h.2 with ⟨hv, _⟩ | ⟨g', cap', cur, hv, hbg, hg, hnc, hcm, hcs, htake⟩
  · cases hv
  · cases hv
    refine ⟨by simp [ints], .inr ⟨g, cap, cur.setIfInBounds i (.int .i64 (y : Int)), by rw [List.length_set], hbg, heap_setCell_same _ _ _ _ _ _ hg, by rw [List.length_set]; exact hnc, hcm, by simpa using hcs, ?_⟩⟩
    rw [List.length_set, Array.toList_setIfInBounds, List.take_set, htake]
    simp [ints, List.map_set]
theorem ownI_frozen {w : World} {B g n cap : Nat} {ws : List Nat} (h : OwnI w B (.slice (some ⟨g, 0, none⟩) n cap) ws) (i : Nat) : w.frozen? ⟨g, i, none⟩ = false := by
  rcases h.2 with ⟨hv, _⟩ | ⟨g', cap', cur, hv, hbg, hg, _⟩
  · cases hv
  · cases hv
    exact frozen_of_row w g i _ _ hg
theorem ownI_below {w w' : World} {B : Nat} {v : Value} {ws : List Nat} (h : OwnI w B v ws) (hb : Below w.heap.size w w') : OwnI w' B v ws :=
  World.ownsRow.kept (row := none) h ⟨hb.os, hb.tape, hb.output, hb.size, fun k hk _ => hb.block k hk⟩ (by cases v.ownBlock <;> simp)
theorem cells_I {w : World} {B g n cap : Nat} {x : St} (h : OwnI w B (.slice (some ⟨g, 0, none⟩) n cap) x.list) :
    w.cell? ⟨g, 0, none⟩ = some (.int .i64 x.a) ∧ w.cell? ⟨g, 1, none⟩ = some (.int .i64 x.b) ∧ w.cell? ⟨g, 2, none⟩ = some (.int .i64 x.c) ∧ w.cell? ⟨g, 3, none⟩ = some (.int .i64 x.d) ∧ w.cell? ⟨g, 4, none⟩ = some (.int .i64 x.e) ∧ w.cell? ⟨g, 5, none⟩ = some (.int .i64 x.f) ∧ w.cell? ⟨g, 6, none⟩ = some (.int .i64 x.g) ∧ w.cell? ⟨g, 7, none⟩ = some (.int .i64 x.q) := by
  refine ⟨ownI_cell h 0 ?_, ownI_cell h 1 ?_, ownI_cell h 2 ?_, ownI_cell h 3 ?_, ownI_cell h 4 ?_, ownI_cell h 5 ?_, ownI_cell h 6 ?_, ownI_cell h 7 ?_⟩ <;> (show _ < 8; decide)
theorem ownI_new {w : World} {B : Nat} (hB : B ≤ w.heap.size) (ws : List Nat) (hm : ws.length ≤ 4294967296) : OwnI (w.alloc (.cells (ints ws).toArray 3)) B (.slice (some ⟨w.heap.size, 0, none⟩) ws.length ws.length) ws :=
  ⟨by simp [ints], .inr ⟨w.heap.size, ws.length, (ints ws).toArray, rfl, hB, heap_alloc_new _ _, Nat.le_refl _, by unfold maxLen; omega, by simp [ints], List.take_of_length_le (by simp [ints])⟩⟩

attribute [local go_sem] setCell_drewN alloc_drewN
attribute [local go_sem] Go.wp_at_zero Go.wp_at_succ

set_option maxHeartbeats 400000 in
set_option maxRecDepth 100000 in
theorem keys_any (w : World) : Calls Tryz.prog 104 #[] w fun ev w' => ∃ v, ev = .returned v ∧ OwnI w' w.heap.size v Ks ∧ Below w.heap.size w w' := by
  go_enter Tryz.func104, Tryz.ntmps104
  go_wp2
  go_ret
  exact ⟨_, rfl, ownI_new (Nat.le_refl _) Ks (by decide), (Below.refl _ _).alloc (Nat.le_refl _) _⟩

theorem spread_at (l : List UInt8) (g o cap : Nat) (w : World) (hc : ∀ j, j < 64 → w.cell? ⟨g, o + j, none⟩ = some (.int .u8 ((byt l j : Nat) : Int))) :
    Calls Tryz.prog 103 #[.slice (some ⟨g, o, none⟩) 64 cap] w fun ev w' => ∃ gs cs, ev = .returned (.slice (some ⟨gs, 0, none⟩) 64 cs) ∧ OwnI w' w.heap.size (.slice (some ⟨gs, 0, none⟩) 64 cs) (sch l 64) ∧ Below w.heap.size w w' := by
  refine (spread_any l g o cap w hc).mono ?_
  rintro ev w' ⟨v, rfl, h1, h2⟩
  obtain ⟨gs, cs, rfl, _⟩ := ownI_form h1 (by intro e; have := sch_len l 64; rw [e] at this; simp at this)
  rw [sch_len] at h1 ⊢
  exact ⟨gs, cs, rfl, h1, h2⟩
theorem keys_at (w : World) : Calls Tryz.prog 104 #[] w fun ev w' => ∃ gk ck, ev = .returned (.slice (some ⟨gk, 0, none⟩) 64 ck) ∧ OwnI w' w.heap.size (.slice (some ⟨gk, 0, none⟩) 64 ck) Ks ∧ Below w.heap.size w w' := by
  refine (keys_any w).mono ?_
  rintro ev w' ⟨v, rfl, h1, h2⟩
  obtain ⟨gk, ck, rfl, _⟩ := ownI_form h1 (by decide)
  exact ⟨gk, ck, rfl, h1, h2⟩
theorem rnd_ref (y : St) (K W A4 T : Nat) (h1 : A4 = y.q + bS1 y.e + cho y.e y.f y.g + K + W) (h2 : T = bS0 y.a + maj y.a y.b y.c) : (⟨(A4 + T) % 4294967296, y.a, y.b, y.c, (y.d + A4) % 4294967296, y.e, y.f, y.g⟩ : St) = y.rnd (W + K) := by
  have e1 : A4 + T = y.q + bS1 y.e + cho y.e y.f y.g + (W + K) + bS0 y.a + maj y.a y.b y.c := by omega
  have e2 : y.d + A4 = y.d + (y.q + bS1 y.e + cho y.e y.f y.g + (W + K)) := by omega
  rw [e1, e2, St.rnd]
theorem St.list_lt {v : St} (h : v.ok) (k : Nat) : v.list.getD k 0 < 4294967296 := by
  obtain ⟨h1, h2, h3, h4, h5, h6, h7, h8⟩ := h
  match k with
  | 0 => exact h1
  | 1 => exact h2
  | 2 => exact h3
  | 3 => exact h4
  | 4 => exact h5
  | 5 => exact h6
  | 6 => exact h7
  | 7 => exact h8
  | n + 8 => simp [St.list]
theorem pl_set (v y : St) (k : Nat) (h : k < 8) : (pl v y k).set k ((v.list.getD k 0 + y.list.getD k 0) % 4294967296) = pl v y (k + 1) := by
  match k, h with
  | 0, _ => rfl
  | 1, _ => rfl
  | 2, _ => rfl
  | 3, _ => rfl
  | 4, _ => rfl
  | 5, _ => rfl
  | 6, _ => rfl
  | 7, _ => rfl
theorem St.add_comm (v y : St) : v.add y = y.add v := by simp only [St.add, Nat.add_comm]

set_option maxHeartbeats 2000000 in
set_option maxRecDepth 100000 in
theorem block_any (x : St) (hx : x.ok) (l : List UInt8) (B gh ch g o cap : Nat) (w : World) (hh : OwnI w B (.slice (some ⟨gh, 0, none⟩) 8 ch) x.list) (hc : ∀ j, j < 64 → w.cell? ⟨g, o + j, none⟩ = some (.int .u8 ((byt l j : Nat) : Int))) :
    Calls Tryz.prog 60 #[.slice (some ⟨gh, 0, none⟩) 8 ch, .slice (some ⟨g, o, none⟩) 64 cap] w fun ev w' => ∃ g' cap', ev = .returned (.slice (some ⟨g', 0, none⟩) 8 cap') ∧ OwnI w' w.heap.size (.slice (some ⟨g', 0, none⟩) 8 cap') (mixB x l).list ∧ Below w.heap.size w w' := by
  obtain ⟨i0, hi, hz0, hz1, hz2⟩ := info_parts Tryz.info3
  have HC := hide hc
  have HX := hide hx
  have hgl : gh < w.heap.size := World.block_lt_of_cell? _ _ (cells_I hh).1
  clear hc hx
  go_enter Tryz.func60, Tryz.ntmps60
  go_upto_region 3 with (first
    | (go_at_call 103; refine (spread_at l _ _ _ _ (unhide HC)).mono ?_; rintro ev w1 ⟨gs, cs, rfl, hs1, hb1⟩)
    | (go_at_call 104; refine (keys_at _).mono ?_; rintro ev w2 ⟨gk, ck, rfl, hk2, hb2⟩))
  have hB2 : Below w.heap.size w w2 := hb1.trans (hb2.mono hb1.size)
  have hs2 := ownI_below hs1 hb2
  have hh2 := ownI_below hh hB2
  have hcells := World.ownsRow.cells hh2 rfl
  go_wp2_with (first | (at_builtin; refine wpList_append_lies _ rfl _ _ 123 rfl w.heap.size 3 i0 (.int .i64 0) 1 8 Tryz.underlying123 hi hz0 hz1 hz2 rfl (by decide) (.slice none 0 0) 0 [] rfl (World.ownsRow_nil _ _ _ _) ⟨gh, 0, none⟩ 8 ch (ints x.list) rfl rfl hcells (ints_one _) (by decide) (by unfold maxLen; omega) (by omega) hB2.size _ rfl ?_; intro gv cv w3 hown3 hgrow3 hat3 hlt3))
  have hB23 : Below w2.heap.size w2 w3 := ⟨hgrow3.os, hgrow3.tape, hgrow3.output, hgrow3.size, fun k hk => hgrow3.block k hk (by simp [Value.ownBlock])⟩
  have hs3 := ownI_below hs2 hB23
  have hk3 := ownI_below hk2 hB23
  have hh3 := ownI_below hh2 hB23
  have hB3 : Below w.heap.size w w3 := hB2.trans (hB23.mono hB2.size)
  have hv3 : OwnI w3 w.heap.size (.slice (some ⟨gv, 0, none⟩) 8 cv) x.list := hown3
  clear hown3 hgrow3 hat3 hlt3 hcells hs1 hs2 hk2 hh2 hB23 hb1 hb2 hB2
  go_loopw [7, 8] (fun v i wr => ∃ (t gq cq : Nat) (y : St), t ≤ 64 ∧ i = .int .i64 t ∧ v = .slice (some ⟨gq, 0, none⟩) 8 cq ∧ OwnI wr w.heap.size (.slice (some ⟨gq, 0, none⟩) 8 cq) y.list ∧ Below w3.heap.size w3 wr ∧ Hid (y = rnds (sch l 64) x t)) (fun _ i _ => 64 - (intOf i).toNat)
  case atStart => exact ⟨0, gv, cv, x, by omega, rfl, rfl, hv3, Below.refl _ _, hide rfl⟩
  case round =>
    obtain ⟨t, gq, cq, y, ht, rfl, rfl, hown, hb, HY⟩ := hrel
    by_cases hlt : t < 64
    · obtain ⟨c0, c1, c2, c3, c4, c5, c6, c7⟩ := cells_I hown
      have cs0 := ownI_cell (ownI_below hs3 hb) t (by rw [sch_len]; exact hlt)
      have ck0 := ownI_cell (ownI_below hk3 hb) t (by show t < 64; exact hlt)
      obtain ⟨y0, y1, y2, y3, y4, y5, y6, y7⟩ : y.ok := by rw [unhide HY]; exact rnds_ok (unhide HX) t
      have bw := getD_lt (sch_lt l 64) t
      have bk := Ks_lt t
      have HN : Hid (∀ A4 T : Nat, A4 = y.q + bS1 y.e + cho y.e y.f y.g + Ks.getD t 0 + (sch l 64).getD t 0 → T = bS0 y.a + maj y.a y.b y.c → (⟨(A4 + T) % 4294967296, y.a, y.b, y.c, (y.d + A4) % 4294967296, y.e, y.f, y.g⟩ : St) = rnds (sch l 64) x (t + 1)) := hide (by
        intro A4 T h1 h2
        rw [rnds, ← unhide HY]
        exact rnd_ref y _ _ A4 T h1 h2)
      generalize (sch l 64).getD t 0 = W at *
      generalize Ks.getD t 0 = K at *
      have r1 := i_bS1 y.e y4
      have r2 := i_cho y.e y.f y.g y4 y5 y6
      have r3 := i_bS0 y.a y0
      have r4 := i_maj y.a y.b y.c y0 y1 y2
      have l1 : bS1 y.e < 4294967296 := xor_lt (xor_lt (rr_lt y4) (rr_lt y4)) (rr_lt y4)
      have l2 : cho y.e y.f y.g < 4294967296 := xor_lt (and_lt y5) (and_lt y6)
      have l3 : bS0 y.a < 4294967296 := xor_lt (xor_lt (rr_lt y0) (rr_lt y0)) (rr_lt y0)
      have l4 : maj y.a y.b y.c < 4294967296 := xor_lt (xor_lt (and_lt y1) (and_lt y2)) (and_lt y2)
      generalize bS1 y.e = s1 at *
      generalize cho y.e y.f y.g = hc at *
      generalize bS0 y.a = s0 at *
      generalize maj y.a y.b y.c = mj at *
      have hsub : IntKind.i64.wrap (4294967295 - (y.e : Int)) = ((4294967295 - y.e : Nat) : Int) := by rw [show 4294967295 - (y.e : Int) = ((4294967295 - y.e : Nat) : Int) from by omega]; exact wrap_i64 _ (by omega)
      obtain ⟨A1, eA1⟩ : ∃ z, z = y.q + s1 := ⟨_, rfl⟩
      have fA1 : IntKind.i64.wrap ((y.q : Int) + (s1 : Int)) = (A1 : Int) := by rw [show (y.q : Int) + (s1 : Int) = ((A1 : Nat) : Int) from by omega]; exact wrap_i64 _ (by omega)
      obtain ⟨A2, eA2⟩ : ∃ z, z = A1 + hc := ⟨_, rfl⟩
      have fA2 : IntKind.i64.wrap ((A1 : Int) + (hc : Int)) = (A2 : Int) := by rw [show (A1 : Int) + (hc : Int) = ((A2 : Nat) : Int) from by omega]; exact wrap_i64 _ (by omega)
      obtain ⟨A3, eA3⟩ : ∃ z, z = A2 + K := ⟨_, rfl⟩
      have fA3 : IntKind.i64.wrap ((A2 : Int) + (K : Int)) = (A3 : Int) := by rw [show (A2 : Int) + (K : Int) = ((A3 : Nat) : Int) from by omega]; exact wrap_i64 _ (by omega)
      obtain ⟨A4, eA4⟩ : ∃ z, z = A3 + W := ⟨_, rfl⟩
      have fA4 : IntKind.i64.wrap ((A3 : Int) + (W : Int)) = (A4 : Int) := by rw [show (A3 : Int) + (W : Int) = ((A4 : Nat) : Int) from by omega]; exact wrap_i64 _ (by omega)
      obtain ⟨T, eT⟩ : ∃ z, z = s0 + mj := ⟨_, rfl⟩
      have fT : IntKind.i64.wrap ((s0 : Int) + (mj : Int)) = (T : Int) := by rw [show (s0 : Int) + (mj : Int) = ((T : Nat) : Int) from by omega]; exact wrap_i64 _ (by omega)
      obtain ⟨U, eU⟩ : ∃ z, z = A4 + T := ⟨_, rfl⟩
      have fU : IntKind.i64.wrap ((A4 : Int) + (T : Int)) = (U : Int) := by rw [show (A4 : Int) + (T : Int) = ((U : Nat) : Int) from by omega]; exact wrap_i64 _ (by omega)
      obtain ⟨V, eV⟩ : ∃ z, z = y.d + A4 := ⟨_, rfl⟩
      have fV : IntKind.i64.wrap ((y.d : Int) + (A4 : Int)) = (V : Int) := by rw [show (y.d : Int) + (A4 : Int) = ((V : Nat) : Int) from by omega]; exact wrap_i64 _ (by omega)
      obtain ⟨Z1, eZ1⟩ : ∃ z, z = U % 4294967296 := ⟨_, rfl⟩
      have fZ1 : (U : Int).tmod 4294967296 = (Z1 : Int) := by rw [Int.tmod_eq_emod_of_nonneg (by omega)]; omega
      obtain ⟨Z2, eZ2⟩ : ∃ z, z = V % 4294967296 := ⟨_, rfl⟩
      have fZ2 : (V : Int).tmod 4294967296 = (Z2 : Int) := by rw [Int.tmod_eq_emod_of_nonneg (by omega)]; omega
      have HM : Hid ((⟨Z1, y.a, y.b, y.c, Z2, y.e, y.f, y.g⟩ : St) = rnds (sch l 64) x (t + 1)) := hide (by
        have h := unhide HN A4 T (by omega) eT
        rw [← h, eZ1, eZ2, eU, eV])
      have hz : ∀ z : Nat, 4294967295 - z = 4294967295 - z := fun _ => rfl
      clear hz HN
      obtain ⟨ne, ene⟩ : ∃ z, z = 4294967295 - y.e := ⟨_, rfl⟩
      rw [← ene] at hsub r2
      clear ene eA1 eA2 eA3 eA4 eT eU eV eZ1 eZ2
      have hlt' : (t : Int) < 64 := by omega
      have hge' : (0 : Int) ≤ (t : Int) := by omega
      go_upto_region 10 with (first
        | (go_at_call_of 105 (Value.int .i64 6); refine (rt_at _ 6 6 ?_ rfl rfl _).mono ?_; assumption; rintro ev w' ⟨rfl, dn, rfl⟩)
        | (go_at_call_of 105 (Value.int .i64 11); refine (rt_at _ 11 11 ?_ rfl rfl _).mono ?_; assumption; rintro ev w' ⟨rfl, dn, rfl⟩)
        | (go_at_call_of 105 (Value.int .i64 25); refine (rt_at _ 25 25 ?_ rfl rfl _).mono ?_; assumption; rintro ev w' ⟨rfl, dn, rfl⟩))
      go_quiet (fail)
      go_wp2_with fail
      go_quiet (fail)
      go_upto_region 15 with (first
        | (go_at_call_of 105 (Value.int .i64 2); refine (rt_at _ 2 2 ?_ rfl rfl _).mono ?_; assumption; rintro ev w' ⟨rfl, dn, rfl⟩)
        | (go_at_call_of 105 (Value.int .i64 13); refine (rt_at _ 13 13 ?_ rfl rfl _).mono ?_; assumption; rintro ev w' ⟨rfl, dn, rfl⟩)
        | (go_at_call_of 105 (Value.int .i64 22); refine (rt_at _ 22 22 ?_ rfl rfl _).mono ?_; assumption; rintro ev w' ⟨rfl, dn, rfl⟩))
      go_quiet (fail)
      go_wp2_with fail
      go_region_held3 (fun w' => w'.cell? ⟨gq, 0, none⟩ = some (.int .i64 (y.a : Int)) ∧ w'.cell? ⟨gq, 1, none⟩ = some (.int .i64 (y.b : Int)) ∧ w'.cell? ⟨gq, 2, none⟩ = some (.int .i64 (y.c : Int)) ∧ w'.cell? ⟨gq, 3, none⟩ = some (.int .i64 (y.d : Int)) ∧ w'.cell? ⟨gq, 4, none⟩ = some (.int .i64 (y.e : Int)) ∧ w'.cell? ⟨gq, 5, none⟩ = some (.int .i64 (y.f : Int)) ∧ w'.cell? ⟨gq, 6, none⟩ = some (.int .i64 (y.g : Int))) (go_keep) (fail)
      go_wp2_with fail
      go_roundw
      case rel =>
        have hsz : w.heap.size ≤ wr.heap.size := Nat.le_trans hB3.size hb.size
        have R1 : ∀ n, OwnI ((wr.alloc (.cells #[.int .i64 (Z1 : Int), .int .i64 (y.a : Int), .int .i64 (y.b : Int), .int .i64 (y.c : Int), .int .i64 (Z2 : Int), .int .i64 (y.e : Int), .int .i64 (y.f : Int), .int .i64 (y.g : Int)] 3)).drewN n) w.heap.size (.slice (some ⟨wr.heap.size, 0, none⟩) 8 8) (St.list ⟨Z1, y.a, y.b, y.c, Z2, y.e, y.f, y.g⟩) := fun n => ownI_new hsz (St.list ⟨Z1, y.a, y.b, y.c, Z2, y.e, y.f, y.g⟩) (by show 8 ≤ 4294967296; decide)
        have R2 : ∀ n, Below w3.heap.size w3 ((wr.alloc (.cells #[.int .i64 (Z1 : Int), .int .i64 (y.a : Int), .int .i64 (y.b : Int), .int .i64 (y.c : Int), .int .i64 (Z2 : Int), .int .i64 (y.e : Int), .int .i64 (y.f : Int), .int .i64 (y.g : Int)] 3)).drewN n) := fun n => below_drewN (hb.alloc hb.size _) n
        first
          | exact ⟨t + 1, wr.heap.size, 8, ⟨Z1, y.a, y.b, y.c, Z2, y.e, y.f, y.g⟩, by omega, by go_num, rfl, R1 _, R2 _, HM⟩
          | ((repeat apply Exists.intro); exact ⟨⟨t + 1, wr.heap.size, 8, ⟨Z1, y.a, y.b, y.c, Z2, y.e, y.f, y.g⟩, by omega, by go_num, rfl, R1 _, R2 _, HM⟩, rfl⟩)
      case measure => simp [intOf]; omega
    · obtain rfl : t = 64 := by omega
      go_wp2_with fail
      have hyo : y.ok := by rw [unhide HY]; exact rnds_ok (unhide HX) 64
      have hgq : w.heap.size ≤ gq := (World.ownsRow.lt hown gq rfl).1
      have hne : gh ≠ gq := by omega
      have hB4 : Below w.heap.size w wr := hB3.trans (hb.mono hB3.size)
      generalize hW1 : wr = W1 at *
      clear hW1 hlt ht
      go_loopw [18] (fun i wr => ∃ k : Nat, k ≤ 8 ∧ i = .int .i64 k ∧ OwnI wr w.heap.size (.slice (some ⟨gq, 0, none⟩) 8 cq) (pl y x k) ∧ Below w.heap.size w wr) (fun i _ => 8 - (intOf i).toNat)
      case atStart => exact ⟨0, by omega, rfl, hown, hB4⟩
      case round =>
        obtain ⟨k, hk, rfl, ho, hbl⟩ := hrel
        by_cases hlt : k < 8
        · have c1 := ownI_cell ho k (by rw [pl_len]; exact hlt)
          have fz := ownI_frozen ho k
          have c2 := ownI_cell (ownI_below hh hbl) k (by show k < 8; exact hlt)
          rw [pl_at _ _ _ hlt] at c1
          have b1 := St.list_lt hyo k
          have b2 := St.list_lt (unhide HX) k
          have HS := hide (pl_set y x k hlt)
          generalize y.list.getD k 0 = a1 at *
          generalize x.list.getD k 0 = a2 at *
          obtain ⟨s1, es⟩ : ∃ z, z = a1 + a2 := ⟨_, rfl⟩
          have f1 : IntKind.i64.wrap ((a1 : Int) + (a2 : Int)) = (s1 : Int) := by rw [show (a1 : Int) + (a2 : Int) = ((s1 : Nat) : Int) from by omega]; exact wrap_i64 _ (by omega)
          obtain ⟨s2, es2⟩ : ∃ z, z = s1 % 4294967296 := ⟨_, rfl⟩
          have f2 : (s1 : Int).tmod 4294967296 = (s2 : Int) := by rw [Int.tmod_eq_emod_of_nonneg (by omega)]; omega
          have HE : Hid (s2 = (a1 + a2) % 4294967296) := hide (by rw [es2, es])
          clear es es2
          have hlt' : (k : Int) < 8 := by omega
          have hge' : (0 : Int) ≤ (k : Int) := by omega
          go_wp2_with fail
          go_region_with (fail)
          all_goals
            go_wp2_with fail
            go_roundw
            case rel =>
              have R1 : ∀ n, OwnI ((wr.setCell ⟨gq, k, none⟩ (.int .i64 (s2 : Int))).drewN n) w.heap.size (.slice (some ⟨gq, 0, none⟩) 8 cq) (pl y x (k + 1)) := fun n => by
                have h := ownI_set ho k s2
                rw [unhide HE, unhide HS] at h
                rw [unhide HE]
                exact h
              have R2 : ∀ n, Below w.heap.size w ((wr.setCell ⟨gq, k, none⟩ (.int .i64 (s2 : Int))).drewN n) := fun n => below_drewN (hbl.setCell hgq _) n
              first
                | exact ⟨k + 1, by omega, by go_num, R1 1, R2 1⟩
                | ((repeat apply Exists.intro); exact ⟨⟨k + 1, by omega, by go_num, R1 1, R2 1⟩, rfl⟩)
            case measure => simp [intOf]; omega
        · obtain rfl : k = 8 := by omega
          go_wp2_with fail
          go_ret
          refine ⟨gq, cq, rfl, ?_, hbl⟩
          have e : pl y x 8 = (mixB x l).list := by
            rw [mixB, ← unhide HY, St.add_comm]; rfl
          rw [← e]; exact ho
end Go.Proofs.YtpiponkhhimaoaaGreatDoor
