import Derived.Test.YtpiponkhhimaoaaGreatDoorDigE
import Derived.WalkSmall
import Derived.OwnWalk
import Derived.Deep.RegionHeld3
import Derived.Deep.AppendLies
import Derived.Test.YtpiponkhhimaoaaGreatDoorRow
import Derived.Deep.DeepCutAuto
namespace Go.Proofs.YtpiponkhhimaoaaGreatDoor
open Go.RowKit

theorem Tryz.info3 : (Tryz.prog.info? 3).map (fun i => (i.zero, i.size, i.bytes)) = some (some (.int .i64 0), 1, 8) := by kernel_rfl
def ints (ws : List Nat) : List Value := ws.map fun (n : Nat) => Value.int .i64 (n : Int)
/-- A row of numbers that the call made. -/
def OwnI (w : World) (B : Nat) (v : Value) (ws : List Nat) : Prop := w.ownsRow B 3 1 v ws.length (ints ws)
theorem ints_one (ws : List Nat) : ∀ u ∈ ints ws, u.oneCell' = true := fun u hu => by
  obtain ⟨n, _, rfl⟩ := List.mem_map.1 hu; rfl

theorem ownI_cell {w : World} {B g n cap : Nat} {ws : List Nat} (h : OwnI w B (.slice (some ⟨g, 0, none⟩) n cap) ws) (k : Nat) (hk : k < ws.length) : w.cell? ⟨g, k, none⟩ = some (.int .i64 ((ws.getD k 0 : Nat) : Int)) := by
  have e : n = ws.length := by
    rcases h.2 with ⟨hv, _⟩ | ⟨_, _, _, hv, _⟩
    · cases hv
    · cases hv; rfl
  subst e
  rw [World.ownsRow.cellAt h k (by simpa using hk)]
  simp [ints, List.getD_eq_getElem?_getD, hk]
theorem ownI_form {w : World} {B : Nat} {v : Value} {ws : List Nat} (h : OwnI w B v ws) (hn : ws ≠ []) : ∃ g cap, v = .slice (some ⟨g, 0, none⟩) ws.length cap ∧ B ≤ g ∧ g < w.heap.size := by
  rcases h.2 with ⟨_, h0⟩ | ⟨g, cap, cur, hv, hb, hg, _⟩
  · exact absurd (List.length_eq_zero_iff.1 h0) hn
  · exact ⟨g, cap, hv, hb, (Array.getElem?_eq_some_iff.1 hg).1⟩
theorem rt_at (x : Nat) (k : Int) (n : Nat) (hx : x < 4294967296) (hkn : k = (n : Int)) (hk : okRot (-(n : Int)) = true) (w : World) :
    Calls Tryz.prog 105 #[.int .i64 x, .int .i64 k] w fun e w' => e = .returned (.int .i64 ((rr x n : Nat) : Int)) ∧ ∃ n, w' = w.drewN n := by
  subst hkn; exact rt_any x n hx hk w
theorem i_sS0 (e : Nat) (he : e < 4294967296) : bits .xor .i64 (bits .xor .i64 ((rr e 7 : Nat) : Int) ((rr e 18 : Nat) : Int)) ((e : Int) / 8) = ((sS0 e : Nat) : Int) := by
  rw [i64_xor_nat _ _ (rr_lt he) (rr_lt he), show (e : Int) / 8 = ((e / 8 : Nat) : Int) from by omega, i64_xor_nat _ _ (xor_lt (rr_lt he) (rr_lt he)) (div_lt he)]; rfl
theorem i_sS1 (e : Nat) (he : e < 4294967296) : bits .xor .i64 (bits .xor .i64 ((rr e 17 : Nat) : Int) ((rr e 19 : Nat) : Int)) ((e : Int) / 1024) = ((sS1 e : Nat) : Int) := by
  rw [i64_xor_nat _ _ (rr_lt he) (rr_lt he), show (e : Int) / 1024 = ((e / 1024 : Nat) : Int) from by omega, i64_xor_nat _ _ (xor_lt (rr_lt he) (rr_lt he)) (div_lt he)]; rfl
theorem ownI_snoc {w : World} {B : Nat} {v : Value} {ws : List Nat} {y : Nat} (h : w.ownsRow B 3 1 v (ws.length + 1) (ints ws ++ [.int .i64 (y : Int)])) : OwnI w B v (ws ++ [y]) := by
  unfold OwnI
  simpa [ints] using h

attribute [local go_sem] setCell_drewN alloc_drewN
attribute [local go_sem] Go.wp_at_zero Go.wp_at_succ

set_option maxHeartbeats 1000000 in
set_option maxRecDepth 100000 in
theorem spread_any (l : List UInt8) (g o cap : Nat) (w : World) (hc : ∀ j, j < 64 → w.cell? ⟨g, o + j, none⟩ = some (.int .u8 ((byt l j : Nat) : Int))) :
    Calls Tryz.prog 103 #[.slice (some ⟨g, o, none⟩) 64 cap] w fun ev w' => ∃ v, ev = .returned v ∧ OwnI w' w.heap.size v (sch l 64) ∧ Below w.heap.size w w' := by
  obtain ⟨i0, hi, hz0, hz1, hz2⟩ := info_parts Tryz.info3
  have HC := hide hc
  have hgl := World.block_lt_of_cell? _ _ (hc 0 (by decide))
  simp only at hgl
  clear hc
  go_enter Tryz.func103, Tryz.ntmps103
  go_wp2
  go_loopw [3, 4] (fun v i wr => ∃ t : Nat, t ≤ 64 ∧ i = .int .i64 t ∧ OwnI wr w.heap.size v (sch l t) ∧ Below w.heap.size w wr)
    (fun _ i _ => 64 - (intOf i).toNat)
  case atStart => exact ⟨0, by omega, rfl, World.ownsRow_nil _ _ _ _, Below.refl _ _⟩
  case round =>
    obtain ⟨t, ht, rfl, hown, hb⟩ := hrel
    by_cases hlt : t < 64
    · by_cases h16 : t < 16
      · have hmul : IntKind.i64.wrap (4 * (t : Int)) = ((4 * t : Nat) : Int) := by rw [show 4 * (t : Int) = ((4 * t : Nat) : Int) from by omega]; exact wrap_i64 _ (by omega)
        have hadd1 : IntKind.i64.wrap (((4 * t : Nat) : Int) + 1) = ((4 * t + 1 : Nat) : Int) := by rw [show ((4 * t : Nat) : Int) + 1 = ((4 * t + 1 : Nat) : Int) from by omega]; exact wrap_i64 _ (by omega)
        have hadd2 : IntKind.i64.wrap (((4 * t : Nat) : Int) + 2) = ((4 * t + 2 : Nat) : Int) := by rw [show ((4 * t : Nat) : Int) + 2 = ((4 * t + 2 : Nat) : Int) from by omega]; exact wrap_i64 _ (by omega)
        have hadd3 : IntKind.i64.wrap (((4 * t : Nat) : Int) + 3) = ((4 * t + 3 : Nat) : Int) := by rw [show ((4 * t : Nat) : Int) + 3 = ((4 * t + 3 : Nat) : Int) from by omega]; exact wrap_i64 _ (by omega)
        have c0 := cell_later hb (unhide HC (4 * t) (by omega))
        have b0 := byt_lt l (4 * t)
        have n0 : (0 : Int) ≤ ((4 * t : Nat) : Int) := by omega
        have m0 : ((4 * t : Nat) : Int) < 64 := by omega
        have c1 := cell_later hb (unhide HC (4 * t + 1) (by omega))
        have b1 := byt_lt l (4 * t + 1)
        have n1 : (0 : Int) ≤ ((4 * t + 1 : Nat) : Int) := by omega
        have m1 : ((4 * t + 1 : Nat) : Int) < 64 := by omega
        have c2 := cell_later hb (unhide HC (4 * t + 2) (by omega))
        have b2 := byt_lt l (4 * t + 2)
        have n2 : (0 : Int) ≤ ((4 * t + 2 : Nat) : Int) := by omega
        have m2 : ((4 * t + 2 : Nat) : Int) < 64 := by omega
        have c3 := cell_later hb (unhide HC (4 * t + 3) (by omega))
        have b3 := byt_lt l (4 * t + 3)
        have n3 : (0 : Int) ≤ ((4 * t + 3 : Nat) : Int) := by omega
        have m3 : ((4 * t + 3 : Nat) : Int) < 64 := by omega
        obtain ⟨x0, e0⟩ : ∃ x, x = byt l (4 * t) := ⟨_, rfl⟩
        rw [← e0] at c0 b0
        obtain ⟨x1, e1⟩ : ∃ x, x = byt l (4 * t + 1) := ⟨_, rfl⟩
        rw [← e1] at c1 b1
        obtain ⟨x2, e2⟩ : ∃ x, x = byt l (4 * t + 2) := ⟨_, rfl⟩
        rw [← e2] at c2 b2
        obtain ⟨x3, e3⟩ : ∃ x, x = byt l (4 * t + 3) := ⟨_, rfl⟩
        rw [← e3] at c3 b3
        have HE := hide (And.intro e0 (And.intro e1 (And.intro e2 e3)))
        clear e0 e1 e2 e3
        obtain ⟨p1, q1⟩ : ∃ p, p = 4 * t + 1 := ⟨_, rfl⟩
        rw [← q1] at c1 n1 m1 hadd1
        obtain ⟨p2, q2⟩ : ∃ p, p = 4 * t + 2 := ⟨_, rfl⟩
        rw [← q2] at c2 n2 m2 hadd2
        obtain ⟨p3, q3⟩ : ∃ p, p = 4 * t + 3 := ⟨_, rfl⟩
        rw [← q3] at c3 n3 m3 hadd3
        obtain ⟨p0, q0⟩ : ∃ p, p = 4 * t := ⟨_, rfl⟩
        rw [← q0] at c0 n0 m0 hmul hadd1 hadd2 hadd3
        have HQ := hide (And.intro q0 (And.intro q1 (And.intro q2 q3)))
        clear q0 q1 q2 q3
        have w1 : IntKind.i64.wrap ((x0 : Int) * 256) = ((x0 * 256 : Nat) : Int) := by rw [show (x0 : Int) * 256 = ((x0 * 256 : Nat) : Int) from by omega]; exact wrap_i64 _ (by omega)
        have w2 : IntKind.i64.wrap (((x0 * 256 : Nat) : Int) + (x1 : Int)) = ((x0 * 256 + x1 : Nat) : Int) := by rw [show ((x0 * 256 : Nat) : Int) + (x1 : Int) = ((x0 * 256 + x1 : Nat) : Int) from by omega]; exact wrap_i64 _ (by omega)
        have w3 : IntKind.i64.wrap (((x0 * 256 + x1 : Nat) : Int) * 256) = (((x0 * 256 + x1) * 256 : Nat) : Int) := by rw [show ((x0 * 256 + x1 : Nat) : Int) * 256 = (((x0 * 256 + x1) * 256 : Nat) : Int) from by omega]; exact wrap_i64 _ (by omega)
        have w4 : IntKind.i64.wrap ((((x0 * 256 + x1) * 256 : Nat) : Int) + (x2 : Int)) = (((x0 * 256 + x1) * 256 + x2 : Nat) : Int) := by rw [show (((x0 * 256 + x1) * 256 : Nat) : Int) + (x2 : Int) = (((x0 * 256 + x1) * 256 + x2 : Nat) : Int) from by omega]; exact wrap_i64 _ (by omega)
        have w5 : IntKind.i64.wrap ((((x0 * 256 + x1) * 256 + x2 : Nat) : Int) * 256) = ((((x0 * 256 + x1) * 256 + x2) * 256 : Nat) : Int) := by rw [show (((x0 * 256 + x1) * 256 + x2 : Nat) : Int) * 256 = ((((x0 * 256 + x1) * 256 + x2) * 256 : Nat) : Int) from by omega]; exact wrap_i64 _ (by omega)
        have w6 : IntKind.i64.wrap (((((x0 * 256 + x1) * 256 + x2) * 256 : Nat) : Int) + (x3 : Int)) = ((wd4 x0 x1 x2 x3 : Nat) : Int) := by rw [show ((((x0 * 256 + x1) * 256 + x2) * 256 : Nat) : Int) + (x3 : Int) = ((wd4 x0 x1 x2 x3 : Nat) : Int) from by unfold wd4; omega]; exact wrap_i64 _ (by unfold wd4; omega)
        obtain ⟨y5, v5⟩ : ∃ y, y = ((x0 * 256 + x1) * 256 + x2) * 256 := ⟨_, rfl⟩
        rw [← v5] at w5 w6
        obtain ⟨y4, v4⟩ : ∃ y, y = (x0 * 256 + x1) * 256 + x2 := ⟨_, rfl⟩
        rw [← v4] at w4 w5
        obtain ⟨y3, v3⟩ : ∃ y, y = (x0 * 256 + x1) * 256 := ⟨_, rfl⟩
        rw [← v3] at w3 w4
        obtain ⟨y2, v2⟩ : ∃ y, y = x0 * 256 + x1 := ⟨_, rfl⟩
        rw [← v2] at w2 w3
        obtain ⟨y1, v1⟩ : ∃ y, y = x0 * 256 := ⟨_, rfl⟩
        rw [← v1] at w1 w2
        obtain ⟨y6, v6⟩ : ∃ y, y = wd4 x0 x1 x2 x3 := ⟨_, rfl⟩
        rw [← v6] at w6
        have HV := hide v6
        clear v1 v2 v3 v4 v5 v6
        have z0 : IntKind.i64.wrap (x0 : Int) = (x0 : Int) := wrap_i64 _ (by omega)
        have z1 : IntKind.i64.wrap (x1 : Int) = (x1 : Int) := wrap_i64 _ (by omega)
        have z2 : IntKind.i64.wrap (x2 : Int) = (x2 : Int) := wrap_i64 _ (by omega)
        have z3 : IntKind.i64.wrap (x3 : Int) = (x3 : Int) := wrap_i64 _ (by omega)
        have hne : u3.ownBlock ≠ some g := fun h => by have := (World.ownsRow.lt hown g h).1; omega
        have hgr : g < wr.heap.size := Nat.lt_of_lt_of_le hgl hb.size
        go_upto_region 6 with fail
        go_region_held3 (fun w' => w'.cell? ⟨g, o + p0, none⟩ = some (.int .u8 (x0 : Int)) ∧ w'.cell? ⟨g, o + p1, none⟩ = some (.int .u8 (x1 : Int)) ∧ w'.cell? ⟨g, o + p2, none⟩ = some (.int .u8 (x2 : Int)) ∧ w'.cell? ⟨g, o + p3, none⟩ = some (.int .u8 (x3 : Int)))
          (first | go_keep | (go_split_ands; refine ⟨?_, ?_, ?_, ?_⟩ <;> (rw [hgrow.cell_far _ (by simp; omega) (Ne.symm hne)]; assumption)))
          ((refine step_append_lies _ (by rfl) _ _ _ (by rfl) w.heap.size 3 i0 _ 1 8 Tryz.underlying123 hi hz0 hz1 hz2 rfl (by omega) _ _ _ (by rfl) ((World.ownsRow.alloc hown _).drew) ⟨wr.heap.size, 0, none⟩ 1 1 [.int .i64 (y6 : Int)] (by rfl) (by rfl) (World.news_of_block (cs := #[.int .i64 (y6 : Int)]) (t := 3) (fr := (0, 0)) (heap_alloc_new wr _)) (by simp [Value.oneCell']) (by omega) (by rw [sch_len]; unfold maxLen; omega) (by rw [sch_len]; omega) (by have := hb.size; simp; omega) (wr.heap.size + 1) (by simp) ?_; intro gg cp w1 hown1 hgrow hat hlt1))
        go_wp2_with fail
        go_roundw
        case rel =>
          have hy : y6 = nxt l (sch l t) t := by
            obtain ⟨a0, a1, a2, a3⟩ := unhide HE
            rw [unhide HV, a0, a1, a2, a3, nxt, if_pos h16]; rfl
          have R1 : OwnI w1 w.heap.size (.slice (some ⟨gg, 0, none⟩) ((sch l t).length + 1) cp) (sch l (t + 1)) := by
            rw [hy] at hown1; exact ownI_snoc hown1
          have R2 : Below w.heap.size w w1 := (Below.drew (hb.alloc hb.size _)).grown hgrow (by have := hb.size; simp; omega) (fun q hq => (World.ownsRow.lt hown q hq).1)
          first
            | exact ⟨t + 1, by omega, by go_num, R1, R2⟩
            | ((repeat apply Exists.intro); exact ⟨⟨t + 1, by omega, by go_num, R1, R2⟩, rfl⟩)
        case measure => simp [intOf]; omega
      · obtain ⟨gv, cv, rfl, hgv, hgvl⟩ := ownI_form hown (by intro e; have := sch_len l t; rw [e] at this; simp at this; omega)
        obtain ⟨p, hp⟩ : ∃ p, p + 15 = t := ⟨t - 15, by omega⟩
        have hwp : IntKind.i64.wrap ((t : Int) - 15) = (p : Int) := by rw [show (t : Int) - 15 = ((p : Nat) : Int) from by omega]; exact wrap_i64 _ (by omega)
        have cp := ownI_cell hown p (by rw [sch_len]; omega)
        obtain ⟨r, hr⟩ : ∃ r, r + 2 = t := ⟨t - 2, by omega⟩
        have hwr : IntKind.i64.wrap ((t : Int) - 2) = (r : Int) := by rw [show (t : Int) - 2 = ((r : Nat) : Int) from by omega]; exact wrap_i64 _ (by omega)
        have cr := ownI_cell hown r (by rw [sch_len]; omega)
        obtain ⟨q, hq⟩ : ∃ q, q + 16 = t := ⟨t - 16, by omega⟩
        have hwq : IntKind.i64.wrap ((t : Int) - 16) = (q : Int) := by rw [show (t : Int) - 16 = ((q : Nat) : Int) from by omega]; exact wrap_i64 _ (by omega)
        have cq := ownI_cell hown q (by rw [sch_len]; omega)
        obtain ⟨u, hu⟩ : ∃ u, u + 7 = t := ⟨t - 7, by omega⟩
        have hwu : IntKind.i64.wrap ((t : Int) - 7) = (u : Int) := by rw [show (t : Int) - 7 = ((u : Nat) : Int) from by omega]; exact wrap_i64 _ (by omega)
        have cu := ownI_cell hown u (by rw [sch_len]; omega)
        have HN : Hid (nxt l (sch l t) t = ((sch l t).getD q 0 + sS0 ((sch l t).getD p 0) + (sch l t).getD u 0 + sS1 ((sch l t).getD r 0)) % 4294967296) := hide (by
          rw [nxt, if_neg (by omega), show t - 16 = q from by omega, show t - 15 = p from by omega, show t - 7 = u from by omega, show t - 2 = r from by omega])
        have hall := sch_lt l t
        have bp := getD_lt hall p
        generalize hxp : (sch l t).getD p 0 = xp at *
        have np : (0 : Int) ≤ (p : Int) := by omega
        have lp : (p : Int) < ((sch l t).length : Int) := by rw [sch_len]; omega
        have br := getD_lt hall r
        generalize hxr : (sch l t).getD r 0 = xr at *
        have nr : (0 : Int) ≤ (r : Int) := by omega
        have lr : (r : Int) < ((sch l t).length : Int) := by rw [sch_len]; omega
        have bq := getD_lt hall q
        generalize hxq : (sch l t).getD q 0 = xq at *
        have nq : (0 : Int) ≤ (q : Int) := by omega
        have lq : (q : Int) < ((sch l t).length : Int) := by rw [sch_len]; omega
        have bu := getD_lt hall u
        generalize hxu : (sch l t).getD u 0 = xu at *
        have nu : (0 : Int) ≤ (u : Int) := by omega
        have lu : (u : Int) < ((sch l t).length : Int) := by rw [sch_len]; omega
        have r0 := i_sS0 xp bp
        have r1 := i_sS1 xr br
        have s0 : sS0 xp < 4294967296 := sS0_lt bp
        have s1 : sS1 xr < 4294967296 := sS1_lt br
        generalize sS0 xp = y0 at *
        generalize sS1 xr = y1 at *
        have a1 : IntKind.i64.wrap ((y0 : Int) + (y1 : Int)) = ((y0 + y1 : Nat) : Int) := by rw [show (y0 : Int) + (y1 : Int) = ((y0 + y1 : Nat) : Int) from by omega]; exact wrap_i64 _ (by omega)
        have a2 : IntKind.i64.wrap (((y0 + y1 : Nat) : Int) + (xu : Int)) = ((y0 + y1 + xu : Nat) : Int) := by rw [show ((y0 + y1 : Nat) : Int) + (xu : Int) = ((y0 + y1 + xu : Nat) : Int) from by omega]; exact wrap_i64 _ (by omega)
        have a3 : IntKind.i64.wrap (((y0 + y1 + xu : Nat) : Int) + (xq : Int)) = ((y0 + y1 + xu + xq : Nat) : Int) := by rw [show ((y0 + y1 + xu : Nat) : Int) + (xq : Int) = ((y0 + y1 + xu + xq : Nat) : Int) from by omega]; exact wrap_i64 _ (by omega)
        obtain ⟨z3, v3⟩ : ∃ z, z = y0 + y1 + xu + xq := ⟨_, rfl⟩
        rw [← v3] at a3
        obtain ⟨z2, v2⟩ : ∃ z, z = y0 + y1 + xu := ⟨_, rfl⟩
        rw [← v2] at a2 a3
        obtain ⟨z1, v1⟩ : ∃ z, z = y0 + y1 := ⟨_, rfl⟩
        rw [← v1] at a1 a2
        obtain ⟨z4, v4⟩ : ∃ z, z = z3 % 4294967296 := ⟨_, rfl⟩
        have a4 : (z3 : Int).tmod 4294967296 = (z4 : Int) := by rw [Int.tmod_eq_emod_of_nonneg (by omega)]; omega
        have HZ : Hid (z4 = nxt l (sch l t) t) := hide (by rw [unhide HN, v4, v3]; congr 1; omega)
        have hgne : (gv : Nat) ≠ g := by omega
        have hlen : Hid ((sch l t).length = t) := hide (sch_len l t)
        clear hxp hxr hxq hxu hp hr hq hu hall v1 v2 v3 v4 HN
        go_upto_region 11 with (first
          | (go_at_call_of 105 (Value.int .i64 7); refine (rt_at _ 7 7 ?_ rfl rfl _).mono ?_; assumption; rintro ev w' ⟨rfl, dn, rfl⟩)
          | (go_at_call_of 105 (Value.int .i64 18); refine (rt_at _ 18 18 ?_ rfl rfl _).mono ?_; assumption; rintro ev w' ⟨rfl, dn, rfl⟩)
          | (go_at_call_of 105 (Value.int .i64 17); refine (rt_at _ 17 17 ?_ rfl rfl _).mono ?_; assumption; rintro ev w' ⟨rfl, dn, rfl⟩)
          | (go_at_call_of 105 (Value.int .i64 19); refine (rt_at _ 19 19 ?_ rfl rfl _).mono ?_; assumption; rintro ev w' ⟨rfl, dn, rfl⟩))
        go_region_held3 (fun w' => w'.cell? ⟨gv, p, none⟩ = some (.int .i64 (xp : Int)) ∧ w'.cell? ⟨gv, r, none⟩ = some (.int .i64 (xr : Int)) ∧ w'.cell? ⟨gv, u, none⟩ = some (.int .i64 (xu : Int)) ∧ w'.cell? ⟨gv, q, none⟩ = some (.int .i64 (xq : Int)))
          (first | go_keep | (go_split_ands; refine ⟨hkeep _ _ ?_ ?_, hkeep _ _ ?_ ?_, hkeep _ _ ?_ ?_, hkeep _ _ ?_ ?_⟩ <;> first | omega | assumption))
          ((refine step_append_row _ (by rfl) _ _ _ (by rfl) w.heap.size 3 i0 _ 8 Tryz.underlying123 hi hz0 hz1 hz2 rfl gv _ cv _ (by rfl) (by exact (World.ownsRow.alloc hown (.cells #[.int .i64 (z4 : Int)] 3))) ⟨wr.heap.size, 0, none⟩ 1 1 [.int .i64 (z4 : Int)] (by rfl) (by rfl) (by exact World.news_of_block (cs := #[.int .i64 (z4 : Int)]) (t := 3) (fr := (0, 0)) (heap_alloc_new wr _)) (by simp [Value.oneCell']) (by omega) (by rw [sch_len]; unfold maxLen; omega) (by rw [sch_len]; omega) (by have := hb.size; simp; omega) ?_; intro gg cp1 w1 hown1 hgrow hkeep))
        go_wp2_with fail
        go_roundw
        case rel =>
          have R1 : OwnI w1 w.heap.size (.slice (some ⟨gg, 0, none⟩) ((sch l t).length + 1) cp1) (sch l (t + 1)) := by
            rw [unhide HZ] at hown1; exact ownI_snoc hown1
          have R2 : Below w.heap.size w w1 := (below_drewN (hb.alloc hb.size _) _).grown hgrow (by have := hb.size; simp; omega) (fun q hq => by cases hq; exact hgv)
          first
            | exact ⟨t + 1, by omega, by go_num, R1, R2⟩
            | ((repeat apply Exists.intro); exact ⟨⟨t + 1, by omega, by go_num, R1, R2⟩, rfl⟩)
        case measure => simp [intOf]; omega
    · obtain rfl : t = 64 := by omega
      go_wp2
      go_ret
      exact ⟨u3, rfl, hown, hb⟩
end Go.Proofs.YtpiponkhhimaoaaGreatDoor
