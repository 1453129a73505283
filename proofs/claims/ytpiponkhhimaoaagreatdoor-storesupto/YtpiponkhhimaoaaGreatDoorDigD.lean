import Derived.Test.YtpiponkhhimaoaaGreatDoorDigC
import Derived.Deep.RegionWith
namespace Go.Proofs.YtpiponkhhimaoaaGreatDoor
open Go.RowKit

/-- Eight words. -/
structure St where
  a : Nat
  b : Nat
  c : Nat
  d : Nat
  e : Nat
  f : Nat
  g : Nat
  q : Nat
def St.list (v : St) : List Nat := [v.a, v.b, v.c, v.d, v.e, v.f, v.g, v.q]
def St.ok (v : St) : Prop := v.a < 4294967296 ∧ v.b < 4294967296 ∧ v.c < 4294967296 ∧ v.d < 4294967296 ∧ v.e < 4294967296 ∧ v.f < 4294967296 ∧ v.g < 4294967296 ∧ v.q < 4294967296
def St.arr (v : St) : Array Value := #[.int .u32 v.a, .int .u32 v.b, .int .u32 v.c, .int .u32 v.d, .int .u32 v.e, .int .u32 v.f, .int .u32 v.g, .int .u32 v.q]
def St.rnd (v : St) (k : Nat) : St := { a := (v.q + bS1 v.e + cho v.e v.f v.g + k + bS0 v.a + maj v.a v.b v.c) % 4294967296, b := v.a, c := v.b, d := v.c, e := (v.d + (v.q + bS1 v.e + cho v.e v.f v.g + k)) % 4294967296, f := v.e, g := v.f, q := v.g }
theorem St.rnd_ok {v : St} (h : v.ok) (k : Nat) : (v.rnd k).ok := by
  obtain ⟨h1, h2, h3, h4, h5, h6, h7, h8⟩ := h
  exact ⟨Nat.mod_lt _ (by decide), h1, h2, h3, Nat.mod_lt _ (by decide), h5, h6, h7⟩
theorem St.rnd_mod (v : St) (k : Nat) : v.rnd (k % 4294967296) = v.rnd k := by
  have h1 : (v.q + bS1 v.e + cho v.e v.f v.g + k % 4294967296 + bS0 v.a + maj v.a v.b v.c) % 4294967296 = (v.q + bS1 v.e + cho v.e v.f v.g + k + bS0 v.a + maj v.a v.b v.c) % 4294967296 := by omega
  have h2 : (v.d + (v.q + bS1 v.e + cho v.e v.f v.g + k % 4294967296)) % 4294967296 = (v.d + (v.q + bS1 v.e + cho v.e v.f v.g + k)) % 4294967296 := by omega
  simp only [St.rnd, h1, h2]
theorem St.arr_u32s (v : St) : v.arr = u32s v.list := rfl

theorem turn_st (v : St) (k : Nat) (hv : v.ok) (hk : k < 4294967296) (w : World) :
    Calls Tryz.prog 193 #[.agg v.arr, .int .u32 k] w fun ev w' => ev = .returned (.agg (v.rnd k).arr) ∧ Below w.heap.size w w' := by
  obtain ⟨h1, h2, h3, h4, h5, h6, h7, h8⟩ := hv
  refine (turn_any v.a v.b v.c v.d v.e v.f v.g v.q k h1 h2 h3 h4 h5 h6 h7 h8 hk w).mono ?_
  rintro ev w' ⟨rfl, hb⟩
  exact ⟨rfl, hb⟩

theorem arr_size (v : St) : v.arr.size = 8 := rfl
theorem arr_one (v : St) : v.arr.all (·.oneCell') = true := by
  rw [St.arr_u32s]; exact u32s_one _
theorem info88 : (Tryz.prog.info? 241).map (·.size) = some 8 := by kernel_rfl

/-- The constants of the rounds lie in their variable. -/
def Ks : List Nat := [1116352408, 1899447441, 3049323471, 3921009573, 961987163, 1508970993, 2453635748, 2870763221, 3624381080, 310598401, 607225278, 1426881987, 1925078388, 2162078206, 2614888103, 3248222580, 3835390401, 4022224774, 264347078, 604807628, 770255983, 1249150122, 1555081692, 1996064986, 2554220882, 2821834349, 2952996808, 3210313671, 3336571891, 3584528711, 113926993, 338241895, 666307205, 773529912, 1294757372, 1396182291, 1695183700, 1986661051, 2177026350, 2456956037, 2730485921, 2820302411, 3259730800, 3345764771, 3516065817, 3600352804, 4094571909, 275423344, 430227734, 506948616, 659060556, 883997877, 958139571, 1322822218, 1537002063, 1747873779, 1955562222, 2024104815, 2227730452, 2361852424, 2428436474, 2756734187, 3204031479, 3329325298]
def KsLie (w : World) : Prop := ∀ i, i < 64 → w.cell? ⟨1, i, none⟩ = some (.int .u32 ((Ks.getD i 0 : Nat) : Int))
theorem KsLie.below {w w' : World} (h : KsLie w) (hb : Below w.heap.size w w') : KsLie w' := fun i hi => cell_later hb (h i hi)
theorem Ks_lt (i : Nat) : Ks.getD i 0 < 4294967296 := getD_lt (by decide) i

/-- The state behind so many rounds. -/
def rnds (ws : List Nat) (v : St) : Nat → St
  | 0 => v
  | t + 1 => (rnds ws v t).rnd (ws.getD t 0 + Ks.getD t 0)
theorem rnds_ok {ws : List Nat} {v : St} (h : v.ok) : ∀ t, (rnds ws v t).ok
  | 0 => h
  | t + 1 => St.rnd_ok (rnds_ok h t) _

attribute [local go_sem] setCell_drewN alloc_drewN
attribute [local go_sem] Go.wp_at_zero Go.wp_at_succ

theorem turn_at (x : St) (k : Int) (n : Nat) (hx : x.ok) (hk : k = (n : Int) % 4294967296) (w : World) :
    Calls Tryz.prog 193 #[.agg #[.int .u32 x.a, .int .u32 x.b, .int .u32 x.c, .int .u32 x.d, .int .u32 x.e, .int .u32 x.f, .int .u32 x.g, .int .u32 x.q], .int .u32 k] w fun ev w' => ∃ y : St, ev = .returned (.agg #[.int .u32 y.a, .int .u32 y.b, .int .u32 y.c, .int .u32 y.d, .int .u32 y.e, .int .u32 y.f, .int .u32 y.g, .int .u32 y.q]) ∧ Hid (y = x.rnd n) ∧ Below w.heap.size w w' := by
  have hk' : k = ((n % 4294967296 : Nat) : Int) := by omega
  subst hk'
  refine (turn_st x (n % 4294967296) hx (Nat.mod_lt _ (by decide)) w).mono ?_
  rintro ev w' ⟨rfl, hb⟩
  exact ⟨x.rnd n, by rw [St.rnd_mod]; rfl, hide rfl, hb⟩
theorem cells8 {w : World} {g : Nat} {t : TypeId} {x : St} (h : w.heap[g]? = some (.cells x.arr t (0, 0))) :
    (w.cell? ⟨g, 0, none⟩ = some (.int .u32 x.a) ∧ w.cell? ⟨g, 1, none⟩ = some (.int .u32 x.b) ∧ w.cell? ⟨g, 2, none⟩ = some (.int .u32 x.c) ∧ w.cell? ⟨g, 3, none⟩ = some (.int .u32 x.d) ∧ w.cell? ⟨g, 4, none⟩ = some (.int .u32 x.e) ∧ w.cell? ⟨g, 5, none⟩ = some (.int .u32 x.f) ∧ w.cell? ⟨g, 6, none⟩ = some (.int .u32 x.g) ∧ w.cell? ⟨g, 7, none⟩ = some (.int .u32 x.q)) ∧ ∀ j, w.frozen? ⟨g, j, none⟩ = false := by
  refine ⟨?_, fun j => frozen_of_row w g j _ _ h⟩
  refine ⟨?_, ?_, ?_, ?_, ?_, ?_, ?_, ?_⟩ <;> (rw [cell_of_row w g _ _ t _ h]; rfl)
theorem block8 {w : World} {g : Nat} {t : TypeId} {x : St} (y : St) (h : w.heap[g]? = some (.cells x.arr t (0, 0))) :
    ((((((((w.setCell ⟨g, 0, none⟩ (.int .u32 y.a)).setCell ⟨g, 1, none⟩ (.int .u32 y.b)).setCell ⟨g, 2, none⟩ (.int .u32 y.c)).setCell ⟨g, 3, none⟩ (.int .u32 y.d)).setCell ⟨g, 4, none⟩ (.int .u32 y.e)).setCell ⟨g, 5, none⟩ (.int .u32 y.f)).setCell ⟨g, 6, none⟩ (.int .u32 y.g)).setCell ⟨g, 7, none⟩ (.int .u32 y.q)).heap[g]? = some (.cells y.arr t (0, 0)) :=
  heap_setCells_all (cs := y.arr) h rfl
theorem below8 {w a : World} {g B : Nat} (y : St) (h : Below B a w) (hg : B ≤ g) :
    Below B a ((((((((w.setCell ⟨g, 0, none⟩ (.int .u32 y.a)).setCell ⟨g, 1, none⟩ (.int .u32 y.b)).setCell ⟨g, 2, none⟩ (.int .u32 y.c)).setCell ⟨g, 3, none⟩ (.int .u32 y.d)).setCell ⟨g, 4, none⟩ (.int .u32 y.e)).setCell ⟨g, 5, none⟩ (.int .u32 y.f)).setCell ⟨g, 6, none⟩ (.int .u32 y.g)).setCell ⟨g, 7, none⟩ (.int .u32 y.q)) :=
  below_setCells (g := g) hg y.arr.toList 0 w h
/-- The words of a state, so many of them added to another one's. -/
def pl (v y : St) (k : Nat) : List Nat := (List.range 8).map fun i => if i < k then (v.list.getD i 0 + y.list.getD i 0) % 4294967296 else v.list.getD i 0
theorem pl_len (v y : St) (k : Nat) : (pl v y k).length = 8 := by simp [pl]
theorem pl_zero (v y : St) : u32s (pl v y 0) = v.arr := rfl
theorem pl_at (v y : St) (k : Nat) (h : k < 8) : (pl v y k).getD k 0 = v.list.getD k 0 := by
  simp [pl, List.getD_eq_getElem?_getD, h]
theorem pl_succ (v y : St) (k : Nat) (h : k < 8) : (u32s (pl v y k)).setIfInBounds k (.int .u32 (((v.list.getD k 0 + y.list.getD k 0) % 4294967296 : Nat) : Int)) = u32s (pl v y (k + 1)) := by
  match k, h with
  | 0, _ => rfl
  | 1, _ => rfl
  | 2, _ => rfl
  | 3, _ => rfl
  | 4, _ => rfl
  | 5, _ => rfl
  | 6, _ => rfl
  | 7, _ => rfl
def St.add (v y : St) : St := { a := (v.a + y.a) % 4294967296, b := (v.b + y.b) % 4294967296, c := (v.c + y.c) % 4294967296, d := (v.d + y.d) % 4294967296, e := (v.e + y.e) % 4294967296, f := (v.f + y.f) % 4294967296, g := (v.g + y.g) % 4294967296, q := (v.q + y.q) % 4294967296 }
theorem pl_all (v y : St) : u32s (pl v y 8) = (v.add y).arr := rfl
theorem St.add_ok (v y : St) : (v.add y).ok := ⟨Nat.mod_lt _ (by decide), Nat.mod_lt _ (by decide), Nat.mod_lt _ (by decide), Nat.mod_lt _ (by decide), Nat.mod_lt _ (by decide), Nat.mod_lt _ (by decide), Nat.mod_lt _ (by decide), Nat.mod_lt _ (by decide)⟩
/-- What a block of 64 bytes makes of the state. -/
def mixB (v : St) (l : List UInt8) : St := v.add (rnds (sch l 64) v 64)
theorem after_store {w1 W3 : World} {Z U : Array Value} {t : TypeId} (h : (w1.alloc (.cells Z t)).setCells w1.heap.size 0 U.toList = W3) (hs : U.size = Z.size) : W3.heap[w1.heap.size]? = some (.cells U t (0, 0)) ∧ Below w1.heap.size w1 W3 ∧ w1.heap.size < W3.heap.size := by
  subst h
  have hb := below_setCells (B := w1.heap.size) (g := w1.heap.size) (Nat.le_refl _) U.toList 0 (w1.alloc (.cells Z t)) ((Below.refl _ _).alloc (Nat.le_refl _) _)
  have hh := heap_setCells_all (cs := U) (heap_alloc_new w1 (.cells Z t)) hs
  exact ⟨hh, hb, (Array.getElem?_eq_some_iff.1 hh).1⟩

set_option maxHeartbeats 1000000 in
set_option maxRecDepth 100000 in
theorem mix_any (v : St) (hv : v.ok) (s : ByteArray) (hs : s.size = 64) (w : World) (hK : KsLie w) :
    Calls Tryz.prog 179 #[.agg v.arr, .string s] w fun ev w' => ev = .returned (.agg (mixB v s.data.toList).arr) ∧ Below w.heap.size w w' := by
  have h1w : 1 < w.heap.size := World.block_lt_of_cell? _ _ (hK 0 (by decide))
  go_enter Tryz.func179, Tryz.ntmps179
  go_wp2_with fail
  refine (schedule_any _ hs _).mono ?_
  rintro ev w1 ⟨rfl, hb1⟩
  have hs1 : w1.heap[w.heap.size]? = some (.cells v.arr 241 (0, 0)) := (hb1.block _ (by simp; omega)).trans (heap_alloc2_old _ _ _)
  have hr1 : w1.heap[w.heap.size + 1]? = some (.cells (St.arr ⟨0, 0, 0, 0, 0, 0, 0, 0⟩) 241 (0, 0)) := (hb1.block _ (by simp)).trans (heap_alloc2_new _ _ _)
  have hsz1 : w.heap.size + 1 < w1.heap.size := by have := hb1.size; simp at this; omega
  have hB1 : Below w.heap.size w w1 := (((Below.refl _ _).alloc (Nat.le_refl _) _).alloc (by simp) _).trans (hb1.mono (by simp; omega))
  clear hb1
  have hUs : (u32s (sch s.data.toList 64)).size = 64 := by rw [u32s_size, sch_len]
  have hon := u32s_one (sch s.data.toList 64)
  have hin : (Tryz.prog.info? 277).map (·.size) = some (u32s (sch s.data.toList 64)).size := by rw [hUs]; kernel_rfl
  have hin8 : (Tryz.prog.info? 241).map (·.size) = some v.arr.size := info88
  have hon8 := arr_one v
  generalize hU : u32s (sch s.data.toList 64) = U at *
  have HU := hide hU
  have HUs := hide hUs
  clear hU hUs
  go_wp2_with (first
    | (refine wpList_store_mid rfl 277 (.tmp 5) (.tmp 10) rfl w1.heap.size 0 U rfl rfl (there_all (heap_alloc_new _ _) _ (by rw [unhide HUs]; exact Nat.le_refl 64)) hin hon ?_; generalize hW3 : World.setCells _ _ _ _ = W3; obtain ⟨h35, hb3, hz3⟩ := after_store hW3 (by rw [unhide HUs]; rfl); clear hW3; have hs3 := (hb3.block _ (by omega)).trans hs1)
    | (refine wpList_load_row rfl 241 (.tmp 2) rfl w.heap.size rfl 241 v.arr (0, 0) _ hs3 Tryz.underlying241 rfl hin8 ?_)
    | (refine wpList_store_mid rfl 241 (.tmp 6) (.tmp 11) rfl W3.heap.size 0 v.arr rfl rfl (there_all (heap_alloc_new _ _) _ (by exact Nat.le_refl 8)) hin8 hon8 ?_; generalize hW5 : World.setCells _ _ _ _ = W5; obtain ⟨h56, hb5, hz5⟩ := after_store hW5 rfl; clear hW5))
  have hB5 : Below w.heap.size w W5 := (hB1.trans (hb3.mono (by omega))).trans (hb5.mono (by omega))
  have h55 : W5.heap[w1.heap.size]? = some (.cells U 277 (0, 0)) := (hb5.block _ hz3).trans h35
  have hs5 : W5.heap[w.heap.size]? = some (.cells v.arr 241 (0, 0)) := (hb5.block _ (by omega)).trans hs3
  have hr5 : W5.heap[w.heap.size + 1]? = some (.cells (St.arr ⟨0, 0, 0, 0, 0, 0, 0, 0⟩) 241 (0, 0)) := (hb5.block _ (by omega)).trans ((hb3.block _ (by omega)).trans hr1)
  have HK := hide (hK.below hB5)
  have HW := hide (sch_lt s.data.toList 64)
  clear hs1 hr1 hs3 h35 hB1 hb3 hb5 hK hin hon
  go_loopw [12] (fun i wr => ∃ (k : Nat) (x : St), k ≤ 64 ∧ i = .int .i64 k ∧ Hid x.ok ∧ wr.heap[W3.heap.size]? = some (.cells x.arr 241 (0, 0)) ∧ Below W3.heap.size W5 wr ∧ Hid (x = rnds (sch s.data.toList 64) v k)) (fun i _ => 64 - (intOf i).toNat)
  case atStart => exact ⟨0, v, by omega, rfl, hide hv, h56, Below.refl _ _, hide rfl⟩
  case round =>
    obtain ⟨k, x, hk, rfl, HX, hblk, hbl, HR⟩ := hrel
    by_cases hlt : k < 64
    · obtain ⟨⟨c0, c1, c2, c3, c4, c5, c6, c7⟩, fz⟩ := cells8 hblk
      have hwk : wr.cell? ⟨w1.heap.size, k, none⟩ = some (.int .u32 (((sch s.data.toList 64).getD k 0 : Nat) : Int)) := by
        rw [hbl.cell (p := ⟨w1.heap.size, k, none⟩) hz3]
        exact cell_u32 (h55.trans (by rw [unhide HU])) k (by rw [sch_len]; exact hlt)
      have hkk : wr.cell? ⟨1, k, none⟩ = some (.int .u32 ((Ks.getD k 0 : Nat) : Int)) := by
        rw [hbl.cell (p := ⟨1, k, none⟩) (by show 1 < W3.heap.size; omega)]
        exact (unhide HK) k hlt
      have hk0 : (0 : Int) ≤ (k : Int) := by omega
      have hk64 : (k : Int) < 64 := by omega
      have hzr : W3.heap.size < wr.heap.size := (Array.getElem?_eq_some_iff.1 hblk).1
      go_wp2_with fail
      go_region_with (first
        | (go_at_call 193; refine (turn_at x _ ((sch s.data.toList 64).getD k 0 + Ks.getD k 0) (unhide HX) ?_ _).mono ?_; (first | rfl | (rw [IntKind.wrap_u32']; omega) | omega); rintro ev w6 ⟨y, rfl, HY, hb6⟩; obtain ⟨⟨d0, d1, d2, d3, d4, d5, d6, d7⟩, fz6⟩ := cells8 ((hb6.block W3.heap.size (by simpa using hzr)).trans hblk); have HB6 := hide hb6; clear hb6))
      all_goals
        go_wp2
        go_roundw
        case rel =>
          have R1 : y.ok := by rw [unhide HY]; exact St.rnd_ok (unhide HX) _
          have R2 : y = rnds (sch s.data.toList 64) v (k + 1) := by rw [unhide HY, unhide HR]; rfl
          have h6 := (unhide HB6).mono (B' := W3.heap.size) (by simpa using Nat.le_of_lt hzr)
          have R3 : Below W3.heap.size W5 w6 := ⟨h6.os.trans hbl.os, h6.tape.trans hbl.tape, h6.output.trans hbl.output, Nat.le_trans hbl.size h6.size, fun j hj => (h6.block j hj).trans (hbl.block j hj)⟩
          have R4 : w6.heap[W3.heap.size]? = some (.cells x.arr 241 (0, 0)) := ((unhide HB6).block W3.heap.size (by simpa using hzr)).trans hblk
          first
            | exact ⟨k + 1, y, by omega, by go_num, hide R1, block8 y R4, below8 y R3 (Nat.le_refl _), hide R2⟩
            | ((repeat apply Exists.intro); exact ⟨⟨k + 1, y, by omega, by go_num, hide R1, block8 y R4, below8 y R3 (Nat.le_refl _), hide R2⟩, rfl⟩)
        case measure => simp [intOf]; omega
    · obtain rfl : k = 64 := by omega
      have hs6 : wr.heap[w.heap.size]? = some (.cells v.arr 241 (0, 0)) := (hbl.block _ (by omega)).trans hs5
      have hr6 : wr.heap[w.heap.size + 1]? = some (.cells (St.arr ⟨0, 0, 0, 0, 0, 0, 0, 0⟩) 241 (0, 0)) := (hbl.block _ (by omega)).trans hr5
      have hB6 : Below w.heap.size w wr := hB5.trans (hbl.mono (by omega))
      have hne : W3.heap.size ≠ w.heap.size := by omega
      have hne1 : w.heap.size + 1 ≠ w.heap.size := by omega
      have HNE := hide hne
      have HNE1 := hide hne1
      clear hne hne1 hs5 hr5 hB5 hbl h55 hin8 hon8
      go_wp2_with fail
      generalize hW7 : wr = W7 at *
      clear hW7
      go_loopw [25] (fun i wr => ∃ k : Nat, k ≤ 8 ∧ i = .int .i64 k ∧ wr.heap[w.heap.size]? = some (.cells (u32s (pl v x k)) 241 (0, 0)) ∧ wr.heap[W3.heap.size]? = some (.cells x.arr 241 (0, 0)) ∧ wr.heap[w.heap.size + 1]? = some (.cells (St.arr ⟨0, 0, 0, 0, 0, 0, 0, 0⟩) 241 (0, 0)) ∧ Below w.heap.size w wr) (fun i _ => 8 - (intOf i).toNat)
      case atStart => exact ⟨0, by omega, rfl, hs6, hblk, hr6, hB6⟩
      case round =>
        obtain ⟨k, hk2, rfl, g1, g2, g3, g4⟩ := hrel
        by_cases hlt : k < 8
        · have ca := cell_u32 g1 k (by rw [pl_len]; exact hlt)
          rw [pl_at v x k hlt] at ca
          have cb : wr.cell? ⟨W3.heap.size, k, none⟩ = some (.int .u32 ((x.list.getD k 0 : Nat) : Int)) := cell_u32 (ws := x.list) g2 k hlt
          have fa := frozen_of_row wr w.heap.size k _ _ g1
          have hk0 : (0 : Int) ≤ (k : Int) := by omega
          have hk8 : (k : Int) < 8 := by omega
          have G1 := hide g1
          have G2 := hide g2
          have G3 := hide g3
          clear g1 g2 g3
          have HS := hide (pl_succ v x k hlt)
          generalize v.list.getD k 0 = va at *
          generalize x.list.getD k 0 = xa at *
          have R : Hid (∀ (z : Int), z = (((va + xa) % 4294967296 : Nat) : Int) → (wr.setCell ⟨w.heap.size, k, none⟩ (.int .u32 z)).heap[w.heap.size]? = some (.cells (u32s (pl v x (k + 1))) 241 (0, 0)) ∧ (wr.setCell ⟨w.heap.size, k, none⟩ (.int .u32 z)).heap[W3.heap.size]? = some (.cells x.arr 241 (0, 0)) ∧ (wr.setCell ⟨w.heap.size, k, none⟩ (.int .u32 z)).heap[w.heap.size + 1]? = some (.cells (St.arr ⟨0, 0, 0, 0, 0, 0, 0, 0⟩) 241 (0, 0)) ∧ Below w.heap.size w (wr.setCell ⟨w.heap.size, k, none⟩ (.int .u32 z))) := hide (fun z hz => by
            subst hz
            refine ⟨?_, ?_, ?_, g4.setCell (Nat.le_refl _) _⟩
            · rw [heap_setCell_same _ _ _ _ _ _ (unhide G1), unhide HS]
            · rw [heap_setCell_other _ _ _ _ (unhide HNE)]; exact unhide G2
            · rw [heap_setCell_other _ _ _ _ (unhide HNE1)]; exact unhide G3)
          go_wp2_with fail
          go_region
          go_wp2
          go_roundw
          case rel =>
            exact ⟨k + 1, by omega, by go_num, (unhide R _ (by first | rfl | omega | (rw [IntKind.wrap_u32']; omega))).1, (unhide R _ (by first | rfl | omega | (rw [IntKind.wrap_u32']; omega))).2.1, (unhide R _ (by first | rfl | omega | (rw [IntKind.wrap_u32']; omega))).2.2.1, Below.drew (unhide R _ (by first | rfl | omega | (rw [IntKind.wrap_u32']; omega))).2.2.2⟩
          case measure => simp [intOf]; omega
        · obtain rfl : k = 8 := by omega
          rw [pl_all] at g1
          have hin8 : (Tryz.prog.info? 241).map (·.size) = some (v.add x).arr.size := info88
          have hon8 := arr_one (v.add x)
          have hth := there_all g3 (v.add x).arr.size (Nat.le_refl 8)
          have hfin : Hid ((wr.setCells (w.heap.size + 1) 0 (v.add x).arr.toList).heap[w.heap.size + 1]? = some (.cells (v.add x).arr 241 (0, 0))) := hide (heap_setCells_all g3 rfl)
          have hbel : Hid (Below w.heap.size w (wr.setCells (w.heap.size + 1) 0 (v.add x).arr.toList)) := hide (below_setCells (Nat.le_succ _) _ _ _ g4)
          have hval : Hid (v.add x = mixB v s.data.toList) := hide (by rw [unhide HR]; rfl)
          clear g3 g2
          generalize hA : v.add x = A at *
          clear hA
          go_wp2_with (first
            | (refine wpList_load_row rfl 241 (.tmp 2) rfl w.heap.size rfl 241 A.arr (0, 0) _ g1 Tryz.underlying241 rfl hin8 ?_)
            | (refine wpList_store_mid rfl 241 (.tmp 4) (.tmp 37) rfl (w.heap.size + 1) 0 A.arr rfl rfl hth hin8 hon8 ?_))
          refine bodyPost_ret (v := .agg A.arr) (results_cell_row Tryz.results179 _ _ (w.heap.size + 1) 241 A.arr (0, 0) _ rfl (unhide hfin) Tryz.underlying241 rfl hin8) rfl ⟨?_, unhide hbel⟩
          rw [unhide hval]
end Go.Proofs.YtpiponkhhimaoaaGreatDoor
