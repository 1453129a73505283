import Derived.Test.YtpiponkhhimaoaaGreatDoorDigB
import Derived.Deep.RegionHeld3
import Derived.Deep.DrawnRows
namespace Go.Proofs.YtpiponkhhimaoaaGreatDoor
open Go.RowKit

theorem u32s_size (v : List Nat) : (u32s v).size = v.length := by simp [u32s]
theorem u32s_get (v : List Nat) (i : Nat) (h : i < v.length) : (u32s v)[i]? = some (.int .u32 ((v.getD i 0 : Nat) : Int)) := by
  simp [u32s, List.getD_eq_getElem?_getD, h]
/-- So many words, then noughts: the array of 64 while it is filled. -/
def pad64 (ws : List Nat) : List Nat := ws ++ List.replicate (64 - ws.length) 0
theorem pad64_len (ws : List Nat) (h : ws.length ≤ 64) : (pad64 ws).length = 64 := by simp [pad64]; omega
theorem pad64_get (ws : List Nat) (i : Nat) (h : i < ws.length) : (pad64 ws).getD i 0 = ws.getD i 0 := by
  simp [pad64, List.getD_eq_getElem?_getD, List.getElem?_append_left h]
theorem pad64_set (ws : List Nat) (n : Nat) (h : ws.length < 64) : (u32s (pad64 ws)).setIfInBounds ws.length (.int .u32 (n : Int)) = u32s (pad64 (ws ++ [n])) := by
  obtain ⟨m, hm⟩ : ∃ m, 64 - ws.length = m + 1 := ⟨63 - ws.length, by omega⟩
  have hm' : 64 - (ws ++ [n]).length = m := by simp; omega
  simp only [u32s, pad64, hm, hm', List.setIfInBounds_toArray, List.replicate_succ]
  congr 1
  simp [List.set_append_right]
theorem pad64_full (ws : List Nat) (h : ws.length = 64) : pad64 ws = ws := by simp [pad64, h]

/-- A block of this many words, as one knows it whole. -/
theorem cell_u32 {w : World} {g : Nat} {ws : List Nat} {t : TypeId} (h : w.heap[g]? = some (.cells (u32s ws) t (0, 0))) (i : Nat) (hi : i < ws.length) : w.cell? ⟨g, i, none⟩ = some (.int .u32 ((ws.getD i 0 : Nat) : Int)) := by
  rw [cell_of_row w g i _ t _ h, u32s_get ws i hi]

theorem keep_other {W : World} {a b : Addr} {v u : Value} {n : Nat} (h : a ≠ b) (hc : W.cell? b = some u) : ((W.setCell a v).drewN n).cell? b = some u := by
  rw [World.cell?_drewN, World.cell?_setCell_other]
  · exact hc
  · exact h
theorem heap_setCells_at {g : Nat} {t : TypeId} : ∀ (vs : List Value) (o : Nat) (old : Array Value) (w : World), w.heap[g]? = some (.cells old t (0, 0)) → o + vs.length ≤ old.size →
    (w.setCells g o vs).heap[g]? = some (.cells (old.toList.take o ++ vs ++ old.toList.drop (o + vs.length)).toArray t (0, 0))
  | [], o, old, w, h, _ => by simp [World.setCells, h]
  | v :: r, o, old, w, h, hl => by
    have hl' : o + 1 + r.length ≤ old.size := by simp at hl; omega
    rw [World.setCells, heap_setCells_at r (o + 1) _ _ (heap_setCell_same w g o old t v h) (by simpa using hl')]
    have ho : o < old.toList.length := by simp; omega
    congr 3
    rw [Array.toList_setIfInBounds, List.take_set, List.drop_set_of_lt (by omega), List.take_succ_eq_append_getElem ho]
    have e : (old.toList.take o).length = o := by rw [List.length_take, Nat.min_eq_left (by omega)]
    rw [List.set_append_right _ _ (by omega), e, Nat.sub_self]
    simp [Nat.add_assoc, Nat.add_comm 1]
theorem heap_setCells_all {g : Nat} {t : TypeId} {cs old : Array Value} {w : World} (h : w.heap[g]? = some (.cells old t (0, 0))) (hs : cs.size = old.size) : (w.setCells g 0 cs.toList).heap[g]? = some (.cells cs t (0, 0)) := by
  rw [heap_setCells_at cs.toList 0 old w h (by simp; omega)]
  rw [List.drop_of_length_le (by simp; omega)]
  simp
theorem below_setCells {B : Nat} {a : World} {g : Nat} (hg : B ≤ g) : ∀ (vs : List Value) (o : Nat) (w : World), Below B a w → Below B a (w.setCells g o vs)
  | [], _, _, h => h
  | v :: r, o, w, h => below_setCells hg r (o + 1) _ (h.setCell (by exact hg) v)
theorem there_all {w : World} {g : Nat} {t : TypeId} {old : Array Value} (h : w.heap[g]? = some (.cells old t (0, 0))) (n : Nat) (hn : n ≤ old.size) : w.there g 0 n := fun j hj => by
  refine ⟨?_, frozen_of_row w g _ _ _ h⟩
  rw [cell_of_row w g _ _ t _ h, Nat.zero_add, Array.getElem?_eq_getElem (by omega)]; rfl
theorem u32s_one (v : List Nat) : (u32s v).all (·.oneCell') = true := by
  unfold u32s
  apply all_oneCell_toArray
  intro x hx
  obtain ⟨n, _, rfl⟩ := List.mem_map.1 hx
  rfl
theorem wrap3 (a b c d : Nat) : IntKind.u32.wrap (IntKind.u32.wrap (IntKind.u32.wrap ((a : Int) + (b : Int)) + (c : Int)) + (d : Int)) = (((a + b + c + d) % 4294967296 : Nat) : Int) := by
  rw [IntKind.wrap_u32', IntKind.wrap_u32', IntKind.wrap_u32']; omega
theorem r_sS0 (e : Nat) (he : e < 4294967296) : bits .xor .u32 (bits .xor .u32 ((rr e (rotN (-7)) : Nat) : Int) ((rr e (rotN (-18)) : Nat) : Int)) ((e : Int) / 8) = ((sS0 e : Nat) : Int) := by
  rw [show (e : Int) / 8 = ((e / 8 : Nat) : Int) from by omega, u32_xor_nat _ _ (rr_lt he) (rr_lt he), u32_xor_nat _ _ (xor_lt (rr_lt he) (rr_lt he)) (div_lt he)]; rfl
theorem r_sS1 (e : Nat) (he : e < 4294967296) : bits .xor .u32 (bits .xor .u32 ((rr e (rotN (-17)) : Nat) : Int) ((rr e (rotN (-19)) : Nat) : Int)) ((e : Int) / 1024) = ((sS1 e : Nat) : Int) := by
  rw [show (e : Int) / 1024 = ((e / 1024 : Nat) : Int) from by omega, u32_xor_nat _ _ (rr_lt he) (rr_lt he), u32_xor_nat _ _ (xor_lt (rr_lt he) (rr_lt he)) (div_lt he)]; rfl

attribute [local go_sem] setCell_drewN alloc_drewN
attribute [local go_sem] Go.wp_at_zero Go.wp_at_succ

set_option maxHeartbeats 2000000 in
set_option maxRecDepth 100000 in
theorem schedule_any (s : ByteArray) (hs : s.size = 64) (w : World) :
    Calls Tryz.prog 192 #[.string s] w fun ev w' => ev = .returned (.agg (u32s (sch s.data.toList 64))) ∧ Below w.heap.size w w' := by
  go_enter Tryz.func192, Tryz.ntmps192
  go_wp2
  generalize hW0 : (w.alloc _).alloc _ = W0
  have hb0 : W0.heap[w.heap.size + 1]? = some (.cells (u32s (pad64 [])) 277 (0, 0)) := by rw [← hW0]; exact heap_alloc2_new _ _ _
  have hr0 : W0.heap[w.heap.size]? = some (.cells (u32s (pad64 [])) 277 (0, 0)) := by rw [← hW0]; exact heap_alloc2_old _ _ _
  have hB0 : Below w.heap.size w W0 := by rw [← hW0]; exact ((Below.refl _ _).alloc (Nat.le_refl _) _).alloc (by simp) _
  clear hW0
  go_loopw [10] (fun i wr => ∃ k : Nat, k ≤ 16 ∧ i = .int .i64 k ∧ wr.heap[w.heap.size + 1]? = some (.cells (u32s (pad64 (sch s.data.toList k))) 277 (0, 0)) ∧ Below (w.heap.size + 1) W0 wr) (fun i _ => 16 - (intOf i).toNat)
  case atStart => exact ⟨0, by omega, rfl, hb0, Below.refl _ _⟩
  case round =>
    obtain ⟨k, hk, rfl, hblk, hbl⟩ := hrel
    have hlen := sch_len s.data.toList k
    by_cases hlt : k < 16
    · have hcell := cell_u32 hblk k (by rw [pad64_len _ (by omega)]; omega)
      have hfz := frozen_of_row wr (w.heap.size + 1) k _ _ hblk
      have HN := hide hlen
      have HV : Hid (wdl (List.take 4 (List.drop (4 * k) s.data.toList)) 0 = nxt s.data.toList (sch s.data.toList k) k) := hide (by
        rw [nxt, if_pos hlt, wdl_take_drop _ _ _ _ (by omega)]; rfl)
      have hsz : 4 ≤ (s.extract (4 * k) (4 * k + 4)).size := by rw [ByteArray.size_extract]; omega
      clear hlen
      go_wp2_with (go_at_call 210; refine (word_any _ (by rw [ByteArray.size_extract]; omega) _).mono ?_; rintro ev w' ⟨rfl, q, rfl⟩)
      go_roundw
      case rel => exact ⟨k + 1, by omega, by go_num, by
        show (wr.setCell _ _).heap[_]? = _
        rw [heap_setCell_same _ _ _ _ _ _ hblk, unhide HV, sch]
        have := pad64_set (sch s.data.toList k) (nxt s.data.toList (sch s.data.toList k) k) (by rw [unhide HN]; omega)
        rw [unhide HN] at this
        rw [this], below_drewN (hbl.setCell (by simp) _) _⟩
      case measure => simp [intOf]; omega
    · obtain rfl : k = 16 := by omega
      clear hk hlt hlen
      go_wp2_with fail
      generalize hW1 : wr = W1 at *
      clear hW1
      go_loopw [5] (fun i wr => ∃ k : Nat, 16 ≤ k ∧ k ≤ 64 ∧ i = .int .i64 k ∧ wr.heap[w.heap.size + 1]? = some (.cells (u32s (pad64 (sch s.data.toList k))) 277 (0, 0)) ∧ Below (w.heap.size + 1) W0 wr) (fun i _ => 64 - (intOf i).toNat)
      case atStart => exact ⟨16, by omega, by omega, rfl, hblk, hbl⟩
      case round =>
        obtain ⟨k, hk1, hk, rfl, hblk2, hbl2⟩ := hrel
        have hlen := sch_len s.data.toList k
        by_cases hlt : k < 64
        · obtain ⟨p, hp⟩ : ∃ p, p + 15 = k := ⟨k - 15, by omega⟩
          obtain ⟨r, hr⟩ : ∃ r, r + 2 = k := ⟨k - 2, by omega⟩
          obtain ⟨t, ht⟩ : ∃ t, t + 16 = k := ⟨k - 16, by omega⟩
          obtain ⟨u, hu⟩ : ∃ u, u + 7 = k := ⟨k - 7, by omega⟩
          have wp : IntKind.i64.wrap ((k : Int) - 15) = (p : Int) := by rw [show (k : Int) - 15 = ((p : Nat) : Int) from by omega]; exact wrap_i64 _ (by omega)
          have wr2 : IntKind.i64.wrap ((k : Int) - 2) = (r : Int) := by rw [show (k : Int) - 2 = ((r : Nat) : Int) from by omega]; exact wrap_i64 _ (by omega)
          have wt : IntKind.i64.wrap ((k : Int) - 16) = (t : Int) := by rw [show (k : Int) - 16 = ((t : Nat) : Int) from by omega]; exact wrap_i64 _ (by omega)
          have wu : IntKind.i64.wrap ((k : Int) - 7) = (u : Int) := by rw [show (k : Int) - 7 = ((u : Nat) : Int) from by omega]; exact wrap_i64 _ (by omega)
          have hall := sch_lt s.data.toList k
          have hl64 : (pad64 (sch s.data.toList k)).length = 64 := pad64_len _ (by omega)
          have cp := cell_u32 hblk2 p (by omega)
          have cr := cell_u32 hblk2 r (by omega)
          have ct := cell_u32 hblk2 t (by omega)
          have cu := cell_u32 hblk2 u (by omega)
          have ck := cell_u32 hblk2 k (by omega)
          have fk := frozen_of_row wr (w.heap.size + 1) k _ _ hblk2
          rw [pad64_get _ _ (by omega)] at cp cr ct cu
          have HN : Hid (nxt s.data.toList (sch s.data.toList k) k = ((sch s.data.toList k).getD t 0 + sS0 ((sch s.data.toList k).getD p 0) + (sch s.data.toList k).getD u 0 + sS1 ((sch s.data.toList k).getD r 0)) % 4294967296) := hide (by
            rw [nxt, if_neg (by omega), show k - 16 = t from by omega, show k - 15 = p from by omega, show k - 7 = u from by omega, show k - 2 = r from by omega])
          generalize hxp : (sch s.data.toList k).getD p 0 = xp at *
          generalize hxr : (sch s.data.toList k).getD r 0 = xr at *
          generalize hxt : (sch s.data.toList k).getD t 0 = xt at *
          generalize hxu : (sch s.data.toList k).getD u 0 = xu at *
          have bp : xp < 4294967296 := hxp ▸ getD_lt hall p
          have br : xr < 4294967296 := hxr ▸ getD_lt hall r
          have bt : xt < 4294967296 := hxt ▸ getD_lt hall t
          have bu : xu < 4294967296 := hxu ▸ getD_lt hall u
          have r5 := r_sS0 xp bp
          have r6 := r_sS1 xr br
          have hlt' : (k : Int) < 64 := by omega
          have hk' : (16 : Int) ≤ (k : Int) := by omega
          have hp' : (p : Int) < 64 := by omega
          have hr' : (r : Int) < 64 := by omega
          have ht' : (t : Int) < 64 := by omega
          have hu' : (u : Int) < 64 := by omega
          have HL := hide hlen
          have HB := hide hblk2
          have hkt : Hid ((⟨w.heap.size + 1, k, none⟩ : Addr) ≠ ⟨w.heap.size + 1, t, none⟩) := hide (by intro e; cases e; omega)
          have hku : Hid ((⟨w.heap.size + 1, k, none⟩ : Addr) ≠ ⟨w.heap.size + 1, u, none⟩) := hide (by intro e; cases e; omega)
          clear hxp hxr hxt hxu hp hr ht hu hall hl64 hlen hblk2
          go_wp2_with fail
          go_quiet (fail)
          go_wp2_with (first
            | (go_at_call 211; refine (rot_any _ _ (by assumption) (by decide) _).mono ?_; rintro ev w' ⟨rfl, hw⟩; obtain rfl := hw.symm))
          go_region_held3 (fun w' => w'.cell? ⟨w.heap.size + 1, t, none⟩ = some (.int .u32 (xt : Int)) ∧ w'.cell? ⟨w.heap.size + 1, u, none⟩ = some (.int .u32 (xu : Int))) (first | (exact ⟨keep_other (unhide hkt) ct, keep_other (unhide hku) cu⟩) | go_keep) (fail)
          have R : Hid (∀ n, ((wr.setCell ⟨w.heap.size + 1, k, none⟩ (.int .u32 (IntKind.u32.wrap (IntKind.u32.wrap (IntKind.u32.wrap ((xt : Int) + ((sS0 xp : Nat) : Int)) + (xu : Int)) + ((sS1 xr : Nat) : Int))))).drewN n).heap[w.heap.size + 1]? = some (.cells (u32s (pad64 (sch s.data.toList (k + 1)))) 277 (0, 0)) ∧ Below (w.heap.size + 1) W0 ((wr.setCell ⟨w.heap.size + 1, k, none⟩ (.int .u32 (IntKind.u32.wrap (IntKind.u32.wrap (IntKind.u32.wrap ((xt : Int) + ((sS0 xp : Nat) : Int)) + (xu : Int)) + ((sS1 xr : Nat) : Int))))).drewN n)) := hide (fun n => ⟨by
            show (wr.setCell _ _).heap[_]? = _
            rw [heap_setCell_same _ _ _ _ _ _ (unhide HB), sch]
            have := pad64_set (sch s.data.toList k) (nxt s.data.toList (sch s.data.toList k) k) (by rw [unhide HL]; omega)
            rw [unhide HL] at this
            rw [← this, unhide HN, wrap3 _ _ _ _], below_drewN (hbl2.setCell (Nat.le_refl _) _) _⟩)
          go_wp2
          go_roundw
          case rel => first | exact ⟨k + 1, by omega, by omega, by go_num, (unhide R _).1, (unhide R _).2⟩ | ((repeat apply Exists.intro); exact ⟨⟨k + 1, by omega, by omega, by go_num, (unhide R _).1, (unhide R _).2⟩, rfl⟩)
          case measure => simp [intOf]; omega
        · obtain rfl : k = 64 := by omega
          rw [pad64_full _ hlen] at hblk2
          have hrB : wr.heap[w.heap.size]? = some (.cells (u32s (pad64 [])) 277 (0, 0)) := (hbl2.block _ (by omega)).trans hr0
          have hsz : (u32s (sch s.data.toList 64)).size = 64 := by rw [u32s_size, hlen]
          have hin : (Tryz.prog.info? 277).map (·.size) = some (u32s (sch s.data.toList 64)).size := by rw [hsz]; kernel_rfl
          have hth := there_all hrB (u32s (sch s.data.toList 64)).size (by rw [hsz]; decide)
          have hon := u32s_one (sch s.data.toList 64)
          have hfin : Hid ((wr.setCells w.heap.size 0 (u32s (sch s.data.toList 64)).toList).heap[w.heap.size]? = some (.cells (u32s (sch s.data.toList 64)) 277 (0, 0))) := hide (heap_setCells_all hrB (by rw [hsz]; decide))
          have hbel : Hid (Below w.heap.size w (wr.setCells w.heap.size 0 (u32s (sch s.data.toList 64)).toList)) := hide (below_setCells (Nat.le_refl _) _ _ _ (hB0.trans (hbl2.mono (by omega))))
          generalize hU : u32s (sch s.data.toList 64) = U at *
          have HU := hide hU
          clear hlen hsz hrB hU
          go_wp2_with (first
            | (refine wpList_load_row rfl 277 (.tmp 3) rfl (w.heap.size + 1) rfl 277 _ (0, 0) _ hblk2 Tryz.underlying277 rfl hin ?_)
            | (refine wpList_store_mid rfl 277 (.tmp 2) (.tmp 67) rfl w.heap.size 0 U rfl rfl hth hin hon ?_))
          refine bodyPost_ret (v := .agg U) (results_cell_row Tryz.results192 _ _ w.heap.size 277 U (0, 0) _ rfl (unhide hfin) Tryz.underlying277 rfl hin) rfl ⟨?_, unhide hbel⟩
          rw [unhide HU]
end Go.Proofs.YtpiponkhhimaoaaGreatDoor
