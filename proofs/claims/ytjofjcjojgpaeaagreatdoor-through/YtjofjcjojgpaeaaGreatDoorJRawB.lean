import Derived.Test.YtjofjcjojgpaeaaGreatDoorJUnpL
import Derived.Test.YtjofjcjojgpaeaaGreatDoorJChl
import Derived.BigRegion
namespace Go.Proofs.YtjofjcjojgpaeaaGreatDoor
open Go.RowKit

/-- What an entry of a raw thing is. -/
def RawE (p : ByteArray) (e : Ent) : Prop := e.path = p ∧ goodE e = true ∧ e.data.size ≤ 4096
theorem raw_dir {p : ByteArray} {md : Int} (h0 : 0 ≤ md) (h1 : md < 512) : RawE p ⟨p, 1, md, ⟨#[]⟩⟩ := by
  refine ⟨rfl, ?_, Nat.zero_le _⟩
  have : modeOk md = true := by simp [modeOk]; omega
  simp [goodE, this]
theorem raw_file {p d : ByteArray} {md : Int} (h0 : 0 ≤ md) (h1 : md < 512) (hd : d.size ≤ 4096) : RawE p ⟨p, 2, md, d⟩ := by
  refine ⟨rfl, ?_, hd⟩
  have : modeOk md = true := by simp [modeOk]; omega
  simp [goodE, this, hd]
theorem tgt_ab : tgt [97, 47, 98] = true := by decide +kernel
theorem raw_link (p : ByteArray) : RawE p ⟨p, 3, 0, ⟨#[97, 47, 98]⟩⟩ := by
  refine ⟨rfl, ?_, show (3 : Nat) ≤ 4096 by omega⟩
  simp [goodE, tgt_ab]
theorem cut_size (d : ByteArray) : (d.extract 0 4096).size ≤ 4096 := by
  rw [ByteArray.size_extract]; omega
set_option maxHeartbeats 2000000 in
set_option maxRecDepth 100000 in
theorem entry_any (x1 x2 x3 : Int) (d p : ByteArray) (w : World) :
    Calls Tryz.prog 18 #[.agg #[.int .i64 x1, .int .i64 x2, .int .i64 x3, .string d], .string p] w fun ev w' => ∃ e : Ent, ev = .returned (.agg #[.string e.path, .int .i64 e.kind, .int .i64 e.mode, .string e.data]) ∧ Hid (RawE p e) ∧ Below w.heap.size w w' := by
  go_enter Tryz.func18, Tryz.ntmps18
  go_upto_region 2 with (go_at_call 17; refine (pick_any _ _ _ (by omega) (by omega)).mono ?_; rintro ev w1 ⟨md, rfl, hm0, hm1, rfl⟩)
  go_upto_region 3 with (go_at_call 17; refine (pick_any _ _ _ (by omega) (by omega)).mono ?_; rintro ev w1 ⟨kd, rfl, hk0, hk1, rfl⟩)
  by_cases h0 : kd = 0
  · subst h0
    by_cases hd : (d.size : Int) ≤ 4096
    · have H := hide (raw_file (p := p) hm0 hm1 (d := d) (by omega))
      clear hm0 hm1
      go_wp2_with fail
      refine bodyPost_ret (v := .agg #[.string p, .int .i64 2, .int .i64 md, .string d]) (by simp [results, Tryz.results18, go_sem]) rfl ⟨⟨p, 2, md, d⟩, rfl, H, ?_⟩
      exact ((((Below.refl _ _).alloc (Nat.le_refl _) _).alloc (by simp) _).alloc (by simp; omega) _)
    · have H := hide (raw_file (p := p) hm0 hm1 (d := d.extract 0 4096) (cut_size d))
      have i1 : (4096 : Int) ≤ (d.size : Int) := by omega
      have i2 : (4096 : Int) < (d.size : Int) := by omega
      clear hm0 hm1 hd
      go_wp2_with fail
      refine bodyPost_ret (v := .agg #[.string p, .int .i64 2, .int .i64 md, .string (d.extract 0 4096)]) (by simp [results, Tryz.results18, go_sem]) rfl ⟨⟨p, 2, md, d.extract 0 4096⟩, rfl, H, ?_⟩
      exact ((((Below.refl _ _).alloc (Nat.le_refl _) _).alloc (by simp) _).alloc (by simp; omega) _)
  · have h0' : (kd == 0) = false := by simp [h0]
    by_cases h1 : kd = 1
    · subst h1
      have H := hide (raw_link p)
      clear hm0 hm1 h0 h0'
      go_wp2_with fail
      refine bodyPost_ret (v := .agg #[.string p, .int .i64 3, .int .i64 0, .string ⟨#[97, 47, 98]⟩]) (by simp [results, Tryz.results18, go_sem]) rfl ⟨⟨p, 3, 0, ⟨#[97, 47, 98]⟩⟩, rfl, H, ?_⟩
      exact ((((Below.refl _ _).alloc (Nat.le_refl _) _).alloc (by simp) _).alloc (by simp; omega) _)
    · have h1' : (kd == 1) = false := by simp [h1]
      have H := hide (raw_dir (p := p) hm0 hm1)
      clear hm0 hm1
      go_wp2_with fail
      refine bodyPost_ret (v := .agg #[.string p, .int .i64 1, .int .i64 md, .string ⟨#[]⟩]) (by simp [results, Tryz.results18, go_sem]) rfl ⟨⟨p, 1, md, ⟨#[]⟩⟩, rfl, H, ?_⟩
      exact ((((Below.refl _ _).alloc (Nat.le_refl _) _).alloc (by simp) _).alloc (by simp; omega) _)
end Go.Proofs.YtjofjcjojgpaeaaGreatDoor

namespace Go.Proofs.YtjofjcjojgpaeaaGreatDoor
open Go.RowKit

def longN : ByteArray := ⟨#[108, 111, 110, 103, 45, 110, 97, 109, 101, 45]⟩
def longK : Nat → ByteArray
  | 0 => ⟨#[]⟩
  | k + 1 => longK k ++ longN
theorem longK_size (k : Nat) : (longK k).size = 10 * k := by
  induction k with
  | zero => rfl
  | succ k ih => rw [longK, ByteArray.size_append, ih]; show 10 * k + 10 = _; omega
def rawP (s : ByteArray) : List ByteArray := [⟨#[97]⟩, ⟨#[97, 47, 98]⟩, ⟨#[97, 47, 98, 47, 99]⟩, ⟨#[97, 47, 100]⟩, ⟨#[97, 47, 101]⟩, ⟨#[97, 45, 98]⟩, ⟨#[98]⟩, ⟨#[100]⟩, ⟨#[100, 47, 120]⟩, ⟨#[100, 47, 120, 47, 121]⟩, ⟨#[100, 47, 120, 47, 121, 47, 122]⟩, ⟨#[100, 47, 122]⟩,
  s.extract 0 50, s.extract 0 50 ++ ⟨#[47]⟩ ++ s.extract 0 55, s.extract 0 50 ++ ⟨#[47]⟩ ++ s.extract 0 55 ++ ⟨#[47]⟩ ++ s.extract 0 60, ⟨#[119]⟩, ⟨#[119, 47, 102]⟩]
theorem drew_below {B : Nat} {w w' : World} (h : Below B w w') : Below B w w'.drew := ⟨h.os, h.tape, h.output, h.size, h.block⟩
theorem row_of {w : World} {g : Nat} {cs : Array Value} {ps : List ByteArray} (h : w.heap[g]? = some (.cells cs 9 (0, 0))) (he : cs.toList = ps.map Value.string) : TRow w (some ⟨g, 0, none⟩) ps := fun k b hk => by
  refine ⟨g, rfl, ?_⟩
  have h1 : cs[k]? = some (.string b) := by rw [← Array.getElem?_toList, he, List.getElem?_map, hk]; rfl
  exact (cell_of_row _ _ k _ _ _ h).trans h1
set_option maxHeartbeats 4000000 in
set_option maxRecDepth 100000 in
theorem rawPaths_any (w : World) :
    Calls Tryz.prog 15 #[] w fun ev w' => ∃ g : Nat, ev = .returned (.slice (some ⟨g, 0, none⟩) 17 17) ∧ TRow w' (some ⟨g, 0, none⟩) (rawP (longK 12)) ∧ Below w.heap.size w w' := by
  go_enter Tryz.func15, Tryz.ntmps15
  go_wp2
  go_loop [1, 2] (fun s i => ∃ k : Nat, k ≤ 12 ∧ i = .int .i64 k ∧ s = .string (longK k)) (fun _ i => 12 - (intOf i).toNat)
  case atStart => exact ⟨0, by omega, rfl, rfl⟩
  case round =>
    obtain ⟨k, hk, rfl, rfl⟩ := hrel
    by_cases hlt : k < 12
    · have i1 : (k : Int) < 12 := by omega
      have hsz := longK_size k
      obtain ⟨s, hs⟩ : ∃ s, s = longK k := ⟨_, rfl⟩
      have HS : Hid (s ++ longN = longK (k + 1)) := hide (by rw [hs]; rfl)
      rw [← hs]
      have hsz2 : s.size = 10 * k := by rw [hs]; exact hsz
      clear hs hsz
      go_wp2
      go_round
      case rel => exact ⟨k + 1, by omega, by go_num, congrArg Value.string (unhide HS)⟩
      case measure => simp [intOf]; omega
    · obtain rfl : k = 12 := by omega
      have hsz : (longK 12).size = 120 := longK_size 12
      obtain ⟨s, hs⟩ : ∃ s, s = longK 12 := ⟨_, rfl⟩
      rw [← hs] at hsz ⊢
      have i5 : (50 : Int) ≤ (s.size : Int) := by omega
      have i6 : (55 : Int) ≤ (s.size : Int) := by omega
      have i7 : (60 : Int) ≤ (s.size : Int) := by omega
      have HS := hide hs
      clear hs
      go_upto_region 6 with fail
      go_region
      go_wp2
      go_ret
      refine ⟨w.heap.size, rfl, ?_, drew_below ((Below.refl _ _).alloc (Nat.le_refl _) _)⟩
      rw [← unhide HS]
      refine row_of (w := World.drew _) (heap_alloc_new _ _) ?_
      rfl
end Go.Proofs.YtjofjcjojgpaeaaGreatDoor
