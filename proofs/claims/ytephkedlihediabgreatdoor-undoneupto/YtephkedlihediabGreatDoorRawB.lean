import Derived.Test.YtephkedlihediabGreatDoorRawA
import Derived.Test.YtephkedlihediabGreatDoorNod
namespace Go.Proofs.YtephkedlihediabGreatDoor
open Go.RowKit

/-- What an entry of a raw thing is. -/
def RawE (p : ByteArray) (e : Ent) : Prop := e.path = p ∧ goodE e = true ∧ e.data.size ≤ 4096
theorem raw_dir {p : ByteArray} {md : Int} (h0 : 0 ≤ md) (h1 : md < 512) : RawE p ⟨p, 1, md, ⟨#[]⟩⟩ := by
  refine ⟨rfl, ?_, Nat.zero_le _⟩
  have : modeOk md = true := by simp [modeOk]; omega
  simp [goodE, this]
theorem raw_file {p d : ByteArray} {md : Int} (h0 : 0 ≤ md) (h1 : md < 512) (hd : d.size ≤ 4096) : RawE p ⟨p, 2, md, d⟩ := by
  refine ⟨rfl, ?_, hd⟩
  have : modeOk md = true := by simp [modeOk]; omega
  simp [goodE, this, hd]
theorem tgt_ab : tgt [97, 47, 98] = true := by decide +kernel
theorem raw_link (p : ByteArray) : RawE p ⟨p, 3, 0, ⟨#[97, 47, 98]⟩⟩ := by
  refine ⟨rfl, ?_, show (3 : Nat) ≤ 4096 by omega⟩
  simp [goodE, tgt_ab]
theorem cut_size (d : ByteArray) : (d.extract 0 4096).size ≤ 4096 := by
  rw [ByteArray.size_extract]; omega
set_option maxHeartbeats 2000000 in
set_option maxRecDepth 100000 in
theorem entry_any (x1 x2 x3 : Int) (d p : ByteArray) (w : World) :
    Calls Tryz.prog 18 #[.agg #[.int .i64 x1, .int .i64 x2, .int .i64 x3, .string d], .string p] w fun ev w' => ∃ e : Ent, ev = .returned (.agg #[.string e.path, .int .i64 e.kind, .int .i64 e.mode, .string e.data]) ∧ Hid (RawE p e) ∧ Below w.heap.size w w' := by
  go_enter Tryz.func18, Tryz.ntmps18
  go_upto_region 2 with (go_at_call 17; refine (pick_any _ _ _ (by omega) (by omega)).mono ?_; rintro ev w1 ⟨md, rfl, hm0, hm1, rfl⟩)
  go_upto_region 3 with (go_at_call 17; refine (pick_any _ _ _ (by omega) (by omega)).mono ?_; rintro ev w1 ⟨kd, rfl, hk0, hk1, rfl⟩)
  by_cases h0 : kd = 0
  · subst h0
    by_cases hd : (d.size : Int) ≤ 4096
    · have H := hide (raw_file (p := p) hm0 hm1 (d := d) (by omega))
      clear hm0 hm1
      go_wp2_with fail
      refine bodyPost_ret (v := .agg #[.string p, .int .i64 2, .int .i64 md, .string d]) (by simp [results, Tryz.results18, go_sem]) rfl ⟨⟨p, 2, md, d⟩, rfl, H, ?_⟩
      exact ((((Below.refl _ _).alloc (Nat.le_refl _) _).alloc (by simp) _).alloc (by simp; omega) _)
    · have H := hide (raw_file (p := p) hm0 hm1 (d := d.extract 0 4096) (cut_size d))
      have i1 : (4096 : Int) ≤ (d.size : Int) := by omega
      have i2 : (4096 : Int) < (d.size : Int) := by omega
      clear hm0 hm1 hd
      go_wp2_with fail
      refine bodyPost_ret (v := .agg #[.string p, .int .i64 2, .int .i64 md, .string (d.extract 0 4096)]) (by simp [results, Tryz.results18, go_sem]) rfl ⟨⟨p, 2, md, d.extract 0 4096⟩, rfl, H, ?_⟩
      exact ((((Below.refl _ _).alloc (Nat.le_refl _) _).alloc (by simp) _).alloc (by simp; omega) _)
  · have h0' : (kd == 0) = false := by simp [h0]
    by_cases h1 : kd = 1
    · subst h1
      have H := hide (raw_link p)
      clear hm0 hm1 h0 h0'
      go_wp2_with fail
      refine bodyPost_ret (v := .agg #[.string p, .int .i64 3, .int .i64 0, .string ⟨#[97, 47, 98]⟩]) (by simp [results, Tryz.results18, go_sem]) rfl ⟨⟨p, 3, 0, ⟨#[97, 47, 98]⟩⟩, rfl, H, ?_⟩
      exact ((((Below.refl _ _).alloc (Nat.le_refl _) _).alloc (by simp) _).alloc (by simp; omega) _)
    · have h1' : (kd == 1) = false := by simp [h1]
      have H := hide (raw_dir (p := p) hm0 hm1)
      clear hm0 hm1
      go_wp2_with fail
      refine bodyPost_ret (v := .agg #[.string p, .int .i64 1, .int .i64 md, .string ⟨#[]⟩]) (by simp [results, Tryz.results18, go_sem]) rfl ⟨⟨p, 1, md, ⟨#[]⟩⟩, rfl, H, ?_⟩
      exact ((((Below.refl _ _).alloc (Nat.le_refl _) _).alloc (by simp) _).alloc (by simp; omega) _)
end Go.Proofs.YtephkedlihediabGreatDoor
