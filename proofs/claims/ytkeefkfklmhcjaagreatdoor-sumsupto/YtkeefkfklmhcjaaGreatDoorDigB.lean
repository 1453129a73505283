import Derived.Test.YtkeefkfklmhcjaaGreatDoorDigA
import Derived.WalkSmall
namespace Go.Proofs.YtkeefkfklmhcjaaGreatDoor
open Go.RowKit

theorem not32 (e : Nat) (he : e < 4294967296) : 4294967295 ^^^ e = 4294967295 - e := by
  have h1 : (BitVec.allOnes 32 ^^^ BitVec.ofNat 32 e).toNat = 4294967295 - e := by
    rw [BitVec.allOnes_xor, BitVec.toNat_not, BitVec.toNat_ofNat, Nat.mod_eq_of_lt (by omega)]
  rw [BitVec.toNat_xor, BitVec.toNat_allOnes, BitVec.toNat_ofNat, Nat.mod_eq_of_lt (by omega)] at h1
  exact h1
theorem r_bS1 (e : Nat) (he : e < 4294967296) : bits .xor .u32 (bits .xor .u32 ((rr e (rotN (-6)) : Nat) : Int) ((rr e (rotN (-11)) : Nat) : Int)) ((rr e (rotN (-25)) : Nat) : Int) = ((bS1 e : Nat) : Int) := by
  rw [u32_xor_nat _ _ (rr_lt he) (rr_lt he), u32_xor_nat _ _ (xor_lt (rr_lt he) (rr_lt he)) (rr_lt he)]; rfl
theorem r_bS0 (e : Nat) (he : e < 4294967296) : bits .xor .u32 (bits .xor .u32 ((rr e (rotN (-2)) : Nat) : Int) ((rr e (rotN (-13)) : Nat) : Int)) ((rr e (rotN (-22)) : Nat) : Int) = ((bS0 e : Nat) : Int) := by
  rw [u32_xor_nat _ _ (rr_lt he) (rr_lt he), u32_xor_nat _ _ (xor_lt (rr_lt he) (rr_lt he)) (rr_lt he)]; rfl
theorem r_not (e : Nat) (he : e < 4294967296) : bits .xor .u32 IntKind.u32.max (e : Int) = ((4294967295 - e : Nat) : Int) := by
  have : IntKind.u32.max = ((4294967295 : Nat) : Int) := by decide
  rw [this, u32_xor_nat _ _ (by decide) he, not32 e he]
theorem r_cho (e f g : Nat) (he : e < 4294967296) (hf : f < 4294967296) (hg : g < 4294967296) : bits .xor .u32 (bits .and .u32 (e : Int) (f : Int)) (bits .and .u32 (bits .xor .u32 IntKind.u32.max (e : Int)) (g : Int)) = ((cho e f g : Nat) : Int) := by
  rw [r_not e he, u32_and_nat _ _ he hf, u32_and_nat _ _ (by omega) hg, u32_xor_nat _ _ (and_lt hf) (and_lt hg)]; rfl
theorem r_maj (a b c : Nat) (ha : a < 4294967296) (hb : b < 4294967296) (hc : c < 4294967296) : bits .xor .u32 (bits .xor .u32 (bits .and .u32 (a : Int) (b : Int)) (bits .and .u32 (a : Int) (c : Int))) (bits .and .u32 (b : Int) (c : Int)) = ((maj a b c : Nat) : Int) := by
  rw [u32_and_nat _ _ ha hb, u32_and_nat _ _ ha hc, u32_and_nat _ _ hb hc, u32_xor_nat _ _ (and_lt hb) (and_lt hc), u32_xor_nat _ _ (xor_lt (and_lt hb) (and_lt hc)) (and_lt hc)]; rfl

attribute [local go_sem] setCell_drewN alloc_drewN

def u32s (v : List Nat) : Array Value := (v.map fun (n : Nat) => Value.int .u32 (n : Int)).toArray

set_option maxHeartbeats 1000000 in
set_option maxRecDepth 100000 in
theorem turn_any (a b c d e f g q k : Nat) (ha : a < 4294967296) (hb : b < 4294967296) (hc : c < 4294967296) (_ : d < 4294967296) (he : e < 4294967296) (hf : f < 4294967296) (hg : g < 4294967296) (_ : q < 4294967296) (_ : k < 4294967296) (w : World) :
    Calls Tryz.prog 170 #[.agg #[.int .u32 a, .int .u32 b, .int .u32 c, .int .u32 d, .int .u32 e, .int .u32 f, .int .u32 g, .int .u32 q], .int .u32 k] w fun ev w' => ev = .returned (.agg (u32s (rnd [a, b, c, d, e, f, g, q] k))) ∧ Below w.heap.size w w' := by
  have r1 := r_bS1 e he
  have r2 := r_cho e f g he hf hg
  have r3 := r_bS0 a ha
  have r4 := r_maj a b c ha hb hc
  go_enter Tryz.func170, Tryz.ntmps170
  go_wp2
  go_quiet (fail)
  go_wp2_with (first
    | (go_at_call 200; refine (rot_any _ _ (by assumption) (by decide) _).mono ?_; rintro ev w' ⟨rfl, hw⟩; subst hw))
  refine bodyPost_ret (v := .agg #[.int .u32 (((q : Int) + ((bS1 e : Nat) : Int) + ((cho e f g : Nat) : Int) + (k : Int) + ((bS0 a : Nat) : Int) + ((maj a b c : Nat) : Int)) % 4294967296), .int .u32 a, .int .u32 b, .int .u32 c, .int .u32 (((d : Int) + ((q : Int) + ((bS1 e : Nat) : Int) + ((cho e f g : Nat) : Int) + (k : Int))) % 4294967296), .int .u32 e, .int .u32 f, .int .u32 g]) (by simp [results, Tryz.results170, go_sem]) rfl ⟨?_, below_drewN (((Below.refl _ _).alloc (Nat.le_refl _) _).alloc (by simp) _) _⟩
  simp [u32s, rnd]

theorem or4 (a b c d : Nat) (ha : a < 256) (hb : b < 256) (hc : c < 256) (hd : d < 256) : bits .or .u32 (bits .or .u32 (bits .or .u32 ((a : Int) % 4294967296 * 16777216 % 4294967296) ((b : Int) % 4294967296 * 65536 % 4294967296)) ((c : Int) % 4294967296 * 256 % 4294967296)) ((d : Int) % 4294967296) = ((wd4 a b c d : Nat) : Int) := by
  have e1 : (a : Int) % 4294967296 * 16777216 % 4294967296 = ((a * 16777216 : Nat) : Int) := by omega
  have e2 : (b : Int) % 4294967296 * 65536 % 4294967296 = ((b * 65536 : Nat) : Int) := by omega
  have e3 : (c : Int) % 4294967296 * 256 % 4294967296 = ((c * 256 : Nat) : Int) := by omega
  have e4 : (d : Int) % 4294967296 = (d : Int) := by omega
  rw [e1, e2, e3, e4, u32_or_nat _ _ (by omega) (by omega), u32_or_nat _ _ (or_lt (by omega) (by omega)) (by omega), u32_or_nat _ _ (or_lt (or_lt (by omega) (by omega)) (by omega)) (by omega), wd4_or a b c d ha hb hc hd]
theorem byt_at (s : ByteArray) (i : Nat) (h : i < s.size) : s[i].toNat = byt s.data.toList i := by
  have : s.data.toList[i]? = some s[i] := by rw [List.getElem?_eq_getElem (by simpa using h)]; rfl
  simp [byt, List.getD_eq_getElem?_getD, this]

set_option maxHeartbeats 1000000 in
set_option maxRecDepth 100000 in
theorem word_any (s : ByteArray) (hs : 4 ≤ s.size) (w : World) :
    Calls Tryz.prog 199 #[.string s] w fun ev w' => ev = .returned (.int .u32 ((wdl s.data.toList 0 : Nat) : Int)) ∧ ∃ n, w' = w.drewN n := by
  have h0 : 0 < s.size := by omega
  have h1 : (1 : Int) < s.size := by omega
  have h2 : (2 : Int) < s.size := by omega
  have h3 : (3 : Int) < s.size := by omega
  have B : Hid (wd4 s[0].toNat s[1].toNat s[2].toNat s[3].toNat = wdl s.data.toList 0) := hide (by rw [byt_at s 0 (by omega), byt_at s 1 (by omega), byt_at s 2 (by omega), byt_at s 3 (by omega)]; rfl)
  go_enter Tryz.func199, Tryz.ntmps199
  go_wp2
  go_quiet (fail)
  go_wp2
  go_ret
  exact ⟨ret_u32 ((or4 _ _ _ _ (UInt8.toNat_lt _) (UInt8.toNat_lt _) (UInt8.toNat_lt _) (UInt8.toNat_lt _)).trans (by rw [unhide B])), _, rfl⟩

end Go.Proofs.YtkeefkfklmhcjaaGreatDoor
