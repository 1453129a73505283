import Derived.Test.YtkeefkfklmhcjaaGreatDoorShelfI
import Derived.Test.YtkeefkfklmhcjaaGreatDoorJOctP
import Derived.Test.YtkeefkfklmhcjaaGreatDoorShelfC
import Derived.Test.YtkeefkfklmhcjaaGreatDoorDigH
import Derived.Test.YtkeefkfklmhcjaaGreatDoorJLeaf
import Derived.Test.YtkeefkfklmhcjaaGreatDoorJOrdA
namespace Go.Proofs.YtkeefkfklmhcjaaGreatDoor
open Go.RowKit
theorem oct_any (n : Nat) (w : World) (hn : n < 262144) (h : w.cell? ⟨20, 7, none⟩ = some (.int .u8 3)) : Calls Tryz.prog 111 #[.int .i64 (n : Int)] w fun ev w' => ∃ s : ByteArray, ev = .returned (.string s) ∧ Hid (s.data.toList = octL n) ∧ Below w.heap.size w w' := by
  go_enter Tryz.func111, Tryz.ntmps111
  go_wp2_with (go_at_call 143; refine (fmt_any n _ hn h).mono ?_; rintro ev w1 ⟨s, rfl, HS, hb⟩)
  go_ret
  exact ⟨_, rfl, HS, hb⟩
theorem dec_eq (n : Nat) : Lib.decDigits n = decL n := by
  induction n using Nat.strongRecOn with
  | ind n ih =>
    rw [Lib.decDigits, decL]
    split
    · rfl
    · rename_i h
      rw [ih (n / 10) (by omega)]
theorem below_grow1 (w : World) (k : Nat) (os : Array Obj) : Below w.heap.size w (Go.Sort.grow (w.drewN k) os) :=
  ⟨rfl, rfl, rfl, by show w.heap.size ≤ (w.heap ++ os).size; rw [Array.size_append]; omega, fun j hj => by show (w.heap ++ os)[j]? = w.heap[j]?; rw [Array.getElem?_append_left hj]⟩
theorem itoa_any (n : Nat) (w : World) (hn : n ≤ 1073741824) (h : Lib.TabIs Tryz.prog w "internal/strconv.uint64pow10" .u64 Lib.pow10Tab) : Calls Tryz.prog 112 #[.int .i64 (n : Int)] w fun ev w' => ∃ s : ByteArray, ev = .returned (.string s) ∧ Hid (s.data.toList = decL n) ∧ Below w.heap.size w w' := by
  refine (Tryz.strconv_Itoa (n : Int) (by omega) (by omega) w h).mono ?_
  rintro ev w1 ⟨rfl, k, os, rfl⟩
  refine ⟨_, rfl, hide ?_, below_grow1 _ _ _⟩
  show Lib.itoa (n : Int) = decL n
  rw [Lib.itoa, if_neg (by omega), Int.toNat_natCast, dec_eq]
theorem tab_below {w w' : World} {name : String} {k : IntKind} {zs : List Int} (h : Lib.TabIs Tryz.prog w name k zs) (hb : Below w.heap.size w w') : Lib.TabIs Tryz.prog w' name k zs := by
  unfold Lib.TabIs World.var? at *
  cases hg : Tryz.prog.globalNamed name with
  | none => simp [hg] at h
  | some g =>
    simp only [hg, Option.bind_some] at h ⊢
    have hlt : g < w.heap.size := by
      rcases Nat.lt_or_ge g w.heap.size with h' | h'
      · exact h'
      · rw [Array.getElem?_eq_none h'] at h; simp at h
    rw [hb.block g hlt]
    exact h
/-- What is laid ahead of every call. -/
structure Tabs (w : World) : Prop where
  ks : KsLie w
  pow : Lib.TabIs Tryz.prog w "internal/strconv.uint64pow10" .u64 Lib.pow10Tab
  bru : w.cell? ⟨20, 7, none⟩ = some (.int .u8 3)
theorem Tabs.below {w w' : World} (h : Tabs w) (hb : Below w.heap.size w w') : Tabs w' := ⟨h.ks.below hb, tab_below h.pow hb, cell_later hb h.bru⟩
end Go.Proofs.YtkeefkfklmhcjaaGreatDoor

namespace Go.Proofs.YtkeefkfklmhcjaaGreatDoor
open Go.RowKit

theorem dig8 (r : Nat) (h : r < 8) : ((⟨#[48, 49, 50, 51, 52, 53, 54, 55]⟩ : ByteArray).extract r (r + 1)).data.toList = [UInt8.ofNat (48 + r)] := by
  rw [Lib.extract_data]
  match r, h with
  | 0, _ => rfl
  | 1, _ => rfl
  | 2, _ => rfl
  | 3, _ => rfl
  | 4, _ => rfl
  | 5, _ => rfl
  | 6, _ => rfl
  | 7, _ => rfl
theorem octL_len (n : Nat) : (octL n).length ≤ n + 1 := by
  induction n using Nat.strongRecOn with
  | ind n ih =>
    rw [octL]
    split
    · simp
    · rename_i h
      have := ih (n / 8) (by omega)
      simp only [List.length_append, List.length_cons, List.length_nil]
      omega
set_option maxHeartbeats 400000 in
theorem octal_any : ∀ (n : Nat), n ≤ 1073741824 → ∀ w : World, Calls Tryz.prog 48 #[.int .i64 (n : Int)] w fun ev w' => ∃ s : ByteArray, ev = .returned (.string s) ∧ Hid (s.data.toList = octL n) ∧ s.size ≤ n + 1 ∧ w' = w := by
  intro n
  induction n using Nat.strongRecOn with
  | ind n ih =>
    intro hn w
    obtain ⟨r, er⟩ : ∃ r, r = n % 8 := ⟨_, rfl⟩
    have r8 : r < 8 := by omega
    have f1 : (n : Int) % 8 = (r : Int) := by omega
    have f2 : (n : Int).tmod 8 = (r : Int) := by rw [Int.tmod_eq_emod_of_nonneg (by omega)]; exact f1
    have r0 : (0 : Int) ≤ (r : Int) := by omega
    have r1 : (r : Int) + 1 ≤ 8 := by omega
    have HD := hide (dig8 r r8)
    by_cases hs : n < 8
    · have HE : Hid (octL n = [UInt8.ofNat (48 + r)]) := hide (by rw [octL, if_pos hs, er, Nat.mod_eq_of_lt hs])
      have hs2 : (n : Int) < 8 := by omega
      clear er ih
      go_enter Tryz.func48, Tryz.ntmps48
      go_wp2
      go_ret
      exact ⟨_, rfl, hide (by rw [unhide HD, unhide HE]), by rw [Lib.size_eq, unhide HD]; simp, rfl⟩
    · obtain ⟨q, eq⟩ : ∃ q, q = n / 8 := ⟨_, rfl⟩
      have HE : Hid (octL n = octL q ++ [UInt8.ofNat (48 + r)]) := hide (by rw [octL, if_neg hs, er, eq])
      have hq := ih q (by omega) (by omega)
      have g1 : (n : Int) / 8 = (q : Int) := by omega
      have g2 : (n : Int).tdiv 8 = (q : Int) := by rw [Int.tdiv_eq_ediv_of_nonneg (by omega)]; exact g1
      have hs2 : ¬ (n : Int) < 8 := by omega
      have hqn : q + 1 ≤ n := by omega
      have hz : ((⟨#[48, 49, 50, 51, 52, 53, 54, 55]⟩ : ByteArray).extract r (r + 1)).size = 1 := by rw [Lib.size_eq, unhide HD]; rfl
      clear er eq ih
      go_enter Tryz.func48, Tryz.ntmps48
      go_wp2_with (go_at_call 48; refine (hq _).mono ?_; rintro ev w' ⟨s, rfl, HS, hsz, hw⟩; obtain rfl := hw.symm)
      go_ret
      exact ⟨_, rfl, hide (by rw [data_append, unhide HS, unhide HD, unhide HE]), by rw [Lib.size_eq, data_append, List.length_append, ← Lib.size_eq, unhide HD]; simp; omega, rfl⟩

end Go.Proofs.YtkeefkfklmhcjaaGreatDoor

namespace Go.Proofs.YtkeefkfklmhcjaaGreatDoor
open Go.RowKit

def fileT (e : Ent) : List UInt8 := [102, 105, 108, 101, 32] ++ octL e.mode.toNat ++ [32] ++ decL e.data.size ++ [10] ++ e.data.data.toList
def linkT (e : Ent) : List UInt8 := [108, 105, 110, 107, 32] ++ e.data.data.toList
def dirT (e : Ent) : List UInt8 := [100, 105, 114, 32] ++ octL e.mode.toNat ++ [10]
def kidT (s : Ent → List UInt8) (k : Ent) : List UInt8 := nameOf k.path.data.toList ++ [32] ++ s k ++ [10]
/-- The sum of an entry, so deep. -/
def sumF (es : List Ent) : Nat → Ent → List UInt8
  | 0, _ => []
  | f + 1, e => sha (if e.kind = 2 then fileT e else if e.kind = 3 then linkT e else dirT e ++ ((kidsE es e.path.data.toList).map (kidT (sumF es f))).flatten)
end Go.Proofs.YtkeefkfklmhcjaaGreatDoor
