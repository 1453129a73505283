import Derived.Test.YtjofjcjojgpaeaaGreatDoorJDigA
import Derived.Deep.RegionHeld3
import Derived.Deep.DrawnRows
import Derived.Deep.RegionWith
namespace Go.Proofs.YtjofjcjojgpaeaaGreatDoor
open Go.RowKit

theorem u32s_size (v : List Nat) : (u32s v).size = v.length := by simp [u32s]
theorem u32s_get (v : List Nat) (i : Nat) (h : i < v.length) : (u32s v)[i]? = some (.int .u32 ((v.getD i 0 : Nat) : Int)) := by
  simp [u32s, List.getD_eq_getElem?_getD, h]
/-- So many words, then noughts: the array of 64 while it is filled. -/
def pad64 (ws : List Nat) : List Nat := ws ++ List.replicate (64 - ws.length) 0
theorem pad64_len (ws : List Nat) (h : ws.length ≤ 64) : (pad64 ws).length = 64 := by simp [pad64]; omega
theorem pad64_get (ws : List Nat) (i : Nat) (h : i < ws.length) : (pad64 ws).getD i 0 = ws.getD i 0 := by
  simp [pad64, List.getD_eq_getElem?_getD, List.getElem?_append_left h]
theorem pad64_set (ws : List Nat) (n : Nat) (h : ws.length < 64) : (u32s (pad64 ws)).setIfInBounds ws.length (.int .u32 (n : Int)) = u32s (pad64 (ws ++ [n])) := by
  obtain ⟨m, hm⟩ : ∃ m, 64 - ws.length = m + 1 := ⟨63 - ws.length, by omega⟩
  have hm' : 64 - (ws ++ [n]).length = m := by simp; omega
  simp only [u32s, pad64, hm, hm', List.setIfInBounds_toArray, List.replicate_succ]
  congr 1
  simp [List.set_append_right]
theorem pad64_full (ws : List Nat) (h : ws.length = 64) : pad64 ws = ws := by simp [pad64, h]

/-- A block of this many words, as one knows it whole. -/
theorem cell_u32 {w : World} {g : Nat} {ws : List Nat} {t : TypeId} (h : w.heap[g]? = some (.cells (u32s ws) t (0, 0))) (i : Nat) (hi : i < ws.length) : w.cell? ⟨g, i, none⟩ = some (.int .u32 ((ws.getD i 0 : Nat) : Int)) := by
  rw [cell_of_row w g i _ t _ h, u32s_get ws i hi]

theorem keep_other {W : World} {a b : Addr} {v u : Value} {n : Nat} (h : a ≠ b) (hc : W.cell? b = some u) : ((W.setCell a v).drewN n).cell? b = some u := by
  rw [World.cell?_drewN, World.cell?_setCell_other]
  · exact hc
  · exact h
theorem heap_setCells_at {g : Nat} {t : TypeId} : ∀ (vs : List Value) (o : Nat) (old : Array Value) (w : World), w.heap[g]? = some (.cells old t (0, 0)) → o + vs.length ≤ old.size →
    (w.setCells g o vs).heap[g]? = some (.cells (old.toList.take o ++ vs ++ old.toList.drop (o + vs.length)).toArray t (0, 0))
  | [], o, old, w, h, _ => by simp [World.setCells, h]
  | v :: r, o, old, w, h, hl => by
    have hl' : o + 1 + r.length ≤ old.size := by simp at hl; omega
    rw [World.setCells, heap_setCells_at r (o + 1) _ _ (heap_setCell_same w g o old t v h) (by simpa using hl')]
    have ho : o < old.toList.length := by simp; omega
    congr 3
    rw [Array.toList_setIfInBounds, List.take_set, List.drop_set_of_lt (by omega), List.take_succ_eq_append_getElem ho]
    have e : (old.toList.take o).length = o := by rw [List.length_take, Nat.min_eq_left (by omega)]
    rw [List.set_append_right _ _ (by omega), e, Nat.sub_self]
    simp [Nat.add_assoc, Nat.add_comm 1]
theorem heap_setCells_all {g : Nat} {t : TypeId} {cs old : Array Value} {w : World} (h : w.heap[g]? = some (.cells old t (0, 0))) (hs : cs.size = old.size) : (w.setCells g 0 cs.toList).heap[g]? = some (.cells cs t (0, 0)) := by
  rw [heap_setCells_at cs.toList 0 old w h (by simp; omega)]
  rw [List.drop_of_length_le (by simp; omega)]
  simp
theorem below_setCells {B : Nat} {a : World} {g : Nat} (hg : B ≤ g) : ∀ (vs : List Value) (o : Nat) (w : World), Below B a w → Below B a (w.setCells g o vs)
  | [], _, _, h => h
  | v :: r, o, w, h => below_setCells hg r (o + 1) _ (h.setCell (by exact hg) v)
theorem there_all {w : World} {g : Nat} {t : TypeId} {old : Array Value} (h : w.heap[g]? = some (.cells old t (0, 0))) (n : Nat) (hn : n ≤ old.size) : w.there g 0 n := fun j hj => by
  refine ⟨?_, frozen_of_row w g _ _ _ h⟩
  rw [cell_of_row w g _ _ t _ h, Nat.zero_add, Array.getElem?_eq_getElem (by omega)]; rfl
theorem u32s_one (v : List Nat) : (u32s v).all (·.oneCell') = true := by
  unfold u32s
  apply all_oneCell_toArray
  intro x hx
  obtain ⟨n, _, rfl⟩ := List.mem_map.1 hx
  rfl
theorem wrap3 (a b c d : Nat) : IntKind.u32.wrap (IntKind.u32.wrap (IntKind.u32.wrap ((a : Int) + (b : Int)) + (c : Int)) + (d : Int)) = (((a + b + c + d) % 4294967296 : Nat) : Int) := by
  rw [IntKind.wrap_u32', IntKind.wrap_u32', IntKind.wrap_u32']; omega
theorem r_sS0 (e : Nat) (he : e < 4294967296) : bits .xor .u32 (bits .xor .u32 ((rr e (rotN (-7)) : Nat) : Int) ((rr e (rotN (-18)) : Nat) : Int)) ((e : Int) / 8) = ((sS0 e : Nat) : Int) := by
  rw [show (e : Int) / 8 = ((e / 8 : Nat) : Int) from by omega, u32_xor_nat _ _ (rr_lt he) (rr_lt he), u32_xor_nat _ _ (xor_lt (rr_lt he) (rr_lt he)) (div_lt he)]; rfl
theorem r_sS1 (e : Nat) (he : e < 4294967296) : bits .xor .u32 (bits .xor .u32 ((rr e (rotN (-17)) : Nat) : Int) ((rr e (rotN (-19)) : Nat) : Int)) ((e : Int) / 1024) = ((sS1 e : Nat) : Int) := by
  rw [show (e : Int) / 1024 = ((e / 1024 : Nat) : Int) from by omega, u32_xor_nat _ _ (rr_lt he) (rr_lt he), u32_xor_nat _ _ (xor_lt (rr_lt he) (rr_lt he)) (div_lt he)]; rfl

attribute [local go_sem] setCell_drewN alloc_drewN
attribute [local go_sem] Go.wp_at_zero Go.wp_at_succ

end Go.Proofs.YtjofjcjojgpaeaaGreatDoor

namespace Go.Proofs.YtjofjcjojgpaeaaGreatDoor
open Go.RowKit

/-- Eight words. -/
structure St where
  a : Nat
  b : Nat
  c : Nat
  d : Nat
  e : Nat
  f : Nat
  g : Nat
  q : Nat
def St.list (v : St) : List Nat := [v.a, v.b, v.c, v.d, v.e, v.f, v.g, v.q]
def St.ok (v : St) : Prop := v.a < 4294967296 ∧ v.b < 4294967296 ∧ v.c < 4294967296 ∧ v.d < 4294967296 ∧ v.e < 4294967296 ∧ v.f < 4294967296 ∧ v.g < 4294967296 ∧ v.q < 4294967296
def St.arr (v : St) : Array Value := #[.int .u32 v.a, .int .u32 v.b, .int .u32 v.c, .int .u32 v.d, .int .u32 v.e, .int .u32 v.f, .int .u32 v.g, .int .u32 v.q]
def St.rnd (v : St) (k : Nat) : St := { a := (v.q + bS1 v.e + cho v.e v.f v.g + k + bS0 v.a + maj v.a v.b v.c) % 4294967296, b := v.a, c := v.b, d := v.c, e := (v.d + (v.q + bS1 v.e + cho v.e v.f v.g + k)) % 4294967296, f := v.e, g := v.f, q := v.g }
theorem St.rnd_ok {v : St} (h : v.ok) (k : Nat) : (v.rnd k).ok := by
  obtain ⟨h1, h2, h3, h4, h5, h6, h7, h8⟩ := h
  exact ⟨Nat.mod_lt _ (by decide), h1, h2, h3, Nat.mod_lt _ (by decide), h5, h6, h7⟩
theorem St.rnd_mod (v : St) (k : Nat) : v.rnd (k % 4294967296) = v.rnd k := by
  have h1 : (v.q + bS1 v.e + cho v.e v.f v.g + k % 4294967296 + bS0 v.a + maj v.a v.b v.c) % 4294967296 = (v.q + bS1 v.e + cho v.e v.f v.g + k + bS0 v.a + maj v.a v.b v.c) % 4294967296 := by omega
  have h2 : (v.d + (v.q + bS1 v.e + cho v.e v.f v.g + k % 4294967296)) % 4294967296 = (v.d + (v.q + bS1 v.e + cho v.e v.f v.g + k)) % 4294967296 := by omega
  simp only [St.rnd, h1, h2]
theorem St.arr_u32s (v : St) : v.arr = u32s v.list := rfl

theorem arr_size (v : St) : v.arr.size = 8 := rfl
theorem arr_one (v : St) : v.arr.all (·.oneCell') = true := by
  rw [St.arr_u32s]; exact u32s_one _
/-- The constants of the rounds lie in their variable. -/
def Ks : List Nat := [1116352408, 1899447441, 3049323471, 3921009573, 961987163, 1508970993, 2453635748, 2870763221, 3624381080, 310598401, 607225278, 1426881987, 1925078388, 2162078206, 2614888103, 3248222580, 3835390401, 4022224774, 264347078, 604807628, 770255983, 1249150122, 1555081692, 1996064986, 2554220882, 2821834349, 2952996808, 3210313671, 3336571891, 3584528711, 113926993, 338241895, 666307205, 773529912, 1294757372, 1396182291, 1695183700, 1986661051, 2177026350, 2456956037, 2730485921, 2820302411, 3259730800, 3345764771, 3516065817, 3600352804, 4094571909, 275423344, 430227734, 506948616, 659060556, 883997877, 958139571, 1322822218, 1537002063, 1747873779, 1955562222, 2024104815, 2227730452, 2361852424, 2428436474, 2756734187, 3204031479, 3329325298]
def KsLie (w : World) : Prop := ∀ i, i < 64 → w.cell? ⟨9, i, none⟩ = some (.int .u32 ((Ks.getD i 0 : Nat) : Int))
theorem KsLie.below {w w' : World} (h : KsLie w) (hb : Below w.heap.size w w') : KsLie w' := fun i hi => cell_later hb (h i hi)
theorem Ks_lt (i : Nat) : Ks.getD i 0 < 4294967296 := getD_lt (by decide) i

/-- The state behind so many rounds. -/
def rnds (ws : List Nat) (v : St) : Nat → St
  | 0 => v
  | t + 1 => (rnds ws v t).rnd (ws.getD t 0 + Ks.getD t 0)
theorem rnds_ok {ws : List Nat} {v : St} (h : v.ok) : ∀ t, (rnds ws v t).ok
  | 0 => h
  | t + 1 => St.rnd_ok (rnds_ok h t) _

attribute [local go_sem] setCell_drewN alloc_drewN
attribute [local go_sem] Go.wp_at_zero Go.wp_at_succ

theorem cells8 {w : World} {g : Nat} {t : TypeId} {x : St} (h : w.heap[g]? = some (.cells x.arr t (0, 0))) :
    (w.cell? ⟨g, 0, none⟩ = some (.int .u32 x.a) ∧ w.cell? ⟨g, 1, none⟩ = some (.int .u32 x.b) ∧ w.cell? ⟨g, 2, none⟩ = some (.int .u32 x.c) ∧ w.cell? ⟨g, 3, none⟩ = some (.int .u32 x.d) ∧ w.cell? ⟨g, 4, none⟩ = some (.int .u32 x.e) ∧ w.cell? ⟨g, 5, none⟩ = some (.int .u32 x.f) ∧ w.cell? ⟨g, 6, none⟩ = some (.int .u32 x.g) ∧ w.cell? ⟨g, 7, none⟩ = some (.int .u32 x.q)) ∧ ∀ j, w.frozen? ⟨g, j, none⟩ = false := by
  refine ⟨?_, fun j => frozen_of_row w g j _ _ h⟩
  refine ⟨?_, ?_, ?_, ?_, ?_, ?_, ?_, ?_⟩ <;> (rw [cell_of_row w g _ _ t _ h]; rfl)
theorem block8 {w : World} {g : Nat} {t : TypeId} {x : St} (y : St) (h : w.heap[g]? = some (.cells x.arr t (0, 0))) :
    ((((((((w.setCell ⟨g, 0, none⟩ (.int .u32 y.a)).setCell ⟨g, 1, none⟩ (.int .u32 y.b)).setCell ⟨g, 2, none⟩ (.int .u32 y.c)).setCell ⟨g, 3, none⟩ (.int .u32 y.d)).setCell ⟨g, 4, none⟩ (.int .u32 y.e)).setCell ⟨g, 5, none⟩ (.int .u32 y.f)).setCell ⟨g, 6, none⟩ (.int .u32 y.g)).setCell ⟨g, 7, none⟩ (.int .u32 y.q)).heap[g]? = some (.cells y.arr t (0, 0)) :=
  heap_setCells_all (cs := y.arr) h rfl
theorem below8 {w a : World} {g B : Nat} (y : St) (h : Below B a w) (hg : B ≤ g) :
    Below B a ((((((((w.setCell ⟨g, 0, none⟩ (.int .u32 y.a)).setCell ⟨g, 1, none⟩ (.int .u32 y.b)).setCell ⟨g, 2, none⟩ (.int .u32 y.c)).setCell ⟨g, 3, none⟩ (.int .u32 y.d)).setCell ⟨g, 4, none⟩ (.int .u32 y.e)).setCell ⟨g, 5, none⟩ (.int .u32 y.f)).setCell ⟨g, 6, none⟩ (.int .u32 y.g)).setCell ⟨g, 7, none⟩ (.int .u32 y.q)) :=
  below_setCells (g := g) hg y.arr.toList 0 w h
/-- The words of a state, so many of them added to another one's. -/
def pl (v y : St) (k : Nat) : List Nat := (List.range 8).map fun i => if i < k then (v.list.getD i 0 + y.list.getD i 0) % 4294967296 else v.list.getD i 0
theorem pl_len (v y : St) (k : Nat) : (pl v y k).length = 8 := by simp [pl]
theorem pl_zero (v y : St) : u32s (pl v y 0) = v.arr := rfl
theorem pl_at (v y : St) (k : Nat) (h : k < 8) : (pl v y k).getD k 0 = v.list.getD k 0 := by
  simp [pl, List.getD_eq_getElem?_getD, h]
theorem pl_succ (v y : St) (k : Nat) (h : k < 8) : (u32s (pl v y k)).setIfInBounds k (.int .u32 (((v.list.getD k 0 + y.list.getD k 0) % 4294967296 : Nat) : Int)) = u32s (pl v y (k + 1)) := by
  match k, h with
  | 0, _ => rfl
  | 1, _ => rfl
  | 2, _ => rfl
  | 3, _ => rfl
  | 4, _ => rfl
  | 5, _ => rfl
  | 6, _ => rfl
  | 7, _ => rfl
def St.add (v y : St) : St := { a := (v.a + y.a) % 4294967296, b := (v.b + y.b) % 4294967296, c := (v.c + y.c) % 4294967296, d := (v.d + y.d) % 4294967296, e := (v.e + y.e) % 4294967296, f := (v.f + y.f) % 4294967296, g := (v.g + y.g) % 4294967296, q := (v.q + y.q) % 4294967296 }
theorem pl_all (v y : St) : u32s (pl v y 8) = (v.add y).arr := rfl
theorem St.add_ok (v y : St) : (v.add y).ok := ⟨Nat.mod_lt _ (by decide), Nat.mod_lt _ (by decide), Nat.mod_lt _ (by decide), Nat.mod_lt _ (by decide), Nat.mod_lt _ (by decide), Nat.mod_lt _ (by decide), Nat.mod_lt _ (by decide), Nat.mod_lt _ (by decide)⟩
/-- What a block of 64 bytes makes of the state. -/
def mixB (v : St) (l : List UInt8) : St := v.add (rnds (sch l 64) v 64)
theorem after_store {w1 W3 : World} {Z U : Array Value} {t : TypeId} (h : (w1.alloc (.cells Z t)).setCells w1.heap.size 0 U.toList = W3) (hs : U.size = Z.size) : W3.heap[w1.heap.size]? = some (.cells U t (0, 0)) ∧ Below w1.heap.size w1 W3 ∧ w1.heap.size < W3.heap.size := by
  subst h
  have hb := below_setCells (B := w1.heap.size) (g := w1.heap.size) (Nat.le_refl _) U.toList 0 (w1.alloc (.cells Z t)) ((Below.refl _ _).alloc (Nat.le_refl _) _)
  have hh := heap_setCells_all (cs := U) (heap_alloc_new w1 (.cells Z t)) hs
  exact ⟨hh, hb, (Array.getElem?_eq_some_iff.1 hh).1⟩

end Go.Proofs.YtjofjcjojgpaeaaGreatDoor
