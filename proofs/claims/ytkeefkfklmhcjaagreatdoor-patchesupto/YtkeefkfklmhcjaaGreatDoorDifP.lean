import Derived.Test.YtkeefkfklmhcjaaGreatDoorPre
import Derived.Test.YtkeefkfklmhcjaaGreatDoorEqS
namespace Go.Proofs.YtkeefkfklmhcjaaGreatDoor
open Go.RowKit

/-- The bytes of an entry's path. -/
def Ent.pt (e : Ent) : List UInt8 := e.path.data.toList
/-- The entry at a path. -/
def atE (es : List Ent) (p : List UInt8) : Option Ent := es.find? fun e => e.path.data.toList == p
theorem atE_some {es : List Ent} {p : List UInt8} {e : Ent} (h : atE es p = some e) : e ∈ es ∧ e.path.data.toList = p :=
  ⟨List.mem_of_find?_eq_some h, by simpa using List.find?_some h⟩
theorem atE_none {es : List Ent} {p : List UInt8} (h : atE es p = none) : ∀ e ∈ es, e.path.data.toList ≠ p := fun e he => by
  simpa using List.find?_eq_none.1 h e he
theorem atE_miss {es : List Ent} {p : List UInt8} (h : ∀ e ∈ es, e.path.data.toList ≠ p) : atE es p = none := by
  rw [atE, List.find?_eq_none]; intro e he; simpa using h e he
theorem atIs_cases {es : List Ent} {p : List UInt8} {r : Int} (h : AtIs es p r) : (r = -1 ∧ atE es p = none) ∨ ∃ (i : Nat) (e : Ent), r = i ∧ es[i]? = some e ∧ atE es p = some e ∧ e.path.data.toList = p := by
  rcases h with ⟨h1, h2⟩ | ⟨i, e, h1, h2, h3, h4⟩
  · exact .inl ⟨h1, atE_miss h2⟩
  · exact .inr ⟨i, e, h1, h2, find_first h2 h3 h4, h3⟩
theorem kindP_at {es : List Ent} {p : List UInt8} (hp : p ≠ []) : kindP es p = match atE es p with | some e => e.kind | none => 0 := by
  rw [kindP, if_neg hp]; rfl
theorem Tree.at {es : List Ent} (h : Tree es) {e : Ent} (he : e ∈ es) : atE es e.path.data.toList = some e := by
  cases ha : atE es e.path.data.toList with
  | none => exact absurd rfl (atE_none ha e he)
  | some d =>
    obtain ⟨hd, hp⟩ := atE_some ha
    obtain ⟨i, hi, rfl⟩ := List.getElem_of_mem he
    obtain ⟨j, hj, rfl⟩ := List.getElem_of_mem hd
    have := path_inj h.ok hj hi (List.getElem?_eq_getElem hj) (List.getElem?_eq_getElem hi) hp
    subst this
    rfl
/-- A mark. -/
def markE (p : List UInt8) (k : Int) : Ent := ⟨⟨p.toArray⟩, k, 0, ⟨#[]⟩⟩
/-- Is a directory cleared? -/
def clrF (xa xb : List Ent) (p : List UInt8) : Bool := decide (kindP xa p = 1) && decide (kindP xb p = 1) && (kidsE xa p).all (fun c => decide (kindP xb c.path.data.toList = 0)) && decide (1 < (kidsE xa p).length)
def putF (xa xb : List Ent) (p : List UInt8) : List Ent := match atE xb p with
  | none => []
  | some y => match atE xa p with
    | none => [y]
    | some x => if eqE x y = true then [] else [y]
def goneF (xa xb : List Ent) (p : List UInt8) : Bool := (atE xa p).isSome && (atE xb p).isNone && decide (kindP xb (dirOf p) = 1) && !clrF xa xb (dirOf p)
/-- What is told at a path. -/
def stepF (xa xb : List Ent) (p : List UInt8) : List Ent := putF xa xb p ++ (if clrF xa xb p = true then [markE p 5] else []) ++ (if goneF xa xb p = true then [markE p 4] else [])
theorem stepF_len (xa xb : List Ent) (p : List UInt8) : (stepF xa xb p).length ≤ 3 := by
  have h1 : (putF xa xb p).length ≤ 1 := by
    unfold putF
    split
    · simp
    · split
      · simp
      · split <;> simp
  have h2 : (if clrF xa xb p = true then [markE p 5] else []).length ≤ 1 := by split <;> simp
  have h3 : (if goneF xa xb p = true then [markE p 4] else []).length ≤ 1 := by split <;> simp
  simp only [stepF, List.length_append]
  omega
/-- The paths of both, in order. -/
def mrg : List (List UInt8) → List (List UInt8) → List (List UInt8)
  | [], ys => ys
  | x :: xs, [] => x :: xs
  | x :: xs, y :: ys => if ltP x y = true then x :: mrg xs (y :: ys) else if ltP y x = true then y :: mrg (x :: xs) ys else x :: mrg xs ys
theorem mrg_mem : ∀ (xs ys : List (List UInt8)) (z : List UInt8), z ∈ mrg xs ys ↔ z ∈ xs ∨ z ∈ ys
  | [], ys, z => by simp [mrg]
  | x :: xs, [], z => by simp [mrg]
  | x :: xs, y :: ys, z => by
    rw [mrg]
    by_cases h1 : ltP x y = true
    · rw [if_pos h1, List.mem_cons, mrg_mem xs (y :: ys), List.mem_cons (l := xs), or_assoc]
    · rw [if_neg h1]
      by_cases h2 : ltP y x = true
      · rw [if_pos h2, List.mem_cons, mrg_mem (x :: xs) ys, List.mem_cons (l := ys)]
        constructor
        · rintro (h | h | h)
          · exact .inr (.inl h)
          · exact .inl h
          · exact .inr (.inr h)
        · rintro (h | h | h)
          · exact .inr (.inl h)
          · exact .inl h
          · exact .inr (.inr h)
      · have e : x = y := totP.one (by simpa using h1) (by simpa using h2)
        subst e
        rw [if_neg h2, List.mem_cons, mrg_mem xs ys, List.mem_cons, List.mem_cons]
        constructor
        · rintro (h | h | h)
          · exact .inl (.inl h)
          · exact .inl (.inr h)
          · exact .inr (.inr h)
        · rintro ((h | h) | (h | h))
          · exact .inl h
          · exact .inr (.inl h)
          · exact .inl h
          · exact .inr (.inr h)
theorem mrg_len : ∀ (xs ys : List (List UInt8)), (mrg xs ys).length ≤ xs.length + ys.length
  | [], ys => by simp [mrg]
  | x :: xs, [] => by simp [mrg]
  | x :: xs, y :: ys => by
    rw [mrg]
    split
    · have := mrg_len xs (y :: ys); simp at this ⊢; omega
    · split
      · have := mrg_len (x :: xs) ys; simp at this ⊢; omega
      · have := mrg_len xs ys; simp at this ⊢; omega
theorem mrg_rising : ∀ {xs ys : List (List UInt8)}, xs.Pairwise (fun x y => ltP x y = true) → ys.Pairwise (fun x y => ltP x y = true) → (mrg xs ys).Pairwise fun x y => ltP x y = true
  | [], ys, _, h => by rw [mrg]; exact h
  | x :: xs, [], h, _ => by rw [mrg]; exact h
  | x :: xs, y :: ys, hx, hy => by
    have hx' := List.pairwise_cons.1 hx
    have hy' := List.pairwise_cons.1 hy
    rw [mrg]
    by_cases h1 : ltP x y = true
    · rw [if_pos h1, List.pairwise_cons]
      refine ⟨fun z hz => ?_, mrg_rising hx'.2 hy⟩
      rcases (mrg_mem _ _ _).1 hz with h | h
      · exact hx'.1 z h
      · rcases List.mem_cons.1 h with rfl | h
        · exact h1
        · exact totP.trans h1 (hy'.1 z h)
    · rw [if_neg h1]
      by_cases h2 : ltP y x = true
      · rw [if_pos h2, List.pairwise_cons]
        refine ⟨fun z hz => ?_, mrg_rising hx hy'.2⟩
        rcases (mrg_mem _ _ _).1 hz with h | h
        · rcases List.mem_cons.1 h with rfl | h
          · exact h2
          · exact totP.trans h2 (hx'.1 z h)
        · exact hy'.1 z h
      · have e : x = y := totP.one (by simpa using h1) (by simpa using h2)
        subst e
        rw [if_neg h2, List.pairwise_cons]
        refine ⟨fun z hz => ?_, mrg_rising hx'.2 hy'.2⟩
        rcases (mrg_mem _ _ _).1 hz with h | h
        · exact hx'.1 z h
        · exact hy'.1 z h
def ptsE (es : List Ent) : List (List UInt8) := es.map fun e => e.path.data.toList
/-- The root, and the paths of both. -/
def allP (xa xb : List Ent) : List (List UInt8) := [] :: mrg (ptsE xa) (ptsE xb)
/-- What makes one tree of the other. -/
def diffF (xa xb : List Ent) : List Ent := ((allP xa xb).map (stepF xa xb)).flatten
theorem pts_rising {es : List Ent} (h : Tree es) : (ptsE es).Pairwise fun x y => ltP x y = true := by
  rw [ptsE, List.pairwise_map, List.pairwise_iff_getElem]
  intro i j hi hj hij
  exact ord_lt h.ok j i es[i] es[j] hij hj (List.getElem?_eq_getElem hi) (List.getElem?_eq_getElem hj)
theorem pts_ne {es : List Ent} (h : Tree es) : ∀ p ∈ ptsE es, p ≠ [] := fun p hp => by
  obtain ⟨e, he, rfl⟩ := List.mem_map.1 hp
  exact (h.path he).1
theorem ltP_root {p : List UInt8} (h : p ≠ []) : ltP [] p = true := by
  rw [ltP, prt_nil]; exact ltL_nil (prt_some h)
theorem allP_rising {xa xb : List Ent} (ha : Tree xa) (hb : Tree xb) : (allP xa xb).Pairwise fun x y => ltP x y = true := by
  rw [allP, List.pairwise_cons]
  refine ⟨fun p hp => ltP_root ?_, mrg_rising (pts_rising ha) (pts_rising hb)⟩
  rcases (mrg_mem _ _ _).1 hp with h | h
  · exact pts_ne ha p h
  · exact pts_ne hb p h
/-- What is sorted and made apart is the same list. -/
theorem sorted_all {xa xb : List Ent} (ha : Tree xa) (hb : Tree xb) {zs : List (List UInt8)} (hs : zs.Pairwise fun x y => ltP y x = false) (hm : ∀ p, p ∈ zs ↔ p = [] ∨ p ∈ ptsE xa ∨ p ∈ ptsE xb) : Lib.compact zs = allP xa xb := by
  obtain ⟨h1, h2⟩ := compact_rising totP zs hs
  refine rising_one totP h1 (allP_rising ha hb) fun p => ?_
  rw [h2, hm, allP, List.mem_cons, mrg_mem]
theorem allP_mem {xa xb : List Ent} {p : List UInt8} : p ∈ allP xa xb ↔ p = [] ∨ p ∈ ptsE xa ∨ p ∈ ptsE xb := by rw [allP, List.mem_cons, mrg_mem]
theorem allP_len {xa xb : List Ent} (ha : Tree xa) (hb : Tree xb) : (allP xa xb).length ≤ 81 := by
  have := mrg_len (ptsE xa) (ptsE xb)
  have h1 : (ptsE xa).length = xa.length := by simp [ptsE]
  have h2 : (ptsE xb).length = xb.length := by simp [ptsE]
  have := ha.len
  have := hb.len
  simp only [allP, List.length_cons]
  omega
theorem diffF_len (xa xb : List Ent) : ∀ l : List (List UInt8), ((l.map (stepF xa xb)).flatten).length ≤ l.length * 3
  | [] => by simp
  | p :: l => by
    have h1 := stepF_len xa xb p
    have h2 := diffF_len xa xb l
    simp only [List.map_cons, List.flatten_cons, List.length_append, List.length_cons]
    omega
end Go.Proofs.YtkeefkfklmhcjaaGreatDoor
