import Derived.Test.YtephkedlihediabGreatDoorJPure
import Derived.Test.YtephkedlihediabGreatDoorJEach
namespace Go.Proofs.YtephkedlihediabGreatDoor
open Go.RowKit

/-- The bytes of an entry's path. -/
def Ent.pt (e : Ent) : List UInt8 := e.path.data.toList
/-- The entry at a path. -/
def atE (es : List Ent) (p : List UInt8) : Option Ent := es.find? fun e => e.path.data.toList == p
theorem atE_some {es : List Ent} {p : List UInt8} {e : Ent} (h : atE es p = some e) : e ∈ es ∧ e.path.data.toList = p :=
  ⟨List.mem_of_find?_eq_some h, by simpa using List.find?_some h⟩
theorem atE_none {es : List Ent} {p : List UInt8} (h : atE es p = none) : ∀ e ∈ es, e.path.data.toList ≠ p := fun e he => by
  simpa using List.find?_eq_none.1 h e he
theorem atE_miss {es : List Ent} {p : List UInt8} (h : ∀ e ∈ es, e.path.data.toList ≠ p) : atE es p = none := by
  rw [atE, List.find?_eq_none]; intro e he; simpa using h e he
theorem atIs_cases {es : List Ent} {p : List UInt8} {r : Int} (h : AtIs es p r) : (r = -1 ∧ atE es p = none) ∨ ∃ (i : Nat) (e : Ent), r = i ∧ es[i]? = some e ∧ atE es p = some e ∧ e.path.data.toList = p := by
  rcases h with ⟨h1, h2⟩ | ⟨i, e, h1, h2, h3, h4⟩
  · exact .inl ⟨h1, atE_miss h2⟩
  · exact .inr ⟨i, e, h1, h2, find_first h2 h3 h4, h3⟩
theorem kindP_at {es : List Ent} {p : List UInt8} (hp : p ≠ []) : kindP es p = match atE es p with | some e => e.kind | none => 0 := by
  rw [kindP, if_neg hp]; rfl
theorem Tree.at {es : List Ent} (h : Tree es) {e : Ent} (he : e ∈ es) : atE es e.path.data.toList = some e := by
  cases ha : atE es e.path.data.toList with
  | none => exact absurd rfl (atE_none ha e he)
  | some d =>
    obtain ⟨hd, hp⟩ := atE_some ha
    obtain ⟨i, hi, rfl⟩ := List.getElem_of_mem he
    obtain ⟨j, hj, rfl⟩ := List.getElem_of_mem hd
    have := path_inj h.ok hj hi (List.getElem?_eq_getElem hj) (List.getElem?_eq_getElem hi) hp
    subst this
    rfl
/-- A mark. -/
def markE (p : List UInt8) (k : Int) : Ent := ⟨⟨p.toArray⟩, k, 0, ⟨#[]⟩⟩
/-- Is a directory cleared? -/
def clrF (xa xb : List Ent) (p : List UInt8) : Bool := decide (kindP xa p = 1) && decide (kindP xb p = 1) && (kidsE xa p).all (fun c => decide (kindP xb c.path.data.toList = 0)) && decide (1 < (kidsE xa p).length)
def putF (xa xb : List Ent) (p : List UInt8) : List Ent := match atE xb p with
  | none => []
  | some y => match atE xa p with
    | none => [y]
    | some x => if eqE x y = true then [] else [y]
def goneF (xa xb : List Ent) (p : List UInt8) : Bool := (atE xa p).isSome && (atE xb p).isNone && decide (kindP xb (dirOf p) = 1) && !clrF xa xb (dirOf p)
/-- What is told at a path. -/
def stepF (xa xb : List Ent) (p : List UInt8) : List Ent := putF xa xb p ++ (if clrF xa xb p = true then [markE p 5] else []) ++ (if goneF xa xb p = true then [markE p 4] else [])
theorem stepF_len (xa xb : List Ent) (p : List UInt8) : (stepF xa xb p).length ≤ 3 := by
  have h1 : (putF xa xb p).length ≤ 1 := by
    unfold putF
    split
    · simp
    · split
      · simp
      · split <;> simp
  have h2 : (if clrF xa xb p = true then [markE p 5] else []).length ≤ 1 := by split <;> simp
  have h3 : (if goneF xa xb p = true then [markE p 4] else []).length ≤ 1 := by split <;> simp
  simp only [stepF, List.length_append]
  omega
/-- The paths of both, in order. -/
def mrg : List (List UInt8) → List (List UInt8) → List (List UInt8)
  | [], ys => ys
  | x :: xs, [] => x :: xs
  | x :: xs, y :: ys => if ltP x y = true then x :: mrg xs (y :: ys) else if ltP y x = true then y :: mrg (x :: xs) ys else x :: mrg xs ys
termination_by xs ys => xs.length + ys.length
theorem mrg_mem : ∀ (xs ys : List (List UInt8)) (z : List UInt8), z ∈ mrg xs ys ↔ z ∈ xs ∨ z ∈ ys
  | [], ys, z => by simp [mrg]
  | x :: xs, [], z => by simp [mrg]
  | x :: xs, y :: ys, z => by
    rw [mrg]
    by_cases h1 : ltP x y = true
    · rw [if_pos h1, List.mem_cons, mrg_mem xs (y :: ys), List.mem_cons (l := xs), or_assoc]
    · rw [if_neg h1]
      by_cases h2 : ltP y x = true
      · rw [if_pos h2, List.mem_cons, mrg_mem (x :: xs) ys, List.mem_cons (l := ys)]
        constructor
        · rintro (h | h | h)
          · exact .inr (.inl h)
          · exact .inl h
          · exact .inr (.inr h)
        · rintro (h | h | h)
          · exact .inr (.inl h)
          · exact .inl h
          · exact .inr (.inr h)
      · have e : x = y := totP.one (by simpa using h1) (by simpa using h2)
        subst e
        rw [if_neg h2, List.mem_cons, mrg_mem xs ys, List.mem_cons, List.mem_cons]
        constructor
        · rintro (h | h | h)
          · exact .inl (.inl h)
          · exact .inl (.inr h)
          · exact .inr (.inr h)
        · rintro ((h | h) | (h | h))
          · exact .inl h
          · exact .inr (.inl h)
          · exact .inl h
          · exact .inr (.inr h)
termination_by xs ys => xs.length + ys.length
theorem mrg_len : ∀ (xs ys : List (List UInt8)), (mrg xs ys).length ≤ xs.length + ys.length
  | [], ys => by simp [mrg]
  | x :: xs, [] => by simp [mrg]
  | x :: xs, y :: ys => by
    rw [mrg]
    split
    · have := mrg_len xs (y :: ys); simp at this ⊢; omega
    · split
      · have := mrg_len (x :: xs) ys; simp at this ⊢; omega
      · have := mrg_len xs ys; simp at this ⊢; omega
termination_by xs ys => xs.length + ys.length
theorem mrg_rising : ∀ {xs ys : List (List UInt8)}, xs.Pairwise (fun x y => ltP x y = true) → ys.Pairwise (fun x y => ltP x y = true) → (mrg xs ys).Pairwise fun x y => ltP x y = true
  | [], ys, _, h => by rw [mrg]; exact h
  | x :: xs, [], h, _ => by rw [mrg]; exact h
  | x :: xs, y :: ys, hx, hy => by
    have hx' := List.pairwise_cons.1 hx
    have hy' := List.pairwise_cons.1 hy
    rw [mrg]
    by_cases h1 : ltP x y = true
    · rw [if_pos h1, List.pairwise_cons]
      refine ⟨fun z hz => ?_, mrg_rising hx'.2 hy⟩
      rcases (mrg_mem _ _ _).1 hz with h | h
      · exact hx'.1 z h
      · rcases List.mem_cons.1 h with rfl | h
        · exact h1
        · exact totP.trans h1 (hy'.1 z h)
    · rw [if_neg h1]
      by_cases h2 : ltP y x = true
      · rw [if_pos h2, List.pairwise_cons]
        refine ⟨fun z hz => ?_, mrg_rising hx hy'.2⟩
        rcases (mrg_mem _ _ _).1 hz with h | h
        · rcases List.mem_cons.1 h with rfl | h
          · exact h2
          · exact totP.trans h2 (hx'.1 z h)
        · exact hy'.1 z h
      · have e : x = y := totP.one (by simpa using h1) (by simpa using h2)
        subst e
        rw [if_neg h2, List.pairwise_cons]
        refine ⟨fun z hz => ?_, mrg_rising hx'.2 hy'.2⟩
        rcases (mrg_mem _ _ _).1 hz with h | h
        · exact hx'.1 z h
        · exact hy'.1 z h
termination_by xs ys => xs.length + ys.length
def ptsE (es : List Ent) : List (List UInt8) := es.map fun e => e.path.data.toList
/-- The root, and the paths of both. -/
def allP (xa xb : List Ent) : List (List UInt8) := [] :: mrg (ptsE xa) (ptsE xb)
/-- What makes one tree of the other. -/
def diffF (xa xb : List Ent) : List Ent := ((allP xa xb).map (stepF xa xb)).flatten
theorem pts_rising {es : List Ent} (h : Tree es) : (ptsE es).Pairwise fun x y => ltP x y = true := by
  rw [ptsE, List.pairwise_map, List.pairwise_iff_getElem]
  intro i j hi hj hij
  exact ord_lt h.ok j i es[i] es[j] hij hj (List.getElem?_eq_getElem hi) (List.getElem?_eq_getElem hj)
theorem pts_ne {es : List Ent} (h : Tree es) : ∀ p ∈ ptsE es, p ≠ [] := fun p hp => by
  obtain ⟨e, he, rfl⟩ := List.mem_map.1 hp
  exact (h.path he).1
theorem ltP_root {p : List UInt8} (h : p ≠ []) : ltP [] p = true := by
  rw [ltP, prt_nil]; exact ltL_nil (prt_some h)
theorem allP_rising {xa xb : List Ent} (ha : Tree xa) (hb : Tree xb) : (allP xa xb).Pairwise fun x y => ltP x y = true := by
  rw [allP, List.pairwise_cons]
  refine ⟨fun p hp => ltP_root ?_, mrg_rising (pts_rising ha) (pts_rising hb)⟩
  rcases (mrg_mem _ _ _).1 hp with h | h
  · exact pts_ne ha p h
  · exact pts_ne hb p h
/-- What is sorted and made apart is the same list. -/
theorem sorted_all {xa xb : List Ent} (ha : Tree xa) (hb : Tree xb) {zs : List (List UInt8)} (hs : zs.Pairwise fun x y => ltP y x = false) (hm : ∀ p, p ∈ zs ↔ p = [] ∨ p ∈ ptsE xa ∨ p ∈ ptsE xb) : Lib.compact zs = allP xa xb := by
  obtain ⟨h1, h2⟩ := compact_rising totP zs hs
  refine rising_one totP h1 (allP_rising ha hb) fun p => ?_
  rw [h2, hm, allP, List.mem_cons, mrg_mem]
theorem allP_mem {xa xb : List Ent} {p : List UInt8} : p ∈ allP xa xb ↔ p = [] ∨ p ∈ ptsE xa ∨ p ∈ ptsE xb := by rw [allP, List.mem_cons, mrg_mem]
theorem allP_len {xa xb : List Ent} (ha : Tree xa) (hb : Tree xb) : (allP xa xb).length ≤ 81 := by
  have := mrg_len (ptsE xa) (ptsE xb)
  have h1 : (ptsE xa).length = xa.length := by simp [ptsE]
  have h2 : (ptsE xb).length = xb.length := by simp [ptsE]
  have := ha.len
  have := hb.len
  simp only [allP, List.length_cons]
  omega
theorem diffF_len (xa xb : List Ent) : ∀ l : List (List UInt8), ((l.map (stepF xa xb)).flatten).length ≤ l.length * 3
  | [] => by simp
  | p :: l => by
    have h1 := stepF_len xa xb p
    have h2 := diffF_len xa xb l
    simp only [List.map_cons, List.flatten_cons, List.length_append, List.length_cons]
    omega
end Go.Proofs.YtephkedlihediabGreatDoor

namespace Go.Proofs.YtephkedlihediabGreatDoor
open Go.RowKit

theorem under_trans {p q r : List UInt8} (h1 : under p q) (h2 : under q r) : under p r := by
  obtain ⟨a, u, e1⟩ := h1
  obtain ⟨b, v, e2⟩ := h2
  exact ⟨a, u ++ b :: v, by rw [e2, e1]; simp⟩
theorem under_lt {p q : List UInt8} (h : under p q) : ltP p q = true := by
  obtain ⟨a, u, e⟩ := h
  rw [ltP, e]; exact ltL_more _ _ _
theorem under_not_lt {p q : List UInt8} (h : under p q) : ltP q p = false := by
  cases h2 : ltP q p
  · rfl
  · have := totP.trans (under_lt h) h2
    rw [totP.irr] at this; cases this
theorem not_under_self (p : List UInt8) : ¬ under p p := fun h => by
  have := under_lt h
  rw [totP.irr] at this; cases this
/-- A path that has a directory and a last element. -/
def Parted (z : List UInt8) : Prop := prt z = prt (dirOf z) ++ [nameOf z]
theorem Parted.under {z : List UInt8} (h : Parted z) : under (dirOf z) z := ⟨_, [], h⟩
theorem Parted.up {z p : List UInt8} (h : Parted z) (hu : Go.Proofs.YtephkedlihediabGreatDoor.under p z) : p = dirOf z ∨ Go.Proofs.YtephkedlihediabGreatDoor.under p (dirOf z) := by
  obtain ⟨a, u, e⟩ := hu
  rw [h] at e
  rcases List.eq_nil_or_concat u with rfl | ⟨u', l, rfl⟩
  · exact .inl (prt_inj (List.append_inj' e rfl).1.symm)
  · right
    have e2 : prt (dirOf z) ++ [nameOf z] = (prt p ++ a :: u') ++ [l] := by rw [e]; simp
    exact ⟨a, u', (List.append_inj' e2 rfl).1⟩
theorem Parted.eq {y z : List UInt8} (hy : Parted y) (hz : Parted z) (h1 : dirOf y = dirOf z) (h2 : nameOf y = nameOf z) : y = z := prt_inj (by rw [hy, hz, h1, h2])
theorem Parted.lt {y z : List UInt8} (hy : Parted y) (hz : Parted z) (h1 : dirOf y = dirOf z) : ltP y z = Op.bytesLess (nameOf y) (nameOf z) := by
  rw [ltP, hy, hz, h1, ltL_snoc]
theorem parted_of {e : Ent} (h : entOk e = true) : Parted e.path.data.toList := prt_up (ent_parts h).2.1 (ent_parts h).1

/-- What a tree is, in words without numbers. -/
structure TreeS (es : List Ent) : Prop where
  ord : es.Pairwise fun x y => ltP x.path.data.toList y.path.data.toList = true
  ent : ∀ e ∈ es, entOk e = true
  dir : ∀ e ∈ es, dirOf e.path.data.toList = [] ∨ ∃ d ∈ es, d.path.data.toList = dirOf e.path.data.toList ∧ d.kind = 1
theorem treeS_of {es : List Ent} (h : OkTo es es.length) : TreeS es := by
  refine ⟨?_, fun e he => ?_, fun e he => ?_⟩
  · rw [List.pairwise_iff_getElem]
    intro i j hi hj hij
    exact ord_lt h j i es[i] es[j] hij hj (List.getElem?_eq_getElem hi) (List.getElem?_eq_getElem hj)
  · obtain ⟨k, hk, rfl⟩ := List.getElem_of_mem he
    exact (ok_parts (List.getElem?_eq_getElem hk) (h k hk)).ent
  · obtain ⟨k, hk, rfl⟩ := List.getElem_of_mem he
    by_cases hd : dirOf es[k].path.data.toList = []
    · exact .inl hd
    · obtain ⟨d, hm, hp, hk1⟩ := kindP_one (ok_parts (List.getElem?_eq_getElem hk) (h k hk)).dir hd
      exact .inr ⟨d, List.mem_of_mem_take hm, hp, hk1⟩
theorem TreeS.one {es : List Ent} (h : TreeS es) {d e : Ent} (hd : d ∈ es) (he : e ∈ es) (hp : d.path.data.toList = e.path.data.toList) : d = e := by
  obtain ⟨i, hi, rfl⟩ := List.getElem_of_mem hd
  obtain ⟨j, hj, rfl⟩ := List.getElem_of_mem he
  have ho := List.pairwise_iff_getElem.1 h.ord
  rcases Nat.lt_trichotomy i j with hl | rfl | hl
  · have := ho i j hi hj hl; rw [hp, totP.irr] at this; cases this
  · rfl
  · have := ho j i hj hi hl; rw [hp, totP.irr] at this; cases this
theorem TreeS.at {es : List Ent} (h : TreeS es) {e : Ent} (he : e ∈ es) : atE es e.path.data.toList = some e := by
  cases hf : atE es e.path.data.toList with
  | none => exact absurd rfl (atE_none hf e he)
  | some d =>
    have := atE_some hf
    rw [h.one this.1 he this.2]
theorem TreeS.kind {es : List Ent} (h : TreeS es) (p : List UInt8) : kindP es p = 1 ↔ p = [] ∨ ∃ d ∈ es, d.path.data.toList = p ∧ d.kind = 1 := by
  by_cases hp : p = []
  · subst hp; simp [kindP]
  · rw [kindP_at hp]
    constructor
    · intro h1
      cases hf : atE es p with
      | none => rw [hf] at h1; cases h1
      | some d => rw [hf] at h1; exact .inr ⟨d, (atE_some hf).1, (atE_some hf).2, h1⟩
    · rintro (h1 | ⟨d, hd, rfl, hk⟩)
      · exact absurd h1 hp
      · rw [h.at hd]; exact hk
theorem TreeS.ok {es : List Ent} (h : TreeS es) : OkTo es es.length := by
  intro i hi
  have he : es[i]? = some es[i] := List.getElem?_eq_getElem hi
  have hm : es[i] ∈ es := List.getElem_mem hi
  have hP := parted_of (h.ent _ hm)
  rw [okG_eq he]
  simp only [Bool.and_eq_true, Bool.or_eq_true, decide_eq_true_eq]
  refine ⟨⟨h.ent _ hm, ?_⟩, ?_⟩
  · by_cases h0 : i = 0
    · exact .inl h0
    · right
      rw [List.getElem?_eq_getElem (by omega)]
      exact List.pairwise_iff_getElem.1 h.ord (i - 1) i (by omega) hi (by omega)
  · by_cases hd0 : dirOf es[i].path.data.toList = []
    · rw [hd0]; rfl
    · rcases h.dir _ hm with h1 | ⟨d, hd, hp, hk⟩
      · exact absurd h1 hd0
      · obtain ⟨j, hj, rfl⟩ := List.getElem_of_mem hd
        have hji : j < i := by
          rcases Nat.lt_or_ge j i with h1 | h1
          · exact h1
          · exfalso
            have hu : ltP es[j].path.data.toList es[i].path.data.toList = true := by rw [hp]; exact under_lt hP.under
            rcases Nat.lt_or_ge i j with h2 | h2
            · have := totP.trans hu (List.pairwise_iff_getElem.1 h.ord i j hi hj h2)
              rw [totP.irr] at this; cases this
            · have : i = j := by omega
              subst this
              rw [totP.irr] at hu; cases hu
        rw [kindP_at hd0]
        have hin : es[j] ∈ es.take i := List.mem_take_iff_getElem.2 ⟨j, by omega, rfl⟩
        cases hf : atE (es.take i) (dirOf es[i].path.data.toList) with
        | none => exact absurd hp (atE_none hf _ hin)
        | some d =>
          have h3 := atE_some hf
          rw [h.one (List.mem_of_mem_take h3.1) hd (h3.2.trans hp.symm)]
          exact hk

/-- What stays where a path is taken away (self: it, too). -/
def keepW (p : List UInt8) (self : Bool) (q : List UInt8) : Bool := !(underB p q || (self && q == p))
/-- What stays behind an entry that is put. -/
def keepPut (both : Bool) (p q : List UInt8) : Bool := ltP p q && (both || !underB p q)
def woG {α : Type} (f : α → List UInt8) (l : List α) (p : List UInt8) (self : Bool) : List α := l.filter fun x => keepW p self (f x)
def putG {α : Type} (f : α → List UInt8) (l : List α) (both : Bool) (y : α) : List α := (l.filter fun x => ltP (f x) (f y)) ++ y :: l.filter fun x => keepPut both (f y) (f x)
def Ent.q (e : Ent) : List UInt8 := e.path.data.toList
def wo (es : List Ent) (p : List UInt8) (self : Bool) : List Ent := woG Ent.q es p self
def bothE (es : List Ent) (e : Ent) : Bool := decide (kindP es e.path.data.toList = 1) && decide (e.kind = 1)
def putE (es : List Ent) (e : Ent) : List Ent := putG Ent.q es (bothE es e) e
theorem wo_nodes (ns : List Nd) (p : List UInt8) (self : Bool) : entsN (woG Nd.p ns p self) = wo (entsN ns) p self := by
  rw [wo, woG, woG, entsN, entsN, List.filter_map]; rfl
theorem put_nodes (ns : List Nd) (both : Bool) (y : Nd) : entsN (putG Nd.p ns both y) = putG Ent.q (entsN ns) both y.ent := by
  rw [putG, putG, entsN, entsN, List.map_append, List.map_cons, List.filter_map, List.filter_map]; rfl
theorem keepW_iff {p q : List UInt8} {self : Bool} : keepW p self q = true ↔ ¬ under p q ∧ (self = true → q ≠ p) := by
  unfold keepW
  simp only [Bool.not_eq_true', Bool.or_eq_false_iff, Bool.and_eq_false_iff, ← underB_iff, Bool.not_eq_true]
  constructor
  · rintro ⟨h1, h2⟩
    refine ⟨h1, fun hs e => ?_⟩
    rcases h2 with h2 | h2
    · rw [hs] at h2; cases h2
    · simp [e] at h2
  · rintro ⟨h1, h2⟩
    refine ⟨h1, ?_⟩
    cases self
    · exact .inl rfl
    · right; simpa using h2 rfl
theorem keepPut_iff {p q : List UInt8} {both : Bool} : keepPut both p q = true ↔ ltP p q = true ∧ (both = true ∨ ¬ under p q) := by
  unfold keepPut
  simp [← underB_iff]
theorem wo_tree {es : List Ent} (h : TreeS es) (p : List UInt8) (self : Bool) : TreeS (wo es p self) := by
  refine ⟨h.ord.filter _, fun e he => h.ent e (List.mem_filter.1 he).1, fun e he => ?_⟩
  obtain ⟨hm, hk⟩ := List.mem_filter.1 he
  have hk := keepW_iff.1 hk
  have hP := parted_of (h.ent e hm)
  rcases h.dir e hm with h0 | ⟨d, hd, hp, hk1⟩
  · exact .inl h0
  · refine .inr ⟨d, List.mem_filter.2 ⟨hd, keepW_iff.2 ⟨fun hu => hk.1 ?_, fun _ hq => hk.1 ?_⟩⟩, hp, hk1⟩
    · refine under_trans hu ?_
      show under d.path.data.toList e.path.data.toList
      rw [hp]; exact hP.under
    · have hq' : d.path.data.toList = p := hq
      show under p e.path.data.toList
      rw [← hq', hp]; exact hP.under
theorem put_mem {α : Type} {f : α → List UInt8} {l : List α} {both : Bool} {y x : α} : x ∈ putG f l both y ↔ x = y ∨ (x ∈ l ∧ (ltP (f x) (f y) = true ∨ keepPut both (f y) (f x) = true)) := by
  rw [putG, List.mem_append, List.mem_cons, List.mem_filter, List.mem_filter]
  constructor
  · rintro (⟨h1, h2⟩ | h | ⟨h1, h2⟩)
    · exact .inr ⟨h1, .inl h2⟩
    · exact .inl h
    · exact .inr ⟨h1, .inr h2⟩
  · rintro (h | ⟨h1, h2 | h2⟩)
    · exact .inr (.inl h)
    · exact .inl ⟨h1, h2⟩
    · exact .inr (.inr ⟨h1, h2⟩)
theorem put_ord {α : Type} {f : α → List UInt8} {l : List α} {both : Bool} {y : α} (h : l.Pairwise fun a b => ltP (f a) (f b) = true) : (putG f l both y).Pairwise fun a b => ltP (f a) (f b) = true := by
  rw [putG, List.pairwise_append, List.pairwise_cons]
  refine ⟨h.filter _, ⟨fun b hb => (keepPut_iff.1 (List.mem_filter.1 hb).2).1, h.filter _⟩, fun a ha b hb => ?_⟩
  have ha' := (List.mem_filter.1 ha).2
  rcases List.mem_cons.1 hb with rfl | hb
  · exact ha'
  · exact totP.trans ha' (keepPut_iff.1 (List.mem_filter.1 hb).2).1
theorem put_tree {es : List Ent} {e : Ent} (h : TreeS es) (he : entOk e = true) (hd : kindP es (dirOf e.path.data.toList) = 1) : TreeS (putE es e) := by
  have hPe := parted_of he
  refine ⟨put_ord h.ord, fun x hx => ?_, fun x hx => ?_⟩
  · rcases put_mem.1 hx with rfl | ⟨h1, _⟩
    · exact he
    · exact h.ent x h1
  · rcases put_mem.1 hx with rfl | ⟨h1, h2⟩
    · rcases (h.kind _).1 hd with h0 | ⟨d, hd, hp, hk⟩
      · exact .inl h0
      · exact .inr ⟨d, put_mem.2 (.inr ⟨hd, .inl (by show ltP d.path.data.toList x.path.data.toList = true; rw [hp]; exact under_lt hPe.under)⟩), hp, hk⟩
    · have hPx := parted_of (h.ent x h1)
      rcases h.dir x h1 with h0 | ⟨d, hd, hp, hk⟩
      · exact .inl h0
      · right
        by_cases hde : d.path.data.toList = e.path.data.toList
        · -- the directory is what is put
          have hux : under e.path.data.toList x.path.data.toList := by rw [← hde, hp]; exact hPx.under
          have hb : bothE es e = true := by
            rcases h2 with h2 | h2
            · have : ltP x.path.data.toList e.path.data.toList = true := h2
              rw [under_not_lt hux] at this; cases this
            · rcases (keepPut_iff.1 h2).2 with h3 | h3
              · exact h3
              · exact absurd hux h3
          have hb2 := hb
          simp only [bothE, Bool.and_eq_true, decide_eq_true_eq] at hb2
          exact ⟨e, put_mem.2 (.inl rfl), hde.symm.trans hp, hb2.2⟩
        · refine ⟨d, put_mem.2 (.inr ⟨hd, ?_⟩), hp, hk⟩
          have hdx : under d.path.data.toList x.path.data.toList := by rw [hp]; exact hPx.under
          cases hlt : ltP d.path.data.toList e.path.data.toList
          · right
            refine keepPut_iff.2 ⟨?_, ?_⟩
            · show ltP e.path.data.toList d.path.data.toList = true
              cases h5 : ltP e.path.data.toList d.path.data.toList
              · exact absurd (totP.one hlt h5) hde
              · rfl
            · cases hb : bothE es e
              · right
                intro hu
                have hux : under e.path.data.toList x.path.data.toList := under_trans hu hdx
                rcases h2 with h2 | h2
                · have : ltP x.path.data.toList e.path.data.toList = true := h2
                  rw [under_not_lt hux] at this; cases this
                · rcases (keepPut_iff.1 h2).2 with h3 | h3
                  · rw [hb] at h3; cases h3
                  · exact h3 hux
              · exact .inl rfl
          · exact .inl hlt
end Go.Proofs.YtephkedlihediabGreatDoor
