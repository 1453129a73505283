import Derived.Test.YtjofjcjojgpaeaaGreatDoorJEntC
import Derived.Laws.StructEq
import Derived.Test.YtjofjcjojgpaeaaGreatDoorJInA
import Derived.Test.YtjofjcjojgpaeaaGreatDoorJEntB
import Derived.Deep.RegionHeld3
namespace Go.Proofs.YtjofjcjojgpaeaaGreatDoor
open Go.RowKit

/-- Are two entries alike? -/
def eqE (a b : Ent) : Bool := a.path.toList == b.path.toList && (a.kind == b.kind && (a.mode == b.mode && a.data.toList == b.data.toList))
theorem eqE_iff {a b : Ent} : eqE a b = true ↔ a = b := by
  obtain ⟨⟨⟨p⟩⟩, k, m, ⟨⟨d⟩⟩⟩ := a
  obtain ⟨⟨⟨q⟩⟩, k', m', ⟨⟨e⟩⟩⟩ := b
  simp [eqE, Lib.toList_data]
def entV (e : Ent) : Array Value := #[.string e.path, .int .i64 e.kind, .int .i64 e.mode, .string e.data]
theorem fields49 : Tryz.prog.fieldsOf 47 = Tryz.prog.fieldsOf 36 := by kernel_rfl
theorem fields39 : Tryz.prog.fieldsOf 37 = Tryz.prog.fieldsOf 36 := by kernel_rfl
theorem fields38 : (Tryz.prog.fieldsOf 36).toList.map (fun f => (f.name, f.type, f.offset)) = [("Path", 9, 0), ("Kind", 3, 1), ("Mode", 3, 2), ("Data", 9, 3)] := by kernel_rfl
theorem four_of {l : List Field} {a b c d : String × TypeId × Nat} (h : l.map (fun f => (f.name, f.type, f.offset)) = [a, b, c, d]) : ∃ f1 f2 f3 f4 : Field, l = [f1, f2, f3, f4] ∧ (f1.name = a.1 ∧ f1.type = a.2.1 ∧ f1.offset = a.2.2) ∧ (f2.name = b.1 ∧ f2.type = b.2.1 ∧ f2.offset = b.2.2) ∧ (f3.name = c.1 ∧ f3.type = c.2.1 ∧ f3.offset = c.2.2) ∧ (f4.name = d.1 ∧ f4.type = d.2.1 ∧ f4.offset = d.2.2) := by
  match l, h with
  | [f1, f2, f3, f4], h =>
    simp only [List.map_cons, List.map_nil, List.cons.injEq, and_true] at h
    obtain ⟨rfl, rfl, rfl, rfl⟩ := h
    exact ⟨f1, f2, f3, f4, rfl, ⟨rfl, rfl, rfl⟩, ⟨rfl, rfl, rfl⟩, ⟨rfl, rfl, rfl⟩, ⟨rfl, rfl, rfl⟩⟩
theorem eqFields38 (a b : Ent) (w : World) : (Op.eqFields 9999 (entV a) (entV b) (Tryz.prog.fieldsOf 36).toList).run Tryz.prog w = .ok (eqE a b) w := by
  obtain ⟨f1, f2, f3, f4, he, ⟨n1, t1, o1⟩, ⟨n2, t2, o2⟩, ⟨n3, t3, o3⟩, ⟨n4, t4, o4⟩⟩ := four_of fields38
  rw [he]
  simp only [Op.eqFields, n1, n2, n3, n4, t1, t2, t3, t4, o1, o2, o3, o4, entV]
  have u9 := Tryz.underlying9
  have u3 := Tryz.underlying3
  cases h1 : (a.path.toList == b.path.toList)
  · simp [go_sem, part, u9, h1, eqE, Result.andThen]
  · cases h2 : (a.kind == b.kind)
    · simp [go_sem, part, u9, u3, h1, h2, eqE, Result.andThen]
    · cases h3 : (a.mode == b.mode)
      · simp [go_sem, part, u9, u3, h1, h2, h3, eqE, Result.andThen]
      · cases h4 : (a.data.toList == b.data.toList)
        · simp [go_sem, part, u9, u3, h1, h2, h3, h4, eqE, Result.andThen]
        · simp [go_sem, part, u9, u3, h1, h2, h3, h4, eqE, Result.andThen]
theorem struct49 : Tryz.prog.underlying 47 = some (.struct (Tryz.prog.fieldsOf 47)) := by kernel_rfl
theorem struct39 : Tryz.prog.underlying 37 = some (.struct (Tryz.prog.fieldsOf 37)) := by kernel_rfl
theorem stood49 : Tryz.prog.stoodInHeld 47 = false := by kernel_rfl
theorem stood39 : Tryz.prog.stoodInHeld 37 = false := by kernel_rfl
set_option maxRecDepth 100000 in
theorem eql49 (a b : Ent) (w : World) : (binOp .eql 47 (.agg #[.string a.path, .int .i64 a.kind, .int .i64 a.mode, .string a.data]) (.agg #[.string b.path, .int .i64 b.kind, .int .i64 b.mode, .string b.data])).run Tryz.prog w = .ok (.bool (eqE a b)) w := by
  rw [run_eql_struct, run_equalIn_struct w 9999 47 _ _ struct49 stood49, fields49]
  have h := eqFields38 a b w
  unfold entV at h
  rw [h]
  rfl
set_option maxRecDepth 100000 in
theorem neq49 (a b : Ent) (w : World) : (binOp .neq 47 (.agg #[.string a.path, .int .i64 a.kind, .int .i64 a.mode, .string a.data]) (.agg #[.string b.path, .int .i64 b.kind, .int .i64 b.mode, .string b.data])).run Tryz.prog w = .ok (.bool (!eqE a b)) w := by
  rw [run_neq_struct, run_equalIn_struct w 9999 47 _ _ struct49 stood49, fields49]
  have h := eqFields38 a b w
  unfold entV at h
  rw [h]
  rfl
set_option maxRecDepth 100000 in
theorem neq39 (a b : Ent) (w : World) : (binOp .neq 37 (.agg #[.string a.path, .int .i64 a.kind, .int .i64 a.mode, .string a.data]) (.agg #[.string b.path, .int .i64 b.kind, .int .i64 b.mode, .string b.data])).run Tryz.prog w = .ok (.bool (!eqE a b)) w := by
  rw [run_neq_struct, run_equalIn_struct w 9999 37 _ _ struct39 stood39, fields39]
  have h := eqFields38 a b w
  unfold entV at h
  rw [h]
  rfl
end Go.Proofs.YtjofjcjojgpaeaaGreatDoor

namespace Go.Proofs.YtjofjcjojgpaeaaGreatDoor
open Go.RowKit

/-- The bytes of an entry's path. -/
def Ent.pt (e : Ent) : List UInt8 := e.path.data.toList
/-- The entry at a path. -/
def atE (es : List Ent) (p : List UInt8) : Option Ent := es.find? fun e => e.path.data.toList == p
theorem atE_some {es : List Ent} {p : List UInt8} {e : Ent} (h : atE es p = some e) : e ∈ es ∧ e.path.data.toList = p :=
  ⟨List.mem_of_find?_eq_some h, by simpa using List.find?_some h⟩
theorem atE_none {es : List Ent} {p : List UInt8} (h : atE es p = none) : ∀ e ∈ es, e.path.data.toList ≠ p := fun e he => by
  simpa using List.find?_eq_none.1 h e he
theorem atE_miss {es : List Ent} {p : List UInt8} (h : ∀ e ∈ es, e.path.data.toList ≠ p) : atE es p = none := by
  rw [atE, List.find?_eq_none]; intro e he; simpa using h e he
theorem atIs_cases {es : List Ent} {p : List UInt8} {r : Int} (h : AtIs es p r) : (r = -1 ∧ atE es p = none) ∨ ∃ (i : Nat) (e : Ent), r = i ∧ es[i]? = some e ∧ atE es p = some e ∧ e.path.data.toList = p := by
  rcases h with ⟨h1, h2⟩ | ⟨i, e, h1, h2, h3, h4⟩
  · exact .inl ⟨h1, atE_miss h2⟩
  · exact .inr ⟨i, e, h1, h2, find_first h2 h3 h4, h3⟩
theorem kindP_at {es : List Ent} {p : List UInt8} (hp : p ≠ []) : kindP es p = match atE es p with | some e => e.kind | none => 0 := by
  rw [kindP, if_neg hp]; rfl
theorem Tree.at {es : List Ent} (h : Tree es) {e : Ent} (he : e ∈ es) : atE es e.path.data.toList = some e := by
  cases ha : atE es e.path.data.toList with
  | none => exact absurd rfl (atE_none ha e he)
  | some d =>
    obtain ⟨hd, hp⟩ := atE_some ha
    obtain ⟨i, hi, rfl⟩ := List.getElem_of_mem he
    obtain ⟨j, hj, rfl⟩ := List.getElem_of_mem hd
    have := path_inj h.ok hj hi (List.getElem?_eq_getElem hj) (List.getElem?_eq_getElem hi) hp
    subst this
    rfl
/-- A mark. -/
def markE (p : List UInt8) (k : Int) : Ent := ⟨⟨p.toArray⟩, k, 0, ⟨#[]⟩⟩
/-- Is a directory cleared? -/
def clrF (xa xb : List Ent) (p : List UInt8) : Bool := decide (kindP xa p = 1) && decide (kindP xb p = 1) && (kidsE xa p).all (fun c => decide (kindP xb c.path.data.toList = 0)) && decide (1 < (kidsE xa p).length)
def putF (xa xb : List Ent) (p : List UInt8) : List Ent := match atE xb p with
  | none => []
  | some y => match atE xa p with
    | none => [y]
    | some x => if eqE x y = true then [] else [y]
def goneF (xa xb : List Ent) (p : List UInt8) : Bool := (atE xa p).isSome && (atE xb p).isNone && decide (kindP xb (dirOf p) = 1) && !clrF xa xb (dirOf p)
/-- What is told at a path. -/
def stepF (xa xb : List Ent) (p : List UInt8) : List Ent := putF xa xb p ++ (if clrF xa xb p = true then [markE p 5] else []) ++ (if goneF xa xb p = true then [markE p 4] else [])
theorem stepF_len (xa xb : List Ent) (p : List UInt8) : (stepF xa xb p).length ≤ 3 := by
  have h1 : (putF xa xb p).length ≤ 1 := by
    unfold putF
    split
    · simp
    · split
      · simp
      · split <;> simp
  have h2 : (if clrF xa xb p = true then [markE p 5] else []).length ≤ 1 := by split <;> simp
  have h3 : (if goneF xa xb p = true then [markE p 4] else []).length ≤ 1 := by split <;> simp
  simp only [stepF, List.length_append]
  omega
/-- The paths of both, in order. -/
def mrg : List (List UInt8) → List (List UInt8) → List (List UInt8)
  | [], ys => ys
  | x :: xs, [] => x :: xs
  | x :: xs, y :: ys => if ltP x y = true then x :: mrg xs (y :: ys) else if ltP y x = true then y :: mrg (x :: xs) ys else x :: mrg xs ys
theorem mrg_mem : ∀ (xs ys : List (List UInt8)) (z : List UInt8), z ∈ mrg xs ys ↔ z ∈ xs ∨ z ∈ ys
  | [], ys, z => by simp [mrg]
  | x :: xs, [], z => by simp [mrg]
  | x :: xs, y :: ys, z => by
    rw [mrg]
    by_cases h1 : ltP x y = true
    · rw [if_pos h1, List.mem_cons, mrg_mem xs (y :: ys), List.mem_cons (l := xs), or_assoc]
    · rw [if_neg h1]
      by_cases h2 : ltP y x = true
      · rw [if_pos h2, List.mem_cons, mrg_mem (x :: xs) ys, List.mem_cons (l := ys)]
        constructor
        · rintro (h | h | h)
          · exact .inr (.inl h)
          · exact .inl h
          · exact .inr (.inr h)
        · rintro (h | h | h)
          · exact .inr (.inl h)
          · exact .inl h
          · exact .inr (.inr h)
      · have e : x = y := totP.one (by simpa using h1) (by simpa using h2)
        subst e
        rw [if_neg h2, List.mem_cons, mrg_mem xs ys, List.mem_cons, List.mem_cons]
        constructor
        · rintro (h | h | h)
          · exact .inl (.inl h)
          · exact .inl (.inr h)
          · exact .inr (.inr h)
        · rintro ((h | h) | (h | h))
          · exact .inl h
          · exact .inr (.inl h)
          · exact .inl h
          · exact .inr (.inr h)
theorem mrg_len : ∀ (xs ys : List (List UInt8)), (mrg xs ys).length ≤ xs.length + ys.length
  | [], ys => by simp [mrg]
  | x :: xs, [] => by simp [mrg]
  | x :: xs, y :: ys => by
    rw [mrg]
    split
    · have := mrg_len xs (y :: ys); simp at this ⊢; omega
    · split
      · have := mrg_len (x :: xs) ys; simp at this ⊢; omega
      · have := mrg_len xs ys; simp at this ⊢; omega
theorem mrg_rising : ∀ {xs ys : List (List UInt8)}, xs.Pairwise (fun x y => ltP x y = true) → ys.Pairwise (fun x y => ltP x y = true) → (mrg xs ys).Pairwise fun x y => ltP x y = true
  | [], ys, _, h => by rw [mrg]; exact h
  | x :: xs, [], h, _ => by rw [mrg]; exact h
  | x :: xs, y :: ys, hx, hy => by
    have hx' := List.pairwise_cons.1 hx
    have hy' := List.pairwise_cons.1 hy
    rw [mrg]
    by_cases h1 : ltP x y = true
    · rw [if_pos h1, List.pairwise_cons]
      refine ⟨fun z hz => ?_, mrg_rising hx'.2 hy⟩
      rcases (mrg_mem _ _ _).1 hz with h | h
      · exact hx'.1 z h
      · rcases List.mem_cons.1 h with rfl | h
        · exact h1
        · exact totP.trans h1 (hy'.1 z h)
    · rw [if_neg h1]
      by_cases h2 : ltP y x = true
      · rw [if_pos h2, List.pairwise_cons]
        refine ⟨fun z hz => ?_, mrg_rising hx hy'.2⟩
        rcases (mrg_mem _ _ _).1 hz with h | h
        · rcases List.mem_cons.1 h with rfl | h
          · exact h2
          · exact totP.trans h2 (hx'.1 z h)
        · exact hy'.1 z h
      · have e : x = y := totP.one (by simpa using h1) (by simpa using h2)
        subst e
        rw [if_neg h2, List.pairwise_cons]
        refine ⟨fun z hz => ?_, mrg_rising hx'.2 hy'.2⟩
        rcases (mrg_mem _ _ _).1 hz with h | h
        · exact hx'.1 z h
        · exact hy'.1 z h
def ptsE (es : List Ent) : List (List UInt8) := es.map fun e => e.path.data.toList
/-- The root, and the paths of both. -/
def allP (xa xb : List Ent) : List (List UInt8) := [] :: mrg (ptsE xa) (ptsE xb)
/-- What makes one tree of the other. -/
def diffF (xa xb : List Ent) : List Ent := ((allP xa xb).map (stepF xa xb)).flatten
theorem pts_rising {es : List Ent} (h : Tree es) : (ptsE es).Pairwise fun x y => ltP x y = true := by
  rw [ptsE, List.pairwise_map, List.pairwise_iff_getElem]
  intro i j hi hj hij
  exact ord_lt h.ok j i es[i] es[j] hij hj (List.getElem?_eq_getElem hi) (List.getElem?_eq_getElem hj)
theorem pts_ne {es : List Ent} (h : Tree es) : ∀ p ∈ ptsE es, p ≠ [] := fun p hp => by
  obtain ⟨e, he, rfl⟩ := List.mem_map.1 hp
  exact (h.path he).1
theorem ltP_root {p : List UInt8} (h : p ≠ []) : ltP [] p = true := by
  rw [ltP, prt_nil]; exact ltL_nil (prt_some h)
theorem allP_rising {xa xb : List Ent} (ha : Tree xa) (hb : Tree xb) : (allP xa xb).Pairwise fun x y => ltP x y = true := by
  rw [allP, List.pairwise_cons]
  refine ⟨fun p hp => ltP_root ?_, mrg_rising (pts_rising ha) (pts_rising hb)⟩
  rcases (mrg_mem _ _ _).1 hp with h | h
  · exact pts_ne ha p h
  · exact pts_ne hb p h
/-- What is sorted and made apart is the same list. -/
theorem sorted_all {xa xb : List Ent} (ha : Tree xa) (hb : Tree xb) {zs : List (List UInt8)} (hs : zs.Pairwise fun x y => ltP y x = false) (hm : ∀ p, p ∈ zs ↔ p = [] ∨ p ∈ ptsE xa ∨ p ∈ ptsE xb) : Lib.compact zs = allP xa xb := by
  obtain ⟨h1, h2⟩ := compact_rising totP zs hs
  refine rising_one totP h1 (allP_rising ha hb) fun p => ?_
  rw [h2, hm, allP, List.mem_cons, mrg_mem]
theorem allP_mem {xa xb : List Ent} {p : List UInt8} : p ∈ allP xa xb ↔ p = [] ∨ p ∈ ptsE xa ∨ p ∈ ptsE xb := by rw [allP, List.mem_cons, mrg_mem]
theorem allP_len {xa xb : List Ent} (ha : Tree xa) (hb : Tree xb) : (allP xa xb).length ≤ 81 := by
  have := mrg_len (ptsE xa) (ptsE xb)
  have h1 : (ptsE xa).length = xa.length := by simp [ptsE]
  have h2 : (ptsE xb).length = xb.length := by simp [ptsE]
  have := ha.len
  have := hb.len
  simp only [allP, List.length_cons]
  omega
theorem diffF_len (xa xb : List Ent) : ∀ l : List (List UInt8), ((l.map (stepF xa xb)).flatten).length ≤ l.length * 3
  | [] => by simp
  | p :: l => by
    have h1 := stepF_len xa xb p
    have h2 := diffF_len xa xb l
    simp only [List.map_cons, List.flatten_cons, List.length_append, List.length_cons]
    omega
end Go.Proofs.YtjofjcjojgpaeaaGreatDoor

namespace Go.Proofs.YtjofjcjojgpaeaaGreatDoor
open Go.RowKit

/-- May a change be, wherever it stands? -/
def chOk (c : Ent) : Bool := if c.kind = 4 ∨ c.kind = 5 then !(decide (c.kind = 4) && c.path.data.toList == []) && isP c.path.data.toList && decide (c.mode = 0) && c.data.data.toList == [] else entOk c
/-- May a change stand right behind another one? -/
def flw (d c : Ent) : Bool := if d.path.data.toList = c.path.data.toList then decide (d.kind = 1) && decide (c.kind = 5) else ltP d.path.data.toList c.path.data.toList && (decide (d.kind = 1 ∨ d.kind = 5) || !Lib.hasPrefix c.path.data.toList (d.path.data.toList ++ [47]))
def okCh (cs : List Ent) (i : Nat) : Bool := match cs[i]? with
  | none => false
  | some c => decide (i < 80) && chOk c && (decide (i = 0) || match cs[i - 1]? with
    | none => false
    | some d => flw d c)
/-- The number of the first change that may not stand where it stands; -1: all may. -/
def FirstBadC (cs : List Ent) (r : Int) : Prop := (r = -1 ∧ ∀ i, i < cs.length → okCh cs i = true) ∨ ∃ i : Nat, r = i ∧ i < cs.length ∧ okCh cs i = false ∧ ∀ j, j < i → okCh cs j = true
theorem firstBadC_one {cs : List Ent} {r s : Int} (h1 : FirstBadC cs r) (h2 : FirstBadC cs s) : r = s := by
  rcases h1 with ⟨rfl, a1⟩ | ⟨i, rfl, a1, a2, a3⟩ <;> rcases h2 with ⟨rfl, b1⟩ | ⟨j, rfl, b1, b2, b3⟩
  · rfl
  · rw [a1 j b1] at b2; cases b2
  · rw [b1 i a1] at a2; cases a2
  · rcases Nat.lt_trichotomy i j with h | h | h
    · rw [b3 i h] at a2; cases a2
    · rw [h]
    · rw [a3 j h] at b2; cases b2
theorem okCh_eq {cs : List Ent} {i : Nat} {c : Ent} (h : cs[i]? = some c) : okCh cs i = (decide (i < 80) && chOk c && (decide (i = 0) || match cs[i - 1]? with
    | none => false
    | some d => flw d c)) := by unfold okCh; rw [h]
theorem beq_nil {l : List UInt8} (h : l ≠ []) : (l == []) = false := by
  cases l with
  | nil => exact absurd rfl h
  | cons _ _ => rfl
theorem isMark_any (c : Ent) (w : World) : Calls Tryz.prog 80 #[.agg #[.string c.path, .int .i64 c.kind, .int .i64 c.mode, .string c.data]] w fun ev w' => ev = .returned (.bool (decide (c.kind = 4 ∨ c.kind = 5))) ∧ Below w.heap.size w w' := by
  by_cases h4 : c.kind = 4
  · have C : Hid (decide (c.kind = 4 ∨ c.kind = 5) = true) := hide (by simp [h4])
    go_enter Tryz.func80, Tryz.ntmps80
    go_wp2
    go_ret
    exact ⟨ret_bool (unhide C).symm, (Below.refl _ _).alloc (Nat.le_refl _) _⟩
  · by_cases h5 : c.kind = 5
    · have C : Hid (decide (c.kind = 4 ∨ c.kind = 5) = true) := hide (by simp [h5])
      have h4' : (c.kind == 4) = false := by simp [h4]
      go_enter Tryz.func80, Tryz.ntmps80
      go_wp2
      go_ret
      exact ⟨ret_bool (unhide C).symm, (Below.refl _ _).alloc (Nat.le_refl _) _⟩
    · have C : Hid (decide (c.kind = 4 ∨ c.kind = 5) = false) := hide (by simp [h4, h5])
      have h4' : (c.kind == 4) = false := by simp [h4]
      have h5' : (c.kind == 5) = false := by simp [h5]
      go_enter Tryz.func80, Tryz.ntmps80
      go_wp2
      go_ret
      exact ⟨ret_bool (unhide C).symm, (Below.refl _ _).alloc (Nat.le_refl _) _⟩
theorem mayHold_any (c : Ent) (w : World) : Calls Tryz.prog 100 #[.agg #[.string c.path, .int .i64 c.kind, .int .i64 c.mode, .string c.data]] w fun ev w' => ev = .returned (.bool (decide (c.kind = 1 ∨ c.kind = 5))) ∧ Below w.heap.size w w' := by
  by_cases h4 : c.kind = 1
  · have C : Hid (decide (c.kind = 1 ∨ c.kind = 5) = true) := hide (by simp [h4])
    go_enter Tryz.func100, Tryz.ntmps100
    go_wp2
    go_ret
    exact ⟨ret_bool (unhide C).symm, (Below.refl _ _).alloc (Nat.le_refl _) _⟩
  · by_cases h5 : c.kind = 5
    · have C : Hid (decide (c.kind = 1 ∨ c.kind = 5) = true) := hide (by simp [h5])
      have h4' : (c.kind == 1) = false := by simp [h4]
      go_enter Tryz.func100, Tryz.ntmps100
      go_wp2
      go_ret
      exact ⟨ret_bool (unhide C).symm, (Below.refl _ _).alloc (Nat.le_refl _) _⟩
    · have C : Hid (decide (c.kind = 1 ∨ c.kind = 5) = false) := hide (by simp [h4, h5])
      have h4' : (c.kind == 1) = false := by simp [h4]
      have h5' : (c.kind == 5) = false := by simp [h5]
      go_enter Tryz.func100, Tryz.ntmps100
      go_wp2
      go_ret
      exact ⟨ret_bool (unhide C).symm, (Below.refl _ _).alloc (Nat.le_refl _) _⟩
theorem isBelow_any (s t : ByteArray) (w : World) (ht : t.size ≤ 1073741824) : Calls Tryz.prog 101 #[.string s, .string t] w fun ev w' => ev = .returned (.bool (Lib.hasPrefix s.data.toList (t.data.toList ++ [47]))) ∧ w' = w := by
  have hP := hasPrefix_any s (t ++ ⟨#[47]⟩) w
  have e : (t ++ ⟨#[47]⟩ : ByteArray).data.toList = t.data.toList ++ [47] := by rw [data_append]
  rw [e] at hP
  have n1 : ¬ 9223372036854775807 < t.size + 1 := by omega
  clear e
  go_enter Tryz.func101, Tryz.ntmps101
  go_wp2_with (go_at_call 113; refine hP.mono ?_; clear hP; rintro ev w1 ⟨rfl, hw⟩; obtain rfl := hw.symm)
  go_ret
  exact ⟨rfl, rfl⟩
set_option maxHeartbeats 1000000 in
theorem isChange_any (c : Ent) (m : Int) (w : World) (hm : w.cell? ⟨14, 0, none⟩ = some (.int .i64 m)) : Calls Tryz.prog 99 #[.agg #[.string c.path, .int .i64 c.kind, .int .i64 c.mode, .string c.data]] w fun ev w' => ev = .returned (.bool (chOk c)) ∧ Below w.heap.size w w' := by
  obtain ⟨W0, hW0⟩ : ∃ W0, W0 = w.alloc (.cells #[.string c.path, .int .i64 c.kind, .int .i64 c.mode, .string c.data] 37) := ⟨_, rfl⟩
  have hb0 : Below w.heap.size w W0 := by rw [hW0]; exact (Below.refl _ _).alloc (Nat.le_refl _) _
  have hq0 : W0.heap[w.heap.size]? = some (.cells #[.string c.path, .int .i64 c.kind, .int .i64 c.mode, .string c.data] 37 (0, 0)) := by rw [hW0]; exact heap_alloc_new _ _
  have hMk := isMark_any c W0
  have HW0 := hide hW0
  have HQ := hide hq0
  have HM := hide hm
  clear hW0 hm
  by_cases hk : c.kind = 4 ∨ c.kind = 5
  · rw [decide_eq_true hk] at hMk
    have HC : Hid (chOk c = (!(decide (c.kind = 4) && c.path.data.toList == []) && isP c.path.data.toList && decide (c.mode = 0) && c.data.data.toList == [])) := hide (by rw [chOk, if_pos hk])
    clear hk hq0
    go_enter Tryz.func99, Tryz.ntmps99
    go_upto_region 3 with (go_at_call 80; rw [← unhide HW0]; refine hMk.mono ?_; clear hMk; rintro ev w1 ⟨rfl, hb1⟩)
    have hB1 : Below w.heap.size w w1 := hb0.trans (hb1.mono hb0.size)
    have hq1 := (hb1.block w.heap.size (Array.getElem?_eq_some_iff.1 (unhide HQ)).1).trans (unhide HQ)
    have q0 : w1.cell? ⟨w.heap.size, 0, none⟩ = some (.string c.path) := cell_of_row _ _ 0 _ _ _ hq1
    have q1 : w1.cell? ⟨w.heap.size, 1, none⟩ = some (.int .i64 c.kind) := cell_of_row _ _ 1 _ _ _ hq1
    have q2 : w1.cell? ⟨w.heap.size, 2, none⟩ = some (.int .i64 c.mode) := cell_of_row _ _ 2 _ _ _ hq1
    have q3 : w1.cell? ⟨w.heap.size, 3, none⟩ = some (.string c.data) := cell_of_row _ _ 3 _ _ _ hq1
    have HQ1 := hide hq1
    have hIs := is_any c.path m w1 (cell_later hB1 (unhide HM))
    clear hq1 hb1
    by_cases hg : c.kind = 4 ∧ c.path.data.toList = []
    · have R : Hid (chOk c = false) := hide (by rw [unhide HC]; simp [hg.1, hg.2])
      have g4 := hg.1
      have g1 : c.path.toList.isEmpty = true := by rw [Lib.toList_data, hg.2]; rfl
      rw [g4] at q1
      clear hg g4
      go_wp2_with fail
      go_ret
      exact ⟨ret_bool (unhide R).symm, hB1⟩
    · have R0 : Hid (chOk c = (isP c.path.data.toList && decide (c.mode = 0) && c.data.data.toList == [])) := hide (by
        rw [unhide HC]
        have : (decide (c.kind = 4) && c.path.data.toList == []) = false := by
          by_cases h4 : c.kind = 4
          · have : c.path.data.toList ≠ [] := fun e => hg ⟨h4, e⟩
            rw [beq_nil this, Bool.and_false]
          · simp [h4]
        rw [this]; rfl)
      have HG := hide hg
      clear hg HC
      by_cases h4 : c.kind = 4
      · have hpe : c.path.data.toList ≠ [] := fun e => unhide HG ⟨h4, e⟩
        have g1 : c.path.toList.isEmpty = false := by rw [Lib.toList_data]; simpa using hpe
        rw [h4] at q1
        clear hpe h4
        cases hP : isP c.path.data.toList
        · have R : Hid (chOk c = false) := hide (by rw [unhide R0, hP]; rfl)
          rw [hP] at hIs
          go_wp2_with (go_at_call 61; refine hIs.mono ?_; clear hIs; rintro ev w2 ⟨rfl, hb2⟩)
          go_ret
          exact ⟨ret_bool (unhide R).symm, hB1.trans (hb2.mono hB1.size)⟩
        · rw [hP] at hIs
          by_cases hmd : c.mode = 0
          · by_cases hdt : c.data.data.toList = []
            · have R : Hid (chOk c = true) := hide (by rw [unhide R0, hP, hmd, hdt]; rfl)
              have g2 : c.data.toList.isEmpty = true := by rw [Lib.toList_data, hdt]; rfl
              rw [hmd] at q2
              clear hdt hmd
              go_wp2_with (go_at_call 61; refine hIs.mono ?_; clear hIs; rintro ev w2 ⟨rfl, hb2⟩; have q2 := cell_later hb2 q2; have q3 := cell_later hb2 q3)
              go_ret
              exact ⟨ret_bool (unhide R).symm, hB1.trans (hb2.mono hB1.size)⟩
            · have R : Hid (chOk c = false) := hide (by rw [unhide R0, beq_nil hdt, Bool.and_false])
              have g2 : c.data.toList.isEmpty = false := by rw [Lib.toList_data]; simpa using hdt
              rw [hmd] at q2
              clear hdt hmd
              go_wp2_with (go_at_call 61; refine hIs.mono ?_; clear hIs; rintro ev w2 ⟨rfl, hb2⟩; have q2 := cell_later hb2 q2; have q3 := cell_later hb2 q3)
              go_ret
              exact ⟨ret_bool (unhide R).symm, hB1.trans (hb2.mono hB1.size)⟩
          · have R : Hid (chOk c = false) := hide (by rw [unhide R0, hP]; simp [hmd])
            have hmd' : (c.mode == 0) = false := by simp [hmd]
            go_wp2_with (go_at_call 61; refine hIs.mono ?_; clear hIs; rintro ev w2 ⟨rfl, hb2⟩; have q2 := cell_later hb2 q2; have q3 := cell_later hb2 q3)
            go_ret
            exact ⟨ret_bool (unhide R).symm, hB1.trans (hb2.mono hB1.size)⟩
      · have h4' : (c.kind == 4) = false := by simp [h4]
        cases hP : isP c.path.data.toList
        · have R : Hid (chOk c = false) := hide (by rw [unhide R0, hP]; rfl)
          rw [hP] at hIs
          go_wp2_with (go_at_call 61; refine hIs.mono ?_; clear hIs; rintro ev w2 ⟨rfl, hb2⟩)
          go_ret
          exact ⟨ret_bool (unhide R).symm, hB1.trans (hb2.mono hB1.size)⟩
        · rw [hP] at hIs
          by_cases hmd : c.mode = 0
          · by_cases hdt : c.data.data.toList = []
            · have R : Hid (chOk c = true) := hide (by rw [unhide R0, hP, hmd, hdt]; rfl)
              have g2 : c.data.toList.isEmpty = true := by rw [Lib.toList_data, hdt]; rfl
              rw [hmd] at q2
              clear hdt hmd
              go_wp2_with (go_at_call 61; refine hIs.mono ?_; clear hIs; rintro ev w2 ⟨rfl, hb2⟩; have q2 := cell_later hb2 q2; have q3 := cell_later hb2 q3)
              go_ret
              exact ⟨ret_bool (unhide R).symm, hB1.trans (hb2.mono hB1.size)⟩
            · have R : Hid (chOk c = false) := hide (by rw [unhide R0, beq_nil hdt, Bool.and_false])
              have g2 : c.data.toList.isEmpty = false := by rw [Lib.toList_data]; simpa using hdt
              rw [hmd] at q2
              clear hdt hmd
              go_wp2_with (go_at_call 61; refine hIs.mono ?_; clear hIs; rintro ev w2 ⟨rfl, hb2⟩; have q2 := cell_later hb2 q2; have q3 := cell_later hb2 q3)
              go_ret
              exact ⟨ret_bool (unhide R).symm, hB1.trans (hb2.mono hB1.size)⟩
          · have R : Hid (chOk c = false) := hide (by rw [unhide R0, hP]; simp [hmd])
            have hmd' : (c.mode == 0) = false := by simp [hmd]
            go_wp2_with (go_at_call 61; refine hIs.mono ?_; clear hIs; rintro ev w2 ⟨rfl, hb2⟩; have q2 := cell_later hb2 q2; have q3 := cell_later hb2 q3)
            go_ret
            exact ⟨ret_bool (unhide R).symm, hB1.trans (hb2.mono hB1.size)⟩
  · rw [decide_eq_false hk] at hMk
    have HC : Hid (chOk c = entOk c) := hide (by rw [chOk, if_neg hk])
    clear hk hq0
    go_enter Tryz.func99, Tryz.ntmps99
    go_wp2_with (first
      | (go_at_call 80; rw [← unhide HW0]; refine hMk.mono ?_; clear hMk; rintro ev w1 ⟨rfl, hb1⟩; have hB1 : Below w.heap.size w w1 := (hb0.trans (hb1.mono hb0.size)); have hq1 := (hb1.block w.heap.size (Array.getElem?_eq_some_iff.1 (unhide HQ)).1).trans (unhide HQ); have q0 : w1.cell? ⟨w.heap.size, 0, none⟩ = some (.string c.path) := cell_of_row _ _ 0 _ _ _ hq1; have q1 : w1.cell? ⟨w.heap.size, 1, none⟩ = some (.int .i64 c.kind) := cell_of_row _ _ 1 _ _ _ hq1; have q2 : w1.cell? ⟨w.heap.size, 2, none⟩ = some (.int .i64 c.mode) := cell_of_row _ _ 2 _ _ _ hq1; have q3 : w1.cell? ⟨w.heap.size, 3, none⟩ = some (.string c.data) := cell_of_row _ _ 3 _ _ _ hq1; clear hq1)
      | (go_at_call 35; refine (isEntry_any c m w1 (cell_later hB1 (unhide HM))).mono ?_; rintro ev w2 ⟨rfl, hb2⟩))
    go_ret
    exact ⟨ret_bool (unhide HC).symm, hB1.trans (hb2.mono hB1.size)⟩
end Go.Proofs.YtjofjcjojgpaeaaGreatDoor
