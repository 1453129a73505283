import Derived.Test.YtjofjcjojgpaeaaGreatDoorJEqS
import Derived.Test.YtjofjcjojgpaeaaGreatDoorJRawB
namespace Go.Proofs.YtjofjcjojgpaeaaGreatDoor
open Go.RowKit

theorem under_trans {p q r : List UInt8} (h1 : under p q) (h2 : under q r) : under p r := by
  obtain ⟨a, u, e1⟩ := h1
  obtain ⟨b, v, e2⟩ := h2
  exact ⟨a, u ++ b :: v, by rw [e2, e1]; simp⟩
theorem under_lt {p q : List UInt8} (h : under p q) : ltP p q = true := by
  obtain ⟨a, u, e⟩ := h
  rw [ltP, e]; exact ltL_more _ _ _
theorem under_not_lt {p q : List UInt8} (h : under p q) : ltP q p = false := by
  cases h2 : ltP q p
  · rfl
  · have := totP.trans (under_lt h) h2
    rw [totP.irr] at this; cases this
theorem not_under_self (p : List UInt8) : ¬ under p p := fun h => by
  have := under_lt h
  rw [totP.irr] at this; cases this
/-- A path that has a directory and a last element. -/
def Parted (z : List UInt8) : Prop := prt z = prt (dirOf z) ++ [nameOf z]
theorem Parted.under {z : List UInt8} (h : Parted z) : under (dirOf z) z := ⟨_, [], h⟩
theorem Parted.up {z p : List UInt8} (h : Parted z) (hu : Go.Proofs.YtjofjcjojgpaeaaGreatDoor.under p z) : p = dirOf z ∨ Go.Proofs.YtjofjcjojgpaeaaGreatDoor.under p (dirOf z) := by
  obtain ⟨a, u, e⟩ := hu
  rw [h] at e
  rcases List.eq_nil_or_concat u with rfl | ⟨u', l, rfl⟩
  · exact .inl (prt_inj (List.append_inj' e rfl).1.symm)
  · right
    have e2 : prt (dirOf z) ++ [nameOf z] = (prt p ++ a :: u') ++ [l] := by rw [e]; simp
    exact ⟨a, u', (List.append_inj' e2 rfl).1⟩
theorem Parted.eq {y z : List UInt8} (hy : Parted y) (hz : Parted z) (h1 : dirOf y = dirOf z) (h2 : nameOf y = nameOf z) : y = z := prt_inj (by rw [hy, hz, h1, h2])
theorem Parted.lt {y z : List UInt8} (hy : Parted y) (hz : Parted z) (h1 : dirOf y = dirOf z) : ltP y z = Op.bytesLess (nameOf y) (nameOf z) := by
  rw [ltP, hy, hz, h1, ltL_snoc]
theorem parted_of {e : Ent} (h : entOk e = true) : Parted e.path.data.toList := prt_up (ent_parts h).2.1 (ent_parts h).1

/-- What a tree is, in words without numbers. -/
structure TreeS (es : List Ent) : Prop where
  ord : es.Pairwise fun x y => ltP x.path.data.toList y.path.data.toList = true
  ent : ∀ e ∈ es, entOk e = true
  dir : ∀ e ∈ es, dirOf e.path.data.toList = [] ∨ ∃ d ∈ es, d.path.data.toList = dirOf e.path.data.toList ∧ d.kind = 1
theorem treeS_of {es : List Ent} (h : OkTo es es.length) : TreeS es := by
  refine ⟨?_, fun e he => ?_, fun e he => ?_⟩
  · rw [List.pairwise_iff_getElem]
    intro i j hi hj hij
    exact ord_lt h j i es[i] es[j] hij hj (List.getElem?_eq_getElem hi) (List.getElem?_eq_getElem hj)
  · obtain ⟨k, hk, rfl⟩ := List.getElem_of_mem he
    exact (ok_parts (List.getElem?_eq_getElem hk) (h k hk)).ent
  · obtain ⟨k, hk, rfl⟩ := List.getElem_of_mem he
    by_cases hd : dirOf es[k].path.data.toList = []
    · exact .inl hd
    · obtain ⟨d, hm, hp, hk1⟩ := kindP_one (ok_parts (List.getElem?_eq_getElem hk) (h k hk)).dir hd
      exact .inr ⟨d, List.mem_of_mem_take hm, hp, hk1⟩
theorem TreeS.one {es : List Ent} (h : TreeS es) {d e : Ent} (hd : d ∈ es) (he : e ∈ es) (hp : d.path.data.toList = e.path.data.toList) : d = e := by
  obtain ⟨i, hi, rfl⟩ := List.getElem_of_mem hd
  obtain ⟨j, hj, rfl⟩ := List.getElem_of_mem he
  have ho := List.pairwise_iff_getElem.1 h.ord
  rcases Nat.lt_trichotomy i j with hl | rfl | hl
  · have := ho i j hi hj hl; rw [hp, totP.irr] at this; cases this
  · rfl
  · have := ho j i hj hi hl; rw [hp, totP.irr] at this; cases this
theorem TreeS.at {es : List Ent} (h : TreeS es) {e : Ent} (he : e ∈ es) : atE es e.path.data.toList = some e := by
  cases hf : atE es e.path.data.toList with
  | none => exact absurd rfl (atE_none hf e he)
  | some d =>
    have := atE_some hf
    rw [h.one this.1 he this.2]
theorem TreeS.kind {es : List Ent} (h : TreeS es) (p : List UInt8) : kindP es p = 1 ↔ p = [] ∨ ∃ d ∈ es, d.path.data.toList = p ∧ d.kind = 1 := by
  by_cases hp : p = []
  · subst hp; simp [kindP]
  · rw [kindP_at hp]
    constructor
    · intro h1
      cases hf : atE es p with
      | none => rw [hf] at h1; cases h1
      | some d => rw [hf] at h1; exact .inr ⟨d, (atE_some hf).1, (atE_some hf).2, h1⟩
    · rintro (h1 | ⟨d, hd, rfl, hk⟩)
      · exact absurd h1 hp
      · rw [h.at hd]; exact hk
theorem TreeS.ok {es : List Ent} (h : TreeS es) : OkTo es es.length := by
  intro i hi
  have he : es[i]? = some es[i] := List.getElem?_eq_getElem hi
  have hm : es[i] ∈ es := List.getElem_mem hi
  have hP := parted_of (h.ent _ hm)
  rw [okG_eq he]
  simp only [Bool.and_eq_true, Bool.or_eq_true, decide_eq_true_eq]
  refine ⟨⟨h.ent _ hm, ?_⟩, ?_⟩
  · by_cases h0 : i = 0
    · exact .inl h0
    · right
      rw [List.getElem?_eq_getElem (by omega)]
      exact List.pairwise_iff_getElem.1 h.ord (i - 1) i (by omega) hi (by omega)
  · by_cases hd0 : dirOf es[i].path.data.toList = []
    · rw [hd0]; rfl
    · rcases h.dir _ hm with h1 | ⟨d, hd, hp, hk⟩
      · exact absurd h1 hd0
      · obtain ⟨j, hj, rfl⟩ := List.getElem_of_mem hd
        have hji : j < i := by
          rcases Nat.lt_or_ge j i with h1 | h1
          · exact h1
          · exfalso
            have hu : ltP es[j].path.data.toList es[i].path.data.toList = true := by rw [hp]; exact under_lt hP.under
            rcases Nat.lt_or_ge i j with h2 | h2
            · have := totP.trans hu (List.pairwise_iff_getElem.1 h.ord i j hi hj h2)
              rw [totP.irr] at this; cases this
            · have : i = j := by omega
              subst this
              rw [totP.irr] at hu; cases hu
        rw [kindP_at hd0]
        have hin : es[j] ∈ es.take i := List.mem_take_iff_getElem.2 ⟨j, by omega, rfl⟩
        cases hf : atE (es.take i) (dirOf es[i].path.data.toList) with
        | none => exact absurd hp (atE_none hf _ hin)
        | some d =>
          have h3 := atE_some hf
          rw [h.one (List.mem_of_mem_take h3.1) hd (h3.2.trans hp.symm)]
          exact hk

/-- What stays where a path is taken away (self: it, too). -/
def keepW (p : List UInt8) (self : Bool) (q : List UInt8) : Bool := !(underB p q || (self && q == p))
/-- What stays behind an entry that is put. -/
def keepPut (both : Bool) (p q : List UInt8) : Bool := ltP p q && (both || !underB p q)
def woG {α : Type} (f : α → List UInt8) (l : List α) (p : List UInt8) (self : Bool) : List α := l.filter fun x => keepW p self (f x)
def putG {α : Type} (f : α → List UInt8) (l : List α) (both : Bool) (y : α) : List α := (l.filter fun x => ltP (f x) (f y)) ++ y :: l.filter fun x => keepPut both (f y) (f x)
def Ent.q (e : Ent) : List UInt8 := e.path.data.toList
def wo (es : List Ent) (p : List UInt8) (self : Bool) : List Ent := woG Ent.q es p self
def bothE (es : List Ent) (e : Ent) : Bool := decide (kindP es e.path.data.toList = 1) && decide (e.kind = 1)
def putE (es : List Ent) (e : Ent) : List Ent := putG Ent.q es (bothE es e) e
theorem wo_nodes (ns : List Nd) (p : List UInt8) (self : Bool) : entsN (woG Nd.p ns p self) = wo (entsN ns) p self := by
  rw [wo, woG, woG, entsN, entsN, List.filter_map]; rfl
theorem put_nodes (ns : List Nd) (both : Bool) (y : Nd) : entsN (putG Nd.p ns both y) = putG Ent.q (entsN ns) both y.ent := by
  rw [putG, putG, entsN, entsN, List.map_append, List.map_cons, List.filter_map, List.filter_map]; rfl
theorem keepW_iff {p q : List UInt8} {self : Bool} : keepW p self q = true ↔ ¬ under p q ∧ (self = true → q ≠ p) := by
  unfold keepW
  simp only [Bool.not_eq_true', Bool.or_eq_false_iff, Bool.and_eq_false_iff, ← underB_iff, Bool.not_eq_true]
  constructor
  · rintro ⟨h1, h2⟩
    refine ⟨h1, fun hs e => ?_⟩
    rcases h2 with h2 | h2
    · rw [hs] at h2; cases h2
    · simp [e] at h2
  · rintro ⟨h1, h2⟩
    refine ⟨h1, ?_⟩
    cases self
    · exact .inl rfl
    · right; simpa using h2 rfl
theorem keepPut_iff {p q : List UInt8} {both : Bool} : keepPut both p q = true ↔ ltP p q = true ∧ (both = true ∨ ¬ under p q) := by
  unfold keepPut
  simp [← underB_iff]
theorem wo_tree {es : List Ent} (h : TreeS es) (p : List UInt8) (self : Bool) : TreeS (wo es p self) := by
  refine ⟨h.ord.filter _, fun e he => h.ent e (List.mem_filter.1 he).1, fun e he => ?_⟩
  obtain ⟨hm, hk⟩ := List.mem_filter.1 he
  have hk := keepW_iff.1 hk
  have hP := parted_of (h.ent e hm)
  rcases h.dir e hm with h0 | ⟨d, hd, hp, hk1⟩
  · exact .inl h0
  · refine .inr ⟨d, List.mem_filter.2 ⟨hd, keepW_iff.2 ⟨fun hu => hk.1 ?_, fun _ hq => hk.1 ?_⟩⟩, hp, hk1⟩
    · refine under_trans hu ?_
      show under d.path.data.toList e.path.data.toList
      rw [hp]; exact hP.under
    · have hq' : d.path.data.toList = p := hq
      show under p e.path.data.toList
      rw [← hq', hp]; exact hP.under
theorem put_mem {α : Type} {f : α → List UInt8} {l : List α} {both : Bool} {y x : α} : x ∈ putG f l both y ↔ x = y ∨ (x ∈ l ∧ (ltP (f x) (f y) = true ∨ keepPut both (f y) (f x) = true)) := by
  rw [putG, List.mem_append, List.mem_cons, List.mem_filter, List.mem_filter]
  constructor
  · rintro (⟨h1, h2⟩ | h | ⟨h1, h2⟩)
    · exact .inr ⟨h1, .inl h2⟩
    · exact .inl h
    · exact .inr ⟨h1, .inr h2⟩
  · rintro (h | ⟨h1, h2 | h2⟩)
    · exact .inr (.inl h)
    · exact .inl ⟨h1, h2⟩
    · exact .inr (.inr ⟨h1, h2⟩)
theorem put_ord {α : Type} {f : α → List UInt8} {l : List α} {both : Bool} {y : α} (h : l.Pairwise fun a b => ltP (f a) (f b) = true) : (putG f l both y).Pairwise fun a b => ltP (f a) (f b) = true := by
  rw [putG, List.pairwise_append, List.pairwise_cons]
  refine ⟨h.filter _, ⟨fun b hb => (keepPut_iff.1 (List.mem_filter.1 hb).2).1, h.filter _⟩, fun a ha b hb => ?_⟩
  have ha' := (List.mem_filter.1 ha).2
  rcases List.mem_cons.1 hb with rfl | hb
  · exact ha'
  · exact totP.trans ha' (keepPut_iff.1 (List.mem_filter.1 hb).2).1
theorem put_tree {es : List Ent} {e : Ent} (h : TreeS es) (he : entOk e = true) (hd : kindP es (dirOf e.path.data.toList) = 1) : TreeS (putE es e) := by
  have hPe := parted_of he
  refine ⟨put_ord h.ord, fun x hx => ?_, fun x hx => ?_⟩
  · rcases put_mem.1 hx with rfl | ⟨h1, _⟩
    · exact he
    · exact h.ent x h1
  · rcases put_mem.1 hx with rfl | ⟨h1, h2⟩
    · rcases (h.kind _).1 hd with h0 | ⟨d, hd, hp, hk⟩
      · exact .inl h0
      · exact .inr ⟨d, put_mem.2 (.inr ⟨hd, .inl (by show ltP d.path.data.toList x.path.data.toList = true; rw [hp]; exact under_lt hPe.under)⟩), hp, hk⟩
    · have hPx := parted_of (h.ent x h1)
      rcases h.dir x h1 with h0 | ⟨d, hd, hp, hk⟩
      · exact .inl h0
      · right
        by_cases hde : d.path.data.toList = e.path.data.toList
        · -- the directory is what is put
          have hux : under e.path.data.toList x.path.data.toList := by rw [← hde, hp]; exact hPx.under
          have hb : bothE es e = true := by
            rcases h2 with h2 | h2
            · have : ltP x.path.data.toList e.path.data.toList = true := h2
              rw [under_not_lt hux] at this; cases this
            · rcases (keepPut_iff.1 h2).2 with h3 | h3
              · exact h3
              · exact absurd hux h3
          have hb2 := hb
          simp only [bothE, Bool.and_eq_true, decide_eq_true_eq] at hb2
          exact ⟨e, put_mem.2 (.inl rfl), hde.symm.trans hp, hb2.2⟩
        · refine ⟨d, put_mem.2 (.inr ⟨hd, ?_⟩), hp, hk⟩
          have hdx : under d.path.data.toList x.path.data.toList := by rw [hp]; exact hPx.under
          cases hlt : ltP d.path.data.toList e.path.data.toList
          · right
            refine keepPut_iff.2 ⟨?_, ?_⟩
            · show ltP e.path.data.toList d.path.data.toList = true
              cases h5 : ltP e.path.data.toList d.path.data.toList
              · exact absurd (totP.one hlt h5) hde
              · rfl
            · cases hb : bothE es e
              · right
                intro hu
                have hux : under e.path.data.toList x.path.data.toList := under_trans hu hdx
                rcases h2 with h2 | h2
                · have : ltP x.path.data.toList e.path.data.toList = true := h2
                  rw [under_not_lt hux] at this; cases this
                · rcases (keepPut_iff.1 h2).2 with h3 | h3
                  · rw [hb] at h3; cases h3
                  · exact h3 hux
              · exact .inl rfl
          · exact .inl hlt
end Go.Proofs.YtjofjcjojgpaeaaGreatDoor

namespace Go.Proofs.YtjofjcjojgpaeaaGreatDoor
open Go.RowKit

/-- The places of raw trees. -/
def places : List ByteArray := rawP (longK 12)
theorem places_len : places.length = 17 := rfl
theorem places_rise : (places.map fun b => b.data.toList).Pairwise fun x y => ltP x y = true := by decide +kernel
theorem places_path : ∀ b ∈ places, b.data.toList ≠ [] ∧ isP b.data.toList = true ∧ b.size ≤ 1048576 := by decide +kernel
/-- What a raw tree is so far. -/
structure RawT (k : Nat) (es : List Ent) : Prop where
  tree : TreeS es
  len : es.length ≤ k
  at_ : ∀ e ∈ es, ∃ j, j < k ∧ places[j]? = some e.path
  small : ∀ e ∈ es, e.data.size ≤ 4096
theorem RawT.nil : RawT 0 [] := ⟨⟨List.Pairwise.nil, fun e he => by simp at he, fun e he => by simp at he⟩, Nat.le_refl _, fun e he => by simp at he, fun e he => by simp at he⟩
theorem RawT.more {k : Nat} {es : List Ent} (h : RawT k es) : RawT (k + 1) es := ⟨h.tree, by have := h.len; omega, fun e he => by obtain ⟨j, h1, h2⟩ := h.at_ e he; exact ⟨j, by omega, h2⟩, h.small⟩
theorem places_lt {i j : Nat} {a b : ByteArray} (hij : i < j) (ha : places[i]? = some a) (hb : places[j]? = some b) : ltP a.data.toList b.data.toList = true := by
  have hi := (List.getElem?_eq_some_iff.1 ha)
  have hj := (List.getElem?_eq_some_iff.1 hb)
  obtain ⟨hi1, hi2⟩ := hi
  obtain ⟨hj1, hj2⟩ := hj
  have h := List.pairwise_iff_getElem.1 places_rise i j (by rw [List.length_map]; exact hi1) (by rw [List.length_map]; exact hj1) hij
  rw [List.getElem_map, List.getElem_map, hi2, hj2] at h
  exact h
theorem RawT.put {k : Nat} {es : List Ent} {p : ByteArray} {e : Ent} (h : RawT k es) (hp : places[k]? = some p) (he : RawE p e) (hd : dirOf p.data.toList = [] ∨ ∃ x ∈ es, x.path.data.toList = dirOf p.data.toList ∧ x.kind = 1) : RawT (k + 1) (es ++ [e]) := by
  obtain ⟨h1, h2, h3⟩ := he
  have hpp := places_path p (List.mem_of_getElem? hp)
  have hent : entOk e = true := by
    simp only [entOk, Bool.and_eq_true, bne_iff_ne]
    rw [h1]
    exact ⟨⟨hpp.1, hpp.2.1⟩, h2⟩
  refine ⟨⟨?_, fun x hx => ?_, fun x hx => ?_⟩, by have := h.len; simp; omega, fun x hx => ?_, fun x hx => ?_⟩
  · rw [List.pairwise_append]
    refine ⟨h.tree.ord, List.pairwise_singleton _ _, fun a ha b hb => ?_⟩
    obtain rfl : b = e := by simpa using hb
    obtain ⟨j, hj, hja⟩ := h.at_ a ha
    rw [h1]
    exact places_lt hj hja hp
  · rcases List.mem_append.1 hx with hx | hx
    · exact h.tree.ent x hx
    · obtain rfl : x = e := by simpa using hx
      exact hent
  · rcases List.mem_append.1 hx with hx | hx
    · rcases h.tree.dir x hx with h0 | ⟨d, hd, h4, h5⟩
      · exact .inl h0
      · exact .inr ⟨d, by simp [hd], h4, h5⟩
    · obtain rfl : x = e := by simpa using hx
      rw [h1]
      rcases hd with h0 | ⟨d, hd, h4, h5⟩
      · exact .inl h0
      · exact .inr ⟨d, by simp [hd], h4, h5⟩
  · rcases List.mem_append.1 hx with hx | hx
    · obtain ⟨j, h4, h5⟩ := h.at_ x hx; exact ⟨j, by omega, h5⟩
    · obtain rfl : x = e := by simpa using hx
      exact ⟨k, by omega, by rw [h1]; exact hp⟩
  · rcases List.mem_append.1 hx with hx | hx
    · exact h.small x hx
    · obtain rfl : x = e := by simpa using hx
      exact h3
theorem RawT.sizes {k : Nat} {es : List Ent} (h : RawT k es) : Small es := fun e he => by
  obtain ⟨j, _, hj⟩ := h.at_ e he
  exact ⟨(places_path _ (List.mem_of_getElem? hj)).2.2, by have := h.small e he; omega⟩
/-- The directory of a text, as a text. -/
def upS (p : ByteArray) : ByteArray := ⟨(dirOf p.data.toList).toArray⟩
theorem rawUp_is (s : ByteArray) (w : World) (hs : s.size ≤ 1073741824) : Calls Tryz.prog 16 #[.string s] w fun ev w' => ev = .returned (.string (upS s)) ∧ w' = w := by
  refine (rawUp_any s w hs).mono ?_
  rintro e w' ⟨d, rfl, HD, rfl⟩
  refine ⟨?_, rfl⟩
  rw [upS, ← unhide HD]
/-- A raw thing. -/
structure Tg where
  a : Int
  b : Int
  c : Int
  d : ByteArray
def TgRow (w : World) (ao : Option Addr) (xs : List Tg) : Prop := ∀ k x, xs[k]? = some x → ∃ g o, ao = some ⟨g, o, none⟩ ∧ w.cell? ⟨g, o + k * 4, none⟩ = some (.int .i64 x.a) ∧ w.cell? ⟨g, o + k * 4 + 1, none⟩ = some (.int .i64 x.b) ∧ w.cell? ⟨g, o + k * 4 + 2, none⟩ = some (.int .i64 x.c) ∧ w.cell? ⟨g, o + k * 4 + 3, none⟩ = some (.string x.d)
theorem TgRow.below {w w' : World} {ao : Option Addr} {xs : List Tg} (h : TgRow w ao xs) (hb : Below w.heap.size w w') : TgRow w' ao xs := fun k e hk => by
  obtain ⟨g, o, h1, h2, h3, h4, h5⟩ := h k e hk
  exact ⟨g, o, h1, cell_later hb h2, cell_later hb h3, cell_later hb h4, cell_later hb h5⟩
/-- Is there a directory, among the first of the list? -/
def dirIn (es : List Ent) (q : ByteArray) (j : Nat) : Bool := (es.take j).any fun x => x.path.data.toList == q.data.toList && decide (x.kind = 1)
theorem dirIn_snoc {es : List Ent} {q : ByteArray} {j : Nat} {x : Ent} (h : es[j]? = some x) : dirIn es q (j + 1) = (dirIn es q j || (x.path.data.toList == q.data.toList && decide (x.kind = 1))) := by
  rw [dirIn, dirIn, List.take_add_one, h]; simp
theorem dirIn_yes {es : List Ent} {p : ByteArray} {j : Nat} (h : dirIn es (upS p) j = true) : ∃ x ∈ es, x.path.data.toList = dirOf p.data.toList ∧ x.kind = 1 := by
  rw [dirIn, List.any_eq_true] at h
  obtain ⟨x, hx, hb⟩ := h
  simp only [Bool.and_eq_true, decide_eq_true_eq, beq_iff_eq] at hb
  exact ⟨x, List.mem_of_mem_take hx, by simpa [upS] using hb.1, hb.2⟩
end Go.Proofs.YtjofjcjojgpaeaaGreatDoor
