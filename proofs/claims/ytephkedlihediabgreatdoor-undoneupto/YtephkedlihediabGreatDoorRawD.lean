import Derived.Test.YtephkedlihediabGreatDoorRawB
import Derived.Test.YtephkedlihediabGreatDoorRawC
import Derived.Test.YtephkedlihediabGreatDoorJDifP
namespace Go.Proofs.YtephkedlihediabGreatDoor
open Go.RowKit

/-- The places of raw trees. -/
def places : List ByteArray := rawP (longK 12)
theorem places_len : places.length = 17 := rfl
theorem places_rise : (places.map fun b => b.data.toList).Pairwise fun x y => ltP x y = true := by decide +kernel
theorem places_path : ∀ b ∈ places, b.data.toList ≠ [] ∧ isP b.data.toList = true ∧ b.size ≤ 1048576 := by decide +kernel
/-- What a raw tree is so far. -/
structure RawT (k : Nat) (es : List Ent) : Prop where
  tree : TreeS es
  len : es.length ≤ k
  at_ : ∀ e ∈ es, ∃ j, j < k ∧ places[j]? = some e.path
  small : ∀ e ∈ es, e.data.size ≤ 4096
theorem RawT.nil : RawT 0 [] := ⟨⟨List.Pairwise.nil, fun e he => by simp at he, fun e he => by simp at he⟩, Nat.le_refl _, fun e he => by simp at he, fun e he => by simp at he⟩
theorem RawT.more {k : Nat} {es : List Ent} (h : RawT k es) : RawT (k + 1) es := ⟨h.tree, by have := h.len; omega, fun e he => by obtain ⟨j, h1, h2⟩ := h.at_ e he; exact ⟨j, by omega, h2⟩, h.small⟩
theorem places_lt {i j : Nat} {a b : ByteArray} (hij : i < j) (ha : places[i]? = some a) (hb : places[j]? = some b) : ltP a.data.toList b.data.toList = true := by
  have hi := (List.getElem?_eq_some_iff.1 ha)
  have hj := (List.getElem?_eq_some_iff.1 hb)
  obtain ⟨hi1, hi2⟩ := hi
  obtain ⟨hj1, hj2⟩ := hj
  have h := List.pairwise_iff_getElem.1 places_rise i j (by rw [List.length_map]; exact hi1) (by rw [List.length_map]; exact hj1) hij
  rw [List.getElem_map, List.getElem_map, hi2, hj2] at h
  exact h
theorem RawT.put {k : Nat} {es : List Ent} {p : ByteArray} {e : Ent} (h : RawT k es) (hp : places[k]? = some p) (he : RawE p e) (hd : dirOf p.data.toList = [] ∨ ∃ x ∈ es, x.path.data.toList = dirOf p.data.toList ∧ x.kind = 1) : RawT (k + 1) (es ++ [e]) := by
  obtain ⟨h1, h2, h3⟩ := he
  have hpp := places_path p (List.mem_of_getElem? hp)
  have hent : entOk e = true := by
    simp only [entOk, Bool.and_eq_true, bne_iff_ne]
    rw [h1]
    exact ⟨⟨hpp.1, hpp.2.1⟩, h2⟩
  refine ⟨⟨?_, fun x hx => ?_, fun x hx => ?_⟩, by have := h.len; simp; omega, fun x hx => ?_, fun x hx => ?_⟩
  · rw [List.pairwise_append]
    refine ⟨h.tree.ord, List.pairwise_singleton _ _, fun a ha b hb => ?_⟩
    obtain rfl : b = e := by simpa using hb
    obtain ⟨j, hj, hja⟩ := h.at_ a ha
    rw [h1]
    exact places_lt hj hja hp
  · rcases List.mem_append.1 hx with hx | hx
    · exact h.tree.ent x hx
    · obtain rfl : x = e := by simpa using hx
      exact hent
  · rcases List.mem_append.1 hx with hx | hx
    · rcases h.tree.dir x hx with h0 | ⟨d, hd, h4, h5⟩
      · exact .inl h0
      · exact .inr ⟨d, by simp [hd], h4, h5⟩
    · obtain rfl : x = e := by simpa using hx
      rw [h1]
      rcases hd with h0 | ⟨d, hd, h4, h5⟩
      · exact .inl h0
      · exact .inr ⟨d, by simp [hd], h4, h5⟩
  · rcases List.mem_append.1 hx with hx | hx
    · obtain ⟨j, h4, h5⟩ := h.at_ x hx; exact ⟨j, by omega, h5⟩
    · obtain rfl : x = e := by simpa using hx
      exact ⟨k, by omega, by rw [h1]; exact hp⟩
  · rcases List.mem_append.1 hx with hx | hx
    · exact h.small x hx
    · obtain rfl : x = e := by simpa using hx
      exact h3
theorem RawT.sizes {k : Nat} {es : List Ent} (h : RawT k es) : Small es := fun e he => by
  obtain ⟨j, _, hj⟩ := h.at_ e he
  exact ⟨(places_path _ (List.mem_of_getElem? hj)).2.2, by have := h.small e he; omega⟩
/-- The directory of a text, as a text. -/
def upS (p : ByteArray) : ByteArray := ⟨(dirOf p.data.toList).toArray⟩
theorem rawUp_is (s : ByteArray) (w : World) (hs : s.size ≤ 1073741824) : Calls Tryz.prog 16 #[.string s] w fun ev w' => ev = .returned (.string (upS s)) ∧ w' = w := by
  refine (rawUp_any s w hs).mono ?_
  rintro e w' ⟨d, rfl, HD, rfl⟩
  refine ⟨?_, rfl⟩
  rw [upS, ← unhide HD]
/-- A raw thing. -/
structure Tg where
  a : Int
  b : Int
  c : Int
  d : ByteArray
def TgRow (w : World) (ao : Option Addr) (xs : List Tg) : Prop := ∀ k x, xs[k]? = some x → ∃ g o, ao = some ⟨g, o, none⟩ ∧ w.cell? ⟨g, o + k * 4, none⟩ = some (.int .i64 x.a) ∧ w.cell? ⟨g, o + k * 4 + 1, none⟩ = some (.int .i64 x.b) ∧ w.cell? ⟨g, o + k * 4 + 2, none⟩ = some (.int .i64 x.c) ∧ w.cell? ⟨g, o + k * 4 + 3, none⟩ = some (.string x.d)
theorem TgRow.below {w w' : World} {ao : Option Addr} {xs : List Tg} (h : TgRow w ao xs) (hb : Below w.heap.size w w') : TgRow w' ao xs := fun k e hk => by
  obtain ⟨g, o, h1, h2, h3, h4, h5⟩ := h k e hk
  exact ⟨g, o, h1, cell_later hb h2, cell_later hb h3, cell_later hb h4, cell_later hb h5⟩
/-- Is there a directory, among the first of the list? -/
def dirIn (es : List Ent) (q : ByteArray) (j : Nat) : Bool := (es.take j).any fun x => x.path.data.toList == q.data.toList && decide (x.kind = 1)
theorem dirIn_snoc {es : List Ent} {q : ByteArray} {j : Nat} {x : Ent} (h : es[j]? = some x) : dirIn es q (j + 1) = (dirIn es q j || (x.path.data.toList == q.data.toList && decide (x.kind = 1))) := by
  rw [dirIn, dirIn, List.take_add_one, h]; simp
theorem dirIn_yes {es : List Ent} {p : ByteArray} {j : Nat} (h : dirIn es (upS p) j = true) : ∃ x ∈ es, x.path.data.toList = dirOf p.data.toList ∧ x.kind = 1 := by
  rw [dirIn, List.any_eq_true] at h
  obtain ⟨x, hx, hb⟩ := h
  simp only [Bool.and_eq_true, decide_eq_true_eq, beq_iff_eq] at hb
  exact ⟨x, List.mem_of_mem_take hx, by simpa [upS] using hb.1, hb.2⟩
end Go.Proofs.YtephkedlihediabGreatDoor
