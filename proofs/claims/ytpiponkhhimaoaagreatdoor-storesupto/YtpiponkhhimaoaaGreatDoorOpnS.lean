import Derived.Test.YtpiponkhhimaoaaGreatDoorLwJ
import Derived.Deep.Slices
import Derived.ChangeSame
namespace Go.Proofs.YtpiponkhhimaoaaGreatDoor
open Go.RowKit Go.ChangeShapes Go.WideShapes Go.Deep

/-- How a file reads. -/
def litB {H : Type} (b : Blb) : DataW H := .agg [.lit (.string b.name.data.toList), .lit (.string b.data.data.toList)]
def Stp.cells (s : Stp) : List Value := [.int .i64 s.kind, .int .i64 s.which, .string s.name, .string s.data, .slice s.ctx s.cn s.cc, .int .i64 s.quota]
theorem Tryz.cellsOf68 : Tryz.prog.cellsOf 68 = 2 := by kernel_rfl
theorem Tryz.cellsOf32 : Tryz.prog.cellsOf 32 = 6 := by kernel_rfl
theorem Tryz.cellsOf9 : Tryz.prog.cellsOf 9 = 1 := by kernel_rfl
theorem Tryz.cellsOf3 : Tryz.prog.cellsOf 3 = 1 := by kernel_rfl
theorem Tryz.cellsOf30 : Tryz.prog.cellsOf 30 = 1 := by kernel_rfl
theorem two {α : Type} {l : List α} (h : l.length = 2) : ∃ a b, l = [a, b] := by
  match l, h with
  | [a, b], _ => exact ⟨a, b, rfl⟩
theorem six {α : Type} {l : List α} (h : l.length = 6) : ∃ a b c d e f, l = [a, b, c, d, e, f] := by
  match l, h with
  | [a, b, c, d, e, f], _ => exact ⟨a, b, c, d, e, f, rfl⟩
section
variable {H : Type} {enc : TypeId × Value → H} {w : World} {base : Nat} {spare : Nat → Bool} {held : Bool}
theorem open_blob {fuel : Nat} {cs : List Value} {x : DataW H × List MemPlace} (h : DataW.trod enc Tryz.prog w base spare held fuel 68 cs = some x) : ∃ b : Blb, cs = [.string b.name, .string b.data] ∧ x = (litB b, []) := by
  obtain ⟨xs, n, rfl, hx, hl, hxl, hf⟩ := DataW.trod_struct Tryz.underlying68 h
  rw [Tryz.cellsOf68] at hl
  have hx2 : xs.length = 2 := hxl
  clear hxl h
  obtain ⟨y0, y1, rfl⟩ := two hx2
  obtain ⟨v0, v1, rfl⟩ := two hl
  have g0 : DataW.trod enc Tryz.prog w base spare held n 9 (List.take (Tryz.prog.cellsOf 9) (List.drop 0 [v0, v1])) = some y0 := hf 0 _ rfl
  rw [Tryz.cellsOf9] at g0
  replace g0 : DataW.trod enc Tryz.prog w base spare held n 9 [v0] = some y0 := g0
  have g1 : DataW.trod enc Tryz.prog w base spare held n 9 (List.take (Tryz.prog.cellsOf 9) (List.drop 1 [v0, v1])) = some y1 := hf 1 _ rfl
  rw [Tryz.cellsOf9] at g1
  replace g1 : DataW.trod enc Tryz.prog w base spare held n 9 [v1] = some y1 := g1
  obtain ⟨s0, e0, rfl, _⟩ := DataW.trod_string Tryz.underlying9 g0
  obtain ⟨s1, e1, rfl, _⟩ := DataW.trod_string Tryz.underlying9 g1
  have q0 : v0 = .string s0 := by simpa using e0
  subst q0
  have q1 : v1 = .string s1 := by simpa using e1
  subst q1
  exact ⟨⟨s0, s1⟩, rfl, hx.trans (by simp [litB])⟩
/-- What of a step's reading counts. -/
def StD (d : DataW H) (s : Stp) : Prop := ∃ c : DataW H, d = .agg [.lit (.int .i64 s.kind), .lit (.int .i64 s.which), .lit (.string s.name.data.toList), .lit (.string s.data.data.toList), c, .lit (.int .i64 s.quota)]
theorem open_step {fuel : Nat} {cs : List Value} {x : DataW H × List MemPlace} (h : DataW.trod enc Tryz.prog w base spare held fuel 32 cs = some x) : ∃ s : Stp, cs = s.cells ∧ StD x.1 s := by
  obtain ⟨xs, n, rfl, hx, hl, hxl, hf⟩ := DataW.trod_struct Tryz.underlying32 h
  rw [Tryz.cellsOf32] at hl
  have hx6 : xs.length = 6 := hxl
  clear hxl h
  obtain ⟨y0, y1, y2, y3, y4, y5, rfl⟩ := six hx6
  obtain ⟨v0, v1, v2, v3, v4, v5, rfl⟩ := six hl
  have g0 : DataW.trod enc Tryz.prog w base spare held n 3 (List.take (Tryz.prog.cellsOf 3) (List.drop 0 [v0, v1, v2, v3, v4, v5])) = some y0 := hf 0 _ rfl
  rw [Tryz.cellsOf3] at g0
  replace g0 : DataW.trod enc Tryz.prog w base spare held n 3 [v0] = some y0 := g0
  have g1 : DataW.trod enc Tryz.prog w base spare held n 3 (List.take (Tryz.prog.cellsOf 3) (List.drop 1 [v0, v1, v2, v3, v4, v5])) = some y1 := hf 1 _ rfl
  rw [Tryz.cellsOf3] at g1
  replace g1 : DataW.trod enc Tryz.prog w base spare held n 3 [v1] = some y1 := g1
  have g2 : DataW.trod enc Tryz.prog w base spare held n 9 (List.take (Tryz.prog.cellsOf 9) (List.drop 2 [v0, v1, v2, v3, v4, v5])) = some y2 := hf 2 _ rfl
  rw [Tryz.cellsOf9] at g2
  replace g2 : DataW.trod enc Tryz.prog w base spare held n 9 [v2] = some y2 := g2
  have g3 : DataW.trod enc Tryz.prog w base spare held n 9 (List.take (Tryz.prog.cellsOf 9) (List.drop 3 [v0, v1, v2, v3, v4, v5])) = some y3 := hf 3 _ rfl
  rw [Tryz.cellsOf9] at g3
  replace g3 : DataW.trod enc Tryz.prog w base spare held n 9 [v3] = some y3 := g3
  have g4 : DataW.trod enc Tryz.prog w base spare held n 30 (List.take (Tryz.prog.cellsOf 30) (List.drop 4 [v0, v1, v2, v3, v4, v5])) = some y4 := hf 4 _ rfl
  rw [Tryz.cellsOf30] at g4
  replace g4 : DataW.trod enc Tryz.prog w base spare held n 30 [v4] = some y4 := g4
  have g5 : DataW.trod enc Tryz.prog w base spare held n 3 (List.take (Tryz.prog.cellsOf 3) (List.drop 5 [v0, v1, v2, v3, v4, v5])) = some y5 := hf 5 _ rfl
  rw [Tryz.cellsOf3] at g5
  replace g5 : DataW.trod enc Tryz.prog w base spare held n 3 [v5] = some y5 := g5
  clear hf
  obtain ⟨k0, e0, rfl, _⟩ := DataW.trod_int Tryz.underlying3 g0
  obtain ⟨k1, e1, rfl, _⟩ := DataW.trod_int Tryz.underlying3 g1
  obtain ⟨s2, e2, rfl, _⟩ := DataW.trod_string Tryz.underlying9 g2
  obtain ⟨s3, e3, rfl, _⟩ := DataW.trod_string Tryz.underlying9 g3
  obtain ⟨k5, e5, rfl, _⟩ := DataW.trod_int Tryz.underlying3 g5
  have q0 : v0 = .int .i64 k0 := by simpa using e0
  subst q0
  have q1 : v1 = .int .i64 k1 := by simpa using e1
  subst q1
  have q2 : v2 = .string s2 := by simpa using e2
  subst q2
  have q3 : v3 = .string s3 := by simpa using e3
  subst q3
  have q5 : v5 = .int .i64 k5 := by simpa using e5
  subst q5
  obtain ⟨c, cn, cc, q4⟩ : ∃ c cn cc, v4 = .slice c cn cc := by
    rcases open_slice Tryz.underlying30 g4 with ⟨h1, _⟩ | ⟨a, len, cap, _, _, _, _, h1, _⟩
    · exact ⟨none, 0, 0, List.singleton_inj.1 h1⟩
    · exact ⟨some a, len, cap, List.singleton_inj.1 h1⟩
  subst q4
  exact ⟨⟨k0, k1, s2, s3, c, cn, cc, k5⟩, rfl, y4.1, by rw [hx]; simp⟩
theorem spot_of {a : Addr} {n : Nat} {c : Value} {cs : List Value} (h : w.cells? 0 a n = some (c :: cs)) (hn : 0 < n) (hc : (∃ s, c = .string s) ∨ ∃ k, c = .int .i64 k) : a.spot = none := by
  have q3 := (World.cells?_some h).2.2 0 hn
  simp only [Addr.add_zero'] at q3
  cases hs : a.spot with
  | none => rfl
  | some y =>
    unfold World.cell? at q3
    rw [hs] at q3
    rcases hc with ⟨_, rfl⟩ | ⟨_, rfl⟩
    · split at q3 <;> simp at q3
    · split at q3 <;> simp at q3
/-- Files that were handed in. -/
theorem open_blobs {v : Value} {d : DataW H} {p : List MemPlace} (hv : v.cells.toList = [v]) (h : DataW.Trod enc Tryz.prog w 0 (fun _ => true) true 22 v d p) :
    (v = .slice none 0 0 ∧ d = .nil) ∨ ∃ (a : Addr) (len cap : Nat) (E : Nat → Blb) (sp : List (DataW H)), v = .slice (some a) len cap ∧ len ≤ cap ∧ d = .slice ((List.range len).map fun i => litB (E i)) sp ∧ BRow w (some a) ((List.range len).map E) := by
  obtain ⟨fuel, hf⟩ := h
  rw [hv] at hf
  rcases open_slice Tryz.underlying22 hf with ⟨h1, h2⟩ | ⟨a, len, cap, m, n, D, Pl, h1, _, hl, hm, hmm, h2, hx⟩
  · cases h2
    exact .inl ⟨List.singleton_inj.1 h1, rfl⟩
  · right
    obtain rfl : m = cap := hmm
    have each : ∀ i, i < m → ∃ b : Blb, D i = litB b ∧ w.cells? 0 (a.add (i * 2)) 2 = some [.string b.name, .string b.data] := by
      intro i hi
      obtain ⟨cs', g1, g2⟩ := hx i hi
      rw [Tryz.cellsOf68] at g1
      obtain ⟨b, rfl, g3⟩ := open_blob g2
      exact ⟨b, congrArg Prod.fst g3, g1⟩
    haveI : Inhabited Blb := ⟨⟨ByteArray.empty, ByteArray.empty⟩⟩; haveI : Inhabited Stp := ⟨⟨0, 0, ByteArray.empty, ByteArray.empty, none, 0, 0, 0⟩⟩; obtain ⟨E, hE⟩ := choose_lt each
    cases h2
    refine ⟨a, len, m, E, (List.range (m - len)).map fun j => D (len + j), List.singleton_inj.1 h1, hl, ?_, ?_⟩
    · rw [List.map_congr_left (fun i hi => (hE i (by have := List.mem_range.1 hi; omega)).1)]
    · intro k b hk
      rw [List.getElem?_map] at hk
      obtain ⟨j, hj, rfl⟩ := Option.map_eq_some_iff.1 hk
      have hk' : k < len := by
        have := (List.getElem?_eq_some_iff.1 hj).1
        simpa using this
      rw [List.getElem?_range hk'] at hj
      cases hj
      have h3 := (hE k (by omega)).2
      have h0 := (hE 0 (by omega)).2
      rw [Nat.zero_mul, Addr.add_zero'] at h0
      have hsp := spot_of h0 (by decide) (.inl ⟨_, rfl⟩)
      obtain ⟨g, o, sp⟩ := a
      simp only at hsp
      subst hsp
      have h4 := (World.cells?_some h3).2.2
      rw [Addr.add_lit] at h4
      refine ⟨g, o, rfl, ?_, ?_⟩
      · have := h4 0 (by decide); rw [Addr.add_lit] at this; exact this
      · have := h4 1 (by decide); rw [Addr.add_lit] at this; exact this
/-- Steps that were handed in. -/
theorem open_steps {v : Value} {d : DataW H} {p : List MemPlace} (hv : v.cells.toList = [v]) (h : DataW.Trod enc Tryz.prog w 0 (fun _ => true) true 23 v d p) :
    (v = .slice none 0 0 ∧ d = .nil) ∨ ∃ (a : Addr) (len cap : Nat) (E : Nat → Stp) (D : Nat → DataW H) (sp : List (DataW H)), v = .slice (some a) len cap ∧ len ≤ cap ∧ d = .slice ((List.range len).map D) sp ∧ (∀ i, i < len → StD (D i) (E i)) ∧ SRow w (some a) ((List.range len).map E) := by
  obtain ⟨fuel, hf⟩ := h
  rw [hv] at hf
  rcases open_slice Tryz.underlying23 hf with ⟨h1, h2⟩ | ⟨a, len, cap, m, n, D, Pl, h1, _, hl, hm, hmm, h2, hx⟩
  · cases h2
    exact .inl ⟨List.singleton_inj.1 h1, rfl⟩
  · right
    obtain rfl : m = cap := hmm
    have each : ∀ i, i < m → ∃ s : Stp, StD (D i) s ∧ w.cells? 0 (a.add (i * 6)) 6 = some s.cells := by
      intro i hi
      obtain ⟨cs', g1, g2⟩ := hx i hi
      rw [Tryz.cellsOf32] at g1
      obtain ⟨s, rfl, g3⟩ := open_step g2
      exact ⟨s, g3, g1⟩
    haveI : Inhabited Blb := ⟨⟨ByteArray.empty, ByteArray.empty⟩⟩; haveI : Inhabited Stp := ⟨⟨0, 0, ByteArray.empty, ByteArray.empty, none, 0, 0, 0⟩⟩; obtain ⟨E, hE⟩ := choose_lt each
    cases h2
    refine ⟨a, len, m, E, D, (List.range (m - len)).map fun j => D (len + j), List.singleton_inj.1 h1, hl, rfl, fun i hi => (hE i (by omega)).1, ?_⟩
    intro k s hk
    rw [List.getElem?_map] at hk
    obtain ⟨j, hj, rfl⟩ := Option.map_eq_some_iff.1 hk
    have hk' : k < len := by
      have := (List.getElem?_eq_some_iff.1 hj).1
      simpa using this
    rw [List.getElem?_range hk'] at hj
    cases hj
    have h3 := (hE k (by omega)).2
    have h0 := (hE 0 (by omega)).2
    rw [Nat.zero_mul, Addr.add_zero'] at h0
    have hsp := spot_of h0 (by decide) (.inr ⟨_, rfl⟩)
    obtain ⟨g, o, sp⟩ := a
    simp only at hsp
    subst hsp
    have h4 := (World.cells?_some h3).2.2
    rw [Addr.add_lit] at h4
    refine ⟨g, o, rfl, ?_, ?_, ?_, ?_, ?_, ?_⟩
    · have := h4 0 (by decide); rw [Addr.add_lit] at this; exact this
    · have := h4 1 (by decide); rw [Addr.add_lit] at this; exact this
    · have := h4 2 (by decide); rw [Addr.add_lit] at this; exact this
    · have := h4 3 (by decide); rw [Addr.add_lit] at this; exact this
    · have := h4 4 (by decide); rw [Addr.add_lit] at this; exact this
    · have := h4 5 (by decide); rw [Addr.add_lit] at this; exact this
end
end Go.Proofs.YtpiponkhhimaoaaGreatDoor
