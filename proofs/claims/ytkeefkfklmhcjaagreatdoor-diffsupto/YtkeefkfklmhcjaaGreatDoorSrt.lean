import Derived.Test.YtkeefkfklmhcjaaGreatDoorDifP
import Derived.Test.YtkeefkfklmhcjaaGreatDoorSrtL
import Derived.Test.YtkeefkfklmhcjaaGreatDoorShelfC
import Derived.Lib.RowBridge
namespace Go.Proofs.YtkeefkfklmhcjaaGreatDoor
open Go.RowKit Go.Sort Go.Shelf

theorem grown_row {α : Type} [Inhabited α] {w : World} (enc : α → Value) {g n : Nat} {os : Array Obj} (d : Array α) : w.grownBy (grow (putRow enc (Sort.ahead w n) g 0 d) os) (some g) := by
  refine ⟨rfl, rfl, rfl, by simp [grow], fun k hk hne => ?_⟩
  have hkg : k ≠ g := fun e => hne (by rw [e])
  have : k < (putRow enc (Sort.ahead w n) g 0 d).heap.size := by rw [size_putRow]; exact hk
  simp only [grow, Array.getElem?_append_left this]
  simp only [putRow, mapBlock, Array.getElem?_modify, Sort.ahead]
  rw [if_neg (Ne.symm hkg)]
/-- Texts of a size that the proof bears. -/
abbrev TS := { l : List UInt8 // l.length ≤ 1048576 }
def encT (x : TS) : Value := .string ⟨x.1.toArray⟩
def cfT (x y : TS) : Int := cmpT (prt x.1) (prt y.1)
section
set_option linter.unusedSectionVars false
variable [Inhabited TS]
theorem ltT (x y : TS) : ltOf cfT x y = ltP x.1 y.1 := by
  rw [ltOf, cfT, ltP]
  rw [Bool.eq_iff_iff, decide_eq_true_iff, cmpT_lt]
theorem swoT : SWO (ltOf cfT) where
  irrefl x := by rw [ltT]; exact totP.irr _
  trans x y z h1 h2 := by rw [ltT] at *; exact totP.trans h1 h2
  ntrans x y z h1 h2 := by
    rw [ltT] at *
    cases h : ltP x.1 z.1 with
    | false => rfl
    | true =>
      cases h3 : ltP y.1 x.1 with
      | true => have := totP.trans h3 h; rw [h2] at this; cases this
      | false =>
        have e := totP.one h1 h3
        rw [e, h2] at h; cases h
theorem oneT : OneCell encT := fun _ => rfl
theorem cmpLays (w : World) (g size : Nat) (m : Int) (hm : w.cell? ⟨15, 0, none⟩ = some (.int .i64 m)) (hg : g ≠ 15) : CmpLays1 Tryz.prog 68 #[] encT cfT g 0 size w := by
  intro q os dk _ x y
  have h2 : 15 < w.heap.size := World.block_lt_of_cell? _ _ hm
  have hc : (sortWorld encT w g 0 q dk os).cell? ⟨15, 0, none⟩ = some (.int .i64 m) := by
    rw [sortWorld, cell?_grow _ _ _ (by rw [size_putRow]; exact h2), cell?_putRow_other _ _ _ _ _ _ (.inl (Ne.symm hg))]
    exact hm
  refine (compare_grow ⟨x.1.toArray⟩ ⟨y.1.toArray⟩ m _ (by have := x.2; show x.1.toArray.size ≤ _; simp; omega) (by have := y.2; show y.1.toArray.size ≤ _; simp; omega) hc).mono ?_
  rintro e w' ⟨rfl, ⟨os', rfl⟩, _⟩
  exact ⟨rfl, 0, os', rfl⟩
theorem map_val {d : Array TS} {zs : List (List UInt8)} (h : zs = d.toList.map (·.1)) {j : Nat} (hj : j < d.size) : encStr zs.toArray[j]! = encT d[j]! := by
  have h1 : j < zs.toArray.size := by rw [h]; simpa using hj
  rw [getElem!_pos zs.toArray j h1, getElem!_pos d j hj]
  simp only [h]
  simp [encStr, encT]
end
/-- A row of texts, sorted by tree order. -/
theorem sort_any (g cap n : Nat) (ps : List ByteArray) (m : Int) (w : World) (hc : ∀ k p, ps[k]? = some p → w.cell? ⟨g, k, none⟩ = some (.string p) ∧ w.frozen? ⟨g, k, none⟩ = false) (hn : n = ps.length) (hg : g < w.heap.size) (h2 : g ≠ 15) (hm : w.cell? ⟨15, 0, none⟩ = some (.int .i64 m)) (hsz : ∀ p ∈ ps, p.size ≤ 1048576) (hlen : n ≤ 1000) :
    Calls Tryz.prog 120 #[.slice (some ⟨g, 0, none⟩) n cap, .func (.func 68) #[] #[]] w fun e w' => e = .returned (.tuple #[]) ∧ ∃ zs : List (List UInt8), zs.length = n ∧ (∀ z, z ∈ zs ↔ z ∈ txts ps) ∧ (zs.Pairwise fun x y => ltP y x = false) ∧ Holds encStr w' g 0 zs.toArray ∧ w.grownBy w' (some g) := by
  haveI : Inhabited TS := ⟨⟨[], by simp⟩⟩
  let d : Array TS := (ps.attach.map fun p => (⟨p.1.data.toList, by have := hsz p.1 p.2; rw [Lib.size_eq] at this; exact this⟩ : TS)).toArray
  have hd : d.size = n := by simp [d, hn]
  have hdl : d.toList.map (·.1) = txts ps := by
    simp only [d, List.map_map, txts]
    exact List.attach_map_val (f := fun p : ByteArray => p.data.toList)
  have hget : ∀ j (hj : j < d.size), ∃ p, ps[j]? = some p ∧ encT d[j]! = .string p := fun j hj => by
    have hj' : j < ps.length := by rw [hd, hn] at hj; exact hj
    refine ⟨ps[j], List.getElem?_eq_getElem hj', ?_⟩
    rw [getElem!_pos d j hj]
    simp [d, encT]
  have hH : Holds encT w g 0 d := fun j hj => by
    obtain ⟨p, hp, he⟩ := hget j hj
    have := hc j p hp
    rw [he, Nat.zero_add]; exact this
  have eg : ∀ args w, (callFunc 68 args).run Tryz.prog w = .ok (.enter 68 args) w := enters_of Tryz.func68 (by kernel_rfl) rfl
  have hcon := Any.slices_SortFunc Tryz.sortF96 encT oneT cfT swoT 68 #[] g 0 cap d w eg (cmpLays w g d.size m hm h2) hH hg (by rw [hd]; omega)
  rw [hd] at hcon
  refine hcon.mono ?_
  rintro e w' ⟨rfl, d', q, os, hp, hs, rfl⟩
  refine ⟨rfl, d'.toList.map (·.1), ?_, ?_, ?_, ?_, grown_row encT d'⟩
  · rw [List.length_map, Array.length_toList, hp.1, hd]
  · intro z
    have hperm := hp.2.2
    have e1 : d'.extract 0 n = d' := by rw [← hd, ← hp.1]; simp
    have e2 : d.extract 0 n = d := by rw [← hd]; simp
    rw [e1, e2] at hperm
    rw [← hdl]
    exact (hperm.map _).mem_iff
  · rw [List.pairwise_map, List.pairwise_iff_getElem]
    intro i j hi hj hij
    have hi' : i < d'.size := by simpa using hi
    have hj' : j < d'.size := by simpa using hj
    have := hs i j (Nat.zero_le _) hij (by rw [← hd, ← hp.1]; exact hj')
    rw [ltT, getElem!_pos d' i hi', getElem!_pos d' j hj'] at this
    simpa using this
  · intro j hj
    have hj' : j < d'.size := by simpa using hj
    have hh := holds_putRow encT (Sort.ahead w q) g 0 d d' hH hp.1 j hj'
    rw [map_val rfl hj']
    refine ⟨?_, ?_⟩
    · rw [sortWorld, cell?_grow _ _ _ (by rw [size_putRow]; exact hg)]; exact hh.1
    · rw [sortWorld, frozen?_grow _ _ _ (by rw [size_putRow]; exact hg)]; exact hh.2
/-- Made apart. -/
theorem compact_any (g cap n : Nat) (zs : List (List UInt8)) (w : World) (hH : Holds encStr w g 0 zs.toArray) (hn : n = zs.length) (_ : g < w.heap.size) (hlen : n ≤ 1000) (hcap : n ≤ cap) :
    Calls Tryz.prog 121 #[.slice (some ⟨g, 0, none⟩) n cap] w fun e w' => e = .returned (.slice (some ⟨g, 0, none⟩) (Lib.compact zs).length cap) ∧ (∀ k z, (Lib.compact zs)[k]? = some z → w'.cell? ⟨g, k, none⟩ = some (.string ⟨z.toArray⟩)) ∧ w.grownBy w' (some g) := by
  subst hn
  refine (Tryz.slices_Compact_string g 0 cap zs w hH (by omega) hcap).mono ?_
  rintro e w' ⟨rfl, q, rfl⟩
  have hl : (Lib.compact zs).length ≤ zs.length := Lib.compact_length_le zs
  have hz : (Lib.compact zs ++ List.replicate (zs.length - (Lib.compact zs).length) []).toArray.size = zs.toArray.size := by simp; omega
  refine ⟨rfl, fun k z hk => ?_, ?_⟩
  · have hk' := (List.getElem?_eq_some_iff.1 hk).1
    have hh := (holds_putRow encStr (Sort.ahead w q) g 0 zs.toArray _ hH hz k (by rw [hz]; simp; omega)).1
    rw [Nat.zero_add] at hh
    rw [hh, getElem!_pos _ _ (by rw [hz]; simp; omega)]
    simp only [List.getElem_toArray, Option.some.injEq]
    rw [List.getElem_append_left hk']
    obtain ⟨_, e⟩ := List.getElem?_eq_some_iff.1 hk
    rw [e]
  · have := grown_row (w := w) encStr (g := g) (n := q) (os := #[]) (Lib.compact zs ++ List.replicate (zs.length - (Lib.compact zs).length) []).toArray
    rwa [grow_empty] at this
end Go.Proofs.YtkeefkfklmhcjaaGreatDoor
