import Derived.Shelf.SlSortCmp.Whole1
import Derived.Shelf.SlGeneric
import Derived.Ground.SlsfProg
import Derived.Test.YtjofjcjojgpaeaaGreatDoorProg
import Derived.Test.YtjofjcjojgpaeaaGreatDoorJEqS
import Derived.Test.YtjofjcjojgpaeaaGreatDoorJLeaf
import Derived.Lib.RowBridge
namespace Go.Proofs
open Go.Shelf
def Tryz.sortF96_ren : Go.Shelf.Ren := ⟨fun | 6 => 68 | 15 => 94 | 14 => 93 | 28 => 127 | 29 => 128 | 20 => 119 | 21 => 120 | 22 => 121 | 23 => 122 | 24 => 123 | 25 => 124 | 26 => 125 | 27 => 126 | 46 => 149 | 47 => 150 | 48 => 151 | 49 => 152 | 50 => 153 | 57 => 168 | n => n, fun | 22 => 43 | 24 => 9 | 25 => 81 | 3 => 3 | 39 => 158 | 0 => 0 | 53 => 185 | 55 => 187 | 4 => 4 | 46 => 179 | 45 => 178 | 50 => 38 | 5 => 5 | 9 => 9 | 66 => 204 | 70 => 208 | 76 => 220 | 77 => 221 | n => n, fun | n => n⟩
theorem Tryz.sortF96 : Go.Proofs.SlLaysF.n6 Tryz.prog Tryz.sortF96_ren := {
  mixed := by kernel_rfl
  f6 := ⟨Tryz.f68.name, by decide, Tryz.func68.trans (congrArg some (by kernel_rfl))⟩
  f14 := ⟨Tryz.f93.name, by decide, Tryz.func93.trans (congrArg some (by kernel_rfl))⟩
  f15 := Tryz.func94.trans (congrArg some (by kernel_rfl))
  f20 := ⟨Tryz.f119.name, by decide, Tryz.func119.trans (congrArg some (by kernel_rfl))⟩
  f21 := ⟨Tryz.f120.name, by decide, Tryz.func120.trans (congrArg some (by kernel_rfl))⟩
  f22 := ⟨Tryz.f121.name, by decide, Tryz.func121.trans (congrArg some (by kernel_rfl))⟩
  f23 := ⟨Tryz.f122.name, by decide, Tryz.func122.trans (congrArg some (by kernel_rfl))⟩
  f24 := ⟨Tryz.f123.name, by decide, Tryz.func123.trans (congrArg some (by kernel_rfl))⟩
  f25 := ⟨Tryz.f124.name, by decide, Tryz.func124.trans (congrArg some (by kernel_rfl))⟩
  f26 := ⟨Tryz.f125.name, by decide, Tryz.func125.trans (congrArg some (by kernel_rfl))⟩
  f27 := ⟨Tryz.f126.name, by decide, Tryz.func126.trans (congrArg some (by kernel_rfl))⟩
  f28 := Tryz.func127.trans (congrArg some (by kernel_rfl))
  f29 := Tryz.func128.trans (congrArg some (by kernel_rfl))
  f46 := ⟨Tryz.f149.name, by decide, Tryz.func149.trans (congrArg some (by kernel_rfl))⟩
  f47 := Tryz.func150.trans (congrArg some (by kernel_rfl))
  f48 := Tryz.func151.trans (congrArg some (by kernel_rfl))
  f49 := ⟨Tryz.f152.name, by decide, Tryz.func152.trans (congrArg some (by kernel_rfl))⟩
  f50 := ⟨Tryz.f153.name, by decide, Tryz.func153.trans (congrArg some (by kernel_rfl))⟩
  f57 := ⟨Tryz.f168.name, by decide, Tryz.func168.trans (congrArg some (by kernel_rfl))⟩
  t0 := Tryz.underlying0
  a0 := Tryz.isAgg0
  z0 := Tryz.sizeOf0
  v0 := Tryz.zeroValue0
  t3 := Tryz.underlying3
  a3 := Tryz.isAgg3
  z3 := Tryz.sizeOf3
  v3 := Tryz.zeroValue3
  t4 := Tryz.underlying4
  a4 := Tryz.isAgg4
  z4 := Tryz.sizeOf4
  v4 := Tryz.zeroValue4
  t5 := Tryz.underlying5
  a5 := Tryz.isAgg5
  z5 := Tryz.sizeOf5
  v5 := Tryz.zeroValue5
  t9 := Tryz.underlying9
  a9 := Tryz.isAgg9
  z9 := Tryz.sizeOf9
  v9 := Tryz.zeroValue9
  t22 := Tryz.underlying43
  a22 := Tryz.isAgg43
  z22 := Tryz.sizeOf43
  v22 := Tryz.zeroValue43
  a24 := Tryz.isAgg9
  z24 := Tryz.sizeOf9
  t25 := Tryz.underlying81
  a25 := Tryz.isAgg81
  z25 := Tryz.sizeOf81
  v25 := Tryz.zeroValue81
  t39 := Tryz.underlying158
  a39 := Tryz.isAgg158
  z39 := Tryz.sizeOf158
  v39 := Tryz.zeroValue158
  t45 := Tryz.underlying178
  a45 := Tryz.isAgg178
  z45 := Tryz.sizeOf178
  v45 := Tryz.zeroValue178
  t46 := Tryz.underlying179
  a46 := Tryz.isAgg179
  z46 := Tryz.sizeOf179
  v46 := Tryz.zeroValue179
  t50 := Tryz.underlying38
  a50 := Tryz.isAgg38
  z50 := Tryz.sizeOf38
  v50 := Tryz.zeroValue38
  t53 := Tryz.underlying185
  a53 := Tryz.isAgg185
  z53 := Tryz.sizeOf185
  v53 := Tryz.zeroValue185
  t55 := Tryz.underlying187
  a55 := Tryz.isAgg187
  z55 := Tryz.sizeOf187
  v55 := Tryz.zeroValue187
  t66 := Tryz.underlying204
  a66 := Tryz.isAgg204
  z66 := Tryz.sizeOf204
  v66 := Tryz.zeroValue204
  t70 := Tryz.underlying208
  a70 := Tryz.isAgg208
  z70 := Tryz.sizeOf208
  v70 := Tryz.zeroValue208
  t76 := Tryz.underlying220
  a76 := Tryz.isAgg220
  z76 := Tryz.sizeOf220
  v76 := Tryz.zeroValue220
  t77 := Tryz.underlying221
  a77 := Tryz.isAgg221
  z77 := Tryz.sizeOf221
  v77 := Tryz.zeroValue221 }
end Go.Proofs

namespace Go.Proofs.YtjofjcjojgpaeaaGreatDoor
open Go.RowKit Go.Sort Go.Shelf

theorem grown_row {α : Type} [Inhabited α] {w : World} (enc : α → Value) {g n : Nat} {os : Array Obj} (d : Array α) : w.grownBy (grow (putRow enc (Sort.ahead w n) g 0 d) os) (some g) := by
  refine ⟨rfl, rfl, rfl, by simp [grow], fun k hk hne => ?_⟩
  have hkg : k ≠ g := fun e => hne (by rw [e])
  have : k < (putRow enc (Sort.ahead w n) g 0 d).heap.size := by rw [size_putRow]; exact hk
  simp only [grow, Array.getElem?_append_left this]
  simp only [putRow, mapBlock, Array.getElem?_modify, Sort.ahead]
  rw [if_neg (Ne.symm hkg)]
/-- Texts of a size that the proof bears. -/
abbrev TS := { l : List UInt8 // l.length ≤ 1048576 }
def encT (x : TS) : Value := .string ⟨x.1.toArray⟩
def cfT (x y : TS) : Int := cmpT (prt x.1) (prt y.1)
section
set_option linter.unusedSectionVars false
variable [Inhabited TS]
theorem ltT (x y : TS) : ltOf cfT x y = ltP x.1 y.1 := by
  rw [ltOf, cfT, ltP]
  rw [Bool.eq_iff_iff, decide_eq_true_iff, cmpT_lt]
theorem swoT : SWO (ltOf cfT) where
  irrefl x := by rw [ltT]; exact totP.irr _
  trans x y z h1 h2 := by rw [ltT] at *; exact totP.trans h1 h2
  ntrans x y z h1 h2 := by
    rw [ltT] at *
    cases h : ltP x.1 z.1 with
    | false => rfl
    | true =>
      cases h3 : ltP y.1 x.1 with
      | true => have := totP.trans h3 h; rw [h2] at this; cases this
      | false =>
        have e := totP.one h1 h3
        rw [e, h2] at h; cases h
theorem oneT : OneCell encT := fun _ => rfl
theorem cmpLays (w : World) (g size : Nat) (m : Int) (hm : w.cell? ⟨14, 0, none⟩ = some (.int .i64 m)) (hg : g ≠ 14) : CmpLays1 Tryz.prog 36 #[] encT cfT g 0 size w := by
  intro q os dk _ x y
  have h2 : 14 < w.heap.size := World.block_lt_of_cell? _ _ hm
  have hc : (sortWorld encT w g 0 q dk os).cell? ⟨14, 0, none⟩ = some (.int .i64 m) := by
    rw [sortWorld, cell?_grow _ _ _ (by rw [size_putRow]; exact h2), cell?_putRow_other _ _ _ _ _ _ (.inl (Ne.symm hg))]
    exact hm
  refine (compare_grow ⟨x.1.toArray⟩ ⟨y.1.toArray⟩ m _ (by have := x.2; show x.1.toArray.size ≤ _; simp; omega) (by have := y.2; show y.1.toArray.size ≤ _; simp; omega) hc).mono ?_
  rintro e w' ⟨rfl, ⟨os', rfl⟩, _⟩
  exact ⟨rfl, 0, os', rfl⟩
theorem map_val {d : Array TS} {zs : List (List UInt8)} (h : zs = d.toList.map (·.1)) {j : Nat} (hj : j < d.size) : encStr zs.toArray[j]! = encT d[j]! := by
  have h1 : j < zs.toArray.size := by rw [h]; simpa using hj
  rw [getElem!_pos zs.toArray j h1, getElem!_pos d j hj]
  simp only [h]
  simp [encStr, encT]
end
/-- A row of texts, sorted by tree order. -/
theorem sort_any (g cap n : Nat) (ps : List ByteArray) (m : Int) (w : World) (hc : ∀ k p, ps[k]? = some p → w.cell? ⟨g, k, none⟩ = some (.string p) ∧ w.frozen? ⟨g, k, none⟩ = false) (hn : n = ps.length) (hg : g < w.heap.size) (h2 : g ≠ 14) (hm : w.cell? ⟨14, 0, none⟩ = some (.int .i64 m)) (hsz : ∀ p ∈ ps, p.size ≤ 1048576) (hlen : n ≤ 1000) :
    Calls Tryz.prog 68 #[.slice (some ⟨g, 0, none⟩) n cap, .func (.func 36) #[] #[]] w fun e w' => e = .returned (.tuple #[]) ∧ ∃ zs : List (List UInt8), zs.length = n ∧ (∀ z, z ∈ zs ↔ z ∈ txts ps) ∧ (zs.Pairwise fun x y => ltP y x = false) ∧ Holds encStr w' g 0 zs.toArray ∧ w.grownBy w' (some g) := by
  haveI : Inhabited TS := ⟨⟨[], by simp⟩⟩
  let d : Array TS := (ps.attach.map fun p => (⟨p.1.data.toList, by have := hsz p.1 p.2; rw [Lib.size_eq] at this; exact this⟩ : TS)).toArray
  have hd : d.size = n := by simp [d, hn]
  have hdl : d.toList.map (·.1) = txts ps := by
    simp only [d, List.map_map, txts]
    exact List.attach_map_val (f := fun p : ByteArray => p.data.toList)
  have hget : ∀ j (hj : j < d.size), ∃ p, ps[j]? = some p ∧ encT d[j]! = .string p := fun j hj => by
    have hj' : j < ps.length := by rw [hd, hn] at hj; exact hj
    refine ⟨ps[j], List.getElem?_eq_getElem hj', ?_⟩
    rw [getElem!_pos d j hj]
    simp [d, encT]
  have hH : Holds encT w g 0 d := fun j hj => by
    obtain ⟨p, hp, he⟩ := hget j hj
    have := hc j p hp
    rw [he, Nat.zero_add]; exact this
  have eg : ∀ args w, (callFunc 36 args).run Tryz.prog w = .ok (.enter 36 args) w := enters_of Tryz.func36 (by kernel_rfl) rfl
  have hcon := Any.slices_SortFunc Tryz.sortF96 encT oneT cfT swoT 36 #[] g 0 cap d w eg (cmpLays w g d.size m hm h2) hH hg (by rw [hd]; omega)
  rw [hd] at hcon
  refine hcon.mono ?_
  rintro e w' ⟨rfl, d', q, os, hp, hs, rfl⟩
  refine ⟨rfl, d'.toList.map (·.1), ?_, ?_, ?_, ?_, grown_row encT d'⟩
  · rw [List.length_map, Array.length_toList, hp.1, hd]
  · intro z
    have hperm := hp.2.2
    have e1 : d'.extract 0 n = d' := by rw [← hd, ← hp.1]; simp
    have e2 : d.extract 0 n = d := by rw [← hd]; simp
    rw [e1, e2] at hperm
    rw [← hdl]
    exact (hperm.map _).mem_iff
  · rw [List.pairwise_map, List.pairwise_iff_getElem]
    intro i j hi hj hij
    have hi' : i < d'.size := by simpa using hi
    have hj' : j < d'.size := by simpa using hj
    have := hs i j (Nat.zero_le _) hij (by rw [← hd, ← hp.1]; exact hj')
    rw [ltT, getElem!_pos d' i hi', getElem!_pos d' j hj'] at this
    simpa using this
  · intro j hj
    have hj' : j < d'.size := by simpa using hj
    have hh := holds_putRow encT (Sort.ahead w q) g 0 d d' hH hp.1 j hj'
    rw [map_val rfl hj']
    refine ⟨?_, ?_⟩
    · rw [sortWorld, cell?_grow _ _ _ (by rw [size_putRow]; exact hg)]; exact hh.1
    · rw [sortWorld, frozen?_grow _ _ _ (by rw [size_putRow]; exact hg)]; exact hh.2
/-- Made apart. -/
theorem compact_any (g cap n : Nat) (zs : List (List UInt8)) (w : World) (hH : Holds encStr w g 0 zs.toArray) (hn : n = zs.length) (_ : g < w.heap.size) (hlen : n ≤ 1000) (hcap : n ≤ cap) :
    Calls Tryz.prog 69 #[.slice (some ⟨g, 0, none⟩) n cap] w fun e w' => e = .returned (.slice (some ⟨g, 0, none⟩) (Lib.compact zs).length cap) ∧ (∀ k z, (Lib.compact zs)[k]? = some z → w'.cell? ⟨g, k, none⟩ = some (.string ⟨z.toArray⟩)) ∧ w.grownBy w' (some g) := by
  subst hn
  refine (Tryz.slices_Compact_string g 0 cap zs w hH (by omega) hcap).mono ?_
  rintro e w' ⟨rfl, q, rfl⟩
  have hl : (Lib.compact zs).length ≤ zs.length := Lib.compact_length_le zs
  have hz : (Lib.compact zs ++ List.replicate (zs.length - (Lib.compact zs).length) []).toArray.size = zs.toArray.size := by simp; omega
  refine ⟨rfl, fun k z hk => ?_, ?_⟩
  · have hk' := (List.getElem?_eq_some_iff.1 hk).1
    have hh := (holds_putRow encStr (Sort.ahead w q) g 0 zs.toArray _ hH hz k (by rw [hz]; simp; omega)).1
    rw [Nat.zero_add] at hh
    rw [hh, getElem!_pos _ _ (by rw [hz]; simp; omega)]
    simp only [List.getElem_toArray, Option.some.injEq]
    rw [List.getElem_append_left hk']
    obtain ⟨_, e⟩ := List.getElem?_eq_some_iff.1 hk
    rw [e]
  · have := grown_row (w := w) encStr (g := g) (n := q) (os := #[]) (Lib.compact zs ++ List.replicate (zs.length - (Lib.compact zs).length) []).toArray
    rwa [grow_empty] at this
end Go.Proofs.YtjofjcjojgpaeaaGreatDoor
