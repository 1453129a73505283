import Derived.Test.YtkikhmleffcajaaGreatDoorJPlain
import Derived.Lib.Strings
import Derived.Lib.Slices
import Derived.Lib.Walk
import Derived.Lib.Bytealg
namespace Go.Proofs.YtkikhmleffcajaaGreatDoor
open Go.RowKit

/-- A part of a word. -/
structure Prt where
  text : ByteArray
  isVar : Bool
  place : Int
def Prt.cells (p : Prt) : List Value := [.string p.text, .bool p.isVar, .int .i64 p.place]
def prC (l : List Prt) : List Value := (l.map Prt.cells).flatten
theorem prC_len (l : List Prt) : (prC l).length = l.length * 3 := by
  induction l with
  | nil => rfl
  | cons a r ih => simp only [prC, List.map_cons, List.flatten_cons, List.length_append, List.length_cons] at ih ⊢; rw [ih]; simp [Prt.cells]; omega
theorem prC_snoc (l : List Prt) (a : Prt) : prC (l ++ [a]) = prC l ++ a.cells := by simp [prC]
theorem pr_one (a : Prt) : ∀ u ∈ a.cells, u.oneCell' = true := fun u hu => by
  simp only [Prt.cells, List.mem_cons, List.not_mem_nil, or_false] at hu
  rcases hu with rfl | rfl | rfl <;> rfl
theorem info167 : (Tryz.prog.info? 161).map (fun i => (i.zero, i.size, i.bytes)) = some (some (.agg #[.string ByteArray.empty, .bool false, .int .i64 0]), 3, 32) := by kernel_rfl
theorem info_parts {P : Program} {t : TypeId} {z : Option Value} {a b : Nat} (h : (P.info? t).map (fun i => (i.zero, i.size, i.bytes)) = some (z, a, b)) : ∃ i, P.info? t = some i ∧ i.zero = z ∧ i.size = a ∧ i.bytes = b := by
  cases hi : P.info? t with
  | none => rw [hi] at h; cases h
  | some i =>
    rw [hi] at h
    simp only [Option.map_some, Option.some.injEq, Prod.mk.injEq] at h
    exact ⟨i, rfl, h.1, h.2.1, h.2.2⟩
/-- A word that is being read lies in memory. -/
structure Wrd (w : World) (B wb : Nat) (pl : Int) (v : Value) (ps : List Prt) : Prop where
  cells : w.heap[wb]? = some (.cells #[.int .i64 pl, v] 133 (0, 0))
  row : w.ownsRow B 161 3 v ps.length (prC ps)
  base : B ≤ wb
  nil : ps = [] → v = .slice none 0 0
theorem Wrd.ne {w : World} {B wb : Nat} {pl : Int} {v : Value} {ps : List Prt} (h : Wrd w B wb pl v ps) : v.ownBlock ≠ some wb := by
  rintro e
  rcases h.row.2 with ⟨rfl, _⟩ | ⟨g, cap, cur, rfl, _, hg, _⟩
  · cases e
  · obtain rfl : g = wb := by simpa [Value.ownBlock] using e
    have := h.cells
    rw [hg] at this; cases this
theorem Wrd.lt {w : World} {B wb : Nat} {pl : Int} {v : Value} {ps : List Prt} (h : Wrd w B wb pl v ps) : wb < w.heap.size := (Array.getElem?_eq_some_iff.1 h.cells).1
theorem row_same {w w' : World} {B e z n : Nat} {v : Value} {xs : List Value} (h : w.ownsRow B e z v n xs) (hk : ∀ k, v.ownBlock = some k → w'.heap[k]? = w.heap[k]?) : w'.ownsRow B e z v n xs := by
  refine ⟨h.1, ?_⟩
  rcases h.2 with h0 | ⟨g, cap, cur, hv, h1, h2, h3⟩
  · exact .inl h0
  · refine .inr ⟨g, cap, cur, hv, h1, (hk g ?_).trans h2, h3⟩
    rw [hv]; rfl
/-- What leaves its blocks as they are leaves a word as it is. -/
theorem Wrd.same {w w' : World} {B wb : Nat} {pl : Int} {v : Value} {ps : List Prt} (h : Wrd w B wb pl v ps) (hk : ∀ k, k = wb ∨ v.ownBlock = some k → w'.heap[k]? = w.heap[k]?) : Wrd w' B wb pl v ps :=
  ⟨(hk wb (.inl rfl)).trans h.cells, row_same h.row fun k e => hk k (.inr e), h.base, h.nil⟩
theorem Wrd.below {w w' : World} {B wb : Nat} {pl : Int} {v : Value} {ps : List Prt} (h : Wrd w B wb pl v ps) (hb : Below w.heap.size w w') : Wrd w' B wb pl v ps :=
  h.same fun k e => hb.block k (by
    rcases e with rfl | e
    · exact h.lt
    · exact (World.ownsRow.lt h.row k e).2)
/-- What turns in the reader alone leaves a word as it is. -/
theorem Wrd.tb {w w' : World} {B wb rb : Nat} {pl : Int} {v : Value} {ps : List Prt} (h : Wrd w B wb pl v ps) (hb : Tb w.heap.size rb w w') (hr : rb < B) : Wrd w' B wb pl v ps :=
  h.same fun k e => hb.block k (by
    rcases e with rfl | e
    · exact h.lt
    · exact (World.ownsRow.lt h.row k e).2) (by
    rcases e with rfl | e
    · have := h.base; omega
    · have := (World.ownsRow.lt h.row k e).1; omega)
theorem wrd_snoc {w w1 : World} {o : Obj} {B wb : Nat} {pl : Int} {v v' : Value} {ps : List Prt} {p : Prt} (h : Wrd w B wb pl v ps) (hB : B ≤ w.heap.size) (hown : w1.ownsRow B 161 3 v' (ps.length + 1) (prC ps ++ p.cells)) (hg : (w.alloc o).grownBy w1 v.ownBlock) :
    Wrd (w1.setCell ⟨wb, 1, none⟩ v') B wb pl v' (ps ++ [p]) ∧ Below B w (w1.setCell ⟨wb, 1, none⟩ v') := by
  have hc : w1.heap[wb]? = some (.cells #[.int .i64 pl, v] 133 (0, 0)) :=
    (hg.block wb (by have := h.lt; simp; omega) (fun e => h.ne e.symm)).trans ((Below.heap_alloc _ _ _ h.lt).trans h.cells)
  have hb : Below B w w1 := ((Below.refl B w).alloc hB o).grown hg (by simp; omega) (fun q hq => (World.ownsRow.lt h.row q hq).1)
  have hb2 : Below B w (w1.setCell ⟨wb, 1, none⟩ v') := hb.setCell (p := ⟨wb, 1, none⟩) h.base _
  refine ⟨⟨heap_setCell_same _ _ 1 _ _ _ hc, ?_, h.base, by simp⟩, hb2⟩
  rw [prC_snoc, List.length_append]
  refine row_same hown fun k hk => Below.heap_setCell _ _ _ _ (fun e => ?_)
  obtain rfl : k = wb := e
  rcases hown.2 with ⟨rfl, _⟩ | ⟨g, cap, cur, rfl, _, hg', _⟩
  · cases hk
  · obtain rfl : g = k := by simpa [Value.ownBlock] using hk
    rw [hg'] at hc; cases hc
set_option maxHeartbeats 1000000 in
set_option maxRecDepth 10000 in
theorem addVar_any (B wb : Nat) (pl : Int) (v : Value) (ps : List Prt) (n : ByteArray) (k : Int) (w : World) (h : Wrd w B wb pl v ps) (hB : B ≤ w.heap.size) (hn : ps.length ≤ 1000000) :
    Calls Tryz.prog 77 #[.pointer (some ⟨wb, 0, none⟩), .string n, .int .i64 k] w fun ev w' => ev = .returned (.tuple #[]) ∧ (∃ v', Wrd w' B wb pl v' (ps ++ [⟨n, true, k⟩])) ∧ Below B w w' := by
  obtain ⟨i0, hi, hz0, hz1, hz2⟩ := info_parts info167
  have hwl := h.lt
  have c1 : w.cell? ⟨wb, 1, none⟩ = some v := cell_of_row _ _ 1 _ _ _ h.cells
  have HP := hide h
  have HR := hide (h.row.alloc (.cells #[.string n, .bool true, .int .i64 k] 161))
  have HX := hide (fun (w1 : World) (hg : (w.alloc (.cells #[.string n, .bool true, .int .i64 k] 161)).grownBy w1 v.ownBlock) => (hg.block wb (by simp; omega) (fun e => h.ne e.symm)).trans ((Below.heap_alloc _ _ _ hwl).trans h.cells))
  clear h
  go_enter Tryz.func77, Tryz.ntmps77
  go_wp2_with (at_builtin; refine wpList_append_own _ rfl _ _ 131 rfl B 161 i0 _ 3 32 Tryz.underlying131 hi hz0 hz1 hz2 rfl (by decide) v ps.length (prC ps) rfl (unhide HR) ⟨w.heap.size, 0, none⟩ 1 1 [.string n, .bool true, .int .i64 k] rfl rfl (World.news_of_block (cs := #[.string n, .bool true, .int .i64 k]) (t := 161) (fr := (0, 0)) (heap_alloc_new _ _)) (pr_one ⟨n, true, k⟩) (by unfold maxLen; omega) (by omega) (by simp; omega) ?_; intro v6 w6 hown6 hgrow6 _; obtain ⟨g6, cp6, rfl, _, _⟩ := World.ownsRow.form hown6 (by omega); have hs1 := unhide HX w6 hgrow6; have k2 : w6.cell? ⟨wb, 1, none⟩ = some v := cell_of_row _ _ 1 _ _ _ hs1; have f2 : w6.frozen? ⟨wb, 1, none⟩ = false := (by simp [World.frozen?, hs1]); have HO := hide hown6; clear hown6 hs1)
  go_end0
  have := wrd_snoc (unhide HP) hB (p := ⟨n, true, k⟩) (unhide HO) hgrow6
  exact ⟨rfl, ⟨_, this.1⟩, this.2⟩
/-- A text more. -/
def addT (ps : List Prt) (t : ByteArray) : List Prt := match ps.getLast? with
  | some p => if p.isVar = true then ps ++ [⟨t, false, 0⟩] else ps.dropLast ++ [⟨p.text ++ t, false, p.place⟩]
  | none => ps ++ [⟨t, false, 0⟩]
theorem addT_new {ps : List Prt} {t : ByteArray} (h : ∀ p, ps.getLast? = some p → p.isVar = true) : addT ps t = ps ++ [⟨t, false, 0⟩] := by
  unfold addT
  cases hp : ps.getLast? with
  | none => rfl
  | some p => simp [h p hp]
theorem addT_on {qs : List Prt} {p : Prt} {t : ByteArray} (h : p.isVar = false) : addT (qs ++ [p]) t = qs ++ [⟨p.text ++ t, false, p.place⟩] := by
  unfold addT
  simp [h]
theorem last_cases (ps : List Prt) : (ps = [] ∨ ∃ qs p, ps = qs ++ [p] ∧ p.isVar = true) ∨ ∃ qs p, ps = qs ++ [p] ∧ p.isVar = false := by
  rcases List.eq_nil_or_concat ps with h | ⟨qs, p, h⟩
  · exact .inl (.inl h)
  · rw [List.concat_eq_append] at h
    cases hp : p.isVar with
    | true => exact .inl (.inr ⟨qs, p, h, hp⟩)
    | false => exact .inr ⟨qs, p, h, hp⟩
theorem prC_at (qs : List Prt) (p : Prt) : (prC (qs ++ [p]))[qs.length * 3]? = some (.string p.text) ∧ (prC (qs ++ [p]))[qs.length * 3 + 1]? = some (.bool p.isVar) := by
  rw [prC_snoc, ← prC_len]
  refine ⟨?_, ?_⟩
  · rw [List.getElem?_append_right (Nat.le_refl _)]; simp [Prt.cells]
  · rw [List.getElem?_append_right (by omega)]; simp [Prt.cells]
theorem prC_set (qs : List Prt) (p : Prt) (t : ByteArray) : (prC (qs ++ [p])).set (qs.length * 3) (.string t) = prC (qs ++ [⟨t, p.isVar, p.place⟩]) := by
  rw [prC_snoc, prC_snoc, ← prC_len, List.set_append_right _ _ (Nat.le_refl _)]
  simp [Prt.cells]
set_option maxHeartbeats 1000000 in
set_option maxRecDepth 10000 in
theorem addText_new (B wb : Nat) (pl : Int) (v : Value) (ps : List Prt) (t : ByteArray) (w : World) (h : Wrd w B wb pl v ps) (hB : B ≤ w.heap.size) (hn : ps.length ≤ 1000000) (hc : ps = [] ∨ ∃ qs p, ps = qs ++ [p] ∧ p.isVar = true) :
    Calls Tryz.prog 78 #[.pointer (some ⟨wb, 0, none⟩), .string t] w fun ev w' => ev = .returned (.tuple #[]) ∧ (∃ v', Wrd w' B wb pl v' (ps ++ [⟨t, false, 0⟩])) ∧ Below B w w' := by
  obtain ⟨i0, hi, hz0, hz1, hz2⟩ := info_parts info167
  have hwl := h.lt
  have c1 : w.cell? ⟨wb, 1, none⟩ = some v := cell_of_row _ _ 1 _ _ _ h.cells
  have HP := hide h
  have HR := hide (h.row.alloc (.cells #[.string t, .bool false, .int .i64 0] 161))
  have HX := hide (fun (w1 : World) (hg : (w.alloc (.cells #[.string t, .bool false, .int .i64 0] 161)).grownBy w1 v.ownBlock) => (hg.block wb (by simp; omega) (fun e => h.ne e.symm)).trans ((Below.heap_alloc _ _ _ hwl).trans h.cells))
  rcases hc with rfl | ⟨qs, p, rfl, hp⟩
  · obtain rfl := h.nil rfl
    clear h
    go_enter Tryz.func78, Tryz.ntmps78
    go_upto_region 3 with fail
    go_wp2_with (at_builtin; refine wpList_append_own _ rfl _ _ 131 rfl B 161 i0 _ 3 32 Tryz.underlying131 hi hz0 hz1 hz2 rfl (by decide) (.slice none 0 0) (0) (prC []) rfl (unhide HR) ⟨w.heap.size, 0, none⟩ 1 1 [.string t, .bool false, .int .i64 0] rfl rfl (World.news_of_block (cs := #[.string t, .bool false, .int .i64 0]) (t := 161) (fr := (0, 0)) (heap_alloc_new _ _)) (pr_one ⟨t, false, 0⟩) (by unfold maxLen; omega) (by omega) (by simp; omega) ?_; intro v6 w6 hown6 hgrow6 _; obtain ⟨g6, cp6, rfl, _, _⟩ := World.ownsRow.form hown6 (by omega); have hs1 := unhide HX w6 hgrow6; have k2 : w6.cell? ⟨wb, 1, none⟩ = some (.slice none 0 0) := cell_of_row _ _ 1 _ _ _ hs1; have f2 : w6.frozen? ⟨wb, 1, none⟩ = false := (by simp [World.frozen?, hs1]); have HO := hide hown6; clear hown6 hs1)
    go_end0
    have := wrd_snoc (unhide HP) hB (p := ⟨t, false, 0⟩) (unhide HO) hgrow6
    exact ⟨rfl, ⟨_, this.1⟩, this.2⟩
  · obtain ⟨g, cap, rfl, _, _⟩ := World.ownsRow.form h.row (by simp)
    have q1 : w.cell? ⟨g, qs.length * 3 + 1, none⟩ = some (.bool true) := by
      rw [World.ownsRow.cellAt h.row _ (by simp; omega), (prC_at qs p).2, hp]
    have hl : (qs ++ [p]).length = qs.length + 1 := by simp
    have HL := hide hl
    clear h
    rw [hl] at c1 HP HR HX hn
    clear hl
    go_enter Tryz.func78, Tryz.ntmps78
    go_upto_region 3 with fail
    go_wp2_with (at_builtin; refine wpList_append_own _ rfl _ _ 131 rfl B 161 i0 _ 3 32 Tryz.underlying131 hi hz0 hz1 hz2 rfl (by decide) (.slice (some ⟨g, 0, none⟩) (qs.length + 1) cap) (qs.length + 1) (prC (qs ++ [p])) rfl (unhide HR) ⟨w.heap.size, 0, none⟩ 1 1 [.string t, .bool false, .int .i64 0] rfl rfl (World.news_of_block (cs := #[.string t, .bool false, .int .i64 0]) (t := 161) (fr := (0, 0)) (heap_alloc_new _ _)) (pr_one ⟨t, false, 0⟩) (by unfold maxLen; omega) (by omega) (by simp; omega) ?_; intro v6 w6 hown6 hgrow6 _; obtain ⟨g6, cp6, rfl, _, _⟩ := World.ownsRow.form hown6 (by omega); have hs1 := unhide HX w6 hgrow6; have k2 : w6.cell? ⟨wb, 1, none⟩ = some (.slice (some ⟨g, 0, none⟩) (qs.length + 1) cap) := cell_of_row _ _ 1 _ _ _ hs1; have f2 : w6.frozen? ⟨wb, 1, none⟩ = false := (by simp [World.frozen?, hs1]); have HO := hide hown6; clear hown6 hs1)
    go_end0
    have HO' : w6.ownsRow B 161 3 (.slice (some ⟨g6, 0, none⟩) (qs.length + 1 + 1) cp6) ((qs ++ [p]).length + 1) (prC (qs ++ [p]) ++ (⟨t, false, 0⟩ : Prt).cells) := by
      rw [unhide HL]; exact unhide HO
    have := wrd_snoc (unhide HP) hB (p := ⟨t, false, 0⟩) HO' hgrow6
    exact ⟨rfl, ⟨_, this.1⟩, this.2⟩
theorem wrd_set {w : World} {B wb g cap : Nat} {pl : Int} {qs : List Prt} {p : Prt} (t : ByteArray) (h : Wrd w B wb pl (.slice (some ⟨g, 0, none⟩) (qs.length + 1) cap) (qs ++ [p])) (hp : p.isVar = false) :
    Wrd (w.setCell ⟨g, qs.length * 3, none⟩ (.string t)) B wb pl (.slice (some ⟨g, 0, none⟩) (qs.length + 1) cap) (qs ++ [⟨t, false, p.place⟩]) ∧ Below B w (w.setCell ⟨g, qs.length * 3, none⟩ (.string t)) := by
  have hgb := (World.ownsRow.lt h.row g rfl).1
  have hne : wb ≠ g := fun e => h.ne (by rw [e]; rfl)
  refine ⟨⟨(Below.heap_setCell _ _ _ _ hne).trans h.cells, ?_, h.base, by simp⟩, (Below.refl B w).setCell (p := ⟨g, qs.length * 3, none⟩) hgb _⟩
  have hr := h.row
  rw [show (qs ++ [p]).length = qs.length + 1 by simp] at hr
  have := (World.ownsRow.stored hr (qs.length * 3) (.string t)).1
  rw [prC_set, hp] at this
  rw [show (qs ++ [(⟨t, false, p.place⟩ : Prt)]).length = qs.length + 1 by simp]
  exact this
set_option maxHeartbeats 1000000 in
set_option maxRecDepth 10000 in
theorem addText_on (B wb : Nat) (pl : Int) (v : Value) (qs : List Prt) (p : Prt) (t : ByteArray) (w : World) (h : Wrd w B wb pl v (qs ++ [p])) (hn : qs.length ≤ 1000000) (hp : p.isVar = false) (h1 : p.text.size ≤ 1000000) (h2 : t.size ≤ 1000000) :
    Calls Tryz.prog 78 #[.pointer (some ⟨wb, 0, none⟩), .string t] w fun ev w' => ev = .returned (.tuple #[]) ∧ (∃ v', Wrd w' B wb pl v' (qs ++ [⟨p.text ++ t, false, p.place⟩])) ∧ Below B w w' := by
  have c1 : w.cell? ⟨wb, 1, none⟩ = some v := cell_of_row _ _ 1 _ _ _ h.cells
  obtain ⟨g, cap, rfl, _, _⟩ := World.ownsRow.form h.row (by simp)
  have q1 : w.cell? ⟨g, qs.length * 3 + 1, none⟩ = some (.bool false) := by
    rw [World.ownsRow.cellAt h.row _ (by simp; omega), (prC_at qs p).2, hp]
  have q0 : w.cell? ⟨g, qs.length * 3, none⟩ = some (.string p.text) := by
    rw [World.ownsRow.cellAt h.row _ (by simp), (prC_at qs p).1]
  have z0 : w.frozen? ⟨g, qs.length * 3, none⟩ = false := World.ownsRow.frozenAt h.row _
  have hl : (qs ++ [p]).length = qs.length + 1 := by simp
  rw [hl] at c1 h
  have HP := hide h
  clear h hl
  go_enter Tryz.func78, Tryz.ntmps78
  go_wp2_with fail
  refine bodyPost_ret (results_none rfl _ _ _) rfl ?_
  have := wrd_set (p.text ++ t) (unhide HP) hp
  exact ⟨rfl, ⟨_, this.1⟩, this.2⟩
theorem addText_any (B wb : Nat) (pl : Int) (v : Value) (ps : List Prt) (t : ByteArray) (w : World) (h : Wrd w B wb pl v ps) (hB : B ≤ w.heap.size) (hn : ps.length ≤ 1000000) (hz : ∀ p ∈ ps, p.isVar = false → p.text.size ≤ 1000000) (ht : t.size ≤ 1000000) :
    Calls Tryz.prog 78 #[.pointer (some ⟨wb, 0, none⟩), .string t] w fun ev w' => ev = .returned (.tuple #[]) ∧ (∃ v', Wrd w' B wb pl v' (addT ps t)) ∧ Below B w w' := by
  rcases last_cases ps with hc | ⟨qs, p, rfl, hp⟩
  · have e : addT ps t = ps ++ [⟨t, false, 0⟩] := addT_new (by
      rintro q hq
      rcases hc with rfl | ⟨qs, p, rfl, hp⟩
      · cases hq
      · simp at hq; subst hq; exact hp)
    rw [e]
    exact addText_new B wb pl v ps t w h hB hn hc
  · rw [addT_on hp]
    exact addText_on B wb pl v qs p t w h (by simp at hn; omega) hp (hz p (by simp) hp) ht
end Go.Proofs.YtkikhmleffcajaaGreatDoor

namespace Go.Proofs.YtkikhmleffcajaaGreatDoor
open Go.RowKit

/-- A list's bytes as a text. -/
def bt (l : List UInt8) : ByteArray := ⟨l.toArray⟩
theorem bt_of (s : ByteArray) : bt s.data.toList = s := by cases s; rfl
theorem bt_list (l : List UInt8) : (bt l).data.toList = l := by simp [bt]
theorem bt_size (l : List UInt8) : (bt l).size = l.length := by rw [Lib.size_eq, bt_list]
theorem bt_app (a b : List UInt8) : bt a ++ bt b = bt (a ++ b) := by
  rw [← bt_of (bt a ++ bt b), ByteArray.data_append, Array.toList_append, bt_list, bt_list]
/-- An atom more. -/
def addA (ps : List Prt) : Atm → List Prt
  | .inl c => addT ps (bt [c])
  | .inr (n, k) => ps ++ [⟨bt n, true, (k : Int)⟩]
/-- The parts of a word. -/
def parts (xs : List Atm) : List Prt := xs.foldl addA []
theorem parts_snoc (xs : List Atm) (a : Atm) : parts (xs ++ [a]) = addA (parts xs) a := by simp [parts, List.foldl_append]
theorem rev_ind {α : Type} {P : List α → Prop} (h0 : P []) (h1 : ∀ l a, P l → P (l ++ [a])) (l : List α) : P l := by
  have h : ∀ l : List α, P l.reverse := fun l => by
    induction l with
    | nil => exact h0
    | cons a r ih => rw [List.reverse_cons]; exact h1 _ _ ih
  have := h l.reverse
  rwa [List.reverse_reverse] at this
theorem parts_le (xs : List Atm) : (parts xs).length ≤ xs.length ∧ ∀ p ∈ parts xs, p.isVar = false → p.text.size ≤ xs.length := by
  induction xs using rev_ind with
  | h0 => simp [parts]
  | h1 xs a ih =>
    rw [parts_snoc, List.length_append, List.length_singleton]
    obtain ⟨i1, i2⟩ := ih
    cases a with
    | inr pA =>
      obtain ⟨n, k⟩ := pA
      refine ⟨by simp [addA]; omega, fun p hp hv => ?_⟩
      rcases List.mem_append.1 hp with h | h
      · have := i2 p h hv; omega
      · rw [List.mem_singleton] at h; subst h; cases hv
    | inl c =>
      rcases last_cases (parts xs) with hc | ⟨qs, q, he, hq⟩
      · have e : addA (parts xs) (.inl c) = parts xs ++ [⟨bt [c], false, 0⟩] := addT_new (by
          rintro q hq
          rcases hc with h | ⟨qs, p, h, hp⟩
          · rw [h] at hq; cases hq
          · rw [h] at hq; simp at hq; subst hq; exact hp)
        rw [e]
        refine ⟨by simp; omega, fun p hp hv => ?_⟩
        rcases List.mem_append.1 hp with h | h
        · have := i2 p h hv; omega
        · rw [List.mem_singleton] at h; subst h; show (bt [c]).size ≤ _; rw [bt_size]; simp
      · have e : addA (parts xs) (.inl c) = qs ++ [⟨q.text ++ bt [c], false, q.place⟩] := by
          show addT (parts xs) (bt [c]) = _
          rw [he, addT_on hq]
        rw [e]
        rw [he] at i1 i2
        refine ⟨by simp at i1 ⊢; omega, fun p hp hv => ?_⟩
        rcases List.mem_append.1 hp with h | h
        · have := i2 p (by simp [h]) hv; omega
        · rw [List.mem_singleton] at h; subst h
          have := i2 q (by simp) hq
          show (q.text ++ bt [c]).size ≤ _
          rw [ByteArray.size_append, bt_size]; simp; omega
theorem ext_one (s : ByteArray) (k : Nat) (h : k < s.size) : s.extract k (k + 1) = bt [s[k]] := by
  rw [← bt_of (s.extract k (k + 1)), ByteArray.data_extract, Array.toList_extract, List.extract_eq_take_drop]
  rw [List.drop_eq_getElem_cons (by rw [← Lib.size_eq]; exact h), show k + 1 - k = 1 by omega]
  rfl
/-- A word that is being read, and its reader. -/
structure RW (w : World) (B rb wb : Nat) (s : ByteArray) (k : Nat) (pl : Int) (xs : List Atm) : Prop where
  rdr : Rdr w rb s k
  wrd : ∃ v, Wrd w B wb pl v (parts xs)
  rl : rb < B
  bl : B ≤ w.heap.size
theorem RW.drewN {w : World} {B rb wb : Nat} {s : ByteArray} {k : Nat} {pl : Int} {xs : List Atm} (h : RW w B rb wb s k pl xs) (n : Nat) : RW (w.drewN n) B rb wb s k pl xs :=
  ⟨h.rdr, h.wrd.imp fun _ h' => ⟨h'.cells, h'.row, h'.base, h'.nil⟩, h.rl, h.bl⟩
theorem RW.drew {w : World} {B rb wb : Nat} {s : ByteArray} {k : Nat} {pl : Int} {xs : List Atm} (h : RW w B rb wb s k pl xs) : RW w.drew B rb wb s k pl xs :=
  ⟨h.rdr, h.wrd.imp fun _ h' => ⟨h'.cells, h'.row, h'.base, h'.nil⟩, h.rl, h.bl⟩
theorem below0 {B : Nat} {w w1 : World} (h : Below B w.drew w1) : Below B w w1 := ⟨h.os, h.tape, h.output, h.size, h.block⟩
/-- What turns in the reader alone. -/
theorem RW.to {w w' : World} {B rb wb : Nat} {s : ByteArray} {k k' : Nat} {pl : Int} {xs : List Atm} (h : RW w B rb wb s k pl xs) (ht : Tb w.heap.size rb w w') (hr : Rdr w' rb s k') : RW w' B rb wb s k' pl xs :=
  ⟨hr, h.wrd.imp fun _ h' => h'.tb ht h.rl, h.rl, Nat.le_trans h.bl ht.size⟩
theorem RW.below {w w' : World} {B rb wb : Nat} {s : ByteArray} {k : Nat} {pl : Int} {xs : List Atm} (h : RW w B rb wb s k pl xs) (ht : Below w.heap.size w w') : RW w' B rb wb s k pl xs :=
  h.to (Tb.of_below ht) (h.rdr.below ht h.rdr.lt)
set_option maxHeartbeats 1000000 in
set_option maxRecDepth 10000 in
theorem itself_any (B rb wb : Nat) (s : ByteArray) (k : Nat) (pl : Int) (xs : List Atm) (w : World) (h : RW w B rb wb s k pl xs) (hk : k < s.size) (hs : s.size ≤ 1500) (ha : xs.length ≤ 1500) :
    Calls Tryz.prog 68 #[.pointer (some ⟨rb, 0, none⟩), .pointer (some ⟨wb, 0, none⟩)] w fun ev w' => ev = .returned (.tuple #[]) ∧ RW w' B rb wb s (k + 1) pl (xs ++ [.inl s[k]]) ∧ Tb B rb w w' := by
  have h0 := h.rdr.c0
  have h1 := h.rdr.c1
  have i0 : (0 : Int) ≤ (k : Int) := by omega
  have i1 : (k : Int) + 1 ≤ (s.size : Int) := by omega
  have i2 : (k : Int) ≤ (k : Int) + 1 := by omega
  have i3 : IntKind.i64.wrap ((k : Int) + 1) = (k : Int) + 1 := by have := wrap_i64 (k + 1) (by omega); simpa using this
  have HW := hide h
  have HA : Hid (∀ W, RW W B rb wb s k pl xs → Calls Tryz.prog 78 #[.pointer (some ⟨wb, 0, none⟩), .string (s.extract k (k + 1))] W fun ev w' => ev = .returned (.tuple #[]) ∧ (∃ v', Wrd w' B wb pl v' (parts (xs ++ [.inl s[k]]))) ∧ Below B W w') := hide (fun W h => by
    obtain ⟨v, hv⟩ := h.wrd
    have hp := parts_le xs
    refine (addText_any B wb pl v (parts xs) (s.extract k (k + 1)) W hv h.bl (by omega) (fun p hp' hv' => by have := hp.2 p hp' hv'; omega) (by rw [ext_one s k hk, bt_size]; simp)).mono ?_
    rintro ev w' ⟨rfl, hw, hb⟩
    refine ⟨rfl, ?_, hb⟩
    rw [parts_snoc]
    rw [ext_one s k hk] at hw
    exact hw)
  clear h
  go_enter Tryz.func68, Tryz.ntmps68
  go_upto_region 0 with fail
  go_region_held3 (fun w' => w'.cell? ⟨rb, 0, none⟩ = some (.string s) ∧ w'.cell? ⟨rb, 1, none⟩ = some (.int .i64 (k : Int)))
    (first | exact ⟨p0, p1⟩ | exact ⟨h0, h1⟩ | go_keep)
    (first | (go_at_call 78; refine (unhide HA _ (by first | exact (unhide HW).drew | exact unhide HW | exact (unhide HW).drewN _)).mono ?_; rintro ev w1 ⟨rfl, hW1, hb1'⟩; have hb1 : Below B w w1 := (by first | exact hb1' | exact below0 hb1'); have HR1 := hide ((unhide HW).rdr.below hb1 (unhide HW).rl); have p0 := (unhide HR1).c0; have p1 := (unhide HR1).c1; have z1 := (unhide HR1).fz 1))
  trace_state
  go_wp2_with fail
  go_end0
  have HR2 := (unhide HR1).to (k + 1)
  have hT := Tb.to B rb w1 1 (.int .i64 ((k + 1 : Nat) : Int))
  refine ⟨rfl, ⟨HR2, ?_, (unhide HW).rl, Nat.le_trans (Nat.le_trans (unhide HW).bl hb1.size) hT.size⟩, (Tb.of_below hb1).trans hT⟩
  obtain ⟨v', hv'⟩ := hW1
  exact ⟨v', hv'.tb (Tb.to _ rb w1 1 _) (unhide HW).rl⟩
end Go.Proofs.YtkikhmleffcajaaGreatDoor

namespace Go.Proofs.YtkikhmleffcajaaGreatDoor
open Go.RowKit

set_option maxHeartbeats 1000000 in
set_option maxRecDepth 100000 in
theorem idxl_any (s : ByteArray) (c : Int) (w : World) :
    Calls Tryz.prog 101 #[.string s, .int .u8 c] w fun e w' => e = .returned (.int .i64 (Lib.indexByte s.data.toList c.toNat.toUInt8)) ∧ w' = w := by
  go_enter Tryz.func101, Tryz.ntmps101
  go_wp2
  rw [run_callFunc_extern Tryz.func132 (by kernel_rfl) (by kernel_rfl) (by kernel_rfl) (e := Extern.BytealgIndexByte.indexByte) (by kernel_rfl), Lib.run_indexByteString]
  simp only [Result.andThen]
  rw [Oper.upon_value]
  go_wp2
  go_ret
  exact ⟨rfl, rfl⟩
theorem idx_any (s : ByteArray) (c : Int) (w : World) :
    Calls Tryz.prog 85 #[.string s, .int .u8 c] w fun e w' => e = .returned (.int .i64 (Lib.indexByte s.data.toList c.toNat.toUInt8)) ∧ w' = w := by
  have hI := idxl_any s c w
  go_enter Tryz.func85, Tryz.ntmps85
  go_wp2_with (go_at_call 101; refine hI.mono ?_; clear hI; rintro e w' ⟨rfl, hw⟩; obtain rfl := hw.symm)
  go_ret
  exact ⟨rfl, rfl⟩
theorem idx_neg (l : List UInt8) (c : UInt8) : Lib.indexByte l c < 0 ↔ c ∉ l := by
  induction l with
  | nil => simp [Lib.indexByte]
  | cons b l ih =>
    have hge : ∀ l : List UInt8, -1 ≤ Lib.indexByte l c := fun l => by
      induction l with
      | nil => simp [Lib.indexByte]
      | cons b l ih => unfold Lib.indexByte; split; omega; split <;> omega
    have := hge l
    unfold Lib.indexByte
    by_cases hb : b = c
    · subst hb; simp
    · have hb' : (b == c) = false := by simpa using hb
      rw [hb']
      simp only [Bool.false_eq_true, if_false, List.mem_cons, not_or]
      have hne : ¬ c = b := fun e => hb e.symm
      by_cases h1 : Lib.indexByte l c = -1
      · rw [h1] at ih ⊢
        simp only [BEq.rfl, if_true]
        exact ⟨fun _ => ⟨hne, ih.1 (by omega)⟩, fun _ => by omega⟩
      · have h2 : (Lib.indexByte l c == -1) = false := by simpa using h1
        rw [h2]
        simp only [Bool.false_eq_true, if_false]
        exact ⟨fun h => by omega, fun h => absurd (ih.2 h.2) (by omega)⟩
/-- Reading has ended with what is wrong. -/
def Wrg (w : World) (ev : Ending) (e p : Nat) : Prop :=
  ∃ b : Nat, ev = .panicked [{ v := .iface 123 (.pointer (some ⟨b, 0, none⟩)), recovered := false }] ∧ w.heap[b]? = some (.cells #[.int .i64 (e : Int), .int .i64 (p : Int)] 126 (0, 0))
theorem fail_wrg (e p : Nat) (w : World) :
    Calls Tryz.prog 36 #[.int .i64 (e : Int), .int .i64 (p : Int)] w fun ev w' => ∃ b : Nat, ev = .panicked [{ v := .iface 123 (.pointer (some ⟨b, 0, none⟩)), recovered := false }] ∧ w'.heap[b]? = some (.cells #[.int .i64 (e : Int), .int .i64 (p : Int)] 126 (0, 0)) ∧ Below w.heap.size w w' := by
  refine (fail_any e p w).mono ?_
  rintro ev w' ⟨rfl, rfl⟩
  exact ⟨_, rfl, heap_alloc_new _ _, (Below.refl _ _).alloc (Nat.le_refl _) _⟩
theorem restR (rb : Nat) (s : ByteArray) (k : Nat) (w : World) (h : Rdr w rb s k) (hk : k ≤ s.size) :
    Calls Tryz.prog 62 #[.pointer (some ⟨rb, 0, none⟩)] w fun e w' => ∃ t : ByteArray, e = .returned (.string t) ∧ Hid (t = s.extract k s.size) ∧ t.size = s.size - k ∧ Below w.heap.size w w' := by
  refine (rest_any rb s k w h hk).mono ?_
  rintro e w' ⟨rfl, hb⟩
  exact ⟨_, rfl, hide rfl, by rw [Lib.size_eq, ext_list, List.length_drop, Lib.size_eq], hb⟩
set_option maxHeartbeats 1000000 in
set_option maxRecDepth 10000 in
theorem escaped_ok (B rb wb : Nat) (s : ByteArray) (k : Nat) (pl : Int) (xs : List Atm) (w : World) (h : RW w B rb wb s k pl xs) (hk : k + 1 < s.size) (hs : s.size ≤ 1500) (ha : xs.length ≤ 1500) :
    Calls Tryz.prog 67 #[.pointer (some ⟨rb, 0, none⟩), .pointer (some ⟨wb, 0, none⟩)] w fun ev w' => ev = .returned (.tuple #[]) ∧ RW w' B rb wb s (k + 2) pl (xs ++ [.inl s[k + 1]]) ∧ Tb B rb w w' := by
  have hR := restR rb s k w h.rdr (by omega)
  have HW := hide h
  clear h
  go_enter Tryz.func67, Tryz.ntmps67
  go_upto_region 2 with (go_at_call 62; refine hR.mono ?_; clear hR; rintro ev w1 ⟨t, rfl, HT, hts, hb1⟩; have g1 : ¬ (t.size : Int) < 2 := (by omega))
  have HW1 := hide ((unhide HW).below hb1)
  have c1 := (unhide HW1).rdr.c1
  have z1 := (unhide HW1).rdr.fz 1
  go_upto_region 3 with fail
  have e : IntKind.i64.wrap ((k : Int) + 1) = ((k + 1 : Nat) : Int) := wrap_i64 (k + 1) (by omega)
  obtain ⟨W2, hW2⟩ : ∃ W2, W2 = w1.setCell ⟨rb, 1, none⟩ (.int .i64 ((k + 1 : Nat) : Int)) := ⟨_, rfl⟩
  have hT : Tb w1.heap.size rb w1 W2 := by rw [hW2]; exact Tb.to _ _ _ _ _
  have HW2 := hide ((unhide HW1).to hT (by rw [hW2]; exact (unhide HW1).rdr.to (k + 1)))
  rw [show ((k : Int) + 1) = ((k + 1 : Nat) : Int) by omega, ← hW2]
  have hB2 : Tb B rb w W2 := (Tb.of_below (hb1.mono (unhide HW).bl)).trans (hT.mono (unhide HW1).bl)
  have hI := itself_any B rb wb s (k + 1) pl xs W2 (unhide HW2) hk hs ha
  clear hW2 hT c1 z1 hb1 g1 hts
  go_wp2_with (go_at_call 68; refine hI.mono ?_; clear hI; rintro ev w3 ⟨rfl, hW3, hT3⟩)
  go_end0
  exact ⟨rfl, hW3, hB2.trans hT3⟩
set_option maxHeartbeats 1000000 in
set_option maxRecDepth 10000 in
theorem escaped_bad (B rb wb : Nat) (s : ByteArray) (k : Nat) (pl : Int) (xs : List Atm) (w : World) (h : RW w B rb wb s k pl xs) (hk : k + 1 = s.size) :
    Calls Tryz.prog 67 #[.pointer (some ⟨rb, 0, none⟩), .pointer (some ⟨wb, 0, none⟩)] w fun ev w' => Wrg w' ev 5 k ∧ Tb B rb w w' := by
  have hR := restR rb s k w h.rdr (by omega)
  have HW := hide h
  clear h
  go_enter Tryz.func67, Tryz.ntmps67
  go_upto_region 1 with (go_at_call 62; refine hR.mono ?_; clear hR; rintro ev w1 ⟨t, rfl, HT, hts, hb1⟩; have g1 : (t.size : Int) < 2 := (by omega))
  have HW1 := hide ((unhide HW).below hb1)
  have c1 := (unhide HW1).rdr.c1
  have hF := fail_wrg 5 k w1
  go_wp2_with (go_at_call 36; refine hF.mono ?_; clear hF; rintro ev w2 ⟨b, rfl, hc, hb2⟩)
  exact ⟨rfl, ⟨b, rfl, hc⟩, Tb.of_below ((hb1.trans (hb2.mono hb1.size)).mono (unhide HW).bl)⟩
theorem esc_idx (c : UInt8) : (Lib.indexByte (⟨#[34, 92, 36]⟩ : ByteArray).data.toList c < 0) ↔ escQ c = false := by
  rw [idx_neg]
  show ¬ c ∈ [34, 92, 36] ↔ _
  unfold escQ
  simp only [List.mem_cons, List.not_mem_nil, or_false, Bool.or_eq_false_iff, beq_eq_false_iff_ne, not_or, and_assoc, ne_eq]
theorem byte_back (c : UInt8) : ((c.toNat : Int)).toNat.toUInt8 = c := by simp
theorem ext_tail (s : ByteArray) (k : Nat) : ((s.extract k s.size).extract 1 (s.extract k s.size).size).data.toList = s.data.toList.drop (k + 1) := by
  rw [ext_list, ext_list, List.drop_drop]
theorem fst_of {u : ByteArray} {l : List UInt8} {k : Nat} (h : u.data.toList = l.drop k) (hk : k < l.length) : ∃ h0 : 0 < u.size, u[0]'h0 = l[k] := by
  have h0 : 0 < u.size := by rw [Lib.size_eq, h, List.length_drop]; omega
  refine ⟨h0, ?_⟩
  have : u.data.toList[0]'(by rw [← Lib.size_eq]; exact h0) = l[k] := by
    simp only [h]; simp
  exact this
set_option maxHeartbeats 1000000 in
set_option maxRecDepth 10000 in
theorem escQ_ok (B rb wb : Nat) (s : ByteArray) (k : Nat) (pl : Int) (xs : List Atm) (w : World) (h : RW w B rb wb s k pl xs) (hk : k + 1 < s.size) (hs : s.size ≤ 1500) (ha : xs.length ≤ 1500) (hq : escQ s[k + 1] = true) :
    Calls Tryz.prog 74 #[.pointer (some ⟨rb, 0, none⟩), .pointer (some ⟨wb, 0, none⟩)] w fun ev w' => ev = .returned (.tuple #[]) ∧ RW w' B rb wb s (k + 2) pl (xs ++ [.inl s[k + 1]]) ∧ Tb B rb w w' := by
  have hR := restR rb s k w h.rdr (by omega)
  have HW := hide h
  clear h
  go_enter Tryz.func74, Tryz.ntmps74
  go_upto_region 1 with (go_at_call 62; refine hR.mono ?_; clear hR; rintro ev w1 ⟨t, rfl, HT, hts, hb1⟩; have g0 : (1 : Int) ≤ (t.size : Int) := (by omega); clear hts)
  have HU : Hid ((t.extract 1 t.size).data.toList = s.data.toList.drop (k + 1)) := hide (by rw [unhide HT]; exact ext_tail s k)
  obtain ⟨u, hu⟩ : ∃ u, u = t.extract 1 t.size := ⟨_, rfl⟩
  rw [← hu] at HU ⊢
  obtain ⟨h0, e0⟩ := fst_of (unhide HU) (by rw [← Lib.size_eq]; exact hk)
  have g1 : u.toList.isEmpty = false := by
    rw [Lib.toList_data, unhide HU]
    cases hd : s.data.toList.drop (k + 1) with
    | nil => have := congrArg List.length hd; rw [List.length_drop, ← Lib.size_eq] at this; simp at this; omega
    | cons _ _ => rfl
  have hI := idx_any ⟨#[34, 92, 36]⟩ (u[0].toNat : Int) w1
  rw [byte_back] at hI
  have g2 : ¬ Lib.indexByte (⟨#[34, 92, 36]⟩ : ByteArray).data.toList u[0] < 0 := by
    rw [esc_idx, e0, get_data s (k + 1) hk, hq]; simp
  obtain ⟨d, hd⟩ : ∃ d, d = Lib.indexByte (⟨#[34, 92, 36]⟩ : ByteArray).data.toList u[0] := ⟨_, rfl⟩
  rw [← hd] at hI g2
  clear hd e0 hu hq
  have HW1 := hide ((unhide HW).below hb1)
  have c1 := (unhide HW1).rdr.c1
  have z1 := (unhide HW1).rdr.fz 1
  go_upto_region 4 with (go_at_call 85; refine hI.mono ?_; clear hI; rintro ev w9 ⟨rfl, hw⟩; obtain rfl := hw.symm)
  have e : IntKind.i64.wrap ((k : Int) + 1) = ((k + 1 : Nat) : Int) := wrap_i64 (k + 1) (by omega)
  obtain ⟨W2, hW2⟩ : ∃ W2, W2 = w1.setCell ⟨rb, 1, none⟩ (.int .i64 ((k + 1 : Nat) : Int)) := ⟨_, rfl⟩
  have hT : Tb w1.heap.size rb w1 W2 := by rw [hW2]; exact Tb.to _ _ _ _ _
  have HW2 := hide ((unhide HW1).to hT (by rw [hW2]; exact (unhide HW1).rdr.to (k + 1)))
  rw [show ((k : Int) + 1) = ((k + 1 : Nat) : Int) by omega, ← hW2]
  have hB2 : Tb B rb w W2 := (Tb.of_below (hb1.mono (unhide HW).bl)).trans (hT.mono (unhide HW1).bl)
  have hI := itself_any B rb wb s (k + 1) pl xs W2 (unhide HW2) hk hs ha
  clear hW2 hT c1 z1 hb1 g1 g2 g0
  go_wp2_with (go_at_call 68; refine hI.mono ?_; clear hI; rintro ev w3 ⟨rfl, hW3, hT3⟩)
  go_end0
  exact ⟨rfl, hW3, hB2.trans hT3⟩
set_option maxHeartbeats 1000000 in
set_option maxRecDepth 10000 in
theorem escQ_bad (B rb wb : Nat) (s : ByteArray) (k : Nat) (pl : Int) (xs : List Atm) (w : World) (h : RW w B rb wb s k pl xs) (hk : k < s.size) (hq : ∀ h : k + 1 < s.size, escQ s[k + 1] = false) :
    Calls Tryz.prog 74 #[.pointer (some ⟨rb, 0, none⟩), .pointer (some ⟨wb, 0, none⟩)] w fun ev w' => Wrg w' ev 5 k ∧ Tb B rb w w' := by
  have hR := restR rb s k w h.rdr (by omega)
  have HW := hide h
  have HQ := hide hq
  clear h hq
  go_enter Tryz.func74, Tryz.ntmps74
  go_upto_region 1 with (go_at_call 62; refine hR.mono ?_; clear hR; rintro ev w1 ⟨t, rfl, HT, hts, hb1⟩; have g0 : (1 : Int) ≤ (t.size : Int) := (by omega); clear hts)
  have HU : Hid ((t.extract 1 t.size).data.toList = s.data.toList.drop (k + 1)) := hide (by rw [unhide HT]; exact ext_tail s k)
  obtain ⟨u, hu⟩ : ∃ u, u = t.extract 1 t.size := ⟨_, rfl⟩
  rw [← hu] at HU ⊢
  have HW1 := hide ((unhide HW).below hb1)
  have c1 := (unhide HW1).rdr.c1
  have hF := fail_wrg 5 k w1
  by_cases hlt : k + 1 < s.size
  · obtain ⟨h0, e0⟩ := fst_of (unhide HU) (by rw [← Lib.size_eq]; exact hlt)
    have g1 : u.toList.isEmpty = false := by
      rw [Lib.toList_data, unhide HU]
      cases hd : s.data.toList.drop (k + 1) with
      | nil => have := congrArg List.length hd; rw [List.length_drop, ← Lib.size_eq] at this; simp at this; omega
      | cons _ _ => rfl
    have hI := idx_any ⟨#[34, 92, 36]⟩ (u[0].toNat : Int) w1
    rw [byte_back] at hI
    have g2 : Lib.indexByte (⟨#[34, 92, 36]⟩ : ByteArray).data.toList u[0] < 0 := by
      rw [esc_idx, e0, get_data s (k + 1) hlt]; exact unhide HQ hlt
    obtain ⟨d, hd⟩ : ∃ d, d = Lib.indexByte (⟨#[34, 92, 36]⟩ : ByteArray).data.toList u[0] := ⟨_, rfl⟩
    rw [← hd] at hI g2
    clear hd e0 hu
    go_wp2_with (first
      | (go_at_call 85; refine hI.mono ?_; clear hI; rintro ev w9 ⟨rfl, hw⟩; obtain rfl := hw.symm)
      | (go_at_call 36; refine hF.mono ?_; clear hF; rintro ev w2 ⟨b, rfl, hc, hb2⟩))
    exact ⟨rfl, ⟨b, rfl, hc⟩, Tb.of_below ((hb1.trans (hb2.mono hb1.size)).mono (unhide HW).bl)⟩
  · have g1 : u.toList.isEmpty = true := by
      rw [Lib.toList_data, unhide HU, List.drop_eq_nil_of_le (by rw [← Lib.size_eq]; omega)]; rfl
    clear hu
    go_wp2_with (go_at_call 36; refine hF.mono ?_; clear hF; rintro ev w2 ⟨b, rfl, hc, hb2⟩)
    exact ⟨rfl, ⟨b, rfl, hc⟩, Tb.of_below ((hb1.trans (hb2.mono hb1.size)).mono (unhide HW).bl)⟩
end Go.Proofs.YtkikhmleffcajaaGreatDoor

namespace Go.Proofs.YtkikhmleffcajaaGreatDoor
open Go.RowKit

theorem nameN_le (l : List UInt8) : nameN l ≤ l.length := by
  cases l with
  | nil => simp [nameN]
  | cons c r =>
    simp only [nameN]
    split
    · exact (List.takeWhile_prefix _).length_le
    · omega
theorem tw_take {p : UInt8 → Bool} (l : List UInt8) : (l.take (l.takeWhile p).length) = l.takeWhile p := by
  induction l with
  | nil => rfl
  | cons c r ih =>
    by_cases h : p c = true
    · rw [List.takeWhile_cons_of_pos h]; simp [ih]
    · rw [List.takeWhile_cons_of_neg h]; simp
theorem tw_tw {p : UInt8 → Bool} (l : List UInt8) : (l.takeWhile p).takeWhile p = l.takeWhile p := by
  induction l with
  | nil => rfl
  | cons c r ih =>
    by_cases h : p c = true
    · rw [List.takeWhile_cons_of_pos h, List.takeWhile_cons_of_pos h, ih]
    · rw [List.takeWhile_cons_of_neg h]; rfl
theorem nameN_take (l : List UInt8) : nameN (l.take (nameN l)) = nameN l := by
  cases l with
  | nil => rfl
  | cons c r =>
    by_cases h : isCapC c = true
    · have e : nameN (c :: r) = ((c :: r).takeWhile isNmC).length := by simp [nameN, h]
      rw [e, tw_take]
      have hc : isNmC c = true := by simp [isNmC, h]
      rw [List.takeWhile_cons_of_pos hc]
      simp only [nameN, h, if_true]
      rw [List.takeWhile_cons_of_pos hc, tw_tw]
    · have e : nameN (c :: r) = 0 := by simp [nameN, h]
      rw [e]; rfl
theorem isVar_take (l : List UInt8) : isVarN (l.take (nameN l)) = decide (nameN l ≠ 0 ∧ nameN l ≤ 10) := by
  unfold isVarN
  have hl : (l.take (nameN l)).length = nameN l := by rw [List.length_take]; have := nameN_le l; omega
  rw [nameN_take, hl]
  by_cases h0 : nameN l = 0
  · rw [h0]; simp
  · have : (l.take (nameN l) != []) = true := by
      simp only [bne_iff_ne, ne_eq]
      intro e; have := congrArg List.length e; rw [hl] at this; exact h0 this
    rw [this]; simp [h0]
theorem Rdr.tb {w w' : World} {rb : Nat} {s : ByteArray} {k : Nat} (h : Rdr w rb s k) (hb : Below w.heap.size w w') : Rdr w' rb s k := h.below hb h.lt
/-- What reading a variable comes to. -/
def VarOut (w : World) (ev : Ending) (B rb wb : Nat) (s : ByteArray) (k : Nat) (pl : Int) (xs : List Atm) : Prop := match varG s.data.toList k with
  | none => Wrg w ev 5 k
  | some (n, t) => ev = .returned (.tuple #[]) ∧ RW w B rb wb s t pl (xs ++ [.inr (n, k)]) ∧ k < t ∧ t ≤ s.size
set_option maxHeartbeats 2000000 in
set_option maxRecDepth 10000 in
theorem var_any (B rb wb : Nat) (s : ByteArray) (k : Nat) (pl : Int) (xs : List Atm) (w : World) (h : RW w B rb wb s k pl xs) (hk : k < s.size) (hs : s.size ≤ 1500) (ha : xs.length ≤ 1500) :
    Calls Tryz.prog 66 #[.pointer (some ⟨rb, 0, none⟩), .pointer (some ⟨wb, 0, none⟩)] w fun ev w' => VarOut w' ev B rb wb s k pl xs ∧ Tb B rb w w' := by
  have HW := hide h
  have c1 := h.rdr.c1
  have z1 := h.rdr.fz 1
  obtain ⟨b, hb⟩ : ∃ b, (s.data.toList[k + 1]? == some 123) = b := ⟨_, rfl⟩
  obtain ⟨f, hf⟩ : ∃ f, f = if b = true then k + 1 + 1 else k + 1 := ⟨_, rfl⟩
  have hfk : k < f := by rw [hf]; split <;> omega
  have hfs : f ≤ s.size := by
    rw [hf]
    cases b with
    | false => simp only [Bool.false_eq_true, if_false]; omega
    | true =>
      have := (List.getElem?_eq_some_iff.1 (beq_iff_eq.1 hb)).1
      rw [← Lib.size_eq] at this; simp only [if_true]; omega
  have HV : Hid (varG s.data.toList k = if nameN (s.data.toList.drop f) = 0 ∨ 10 < nameN (s.data.toList.drop f) ∨ (b = true ∧ s.data.toList[f + nameN (s.data.toList.drop f)]? ≠ some 125) then none else some ((s.data.toList.drop f).take (nameN (s.data.toList.drop f)), if b then f + nameN (s.data.toList.drop f) + 1 else f + nameN (s.data.toList.drop f))) := hide (by
    unfold varG; rw [hb, hf])
  clear h
  have HB := hide hb
  have HF := hide hf
  clear hb hf
  go_enter Tryz.func66, Tryz.ntmps66
  go_upto_region 2 with fail
  have e : IntKind.i64.wrap ((k : Int) + 1) = ((k + 1 : Nat) : Int) := wrap_i64 (k + 1) (by omega)
  obtain ⟨W2, hW2⟩ : ∃ W2, W2 = w.setCell ⟨rb, 1, none⟩ (.int .i64 ((k + 1 : Nat) : Int)) := ⟨_, rfl⟩
  have hT2 : Tb w.heap.size rb w W2 := by rw [hW2]; exact Tb.to _ _ _ _ _
  have HW2 := hide ((unhide HW).to hT2 (by rw [hW2]; exact (unhide HW).rdr.to (k + 1)))
  rw [show ((k : Int) + 1) = ((k + 1 : Nat) : Int) by omega, ← hW2]
  have hB2 : Tb B rb w W2 := hT2.mono (unhide HW).bl
  have hK := take_any rb s ⟨#[123]⟩ (k + 1) W2 (unhide HW2).rdr (by omega) (by omega)
  rw [beg_one, unhide HB, show (⟨#[123]⟩ : ByteArray).size = 1 from rfl, ← unhide HF] at hK
  clear hW2 hT2 c1 z1 e
  go_upto_region 3 with (go_at_call 51; refine hK.mono ?_; clear hK; rintro ev w3 ⟨rfl, hR3, hT3⟩)
  have HW3 := hide ((unhide HW2).to hT3 hR3)
  have hB3 : Tb B rb w w3 := hB2.trans (hT3.mono (unhide HW2).bl)
  have hQ1 := rest_any rb s f w3 hR3 hfs
  have hQ2 := fun (w' : World) (h' : Below w3.heap.size w3 w') => rest_any rb s f w' (hR3.tb h') hfs
  obtain ⟨u, hu⟩ : ∃ u, u = s.extract f s.size := ⟨_, rfl⟩
  rw [← hu] at hQ1
  simp only [← hu] at hQ2
  have hul : u.data.toList = s.data.toList.drop f := by rw [hu, ext_list]
  have hus : u.size ≤ 1500 := by rw [Lib.size_eq, hul, List.length_drop, ← Lib.size_eq]; omega
  have hN := fun w' => name_any u w' (by omega)
  rw [hul] at hN
  obtain ⟨n, hn⟩ : ∃ n, n = nameN (s.data.toList.drop f) := ⟨_, rfl⟩
  simp only [← hn] at hN
  have hnu : n ≤ u.size := by rw [hn, Lib.size_eq, hul]; exact nameN_le _
  have hnl : f + n ≤ s.size := by rw [Lib.size_eq, hul, List.length_drop, ← Lib.size_eq] at hnu; omega
  rw [← hn] at HV
  have i0 : (0 : Int) ≤ (n : Int) := by omega
  have i1 : (n : Int) ≤ (u.size : Int) := by omega
  have HUL := hide hul
  have HN := hide hn
  clear hT3 hR3 hu hul hn hus
  go_upto_region 4 with (first
    | (go_at_call 62; refine hQ1.mono ?_; clear hQ1; rintro ev w4 ⟨rfl, hb4⟩)
    | (go_at_call 62; refine (hQ2 _ hb4).mono ?_; clear hQ2; rintro ev w5 ⟨rfl, hb5⟩)
    | (go_at_call 75; refine (hN _).mono ?_; clear hN; rintro ev w6 ⟨rfl, hw⟩; obtain rfl := hw.symm))
  have hb35 : Below w3.heap.size w3 w5 := hb4.trans (hb5.mono hb4.size)
  have HW5 := hide ((unhide HW3).below hb35)
  have hB5 : Tb B rb w w5 := hB3.trans (Tb.of_below (hb35.mono (unhide HW3).bl))
  obtain ⟨nm, hnm⟩ : ∃ nm, nm = u.extract 0 n := ⟨_, rfl⟩
  rw [← hnm]
  have hml : nm.data.toList = (s.data.toList.drop f).take n := by
    rw [hnm, ByteArray.data_extract, Array.toList_extract, List.extract_eq_take_drop, unhide HUL]; simp
  have hms : nm.size = n := by
    rw [Lib.size_eq, hml, List.length_take, List.length_drop, ← Lib.size_eq]; omega
  have hbt : nm = bt ((s.data.toList.drop f).take n) := by rw [← hml, bt_of]
  have hIV := fun w' => isVar_any nm w' (by omega)
  have hvd : isVarN nm.data.toList = decide (n ≠ 0 ∧ n ≤ 10) := by rw [hml, unhide HN]; exact isVar_take _
  simp only [hvd] at hIV
  have c1 := (unhide HW5).rdr.c1
  have z1 := (unhide HW5).rdr.fz 1
  have HMS := hide hms
  have HBT := hide hbt
  have hms' : (nm.size : Int) = (n : Int) := by omega
  clear hb4 hb5 hb35 hnm hml hms hbt hvd hnu
  go_upto_region 5 with fail
  have e : IntKind.i64.wrap ((f : Int) + (n : Int)) = ((f + n : Nat) : Int) := by rw [← Int.natCast_add]; exact wrap_i64 (f + n) (by omega)
  obtain ⟨W6, hW6⟩ : ∃ W6, W6 = w5.setCell ⟨rb, 1, none⟩ (.int .i64 ((f + n : Nat) : Int)) := ⟨_, rfl⟩
  have hT6 : Tb w5.heap.size rb w5 W6 := by rw [hW6]; exact Tb.to _ _ _ _ _
  have HW6 := hide ((unhide HW5).to hT6 (by rw [hW6]; exact (unhide HW5).rdr.to (f + n)))
  rw [show ((f : Int) + (n : Int)) = ((f + n : Nat) : Int) by omega, ← hW6]
  have hB6 : Tb B rb w W6 := hB5.trans (hT6.mono (unhide HW5).bl)
  clear hW6 hT6 c1 z1 e hms'
  have hF := fun w' => fail_wrg 5 k w'
  by_cases hv : n ≠ 0 ∧ n ≤ 10
  · rw [decide_eq_true hv] at hIV
    have hAV := fun (w' : World) (k' : Nat) (h' : RW w' B rb wb s k' pl xs) => (let ⟨v, hv'⟩ := h'.wrd; addVar_any B wb pl v (parts xs) nm k w' hv' h'.bl (by have := (parts_le xs).1; omega))
    have HAV := hide hAV
    clear hAV
    have fin : ∀ (w7 : World) (k' : Nat), RW w7 B rb wb s k' pl xs → Tb B rb w w7 → k < k' → k' ≤ s.size → varG s.data.toList k = some ((s.data.toList.drop f).take n, k') → ∀ (w8 : World), (∃ v', Wrd w8 B wb pl v' (parts xs ++ [⟨nm, true, (k : Int)⟩])) → Below B w7 w8 →
        VarOut w8 (.returned (.tuple #[])) B rb wb s k pl xs ∧ Tb B rb w w8 := by
      intro w7 k' h7 hT7 hk1 hk2 hG w8 h8 hb8
      unfold VarOut
      rw [hG]
      refine ⟨⟨rfl, ⟨h7.rdr.below hb8 h7.rl, ?_, h7.rl, Nat.le_trans h7.bl hb8.size⟩, hk1, hk2⟩, hT7.trans (Tb.of_below hb8)⟩
      rw [parts_snoc]
      rw [unhide HBT] at h8
      exact h8
    have FIN := hide fin
    clear fin
    cases b with
    | false =>
      have HG : Hid (varG s.data.toList k = some ((s.data.toList.drop f).take n, f + n)) := hide (by
        rw [unhide HV, if_neg (by simp; omega)]; rfl)
      clear HV
      go_wp2_with (first
        | (go_at_call 76; refine (hIV _).mono ?_; clear hIV; rintro ev w7 ⟨rfl, hw⟩; obtain rfl := hw.symm)
        | (go_at_call 77; refine (unhide HAV W6 (f + n) (unhide HW6)).mono ?_; rintro ev w8 ⟨rfl, hw8, hb8⟩))
      go_end0
      exact unhide FIN W6 (f + n) (unhide HW6) hB6 (by omega) hnl (unhide HG) w8 hw8 hb8
    | true =>
      have hK2 := take_any rb s ⟨#[125]⟩ (f + n) W6 (unhide HW6).rdr hnl (by omega)
      rw [beg_one, show (⟨#[125]⟩ : ByteArray).size = 1 from rfl] at hK2
      by_cases h5 : s.data.toList[f + n]? = some 125
      · have HG : Hid (varG s.data.toList k = some ((s.data.toList.drop f).take n, f + n + 1)) := hide (by
          rw [unhide HV, if_neg (by simp [h5]; omega)]; rfl)
        have hlt : f + n < s.size := by rw [Lib.size_eq]; exact (List.getElem?_eq_some_iff.1 h5).1
        rw [h5] at hK2
        simp only [BEq.rfl, if_true] at hK2
        clear HV h5
        go_wp2_with (first
          | (go_at_call 76; refine (hIV _).mono ?_; clear hIV; rintro ev w7 ⟨rfl, hw⟩; obtain rfl := hw.symm)
          | (go_at_call 51; refine hK2.mono ?_; clear hK2; rintro ev w7 ⟨rfl, hR7, hT7⟩; have HW7 := hide ((unhide HW6).to hT7 hR7); have hB7 : Tb B rb w w7 := hB6.trans (hT7.mono (unhide HW6).bl))
          | (go_at_call 77; refine (unhide HAV w7 (f + n + 1) (unhide HW7)).mono ?_; rintro ev w8 ⟨rfl, hw8, hb8⟩))
        go_end0
        exact unhide FIN w7 (f + n + 1) (unhide HW7) hB7 (by omega) (by omega) (unhide HG) w8 hw8 hb8
      · have HG : Hid (varG s.data.toList k = none) := hide (by
          rw [unhide HV, if_pos (.inr (.inr ⟨rfl, h5⟩))])
        have h5' : (s.data.toList[f + n]? == some 125) = false := by simpa using h5
        rw [h5'] at hK2
        simp only [Bool.false_eq_true, if_false] at hK2
        clear HV h5 h5'
        go_wp2_with (first
          | (go_at_call 76; refine (hIV _).mono ?_; clear hIV; rintro ev w7 ⟨rfl, hw⟩; obtain rfl := hw.symm)
          | (go_at_call 51; refine hK2.mono ?_; clear hK2; rintro ev w7 ⟨rfl, hR7, hT7⟩; have hB7 : Tb B rb w w7 := hB6.trans (hT7.mono (unhide HW6).bl); have HZ := hide (Nat.le_trans (unhide HW6).bl hT7.size))
          | (go_at_call 36; refine (hF _).mono ?_; clear hF; rintro ev w8 ⟨bb, rfl, hc, hb8⟩))
        refine ⟨rfl, ?_, hB7.trans (Tb.of_below (hb8.mono (unhide HZ)))⟩
        unfold VarOut
        rw [unhide HG]
        exact ⟨bb, rfl, hc⟩
  · rw [decide_eq_false hv] at hIV
    have HG : Hid (varG s.data.toList k = none) := hide (by
      rw [unhide HV, if_pos (by
        by_cases h0 : n = 0
        · exact .inl h0
        · exact .inr (.inl (by omega)))])
    clear HV hv
    go_wp2_with (first
      | (go_at_call 76; refine (hIV _).mono ?_; clear hIV; rintro ev w7 ⟨rfl, hw⟩; obtain rfl := hw.symm)
      | (go_at_call 36; refine (hF _).mono ?_; clear hF; rintro ev w8 ⟨bb, rfl, hc, hb8⟩))
    refine ⟨rfl, ?_, hB6.trans (Tb.of_below (hb8.mono (unhide HW6).bl))⟩
    unfold VarOut
    rw [unhide HG]
    exact ⟨bb, rfl, hc⟩
end Go.Proofs.YtkikhmleffcajaaGreatDoor

namespace Go.Proofs.YtkikhmleffcajaaGreatDoor
open Go.RowKit

theorem begW (B rb wb : Nat) (s p : ByteArray) (k : Nat) (pl : Int) (xs : List Atm) (b : Bool) (w : World) (h : RW w B rb wb s k pl xs) (hk : k ≤ s.size) (hb : begG s k p = b) :
    Calls Tryz.prog 49 #[.pointer (some ⟨rb, 0, none⟩), .string p] w fun e w' => e = .returned (.bool b) ∧ RW w' B rb wb s k pl xs ∧ Tb B rb w w' := by
  refine (begR rb s p k b w h.rdr hk hb).mono ?_
  rintro e w' ⟨rfl, _, hb'⟩
  exact ⟨rfl, h.below hb', Tb.of_below (hb'.mono h.bl)⟩
theorem moreW (B rb wb : Nat) (s : ByteArray) (k : Nat) (pl : Int) (xs : List Atm) (b : Bool) (w : World) (h : RW w B rb wb s k pl xs) (hb : decide (k < s.size) = b) :
    Calls Tryz.prog 33 #[.pointer (some ⟨rb, 0, none⟩)] w fun e w' => e = .returned (.bool b) ∧ RW w' B rb wb s k pl xs ∧ Tb B rb w w' := by
  refine (moreR rb s k b w h.rdr hb).mono ?_
  rintro e w' ⟨rfl, _, hb'⟩
  exact ⟨rfl, h.below hb', Tb.of_below (hb'.mono h.bl)⟩
theorem takeW (B rb wb : Nat) (s p : ByteArray) (k : Nat) (pl : Int) (xs : List Atm) (b : Bool) (w : World) (h : RW w B rb wb s k pl xs) (hk : k ≤ s.size) (hs : s.size ≤ 1500) (hb : begG s k p = b) :
    Calls Tryz.prog 51 #[.pointer (some ⟨rb, 0, none⟩), .string p] w fun e w' => e = .returned (.bool b) ∧ RW w' B rb wb s (if b = true then k + p.size else k) pl xs ∧ Tb B rb w w' := by
  refine (take_any rb s p k w h.rdr hk (by omega)).mono ?_
  rintro e w' ⟨rfl, hr, ht⟩
  rw [hb] at hr
  exact ⟨by rw [hb], h.to ht hr, ht.mono h.bl⟩
theorem endsW (B rb wb : Nat) (s : ByteArray) (k : Nat) (pl : Int) (xs : List Atm) (b : Bool) (w : World) (h : RW w B rb wb s k pl xs) (hk : k ≤ s.size) (hb : endG s.data.toList k = b) :
    Calls Tryz.prog 64 #[.pointer (some ⟨rb, 0, none⟩)] w fun e w' => e = .returned (.bool b) ∧ RW w' B rb wb s k pl xs ∧ Tb B rb w w' := by
  refine (ends_any rb s k w h.rdr hk).mono ?_
  rintro e w' ⟨rfl, hb'⟩
  exact ⟨by rw [hb], h.below hb', Tb.of_below (hb'.mono h.bl)⟩
theorem quo_none {l : List UInt8} {i k : Nat} {acc : List Atm} (h : l[k]? = none) : quoG l i acc k = .error (5, i) := by
  rw [quoG]; split
  · rfl
  · rename_i c h'; rw [h] at h'; cases h'
theorem quo_some {l : List UInt8} {i k : Nat} {acc : List Atm} {c : UInt8} (h : l[k]? = some c) : quoG l i acc k =
    if c = 10 then .error (5, i)
    else if c = 34 then .ok (acc, k + 1)
    else if c = 36 then
      match varG l k with
      | none => .error (5, k)
      | some (n, t) => if k < t then quoG l i (acc ++ [.inr (n, k)]) t else .error (5, k)
    else if c = 92 then
      match l[k + 1]? with
      | none => .error (5, k)
      | some d => if escQ d = true then quoG l i (acc ++ [.inl d]) (k + 2) else .error (5, k)
    else quoG l i (acc ++ [.inl c]) (k + 1) := by
  rw [quoG]; split
  · rename_i h'; rw [h] at h'; cases h'
  · rename_i d h'; rw [h] at h'; cases h'; rfl
theorem beg_is {s : ByteArray} {k : Nat} {c : UInt8} (d : UInt8) (h : s.data.toList[k]? = some c) : begG s k ⟨#[d]⟩ = decide (c = d) := by
  rw [beg_one, h, Bool.eq_iff_iff]
  simp
theorem beg_off {s : ByteArray} {k : Nat} (d : UInt8) (h : s.data.toList[k]? = none) : begG s k ⟨#[d]⟩ = false := by
  rw [beg_one, h]; rfl
/-- What reading between quotes comes to. -/
def QuoOut (w : World) (ev : Ending) (B rb wb : Nat) (s : ByteArray) (i : Nat) (pl : Int) (xs : List Atm) (k : Nat) : Prop := match quoG s.data.toList i xs k with
  | .error (e, p) => Wrg w ev e p
  | .ok (ys, t) => ev = .returned (.tuple #[]) ∧ RW w B rb wb s t pl ys ∧ k ≤ t ∧ t ≤ s.size ∧ ys.length ≤ t
theorem QuoOut.bad {w : World} {ev : Ending} {B rb wb : Nat} {s : ByteArray} {i : Nat} {pl : Int} {xs ys : List Atm} {k j e p : Nat} (h : quoG s.data.toList i xs k = quoG s.data.toList i ys j) (hg : quoG s.data.toList i ys j = .error (e, p)) (hw : Wrg w ev e p) : QuoOut w ev B rb wb s i pl xs k := by
  unfold QuoOut; rw [h, hg]; exact hw
theorem get_some {s : ByteArray} {k : Nat} {c : UInt8} (h : s.data.toList[k]? = some c) : ∃ hlt : k < s.size, s[k] = c := by
  obtain ⟨h1, h2⟩ := List.getElem?_eq_some_iff.1 h
  exact ⟨by rw [Lib.size_eq]; exact h1, h2⟩
set_option maxHeartbeats 4000000 in
set_option maxRecDepth 10000 in
theorem quoted_any (B rb wb : Nat) (s : ByteArray) (k : Nat) (pl : Int) (xs : List Atm) (w : World) (h : RW w B rb wb s k pl xs) (hk : k < s.size) (hs : s.size ≤ 1500) (ha : xs.length ≤ k) :
    Calls Tryz.prog 65 #[.pointer (some ⟨rb, 0, none⟩), .pointer (some ⟨wb, 0, none⟩)] w fun ev w' => QuoOut w' ev B rb wb s k pl xs (k + 1) ∧ Tb B rb w w' := by
  have HW := hide h
  have c1 := h.rdr.c1
  have z1 := h.rdr.fz 1
  clear h
  go_enter Tryz.func65, Tryz.ntmps65
  go_upto_region 2 with fail
  have e : IntKind.i64.wrap ((k : Int) + 1) = ((k + 1 : Nat) : Int) := wrap_i64 (k + 1) (by omega)
  obtain ⟨W2, hW2⟩ : ∃ W2, W2 = w.setCell ⟨rb, 1, none⟩ (.int .i64 ((k + 1 : Nat) : Int)) := ⟨_, rfl⟩
  have hT2 : Tb w.heap.size rb w W2 := by rw [hW2]; exact Tb.to _ _ _ _ _
  have HW2 := hide ((unhide HW).to hT2 (by rw [hW2]; exact (unhide HW).rdr.to (k + 1)))
  rw [show ((k : Int) + 1) = ((k + 1 : Nat) : Int) by omega, ← hW2]
  have hB2 : Tb B rb w W2 := hT2.mono (unhide HW).bl
  clear hW2 hT2 c1 z1 e
  go_loopw [16] (fun _ wr => ∃ (j : Nat) (ys : List Atm), RW wr B rb wb s j pl ys ∧ quoG s.data.toList k xs (k + 1) = quoG s.data.toList k ys j ∧ ys.length ≤ j ∧ k < j ∧ j ≤ s.size ∧ Tb B rb w wr) (fun _ wr => s.size - atOf wr rb)
  case atStart => exact ⟨k + 1, xs, unhide HW2, rfl, by omega, by omega, by omega, hB2⟩
  case round =>
    obtain ⟨j, ys, hR, hG, hy, hkj, hj, hT⟩ := hrel
    have hA := hR.rdr.at
    have HR := hide hR
    have HG := hide hG
    have HA := hide hA
    have hF := fun p w' => fail_wrg 5 p w'
    clear hR hG hA
    cases hc : s.data.toList[j]? with
    | none =>
      have e0 := beg_off 34 hc
      have hjs : decide (j < s.size) = false := by
        have := List.getElem?_eq_none_iff.1 hc
        rw [← Lib.size_eq] at this; simp; omega
      have HQ := hide (quo_none (i := k) (acc := ys) hc)
      have mT := fun W (h : RW W B rb wb s j pl ys) => takeW B rb wb s ⟨#[34]⟩ j pl ys false W h hj hs e0
      have mM := fun W (h : RW W B rb wb s j pl ys) => moreW B rb wb s j pl ys false W h hjs
      clear hc e0 hjs
      go_wp2_with (first
        | (go_at_call 51; refine (mT _ (unhide HR)).mono ?_; clear mT; rintro ev w1 ⟨rfl, hW1, hT1⟩; have HW1 := hide hW1; clear hW1)
        | (go_at_call 33; refine (mM _ (unhide HW1)).mono ?_; clear mM; rintro ev w2 ⟨rfl, hW2, hT2⟩; have HW2 := hide hW2; clear hW2)
        | (go_at_call 36; refine (hF _ _).mono ?_; clear hF; rintro ev w8 ⟨bb, rfl, hc, hb8⟩))
      exact ⟨rfl, QuoOut.bad (unhide HG) (unhide HQ) ⟨bb, rfl, hc⟩, ((hT.trans hT1).trans hT2).trans (Tb.of_below (hb8.mono (unhide HW2).bl))⟩
    | some c =>
      obtain ⟨hlt, hcv⟩ := get_some hc
      have HQ := hide (quo_some (i := k) (acc := ys) hc)
      have mM := fun W (h : RW W B rb wb s j pl ys) => moreW B rb wb s j pl ys true W h (decide_eq_true hlt)
      by_cases hn34 : c = 34
      · have hcc := hn34
        have mT := fun W (h : RW W B rb wb s j pl ys) => takeW B rb wb s ⟨#[34]⟩ j pl ys true W h hj hs (by rw [beg_is 34 hc]; exact decide_eq_true hcc)
        have HQ2 : Hid (quoG s.data.toList k ys j = .ok (ys, j + 1)) := hide (by rw [unhide HQ, if_neg (by rw [hcc]; decide), if_pos hcc])
        clear hc hcc hn34 hcv mM HQ
        go_wp2_with (first
          | (go_at_call 51; refine (mT _ (unhide HR)).mono ?_; clear mT; rintro ev w1 ⟨rfl, hW1, hT1⟩; have HW1 := hide hW1; clear hW1))
        go_end0
        refine ⟨?_, hT.trans hT1⟩
        unfold QuoOut
        rw [unhide HG, unhide HQ2]
        exact ⟨rfl, unhide HW1, by omega, by omega, by omega⟩
      by_cases hn10 : c = 10
      · have hcc := hn10
        have mT := fun W (h : RW W B rb wb s j pl ys) => takeW B rb wb s ⟨#[34]⟩ j pl ys false W h hj hs (by rw [beg_is 34 hc]; exact decide_eq_false hn34)
        have m10 := fun W (h : RW W B rb wb s j pl ys) => begW B rb wb s ⟨#[10]⟩ j pl ys true W h hj (by rw [beg_is 10 hc]; exact decide_eq_true hcc)
        have HQ2 : Hid (quoG s.data.toList k ys j = .error (5, k)) := hide (by rw [unhide HQ, if_pos hcc])
        clear hc hcc hn34 hn10 hcv HQ
        go_wp2_with (first
          | (go_at_call 51; refine (mT _ (unhide HR)).mono ?_; clear mT; rintro ev w1 ⟨rfl, hW1, hT1⟩; have HW1 := hide hW1; clear hW1)
          | (go_at_call 33; refine (mM _ (unhide HW1)).mono ?_; clear mM; rintro ev w2 ⟨rfl, hW2, hT2⟩; have HW2 := hide hW2; clear hW2)
          | (go_at_call 49; refine (m10 _ (unhide HW2)).mono ?_; clear m10; rintro ev w3 ⟨rfl, hW3, hT3⟩; have HW3 := hide hW3; clear hW3)
          | (go_at_call 36; refine (hF _ _).mono ?_; clear hF; rintro ev w8 ⟨bb, rfl, hc, hb8⟩))
        exact ⟨rfl, QuoOut.bad (unhide HG) (unhide HQ2) ⟨bb, rfl, hc⟩, (((hT.trans hT1).trans hT2).trans hT3).trans (Tb.of_below (hb8.mono (unhide HW3).bl))⟩
      by_cases hn36 : c = 36
      · have hcc := hn36
        have mT := fun W (h : RW W B rb wb s j pl ys) => takeW B rb wb s ⟨#[34]⟩ j pl ys false W h hj hs (by rw [beg_is 34 hc]; exact decide_eq_false hn34)
        have m10 := fun W (h : RW W B rb wb s j pl ys) => begW B rb wb s ⟨#[10]⟩ j pl ys false W h hj (by rw [beg_is 10 hc]; exact decide_eq_false hn10)
        have m36 := fun W (h : RW W B rb wb s j pl ys) => begW B rb wb s ⟨#[36]⟩ j pl ys true W h hj (by rw [beg_is 36 hc]; exact decide_eq_true hcc)
        have hV := fun W (h : RW W B rb wb s j pl ys) => var_any B rb wb s j pl ys W h hlt hs (by omega)
        cases hv : varG s.data.toList j with
        | none =>
          have HQ2 : Hid (quoG s.data.toList k ys j = .error (5, j)) := hide (by rw [unhide HQ, if_neg hn10, if_neg hn34, if_pos hcc, hv])
          unfold VarOut at hV
          rw [hv] at hV
          unfold Wrg at hV
          clear hc hcc hn34 hn10 hn36 hcv HQ hv
          go_wp2_with (first
            | (go_at_call 51; refine (mT _ (unhide HR)).mono ?_; clear mT; rintro ev w1 ⟨rfl, hW1, hT1⟩; have HW1 := hide hW1; clear hW1)
            | (go_at_call 33; refine (mM _ (unhide HW1)).mono ?_; clear mM; rintro ev w2 ⟨rfl, hW2, hT2⟩; have HW2 := hide hW2; clear hW2)
            | (go_at_call 49; refine (m10 _ (unhide HW2)).mono ?_; clear m10; rintro ev w3 ⟨rfl, hW3, hT3⟩; have HW3 := hide hW3; clear hW3)
            | (go_at_call 49; refine (m36 _ (unhide HW3)).mono ?_; clear m36; rintro ev w4 ⟨rfl, hW4, hT4⟩; have HW4 := hide hW4; clear hW4)
            | (go_at_call 66; refine (hV _ (unhide HW4)).mono ?_; clear hV; rintro ev w8 ⟨⟨bb, rfl, hc⟩, hT8⟩))
          exact ⟨rfl, QuoOut.bad (unhide HG) (unhide HQ2) ⟨bb, rfl, hc⟩, ((((hT.trans hT1).trans hT2).trans hT3).trans hT4).trans hT8⟩
        | some q =>
          obtain ⟨n, t⟩ := q
          unfold VarOut at hV
          rw [hv] at hV
          have HQ2 : Hid (k < j → j < t → quoG s.data.toList k ys j = quoG s.data.toList k (ys ++ [.inr (n, j)]) t) := hide (fun _ ht => by
            rw [unhide HQ, if_neg hn10, if_neg hn34, if_pos hcc, hv]; simp only; rw [if_pos ht])
          clear hc hcc hn34 hn10 hn36 hcv HQ hv
          go_wp2_with (first
            | (go_at_call 51; refine (mT _ (unhide HR)).mono ?_; clear mT; rintro ev w1 ⟨rfl, hW1, hT1⟩; have HW1 := hide hW1; clear hW1)
            | (go_at_call 33; refine (mM _ (unhide HW1)).mono ?_; clear mM; rintro ev w2 ⟨rfl, hW2, hT2⟩; have HW2 := hide hW2; clear hW2)
            | (go_at_call 49; refine (m10 _ (unhide HW2)).mono ?_; clear m10; rintro ev w3 ⟨rfl, hW3, hT3⟩; have HW3 := hide hW3; clear hW3)
            | (go_at_call 49; refine (m36 _ (unhide HW3)).mono ?_; clear m36; rintro ev w4 ⟨rfl, hW4, hT4⟩; have HW4 := hide hW4; clear hW4)
            | (go_at_call 66; refine (hV _ (unhide HW4)).mono ?_; clear hV; rintro ev w8 ⟨⟨rfl, hW8, ht1, ht2⟩, hT8⟩))
          go_roundw
          case rel =>
            first
              | exact ⟨t, ys ++ [.inr (n, j)], hW8, (unhide HG).trans (unhide HQ2 hkj ht1), by simp; omega, by omega, ht2, ((((hT.trans hT1).trans hT2).trans hT3).trans hT4).trans hT8⟩
              | ((repeat apply Exists.intro); exact ⟨⟨t, ys ++ [.inr (n, j)], hW8, (unhide HG).trans (unhide HQ2 hkj ht1), by simp; omega, by omega, ht2, ((((hT.trans hT1).trans hT2).trans hT3).trans hT4).trans hT8⟩, rfl⟩)
          case measure => rw [unhide HA, hW8.rdr.at]; omega
      by_cases hn92 : c = 92
      · have hcc := hn92
        have mT := fun W (h : RW W B rb wb s j pl ys) => takeW B rb wb s ⟨#[34]⟩ j pl ys false W h hj hs (by rw [beg_is 34 hc]; exact decide_eq_false hn34)
        have m10 := fun W (h : RW W B rb wb s j pl ys) => begW B rb wb s ⟨#[10]⟩ j pl ys false W h hj (by rw [beg_is 10 hc]; exact decide_eq_false hn10)
        have m36 := fun W (h : RW W B rb wb s j pl ys) => begW B rb wb s ⟨#[36]⟩ j pl ys false W h hj (by rw [beg_is 36 hc]; exact decide_eq_false hn36)
        have m92 := fun W (h : RW W B rb wb s j pl ys) => begW B rb wb s ⟨#[92]⟩ j pl ys true W h hj (by rw [beg_is 92 hc]; exact decide_eq_true hcc)
        cases hd : s.data.toList[j + 1]? with
        | none =>
          have HQ2 : Hid (quoG s.data.toList k ys j = .error (5, j)) := hide (by rw [unhide HQ, if_neg hn10, if_neg hn34, if_neg hn36, if_pos hcc, hd])
          have hE := fun W (h : RW W B rb wb s j pl ys) => escQ_bad B rb wb s j pl ys W h hlt (fun h' => by
            have := List.getElem?_eq_none_iff.1 hd
            rw [← Lib.size_eq] at this; omega)
          unfold Wrg at hE
          clear hc hcc hn34 hn10 hn36 hn92 hcv HQ hd
          go_wp2_with (first
            | (go_at_call 51; refine (mT _ (unhide HR)).mono ?_; clear mT; rintro ev w1 ⟨rfl, hW1, hT1⟩; have HW1 := hide hW1; clear hW1)
            | (go_at_call 33; refine (mM _ (unhide HW1)).mono ?_; clear mM; rintro ev w2 ⟨rfl, hW2, hT2⟩; have HW2 := hide hW2; clear hW2)
            | (go_at_call 49; refine (m10 _ (unhide HW2)).mono ?_; clear m10; rintro ev w3 ⟨rfl, hW3, hT3⟩; have HW3 := hide hW3; clear hW3)
            | (go_at_call 49; refine (m36 _ (unhide HW3)).mono ?_; clear m36; rintro ev w4 ⟨rfl, hW4, hT4⟩; have HW4 := hide hW4; clear hW4)
            | (go_at_call 49; refine (m92 _ (unhide HW4)).mono ?_; clear m92; rintro ev w5 ⟨rfl, hW5, hT5⟩; have HW5 := hide hW5; clear hW5)
            | (go_at_call 74; refine (hE _ (unhide HW5)).mono ?_; clear hE; rintro ev w8 ⟨⟨bb, rfl, hc⟩, hT8⟩))
          exact ⟨rfl, QuoOut.bad (unhide HG) (unhide HQ2) ⟨bb, rfl, hc⟩, (((((hT.trans hT1).trans hT2).trans hT3).trans hT4).trans hT5).trans hT8⟩
        | some d =>
          obtain ⟨hlt2, hdv⟩ := get_some hd
          cases hq : escQ d with
          | false =>
            have HQ2 : Hid (quoG s.data.toList k ys j = .error (5, j)) := hide (by rw [unhide HQ, if_neg hn10, if_neg hn34, if_neg hn36, if_pos hcc, hd]; simp only; rw [if_neg (by simp [hq])])
            have hE := fun W (h : RW W B rb wb s j pl ys) => escQ_bad B rb wb s j pl ys W h hlt (fun h' => by rw [hdv]; exact hq)
            unfold Wrg at hE
            clear hc hcc hn34 hn10 hn36 hn92 hcv HQ hd hdv hq
            go_wp2_with (first
              | (go_at_call 51; refine (mT _ (unhide HR)).mono ?_; clear mT; rintro ev w1 ⟨rfl, hW1, hT1⟩; have HW1 := hide hW1; clear hW1)
              | (go_at_call 33; refine (mM _ (unhide HW1)).mono ?_; clear mM; rintro ev w2 ⟨rfl, hW2, hT2⟩; have HW2 := hide hW2; clear hW2)
              | (go_at_call 49; refine (m10 _ (unhide HW2)).mono ?_; clear m10; rintro ev w3 ⟨rfl, hW3, hT3⟩; have HW3 := hide hW3; clear hW3)
              | (go_at_call 49; refine (m36 _ (unhide HW3)).mono ?_; clear m36; rintro ev w4 ⟨rfl, hW4, hT4⟩; have HW4 := hide hW4; clear hW4)
              | (go_at_call 49; refine (m92 _ (unhide HW4)).mono ?_; clear m92; rintro ev w5 ⟨rfl, hW5, hT5⟩; have HW5 := hide hW5; clear hW5)
              | (go_at_call 74; refine (hE _ (unhide HW5)).mono ?_; clear hE; rintro ev w8 ⟨⟨bb, rfl, hc⟩, hT8⟩))
            exact ⟨rfl, QuoOut.bad (unhide HG) (unhide HQ2) ⟨bb, rfl, hc⟩, (((((hT.trans hT1).trans hT2).trans hT3).trans hT4).trans hT5).trans hT8⟩
          | true =>
            have HQ2 : Hid (quoG s.data.toList k ys j = quoG s.data.toList k (ys ++ [.inl d]) (j + 2)) := hide (by rw [unhide HQ, if_neg hn10, if_neg hn34, if_neg hn36, if_pos hcc, hd]; simp only; rw [if_pos hq])
            have hE := fun W (h : RW W B rb wb s j pl ys) => escQ_ok B rb wb s j pl ys W h hlt2 hs (by omega) (by rw [hdv]; exact hq)
            rw [hdv] at hE
            clear hc hcc hn34 hn10 hn36 hn92 hcv HQ hd hdv hq
            go_wp2_with (first
              | (go_at_call 51; refine (mT _ (unhide HR)).mono ?_; clear mT; rintro ev w1 ⟨rfl, hW1, hT1⟩; have HW1 := hide hW1; clear hW1)
              | (go_at_call 33; refine (mM _ (unhide HW1)).mono ?_; clear mM; rintro ev w2 ⟨rfl, hW2, hT2⟩; have HW2 := hide hW2; clear hW2)
              | (go_at_call 49; refine (m10 _ (unhide HW2)).mono ?_; clear m10; rintro ev w3 ⟨rfl, hW3, hT3⟩; have HW3 := hide hW3; clear hW3)
              | (go_at_call 49; refine (m36 _ (unhide HW3)).mono ?_; clear m36; rintro ev w4 ⟨rfl, hW4, hT4⟩; have HW4 := hide hW4; clear hW4)
              | (go_at_call 49; refine (m92 _ (unhide HW4)).mono ?_; clear m92; rintro ev w5 ⟨rfl, hW5, hT5⟩; have HW5 := hide hW5; clear hW5)
              | (go_at_call 74; refine (hE _ (unhide HW5)).mono ?_; clear hE; rintro ev w8 ⟨rfl, hW8, hT8⟩))
            go_roundw
            case rel =>
              first
                | exact ⟨j + 2, ys ++ [.inl d], hW8, (unhide HG).trans (unhide HQ2), by simp; omega, by omega, by omega, (((((hT.trans hT1).trans hT2).trans hT3).trans hT4).trans hT5).trans hT8⟩
                | ((repeat apply Exists.intro); exact ⟨⟨j + 2, ys ++ [.inl d], hW8, (unhide HG).trans (unhide HQ2), by simp; omega, by omega, by omega, (((((hT.trans hT1).trans hT2).trans hT3).trans hT4).trans hT5).trans hT8⟩, rfl⟩)
            case measure => rw [unhide HA, hW8.rdr.at]; omega
      have mT := fun W (h : RW W B rb wb s j pl ys) => takeW B rb wb s ⟨#[34]⟩ j pl ys false W h hj hs (by rw [beg_is 34 hc]; exact decide_eq_false hn34)
      have m10 := fun W (h : RW W B rb wb s j pl ys) => begW B rb wb s ⟨#[10]⟩ j pl ys false W h hj (by rw [beg_is 10 hc]; exact decide_eq_false hn10)
      have m36 := fun W (h : RW W B rb wb s j pl ys) => begW B rb wb s ⟨#[36]⟩ j pl ys false W h hj (by rw [beg_is 36 hc]; exact decide_eq_false hn36)
      have m92 := fun W (h : RW W B rb wb s j pl ys) => begW B rb wb s ⟨#[92]⟩ j pl ys false W h hj (by rw [beg_is 92 hc]; exact decide_eq_false hn92)
      have HQ2 : Hid (quoG s.data.toList k ys j = quoG s.data.toList k (ys ++ [.inl c]) (j + 1)) := hide (by rw [unhide HQ, if_neg hn10, if_neg hn34, if_neg hn36, if_neg hn92])
      have hE := fun W (h : RW W B rb wb s j pl ys) => itself_any B rb wb s j pl ys W h hlt hs (by omega)
      rw [hcv] at hE
      clear hc hn34 hn10 hn36 hn92 hcv HQ
      go_wp2_with (first
        | (go_at_call 51; refine (mT _ (unhide HR)).mono ?_; clear mT; rintro ev w1 ⟨rfl, hW1, hT1⟩; have HW1 := hide hW1; clear hW1)
        | (go_at_call 33; refine (mM _ (unhide HW1)).mono ?_; clear mM; rintro ev w2 ⟨rfl, hW2, hT2⟩; have HW2 := hide hW2; clear hW2)
        | (go_at_call 49; refine (m10 _ (unhide HW2)).mono ?_; clear m10; rintro ev w3 ⟨rfl, hW3, hT3⟩; have HW3 := hide hW3; clear hW3)
        | (go_at_call 49; refine (m36 _ (unhide HW3)).mono ?_; clear m36; rintro ev w4 ⟨rfl, hW4, hT4⟩; have HW4 := hide hW4; clear hW4)
        | (go_at_call 49; refine (m92 _ (unhide HW4)).mono ?_; clear m92; rintro ev w5 ⟨rfl, hW5, hT5⟩; have HW5 := hide hW5; clear hW5)
        | (go_at_call 68; refine (hE _ (unhide HW5)).mono ?_; clear hE; rintro ev w8 ⟨rfl, hW8, hT8⟩))
      go_roundw
      case rel =>
        first
          | exact ⟨j + 1, ys ++ [.inl c], hW8, (unhide HG).trans (unhide HQ2), by simp; omega, by omega, by omega, (((((hT.trans hT1).trans hT2).trans hT3).trans hT4).trans hT5).trans hT8⟩
          | ((repeat apply Exists.intro); exact ⟨⟨j + 1, ys ++ [.inl c], hW8, (unhide HG).trans (unhide HQ2), by simp; omega, by omega, by omega, (((((hT.trans hT1).trans hT2).trans hT3).trans hT4).trans hT5).trans hT8⟩, rfl⟩)
      case measure => rw [unhide HA, hW8.rdr.at]; omega
end Go.Proofs.YtkikhmleffcajaaGreatDoor

namespace Go.Proofs.YtkikhmleffcajaaGreatDoor
open Go.RowKit

theorem end_none {l : List UInt8} {k : Nat} (h : l[k]? = none) : endG l k = true := by
  have := List.getElem?_eq_none_iff.1 h
  unfold endG; rw [decide_eq_false (by omega)]; rfl
theorem end_some {l : List UInt8} {k : Nat} {c : UInt8} (h : l[k]? = some c) : endG l k = decide (c = 10 ∨ c = 32 ∨ goesG l k = true) := by
  have hlt := (List.getElem?_eq_some_iff.1 h).1
  unfold endG; rw [decide_eq_true hlt, h, Bool.eq_iff_iff]
  simp only [Bool.not_true, Bool.false_or, Bool.or_eq_true, beq_iff_eq, Option.some.injEq, decide_eq_true_eq]
  constructor
  · rintro ((h | h) | h)
    · exact .inr (.inl h)
    · exact .inl h
    · exact .inr (.inr h)
  · rintro (h | h | h)
    · exact .inl (.inr h)
    · exact .inl (.inl h)
    · exact .inr h
theorem wrd_end {l : List UInt8} {k : Nat} {acc : List Atm} (h : endG l k = true) : wrdG l acc k = .ok (acc, k) := by
  rw [wrdG]; split
  · rfl
  · rename_i c hc
    rw [end_some hc] at h
    simp only
    rw [if_pos (of_decide_eq_true h)]
theorem wrd_some {l : List UInt8} {k : Nat} {acc : List Atm} {c : UInt8} (h : l[k]? = some c) (he : endG l k = false) : wrdG l acc k =
    if c = 34 then
      match quoG l k acc (k + 1) with
      | .error e => .error e
      | .ok (a, t) => if k < t then wrdG l a t else .error (5, k)
    else if c = 36 then
      match varG l k with
      | none => .error (5, k)
      | some (n, t) => if k < t then wrdG l (acc ++ [.inr (n, k)]) t else .error (5, k)
    else if c = 92 then
      match l[k + 1]? with
      | none => .error (5, k)
      | some d => wrdG l (acc ++ [.inl d]) (k + 2)
    else wrdG l (acc ++ [.inl c]) (k + 1) := by
  rw [wrdG]; split
  · rename_i h'; rw [h] at h'; cases h'
  · rename_i d h'; rw [h] at h'; cases h'
    rw [end_some h] at he
    simp only
    rw [if_neg (of_decide_eq_false he)]
    rfl
/-- What reading a word comes to. -/
def WrdOut (w w' : World) (ev : Ending) (rb : Nat) (s : ByteArray) (k : Nat) : Prop := match wrdG s.data.toList [] k with
  | .error (e, p) => Wrg w' ev e p
  | .ok (ys, t) => ∃ v, ev = .returned (.agg #[.int .i64 (k : Int), v]) ∧ w'.ownsRow w.heap.size 161 3 v (parts ys).length (prC (parts ys)) ∧ Rdr w' rb s t ∧ k ≤ t ∧ t ≤ s.size ∧ ys.length ≤ t
theorem WrdOut.bad {w w' : World} {ev : Ending} {rb : Nat} {s : ByteArray} {ys : List Atm} {k j e p : Nat} (h : wrdG s.data.toList [] k = wrdG s.data.toList ys j) (hg : wrdG s.data.toList ys j = .error (e, p)) (hw : Wrg w' ev e p) : WrdOut w w' ev rb s k := by
  unfold WrdOut; rw [h, hg]; exact hw
theorem row_form {w : World} {B e z n : Nat} {v : Value} {xs : List Value} (h : w.ownsRow B e z v n xs) : ∃ ao n' cap, v = .slice ao n' cap := by
  rcases h.2 with ⟨rfl, _⟩ | ⟨g, cap, cur, rfl, _⟩
  · exact ⟨_, _, _, rfl⟩
  · exact ⟨_, _, _, rfl⟩
theorem Tb.down {B B' rb : Nat} {w w' : World} (h : Tb B rb w w') (hB : B' ≤ B) : Tb B' rb w w' := h.mono hB
set_option maxHeartbeats 4000000 in
set_option maxRecDepth 10000 in
theorem word_any (rb : Nat) (s : ByteArray) (k : Nat) (w : World) (h : Rdr w rb s k) (hk : k ≤ s.size) (hs : s.size ≤ 1500) :
    Calls Tryz.prog 52 #[.pointer (some ⟨rb, 0, none⟩)] w fun ev w' => WrdOut w w' ev rb s k ∧ Tb w.heap.size rb w w' := by
  have c1 := h.c1
  have hrl := h.lt
  have HW := hide h
  clear h
  have n0 := World.new_ne w ⟨rb, 1, none⟩ c1
  go_enter Tryz.func52, Tryz.ntmps52
  go_upto_region 2 with fail
  obtain ⟨W0, hW0⟩ : ∃ W0, W0 = (w.alloc (.cells #[.int .i64 0, .slice none 0 0] 133)).alloc (.cells #[.int .i64 (k : Int), .slice none 0 0] 133) := ⟨_, rfl⟩
  rw [← hW0]
  obtain ⟨B, hB⟩ : ∃ B, B = w.heap.size + 1 := ⟨_, rfl⟩
  rw [← hB]
  have hz0 : W0.heap.size = w.heap.size + 2 := by rw [hW0]; simp
  have hb0 : Below w.heap.size w W0 := by rw [hW0]; exact ((Below.refl _ _).alloc (Nat.le_refl _) _).alloc (by simp) _
  have HR0 : Hid (RW W0 B rb B s k (k : Int) []) := hide ⟨(unhide HW).below hb0 hrl, ⟨.slice none 0 0, by
    have := heap_alloc_new (w.alloc (.cells #[.int .i64 0, .slice none 0 0] 133)) (.cells #[.int .i64 (k : Int), .slice none 0 0] 133)
    rw [World.size_alloc, ← hB, ← hW0] at this
    exact this, World.ownsRow_nil _ _ _ _, Nat.le_refl _, fun _ => rfl⟩, by omega, by omega⟩
  have HC0 : Hid (W0.heap[w.heap.size]? = some (.cells #[.int .i64 0, .slice none 0 0] 133 (0, 0))) := hide (by
    rw [hW0, Below.heap_alloc _ _ _ (by simp)]; exact heap_alloc_new _ _)
  have HB := hide hB
  have HZ0 := hide hz0
  clear hW0 hB hz0 n0 c1
  go_loopw [9] (fun _ wr => ∃ (j : Nat) (ys : List Atm), RW wr B rb B s j (k : Int) ys ∧ wrdG s.data.toList [] k = wrdG s.data.toList ys j ∧ ys.length ≤ j ∧ k ≤ j ∧ j ≤ s.size ∧ Tb B rb W0 wr) (fun _ wr => s.size - atOf wr rb)
  case atStart => exact ⟨k, [], unhide HR0, rfl, by simp, by omega, by omega, Tb.refl _ _ _⟩
  case round =>
    obtain ⟨j, ys, hR, hG, hy, hkj, hj, hT⟩ := hrel
    have hA := hR.rdr.at
    have HR := hide hR
    have HG := hide hG
    have HA := hide hA
    clear hR hG hA
    have HT0 : Hid (∀ w', Tb B rb W0 w' → Tb w.heap.size rb w w') := hide (fun w' h' => (Tb.of_below hb0).trans (h'.down (by have := unhide HB; omega)))
    have HCR : Hid (∀ w', Tb B rb W0 w' → w'.heap[w.heap.size]? = some (.cells #[.int .i64 0, .slice none 0 0] 133 (0, 0))) := hide (fun w' h' => (h'.block _ (by have := unhide HB; omega) (by omega)).trans (unhide HC0))
    cases he : endG s.data.toList j with
    | true =>
      have HQ := hide (wrd_end (acc := ys) he)
      have mE := fun W (h : RW W B rb B s j k ys) => endsW B rb B s j k ys true W h hj he
      clear he
      go_upto_region 10 with (go_at_call 64; refine (mE _ (unhide HR)).mono ?_; clear mE; rintro ev w1 ⟨rfl, hW1, hT1⟩; have HW1 := hide hW1; clear hW1)
      have hT1' := hT.trans hT1
      obtain ⟨v, hv⟩ := (unhide HW1).wrd
      have hcr := unhide HCR w1 hT1'
      have q0 : w1.cell? ⟨w.heap.size, 0, none⟩ = some (.int .i64 0) := cell_of_row _ _ 0 _ _ _ hcr
      have q1 : w1.cell? ⟨w.heap.size, 1, none⟩ = some (.slice none 0 0) := cell_of_row _ _ 1 _ _ _ hcr
      have f0 : ∀ i, w1.frozen? ⟨w.heap.size, i, none⟩ = false := fun i => by simp [World.frozen?, hcr]
      have f1 := f0 0
      have f2 := f0 1
      have p0 : w1.cell? ⟨B, 0, none⟩ = some (.int .i64 (k : Int)) := cell_of_row _ _ 0 _ _ _ hv.cells
      have p1 : w1.cell? ⟨B, 1, none⟩ = some v := cell_of_row _ _ 1 _ _ _ hv.cells
      have HV := hide hv
      have HCRR := hide hcr
      obtain ⟨ao, n', cap, rfl⟩ := row_form hv.row
      clear hv hcr f0
      go_wp2_with fail
      obtain ⟨W9, hW9⟩ : ∃ W9, W9 = (w1.setCell ⟨w.heap.size, 0, none⟩ (.int .i64 (k : Int))).setCell ⟨w.heap.size, 1, none⟩ (.slice ao n' cap) := ⟨_, rfl⟩
      rw [← hW9]
      have hr9 : W9.heap[w.heap.size]? = some (.cells #[.int .i64 (k : Int), .slice ao n' cap] 133 (0, 0)) := by
        rw [hW9]
        exact heap_setCell_same _ _ 1 _ _ _ (heap_setCell_same _ _ 0 _ _ _ (unhide HCRR))
      have r0 : W9.cell? ⟨w.heap.size, 0, none⟩ = some (.int .i64 (k : Int)) := cell_of_row _ _ 0 _ _ _ hr9
      have r1 : W9.cell? ⟨w.heap.size, 1, none⟩ = some (.slice ao n' cap) := cell_of_row _ _ 1 _ _ _ hr9
      have ho9 : ∀ i, i ≠ w.heap.size → W9.heap[i]? = w1.heap[i]? := fun i hi => by
        rw [hW9, Below.heap_setCell _ _ _ _ hi, Below.heap_setCell _ _ _ _ hi]
      have hz9 : w1.heap.size = W9.heap.size := by rw [hW9]; simp
      have hs9 : W9.os = w1.os ∧ W9.tape = w1.tape ∧ W9.output = w1.output := by rw [hW9]; exact ⟨rfl, rfl, rfl⟩
      refine bodyPost_ret (v := .agg #[.int .i64 (k : Int), .slice ao n' cap]) (by simp [results, Tryz.results52, go_sem, r0, r1]) rfl ?_
      have hT9 := unhide HT0 w1 hT1'
      refine ⟨?_, ⟨hs9.1.trans hT9.os, hs9.2.1.trans hT9.tape, hs9.2.2.trans hT9.output, by rw [← hz9]; exact hT9.size, fun i hi hr => (ho9 i (by omega)).trans (hT9.block i hi hr)⟩⟩
      unfold WrdOut
      rw [unhide HG, unhide HQ]
      refine ⟨_, rfl, ?_, ?_, hkj, hj, hy⟩
      · have hrow := row_same (unhide HV).row (w' := W9) (fun i hi => ho9 i (by
          have := (World.ownsRow.lt (unhide HV).row i hi).1
          have := unhide HB; omega))
        refine ⟨hrow.1, ?_⟩
        rcases hrow.2 with h0 | ⟨g, cap', cur, h1, h2, h3⟩
        · exact .inl h0
        · exact .inr ⟨g, cap', cur, h1, by have := unhide HB; omega, h3⟩
      · exact (ho9 rb (by omega)).trans (unhide HW1).rdr
    | false =>
      cases hc : s.data.toList[j]? with
      | none => rw [end_none hc] at he; cases he
      | some c =>
      have mE := fun W (h : RW W B rb B s j k ys) => endsW B rb B s j k ys false W h hj he
      obtain ⟨hlt, hcv⟩ := get_some hc
      have HQ := hide (wrd_some (acc := ys) hc he)
      clear he
      by_cases hn34 : c = 34
      · have hcc := hn34
        have m34 := fun W (h : RW W B rb B s j k ys) => begW B rb B s ⟨#[34]⟩ j k ys true W h hj (by rw [beg_is 34 hc]; exact decide_eq_true hcc)
        have hE := fun W (h : RW W B rb B s j k ys) => quoted_any B rb B s j k ys W h hlt hs hy
        unfold QuoOut at hE
        cases hq : quoG s.data.toList j ys (j + 1) with
        | error x =>
          obtain ⟨e, p⟩ := x
          rw [hq] at hE
          have HQ2 : Hid (wrdG s.data.toList ys j = .error (e, p)) := hide (by rw [unhide HQ, if_pos hcc, hq])
          unfold Wrg at hE
          clear hc hcc hn34 hcv HQ hq
          go_wp2_with (first
            | (go_at_call 64; refine (mE _ (unhide HR)).mono ?_; clear mE; rintro ev w1 ⟨rfl, hW1, hT1⟩; have HW1 := hide hW1; clear hW1)
            | (go_at_call 49; refine (m34 _ (unhide HW1)).mono ?_; clear m34; rintro ev w2 ⟨rfl, hW2, hT2⟩; have HW2 := hide hW2; clear hW2)
            | (go_at_call 65; refine (hE _ (unhide HW2)).mono ?_; clear hE; rintro ev w8 ⟨⟨bb, rfl, hc⟩, hT8⟩))
          exact ⟨rfl, WrdOut.bad (unhide HG) (unhide HQ2) ⟨bb, rfl, hc⟩, unhide HT0 _ (((hT.trans hT1).trans hT2).trans hT8)⟩
        | ok x =>
          obtain ⟨zs, t⟩ := x
          rw [hq] at hE
          have HQ2 : Hid (j < t → wrdG s.data.toList ys j = wrdG s.data.toList zs t) := hide (fun ht => by rw [unhide HQ, if_pos hcc, hq]; simp only; rw [if_pos ht])
          clear hc hcc hn34 hcv HQ hq
          go_wp2_with (first
            | (go_at_call 64; refine (mE _ (unhide HR)).mono ?_; clear mE; rintro ev w1 ⟨rfl, hW1, hT1⟩; have HW1 := hide hW1; clear hW1)
            | (go_at_call 49; refine (m34 _ (unhide HW1)).mono ?_; clear m34; rintro ev w2 ⟨rfl, hW2, hT2⟩; have HW2 := hide hW2; clear hW2)
            | (go_at_call 65; refine (hE _ (unhide HW2)).mono ?_; clear hE; rintro ev w8 ⟨⟨rfl, hW8, ht1, ht2, hzl⟩, hT8⟩))
          go_roundw
          case rel =>
            first
              | exact ⟨t, zs, hW8, (unhide HG).trans (unhide HQ2 (by omega)), hzl, by omega, ht2, ((hT.trans hT1).trans hT2).trans hT8⟩
              | ((repeat apply Exists.intro); exact ⟨⟨t, zs, hW8, (unhide HG).trans (unhide HQ2 (by omega)), hzl, by omega, ht2, ((hT.trans hT1).trans hT2).trans hT8⟩, rfl⟩)
          case measure => rw [unhide HA, hW8.rdr.at]; omega
      by_cases hn36 : c = 36
      · have hcc := hn36
        have m34 := fun W (h : RW W B rb B s j k ys) => begW B rb B s ⟨#[34]⟩ j k ys false W h hj (by rw [beg_is 34 hc]; exact decide_eq_false hn34)
        have m36 := fun W (h : RW W B rb B s j k ys) => begW B rb B s ⟨#[36]⟩ j k ys true W h hj (by rw [beg_is 36 hc]; exact decide_eq_true hcc)
        have hV := fun W (h : RW W B rb B s j k ys) => var_any B rb B s j k ys W h hlt hs (by omega)
        unfold VarOut at hV
        cases hv : varG s.data.toList j with
        | none =>
          have HQ2 : Hid (wrdG s.data.toList ys j = .error (5, j)) := hide (by rw [unhide HQ, if_neg hn34, if_pos hcc, hv])
          rw [hv] at hV
          unfold Wrg at hV
          clear hc hcc hn34 hn36 hcv HQ hv
          go_wp2_with (first
            | (go_at_call 64; refine (mE _ (unhide HR)).mono ?_; clear mE; rintro ev w1 ⟨rfl, hW1, hT1⟩; have HW1 := hide hW1; clear hW1)
            | (go_at_call 49; refine (m34 _ (unhide HW1)).mono ?_; clear m34; rintro ev w2 ⟨rfl, hW2, hT2⟩; have HW2 := hide hW2; clear hW2)
            | (go_at_call 49; refine (m36 _ (unhide HW2)).mono ?_; clear m36; rintro ev w3 ⟨rfl, hW3, hT3⟩; have HW3 := hide hW3; clear hW3)
            | (go_at_call 66; refine (hV _ (unhide HW3)).mono ?_; clear hV; rintro ev w8 ⟨⟨bb, rfl, hc⟩, hT8⟩))
          exact ⟨rfl, WrdOut.bad (unhide HG) (unhide HQ2) ⟨bb, rfl, hc⟩, unhide HT0 _ ((((hT.trans hT1).trans hT2).trans hT3).trans hT8)⟩
        | some q =>
          obtain ⟨n, t⟩ := q
          rw [hv] at hV
          have HQ2 : Hid (j < t → wrdG s.data.toList ys j = wrdG s.data.toList (ys ++ [.inr (n, j)]) t) := hide (fun ht => by
            rw [unhide HQ, if_neg hn34, if_pos hcc, hv]; simp only; rw [if_pos ht])
          clear hc hcc hn34 hn36 hcv HQ hv
          go_wp2_with (first
            | (go_at_call 64; refine (mE _ (unhide HR)).mono ?_; clear mE; rintro ev w1 ⟨rfl, hW1, hT1⟩; have HW1 := hide hW1; clear hW1)
            | (go_at_call 49; refine (m34 _ (unhide HW1)).mono ?_; clear m34; rintro ev w2 ⟨rfl, hW2, hT2⟩; have HW2 := hide hW2; clear hW2)
            | (go_at_call 49; refine (m36 _ (unhide HW2)).mono ?_; clear m36; rintro ev w3 ⟨rfl, hW3, hT3⟩; have HW3 := hide hW3; clear hW3)
            | (go_at_call 66; refine (hV _ (unhide HW3)).mono ?_; clear hV; rintro ev w8 ⟨⟨rfl, hW8, ht1, ht2⟩, hT8⟩))
          go_roundw
          case rel =>
            first
              | exact ⟨t, ys ++ [.inr (n, j)], hW8, (unhide HG).trans (unhide HQ2 ht1), by simp; omega, by omega, ht2, (((hT.trans hT1).trans hT2).trans hT3).trans hT8⟩
              | ((repeat apply Exists.intro); exact ⟨⟨t, ys ++ [.inr (n, j)], hW8, (unhide HG).trans (unhide HQ2 ht1), by simp; omega, by omega, ht2, (((hT.trans hT1).trans hT2).trans hT3).trans hT8⟩, rfl⟩)
          case measure => rw [unhide HA, hW8.rdr.at]; omega
      by_cases hn92 : c = 92
      · have hcc := hn92
        have m34 := fun W (h : RW W B rb B s j k ys) => begW B rb B s ⟨#[34]⟩ j k ys false W h hj (by rw [beg_is 34 hc]; exact decide_eq_false hn34)
        have m36 := fun W (h : RW W B rb B s j k ys) => begW B rb B s ⟨#[36]⟩ j k ys false W h hj (by rw [beg_is 36 hc]; exact decide_eq_false hn36)
        have m92 := fun W (h : RW W B rb B s j k ys) => begW B rb B s ⟨#[92]⟩ j k ys true W h hj (by rw [beg_is 92 hc]; exact decide_eq_true hcc)
        cases hd : s.data.toList[j + 1]? with
        | none =>
          have HQ2 : Hid (wrdG s.data.toList ys j = .error (5, j)) := hide (by rw [unhide HQ, if_neg hn34, if_neg hn36, if_pos hcc, hd])
          have hj1 : j + 1 = s.size := by
            have := List.getElem?_eq_none_iff.1 hd
            rw [← Lib.size_eq] at this; omega
          have hE := fun W (h : RW W B rb B s j k ys) => escaped_bad B rb B s j k ys W h hj1
          unfold Wrg at hE
          clear hc hcc hn34 hn36 hn92 hcv HQ hd hj1
          go_wp2_with (first
            | (go_at_call 64; refine (mE _ (unhide HR)).mono ?_; clear mE; rintro ev w1 ⟨rfl, hW1, hT1⟩; have HW1 := hide hW1; clear hW1)
            | (go_at_call 49; refine (m34 _ (unhide HW1)).mono ?_; clear m34; rintro ev w2 ⟨rfl, hW2, hT2⟩; have HW2 := hide hW2; clear hW2)
            | (go_at_call 49; refine (m36 _ (unhide HW2)).mono ?_; clear m36; rintro ev w3 ⟨rfl, hW3, hT3⟩; have HW3 := hide hW3; clear hW3)
            | (go_at_call 49; refine (m92 _ (unhide HW3)).mono ?_; clear m92; rintro ev w4 ⟨rfl, hW4, hT4⟩; have HW4 := hide hW4; clear hW4)
            | (go_at_call 67; refine (hE _ (unhide HW4)).mono ?_; clear hE; rintro ev w8 ⟨⟨bb, rfl, hc⟩, hT8⟩))
          exact ⟨rfl, WrdOut.bad (unhide HG) (unhide HQ2) ⟨bb, rfl, hc⟩, unhide HT0 _ (((((hT.trans hT1).trans hT2).trans hT3).trans hT4).trans hT8)⟩
        | some d =>
          obtain ⟨hlt2, hdv⟩ := get_some hd
          have HQ2 : Hid (wrdG s.data.toList ys j = wrdG s.data.toList (ys ++ [.inl d]) (j + 2)) := hide (by rw [unhide HQ, if_neg hn34, if_neg hn36, if_pos hcc, hd])
          have hE := fun W (h : RW W B rb B s j k ys) => escaped_ok B rb B s j k ys W h hlt2 hs (by omega)
          rw [hdv] at hE
          clear hc hcc hn34 hn36 hn92 hcv HQ hd hdv
          go_wp2_with (first
            | (go_at_call 64; refine (mE _ (unhide HR)).mono ?_; clear mE; rintro ev w1 ⟨rfl, hW1, hT1⟩; have HW1 := hide hW1; clear hW1)
            | (go_at_call 49; refine (m34 _ (unhide HW1)).mono ?_; clear m34; rintro ev w2 ⟨rfl, hW2, hT2⟩; have HW2 := hide hW2; clear hW2)
            | (go_at_call 49; refine (m36 _ (unhide HW2)).mono ?_; clear m36; rintro ev w3 ⟨rfl, hW3, hT3⟩; have HW3 := hide hW3; clear hW3)
            | (go_at_call 49; refine (m92 _ (unhide HW3)).mono ?_; clear m92; rintro ev w4 ⟨rfl, hW4, hT4⟩; have HW4 := hide hW4; clear hW4)
            | (go_at_call 67; refine (hE _ (unhide HW4)).mono ?_; clear hE; rintro ev w8 ⟨rfl, hW8, hT8⟩))
          go_roundw
          case rel =>
            first
              | exact ⟨j + 2, ys ++ [.inl d], hW8, (unhide HG).trans (unhide HQ2), by simp; omega, by omega, by omega, ((((hT.trans hT1).trans hT2).trans hT3).trans hT4).trans hT8⟩
              | ((repeat apply Exists.intro); exact ⟨⟨j + 2, ys ++ [.inl d], hW8, (unhide HG).trans (unhide HQ2), by simp; omega, by omega, by omega, ((((hT.trans hT1).trans hT2).trans hT3).trans hT4).trans hT8⟩, rfl⟩)
          case measure => rw [unhide HA, hW8.rdr.at]; omega
      have m34 := fun W (h : RW W B rb B s j k ys) => begW B rb B s ⟨#[34]⟩ j k ys false W h hj (by rw [beg_is 34 hc]; exact decide_eq_false hn34)
      have m36 := fun W (h : RW W B rb B s j k ys) => begW B rb B s ⟨#[36]⟩ j k ys false W h hj (by rw [beg_is 36 hc]; exact decide_eq_false hn36)
      have m92 := fun W (h : RW W B rb B s j k ys) => begW B rb B s ⟨#[92]⟩ j k ys false W h hj (by rw [beg_is 92 hc]; exact decide_eq_false hn92)
      have HQ2 : Hid (wrdG s.data.toList ys j = wrdG s.data.toList (ys ++ [.inl c]) (j + 1)) := hide (by rw [unhide HQ, if_neg hn34, if_neg hn36, if_neg hn92])
      have hE := fun W (h : RW W B rb B s j k ys) => itself_any B rb B s j k ys W h hlt hs (by omega)
      rw [hcv] at hE
      clear hc hn34 hn36 hn92 hcv HQ
      go_wp2_with (first
        | (go_at_call 64; refine (mE _ (unhide HR)).mono ?_; clear mE; rintro ev w1 ⟨rfl, hW1, hT1⟩; have HW1 := hide hW1; clear hW1)
        | (go_at_call 49; refine (m34 _ (unhide HW1)).mono ?_; clear m34; rintro ev w2 ⟨rfl, hW2, hT2⟩; have HW2 := hide hW2; clear hW2)
        | (go_at_call 49; refine (m36 _ (unhide HW2)).mono ?_; clear m36; rintro ev w3 ⟨rfl, hW3, hT3⟩; have HW3 := hide hW3; clear hW3)
        | (go_at_call 49; refine (m92 _ (unhide HW3)).mono ?_; clear m92; rintro ev w4 ⟨rfl, hW4, hT4⟩; have HW4 := hide hW4; clear hW4)
        | (go_at_call 68; refine (hE _ (unhide HW4)).mono ?_; clear hE; rintro ev w8 ⟨rfl, hW8, hT8⟩))
      go_roundw
      case rel =>
        first
          | exact ⟨j + 1, ys ++ [.inl c], hW8, (unhide HG).trans (unhide HQ2), by simp; omega, by omega, by omega, ((((hT.trans hT1).trans hT2).trans hT3).trans hT4).trans hT8⟩
          | ((repeat apply Exists.intro); exact ⟨⟨j + 1, ys ++ [.inl c], hW8, (unhide HG).trans (unhide HQ2), by simp; omega, by omega, by omega, ((((hT.trans hT1).trans hT2).trans hT3).trans hT4).trans hT8⟩, rfl⟩)
      case measure => rw [unhide HA, hW8.rdr.at]; omega
end Go.Proofs.YtkikhmleffcajaaGreatDoor
