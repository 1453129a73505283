import Derived.Shelf.Strings.Cut
import Derived.Shelf.Strings.Prefix
import Derived.Test.YtkikhmleffcajaaGreatDoorProg
import Derived.Test.YtkikhmleffcajaaGreatDoorJWrA
namespace Go.Proofs
open Go.Shelf
def Tryz.lays145_ren : Go.Shelf.Ren := ⟨fun | 145 => 63 | 220 => 73 | 219 => 84 | 217 => 101 | 225 => 102 | 224 => 103 | 267 => 104 | 266 => 132 | 314 => 133 | n => n, fun | 9 => 9 | 4 => 4 | 59 => 154 | 3 => 3 | 5 => 5 | 46 => 172 | 146 => 212 | 51 => 211 | n => n, fun | 1 => 1 | n => n⟩
theorem Tryz.lays145 : Go.Proofs.Lays.n145 Tryz.prog Tryz.lays145_ren := {
  mixed := by kernel_rfl
  f145 := Tryz.func63.trans (congrArg some (by kernel_rfl))
  f217 := Tryz.func101.trans (congrArg some (by kernel_rfl))
  f219 := Tryz.func84.trans (congrArg some (by kernel_rfl))
  f220 := Tryz.func73.trans (congrArg some (by kernel_rfl))
  f224 := Tryz.func103.trans (congrArg some (by kernel_rfl))
  f225 := Tryz.func102.trans (congrArg some (by kernel_rfl))
  f266 := Tryz.func132.trans (congrArg some (by kernel_rfl))
  f267 := Tryz.func104.trans (congrArg some (by kernel_rfl))
  f314 := Tryz.func133.trans (congrArg some (by kernel_rfl))
  t3 := Tryz.underlying3
  a3 := Tryz.isAgg3
  z3 := Tryz.sizeOf3
  v3 := Tryz.zeroValue3
  t4 := Tryz.underlying4
  a4 := Tryz.isAgg4
  z4 := Tryz.sizeOf4
  v4 := Tryz.zeroValue4
  t5 := Tryz.underlying5
  a5 := Tryz.isAgg5
  z5 := Tryz.sizeOf5
  v5 := Tryz.zeroValue5
  t9 := Tryz.underlying9
  a9 := Tryz.isAgg9
  z9 := Tryz.sizeOf9
  v9 := Tryz.zeroValue9
  t46 := Tryz.underlying172
  a46 := Tryz.isAgg172
  z46 := Tryz.sizeOf172
  v46 := Tryz.zeroValue172
  t51 := Tryz.underlying211
  a51 := Tryz.isAgg211
  z51 := Tryz.sizeOf211
  v51 := Tryz.zeroValue211
  t59 := Tryz.underlying154
  a59 := Tryz.isAgg154
  z59 := Tryz.sizeOf154
  v59 := Tryz.zeroValue154
  t146 := Tryz.underlying212
  a146 := Tryz.isAgg212
  z146 := Tryz.sizeOf212
  v146 := Tryz.zeroValue212
  g1 := by kernel_rfl }
open Go.RowKit Go.Lib in
theorem Tryz.strings_Cut (s sep : ByteArray) (m : Int) (w : World) (hs : s.size < 4294967281) (hm : w.cell? ⟨1, 0, none⟩ = some (.int .i64 m)) :
    Calls Tryz.prog 63 #[.string s, .string sep] w fun e w' => e = .returned (.tuple #[.string ⟨(Lib.cut s.data.toList sep.data.toList).1.toArray⟩, .string ⟨(Lib.cut s.data.toList sep.data.toList).2.1.toArray⟩, .bool (Lib.cut s.data.toList sep.data.toList).2.2]) ∧ ∃ n, w' = w.drewN n := Any.strings_Cut Tryz.lays145 s sep m w hs hm
def Tryz.lays102_ren : Go.Shelf.Ren := ⟨fun | 102 => 248 | 209 => 261 | 207 => 142 | n => n, fun | 9 => 9 | 4 => 4 | 3 => 3 | n => n, fun | n => n⟩
theorem Tryz.lays102 : Go.Proofs.Lays.n102 Tryz.prog Tryz.lays102_ren := {
  mixed := by kernel_rfl
  f102 := Tryz.func248.trans (congrArg some (by kernel_rfl))
  f207 := Tryz.func142.trans (congrArg some (by kernel_rfl))
  f209 := Tryz.func261.trans (congrArg some (by kernel_rfl))
  t3 := Tryz.underlying3
  a3 := Tryz.isAgg3
  z3 := Tryz.sizeOf3
  v3 := Tryz.zeroValue3
  t4 := Tryz.underlying4
  a4 := Tryz.isAgg4
  z4 := Tryz.sizeOf4
  v4 := Tryz.zeroValue4
  t9 := Tryz.underlying9
  a9 := Tryz.isAgg9
  z9 := Tryz.sizeOf9
  v9 := Tryz.zeroValue9 }
open Go.RowKit Go.Lib in
theorem Tryz.strings_TrimSuffix (s p : ByteArray) (w : World) (hs : s.size ≤ 9223372036854775807) :
    Calls Tryz.prog 248 #[.string s, .string p] w fun e w' => e = .returned (.string ⟨(Lib.trimSuffix s.data.toList p.data.toList).toArray⟩) ∧ w' = w := Any.strings_TrimSuffix Tryz.lays102 s p w hs
end Go.Proofs

namespace Go.Proofs.YtkikhmleffcajaaGreatDoor
open Go.RowKit

theorem cut_first (l : List UInt8) : (Lib.cut l [10]).1 = l.takeWhile (fun c => c != 10) := by
  induction l with
  | nil => simp [Lib.cut, Lib.index]
  | cons b l ih =>
    by_cases hb : b = 10
    · subst hb
      simp [Lib.cut, Lib.index, List.isPrefixOf]
    · have hp : List.isPrefixOf [10] (b :: l) = false := by
        simp only [List.isPrefixOf, Bool.and_true, beq_eq_false_iff_ne, ne_eq]
        exact fun e => hb e.symm
      have hi : Lib.index (b :: l) [10] = if Lib.index l [10] == -1 then -1 else Lib.index l [10] + 1 := by
        rw [Lib.index, hp]; rfl
      have hge := Lib.index_ge l [10]
      have hne : (b != 10) = true := by simpa using hb
      rw [List.takeWhile_cons_of_pos (p := fun c => c != 10) hne]
      unfold Lib.cut at ih ⊢
      rw [hi]
      by_cases h1 : Lib.index l [10] = -1
      · rw [h1] at ih ⊢
        simp only [BEq.rfl, if_true]
        rw [if_neg (by omega)] at ih ⊢
        simp only at ih ⊢
        rw [← ih]
      · have h2 : (Lib.index l [10] == -1) = false := by simpa using h1
        rw [h2]
        simp only [Bool.false_eq_true, if_false]
        rw [if_pos (by omega)] at ih ⊢
        simp only at ih ⊢
        rw [← ih, show (Lib.index l [10] + 1).toNat = (Lib.index l [10]).toNat + 1 by omega, List.take_succ_cons]
set_option maxHeartbeats 1000000 in
set_option maxRecDepth 10000 in
theorem comment_any (rb : Nat) (s : ByteArray) (k : Nat) (m : Int) (w : World) (h : Rdr w rb s k) (hk : k ≤ s.size) (hs : s.size ≤ 1500) (hm : w.cell? ⟨1, 0, none⟩ = some (.int .i64 m)) :
    Calls Tryz.prog 50 #[.pointer (some ⟨rb, 0, none⟩)] w fun e w' => e = .returned (.tuple #[]) ∧ Rdr w' rb s (cmtG s.data.toList k) ∧ Tb w.heap.size rb w w' := by
  have hQ := rest_any rb s k w h hk
  obtain ⟨u, hu⟩ : ∃ u, u = s.extract k s.size := ⟨_, rfl⟩
  rw [← hu] at hQ
  have hul : u.data.toList = s.data.toList.drop k := by rw [hu, ext_list]
  have hus : u.size ≤ 1500 := by rw [Lib.size_eq, hul, List.length_drop, ← Lib.size_eq]; omega
  have hC := fun (w' : World) (h' : w'.cell? ⟨1, 0, none⟩ = some (.int .i64 m)) => Tryz.strings_Cut u ⟨#[10]⟩ m w' (by omega) h'
  rw [show (⟨#[10]⟩ : ByteArray).data.toList = [10] from rfl, hul, cut_first] at hC
  obtain ⟨d, hd⟩ : ∃ d : ByteArray, d = ⟨((s.data.toList.drop k).takeWhile (fun c => c != 10)).toArray⟩ := ⟨_, rfl⟩
  obtain ⟨d2, hd2⟩ : ∃ d2 : ByteArray, d2 = ⟨(Lib.cut (s.data.toList.drop k) [10]).2.1.toArray⟩ := ⟨_, rfl⟩
  obtain ⟨d3, hd3⟩ : ∃ d3 : Bool, d3 = (Lib.cut (s.data.toList.drop k) [10]).2.2 := ⟨_, rfl⟩
  rw [← hd, ← hd2, ← hd3] at hC
  have hds : cmtG s.data.toList k = k + d.size := by
    unfold cmtG; rw [hd, Lib.size_eq]
  have hdl : k + d.size ≤ s.size := by rw [← hds, Lib.size_eq]; exact cmt_len (by rw [← Lib.size_eq]; exact hk)
  have HW := hide h
  have HM := hide hm
  have HD := hide hds
  have hml : (1 : Nat) < w.heap.size := World.block_lt_of_cell? _ _ hm
  clear h hu hul hus hd hd2 hd3 hds hm
  go_enter Tryz.func50, Tryz.ntmps50
  go_upto_region 1 with (first
    | (go_at_call 62; refine hQ.mono ?_; clear hQ; rintro ev w1 ⟨rfl, hb1⟩; have HM1 := hide (cell_later hb1 (unhide HM)))
    | (go_at_call 63; refine (hC _ (unhide HM1)).mono ?_; clear hC; rintro ev w2 ⟨rfl, ⟨n2, rfl⟩⟩))
  have HR2 : Hid (Rdr (w1.drewN n2) rb s k) := hide ((unhide HW).tb (below_drewN hb1 n2))
  have c1 := (unhide HR2).c1
  have z1 := (unhide HR2).fz 1
  go_wp2_with fail
  go_end0
  have e : IntKind.i64.wrap ((k : Int) + (d.size : Int)) = ((k + d.size : Nat) : Int) := by rw [← Int.natCast_add]; exact wrap_i64 _ (by omega)
  refine ⟨rfl, by rw [unhide HD]; exact (unhide HR2).to (k + d.size), (Tb.of_below (below_drewN hb1 n2)).trans (Tb.to _ _ _ _ _)⟩
/-- A word in memory. -/
structure WdM where
  place : Nat
  v : Value
  xs : List Atm
def WdM.cells (m : WdM) : List Value := [.int .i64 (m.place : Int), m.v]
def WdM.wd (m : WdM) : Wd := ⟨m.xs, m.place⟩
def wdC (l : List WdM) : List Value := (l.map WdM.cells).flatten
theorem wdC_len (l : List WdM) : (wdC l).length = l.length * 2 := by
  induction l with
  | nil => rfl
  | cons a r ih => simp only [wdC, List.map_cons, List.flatten_cons, List.length_append, List.length_cons] at ih ⊢; rw [ih]; simp [WdM.cells]; omega
theorem wdC_snoc (l : List WdM) (a : WdM) : wdC (l ++ [a]) = wdC l ++ a.cells := by simp [wdC]
theorem info138w : (Tryz.prog.info? 133).map (fun i => (i.zero, i.size, i.bytes)) = some (some (.agg #[.int .i64 0, .slice none 0 0]), 2, 32) := by kernel_rfl
/-- The parts of a word lie in memory. -/
def WdM.Ok (m : WdM) (w : World) (B : Nat) : Prop := w.ownsRow B 161 3 m.v (parts m.xs).length (prC (parts m.xs))
/-- Words lie in memory. -/
structure WsM (w : World) (B : Nat) (v : Value) (ms : List WdM) : Prop where
  row : w.ownsRow B 133 2 v ms.length (wdC ms)
  all : ∀ m ∈ ms, m.Ok w B
theorem row_base {w : World} {B B' e z n : Nat} {v : Value} {xs : List Value} (h : w.ownsRow B e z v n xs) (hb : B' ≤ B) : w.ownsRow B' e z v n xs := by
  refine ⟨h.1, ?_⟩
  rcases h.2 with h1 | ⟨g, cap, cur, h1, h2, h3⟩
  · exact .inl h1
  · exact .inr ⟨g, cap, cur, h1, Nat.le_trans hb h2, h3⟩
/-- Rows of two kinds lie apart. -/
theorem row_apart {w : World} {B B' e e' z z' n n' : Nat} {v v' : Value} {xs xs' : List Value} (h : w.ownsRow B e z v n xs) (h' : w.ownsRow B' e' z' v' n' xs') (hne : e ≠ e') (g : Nat) (hg : v.ownBlock = some g) : v'.ownBlock ≠ some g := by
  intro hg'
  rcases h.2 with ⟨rfl, _⟩ | ⟨a, cap, cur, rfl, _, ha, _⟩
  · cases hg
  rcases h'.2 with ⟨rfl, _⟩ | ⟨b, cap', cur', rfl, _, hb, _⟩
  · cases hg'
  obtain rfl : a = g := by simpa [Value.ownBlock] using hg
  obtain rfl : b = a := by simpa [Value.ownBlock] using hg'
  rw [ha] at hb
  injection hb with hb
  injection hb with _ hb
  exact hne hb
end Go.Proofs.YtkikhmleffcajaaGreatDoor

namespace Go.Proofs.YtkikhmleffcajaaGreatDoor
open Go.RowKit

theorem wrd_ge (l : List UInt8) (n : Nat) : ∀ (k : Nat) (acc a : List Atm) (t : Nat), l.length - k ≤ n → wrdG l acc k = .ok (a, t) → k ≤ t := by
  induction n with
  | zero =>
    intro k acc a t hn h
    have he : endG l k = true := end_none (List.getElem?_eq_none_iff.2 (by omega))
    rw [wrd_end he] at h
    injection h with h; injection h with _ h; omega
  | succ n ih =>
    intro k acc a t hn h
    cases he : endG l k with
    | true => rw [wrd_end he] at h; injection h with h; injection h with _ h; omega
    | false =>
      cases hc : l[k]? with
      | none => rw [end_none hc] at he; cases he
      | some c =>
        have hlt := (List.getElem?_eq_some_iff.1 hc).1
        rw [wrd_some hc he] at h
        split at h
        · split at h
          · cases h
          · split at h
            · have := ih _ _ _ _ (by omega) h; omega
            · cases h
        · split at h
          · split at h
            · cases h
            · split at h
              · have := ih _ _ _ _ (by omega) h; omega
              · cases h
          · split at h
            · split at h
              · cases h
              · have := ih _ _ _ _ (by omega) h; omega
            · have := ih _ _ _ _ (by omega) h; omega
theorem wrd_gt {l : List UInt8} {k t : Nat} {acc a : List Atm} (he : endG l k = false) (h : wrdG l acc k = .ok (a, t)) : k < t := by
  cases hc : l[k]? with
  | none => rw [end_none hc] at he; cases he
  | some c =>
    rw [wrd_some hc he] at h
    split at h
    · split at h
      · cases h
      · split at h
        · have := wrd_ge l _ _ _ _ _ (Nat.le_refl _) h; omega
        · cases h
    · split at h
      · split at h
        · cases h
        · split at h
          · have := wrd_ge l _ _ _ _ _ (Nat.le_refl _) h; omega
          · cases h
      · split at h
        · split at h
          · cases h
          · have := wrd_ge l _ _ _ _ _ (Nat.le_refl _) h; omega
        · have := wrd_ge l _ _ _ _ _ (Nat.le_refl _) h; omega
theorem lin_none {l : List UInt8} {k : Nat} {ws : List Wd} (h : l[k]? = none) : linG l ws k = .ok (ws, k) := by
  rw [linG]; split
  · rfl
  · rename_i c h'; rw [h] at h'; cases h'
theorem lin_some {l : List UInt8} {k : Nat} {ws : List Wd} {c : UInt8} (h : l[k]? = some c) : linG l ws k =
    if c = 10 then .ok (ws, k + 1)
    else if goesG l k = true then linG l ws (k + 2)
    else if c = 32 then linG l ws (k + 1)
    else if c = 35 ∧ ws = [] then linG l ws (cmtG l k)
    else match wrdG l [] k with
      | .error e => .error e
      | .ok (a, t) => if k < t then linG l (ws ++ [⟨a, k⟩]) t else .error (5, k) := by
  rw [linG]; split
  · rename_i h'; rw [h] at h'; cases h'
  · rename_i d h'; rw [h] at h'; cases h'
    simp only [dite_eq_ite]
    rfl
theorem lin_nl {l : List UInt8} {k : Nat} {ws : List Wd} (h : l[k]? = some 10) : linG l ws k = .ok (ws, k + 1) := by
  rw [lin_some h, if_pos rfl]
/-- Here a word begins, or the line ends. -/
def Stp (l : List UInt8) (ws : List Wd) (k : Nat) : Prop := ¬ l[k]? = some 32 ∧ goesG l k = false ∧ ¬ (l[k]? = some 35 ∧ ws = [])
theorem lin_word {l : List UInt8} {k : Nat} {ws : List Wd} {c : UInt8} (h : l[k]? = some c) (h10 : ¬ c = 10) (hs : Stp l ws k) : linG l ws k = match wrdG l [] k with
      | .error e => .error e
      | .ok (a, t) => if k < t then linG l (ws ++ [⟨a, k⟩]) t else .error (5, k) := by
  obtain ⟨h1, h2, h3⟩ := hs
  rw [h] at h1 h3
  rw [lin_some h, if_neg h10, if_neg (by simp [h2]), if_neg (fun e => h1 (by rw [e])), if_neg (fun e => h3 ⟨by rw [e.1], e.2⟩)]
theorem stp_end {l : List UInt8} {k : Nat} {ws : List Wd} {c : UInt8} (h : l[k]? = some c) (h10 : ¬ c = 10) (hs : Stp l ws k) : endG l k = false := by
  rw [end_some h]
  refine decide_eq_false ?_
  rintro (e | e | e)
  · exact h10 e
  · exact hs.1 (by rw [h, e])
  · rw [hs.2.1] at e; cases e
theorem lin_cmt {l : List UInt8} {k : Nat} (h : l[k]? = some 35) : linG l [] k = linG l [] (cmtG l k) := by
  have hg : goesG l k = false := by unfold goesG; rw [h]; rfl
  rw [lin_some h, if_neg (by decide), if_neg (by simp [hg]), if_neg (by decide), if_pos ⟨rfl, rfl⟩]
theorem cmt_at {l : List UInt8} {k : Nat} : l[cmtG l k]? = none ∨ l[cmtG l k]? = some 10 := by
  unfold cmtG
  obtain ⟨n, hn⟩ : ∃ n, n = ((l.drop k).takeWhile (fun c => c != 10)).length := ⟨_, rfl⟩
  have key : ∀ r : List UInt8, r[(r.takeWhile (fun c => c != 10)).length]? = none ∨ r[(r.takeWhile (fun c => c != 10)).length]? = some 10 := fun r => by
    induction r with
    | nil => exact .inl rfl
    | cons a r ih =>
      by_cases ha : a = 10
      · subst ha; exact .inr (by simp)
      · rw [List.takeWhile_cons_of_pos (p := fun c => c != 10) (by simpa using ha)]
        simpa using ih
  have := key (l.drop k)
  rw [List.getElem?_drop] at this
  exact this
theorem cmt_stp (l : List UInt8) (k : Nat) : Stp l [] (cmtG l k) := by
  unfold Stp goesG
  rcases cmt_at (l := l) (k := k) with h | h <;> rw [h] <;> simp
theorem row_tb {w w' : World} {B rb e z n : Nat} {v : Value} {xs : List Value} (h : w.ownsRow B e z v n xs) (hb : Tb w.heap.size rb w w') (hr : rb < B) : w'.ownsRow B e z v n xs :=
  row_same h fun k hk => by
    have := World.ownsRow.lt h k hk
    exact hb.block k this.2 (by omega)
theorem WsM.tb {w w' : World} {B rb : Nat} {v : Value} {ms : List WdM} (h : WsM w B v ms) (hb : Tb w.heap.size rb w w') (hr : rb < B) : WsM w' B v ms :=
  ⟨row_tb h.row hb hr, fun m hm => row_tb (h.all m hm) hb hr⟩
theorem WsM.snoc {w w1 : World} {o : Obj} {B : Nat} {v v' : Value} {ms : List WdM} {m : WdM} (h : WsM w B v ms) (hm : m.Ok w B) (hown : w1.ownsRow B 133 2 v' (ms.length + 1) (wdC ms ++ m.cells)) (hg : (w.alloc o).grownBy w1 v.ownBlock) : WsM w1 B v' (ms ++ [m]) := by
  refine ⟨by rw [wdC_snoc, List.length_append]; exact hown, fun m' hm' => ?_⟩
  have hok : m'.Ok w B := by
    rcases List.mem_append.1 hm' with h' | h'
    · exact h.all m' h'
    · rw [List.mem_singleton] at h'; rw [h']; exact hm
  refine row_same hok fun k hk => ?_
  have hlt := (World.ownsRow.lt hok k hk).2
  refine (hg.block k (by simp; omega) (fun e => ?_)).trans (Below.heap_alloc _ _ _ hlt)
  exact row_apart hok h.row (by decide) k hk e.symm
/-- What reading a line comes to. -/
def LineOut (w w' : World) (ev : Ending) (rb : Nat) (s : ByteArray) (k : Nat) : Prop := match linG s.data.toList [] k with
  | .error (e, p) => Wrg w' ev e p
  | .ok (ws, t) => ∃ v ms, ev = .returned v ∧ WsM w' w.heap.size v ms ∧ ms.map WdM.wd = ws ∧ Rdr w' rb s t ∧ k ≤ t ∧ (k < s.size → k < t) ∧ t ≤ s.size ∧ ms.length ≤ t ∧ ∀ m ∈ ms, m.xs.length ≤ s.size
end Go.Proofs.YtkikhmleffcajaaGreatDoor

namespace Go.Proofs.YtkikhmleffcajaaGreatDoor
open Go.RowKit

theorem moreT (rb : Nat) (s : ByteArray) (k : Nat) (b : Bool) (w : World) (h : Rdr w rb s k) (hb : decide (k < s.size) = b) :
    Calls Tryz.prog 33 #[.pointer (some ⟨rb, 0, none⟩)] w fun e w' => e = .returned (.bool b) ∧ Rdr w' rb s k ∧ Tb w.heap.size rb w w' := by
  refine (moreR rb s k b w h hb).mono ?_
  rintro e w' ⟨rfl, hr, hb'⟩
  exact ⟨rfl, hr, Tb.of_below hb'⟩
theorem takeT (rb : Nat) (s p : ByteArray) (k : Nat) (b : Bool) (w : World) (h : Rdr w rb s k) (hk : k ≤ s.size) (hs : s.size ≤ 1500) (hb : begG s k p = b) :
    Calls Tryz.prog 51 #[.pointer (some ⟨rb, 0, none⟩), .string p] w fun e w' => e = .returned (.bool b) ∧ Rdr w' rb s (if b = true then k + p.size else k) ∧ Tb w.heap.size rb w w' := by
  refine (take_any rb s p k w h hk (by omega)).mono ?_
  rintro e w' ⟨rfl, hr, ht⟩
  rw [hb] at hr
  exact ⟨by rw [hb], hr, ht⟩
theorem list_tb {B rb : Nat} {a b c : World} (h : Tb B rb a b) (k : Tb b.heap.size rb b c) (hB : B ≤ a.heap.size) : Tb B rb a c := h.trans (k.mono (Nat.le_trans hB h.size))
set_option maxHeartbeats 4000000 in
set_option maxRecDepth 10000 in
theorem line_any (rb : Nat) (s : ByteArray) (k : Nat) (m : Int) (w : World) (h : Rdr w rb s k) (hk : k ≤ s.size) (hs : s.size ≤ 1500) (hm : w.cell? ⟨1, 0, none⟩ = some (.int .i64 m)) (h1r : 1 < rb) :
    Calls Tryz.prog 34 #[.pointer (some ⟨rb, 0, none⟩)] w fun ev w' => LineOut w w' ev rb s k ∧ Tb w.heap.size rb w w' := by
  obtain ⟨i0, hi, hz0, hz1, hz2⟩ := info_parts info138w
  have hrl := h.lt
  have HM := hide hm
  have hml : (1 : Nat) < w.heap.size := World.block_lt_of_cell? _ _ hm
  have hS := skip_any rb s k w h hk (by omega)
  obtain ⟨k1, hk1⟩ : ∃ k1, k1 = skpG s.data.toList k := ⟨_, rfl⟩
  rw [← hk1] at hS
  have hk1l : k1 ≤ s.size := by rw [hk1, Lib.size_eq]; exact skp_le (by rw [← Lib.size_eq]; exact hk)
  have hk1g : k ≤ k1 := by rw [hk1]; exact skp_ge _ _
  have HL1 : Hid (linG s.data.toList [] k = linG s.data.toList [] k1) := hide (by rw [hk1]; exact lin_skp _ _ _)
  have HS1 : Hid (¬ s.data.toList[k1]? = some 32 ∧ goesG s.data.toList k1 = false) := hide (by rw [hk1]; exact skp_stop _ _)
  clear h hk1 hm
  cases hc : (s.data.toList[k1]? == some 35) with
  | false =>
    have hcn : ¬ s.data.toList[k1]? = some 35 := by simpa using hc
    have mB := fun W (h : Rdr W rb s k1) => begR rb s ⟨#[35]⟩ k1 false W h hk1l (by rw [beg_one]; exact hc)
    have HL2 := HL1
    have HS2 : Hid (Stp s.data.toList [] k1) := hide ⟨(unhide HS1).1, (unhide HS1).2, fun e => hcn e.1⟩
    clear hc hcn
    go_enter Tryz.func34, Tryz.ntmps34
    go_wp2_with (first
      | (go_at_call 48; refine hS.mono ?_; clear hS; rintro ev w1 ⟨rfl, hR1, hT1⟩; have HR1 := hide hR1; clear hR1)
      | (go_at_call 49; refine (mB _ (unhide HR1)).mono ?_; clear mB; rintro ev w2 ⟨rfl, hR2, hb2⟩; have HR2 := hide hR2; clear hR2))
    go_loopw [3] (fun v wr => ∃ (j : Nat) (ms : List WdM), WsM wr w.heap.size v ms ∧ Rdr wr rb s j ∧ linG s.data.toList [] k = linG s.data.toList (ms.map WdM.wd) j ∧ Stp s.data.toList (ms.map WdM.wd) j ∧ k ≤ j ∧ j ≤ s.size ∧ ms.length ≤ j ∧ Tb w.heap.size rb w wr ∧ (∀ m ∈ ms, m.xs.length ≤ s.size)) (fun _ wr => s.size - atOf wr rb)
    case atStart => exact ⟨k1, [], ⟨World.ownsRow_nil _ _ _ _, by simp⟩, unhide HR2, unhide HL2, unhide HS2, hk1g, hk1l, by simp, hT1.trans (Tb.of_below (hb2.mono hT1.size)), by simp⟩
    case round =>
      obtain ⟨j, ms, hM, hR, hG, hSt, hkj, hj, hml2, hT, hXL⟩ := hrel
      have HXL := hide hXL
      clear hXL
      have HA := hide hR.at
      have HR := hide hR
      have HG := hide hG
      have HMS := hide hM
      have HSt := hide hSt
      clear hR hG hM hSt
      cases hc : s.data.toList[j]? with
      | none =>
        have hjs : decide (j < s.size) = false := by
          have := List.getElem?_eq_none_iff.1 hc
          rw [← Lib.size_eq] at this; simp; omega
        have HQ := hide (lin_none (ws := ms.map WdM.wd) hc)
        have mM := fun W (h : Rdr W rb s j) => moreT rb s j false W h hjs
        have hje : j = s.size := by simp at hjs; omega
        clear hc hjs
        go_wp2_with (first
          | (go_at_call 33; refine (mM _ (unhide HR)).mono ?_; clear mM; rintro ev w1 ⟨rfl, hR1, hT1⟩))
        go_ret
        refine ⟨?_, list_tb hT hT1 (Nat.le_refl _)⟩
        unfold LineOut
        rw [unhide HG, unhide HQ]
        exact ⟨_, ms, rfl, (unhide HMS).tb hT1 hrl, rfl, hR1, hkj, by omega, hj, hml2, unhide HXL⟩
      | some c =>
        obtain ⟨hlt, hcv⟩ := get_some hc
        have mM := fun W (h : Rdr W rb s j) => moreT rb s j true W h (decide_eq_true hlt)
        by_cases h10 : c = 10
        · have HQ := hide (lin_nl (ws := ms.map WdM.wd) (by rw [hc, h10]))
          have mT := fun W (h : Rdr W rb s j) => takeT rb s ⟨#[10]⟩ j true W h hj hs (by rw [beg_is 10 hc]; exact decide_eq_true h10)
          clear hc hcv h10
          go_wp2_with (first
            | (go_at_call 33; refine (mM _ (unhide HR)).mono ?_; clear mM; rintro ev w1 ⟨rfl, hR1, hT1⟩; have HR1 := hide hR1; clear hR1)
            | (go_at_call 51; refine (mT _ (unhide HR1)).mono ?_; clear mT; rintro ev w2 ⟨rfl, hR2, hT2⟩))
          go_ret
          refine ⟨?_, list_tb (list_tb hT hT1 (Nat.le_refl _)) hT2 (Nat.le_refl _)⟩
          unfold LineOut
          rw [unhide HG, unhide HQ]
          exact ⟨_, ms, rfl, ((unhide HMS).tb hT1 hrl).tb hT2 hrl, rfl, hR2, by omega, by omega, by omega, by omega, unhide HXL⟩
        have HQ := hide (lin_word hc h10 (unhide HSt))
        have HE := hide (stp_end hc h10 (unhide HSt))
        have mT := fun W (h : Rdr W rb s j) => takeT rb s ⟨#[10]⟩ j false W h hj hs (by rw [beg_is 10 hc]; exact decide_eq_false h10)
        have mW := fun W (h : Rdr W rb s j) => word_any rb s j W h hj hs
        unfold WrdOut at mW
        cases hw : wrdG s.data.toList [] j with
        | error x =>
          obtain ⟨e, p⟩ := x
          rw [hw] at mW
          have HQ2 : Hid (linG s.data.toList (ms.map WdM.wd) j = .error (e, p)) := hide (by rw [unhide HQ, hw])
          unfold Wrg at mW
          clear hc hcv h10 HQ hw
          go_wp2_with (first
            | (go_at_call 33; refine (mM _ (unhide HR)).mono ?_; clear mM; rintro ev w1 ⟨rfl, hR1, hT1⟩; have HR1 := hide hR1; clear hR1)
            | (go_at_call 51; refine (mT _ (unhide HR1)).mono ?_; clear mT; rintro ev w2 ⟨rfl, hR2, hT2⟩; have HR2 := hide hR2; clear hR2)
            | (go_at_call 52; refine (mW _ (unhide HR2)).mono ?_; clear mW; rintro ev w3 ⟨⟨bb, rfl, hc⟩, hT3⟩))
          refine ⟨rfl, ?_, list_tb (list_tb (list_tb hT hT1 (Nat.le_refl _)) hT2 (Nat.le_refl _)) hT3 (Nat.le_refl _)⟩
          unfold LineOut
          rw [unhide HG, unhide HQ2]
          exact ⟨bb, rfl, hc⟩
        | ok x =>
          obtain ⟨a, t⟩ := x
          rw [hw] at mW
          have hjt := wrd_gt (unhide HE) hw
          have HQ2 : Hid (linG s.data.toList (ms.map WdM.wd) j = linG s.data.toList (ms.map WdM.wd ++ [⟨a, j⟩]) t) := hide (by rw [unhide HQ, hw]; simp only; rw [if_pos hjt])
          clear hc hcv h10 HQ hw
          go_upto_region 7 with (first
            | (go_at_call 33; refine (mM _ (unhide HR)).mono ?_; clear mM; rintro ev w1 ⟨rfl, hR1, hT1⟩; have HR1 := hide hR1; clear hR1)
            | (go_at_call 51; refine (mT _ (unhide HR1)).mono ?_; clear mT; rintro ev w2 ⟨rfl, hR2, hT2⟩; have HR2 := hide hR2; clear hR2)
            | (go_at_call 52; refine (mW _ (unhide HR2)).mono ?_; clear mW; rintro ev w3 ⟨⟨v3, rfl, hrow3, hR3, hjt2, hts, hal⟩, hT3⟩; obtain ⟨ao, n', cap, rfl⟩ := row_form hrow3; have HR3 := hide hR3; have HM3 := hide ((((unhide HMS).tb hT1 hrl).tb hT2 hrl).tb hT3 hrl); have HO3 : Hid (WdM.Ok ⟨j, .slice ao n' cap, a⟩ w3 w.heap.size) := hide (row_base hrow3 (Nat.le_trans hT.size (Nat.le_trans hT1.size hT2.size))); have HRow := hide ((unhide HM3).row.alloc (.cells #[.int .i64 (j : Int), .slice ao n' cap] 133)); have hB3 : Tb w.heap.size rb w w3 := list_tb (list_tb (list_tb hT hT1 (Nat.le_refl _)) hT2 (Nat.le_refl _)) hT3 (Nat.le_refl _); clear hR3 hrow3 hT1 hT2 hT3)
            | (at_builtin; refine wpList_append_own _ rfl _ _ 90 rfl w.heap.size 133 i0 _ 2 32 Tryz.underlying90 hi hz0 hz1 hz2 rfl (by decide) _ ms.length (wdC ms) rfl (unhide HRow) ⟨w3.heap.size, 0, none⟩ 1 1 [.int .i64 (j : Int), .slice ao n' cap] rfl rfl (World.news_of_block (cs := #[.int .i64 (j : Int), .slice ao n' cap]) (t := 133) (fr := (0, 0)) (heap_alloc_new _ _)) (by intro u hu; simp only [List.mem_cons, List.not_mem_nil, or_false] at hu; rcases hu with rfl | rfl <;> rfl) (by unfold maxLen; omega) (by omega) (by have := hB3.size; simp; omega) ?_; intro v6 w6 hown6 hgrow6 _; have HM6 := hide ((unhide HM3).snoc (m := ⟨j, .slice ao n' cap, a⟩) (unhide HO3) hown6 hgrow6); clear hown6))
          have hb6 : Below w.heap.size w3 w6 := ((Below.refl _ w3).alloc hB3.size _).grown hgrow6 (by have := hB3.size; simp; omega) (fun q hq => (World.ownsRow.lt (unhide HM3).row q hq).1)
          have hB6 : Tb w.heap.size rb w w6 := hB3.trans (Tb.of_below hb6)
          have hR6 : Rdr w6 rb s t := (unhide HR3).below hb6 hrl
          have hSk := skip_any rb s t w6 hR6 hts (by omega)
          obtain ⟨t2, ht2⟩ : ∃ t2, t2 = skpG s.data.toList t := ⟨_, rfl⟩
          rw [← ht2] at hSk
          have ht2l : t2 ≤ s.size := by rw [ht2, Lib.size_eq]; exact skp_le (by rw [← Lib.size_eq]; exact hts)
          have ht2g : t ≤ t2 := by rw [ht2]; exact skp_ge _ _
          have HXL2 : Hid (∀ m ∈ ms ++ [(⟨j, .slice ao n' cap, a⟩ : WdM)], m.xs.length ≤ s.size) := hide (fun m hm => by
            rcases List.mem_append.1 hm with h' | h'
            · exact unhide HXL m h'
            · rw [List.mem_singleton] at h'; rw [h']; show a.length ≤ s.size; omega)
          have HL3 : Hid (linG s.data.toList [] k = linG s.data.toList ((ms ++ [(⟨j, .slice ao n' cap, a⟩ : WdM)]).map WdM.wd) t2) := hide (by
            rw [unhide HG, unhide HQ2, lin_skp, ← ht2]; simp [WdM.wd])
          have HS3 : Hid (Stp s.data.toList ((ms ++ [(⟨j, .slice ao n' cap, a⟩ : WdM)]).map WdM.wd) t2) := hide (by
            rw [ht2]; exact ⟨(skp_stop _ _).1, (skp_stop _ _).2, by simp⟩)
          clear ht2 hR6 hgrow6 hb6
          go_wp2_with (first
            | (go_at_call 48; refine hSk.mono ?_; clear hSk; rintro ev w7 ⟨rfl, hR7, hT7⟩))
          go_roundw
          case rel =>
            first
              | exact ⟨t2, ms ++ [⟨j, .slice ao n' cap, a⟩], (unhide HM6).tb hT7 hrl, hR7, unhide HL3, unhide HS3, by omega, ht2l, by simp; omega, list_tb hB6 hT7 (Nat.le_refl _), unhide HXL2⟩
              | ((repeat apply Exists.intro); exact ⟨⟨t2, ms ++ [⟨j, .slice ao n' cap, a⟩], (unhide HM6).tb hT7 hrl, hR7, unhide HL3, unhide HS3, by omega, ht2l, by simp; omega, list_tb hB6 hT7 (Nat.le_refl _), unhide HXL2⟩, rfl⟩)
          case measure => rw [unhide HA, hR7.at]; omega
  | true =>
    have hcn : s.data.toList[k1]? = some 35 := by simpa using hc
    have mB := fun W (h : Rdr W rb s k1) => begR rb s ⟨#[35]⟩ k1 true W h hk1l (by rw [beg_one]; exact hc)
    have mC := fun W (h : Rdr W rb s k1) (h' : W.cell? ⟨1, 0, none⟩ = some (.int .i64 m)) => comment_any rb s k1 m W h hk1l hs h'
    obtain ⟨k2, hk2⟩ : ∃ k2, k2 = cmtG s.data.toList k1 := ⟨_, rfl⟩
    rw [← hk2] at mC
    have hk2g : k1 ≤ k2 := by rw [hk2]; exact cmt_le _ _
    have hk2l : k2 ≤ s.size := by rw [hk2, Lib.size_eq]; exact cmt_len (by rw [← Lib.size_eq]; exact hk1l)
    have HL2 : Hid (linG s.data.toList [] k = linG s.data.toList [] k2) := hide (by rw [unhide HL1, hk2]; exact lin_cmt hcn)
    have HS2 : Hid (Stp s.data.toList [] k2) := hide (by rw [hk2]; exact cmt_stp _ _)
    clear hc hcn hk2
    go_enter Tryz.func34, Tryz.ntmps34
    go_wp2_with (first
      | (go_at_call 48; refine hS.mono ?_; clear hS; rintro ev w1 ⟨rfl, hR1, hT1⟩; have HR1 := hide hR1; clear hR1)
      | (go_at_call 49; refine (mB _ (unhide HR1)).mono ?_; clear mB; rintro ev w2 ⟨rfl, hR2, hb2⟩; have HR2 := hide hR2; clear hR2)
      | (go_at_call 50; refine (mC _ (unhide HR2) (by rw [World.cell?_of_block ((hT1.trans (Tb.of_below (hb2.mono hT1.size))).block 1 hml (by omega))]; exact unhide HM)).mono ?_; clear mC; rintro ev w3 ⟨rfl, hR3, hT3⟩; have HR3 := hide hR3; clear hR3))
    go_loopw [3] (fun v wr => ∃ (j : Nat) (ms : List WdM), WsM wr w.heap.size v ms ∧ Rdr wr rb s j ∧ linG s.data.toList [] k = linG s.data.toList (ms.map WdM.wd) j ∧ Stp s.data.toList (ms.map WdM.wd) j ∧ k ≤ j ∧ j ≤ s.size ∧ ms.length ≤ j ∧ Tb w.heap.size rb w wr ∧ (∀ m ∈ ms, m.xs.length ≤ s.size)) (fun _ wr => s.size - atOf wr rb)
    case atStart => exact ⟨k2, [], ⟨World.ownsRow_nil _ _ _ _, by simp⟩, unhide HR3, unhide HL2, unhide HS2, (by omega), hk2l, by simp, (hT1.trans (Tb.of_below (hb2.mono hT1.size))).trans (hT3.mono (Nat.le_trans hT1.size hb2.size)), by simp⟩
    case round =>
      obtain ⟨j, ms, hM, hR, hG, hSt, hkj, hj, hml2, hT, hXL⟩ := hrel
      have HXL := hide hXL
      clear hXL
      have HA := hide hR.at
      have HR := hide hR
      have HG := hide hG
      have HMS := hide hM
      have HSt := hide hSt
      clear hR hG hM hSt
      cases hc : s.data.toList[j]? with
      | none =>
        have hjs : decide (j < s.size) = false := by
          have := List.getElem?_eq_none_iff.1 hc
          rw [← Lib.size_eq] at this; simp; omega
        have HQ := hide (lin_none (ws := ms.map WdM.wd) hc)
        have mM := fun W (h : Rdr W rb s j) => moreT rb s j false W h hjs
        have hje : j = s.size := by simp at hjs; omega
        clear hc hjs
        go_wp2_with (first
          | (go_at_call 33; refine (mM _ (unhide HR)).mono ?_; clear mM; rintro ev w1 ⟨rfl, hR1, hT1⟩))
        go_ret
        refine ⟨?_, list_tb hT hT1 (Nat.le_refl _)⟩
        unfold LineOut
        rw [unhide HG, unhide HQ]
        exact ⟨_, ms, rfl, (unhide HMS).tb hT1 hrl, rfl, hR1, hkj, by omega, hj, hml2, unhide HXL⟩
      | some c =>
        obtain ⟨hlt, hcv⟩ := get_some hc
        have mM := fun W (h : Rdr W rb s j) => moreT rb s j true W h (decide_eq_true hlt)
        by_cases h10 : c = 10
        · have HQ := hide (lin_nl (ws := ms.map WdM.wd) (by rw [hc, h10]))
          have mT := fun W (h : Rdr W rb s j) => takeT rb s ⟨#[10]⟩ j true W h hj hs (by rw [beg_is 10 hc]; exact decide_eq_true h10)
          clear hc hcv h10
          go_wp2_with (first
            | (go_at_call 33; refine (mM _ (unhide HR)).mono ?_; clear mM; rintro ev w1 ⟨rfl, hR1, hT1⟩; have HR1 := hide hR1; clear hR1)
            | (go_at_call 51; refine (mT _ (unhide HR1)).mono ?_; clear mT; rintro ev w2 ⟨rfl, hR2, hT2⟩))
          go_ret
          refine ⟨?_, list_tb (list_tb hT hT1 (Nat.le_refl _)) hT2 (Nat.le_refl _)⟩
          unfold LineOut
          rw [unhide HG, unhide HQ]
          exact ⟨_, ms, rfl, ((unhide HMS).tb hT1 hrl).tb hT2 hrl, rfl, hR2, by omega, by omega, by omega, by omega, unhide HXL⟩
        have HQ := hide (lin_word hc h10 (unhide HSt))
        have HE := hide (stp_end hc h10 (unhide HSt))
        have mT := fun W (h : Rdr W rb s j) => takeT rb s ⟨#[10]⟩ j false W h hj hs (by rw [beg_is 10 hc]; exact decide_eq_false h10)
        have mW := fun W (h : Rdr W rb s j) => word_any rb s j W h hj hs
        unfold WrdOut at mW
        cases hw : wrdG s.data.toList [] j with
        | error x =>
          obtain ⟨e, p⟩ := x
          rw [hw] at mW
          have HQ2 : Hid (linG s.data.toList (ms.map WdM.wd) j = .error (e, p)) := hide (by rw [unhide HQ, hw])
          unfold Wrg at mW
          clear hc hcv h10 HQ hw
          go_wp2_with (first
            | (go_at_call 33; refine (mM _ (unhide HR)).mono ?_; clear mM; rintro ev w1 ⟨rfl, hR1, hT1⟩; have HR1 := hide hR1; clear hR1)
            | (go_at_call 51; refine (mT _ (unhide HR1)).mono ?_; clear mT; rintro ev w2 ⟨rfl, hR2, hT2⟩; have HR2 := hide hR2; clear hR2)
            | (go_at_call 52; refine (mW _ (unhide HR2)).mono ?_; clear mW; rintro ev w3 ⟨⟨bb, rfl, hc⟩, hT3⟩))
          refine ⟨rfl, ?_, list_tb (list_tb (list_tb hT hT1 (Nat.le_refl _)) hT2 (Nat.le_refl _)) hT3 (Nat.le_refl _)⟩
          unfold LineOut
          rw [unhide HG, unhide HQ2]
          exact ⟨bb, rfl, hc⟩
        | ok x =>
          obtain ⟨a, t⟩ := x
          rw [hw] at mW
          have hjt := wrd_gt (unhide HE) hw
          have HQ2 : Hid (linG s.data.toList (ms.map WdM.wd) j = linG s.data.toList (ms.map WdM.wd ++ [⟨a, j⟩]) t) := hide (by rw [unhide HQ, hw]; simp only; rw [if_pos hjt])
          clear hc hcv h10 HQ hw
          go_upto_region 7 with (first
            | (go_at_call 33; refine (mM _ (unhide HR)).mono ?_; clear mM; rintro ev w1 ⟨rfl, hR1, hT1⟩; have HR1 := hide hR1; clear hR1)
            | (go_at_call 51; refine (mT _ (unhide HR1)).mono ?_; clear mT; rintro ev w2 ⟨rfl, hR2, hT2⟩; have HR2 := hide hR2; clear hR2)
            | (go_at_call 52; refine (mW _ (unhide HR2)).mono ?_; clear mW; rintro ev w3 ⟨⟨v3, rfl, hrow3, hR3, hjt2, hts, hal⟩, hT3⟩; obtain ⟨ao, n', cap, rfl⟩ := row_form hrow3; have HR3 := hide hR3; have HM3 := hide ((((unhide HMS).tb hT1 hrl).tb hT2 hrl).tb hT3 hrl); have HO3 : Hid (WdM.Ok ⟨j, .slice ao n' cap, a⟩ w3 w.heap.size) := hide (row_base hrow3 (Nat.le_trans hT.size (Nat.le_trans hT1.size hT2.size))); have HRow := hide ((unhide HM3).row.alloc (.cells #[.int .i64 (j : Int), .slice ao n' cap] 133)); have hB3 : Tb w.heap.size rb w w3 := list_tb (list_tb (list_tb hT hT1 (Nat.le_refl _)) hT2 (Nat.le_refl _)) hT3 (Nat.le_refl _); clear hR3 hrow3 hT1 hT2 hT3)
            | (at_builtin; refine wpList_append_own _ rfl _ _ 90 rfl w.heap.size 133 i0 _ 2 32 Tryz.underlying90 hi hz0 hz1 hz2 rfl (by decide) _ ms.length (wdC ms) rfl (unhide HRow) ⟨w3.heap.size, 0, none⟩ 1 1 [.int .i64 (j : Int), .slice ao n' cap] rfl rfl (World.news_of_block (cs := #[.int .i64 (j : Int), .slice ao n' cap]) (t := 133) (fr := (0, 0)) (heap_alloc_new _ _)) (by intro u hu; simp only [List.mem_cons, List.not_mem_nil, or_false] at hu; rcases hu with rfl | rfl <;> rfl) (by unfold maxLen; omega) (by omega) (by have := hB3.size; simp; omega) ?_; intro v6 w6 hown6 hgrow6 _; have HM6 := hide ((unhide HM3).snoc (m := ⟨j, .slice ao n' cap, a⟩) (unhide HO3) hown6 hgrow6); clear hown6))
          have hb6 : Below w.heap.size w3 w6 := ((Below.refl _ w3).alloc hB3.size _).grown hgrow6 (by have := hB3.size; simp; omega) (fun q hq => (World.ownsRow.lt (unhide HM3).row q hq).1)
          have hB6 : Tb w.heap.size rb w w6 := hB3.trans (Tb.of_below hb6)
          have hR6 : Rdr w6 rb s t := (unhide HR3).below hb6 hrl
          have hSk := skip_any rb s t w6 hR6 hts (by omega)
          obtain ⟨t2, ht2⟩ : ∃ t2, t2 = skpG s.data.toList t := ⟨_, rfl⟩
          rw [← ht2] at hSk
          have ht2l : t2 ≤ s.size := by rw [ht2, Lib.size_eq]; exact skp_le (by rw [← Lib.size_eq]; exact hts)
          have ht2g : t ≤ t2 := by rw [ht2]; exact skp_ge _ _
          have HXL2 : Hid (∀ m ∈ ms ++ [(⟨j, .slice ao n' cap, a⟩ : WdM)], m.xs.length ≤ s.size) := hide (fun m hm => by
            rcases List.mem_append.1 hm with h' | h'
            · exact unhide HXL m h'
            · rw [List.mem_singleton] at h'; rw [h']; show a.length ≤ s.size; omega)
          have HL3 : Hid (linG s.data.toList [] k = linG s.data.toList ((ms ++ [(⟨j, .slice ao n' cap, a⟩ : WdM)]).map WdM.wd) t2) := hide (by
            rw [unhide HG, unhide HQ2, lin_skp, ← ht2]; simp [WdM.wd])
          have HS3 : Hid (Stp s.data.toList ((ms ++ [(⟨j, .slice ao n' cap, a⟩ : WdM)]).map WdM.wd) t2) := hide (by
            rw [ht2]; exact ⟨(skp_stop _ _).1, (skp_stop _ _).2, by simp⟩)
          clear ht2 hR6 hgrow6 hb6
          go_wp2_with (first
            | (go_at_call 48; refine hSk.mono ?_; clear hSk; rintro ev w7 ⟨rfl, hR7, hT7⟩))
          go_roundw
          case rel =>
            first
              | exact ⟨t2, ms ++ [⟨j, .slice ao n' cap, a⟩], (unhide HM6).tb hT7 hrl, hR7, unhide HL3, unhide HS3, by omega, ht2l, by simp; omega, list_tb hB6 hT7 (Nat.le_refl _), unhide HXL2⟩
              | ((repeat apply Exists.intro); exact ⟨⟨t2, ms ++ [⟨j, .slice ao n' cap, a⟩], (unhide HM6).tb hT7 hrl, hR7, unhide HL3, unhide HS3, by omega, ht2l, by simp; omega, list_tb hB6 hT7 (Nat.le_refl _), unhide HXL2⟩, rfl⟩)
          case measure => rw [unhide HA, hR7.at]; omega
end Go.Proofs.YtkikhmleffcajaaGreatDoor

namespace Go.Proofs.YtkikhmleffcajaaGreatDoor
open Go.RowKit

/-- How many bytes may stand, from the first on. -/
def mayN (l : List UInt8) : Nat := (l.takeWhile mayC).length
/-- What making a reader comes to. -/
def NewOut (w w' : World) (ev : Ending) (s : ByteArray) : Prop :=
  if 1500 < s.size then Wrg w' ev 10 1500
  else if mayN s.data.toList < s.size then Wrg w' ev 5 (mayN s.data.toList)
  else ∃ rb, ev = .returned (.pointer (some ⟨rb, 0, none⟩)) ∧ w.heap.size ≤ rb ∧ Rdr w' rb s 0
theorem mayCN (c : UInt8) : decide (c.toNat = 10 ∨ (32 ≤ c.toNat ∧ c.toNat ≤ 126)) = mayC c := rfl
set_option maxHeartbeats 1000000 in
set_option maxRecDepth 10000 in
theorem new_any (s : ByteArray) (w : World) :
    Calls Tryz.prog 32 #[.string s] w fun ev w' => NewOut w w' ev s ∧ Below w.heap.size w w' := by
  by_cases hb : 1500 < s.size
  · have g1 : (1500 : Int) < (s.size : Int) := by omega
    have hF := fail_wrg 10 1500 w
    have HN : Hid (∀ w' ev, Wrg w' ev 10 1500 → NewOut w w' ev s) := hide (fun w' ev h => by unfold NewOut; rw [if_pos hb]; exact h)
    clear hb
    go_enter Tryz.func32, Tryz.ntmps32
    go_wp2_with (go_at_call 36; refine hF.mono ?_; clear hF; rintro ev w8 ⟨bb, rfl, hc, hb8⟩)
    exact ⟨rfl, unhide HN _ _ ⟨bb, rfl, hc⟩, hb8⟩
  · have g1 : ¬ (1500 : Int) < (s.size : Int) := by omega
    have HNB : Hid (¬ 1500 < s.size) := hide hb
    have hsl : s.size ≤ 1500 := by omega
    clear hb
    go_enter Tryz.func32, Tryz.ntmps32
    go_wp2_with fail
    go_loop [10] (fun i => ∃ k : Nat, k ≤ s.size ∧ i = .int .i64 k ∧ (s.data.toList.take k).all mayC = true) (fun i => s.size - (intOf i).toNat)
    case atStart => exact ⟨0, Nat.zero_le _, rfl, rfl⟩
    case round =>
      obtain ⟨k, hk, rfl, ha⟩ := hrel
      have A := hide ha
      clear ha
      by_cases hlt : k < s.size
      · have hM := may_any s[k].toNat w
        rw [mayCN] at hM
        cases h1 : mayC s[k] with
        | true =>
          have B := hide (all_more s k hlt (unhide A) h1)
          rw [h1] at hM
          clear h1
          go_wp2_with (go_at_call 47; refine hM.mono ?_; clear hM; rintro ev w1 ⟨rfl, hw⟩; obtain rfl := hw.symm)
          go_round
          case rel => exact ⟨k + 1, by omega, by go_num, unhide B⟩
          case measure => simp [intOf]; omega
        | false =>
          have B := hide (tw_stop s.data.toList k (by rw [← Lib.size_eq]; exact hlt) (unhide A) h1)
          have hF := fail_wrg 5 k w
          rw [h1] at hM
          clear h1
          go_wp2_with (first
            | (go_at_call 47; refine hM.mono ?_; clear hM; rintro ev w1 ⟨rfl, hw⟩; obtain rfl := hw.symm)
            | (go_at_call 36; refine hF.mono ?_; clear hF; rintro ev w8 ⟨bb, rfl, hc, hb8⟩))
          refine ⟨rfl, ?_, hb8⟩
          unfold NewOut
          rw [if_neg (unhide HNB), show mayN s.data.toList = k from unhide B, if_pos hlt]
          exact ⟨bb, rfl, hc⟩
      · have B : Hid (mayN s.data.toList = s.size) := hide (by
          unfold mayN
          rw [Lib.size_eq]; exact tw_all _ (by have := unhide A; rwa [List.take_of_length_le (by rw [← Lib.size_eq]; omega)] at this))
        go_wp2
        go_ret
        refine ⟨?_, (Below.refl _ _).alloc (Nat.le_refl _) _⟩
        unfold NewOut
        rw [if_neg (unhide HNB), unhide B, if_neg (Nat.lt_irrefl _)]
        exact ⟨_, rfl, Nat.le_refl _, heap_alloc_new _ _⟩
end Go.Proofs.YtkikhmleffcajaaGreatDoor
