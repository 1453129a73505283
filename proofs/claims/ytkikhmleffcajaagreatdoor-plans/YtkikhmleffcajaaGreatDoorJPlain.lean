import Derived.Lib.SplitLaws
import Derived.Lib.Join
import Derived.Below
import Derived.WalkSmall
import Derived.Deep.DeepCutAuto
import Derived.Deep.Draws
import Derived.Test.YtkikhmleffcajaaGreatDoorProg
import Derived.WalkKit
import Derived.WalkSpells
import Derived.WalkLawsBesides
import Derived.OwnWalk
import Derived.ArgAppend
import Derived.Laws.OwnMore
import Derived.Deep.AppendLies
import Derived.Deep.RegionHeld3
import Derived.Deep.RegionLaw
import Derived.Deep.QuietTactic
import Derived.BigQuiet
namespace Go.Proofs.YtkikhmleffcajaaGreatDoor
open Go Go.RowKit

def okN (n : Int) : Bool := decide ((97 ≤ n ∧ n ≤ 122) ∨ (65 ≤ n ∧ n ≤ 90) ∨ (48 ≤ n ∧ n ≤ 57) ∨ n = 46 ∨ n = 95 ∨ n = 45)
def okC (c : UInt8) : Bool := okN (c.toNat : Int)
def hdr (l : List UInt8) : Bool := l == [] || decide (60 < l.length) || l == [46] || l == [46, 46] || Lib.hasPrefix l [46, 119, 104, 46]
def elt (l : List UInt8) : Bool := !hdr l && l.all okC

theorem hide {p : Prop} (h : p) : Hid p := h
theorem unhide {p : Prop} (h : Hid p) : p := h.out
theorem ret_bool {a b : Bool} (h : a = b) : Ending.returned (.bool a) = .returned (.bool b) := by rw [h]

theorem elt_hdr {l : List UInt8} (h : hdr l = true) : elt l = false := by simp [elt, h]
theorem hdr_nil : hdr [] = true := by decide
theorem hdr_parts {l : List UInt8} (h : hdr l = false) : l ≠ [] ∧ l.length ≤ 60 ∧ l ≠ [46] ∧ l ≠ [46, 46] ∧ Lib.hasPrefix l [46, 119, 104, 46] = false := by
  simp only [hdr, Bool.or_eq_false_iff, beq_eq_false_iff_ne, decide_eq_false_iff_not, Nat.not_lt] at h
  exact ⟨h.1.1.1.1, h.1.1.1.2, h.1.1.2, h.1.2, h.2⟩
theorem take_snoc (s : ByteArray) (k : Nat) (h : k < s.size) : s.data.toList.take (k + 1) = s.data.toList.take k ++ [s[k]] := by
  rw [List.take_succ_eq_append_getElem (by simpa using h)]; rfl
theorem all_snoc (s : ByteArray) (k : Nat) (h : k < s.size) (h1 : (s.data.toList.take k).all okC = true) (h2 : okN (s[k].toNat : Int) = true) : (s.data.toList.take (k + 1)).all okC = true := by
  rw [take_snoc s k h, List.all_append, h1]; simp [okC, h2]
theorem elt_bad (s : ByteArray) (k : Nat) (h : k < s.size) (h2 : okN (s[k].toNat : Int) = false) : elt s.data.toList = false := by
  have : s.data.toList.all okC = false := by
    rw [← List.take_append_drop (k + 1) s.data.toList, List.all_append, take_snoc s k h, List.all_append]
    simp [okC, h2]
  simp [elt, this]
theorem elt_good (s : ByteArray) (k : Nat) (h : s.size ≤ k) (h1 : (s.data.toList.take k).all okC = true) (h0 : hdr s.data.toList = false) : elt s.data.toList = true := by
  rw [List.take_of_length_le (by simpa using h)] at h1
  simp [elt, h1, h0]
theorem okN_false {n : Int} (h : okN n = false) : ¬ (97 ≤ n ∧ n ≤ 122) ∧ ¬ (65 ≤ n ∧ n ≤ 90) ∧ ¬ (48 ≤ n ∧ n ≤ 57) ∧ n ≠ 46 ∧ n ≠ 95 ∧ n ≠ 45 := by
  simp only [okN, decide_eq_false_iff_not, not_or] at h; exact h
theorem okN_true {n : Int} (h : okN n = true) : (97 ≤ n ∧ n ≤ 122) ∨ (65 ≤ n ∧ n ≤ 90) ∨ (48 ≤ n ∧ n ≤ 57) ∨ n = 46 ∨ n = 95 ∨ n = 45 := of_decide_eq_true h
theorem okN_out {n : Int} (h : okN n = false) (h0 : 0 ≤ n) : (0 ≤ n ∧ n ≤ 44) ∨ n = 47 ∨ (58 ≤ n ∧ n ≤ 64) ∨ (91 ≤ n ∧ n ≤ 94) ∨ n = 96 ∨ 123 ≤ n := by
  have := okN_false h; omega
theorem hdr_false (s : ByteArray) (h : (((s.toList.isEmpty = false ∧ (s.size : Int) ≤ 60) ∧ (s.toList == [46]) = false) ∧ (s.toList == [46, 46]) = false) ∧ Lib.hasPrefix s.data.toList [46, 119, 104, 46] = false) : hdr s.data.toList = false := by
  rw [Lib.toList_data] at h
  obtain ⟨⟨⟨⟨h1, h2⟩, h3⟩, h4⟩, h5⟩ := h
  have := Lib.size_eq s
  have h1' : (s.data.toList == []) = false := by simpa using h1
  have h2' : decide (60 < s.data.toList.length) = false := by simp only [decide_eq_false_iff_not]; omega
  simp only [hdr, h1', h2', h3, h4, h5, Bool.or_self]

/-- A text parted at its slashes. -/
def spl : List UInt8 → List (List UInt8)
  | [] => [[]]
  | c :: r => if c = 47 then [] :: spl r else ((c :: (spl r).headD []) :: (spl r).tail)

theorem spl_ne (l : List UInt8) : spl l ≠ [] := by
  cases l with
  | nil => simp [spl]
  | cons c r => unfold spl; split <;> simp
theorem spl_len (l : List UInt8) : (spl l).length ≤ l.length + 1 := by
  induction l with
  | nil => simp [spl]
  | cons c r ih => unfold spl; split <;> simp <;> omega
theorem spl_sep (l : List UInt8) : spl (l ++ [47]) = spl l ++ [[]] := by
  induction l with
  | nil => simp [spl]
  | cons c r ih =>
    rw [List.cons_append, spl, ih]
    have hne := spl_ne r
    split
    · rename_i h; rw [spl, if_pos h]; rfl
    · rename_i h; rw [spl, if_neg h]
      cases h2 : spl r with
      | nil => exact absurd h2 hne
      | cons a b => simp
theorem spl_other (l : List UInt8) (c : UInt8) (hc : c ≠ 47) : ∀ (a : List (List UInt8)) (b : List UInt8), spl l = a ++ [b] → spl (l ++ [c]) = a ++ [b ++ [c]] := by
  induction l with
  | nil =>
    intro a b h
    cases a with
    | nil => simp [spl] at h; subst h; simp [spl, hc]
    | cons x y => simp [spl] at h
  | cons d r ih =>
    intro a b h
    rw [List.cons_append, spl]
    rw [spl] at h
    have hne := spl_ne r
    split at h
    · rename_i hd
      rw [if_pos hd]
      cases a with
      | nil => simp at h; exact absurd h.2 hne
      | cons x y =>
        simp only [List.cons_append, List.cons.injEq] at h
        obtain ⟨rfl, h⟩ := h
        rw [ih y b h]; rfl
    · rename_i hd
      rw [if_neg hd]
      cases h2 : spl r with
      | nil => exact absurd h2 hne
      | cons x y =>
        rw [h2] at h
        simp only [List.headD_cons, List.tail_cons] at h
        cases a with
        | nil =>
          simp only [List.nil_append, List.cons.injEq] at h
          obtain ⟨rfl, rfl⟩ := h
          rw [ih [] x (by simpa using h2)]; simp
        | cons x' y' =>
          simp only [List.cons_append, List.cons.injEq] at h
          obtain ⟨rfl, rfl⟩ := h
          rw [ih (x :: y') b (by simpa using h2)]; simp
theorem spl_join (l : List UInt8) : Lib.join (spl l) [47] = l := by
  induction l with
  | nil => simp [spl, Lib.join_one]
  | cons c r ih =>
    have hne := spl_ne r
    rw [spl]
    cases h2 : spl r with
    | nil => exact absurd h2 hne
    | cons x y =>
      rw [h2, Lib.join_cons] at ih
      split
      · rename_i h; subst h
        rw [Lib.join_cons, Lib.joinTail, List.map_cons, List.flatten_cons, ← ih]
        simp [Lib.joinTail]
      · rw [Lib.join_cons]; simp [ih]
end Go.Proofs.YtkikhmleffcajaaGreatDoor

namespace Go.Proofs.YtkikhmleffcajaaGreatDoor
open Go.RowKit

theorem wrap_i64 (n : Nat) (h : n < 9223372036854775808) : IntKind.i64.wrap (n : Int) = n := by
  simp [IntKind.wrap, IntKind.bits, IntKind.signed]
  omega
theorem setCell_drewN (W : World) (n : Nat) (a : Addr) (v : Value) : (W.drewN n).setCell a v = (W.setCell a v).drewN n := rfl
theorem alloc_drewN (W : World) (n : Nat) (o : Obj) : (W.drewN n).alloc o = (W.alloc o).drewN n := rfl
theorem chain0 {w w1 : World} (h : Below w.drew.heap.size w.drew w1) : Below w.heap.size w w1 := ⟨h.os, h.tape, h.output, h.size, h.block⟩
theorem chainA {w w1 : World} {o : Obj} (h : Below (w.alloc o).drew.heap.size (w.alloc o).drew w1) : Below w.heap.size w w1 :=
  ((Below.refl _ _).alloc (Nat.le_refl _) o).trans (Below.mono (B' := w.heap.size) (chain0 h) (by simp))
theorem grown_of_below {w w' : World} (h : Below w.heap.size w w') : w.grownBy w' none := ⟨h.os, h.tape, h.output, h.size, fun k hk _ => h.block k hk⟩
end Go.Proofs.YtkikhmleffcajaaGreatDoor

namespace Go.Proofs.YtkikhmleffcajaaGreatDoor
open Go Go.RowKit

/-- A byte of a word, or a variable with its place. -/
abbrev Atm := Sum UInt8 (List UInt8 × Nat)
/-- An answer, or an error's number and its place. -/
abbrev Res (α : Type) := Except (Nat × Nat) α

def isCapC (c : UInt8) : Bool := decide (65 ≤ c.toNat ∧ c.toNat ≤ 90)
def isDigC (c : UInt8) : Bool := decide (48 ≤ c.toNat ∧ c.toNat ≤ 57)
def isNmC (c : UInt8) : Bool := isCapC c || isDigC c || c == 95
/-- How many bytes at the beginning of a text are a variable's name. -/
def nameN (l : List UInt8) : Nat := match l with
  | [] => 0
  | c :: _ => if isCapC c = true then (l.takeWhile isNmC).length else 0
/-- Is a text a variable's name? -/
def isVarN (l : List UInt8) : Bool := l != [] && decide (l.length ≤ 10) && nameN l == l.length
/-- What stands at a dollar: the name, and where it ends. -/
def varG (l : List UInt8) (k : Nat) : Option (List UInt8 × Nat) :=
  let b := l[k + 1]? == some 123
  let f := if b then k + 2 else k + 1
  let n := nameN (l.drop f)
  if n = 0 ∨ 10 < n ∨ (b = true ∧ l[f + n]? ≠ some 125) then none
  else some ((l.drop f).take n, if b then f + n + 1 else f + n)
/-- Does a line go on here? -/
def goesG (l : List UInt8) (k : Nat) : Bool := l[k]? == some 92 && l[k + 1]? == some 10
/-- Does a line stop here? -/
def stopG (l : List UInt8) (k : Nat) : Bool := l[k]? == none || l[k]? == some 10
def escQ (c : UInt8) : Bool := c == 34 || c == 92 || c == 36

/-- From behind a quote on: the atoms, and where it ends. -/
def quoG (l : List UInt8) (i : Nat) (acc : List Atm) (k : Nat) : Res (List Atm × Nat) :=
  match hk : l[k]? with
  | none => .error (5, i)
  | some c =>
    have hlt : k < l.length := (List.getElem?_eq_some_iff.1 hk).1
    if c = 10 then .error (5, i)
    else if c = 34 then .ok (acc, k + 1)
    else if c = 36 then
      match varG l k with
      | none => .error (5, k)
      | some (n, t) => if h : k < t then quoG l i (acc ++ [.inr (n, k)]) t else .error (5, k)
    else if c = 92 then
      match l[k + 1]? with
      | none => .error (5, k)
      | some d => if escQ d = true then quoG l i (acc ++ [.inl d]) (k + 2) else .error (5, k)
    else quoG l i (acc ++ [.inl c]) (k + 1)

/-- A word: its atoms, and where it ends. -/
def wrdG (l : List UInt8) (acc : List Atm) (k : Nat) : Res (List Atm × Nat) :=
  match hk : l[k]? with
  | none => .ok (acc, k)
  | some c =>
    have hlt : k < l.length := (List.getElem?_eq_some_iff.1 hk).1
    if c = 10 ∨ c = 32 ∨ goesG l k = true then .ok (acc, k)
    else if c = 34 then
      match quoG l k acc (k + 1) with
      | .error e => .error e
      | .ok (a, t) => if _ : k < t then wrdG l a t else .error (5, k)
    else if c = 36 then
      match varG l k with
      | none => .error (5, k)
      | some (n, t) => if h : k < t then wrdG l (acc ++ [.inr (n, k)]) t else .error (5, k)
    else if c = 92 then
      match l[k + 1]? with
      | none => .error (5, k)
      | some d => wrdG l (acc ++ [.inl d]) (k + 2)
    else wrdG l (acc ++ [.inl c]) (k + 1)

/-- A word, and where it stands. -/
structure Wd where
  atoms : List Atm
  place : Nat

/-- Where a comment ends. -/
def cmtG (l : List UInt8) (k : Nat) : Nat := k + ((l.drop k).takeWhile (fun c => c != 10)).length
theorem cmt_le (l : List UInt8) (k : Nat) : k ≤ cmtG l k := by unfold cmtG; omega
theorem cmt_len {l : List UInt8} {k : Nat} (h : k ≤ l.length) : cmtG l k ≤ l.length := by
  unfold cmtG
  have := (List.takeWhile_prefix (p := fun c => c != 10) (l := l.drop k)).length_le
  rw [List.length_drop] at this; omega
theorem cmt_lt {l : List UInt8} {k : Nat} (h : l[k]? = some 35) : k < cmtG l k := by
  unfold cmtG
  have hlt := (List.getElem?_eq_some_iff.1 h).1
  rw [List.drop_eq_getElem_cons hlt]
  have : l[k] = 35 := (List.getElem?_eq_some_iff.1 h).2
  rw [this]
  simp

/-- The words of a line, and where the next one begins. -/
def linG (l : List UInt8) (ws : List Wd) (k : Nat) : Res (List Wd × Nat) :=
  match hk : l[k]? with
  | none => .ok (ws, k)
  | some c =>
    have hlt : k < l.length := (List.getElem?_eq_some_iff.1 hk).1
    if c = 10 then .ok (ws, k + 1)
    else if goesG l k = true then linG l ws (k + 2)
    else if c = 32 then linG l ws (k + 1)
    else if h35 : c = 35 ∧ ws = [] then
      have hc : k < cmtG l k := cmt_lt (by rw [hk, h35.1])
      linG l ws (cmtG l k)
    else match wrdG l [] k with
      | .error e => .error e
      | .ok (a, t) => if h : k < t then linG l (ws ++ [⟨a, k⟩]) t else .error (5, k)
end Go.Proofs.YtkikhmleffcajaaGreatDoor

namespace Go.Proofs.YtkikhmleffcajaaGreatDoor
open Go.RowKit

/-- A reader lies in memory. -/
def Rdr (w : World) (rb : Nat) (s : ByteArray) (k : Nat) : Prop := w.heap[rb]? = some (.cells #[.string s, .int .i64 (k : Int)] 130 (0, 0))
theorem Rdr.c0 {w : World} {rb : Nat} {s : ByteArray} {k : Nat} (h : Rdr w rb s k) : w.cell? ⟨rb, 0, none⟩ = some (.string s) := cell_of_row _ _ 0 _ _ _ h
theorem Rdr.c1 {w : World} {rb : Nat} {s : ByteArray} {k : Nat} (h : Rdr w rb s k) : w.cell? ⟨rb, 1, none⟩ = some (.int .i64 (k : Int)) := cell_of_row _ _ 1 _ _ _ h
theorem Rdr.fz {w : World} {rb : Nat} {s : ByteArray} {k : Nat} (h : Rdr w rb s k) (i : Nat) : w.frozen? ⟨rb, i, none⟩ = false := by
  unfold Rdr at h; simp [World.frozen?, h]
theorem Rdr.lt {w : World} {rb : Nat} {s : ByteArray} {k : Nat} (h : Rdr w rb s k) : rb < w.heap.size := (Array.getElem?_eq_some_iff.1 h).1
theorem Rdr.to {w : World} {rb : Nat} {s : ByteArray} {k : Nat} (h : Rdr w rb s k) (k' : Nat) : Rdr (w.setCell ⟨rb, 1, none⟩ (.int .i64 (k' : Int))) rb s k' :=
  heap_setCell_same _ _ 1 _ _ _ h
/-- Below a number all is as it was, but for one block. -/
structure Tb (B rb : Nat) (w w' : World) : Prop where
  os : w'.os = w.os
  tape : w'.tape = w.tape
  output : w'.output = w.output
  size : w.heap.size ≤ w'.heap.size
  block : ∀ k, k < B → k ≠ rb → w'.heap[k]? = w.heap[k]?
theorem Tb.refl (B rb : Nat) (w : World) : Tb B rb w w := ⟨rfl, rfl, rfl, Nat.le_refl _, fun _ _ _ => rfl⟩
theorem Tb.trans {B rb : Nat} {a b c : World} (h : Tb B rb a b) (k : Tb B rb b c) : Tb B rb a c :=
  ⟨k.os.trans h.os, k.tape.trans h.tape, k.output.trans h.output, Nat.le_trans h.size k.size, fun i hi hr => (k.block i hi hr).trans (h.block i hi hr)⟩
theorem Tb.mono {B B' rb : Nat} {w w' : World} (h : Tb B rb w w') (hB : B' ≤ B) : Tb B' rb w w' := ⟨h.os, h.tape, h.output, h.size, fun k hk => h.block k (Nat.lt_of_lt_of_le hk hB)⟩
theorem Tb.of_below {B rb : Nat} {w w' : World} (h : Below B w w') : Tb B rb w w' := ⟨h.os, h.tape, h.output, h.size, fun k hk _ => h.block k hk⟩
theorem Tb.below {B rb : Nat} {w w' : World} (h : Tb B rb w w') (hr : B ≤ rb) : Below B w w' := ⟨h.os, h.tape, h.output, h.size, fun k hk => h.block k hk (by omega)⟩
theorem Tb.to (B rb : Nat) (w : World) (i : Nat) (v : Value) : Tb B rb w (w.setCell ⟨rb, i, none⟩ v) :=
  ⟨rfl, rfl, rfl, by simp, fun k _ hr => Below.heap_setCell _ _ _ _ hr⟩
theorem Rdr.below {w w' : World} {rb B : Nat} {s : ByteArray} {k : Nat} (h : Rdr w rb s k) (hb : Below B w w') (hl : rb < B) : Rdr w' rb s k := (hb.block rb hl).trans h

theorem below_drewN {B : Nat} {a w : World} (h : Below B a w) (n : Nat) : Below B a (w.drewN n) := ⟨h.os, h.tape, h.output, h.size, h.block⟩
theorem rest_any (rb : Nat) (s : ByteArray) (k : Nat) (w : World) (h : Rdr w rb s k) (hk : k ≤ s.size) :
    Calls Tryz.prog 62 #[.pointer (some ⟨rb, 0, none⟩)] w fun e w' => e = .returned (.string (s.extract k s.size)) ∧ Below w.heap.size w w' := by
  have h0 := h.c0
  have h1 := h.c1
  have i0 : (0 : Int) ≤ (k : Int) := by omega
  have i1 : (k : Int) ≤ (s.size : Int) := by omega
  clear h
  go_enter Tryz.func62, Tryz.ntmps62
  go_upto_region 1 with fail
  go_quiet (fail)
  go_wp2
  go_ret
  exact ⟨rfl, below_drewN (Below.refl _ _) _⟩
theorem more_any (rb : Nat) (s : ByteArray) (k : Nat) (w : World) (h : Rdr w rb s k) :
    Calls Tryz.prog 33 #[.pointer (some ⟨rb, 0, none⟩)] w fun e w' => e = .returned (.bool (decide (k < s.size))) ∧ Below w.heap.size w w' := by
  have h0 := h.c0
  have h1 := h.c1
  clear h
  go_enter Tryz.func33, Tryz.ntmps33
  go_upto_region 1 with fail
  go_quiet (fail)
  go_wp2
  go_ret
  exact ⟨ret_bool (by simp), below_drewN (Below.refl _ _) _⟩
theorem pre_any (s p : ByteArray) (w : World) :
    Calls Tryz.prog 61 #[.string s, .string p] w fun e w' => e = .returned (.bool (Lib.hasPrefix s.data.toList p.data.toList)) ∧ w' = w := by
  have hI : Calls Tryz.prog 72 #[.string s, .string p] w fun e w' => e = .returned (.bool (Lib.hasPrefix s.data.toList p.data.toList)) ∧ w' = w := by
    have H := hide (Lib.hasPrefix_raw s p)
    go_enter Tryz.func72, Tryz.ntmps72
    go_wp2
    · go_ret
      exact ⟨ret_bool (by rw [← unhide H]; simp [*]), rfl⟩
    · go_ret
      exact ⟨ret_bool (by rw [← unhide H]; simp [*]), rfl⟩
  first
    | (go_enter Tryz.func61, Tryz.ntmps61
       go_wp2_with (go_at_call 72; refine hI.mono ?_; clear hI; rintro ev w1 ⟨rfl, hw⟩; obtain rfl := hw.symm)
       go_ret
       exact ⟨rfl, rfl⟩)
theorem ext_list (s : ByteArray) (k : Nat) : (s.extract k s.size).data.toList = s.data.toList.drop k := by
  rw [ByteArray.data_extract, Array.toList_extract, List.extract_eq_take_drop]
  exact List.take_of_length_le (by rw [List.length_drop, ← Lib.size_eq]; omega)
/-- Does what stands from a place on begin so? -/
def begG (s : ByteArray) (k : Nat) (p : ByteArray) : Bool := Lib.hasPrefix (s.data.toList.drop k) p.data.toList
theorem begins_any (rb : Nat) (s p : ByteArray) (k : Nat) (w : World) (h : Rdr w rb s k) (hk : k ≤ s.size) :
    Calls Tryz.prog 49 #[.pointer (some ⟨rb, 0, none⟩), .string p] w fun e w' => e = .returned (.bool (begG s k p)) ∧ Below w.heap.size w w' := by
  have hR := rest_any rb s k w h hk
  have hP := fun w1 => pre_any (s.extract k s.size) p w1
  rw [ext_list] at hP
  clear h
  go_enter Tryz.func49, Tryz.ntmps49
  go_wp2_with (first
    | (go_at_call 62; refine hR.mono ?_; clear hR; rintro ev w1 ⟨rfl, hb1⟩)
    | (go_at_call 61; refine (hP _).mono ?_; clear hP; rintro ev w2 ⟨rfl, hw⟩; obtain rfl := hw.symm))
  go_ret
  exact ⟨rfl, hb1⟩
theorem take_no (rb : Nat) (s p : ByteArray) (k : Nat) (w : World) (h : Rdr w rb s k) (hk : k ≤ s.size) (hp : begG s k p = false) :
    Calls Tryz.prog 51 #[.pointer (some ⟨rb, 0, none⟩), .string p] w fun e w' => e = .returned (.bool false) ∧ Below w.heap.size w w' := by
  have hB := begins_any rb s p k w h hk
  rw [hp] at hB
  clear h hp
  go_enter Tryz.func51, Tryz.ntmps51
  go_wp2_with (go_at_call 49; refine hB.mono ?_; clear hB; rintro ev w1 ⟨rfl, hb1⟩)
  go_ret
  exact ⟨rfl, hb1⟩
theorem beg_le {s p : ByteArray} {k : Nat} (hk : k ≤ s.size) (hp : begG s k p = true) : k + p.size ≤ s.size := by
  rw [begG, Lib.hasPrefix, List.isPrefixOf_iff_prefix] at hp
  have := hp.length_le
  rw [List.length_drop, ← Lib.size_eq, ← Lib.size_eq] at this; omega
theorem take_yes (rb : Nat) (s p : ByteArray) (k : Nat) (w : World) (h : Rdr w rb s k) (hk : k ≤ s.size) (hs : s.size ≤ 1073741824) (hp : begG s k p = true) :
    Calls Tryz.prog 51 #[.pointer (some ⟨rb, 0, none⟩), .string p] w fun e w' => e = .returned (.bool true) ∧ Rdr w' rb s (k + p.size) ∧ Tb w.heap.size rb w w' := by
  have hB := begins_any rb s p k w h hk
  have hle := beg_le hk hp
  rw [hp] at hB
  have H := hide h
  clear h hp
  go_enter Tryz.func51, Tryz.ntmps51
  go_upto_region 3 with (go_at_call 49; refine hB.mono ?_; clear hB; rintro ev w1 ⟨rfl, hb1⟩)
  have h' := (unhide H).below hb1 (unhide H).lt
  have HR := hide h'
  have h1 := h'.c1
  have z1 := h'.fz 1
  clear h'
  go_wp2_with fail
  go_ret
  have e : IntKind.i64.wrap ((k : Int) + (p.size : Int)) = ((k + p.size : Nat) : Int) := by
    rw [← Int.natCast_add]; exact wrap_i64 _ (by omega)
  exact ⟨rfl, (unhide HR).to _, (Tb.of_below hb1).trans (Tb.to _ _ _ _ _)⟩
end Go.Proofs.YtkikhmleffcajaaGreatDoor

namespace Go.Proofs.YtkikhmleffcajaaGreatDoor
open Go.RowKit

theorem pre_cons (c : UInt8) (l p : List UInt8) : Lib.hasPrefix l (c :: p) = (match l with | [] => false | d :: r => c == d && Lib.hasPrefix r p) := by
  cases l with
  | nil => rfl
  | cons d r => simp [Lib.hasPrefix, List.isPrefixOf]
theorem pre_nil (l : List UInt8) : Lib.hasPrefix l [] = true := by simp [Lib.hasPrefix, List.isPrefixOf]
theorem beq_swap (c d : UInt8) : (c == d) = (some d == some c) := by
  rw [Bool.eq_iff_iff, beq_iff_eq, beq_iff_eq]
  exact ⟨fun h => by rw [h], fun h => by injection h with h; exact h.symm⟩
theorem beg_one (s : ByteArray) (k : Nat) (c : UInt8) : begG s k ⟨#[c]⟩ = (s.data.toList[k]? == some c) := by
  unfold begG
  show Lib.hasPrefix _ [c] = _
  rw [pre_cons]
  cases h : s.data.toList[k]? with
  | none =>
    rw [List.drop_eq_nil_of_le (by simpa using h)]; rfl
  | some d =>
    obtain ⟨h1, h2⟩ := List.getElem?_eq_some_iff.1 h
    rw [List.drop_eq_getElem_cons h1, h2]
    simp only [pre_nil, Bool.and_true]
    exact beq_swap c d
theorem beg_two (s : ByteArray) (k : Nat) : begG s k ⟨#[92, 10]⟩ = goesG s.data.toList k := by
  unfold begG goesG
  show Lib.hasPrefix _ [92, 10] = _
  rw [pre_cons]
  cases h : s.data.toList[k]? with
  | none =>
    rw [List.drop_eq_nil_of_le (by simpa using h)]; rfl
  | some d =>
    obtain ⟨h1, h2⟩ := List.getElem?_eq_some_iff.1 h
    rw [List.drop_eq_getElem_cons h1, h2]
    simp only
    have := beg_one s (k + 1) 10
    unfold begG at this
    rw [show (⟨#[10]⟩ : ByteArray).data.toList = [10] from rfl] at this
    rw [this]
    rw [beq_swap 92 d]
/-- Where blanks end. -/
def skpG (l : List UInt8) (k : Nat) : Nat :=
  if hk : l[k]? = some 32 then
    have hlt : k < l.length := (List.getElem?_eq_some_iff.1 hk).1
    skpG l (k + 1)
  else if hg : goesG l k = true then
    have hlt : k < l.length := by
      unfold goesG at hg; simp only [Bool.and_eq_true, beq_iff_eq] at hg
      exact (List.getElem?_eq_some_iff.1 hg.1).1
    skpG l (k + 2)
  else k
theorem goes_lt {l : List UInt8} {k : Nat} (hg : goesG l k = true) : k + 1 < l.length := by
  unfold goesG at hg; simp only [Bool.and_eq_true, beq_iff_eq] at hg
  exact (List.getElem?_eq_some_iff.1 hg.2).1
theorem skp_blank {l : List UInt8} {k : Nat} (h : l[k]? = some 32) : skpG l k = skpG l (k + 1) := by rw [skpG, dif_pos h]
theorem skp_goes {l : List UInt8} {k : Nat} (h : goesG l k = true) : skpG l k = skpG l (k + 2) := by
  rw [skpG]
  have hn : ¬ l[k]? = some 32 := by
    unfold goesG at h; simp only [Bool.and_eq_true, beq_iff_eq] at h
    rw [h.1]; simp
  rw [dif_neg hn, dif_pos h]
theorem skp_end {l : List UInt8} {k : Nat} (h : ¬ l[k]? = some 32) (hg : goesG l k = false) : skpG l k = k := by
  rw [skpG, dif_neg h, dif_neg (by simp [hg])]
theorem skp_ge (l : List UInt8) (k : Nat) : k ≤ skpG l k := by
  fun_induction skpG l k <;> omega
theorem skp_le {l : List UInt8} {k : Nat} (h : k ≤ l.length) : skpG l k ≤ l.length := by
  fun_induction skpG l k with
  | case1 k hk hlt ih => exact ih (by omega)
  | case2 k hk hg hlt ih => exact ih (by have := goes_lt hg; omega)
  | case3 => exact h
theorem skp_stop (l : List UInt8) (k : Nat) : ¬ l[skpG l k]? = some 32 ∧ goesG l (skpG l k) = false := by
  fun_induction skpG l k with
  | case1 k hk hlt ih => exact ih
  | case2 k hk hg hlt ih => exact ih
  | case3 k hk hg => exact ⟨hk, by simpa using hg⟩
/-- A line begins behind its blanks. -/
theorem lin_skp (l : List UInt8) (ws : List Wd) (k : Nat) : linG l ws k = linG l ws (skpG l k) := by
  fun_induction skpG l k with
  | case1 k hk hlt ih =>
    rw [← ih]
    conv => lhs; rw [linG]
    split
    · rename_i h; rw [hk] at h; cases h
    · rename_i c h
      rw [hk] at h; cases h
      have : goesG l k = false := by unfold goesG; rw [hk]; rfl
      simp [this]
  | case2 k hk hg hlt ih =>
    rw [← ih]
    have h0 : l[k]? = some 92 := by
      unfold goesG at hg; simp only [Bool.and_eq_true, beq_iff_eq] at hg; exact hg.1
    conv => lhs; rw [linG]
    split
    · rename_i h; rw [h0] at h; cases h
    · rename_i c h
      rw [h0] at h; cases h
      simp [hg]
  | case3 => rfl

/-- Where a reader stands. -/
def atOf (w : World) (rb : Nat) : Nat := match w.cell? ⟨rb, 1, none⟩ with
  | some (.int _ q) => q.toNat
  | _ => 0
theorem Rdr.at {w : World} {rb : Nat} {s : ByteArray} {k : Nat} (h : Rdr w rb s k) : atOf w rb = k := by
  unfold atOf; rw [h.c1]; simp
theorem take_any (rb : Nat) (s p : ByteArray) (k : Nat) (w : World) (h : Rdr w rb s k) (hk : k ≤ s.size) (hs : s.size ≤ 1073741824) :
    Calls Tryz.prog 51 #[.pointer (some ⟨rb, 0, none⟩), .string p] w fun e w' => e = .returned (.bool (begG s k p)) ∧ Rdr w' rb s (if begG s k p = true then k + p.size else k) ∧ Tb w.heap.size rb w w' := by
  cases hp : begG s k p with
  | true => exact take_yes rb s p k w h hk hs hp
  | false =>
    refine (take_no rb s p k w h hk hp).mono ?_
    rintro e w' ⟨rfl, hb⟩
    exact ⟨rfl, by simpa using h.below hb h.lt, Tb.of_below hb⟩

set_option maxHeartbeats 400000 in
theorem skip_any (rb : Nat) (s : ByteArray) (k : Nat) (w : World) (h : Rdr w rb s k) (hk : k ≤ s.size) (hs : s.size ≤ 1073741824) :
    Calls Tryz.prog 48 #[.pointer (some ⟨rb, 0, none⟩)] w fun e w' => e = .returned (.tuple #[]) ∧ Rdr w' rb s (skpG s.data.toList k) ∧ Tb w.heap.size rb w w' := by
  have H := hide h
  clear h
  go_enter Tryz.func48, Tryz.ntmps48
  go_wp2_with fail
  go_loopw [2] (fun _ wr => ∃ j : Nat, j ≤ s.size ∧ Rdr wr rb s j ∧ skpG s.data.toList k = skpG s.data.toList j ∧ Tb w.heap.size rb w wr) (fun _ wr => s.size - atOf wr rb)
  case atStart => exact ⟨k, hk, unhide H, rfl, Tb.refl _ _ _⟩
  case round =>
    obtain ⟨j, hj, hR, hG, hT⟩ := hrel
    have HR := hide hR
    have HG := hide hG
    have hA := hR.at
    have hT1 := take_any rb s ⟨#[32]⟩ j wr hR hj hs
    rw [beg_one] at hT1
    clear hR hG
    by_cases h1 : s.data.toList[j]? = some 32
    · have hlt : j < s.size := by rw [Lib.size_eq]; exact (List.getElem?_eq_some_iff.1 h1).1
      have HE := hide (skp_blank h1)
      rw [h1] at hT1
      simp only [BEq.rfl, if_true] at hT1
      clear h1
      go_wp2_with (go_at_call 51; refine hT1.mono ?_; clear hT1; rintro ev w1 ⟨rfl, hR1, hT2⟩)
      go_roundw
      case rel => exact ⟨j + 1, by omega, hR1, (unhide HG).trans (unhide HE), hT.trans (hT2.mono hT.size)⟩
      case measure => rw [hA, hR1.at]; show s.size - (j + 1) < _; omega
    · have hT1' : Calls Tryz.prog 51 #[.pointer (some ⟨rb, 0, none⟩), .string ⟨#[32]⟩] wr fun e w' => e = .returned (.bool false) ∧ Rdr w' rb s j ∧ Tb wr.heap.size rb wr w' := by
        have e : (s.data.toList[j]? == some 32) = false := by simpa using h1
        rw [e] at hT1; simpa using hT1
      clear hT1
      cases hg : goesG s.data.toList j with
      | true =>
        have HE := hide (skp_goes hg)
        have hlt : j + 1 < s.size := by rw [Lib.size_eq]; exact goes_lt hg
        have hb2 : begG s j ⟨#[92, 10]⟩ = true := by rw [beg_two, hg]
        clear h1 hg
        go_wp2_with (first
          | (go_at_call 51; refine hT1'.mono ?_; clear hT1'; rintro ev w1 ⟨rfl, hR1, hT2⟩; have hT3 := take_yes rb s ⟨#[92, 10]⟩ j w1 hR1 hj hs hb2)
          | (go_at_call 51; refine hT3.mono ?_; clear hT3; rintro ev w2 ⟨rfl, hR2, hT4⟩))
        go_roundw
        case rel => exact ⟨j + 2, by omega, hR2, (unhide HG).trans (unhide HE), (hT.trans (hT2.mono hT.size)).trans (hT4.mono (Nat.le_trans hT.size hT2.size))⟩
        case measure => rw [hA, hR2.at]; show s.size - (j + 2) < _; omega
      | false =>
        have HE := hide (skp_end h1 hg)
        have hb2 : begG s j ⟨#[92, 10]⟩ = false := by rw [beg_two, hg]
        clear h1 hg
        go_wp2_with (first
          | (go_at_call 51; refine hT1'.mono ?_; clear hT1'; rintro ev w1 ⟨rfl, hR1, hT2⟩; have hT3 := take_no rb s ⟨#[92, 10]⟩ j w1 hR1 hj hb2)
          | (go_at_call 51; refine hT3.mono ?_; clear hT3; rintro ev w2 ⟨rfl, hb4⟩))
        go_end0
        exact ⟨rfl, by rw [unhide HG, unhide HE]; exact hR1.below hb4 hR1.lt, (hT.trans (hT2.mono hT.size)).trans (Tb.of_below (hb4.mono (Nat.le_trans hT.size hT2.size)))⟩

theorem fail_any (e p : Int) (w : World) :
    Calls Tryz.prog 36 #[.int .i64 e, .int .i64 p] w fun ev w' => ev = .panicked [{ v := .iface 123 (.pointer (some ⟨w.heap.size, 0, none⟩)), recovered := false }] ∧ w' = w.alloc (.cells #[.int .i64 e, .int .i64 p] 126) := by
  go_enter Tryz.func36, Tryz.ntmps36
  go_wp2
  exact ⟨rfl, rfl, rfl⟩
end Go.Proofs.YtkikhmleffcajaaGreatDoor

namespace Go.Proofs.YtkikhmleffcajaaGreatDoor
open Go.RowKit

theorem begR (rb : Nat) (s p : ByteArray) (k : Nat) (b : Bool) (w : World) (h : Rdr w rb s k) (hk : k ≤ s.size) (hb : begG s k p = b) :
    Calls Tryz.prog 49 #[.pointer (some ⟨rb, 0, none⟩), .string p] w fun e w' => e = .returned (.bool b) ∧ Rdr w' rb s k ∧ Below w.heap.size w w' := by
  refine (begins_any rb s p k w h hk).mono ?_
  rintro e w' ⟨rfl, hb'⟩
  exact ⟨by rw [hb], h.below hb' h.lt, hb'⟩
theorem moreR (rb : Nat) (s : ByteArray) (k : Nat) (b : Bool) (w : World) (h : Rdr w rb s k) (hb : decide (k < s.size) = b) :
    Calls Tryz.prog 33 #[.pointer (some ⟨rb, 0, none⟩)] w fun e w' => e = .returned (.bool b) ∧ Rdr w' rb s k ∧ Below w.heap.size w w' := by
  refine (more_any rb s k w h).mono ?_
  rintro e w' ⟨rfl, hb'⟩
  exact ⟨by rw [hb], h.below hb' h.lt, hb'⟩
/-- Does a word end here? -/
def endG (l : List UInt8) (k : Nat) : Bool := !decide (k < l.length) || l[k]? == some 32 || l[k]? == some 10 || goesG l k
theorem ends_any (rb : Nat) (s : ByteArray) (k : Nat) (w : World) (h : Rdr w rb s k) (hk : k ≤ s.size) :
    Calls Tryz.prog 64 #[.pointer (some ⟨rb, 0, none⟩)] w fun e w' => e = .returned (.bool (endG s.data.toList k)) ∧ Below w.heap.size w w' := by
  obtain ⟨b0, e0⟩ : ∃ b, decide (k < s.size) = b := ⟨_, rfl⟩
  obtain ⟨b1, e1⟩ : ∃ b, begG s k ⟨#[32]⟩ = b := ⟨_, rfl⟩
  obtain ⟨b2, e2⟩ : ∃ b, begG s k ⟨#[10]⟩ = b := ⟨_, rfl⟩
  obtain ⟨b3, e3⟩ : ∃ b, begG s k ⟨#[92, 10]⟩ = b := ⟨_, rfl⟩
  have HE : Hid (endG s.data.toList k = (!b0 || b1 || b2 || b3)) := hide (by
    unfold endG; rw [← e0, ← e1, ← e2, ← e3, beg_one, beg_one, beg_two, Lib.size_eq])
  have m0 := moreR rb s k b0 w h e0
  have m1 := fun w' (h' : Rdr w' rb s k) => begR rb s ⟨#[32]⟩ k b1 w' h' hk e1
  have m2 := fun w' (h' : Rdr w' rb s k) => begR rb s ⟨#[10]⟩ k b2 w' h' hk e2
  have m3 := fun w' (h' : Rdr w' rb s k) => begR rb s ⟨#[92, 10]⟩ k b3 w' h' hk e3
  clear e0 e1 e2 e3 h
  have done : ∀ b, (!b0 || b1 || b2 || b3) = b → endG s.data.toList k = b := fun b e => (unhide HE).trans e
  have HD := hide done
  clear done HE
  cases b0 <;> cases b1 <;> cases b2 <;> cases b3
  all_goals
    have D := hide (unhide HD _ rfl)
    clear HD
    go_enter Tryz.func64, Tryz.ntmps64
    go_wp2_with (first
      | (go_at_call 33; refine m0.mono ?_; clear m0; rintro ev w1 ⟨rfl, hR1, hb1⟩)
      | (go_at_call 49; refine (m1 _ hR1).mono ?_; clear m1; rintro ev w2 ⟨rfl, hR2, hb2⟩)
      | (go_at_call 49; refine (m2 _ hR2).mono ?_; clear m2; rintro ev w3 ⟨rfl, hR3, hb3⟩)
      | (go_at_call 49; refine (m3 _ hR3).mono ?_; clear m3; rintro ev w4 ⟨rfl, hR4, hb4⟩))
    go_ret
    first
      | exact ⟨ret_bool (unhide D).symm, hb1⟩
      | exact ⟨ret_bool (unhide D).symm, hb1.trans (hb2.mono hb1.size)⟩
      | exact ⟨ret_bool (unhide D).symm, (hb1.trans (hb2.mono hb1.size)).trans (hb3.mono (Nat.le_trans hb1.size hb2.size))⟩
      | exact ⟨ret_bool (unhide D).symm, ((hb1.trans (hb2.mono hb1.size)).trans (hb3.mono (Nat.le_trans hb1.size hb2.size))).trans (hb4.mono (Nat.le_trans hb1.size (Nat.le_trans hb2.size hb3.size)))⟩
theorem cap_any (n : Nat) (w : World) : Calls Tryz.prog 86 #[.int .u8 (n : Int)] w fun e w' => e = .returned (.bool (decide (65 ≤ n ∧ n ≤ 90))) ∧ w' = w := by
  go_enter Tryz.func86, Tryz.ntmps86
  go_wp2
  all_goals
    go_ret
    exact ⟨ret_bool (by rw [Bool.eq_iff_iff]; simp <;> omega), rfl⟩
theorem dig_any (n : Nat) (w : World) : Calls Tryz.prog 87 #[.int .u8 (n : Int)] w fun e w' => e = .returned (.bool (decide (48 ≤ n ∧ n ≤ 57))) ∧ w' = w := by
  go_enter Tryz.func87, Tryz.ntmps87
  go_wp2
  all_goals
    go_ret
    exact ⟨ret_bool (by rw [Bool.eq_iff_iff]; simp <;> omega), rfl⟩
/-- May a byte stand in a build file? -/
def mayC (c : UInt8) : Bool := decide (c.toNat = 10 ∨ (32 ≤ c.toNat ∧ c.toNat ≤ 126))
theorem may_any (n : Nat) (w : World) : Calls Tryz.prog 47 #[.int .u8 (n : Int)] w fun e w' => e = .returned (.bool (decide (n = 10 ∨ (32 ≤ n ∧ n ≤ 126)))) ∧ w' = w := by
  go_enter Tryz.func47, Tryz.ntmps47
  go_wp2
  all_goals
    go_ret
    exact ⟨ret_bool (by rw [Bool.eq_iff_iff]; simp at * <;> omega), rfl⟩
end Go.Proofs.YtkikhmleffcajaaGreatDoor

namespace Go.Proofs.YtkikhmleffcajaaGreatDoor
open Go.RowKit

theorem tw_stop {p : UInt8 → Bool} (l : List UInt8) (k : Nat) (h : k < l.length) (ha : (l.take k).all p = true) (hc : p l[k] = false) : (l.takeWhile p).length = k := by
  have e : l = l.take k ++ l[k] :: l.drop (k + 1) := by
    rw [← List.drop_eq_getElem_cons h, List.take_append_drop]
  conv => lhs; rw [e]
  rw [List.takeWhile_append_of_pos (fun a ha' => List.all_eq_true.1 ha a ha'), List.takeWhile_cons_of_neg (by simp [hc])]
  simp; omega
theorem tw_all {p : UInt8 → Bool} (l : List UInt8) (ha : l.all p = true) : (l.takeWhile p).length = l.length := by
  have := List.takeWhile_append_of_pos (l₁ := l) (l₂ := []) (p := p) (fun a ha' => List.all_eq_true.1 ha a ha')
  rw [List.append_nil] at this
  rw [this]; simp
theorem all_more {p : UInt8 → Bool} (s : ByteArray) (k : Nat) (h : k < s.size) (h1 : (s.data.toList.take k).all p = true) (h2 : p s[k] = true) : (s.data.toList.take (k + 1)).all p = true := by
  rw [take_snoc s k h, List.all_append, h1]; simp [h2]
theorem nameN_cap {l : List UInt8} (h0 : 0 < l.length) (h : isCapC l[0] = true) : nameN l = (l.takeWhile isNmC).length := by
  cases l with
  | nil => simp at h0
  | cons c r => simp only [List.getElem_cons_zero] at h; simp [nameN, h]
theorem nameN_not {l : List UInt8} (h0 : 0 < l.length) (h : isCapC l[0] = false) : nameN l = 0 := by
  cases l with
  | nil => simp at h0
  | cons c r => simp only [List.getElem_cons_zero] at h; simp [nameN, h]
theorem isNm95 {c : UInt8} (h : c = 95) : isNmC c = true := by subst h; decide
theorem get_data (s : ByteArray) (k : Nat) (h : k < s.size) : s.data.toList[k]'(by rw [← Lib.size_eq]; exact h) = s[k] := rfl
theorem capN (c : UInt8) : decide (65 ≤ c.toNat ∧ c.toNat ≤ 90) = isCapC c := rfl
theorem digN (c : UInt8) : decide (48 ≤ c.toNat ∧ c.toNat ≤ 57) = isDigC c := rfl
set_option maxHeartbeats 1000000 in
theorem name_any (s : ByteArray) (w : World) (hs : s.size ≤ 1073741824) :
    Calls Tryz.prog 75 #[.string s] w fun e w' => e = .returned (.int .i64 (nameN s.data.toList : Nat)) ∧ w' = w := by
  by_cases he : s.data.toList = []
  · have g1 : s.toList.isEmpty = true := by rw [Lib.toList_data, he]; rfl
    have HN : Hid (nameN s.data.toList = 0) := hide (by rw [he]; rfl)
    clear he
    go_enter Tryz.func75, Tryz.ntmps75
    go_wp2
    go_ret
    exact ⟨by rw [unhide HN]; rfl, rfl⟩
  · have g1 : s.toList.isEmpty = false := by rw [Lib.toList_data]; simpa using he
    have h0 : 0 < s.size := by rw [Lib.size_eq]; exact List.length_pos_iff.2 he
    have c0 := cap_any s[0].toNat w
    rw [capN] at c0
    cases hc : isCapC s[0] with
    | false =>
      have HN : Hid (nameN s.data.toList = 0) := hide (nameN_not (by rw [← Lib.size_eq]; exact h0) hc)
      rw [hc] at c0
      clear he hc
      go_enter Tryz.func75, Tryz.ntmps75
      go_wp2_with (go_at_call 86; refine c0.mono ?_; clear c0; rintro ev w1 ⟨rfl, hw⟩; obtain rfl := hw.symm)
      go_ret
      exact ⟨by rw [unhide HN]; rfl, rfl⟩
    | true =>
      have HN : Hid (nameN s.data.toList = (s.data.toList.takeWhile isNmC).length) := hide (nameN_cap (by rw [← Lib.size_eq]; exact h0) hc)
      rw [hc] at c0
      clear he hc
      go_enter Tryz.func75, Tryz.ntmps75
      go_wp2_with (go_at_call 86; refine c0.mono ?_; clear c0; rintro ev w1 ⟨rfl, hw⟩; obtain rfl := hw.symm)
      go_loop [14] (fun i => ∃ k : Nat, k ≤ s.size ∧ i = .int .i64 k ∧ (s.data.toList.take k).all isNmC = true) (fun i => s.size - (intOf i).toNat)
      case atStart => exact ⟨0, Nat.zero_le _, rfl, rfl⟩
      case round =>
        obtain ⟨k, hk, rfl, ha⟩ := hrel
        have A := hide ha
        clear ha
        by_cases hlt : k < s.size
        · have c1 := cap_any s[k].toNat w
          have c2 := dig_any s[k].toNat w
          rw [capN] at c1
          rw [digN] at c2
          cases h1 : isCapC s[k] with
          | true =>
            have B := hide (all_more s k hlt (unhide A) (show isNmC s[k] = true by simp [isNmC, h1]))
            rw [h1] at c1
            clear c2 h1
            go_wp2_with (go_at_call 86; refine c1.mono ?_; clear c1; rintro ev w1 ⟨rfl, hw⟩; obtain rfl := hw.symm)
            go_round
            case rel => exact ⟨k + 1, by omega, by go_num, unhide B⟩
            case measure => simp [intOf]; omega
          | false =>
            rw [h1] at c1
            cases h2 : isDigC s[k] with
            | true =>
              have B := hide (all_more s k hlt (unhide A) (show isNmC s[k] = true by simp [isNmC, h2]))
              rw [h2] at c2
              clear h1 h2
              go_wp2_with (first
                | (go_at_call 86; refine c1.mono ?_; clear c1; rintro ev w1 ⟨rfl, hw⟩; obtain rfl := hw.symm)
                | (go_at_call 87; refine c2.mono ?_; clear c2; rintro ev w1 ⟨rfl, hw⟩; obtain rfl := hw.symm))
              go_round
              case rel => exact ⟨k + 1, by omega, by go_num, unhide B⟩
              case measure => simp [intOf]; omega
            | false =>
              rw [h2] at c2
              by_cases h3 : s[k] = 95
              · have B := hide (all_more s k hlt (unhide A) (isNm95 h3))
                have e3 : s[k].toNat = (95 : UInt8).toNat := congrArg UInt8.toNat h3
                have g3 : ((s[k].toNat : Int) != 95) = false := by rw [e3]; decide
                clear e3
                clear h1 h2 h3
                go_wp2_with (first
                  | (go_at_call 86; refine c1.mono ?_; clear c1; rintro ev w1 ⟨rfl, hw⟩; obtain rfl := hw.symm)
                  | (go_at_call 87; refine c2.mono ?_; clear c2; rintro ev w1 ⟨rfl, hw⟩; obtain rfl := hw.symm))
                go_round
                case rel => exact ⟨k + 1, by omega, by go_num, unhide B⟩
                case measure => simp [intOf]; omega
              · have B := hide (tw_stop s.data.toList k (by rw [← Lib.size_eq]; exact hlt) (unhide A) (show isNmC s[k] = false by simp [isNmC, h1, h2, h3]))
                have g3 : ¬ (s[k].toNat : Int) = 95 := fun e => h3 (UInt8.toNat_inj.1 (by show s[k].toNat = 95; omega))
                have g4 : ((s[k].toNat : Int) != 95) = true := by simpa using g3
                clear h1 h2 h3 g3
                go_wp2_with (first
                  | (go_at_call 86; refine c1.mono ?_; clear c1; rintro ev w1 ⟨rfl, hw⟩; obtain rfl := hw.symm)
                  | (go_at_call 87; refine c2.mono ?_; clear c2; rintro ev w1 ⟨rfl, hw⟩; obtain rfl := hw.symm))
                go_ret
                exact ⟨by rw [unhide HN, unhide B]; rfl, rfl⟩
        · have B : Hid ((s.data.toList.takeWhile isNmC).length = s.size) := hide (by
            rw [Lib.size_eq]; exact tw_all _ (by have := unhide A; rwa [List.take_of_length_le (by rw [← Lib.size_eq]; omega)] at this))
          go_wp2
          go_ret
          exact ⟨by rw [unhide HN, unhide B]; rfl, rfl⟩
set_option maxHeartbeats 1000000 in
theorem isVar_any (s : ByteArray) (w : World) (hs : s.size ≤ 1073741824) :
    Calls Tryz.prog 76 #[.string s] w fun e w' => e = .returned (.bool (isVarN s.data.toList)) ∧ w' = w := by
  have hN := name_any s w hs
  by_cases he : s.data.toList = []
  · have g1 : s.toList.isEmpty = true := by rw [Lib.toList_data, he]; rfl
    have HV : Hid (isVarN s.data.toList = false) := hide (by rw [he]; rfl)
    clear he
    go_enter Tryz.func76, Tryz.ntmps76
    go_wp2_with fail
    go_ret
    exact ⟨ret_bool (unhide HV).symm, rfl⟩
  · have g1 : s.toList.isEmpty = false := by rw [Lib.toList_data]; simpa using he
    have e1 : (s.data.toList != []) = true := by simpa using he
    by_cases h2 : s.size ≤ 10
    · have HV : Hid (isVarN s.data.toList = decide ((nameN s.data.toList : Int) = (s.size : Int))) := hide (by
        rw [isVarN, e1, ← Lib.size_eq, decide_eq_true h2]
        rw [Bool.eq_iff_iff]; simp; omega)
      have g2 : (s.size : Int) ≤ 10 := by omega
      clear he e1 h2
      go_enter Tryz.func76, Tryz.ntmps76
      go_wp2_with (go_at_call 75; refine hN.mono ?_; clear hN; rintro ev w1 ⟨rfl, hw⟩; obtain rfl := hw.symm)
      go_ret
      exact ⟨ret_bool (by rw [unhide HV]; try (rw [Bool.eq_iff_iff]; simp)), rfl⟩
    · have HV : Hid (isVarN s.data.toList = false) := hide (by rw [isVarN, ← Lib.size_eq, decide_eq_false h2]; simp)
      have g2 : ¬ (s.size : Int) ≤ 10 := by omega
      clear he e1 h2
      go_enter Tryz.func76, Tryz.ntmps76
      go_wp2_with fail
      go_ret
      exact ⟨ret_bool (unhide HV).symm, rfl⟩
end Go.Proofs.YtkikhmleffcajaaGreatDoor
