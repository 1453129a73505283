import Derived.Lib.SplitLaws
import Derived.Lib.Join
import Derived.Below
import Derived.WalkSmall
import Derived.Deep.DeepCutAuto
import Derived.Deep.Draws
import Derived.Test.YtabahmnagffnbaaGreatDoorProg
import Derived.Maps.Own
import Derived.Maps.OwnOps
import Derived.Maps.OwnSet
import Derived.Maps.RangeWalk
import Derived.MapViews
import Derived.StringKeys
namespace Go.Proofs.YtabahmnagffnbaaGreatDoor
open Go Go.RowKit

def okN (n : Int) : Bool := decide ((97 ≤ n ∧ n ≤ 122) ∨ (65 ≤ n ∧ n ≤ 90) ∨ (48 ≤ n ∧ n ≤ 57) ∨ n = 46 ∨ n = 95 ∨ n = 45)
def okC (c : UInt8) : Bool := okN (c.toNat : Int)
def hdr (l : List UInt8) : Bool := l == [] || decide (60 < l.length) || l == [46] || l == [46, 46] || Lib.hasPrefix l [46, 119, 104, 46]
def elt (l : List UInt8) : Bool := !hdr l && l.all okC

theorem hide {p : Prop} (h : p) : Hid p := h
theorem unhide {p : Prop} (h : Hid p) : p := h.out
theorem ret_bool {a b : Bool} (h : a = b) : Ending.returned (.bool a) = .returned (.bool b) := by rw [h]

theorem elt_hdr {l : List UInt8} (h : hdr l = true) : elt l = false := by simp [elt, h]
theorem hdr_nil : hdr [] = true := by decide
theorem hdr_parts {l : List UInt8} (h : hdr l = false) : l ≠ [] ∧ l.length ≤ 60 ∧ l ≠ [46] ∧ l ≠ [46, 46] ∧ Lib.hasPrefix l [46, 119, 104, 46] = false := by
  simp only [hdr, Bool.or_eq_false_iff, beq_eq_false_iff_ne, decide_eq_false_iff_not, Nat.not_lt] at h
  exact ⟨h.1.1.1.1, h.1.1.1.2, h.1.1.2, h.1.2, h.2⟩
theorem take_snoc (s : ByteArray) (k : Nat) (h : k < s.size) : s.data.toList.take (k + 1) = s.data.toList.take k ++ [s[k]] := by
  rw [List.take_succ_eq_append_getElem (by simpa using h)]; rfl
theorem all_snoc (s : ByteArray) (k : Nat) (h : k < s.size) (h1 : (s.data.toList.take k).all okC = true) (h2 : okN (s[k].toNat : Int) = true) : (s.data.toList.take (k + 1)).all okC = true := by
  rw [take_snoc s k h, List.all_append, h1]; simp [okC, h2]
theorem elt_bad (s : ByteArray) (k : Nat) (h : k < s.size) (h2 : okN (s[k].toNat : Int) = false) : elt s.data.toList = false := by
  have : s.data.toList.all okC = false := by
    rw [← List.take_append_drop (k + 1) s.data.toList, List.all_append, take_snoc s k h, List.all_append]
    simp [okC, h2]
  simp [elt, this]
theorem elt_good (s : ByteArray) (k : Nat) (h : s.size ≤ k) (h1 : (s.data.toList.take k).all okC = true) (h0 : hdr s.data.toList = false) : elt s.data.toList = true := by
  rw [List.take_of_length_le (by simpa using h)] at h1
  simp [elt, h1, h0]
theorem okN_false {n : Int} (h : okN n = false) : ¬ (97 ≤ n ∧ n ≤ 122) ∧ ¬ (65 ≤ n ∧ n ≤ 90) ∧ ¬ (48 ≤ n ∧ n ≤ 57) ∧ n ≠ 46 ∧ n ≠ 95 ∧ n ≠ 45 := by
  simp only [okN, decide_eq_false_iff_not, not_or] at h; exact h
theorem okN_true {n : Int} (h : okN n = true) : (97 ≤ n ∧ n ≤ 122) ∨ (65 ≤ n ∧ n ≤ 90) ∨ (48 ≤ n ∧ n ≤ 57) ∨ n = 46 ∨ n = 95 ∨ n = 45 := of_decide_eq_true h
theorem okN_out {n : Int} (h : okN n = false) (h0 : 0 ≤ n) : (0 ≤ n ∧ n ≤ 44) ∨ n = 47 ∨ (58 ≤ n ∧ n ≤ 64) ∨ (91 ≤ n ∧ n ≤ 94) ∨ n = 96 ∨ 123 ≤ n := by
  have := okN_false h; omega
theorem hdr_false (s : ByteArray) (h : (((s.toList.isEmpty = false ∧ (s.size : Int) ≤ 60) ∧ (s.toList == [46]) = false) ∧ (s.toList == [46, 46]) = false) ∧ Lib.hasPrefix s.data.toList [46, 119, 104, 46] = false) : hdr s.data.toList = false := by
  rw [Lib.toList_data] at h
  obtain ⟨⟨⟨⟨h1, h2⟩, h3⟩, h4⟩, h5⟩ := h
  have := Lib.size_eq s
  have h1' : (s.data.toList == []) = false := by simpa using h1
  have h2' : decide (60 < s.data.toList.length) = false := by simp only [decide_eq_false_iff_not]; omega
  simp only [hdr, h1', h2', h3, h4, h5, Bool.or_self]

/-- A text parted at its slashes. -/
def spl : List UInt8 → List (List UInt8)
  | [] => [[]]
  | c :: r => if c = 47 then [] :: spl r else ((c :: (spl r).headD []) :: (spl r).tail)

theorem spl_ne (l : List UInt8) : spl l ≠ [] := by
  cases l with
  | nil => simp [spl]
  | cons c r => unfold spl; split <;> simp
theorem spl_len (l : List UInt8) : (spl l).length ≤ l.length + 1 := by
  induction l with
  | nil => simp [spl]
  | cons c r ih => unfold spl; split <;> simp <;> omega
theorem spl_sep (l : List UInt8) : spl (l ++ [47]) = spl l ++ [[]] := by
  induction l with
  | nil => simp [spl]
  | cons c r ih =>
    rw [List.cons_append, spl, ih]
    have hne := spl_ne r
    split
    · rename_i h; rw [spl, if_pos h]; rfl
    · rename_i h; rw [spl, if_neg h]
      cases h2 : spl r with
      | nil => exact absurd h2 hne
      | cons a b => simp
theorem spl_other (l : List UInt8) (c : UInt8) (hc : c ≠ 47) : ∀ (a : List (List UInt8)) (b : List UInt8), spl l = a ++ [b] → spl (l ++ [c]) = a ++ [b ++ [c]] := by
  induction l with
  | nil =>
    intro a b h
    cases a with
    | nil => simp [spl] at h; subst h; simp [spl, hc]
    | cons x y => simp [spl] at h
  | cons d r ih =>
    intro a b h
    rw [List.cons_append, spl]
    rw [spl] at h
    have hne := spl_ne r
    split at h
    · rename_i hd
      rw [if_pos hd]
      cases a with
      | nil => simp at h; exact absurd h.2 hne
      | cons x y =>
        simp only [List.cons_append, List.cons.injEq] at h
        obtain ⟨rfl, h⟩ := h
        rw [ih y b h]; rfl
    · rename_i hd
      rw [if_neg hd]
      cases h2 : spl r with
      | nil => exact absurd h2 hne
      | cons x y =>
        rw [h2] at h
        simp only [List.headD_cons, List.tail_cons] at h
        cases a with
        | nil =>
          simp only [List.nil_append, List.cons.injEq] at h
          obtain ⟨rfl, rfl⟩ := h
          rw [ih [] x (by simpa using h2)]; simp
        | cons x' y' =>
          simp only [List.cons_append, List.cons.injEq] at h
          obtain ⟨rfl, rfl⟩ := h
          rw [ih (x :: y') b (by simpa using h2)]; simp
theorem spl_join (l : List UInt8) : Lib.join (spl l) [47] = l := by
  induction l with
  | nil => simp [spl, Lib.join_one]
  | cons c r ih =>
    have hne := spl_ne r
    rw [spl]
    cases h2 : spl r with
    | nil => exact absurd h2 hne
    | cons x y =>
      rw [h2, Lib.join_cons] at ih
      split
      · rename_i h; subst h
        rw [Lib.join_cons, Lib.joinTail, List.map_cons, List.flatten_cons, ← ih]
        simp [Lib.joinTail]
      · rw [Lib.join_cons]; simp [ih]
end Go.Proofs.YtabahmnagffnbaaGreatDoor

namespace Go.Proofs.YtabahmnagffnbaaGreatDoor
open Go.RowKit

theorem wrap_i64 (n : Nat) (h : n < 9223372036854775808) : IntKind.i64.wrap (n : Int) = n := by
  simp [IntKind.wrap, IntKind.bits, IntKind.signed]
  omega
theorem setCell_drewN (W : World) (n : Nat) (a : Addr) (v : Value) : (W.drewN n).setCell a v = (W.setCell a v).drewN n := rfl
theorem alloc_drewN (W : World) (n : Nat) (o : Obj) : (W.drewN n).alloc o = (W.alloc o).drewN n := rfl
theorem chain0 {w w1 : World} (h : Below w.drew.heap.size w.drew w1) : Below w.heap.size w w1 := ⟨h.os, h.tape, h.output, h.size, h.block⟩
theorem chainA {w w1 : World} {o : Obj} (h : Below (w.alloc o).drew.heap.size (w.alloc o).drew w1) : Below w.heap.size w w1 :=
  ((Below.refl _ _).alloc (Nat.le_refl _) o).trans (Below.mono (B' := w.heap.size) (chain0 h) (by simp))
theorem grown_of_below {w w' : World} (h : Below w.heap.size w w') : w.grownBy w' none := ⟨h.os, h.tape, h.output, h.size, fun k hk _ => h.block k hk⟩
end Go.Proofs.YtabahmnagffnbaaGreatDoor

namespace Go.Proofs.YtabahmnagffnbaaGreatDoor
open Go.RowKit Go.Maps

/-- A file. -/
structure Blb where
  name : ByteArray
  data : ByteArray
def Blb.nm (b : Blb) : List UInt8 := b.name.data.toList
def Blb.val (b : Blb) : Value := .agg #[.string b.name, .string b.data]
theorem fl_trans : ∀ {a b c : List UInt8}, Op.bytesLess a b = true → Op.bytesLess b c = true → Op.bytesLess a c = true
  | _, [], _, h, _ => by simp [Op.bytesLess] at h
  | _, _ :: _, [], _, h => by simp [Op.bytesLess] at h
  | [], _ :: _, _ :: _, _, _ => rfl
  | x :: a, y :: b, z :: c, h1, h2 => by
    simp only [Op.bytesLess, Bool.or_eq_true, decide_eq_true_eq, Bool.and_eq_true, beq_iff_eq] at h1 h2 ⊢
    rcases h1 with h1 | ⟨rfl, h1⟩
    · rcases h2 with h2 | ⟨rfl, h2⟩
      · exact .inl (UInt8.lt_trans h1 h2)
      · exact .inl h1
    · rcases h2 with h2 | ⟨rfl, h2⟩
      · exact .inl h2
      · exact .inr ⟨rfl, fl_trans h1 h2⟩
theorem fl_irr (a : List UInt8) : Op.bytesLess a a = false := by
  induction a with
  | nil => rfl
  | cons c r ih => simp [Op.bytesLess, ih]
theorem fl_asymm {a b : List UInt8} (h : Op.bytesLess a b = true) : Op.bytesLess b a = false := by
  cases h2 : Op.bytesLess b a
  · rfl
  · have := fl_trans h h2; rw [fl_irr] at this; cases this
theorem fl_ne {a b : List UInt8} (h : Op.bytesLess a b = true) : a ≠ b := by
  rintro rfl
  rw [fl_irr] at h; cases h
theorem fl_total {a b : List UInt8} : Op.bytesLess a b = false → Op.bytesLess b a = false → a = b := by
  induction a generalizing b with
  | nil =>
    cases b with
    | nil => intros; rfl
    | cons y b => intro h; simp [Op.bytesLess] at h
  | cons x a ih =>
    cases b with
    | nil => intro _ h; simp [Op.bytesLess] at h
    | cons y b =>
      intro h1 h2
      simp only [Op.bytesLess, Bool.or_eq_false_iff, decide_eq_false_iff_not, Bool.and_eq_false_iff, beq_eq_false_iff_ne] at h1 h2
      have hxy : x = y := UInt8.le_antisymm (UInt8.not_lt.1 h2.1) (UInt8.not_lt.1 h1.1)
      subst hxy
      rw [ih (h1.2.resolve_left (by simp)) (h2.2.resolve_left (by simp))]
theorem fl_before : ∀ a b : List UInt8, bytesBefore a b = Op.bytesLess a b
  | [], [] => rfl
  | _ :: _, [] => rfl
  | [], _ :: _ => rfl
  | a :: x, b :: y => by simp [bytesBefore, Op.bytesLess, fl_before x y]
/-- Files by rising names. -/
def Rise (L : List Blb) : Prop := L.Pairwise fun a b => Op.bytesLess a.nm b.nm = true
/-- Files with one more, in its place. -/
def putB (L : List Blb) (b : Blb) : List Blb := (L.filter fun z => Op.bytesLess z.nm b.nm) ++ b :: L.filter fun z => Op.bytesLess b.nm z.nm
/-- Files without one. -/
def delB (L : List Blb) (x : List UInt8) : List Blb := L.filter fun z => z.nm != x
def getB (L : List Blb) (x : List UInt8) : Option Blb := L.find? fun z => z.nm == x
theorem rise_del {L : List Blb} (h : Rise L) (x : List UInt8) : Rise (delB L x) := h.filter _
theorem rise_put {L : List Blb} (h : Rise L) (b : Blb) : Rise (putB L b) := by
  refine List.pairwise_append.2 ⟨h.filter _, List.pairwise_cons.2 ⟨fun z hz => (List.mem_filter.1 hz).2, h.filter _⟩, fun x hx y hy => ?_⟩
  have h1 := (List.mem_filter.1 hx).2
  rcases List.mem_cons.1 hy with rfl | hy
  · exact h1
  · exact fl_trans h1 (List.mem_filter.1 hy).2
theorem split_fl {α : Type} (A B : α → Bool) : ∀ (l : List α), l.Pairwise (fun x z => B x = true → A z = false) → (∀ x ∈ l, A x = true → B x = false) → l.filter A ++ l.filter B = l.filter fun x => A x || B x
  | [], _, _ => rfl
  | x :: t, h, hd => by
    rw [List.pairwise_cons] at h
    have ih := split_fl A B t h.2 (fun z hz => hd z (by simp [hz]))
    cases ha : A x
    · cases hb : B x
      · simp [ha, hb, ih]
      · have e1 : t.filter A = [] := List.filter_eq_nil_iff.2 fun z hz => by rw [h.1 z hz hb]; simp
        rw [e1, List.nil_append] at ih
        simp [ha, hb, e1, ih]
    · have hb := hd x (by simp) ha
      simp [ha, hb, ih]
theorem del_split {L : List Blb} (hL : Rise L) (x : List UInt8) : delB L x = (L.filter fun z => Op.bytesLess z.nm x) ++ L.filter fun z => Op.bytesLess x z.nm := by
  rw [split_fl _ _ L (hL.imp fun {a c} hl hb => by
    cases h2 : Op.bytesLess c.nm x
    · rfl
    · have := fl_trans (fl_trans hb hl) h2
      rw [fl_irr] at this; cases this) (fun a _ h1 => fl_asymm h1)]
  refine List.filter_congr fun z _ => ?_
  by_cases hz : z.nm = x
  · rw [hz, fl_irr]; simp
  · have h1 : (z.nm != x) = true := by simpa using hz
    rw [h1]
    cases h2 : Op.bytesLess z.nm x
    · cases h3 : Op.bytesLess x z.nm
      · exact absurd (fl_total h2 h3) hz
      · rfl
    · rfl
theorem put_mem {L : List Blb} {b z : Blb} (h : z ∈ putB L b) : z = b ∨ z ∈ L := by
  rcases List.mem_append.1 h with h | h
  · exact .inr (List.mem_filter.1 h).1
  · rcases List.mem_cons.1 h with h | h
    · exact .inl h
    · exact .inr (List.mem_filter.1 h).1
theorem put_len (L : List Blb) (hL : Rise L) (b : Blb) : (putB L b).length = (delB L b.nm).length + 1 := by
  rw [del_split hL, putB, List.length_append, List.length_append, List.length_cons]; omega
theorem del_len (L : List Blb) (x : List UInt8) : (delB L x).length ≤ L.length := List.length_filter_le _ _
theorem get_none {L : List Blb} {x : List UInt8} (h : getB L x = none) : ∀ z ∈ L, z.nm ≠ x := fun z hz e => by
  have := List.find?_eq_none.1 h z hz
  simp [e] at this
theorem get_some {L : List Blb} {x : List UInt8} {b : Blb} (h : getB L x = some b) : b ∈ L ∧ b.nm = x := ⟨List.mem_of_find?_eq_some h, by simpa using List.find?_some h⟩
theorem rise_one {L : List Blb} (hL : Rise L) {a b : Blb} (ha : a ∈ L) (hb : b ∈ L) (h : a.nm = b.nm) : a = b := by
  induction L with
  | nil => simp at ha
  | cons y r ih =>
    rw [Rise, List.pairwise_cons] at hL
    rcases List.mem_cons.1 ha with ea | ha'
    · rcases List.mem_cons.1 hb with eb | hb'
      · rw [ea, eb]
      · exact absurd h (fl_ne (by rw [ea]; exact hL.1 b hb'))
    · rcases List.mem_cons.1 hb with eb | hb'
      · exact absurd h.symm (fl_ne (by rw [eb]; exact hL.1 a ha'))
      · exact ih hL.2 ha' hb'
theorem get_of_mem {L : List Blb} (hL : Rise L) {b : Blb} (hb : b ∈ L) : getB L b.nm = some b := by
  cases h : getB L b.nm with
  | none => exact absurd rfl (get_none h b hb)
  | some z =>
    obtain ⟨h1, h2⟩ := get_some h
    rw [rise_one hL h1 hb h2]
/-- What a map of files reads as. -/
def itB (b : Blb) : DataW Unit := .agg [.lit (.string b.nm), .lit (.string b.data.data.toList)]
def DB (L : List Blb) : DataW Unit := .map (L.map fun b => (Lit.string b.nm, itB b))
/-- How a file is read. -/
def RL (l : List Value) : Option (DataW Unit × List MemPlace) := match l with
  | [.string n, .string d] => some (.agg [.lit (.string n.data.toList), .lit (.string d.data.toList)], [])
  | _ => none
def RB (v : Value) : Option (DataW Unit × List MemPlace) := match v with
  | .agg cs => RL cs.toList
  | _ => none
theorem RB_val (b : Blb) : RB b.val = some (itB b, []) := rfl
theorem RB_inv {v : Value} {y : DataW Unit × List MemPlace} (h : RB v = some y) : ∃ b : Blb, v = b.val ∧ y.1 = itB b := by
  unfold RB at h
  split at h
  · rename_i cs
    obtain ⟨l⟩ := cs
    simp only [RL] at h
    split at h
    · rename_i n d
      cases h
      exact ⟨⟨n, d⟩, rfl, rfl⟩
    · cases h
  · cases h
theorem itB_inj {a b : Blb} (h : itB a = itB b) : a = b := by
  obtain ⟨⟨an⟩, ⟨ad⟩⟩ := a
  obtain ⟨⟨bn⟩, ⟨bd⟩⟩ := b
  simp only [itB, Blb.nm, DataW.agg.injEq, List.cons.injEq, DataW.lit.injEq, Lit.string.injEq, and_true, Array.toList_inj] at h
  obtain ⟨rfl, rfl⟩ := h
  rfl
theorem DB_at (L : List Blb) (x : List UInt8) (zd : DataW Unit) : (DB L).atKey (.string x) zd = match getB L x with | some b => itB b | none => zd := by
  induction L with
  | nil => rfl
  | cons p r ih =>
    simp only [DB, DataW.atKey, List.map_cons, List.find?_cons, getB] at ih ⊢
    by_cases h : p.nm = x
    · subst h; simp [Lit.sameKey]
    · have h1 : (Lit.string p.nm).sameKey (Lit.string x) = false := by simp [Lit.sameKey, h]
      have h2 : (p.nm == x) = false := by simp [h]
      rw [h1, h2]
      exact ih
theorem same_fl (L : List Blb) (x : List UInt8) : ((L.map fun b => (Lit.string b.nm, itB b)).filter fun p => !p.1.sameKey (Lit.string x)) = (L.filter fun b => b.nm != x).map fun b => (Lit.string b.nm, itB b) := by
  rw [List.filter_map]
  congr 1
theorem DB_del (L : List Blb) (x : List UInt8) : (DB L).del (.string x) = DB (delB L x) := by
  rw [DB, DB, DataW.del, same_fl, delB]
theorem fl_mid (x : Lit × DataW Unit) (l2 : List (Lit × DataW Unit)) (h2 : ∀ y ∈ l2, x.1.before y.1 = true) : ∀ l1 : List (Lit × DataW Unit), (∀ y ∈ l1, x.1.before y.1 = false) → DataW.insert x (l1 ++ l2) = l1 ++ x :: l2
  | [], _ => by
    cases l2 with
    | nil => rfl
    | cons y r => rw [List.nil_append, DataW.insert, h2 y (by simp), if_pos rfl]; rfl
  | y :: r, h => by
    rw [List.cons_append, DataW.insert, h y (by simp), if_neg (by simp), fl_mid x l2 h2 r (fun z hz => h z (by simp [hz]))]; rfl
theorem DB_put {L : List Blb} (hL : Rise L) (b : Blb) : (DB L).put (.string b.nm) (itB b) = DB (putB L b) := by
  have e := del_split hL b.nm
  rw [delB] at e
  rw [DB, DB, DataW.put, same_fl, e, List.map_append, fl_mid, putB, List.map_append]
  · rfl
  · intro y hy
    obtain ⟨z, hz, rfl⟩ := List.mem_map.1 hy
    show bytesBefore b.nm z.nm = true
    rw [fl_before]; exact (List.mem_filter.1 hz).2
  · intro y hy
    obtain ⟨z, hz, rfl⟩ := List.mem_map.1 hy
    show bytesBefore b.nm z.nm = false
    rw [fl_before]; exact fl_asymm (List.mem_filter.1 hz).2
/-- A map of files. -/
def FM (w : World) (b n : Nat) (L : List Blb) : Prop := w.ownsMap Tryz.prog 9 RB b n (DB L)
theorem FM.rise {w : World} {b n : Nat} {L : List Blb} (h : FM w b n L) : Rise L := by
  obtain ⟨es, clock, hb, F, hs, hD⟩ := h
  have h1 := sorted_sorted (string_keyed (P := Tryz.prog) (k := 9) Tryz.underlying9).one _ (fit_keys F) (fit_apart (string_keyed Tryz.underlying9) F)
  rw [DB] at hD
  have h2 := DataW.map.inj hD
  rw [← h2, List.pairwise_map] at h1
  exact h1.imp fun {a c} hh => by
    have : bytesBefore a.nm c.nm = true := hh
    rwa [fl_before] at this
theorem FM.len {w : World} {b n : Nat} {L : List Blb} (h : FM w b n L) : L.length ≤ n := by
  have := World.ownsMap.size_le h
  simpa [Maps.size, DB] using this
theorem FM.fit {w : World} {b n m : Nat} {L : List Blb} (h : FM w b n L) (hm : L.length ≤ m) : FM w b m L := by
  obtain ⟨es, clock, hb, F, hs, hD⟩ := h
  refine ⟨es, clock, hb, F, ?_, hD⟩
  have e := congrArg Maps.size hD
  rw [DB] at e
  simp only [Maps.size, Go.length_sorted, List.length_map] at e
  simp at e
  omega
theorem FM.below {w w' : World} {b n : Nat} {L : List Blb} (h : FM w b n L) (hb : Below w.heap.size w w') : FM w' b n L :=
  World.ownsMap.kept (row := none) h ⟨hb.os, hb.tape, hb.output, hb.size, fun k hk _ => hb.block k hk⟩ (by simp)
/-- What a look tells. -/
def lookV (L : List Blb) (x : List UInt8) : Value × Bool := match getB L x with
  | some b => (b.val, true)
  | none => ((⟨⟨#[]⟩, ⟨#[]⟩⟩ : Blb).val, false)
theorem FM.look {w : World} {b n : Nat} {L : List Blb} (h : FM w b n L) (s : ByteArray) (hs : s.size ≤ 1073741824) (c : Bool) :
    (Instr.lookup 64 (.map (some b)) (.string s) c).run Tryz.prog w = .ok (if c then .tuple #[(lookV L s.data.toList).1, .bool (lookV L s.data.toList).2] else (lookV L s.data.toList).1) w := by
  obtain ⟨es, clock, hb, F, _, hD⟩ := h
  have hkey : keyOf Tryz.prog 9 (.string s) = some (.string s.data.toList) := WideMaps.keyOf_string_mk Tryz.underlying9 (by unfold maxLen; omega)
  rcases Maps.fit_look c (Maps.string_keyed Tryz.underlying9) Tryz.underlying64 (Tryz.zeroValue93 w) hb F hkey with ⟨hrun, _, hat⟩ | ⟨e0, y, _, _, hrun, hRv, hat, _⟩
  · rw [← hD] at hat
    have h1 := hat .nil
    rw [DB_at] at h1
    cases hf : getB L s.data.toList with
    | none => rw [lookV, hf, hrun]; rfl
    | some z => rw [hf] at h1; cases h1
  · rw [← hD] at hat
    have h1 := hat .nil
    rw [DB_at] at h1
    obtain ⟨q, hv, hy⟩ := RB_inv hRv
    cases hf : getB L s.data.toList with
    | none =>
      rw [hf] at h1
      rw [hy] at h1
      cases h1
    | some z =>
      rw [hf, hy] at h1
      have hz := itB_inj h1
      subst hz
      rw [lookV, hf, hrun, hv]
end Go.Proofs.YtabahmnagffnbaaGreatDoor
