import Derived.Test.YtjofjcjojgpaeaaGreatDoorJEntC
import Derived.Maps.Own
import Derived.Maps.OwnOps
import Derived.Maps.Keyed
import Derived.MapViews
import Derived.StringKeys
namespace Go.Proofs.YtjofjcjojgpaeaaGreatDoor
open Go.RowKit

theorem bl_trans : ∀ {a b c : List UInt8}, Op.bytesLess a b = true → Op.bytesLess b c = true → Op.bytesLess a c = true
  | _, [], _, h, _ => by simp [Op.bytesLess] at h
  | _, _ :: _, [], _, h => by simp [Op.bytesLess] at h
  | [], _ :: _, _ :: _, _, _ => rfl
  | x :: a, y :: b, z :: c, h1, h2 => by
    simp only [Op.bytesLess, Bool.or_eq_true, decide_eq_true_eq, Bool.and_eq_true, beq_iff_eq] at h1 h2 ⊢
    rcases h1 with h1 | ⟨rfl, h1⟩
    · rcases h2 with h2 | ⟨rfl, h2⟩
      · exact .inl (UInt8.lt_trans h1 h2)
      · exact .inl h1
    · rcases h2 with h2 | ⟨rfl, h2⟩
      · exact .inl h2
      · exact .inr ⟨rfl, bl_trans h1 h2⟩
theorem bl_irr (a : List UInt8) : Op.bytesLess a a = false := by
  induction a with
  | nil => rfl
  | cons c r ih => simp [Op.bytesLess, ih]
theorem ltL_irr (x : List (List UInt8)) : ltL x x = false := by
  induction x with
  | nil => rfl
  | cons c r ih => simp [ltL, ih, bl_irr]
theorem ltL_trans : ∀ {a b c : List (List UInt8)}, ltL a b = true → ltL b c = true → ltL a c = true
  | _, [], _, h, _ => by simp [ltL] at h
  | _, _ :: _, [], _, h => by simp [ltL] at h
  | [], _ :: _, _ :: _, _, _ => rfl
  | x :: a, y :: b, z :: c, h1, h2 => by
    simp only [ltL, Bool.or_eq_true, Bool.and_eq_true, beq_iff_eq] at h1 h2 ⊢
    rcases h1 with h1 | ⟨rfl, h1⟩
    · rcases h2 with h2 | ⟨rfl, h2⟩
      · exact .inl (bl_trans h1 h2)
      · exact .inl h1
    · rcases h2 with h2 | ⟨rfl, h2⟩
      · exact .inl h2
      · exact .inr ⟨rfl, ltL_trans h1 h2⟩
theorem ltL_snoc (x : List (List UInt8)) (a b : List UInt8) : ltL (x ++ [a]) (x ++ [b]) = Op.bytesLess a b := by
  induction x with
  | nil => simp [ltL]
  | cons c r ih => simp [ltL, ih, bl_irr]

theorem elt_no {x : List UInt8} (h : elt x = true) : 47 ∉ x ∧ x ≠ [] := by
  simp only [elt, Bool.and_eq_true, Bool.not_eq_true'] at h
  refine ⟨fun hm => ?_, (hdr_parts h.1).1⟩
  have := List.all_eq_true.1 h.2 47 hm
  revert this; decide
theorem spl_joined {xs : List (List UInt8)} (hne : xs ≠ []) (h : ∀ x ∈ xs, 47 ∉ x) : spl (Lib.join xs [47]) = xs := by
  induction xs with
  | nil => exact absurd rfl hne
  | cons x r ih =>
    cases r with
    | nil => rw [Lib.join_one]; exact spl_no (h x (by simp))
    | cons y r =>
      have e : Lib.join (x :: y :: r) [47] = x ++ 47 :: Lib.join (y :: r) [47] := by
        rw [Lib.join_cons, Lib.join_cons, Lib.joinTail]
        simp [Lib.joinTail]
      rw [e, spl_app, spl_no (h x (by simp)), ih (by simp) (fun z hz => h z (by simp [hz]))]; rfl
theorem join_ne {xs : List (List UInt8)} (hne : xs ≠ []) (h : ∀ x ∈ xs, x ≠ []) : Lib.join xs [47] ≠ [] := by
  cases xs with
  | nil => exact absurd rfl hne
  | cons x r =>
    rw [Lib.join_cons]
    intro e
    exact h x (by simp) (List.append_eq_nil_iff.1 e).1
/-- The elements of a path are those of its directory, and its name. -/
theorem prt_up {p : List UInt8} (hp : isP p = true) (h0 : p ≠ []) : prt p = prt (dirOf p) ++ [nameOf p] := by
  have hall : ∀ x ∈ spl p, elt x = true := by
    simp only [isP, Bool.and_eq_true] at hp
    rw [prt_ne h0] at hp
    exact fun x hx => List.all_eq_true.1 hp.2 x hx
  have hne := spl_ne p
  have hsp : spl p = (spl p).dropLast ++ [nameOf p] := by
    rw [nameOf, List.getLastD_eq_getLast?, List.getLast?_eq_some_getLast hne]
    exact (List.dropLast_concat_getLast hne).symm
  have hd : prt (dirOf p) = (spl p).dropLast := by
    by_cases hz : (spl p).dropLast = []
    · rw [dirOf, hz]; rfl
    · have hm : ∀ x ∈ (spl p).dropLast, elt x = true := fun x hx => hall x (List.dropLast_subset _ hx)
      have h1 : dirOf p ≠ [] := join_ne hz (fun x hx => (elt_no (hm x hx)).2)
      rw [prt_ne h1, dirOf, spl_joined hz (fun x hx => (elt_no (hm x hx)).1)]
  rw [prt_ne h0, hd, ← hsp]

/-- The parts of what 'okAt' says. -/
structure OkParts (es : List Ent) (i : Nat) (e : Ent) : Prop where
  ent : entOk e = true
  ord : i = 0 ∨ ∃ d, es[i - 1]? = some d ∧ ltL (prt d.path.data.toList) (prt e.path.data.toList) = true
  dir : kindP (es.take i) (dirOf e.path.data.toList) = 1
theorem ok_parts {es : List Ent} {i : Nat} {e : Ent} (he : es[i]? = some e) (h : okG es i = true) : OkParts es i e := by
  rw [okG_eq he] at h
  simp only [Bool.and_eq_true, decide_eq_true_eq, Bool.or_eq_true] at h
  refine ⟨h.1.1, ?_, h.2⟩
  rcases h.1.2 with h | h
  · exact .inl h
  · right
    cases hd : es[i - 1]? with
    | none => rw [hd] at h; cases h
    | some d => rw [hd] at h; exact ⟨d, rfl, h⟩
theorem ent_parts {e : Ent} (h : entOk e = true) : e.path.data.toList ≠ [] ∧ isP e.path.data.toList = true ∧ goodE e = true := by
  simp only [entOk, Bool.and_eq_true, bne_iff_ne] at h
  exact ⟨h.1.1, h.1.2, h.2⟩
/-- All up to a number may stand where they stand. -/
def OkTo (es : List Ent) (n : Nat) : Prop := ∀ i, i < n → okG es i = true
theorem ord_lt {es : List Ent} {n : Nat} (h : OkTo es n) : ∀ (j i : Nat) (d e : Ent), i < j → j < n → es[i]? = some d → es[j]? = some e → ltL (prt d.path.data.toList) (prt e.path.data.toList) = true
  | 0, _, _, _, hij, _, _, _ => by omega
  | j + 1, i, d, e, hij, hjn, hd, he => by
    rcases (ok_parts he (h (j + 1) hjn)).ord with h0 | ⟨c, hc, hl⟩
    · omega
    · rw [Nat.add_sub_cancel] at hc
      by_cases hi : i = j
      · subst hi; rw [hd] at hc; cases hc; exact hl
      · exact ltL_trans (ord_lt h j i d c (by omega) (by omega) hd hc) hl
theorem path_inj {es : List Ent} {n i j : Nat} {d e : Ent} (h : OkTo es n) (hi : i < n) (hj : j < n) (hd : es[i]? = some d) (he : es[j]? = some e) (hp : d.path.data.toList = e.path.data.toList) : i = j := by
  rcases Nat.lt_trichotomy i j with hl | hl | hl
  · have := ord_lt h j i d e hl hj hd he; rw [hp, ltL_irr] at this; cases this
  · exact hl
  · have := ord_lt h i j e d hl hi he hd; rw [hp, ltL_irr] at this; cases this
/-- The root, which no entry tells. -/
def rootE : Ent := ⟨⟨#[]⟩, 1, 493, ⟨#[]⟩⟩
theorem kindP_one {es : List Ent} {p : List UInt8} (h : kindP es p = 1) (hp : p ≠ []) : ∃ e ∈ es, e.path.data.toList = p ∧ e.kind = 1 := by
  rw [kindP, if_neg hp] at h
  cases hf : es.find? (fun e => e.path.data.toList == p) with
  | none => rw [hf] at h; cases h
  | some e =>
    rw [hf] at h
    exact ⟨e, List.mem_of_find?_eq_some hf, by simpa using List.find?_some hf, h⟩
/-- What is in a directory comes behind it. -/
theorem kid_later {es : List Ent} {j k : Nat} {e c : Ent} (h : OkTo es es.length) (hj : (rootE :: es)[j]? = some e) (hc : es[k]? = some c) (hd : dirOf c.path.data.toList = e.path.data.toList) : j < k + 1 := by
  cases j with
  | zero => omega
  | succ i =>
    rw [List.getElem?_cons_succ] at hj
    rcases Nat.lt_or_ge i k with hik | hik
    · omega
    · exfalso
      have hk : k < es.length := (List.getElem?_eq_some_iff.1 hc).1
      have hin : i < es.length := (List.getElem?_eq_some_iff.1 hj).1
      have hp := ok_parts hc (h k hk)
      have e0 := (ent_parts (ok_parts hj (h i hin)).ent).1
      rw [← hd] at e0
      obtain ⟨e', hm, hp', _⟩ := kindP_one hp.dir e0
      obtain ⟨q, hq, hqe⟩ := List.getElem_of_mem hm
      rw [List.length_take] at hq
      rw [List.getElem_take] at hqe
      have hq' : es[q]? = some e' := by rw [← hqe]; exact List.getElem?_eq_getElem (by omega)
      have := path_inj h (by omega) hin hq' hj (by rw [hp', hd])
      omega

/-- What is in a directory. -/
def kidsE (es : List Ent) (p : List UInt8) : List Ent := es.filter fun k => dirOf k.path.data.toList == p
/-- Enough depth for the entry of a number. -/
def Deep (es : List Ent) (f : Nat) (e : Ent) : Prop := ∃ j, (rootE :: es)[j]? = some e ∧ es.length < j + f
theorem deep_root (es : List Ent) : Deep es (es.length + 1) rootE := ⟨0, rfl, by omega⟩
theorem deep_kid {es : List Ent} {f : Nat} {e c : Ent} (h : OkTo es es.length) (hd : Deep es (f + 1) e) (hc : c ∈ kidsE es e.path.data.toList) : Deep es f c := by
  obtain ⟨j, hj, hl⟩ := hd
  rw [kidsE, List.mem_filter] at hc
  obtain ⟨k, hk, hke⟩ := List.getElem_of_mem hc.1
  have hk' : es[k]? = some c := by rw [← hke]; exact List.getElem?_eq_getElem hk
  have := kid_later h hj hk' (by simpa using hc.2)
  exact ⟨k + 1, by rw [List.getElem?_cons_succ]; exact hk', by omega⟩
theorem deep_pos {es : List Ent} {f : Nat} {e : Ent} (hd : Deep es f e) : f ≠ 0 := by
  obtain ⟨j, hj, hl⟩ := hd
  have := (List.getElem?_eq_some_iff.1 hj).1
  simp at this
  omega
theorem deep_mem {es : List Ent} {f : Nat} {e : Ent} (hd : Deep es f e) : e = rootE ∨ e ∈ es := by
  obtain ⟨j, hj, _⟩ := hd
  cases j with
  | zero => left; simpa using hj.symm
  | succ i => right; rw [List.getElem?_cons_succ] at hj; exact List.mem_of_getElem? hj
theorem last_slash {p : List UInt8} (h : 47 ∈ p) : ∃ a b, p = a ++ 47 :: b ∧ 47 ∉ b := by
  induction p with
  | nil => simp at h
  | cons c r ih =>
    by_cases hr : 47 ∈ r
    · obtain ⟨a, b, rfl, hb⟩ := ih hr
      exact ⟨c :: a, b, by simp, hb⟩
    · simp only [List.mem_cons, hr, or_false] at h
      subst h
      exact ⟨[], r, by simp, hr⟩
theorem name_le (p : List UInt8) : (nameOf p).length ≤ p.length := by
  by_cases h : 47 ∈ p
  · obtain ⟨a, b, rfl, hb⟩ := last_slash h
    rw [(dir_at hb).2]; simp; omega
  · rw [(dir_no h).2]; exact Nat.le_refl _
/-- What holds of the entries of a tree. -/
structure Tree (es : List Ent) : Prop where
  ok : OkTo es es.length
  len : es.length ≤ 40
  small : Small es
/-- The same of a tree that may have outgrown the bound. -/
structure TreeG (es : List Ent) : Prop where
  ok : OkTo es es.length
  len : es.length ≤ 120
  small : Small es
theorem Tree.g {es : List Ent} (h : Tree es) : TreeG es := ⟨h.ok, by have := h.len; omega, h.small⟩
theorem Tree.path {es : List Ent} (h : Tree es) {e : Ent} (he : e ∈ es) : e.path.data.toList ≠ [] ∧ isP e.path.data.toList = true ∧ goodE e = true := by
  obtain ⟨k, hk, rfl⟩ := List.getElem_of_mem he
  exact ent_parts (ok_parts (List.getElem?_eq_getElem hk) (h.ok k hk)).ent
theorem good_mode {e : Ent} (h : goodE e = true) : 0 ≤ e.mode ∧ e.mode ≤ 511 := by
  unfold goodE at h
  split at h
  · simp only [Bool.and_eq_true, modeOk, decide_eq_true_eq] at h; exact h.1
  · split at h
    · simp only [Bool.and_eq_true, modeOk, decide_eq_true_eq] at h; exact h.1
    · split at h
      · simp only [Bool.and_eq_true, decide_eq_true_eq] at h; omega
      · cases h
/-- The entry, or the root. -/
structure One (e : Ent) : Prop where
  mode : 0 ≤ e.mode ∧ e.mode ≤ 511
  path : e.path.size ≤ 1048576
  data : e.data.size ≤ 1048576
theorem deep_one {es : List Ent} (h : Tree es) {f : Nat} {e : Ent} (hd : Deep es f e) : One e := by
  rcases deep_mem hd with rfl | hm
  · exact ⟨by decide, by decide, by decide⟩
  · exact ⟨good_mode (h.path hm).2.2, (h.small e hm).1, (h.small e hm).2⟩
theorem tree_of {es : List Ent} (h : FirstBad es (-1)) (hs : Small es) : Tree es := by
  rcases h with ⟨_, h⟩ | ⟨i, hi, _⟩
  · exact ⟨fun i hi => okG_of (h i hi), all_lt h, hs⟩
  · omega
theorem good_kind {e : Ent} (h : goodE e = true) : e.kind = 1 ∨ e.kind = 2 ∨ e.kind = 3 := by
  unfold goodE at h
  split at h
  · rename_i h1; exact .inl (by simpa using h1)
  · split at h
    · rename_i h1; exact .inr (.inl (by simpa using h1))
    · split at h
      · rename_i h1; exact .inr (.inr (by simpa using h1))
      · cases h
theorem deep_kind {es : List Ent} (h : Tree es) {f : Nat} {e : Ent} (hd : Deep es f e) : e.kind = 1 ∨ e.kind = 2 ∨ e.kind = 3 := by
  rcases deep_mem hd with rfl | hm
  · exact .inl rfl
  · exact good_kind (h.path hm).2.2
end Go.Proofs.YtjofjcjojgpaeaaGreatDoor

namespace Go.Proofs.YtjofjcjojgpaeaaGreatDoor
open Go.RowKit Go.Maps

/-- How a pointer at a node is told apart. -/
def RK (v : Value) : Option (DataW Unit × List MemPlace) := match v with
  | .pointer (some ⟨b, 0, none⟩) => some (.lit (.int .i64 (b : Int)), [])
  | _ => none
theorem RK_inv {v : Value} {y : DataW Unit × List MemPlace} (h : RK v = some y) : ∃ b : Nat, v = .pointer (some ⟨b, 0, none⟩) ∧ y.1 = .lit (.int .i64 (b : Int)) := by
  unfold RK at h
  split at h
  · rename_i b
    cases h
    exact ⟨b, rfl, rfl⟩
  · cases h
/-- What a map of nodes reads as. -/
def DK (L : List (List UInt8 × Nat)) : DataW Unit := .map (L.map fun p => (Lit.string p.1, DataW.lit (.int .i64 (p.2 : Int))))
theorem before_eq : ∀ a b : List UInt8, bytesBefore a b = Op.bytesLess a b
  | [], [] => rfl
  | _ :: _, [] => rfl
  | [], _ :: _ => rfl
  | a :: x, b :: y => by simp [bytesBefore, Op.bytesLess, before_eq x y]
theorem insert_end (x : Lit × DataW Unit) : ∀ l : List (Lit × DataW Unit), (∀ y ∈ l, x.1.before y.1 = false) → DataW.insert x l = l ++ [x]
  | [], _ => rfl
  | y :: r, h => by
    rw [DataW.insert, h y (by simp), if_neg (by simp), insert_end x r (fun z hz => h z (by simp [hz]))]; rfl
theorem bl_asymm {a b : List UInt8} (h : Op.bytesLess a b = true) : Op.bytesLess b a = false := by
  cases h2 : Op.bytesLess b a
  · rfl
  · have := bl_trans h h2; rw [bl_irr] at this; cases this
theorem DK_put {L : List (List UInt8 × Nat)} {x : List UInt8} {b : Nat} (h : ∀ p ∈ L, Op.bytesLess p.1 x = true) : (DK L).put (.string x) (.lit (.int .i64 (b : Int))) = DK (L ++ [(x, b)]) := by
  have hf : ∀ p ∈ (L.map fun p => (Lit.string p.1, DataW.lit (H := Unit) (.int .i64 (p.2 : Int)))), (!p.1.sameKey (Lit.string x)) = true := by
    intro p hp
    obtain ⟨q, hq, rfl⟩ := List.mem_map.1 hp
    have h1 := bl_ne (h q hq)
    simpa [Lit.sameKey] using h1
  rw [DK, DK, DataW.put, List.filter_eq_self.2 hf, insert_end, List.map_append]
  · rfl
  · intro p hp
    obtain ⟨q, hq, rfl⟩ := List.mem_map.1 hp
    show bytesBefore x q.1 = false
    rw [before_eq]; exact bl_asymm (h q hq)
/-- A map of nodes, by last elements. -/
def KM (w : World) (b n : Nat) (L : List (List UInt8 × Nat)) : Prop := w.ownsMap Tryz.prog 9 RK b n (DK L)
theorem DK_at (L : List (List UInt8 × Nat)) (x : List UInt8) (zd : DataW Unit) : (DK L).atKey (.string x) zd = match L.find? (fun p => p.1 == x) with | some p => .lit (.int .i64 (p.2 : Int)) | none => zd := by
  induction L with
  | nil => rfl
  | cons p r ih =>
    simp only [DK, DataW.atKey, List.map_cons, List.find?_cons] at ih ⊢
    by_cases h : p.1 = x
    · subst h; simp [Lit.sameKey]
    · have h1 : (Lit.string p.1).sameKey (Lit.string x) = false := by simp [Lit.sameKey, h]
      have h2 : (p.1 == x) = false := by simp [h]
      rw [h1, h2]
      exact ih
theorem KM.look {w : World} {b n : Nat} {L : List (List UInt8 × Nat)} (h : KM w b n L) (s : ByteArray) (hs : s.size ≤ 1073741824) (c : Bool) :
    ((Instr.lookup 77 (.map (some b)) (.string s) c).run Tryz.prog w = .ok (if c then .tuple #[.pointer none, .bool false] else .pointer none) w ∧ ∀ p ∈ L, p.1 ≠ s.data.toList) ∨
    ∃ q : Nat, (s.data.toList, q) ∈ L ∧ (Instr.lookup 77 (.map (some b)) (.string s) c).run Tryz.prog w = .ok (if c then .tuple #[.pointer (some ⟨q, 0, none⟩), .bool true] else .pointer (some ⟨q, 0, none⟩)) w := by
  obtain ⟨es, clock, hb, F, _, hD⟩ := h
  have hkey : keyOf Tryz.prog 9 (.string s) = some (.string s.data.toList) := WideMaps.keyOf_string_mk Tryz.underlying9 (by unfold maxLen; omega)
  rcases Maps.fit_look c (Maps.string_keyed Tryz.underlying9) Tryz.underlying77 (Tryz.zeroValue64 w) hb F hkey with ⟨hrun, _, hat⟩ | ⟨e0, y, _, _, hrun, hRv, hat, _⟩
  · refine .inl ⟨hrun, fun p hp e => ?_⟩
    rw [← hD] at hat
    have h1 := hat .nil
    rw [DK_at] at h1
    cases hf : L.find? (fun p => p.1 == s.data.toList) with
    | none => exact absurd (by simpa using e) (by simpa using List.find?_eq_none.1 hf p hp)
    | some z => rw [hf] at h1; cases h1
  · rw [← hD] at hat
    have h1 := hat .nil
    rw [DK_at] at h1
    obtain ⟨q, hv, hy⟩ := RK_inv hRv
    cases hf : L.find? (fun p => p.1 == s.data.toList) with
    | none =>
      rw [hf] at h1
      rw [hy] at h1
      cases h1
    | some z =>
      rw [hf, hy] at h1
      have hz : z.2 = q := by
        have h2 : ((z.2 : Nat) : Int) = (q : Int) := by
          simp only [DataW.lit.injEq, Lit.int.injEq, true_and] at h1
          exact h1
        omega
      have hm := List.mem_of_find?_eq_some hf
      have hk : z.1 = s.data.toList := by simpa using List.find?_some hf
      refine .inr ⟨q, by rw [← hz, ← hk]; exact hm, ?_⟩
      rw [hrun, hv]
end Go.Proofs.YtjofjcjojgpaeaaGreatDoor
