import Derived.Test.YtkeefkfklmhcjaaGreatDoorTreeP
import Derived.Maps.Own
import Derived.Maps.OwnOps
import Derived.Maps.Keyed
import Derived.MapViews
import Derived.StringKeys
namespace Go.Proofs.YtkeefkfklmhcjaaGreatDoor
open Go.RowKit Go.Maps

/-- How a pointer at a node is told apart. -/
def RK (v : Value) : Option (DataW Unit × List MemPlace) := match v with
  | .pointer (some ⟨b, 0, none⟩) => some (.lit (.int .i64 (b : Int)), [])
  | _ => none
theorem RK_inv {v : Value} {y : DataW Unit × List MemPlace} (h : RK v = some y) : ∃ b : Nat, v = .pointer (some ⟨b, 0, none⟩) ∧ y.1 = .lit (.int .i64 (b : Int)) := by
  unfold RK at h
  split at h
  · rename_i b
    cases h
    exact ⟨b, rfl, rfl⟩
  · cases h
/-- What a map of nodes reads as. -/
def DK (L : List (List UInt8 × Nat)) : DataW Unit := .map (L.map fun p => (Lit.string p.1, DataW.lit (.int .i64 (p.2 : Int))))
theorem before_eq : ∀ a b : List UInt8, bytesBefore a b = Op.bytesLess a b
  | [], [] => rfl
  | _ :: _, [] => rfl
  | [], _ :: _ => rfl
  | a :: x, b :: y => by simp [bytesBefore, Op.bytesLess, before_eq x y]
theorem insert_end (x : Lit × DataW Unit) : ∀ l : List (Lit × DataW Unit), (∀ y ∈ l, x.1.before y.1 = false) → DataW.insert x l = l ++ [x]
  | [], _ => rfl
  | y :: r, h => by
    rw [DataW.insert, h y (by simp), if_neg (by simp), insert_end x r (fun z hz => h z (by simp [hz]))]; rfl
theorem bl_asymm {a b : List UInt8} (h : Op.bytesLess a b = true) : Op.bytesLess b a = false := by
  cases h2 : Op.bytesLess b a
  · rfl
  · have := bl_trans h h2; rw [bl_irr] at this; cases this
theorem DK_put {L : List (List UInt8 × Nat)} {x : List UInt8} {b : Nat} (h : ∀ p ∈ L, Op.bytesLess p.1 x = true) : (DK L).put (.string x) (.lit (.int .i64 (b : Int))) = DK (L ++ [(x, b)]) := by
  have hf : ∀ p ∈ (L.map fun p => (Lit.string p.1, DataW.lit (H := Unit) (.int .i64 (p.2 : Int)))), (!p.1.sameKey (Lit.string x)) = true := by
    intro p hp
    obtain ⟨q, hq, rfl⟩ := List.mem_map.1 hp
    have h1 := bl_ne (h q hq)
    simpa [Lit.sameKey] using h1
  rw [DK, DK, DataW.put, List.filter_eq_self.2 hf, insert_end, List.map_append]
  · rfl
  · intro p hp
    obtain ⟨q, hq, rfl⟩ := List.mem_map.1 hp
    show bytesBefore x q.1 = false
    rw [before_eq]; exact bl_asymm (h q hq)
/-- A map of nodes, by last elements. -/
def KM (w : World) (b n : Nat) (L : List (List UInt8 × Nat)) : Prop := w.ownsMap Tryz.prog 9 RK b n (DK L)
theorem DK_at (L : List (List UInt8 × Nat)) (x : List UInt8) (zd : DataW Unit) : (DK L).atKey (.string x) zd = match L.find? (fun p => p.1 == x) with | some p => .lit (.int .i64 (p.2 : Int)) | none => zd := by
  induction L with
  | nil => rfl
  | cons p r ih =>
    simp only [DK, DataW.atKey, List.map_cons, List.find?_cons] at ih ⊢
    by_cases h : p.1 = x
    · subst h; simp [Lit.sameKey]
    · have h1 : (Lit.string p.1).sameKey (Lit.string x) = false := by simp [Lit.sameKey, h]
      have h2 : (p.1 == x) = false := by simp [h]
      rw [h1, h2]
      exact ih
theorem KM.look {w : World} {b n : Nat} {L : List (List UInt8 × Nat)} (h : KM w b n L) (s : ByteArray) (hs : s.size ≤ 1073741824) (c : Bool) :
    ((Instr.lookup 100 (.map (some b)) (.string s) c).run Tryz.prog w = .ok (if c then .tuple #[.pointer none, .bool false] else .pointer none) w ∧ ∀ p ∈ L, p.1 ≠ s.data.toList) ∨
    ∃ q : Nat, (s.data.toList, q) ∈ L ∧ (Instr.lookup 100 (.map (some b)) (.string s) c).run Tryz.prog w = .ok (if c then .tuple #[.pointer (some ⟨q, 0, none⟩), .bool true] else .pointer (some ⟨q, 0, none⟩)) w := by
  obtain ⟨es, clock, hb, F, _, hD⟩ := h
  have hkey : keyOf Tryz.prog 9 (.string s) = some (.string s.data.toList) := WideMaps.keyOf_string_mk Tryz.underlying9 (by unfold maxLen; omega)
  rcases Maps.fit_look c (Maps.string_keyed Tryz.underlying9) Tryz.underlying100 (Tryz.zeroValue79 w) hb F hkey with ⟨hrun, _, hat⟩ | ⟨e0, y, _, _, hrun, hRv, hat, _⟩
  · refine .inl ⟨hrun, fun p hp e => ?_⟩
    rw [← hD] at hat
    have h1 := hat .nil
    rw [DK_at] at h1
    cases hf : L.find? (fun p => p.1 == s.data.toList) with
    | none => exact absurd (by simpa using e) (by simpa using List.find?_eq_none.1 hf p hp)
    | some z => rw [hf] at h1; cases h1
  · rw [← hD] at hat
    have h1 := hat .nil
    rw [DK_at] at h1
    obtain ⟨q, hv, hy⟩ := RK_inv hRv
    cases hf : L.find? (fun p => p.1 == s.data.toList) with
    | none =>
      rw [hf] at h1
      rw [hy] at h1
      cases h1
    | some z =>
      rw [hf, hy] at h1
      have hz : z.2 = q := by
        have h2 : ((z.2 : Nat) : Int) = (q : Int) := by
          simp only [DataW.lit.injEq, Lit.int.injEq, true_and] at h1
          exact h1
        omega
      have hm := List.mem_of_find?_eq_some hf
      have hk : z.1 = s.data.toList := by simpa using List.find?_some hf
      refine .inr ⟨q, by rw [← hz, ← hk]; exact hm, ?_⟩
      rw [hrun, hv]
end Go.Proofs.YtkeefkfklmhcjaaGreatDoor
