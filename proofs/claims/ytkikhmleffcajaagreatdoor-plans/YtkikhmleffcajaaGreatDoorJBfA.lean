import Derived.Test.YtkikhmleffcajaaGreatDoorJShelfX
import Derived.Maps.Own
import Derived.Maps.OwnOps
import Derived.Maps.Keyed
import Derived.MapViews
import Derived.StringKeys
import Derived.Laws.EntriesVeiled
namespace Go.Proofs.YtkikhmleffcajaaGreatDoor
open Go.RowKit

/-- The text of a word without variables. -/
def plainW : List Atm → Option (List UInt8)
  | [] => some []
  | .inl c :: r => (plainW r).map (c :: ·)
  | .inr (_, _) :: _ => none
theorem plain_byte (xs : List Atm) (c : UInt8) : plainW (xs ++ [.inl c]) = (plainW xs).map (· ++ [c]) := by
  induction xs with
  | nil => rfl
  | cons a r ih =>
    cases a with
    | inl d => simp only [List.cons_append, plainW, ih, Option.map_map]; rfl
    | inr pA => obtain ⟨n, k⟩ := pA; rfl
theorem plain_var (xs : List Atm) (n : List UInt8) (k : Nat) : plainW (xs ++ [.inr (n, k)]) = none := by
  induction xs with
  | nil => rfl
  | cons a r ih =>
    cases a with
    | inl d => simp only [List.cons_append, plainW, ih]; rfl
    | inr pA => obtain ⟨n, k⟩ := pA; rfl
theorem parts_plain (xs : List Atm) : (∀ l, plainW xs = some l → (l = [] ∧ parts xs = []) ∨ (l ≠ [] ∧ parts xs = [⟨bt l, false, 0⟩])) ∧ (plainW xs = none → ∃ p ∈ parts xs, p.isVar = true) := by
  induction xs using rev_ind with
  | h0 => exact ⟨fun l h => by cases h; exact .inl ⟨rfl, rfl⟩, fun h => by cases h⟩
  | h1 xs a ih =>
    rw [parts_snoc]
    cases a with
    | inr pA =>
      obtain ⟨n, k⟩ := pA
      rw [plain_var]
      exact ⟨fun l h => (by cases h), fun _ => ⟨⟨bt n, true, k⟩, by simp [addA], rfl⟩⟩
    | inl c =>
      rw [plain_byte]
      refine ⟨fun l h => ?_, fun h => ?_⟩
      · cases hx : plainW xs with
        | none => rw [hx] at h; cases h
        | some l0 =>
          rw [hx] at h
          injection h with h
          subst h
          rcases ih.1 l0 hx with ⟨rfl, e⟩ | ⟨_, e⟩
          · refine .inr ⟨by simp, ?_⟩
            rw [e]; rfl
          · refine .inr ⟨by simp, ?_⟩
            rw [e]
            show addT ([] ++ [⟨bt l0, false, 0⟩]) (bt [c]) = _
            rw [addT_on rfl, bt_app]; rfl
      · cases hx : plainW xs with
        | some l0 => rw [hx] at h; cases h
        | none =>
          obtain ⟨p, hp, hv⟩ := ih.2 hx
          rcases last_cases (parts xs) with hc | ⟨qs, q, he, hq⟩
          · refine ⟨p, ?_, hv⟩
            show p ∈ addT (parts xs) (bt [c])
            rw [addT_new (by
              rintro q hq
              rcases hc with h | ⟨qs, r, h, hr⟩
              · rw [h] at hq; cases hq
              · rw [h] at hq; simp at hq; subst hq; exact hr)]
            simp [hp]
          · rw [he] at hp
            rcases List.mem_append.1 hp with h' | h'
            · refine ⟨p, ?_, hv⟩
              show p ∈ addT (parts xs) (bt [c])
              rw [he, addT_on hq]; simp [h']
            · rw [List.mem_singleton] at h'; subst h'; rw [hq] at hv; cases hv
/-- A word's value. -/
abbrev WdM.val (m : WdM) : Value := .agg #[.int .i64 (m.place : Int), m.v]
theorem row_nil0 {w : World} {B e z : Nat} {v : Value} {xs : List Value} (h : w.ownsRow B e z v 0 xs) : v = .slice none 0 0 ∨ ∃ g cap, v = .slice (some ⟨g, 0, none⟩) 0 cap := by
  rcases h.2 with ⟨rfl, _⟩ | ⟨g, cap, cur, rfl, _⟩
  · exact .inl rfl
  · exact .inr ⟨g, cap, rfl⟩
set_option maxHeartbeats 1000000 in
set_option maxRecDepth 10000 in
theorem plainM_any (m : WdM) (B : Nat) (w : World) (h : m.Ok w B) (hl : (parts m.xs).length ≤ 1500) :
    Calls Tryz.prog 79 #[m.val] w fun ev w' => ∃ t : ByteArray, ev = .returned (.tuple #[.string t, .bool (plainW m.xs).isSome]) ∧ Hid (t.data.toList = (plainW m.xs).getD []) ∧ Below w.heap.size w w' := by
  obtain ⟨place, v, xs⟩ := m
  have hp := parts_plain xs
  unfold WdM.Ok at h
  simp only at h hp hl ⊢
  cases hx : plainW xs with
  | some l =>
    rcases hp.1 l hx with ⟨rfl, e⟩ | ⟨hne, e⟩
    · rw [e] at h
      rcases row_nil0 h with rfl | ⟨g, cap, rfl⟩
      all_goals
        clear hp hx h e hl
        go_enter Tryz.func79, Tryz.ntmps79
        go_wp2_with fail
        go_ret2
        exact ⟨_, rfl, hide rfl, (Below.refl _ _).alloc (Nat.le_refl _) _⟩
    · rw [e] at h
      obtain ⟨g, cap, rfl, _, _⟩ := World.ownsRow.form h (by simp)
      have q0 : w.cell? ⟨g, 0, none⟩ = some (.string (bt l)) := by rw [World.ownsRow.cellAt h _ (by simp)]; rfl
      have q1 : w.cell? ⟨g, 1, none⟩ = some (.bool false) := by rw [World.ownsRow.cellAt h _ (by simp)]; rfl
      have n0 := World.new_ne w ⟨g, 0, none⟩ q0
      clear hp hx h e hl
      go_enter Tryz.func79, Tryz.ntmps79
      go_wp2_with fail
      go_ret2
      exact ⟨_, rfl, hide (bt_list l), (Below.refl _ _).alloc (Nat.le_refl _) _⟩
  | none =>
    obtain ⟨p, hpm, hv⟩ := hp.2 hx
    by_cases h1 : (parts xs).length = 1
    · have e : parts xs = [p] := by
        match hq : parts xs, h1 with
        | [q], _ => rw [hq] at hpm; simp at hpm; rw [hpm]
      rw [e] at h
      obtain ⟨g, cap, rfl, _, _⟩ := World.ownsRow.form h (by simp)
      have q1 : w.cell? ⟨g, 1, none⟩ = some (.bool true) := by rw [World.ownsRow.cellAt h _ (by simp)]; show some (Value.bool p.isVar) = _; rw [hv]
      have n0 := World.new_ne w ⟨g, 1, none⟩ q1
      clear hp hx h e hl h1 hpm hv
      go_enter Tryz.func79, Tryz.ntmps79
      go_wp2_with fail
      go_ret2
      exact ⟨_, rfl, hide rfl, (Below.refl _ _).alloc (Nat.le_refl _) _⟩
    · obtain ⟨n, hn⟩ : ∃ n, n = (parts xs).length := ⟨_, rfl⟩
      rw [← hn] at h h1 hl
      have h0 : 0 < n := by rw [hn]; exact List.length_pos_of_mem hpm
      obtain ⟨g, cap, rfl, _, _⟩ := World.ownsRow.form h h0
      have g1 : ¬ (n : Int) = 0 := by omega
      have g2 : ¬ (n : Int) = 1 := by omega
      have g3 : ((n : Int) == 0) = false := by simpa using g1
      have g4 : ((n : Int) == 1) = false := by simpa using g2
      clear hp hx h hn h1 hpm hv h0 g1 g2
      go_enter Tryz.func79, Tryz.ntmps79
      go_wp2_with fail
      go_ret2
      exact ⟨_, rfl, hide rfl, (Below.refl _ _).alloc (Nat.le_refl _) _⟩
set_option maxHeartbeats 1000000 in
set_option maxRecDepth 10000 in
theorem isM_any (m : WdM) (t : ByteArray) (B : Nat) (w : World) (h : m.Ok w B) (hl : (parts m.xs).length ≤ 1500) :
    Calls Tryz.prog 81 #[m.val, .string t] w fun ev w' => ev = .returned (.bool (plainW m.xs == some t.data.toList)) ∧ Below w.heap.size w w' := by
  have hb0 : Below w.heap.size w (w.alloc (.cells #[.int .i64 (m.place : Int), m.v] 133)) := (Below.refl _ _).alloc (Nat.le_refl _) _
  have hP := plainM_any m B (w.alloc (.cells #[.int .i64 (m.place : Int), m.v] 133)) (World.ownsRow.alloc h _) hl
  obtain ⟨ao, n', cap, hv⟩ := row_form h
  obtain ⟨place, v, xs⟩ := m
  simp only at hv hP hb0 ⊢
  subst hv
  clear h
  cases hx : plainW xs with
  | none =>
    rw [hx] at hP
    simp only [Option.isSome_none, Option.getD_none] at hP
    clear hx
    go_enter Tryz.func81, Tryz.ntmps81
    go_wp2_with (go_at_call 79; refine hP.mono ?_; clear hP; rintro ev w1 ⟨u, rfl, HU, hb1⟩)
    go_ret
    exact ⟨rfl, hb0.trans (hb1.mono hb0.size)⟩
  | some l =>
    rw [hx] at hP
    simp only [Option.isSome_some, Option.getD_some] at hP
    clear hx
    go_enter Tryz.func81, Tryz.ntmps81
    go_wp2_with (go_at_call 79; refine hP.mono ?_; clear hP; rintro ev w1 ⟨u, rfl, HU, hb1⟩)
    go_ret
    refine ⟨ret_bool ?_, hb0.trans (hb1.mono hb0.size)⟩
    rw [Lib.toList_data, Lib.toList_data, unhide HU, Bool.eq_iff_iff]; simp
end Go.Proofs.YtkikhmleffcajaaGreatDoor

namespace Go.Proofs.YtkikhmleffcajaaGreatDoor
open Go.RowKit Go.Maps

/-- A rule of an instruction. -/
def ruleT : Nat → (Int × Int × Nat × Nat)
  | 0 => (1, 3, 88, 89)
  | 1 => (2, 3, 90, 91)
  | 2 => (2, 2, 92, 93)
  | 3 => (1, 1, 92, 94)
  | 4 => (1, 2, 95, 96)
  | 5 => (2, 2, 92, 97)
  | 6 => (2, 2, 98, 99)
  | _ => (1, 1, 92, 100)
def ruleV (i : Nat) : Value := .agg #[.int .i64 (ruleT i).1, .int .i64 (ruleT i).2.1, .func (.func (ruleT i).2.2.1) #[] #[], .func (.func (ruleT i).2.2.2) #[] #[]]
theorem ruleT_inj : ∀ i, i < 8 → ∀ j, j < 8 → (ruleT i).2.2.2 = (ruleT j).2.2.2 → i = j := by decide
theorem ruleV_inj {i j : Nat} (hi : i < 8) (hj : j < 8) (h : ruleV i = ruleV j) : i = j := by
  refine ruleT_inj i hi j hj ?_
  unfold ruleV at h
  injection h with h
  injection h with h
  simp only [List.cons.injEq, and_true] at h
  obtain ⟨_, _, _, h⟩ := h
  injection h with h
  injection h
def RR : Value → Option (DataW Unit × List MemPlace)
  | .agg ⟨[.int .i64 a, .int .i64 b, .func (.func f) ⟨[]⟩ ⟨[]⟩, .func (.func g) ⟨[]⟩ ⟨[]⟩]⟩ => ((List.range 8).find? fun i => decide (ruleT i = (a, b, f, g))).map fun i : Nat => (.lit (.int .i64 (i : Int)), [])
  | _ => none
theorem RR_rule {i : Nat} (hi : i < 8) : RR (ruleV i) = some (.lit (.int .i64 (i : Int)), []) := by
  rcases i with _ | _ | _ | _ | _ | _ | _ | _ | i <;> first | rfl | omega
theorem RR_inv {v : Value} {y : DataW Unit × List MemPlace} (h : RR v = some y) : ∃ i : Nat, i < 8 ∧ v = ruleV i ∧ y.1 = .lit (.int .i64 (i : Int)) := by
  unfold RR at h
  split at h
  · rename_i a b f g
    obtain ⟨i, hi, rfl⟩ := Option.map_eq_some_iff.1 h
    have h2 := List.find?_some hi
    have h1 := List.mem_range.1 (List.mem_of_find?_eq_some hi)
    rw [decide_eq_true_eq] at h2
    exact ⟨i, h1, by unfold ruleV; rw [h2], rfl⟩
  · cases h
def DK (L : List (List UInt8 × Nat)) : DataW Unit := .map (L.map fun p => (Lit.string p.1, DataW.lit (.int .i64 (p.2 : Int))))
theorem DK_at (L : List (List UInt8 × Nat)) (x : List UInt8) (zd : DataW Unit) : (DK L).atKey (.string x) zd = match L.find? (fun p => p.1 == x) with | some p => .lit (.int .i64 (p.2 : Int)) | none => zd := by
  induction L with
  | nil => rfl
  | cons p r ih =>
    simp only [DK, DataW.atKey, List.map_cons, List.find?_cons] at ih ⊢
    by_cases h : p.1 = x
    · subst h; simp [Lit.sameKey]
    · have h1 : (Lit.string p.1).sameKey (Lit.string x) = false := by simp [Lit.sameKey, h]
      have h2 : (p.1 == x) = false := by simp [h]
      rw [h1, h2]
      exact ih
/-- The instructions' words, and the numbers of their rules. -/
def tbl : List (List UInt8 × Nat) := [([65, 68, 68], 2), ([67, 79, 80, 89], 1), ([69, 78, 86], 6), ([70, 82, 79, 77], 0), ([76, 73, 78, 75], 5), ([77, 75, 68, 73, 82], 4), ([82, 77], 3), ([87, 79, 82, 75, 68, 73, 82], 7)]
/-- The number of the rule of an instruction's word. -/
def opN (t : List UInt8) : Option Nat := (tbl.find? (fun p => p.1 == t)).map (·.2)
theorem opN_lt {t : List UInt8} {i : Nat} (h : opN t = some i) : i < 8 := by
  unfold opN at h
  cases hf : tbl.find? (fun p => p.1 == t) with
  | none => rw [hf] at h; cases h
  | some p =>
    rw [hf] at h
    injection h with h
    have hm := List.mem_of_find?_eq_some hf
    have : ∀ p ∈ tbl, p.2 < 8 := by decide
    rw [← h]; exact this p hm
theorem tbl_put : ((((((((DataW.map (H := Unit) []).put (.string [70, 82, 79, 77]) (.lit (.int .i64 0))).put (.string [67, 79, 80, 89]) (.lit (.int .i64 1))).put (.string [65, 68, 68]) (.lit (.int .i64 2))).put (.string [82, 77]) (.lit (.int .i64 3))).put (.string [77, 75, 68, 73, 82]) (.lit (.int .i64 4))).put (.string [76, 73, 78, 75]) (.lit (.int .i64 5))).put (.string [69, 78, 86]) (.lit (.int .i64 6))).put (.string [87, 79, 82, 75, 68, 73, 82]) (.lit (.int .i64 7)) = DK tbl := by kernel_rfl
/-- The table of instructions in memory. -/
def TM (w : World) (b n : Nat) : Prop := w.ownsMap Tryz.prog 9 RR b n (DK tbl)
theorem TM.look {w : World} {b n : Nat} (h : TM w b n) (s : ByteArray) (hs : s.size ≤ 1073741824) :
    (opN s.data.toList = none ∧ (Instr.lookup 165 (.map (some b)) (.string s) true).run Tryz.prog w = .ok (.tuple #[.agg #[.int .i64 0, .int .i64 0, .nilFunc, .nilFunc], .bool false]) w) ∨
    ∃ i : Nat, opN s.data.toList = some i ∧ (Instr.lookup 165 (.map (some b)) (.string s) true).run Tryz.prog w = .ok (.tuple #[ruleV i, .bool true]) w := by
  obtain ⟨es, clock, hb, F, _, hD⟩ := h
  have hkey : keyOf Tryz.prog 9 (.string s) = some (.string s.data.toList) := WideMaps.keyOf_string_mk Tryz.underlying9 (by unfold maxLen; omega)
  rcases Maps.fit_look true (Maps.string_keyed Tryz.underlying9) Tryz.underlying165 (Tryz.zeroValue97 w) hb F hkey with ⟨hrun, _, hat⟩ | ⟨e0, y, _, _, hrun, hRv, hat, _⟩
  · refine .inl ⟨?_, hrun⟩
    rw [← hD] at hat
    have h1 := hat .nil
    rw [DK_at] at h1
    unfold opN
    cases hf : tbl.find? (fun p => p.1 == s.data.toList) with
    | none => rfl
    | some z => rw [hf] at h1; cases h1
  · rw [← hD] at hat
    have h1 := hat .nil
    rw [DK_at] at h1
    obtain ⟨q, hq, hv, hy⟩ := RR_inv hRv
    unfold opN
    cases hf : tbl.find? (fun p => p.1 == s.data.toList) with
    | none =>
      rw [hf] at h1
      rw [hy] at h1
      cases h1
    | some z =>
      rw [hf, hy] at h1
      have hz : z.2 = q := by
        have h2 : ((z.2 : Nat) : Int) = (q : Int) := by
          simp only [DataW.lit.injEq, Lit.int.injEq, true_and] at h1
          exact h1
        omega
      refine .inr ⟨q, by rw [← hz]; rfl, ?_⟩
      rw [hrun, hv]; rfl
end Go.Proofs.YtkikhmleffcajaaGreatDoor

namespace Go.Proofs.YtkikhmleffcajaaGreatDoor
open Go.RowKit Go.Maps

set_option maxHeartbeats 2000000 in
set_option maxRecDepth 10000 in
theorem rules_any (w : World) :
    Calls Tryz.prog 80 #[] w fun ev w' => ∃ b : Nat, ev = .returned (.map (some b)) ∧ w.heap.size ≤ b ∧ TM w' b 8 ∧ Below w.heap.size w w' := by
  have hmm := @run_makeMap Tryz.prog
  have o0 := World.ownsMap_made w Tryz.prog 9 RR
  have hb0 : Below w.heap.size w (w.alloc (.map #[] 0)) := (Below.refl _ _).alloc (Nat.le_refl _) _
  obtain ⟨w1, r1, o1, g1⟩ := World.ownsMap.update o0 (Maps.string_keyed Tryz.underlying9) Tryz.underlying165 (by unfold maxLen; omega) (key := .string ⟨#[70, 82, 79, 77]⟩) (kl := .string [70, 82, 79, 77]) (WideMaps.keyOf_string_mk Tryz.underlying9 (s := ⟨#[70, 82, 79, 77]⟩) (by unfold maxLen; decide)) (RR_rule (i := 0) (by decide))
  obtain ⟨w2, r2, o2, g2⟩ := World.ownsMap.update o1 (Maps.string_keyed Tryz.underlying9) Tryz.underlying165 (by unfold maxLen; omega) (key := .string ⟨#[67, 79, 80, 89]⟩) (kl := .string [67, 79, 80, 89]) (WideMaps.keyOf_string_mk Tryz.underlying9 (s := ⟨#[67, 79, 80, 89]⟩) (by unfold maxLen; decide)) (RR_rule (i := 1) (by decide))
  obtain ⟨w3, r3, o3, g3⟩ := World.ownsMap.update o2 (Maps.string_keyed Tryz.underlying9) Tryz.underlying165 (by unfold maxLen; omega) (key := .string ⟨#[65, 68, 68]⟩) (kl := .string [65, 68, 68]) (WideMaps.keyOf_string_mk Tryz.underlying9 (s := ⟨#[65, 68, 68]⟩) (by unfold maxLen; decide)) (RR_rule (i := 2) (by decide))
  obtain ⟨w4, r4, o4, g4⟩ := World.ownsMap.update o3 (Maps.string_keyed Tryz.underlying9) Tryz.underlying165 (by unfold maxLen; omega) (key := .string ⟨#[82, 77]⟩) (kl := .string [82, 77]) (WideMaps.keyOf_string_mk Tryz.underlying9 (s := ⟨#[82, 77]⟩) (by unfold maxLen; decide)) (RR_rule (i := 3) (by decide))
  obtain ⟨w5, r5, o5, g5⟩ := World.ownsMap.update o4 (Maps.string_keyed Tryz.underlying9) Tryz.underlying165 (by unfold maxLen; omega) (key := .string ⟨#[77, 75, 68, 73, 82]⟩) (kl := .string [77, 75, 68, 73, 82]) (WideMaps.keyOf_string_mk Tryz.underlying9 (s := ⟨#[77, 75, 68, 73, 82]⟩) (by unfold maxLen; decide)) (RR_rule (i := 4) (by decide))
  obtain ⟨w6, r6, o6, g6⟩ := World.ownsMap.update o5 (Maps.string_keyed Tryz.underlying9) Tryz.underlying165 (by unfold maxLen; omega) (key := .string ⟨#[76, 73, 78, 75]⟩) (kl := .string [76, 73, 78, 75]) (WideMaps.keyOf_string_mk Tryz.underlying9 (s := ⟨#[76, 73, 78, 75]⟩) (by unfold maxLen; decide)) (RR_rule (i := 5) (by decide))
  obtain ⟨w7, r7, o7, g7⟩ := World.ownsMap.update o6 (Maps.string_keyed Tryz.underlying9) Tryz.underlying165 (by unfold maxLen; omega) (key := .string ⟨#[69, 78, 86]⟩) (kl := .string [69, 78, 86]) (WideMaps.keyOf_string_mk Tryz.underlying9 (s := ⟨#[69, 78, 86]⟩) (by unfold maxLen; decide)) (RR_rule (i := 6) (by decide))
  obtain ⟨w8, r8, o8, g8⟩ := World.ownsMap.update o7 (Maps.string_keyed Tryz.underlying9) Tryz.underlying165 (by unfold maxLen; omega) (key := .string ⟨#[87, 79, 82, 75, 68, 73, 82]⟩) (kl := .string [87, 79, 82, 75, 68, 73, 82]) (WideMaps.keyOf_string_mk Tryz.underlying9 (s := ⟨#[87, 79, 82, 75, 68, 73, 82]⟩) (by unfold maxLen; decide)) (RR_rule (i := 7) (by decide))
  have hB1 := hb0.grown g1 hb0.size (fun q hq => by cases hq; exact Nat.le_refl _)
  have hB2 := hB1.grown g2 hB1.size (fun q hq => by cases hq; exact Nat.le_refl _)
  have hB3 := hB2.grown g3 hB2.size (fun q hq => by cases hq; exact Nat.le_refl _)
  have hB4 := hB3.grown g4 hB3.size (fun q hq => by cases hq; exact Nat.le_refl _)
  have hB5 := hB4.grown g5 hB4.size (fun q hq => by cases hq; exact Nat.le_refl _)
  have hB6 := hB5.grown g6 hB5.size (fun q hq => by cases hq; exact Nat.le_refl _)
  have hB7 := hB6.grown g7 hB6.size (fun q hq => by cases hq; exact Nat.le_refl _)
  have hB8 := hB7.grown g8 hB7.size (fun q hq => by cases hq; exact Nat.le_refl _)
  have HO : Hid (TM w8 w.heap.size 8) := hide (by unfold TM; rw [← tbl_put]; exact o8)
  unfold ruleV at r1 r2 r3 r4 r5 r6 r7 r8
  simp only [ruleT] at r1 r2 r3 r4 r5 r6 r7 r8
  clear o0 o1 o2 o3 o4 o5 o6 o7 o8 g1 g2 g3 g4 g5 g6 g7 g8 hB1 hB2 hB3 hB4 hB5 hB6 hB7 hb0
  go_enter Tryz.func80, Tryz.ntmps80
  go_wp2_with fail
  go_ret
  exact ⟨_, rfl, Nat.le_refl _, unhide HO, hB8⟩
end Go.Proofs.YtkikhmleffcajaaGreatDoor

namespace Go.Proofs.YtkikhmleffcajaaGreatDoor
open Go.RowKit Go.Maps

/-- No rule. -/
abbrev rule0 : Value := .agg #[.int .i64 0, .int .i64 0, .nilFunc, .nilFunc]
/-- The number of an instruction's rule, by its first word. -/
def opW (xs : List Atm) : Option Nat := (plainW xs).bind opN
theorem set4b {w : World} {b : Nat} {t : TypeId} {a0 a1 a2 a3 : Value} (b0 b1 b2 b3 : Value) (h : w.heap[b]? = some (.cells #[a0, a1, a2, a3] t (0, 0))) :
    ((((w.setCell ⟨b, 0, none⟩ b0).setCell ⟨b, 1, none⟩ b1).setCell ⟨b, 2, none⟩ b2).setCell ⟨b, 3, none⟩ b3).heap[b]? = some (.cells #[b0, b1, b2, b3] t (0, 0)) :=
  heap_setCell_same _ _ 3 _ _ _ (heap_setCell_same _ _ 2 _ _ _ (heap_setCell_same _ _ 1 _ _ _ (heap_setCell_same _ _ 0 _ _ _ h)))
theorem below_set4 {B : Nat} {w w1 : World} {b : Nat} (b0 b1 b2 b3 : Value) (h : Below B w w1) (hb : B ≤ b) : Below B w ((((w1.setCell ⟨b, 0, none⟩ b0).setCell ⟨b, 1, none⟩ b1).setCell ⟨b, 2, none⟩ b2).setCell ⟨b, 3, none⟩ b3) :=
  (((h.setCell (p := ⟨b, 0, none⟩) hb _).setCell (p := ⟨b, 1, none⟩) hb _).setCell (p := ⟨b, 2, none⟩) hb _).setCell (p := ⟨b, 3, none⟩) hb _
set_option maxHeartbeats 2000000 in
set_option maxRecDepth 10000 in
theorem ruleOf_none (m : WdM) (B : Nat) (w : World) (h : m.Ok w B) (hl : (parts m.xs).length ≤ 1500) (hz : ∀ t, plainW m.xs = some t → t.length ≤ 1500) (ho : opW m.xs = none) :
    Calls Tryz.prog 69 #[m.val] w fun ev w' => ev = .returned (.tuple #[rule0, .bool false]) ∧ Below w.heap.size w w' := by
  obtain ⟨W0, hW0⟩ : ∃ W0, W0 = (w.alloc (.cells #[.int .i64 (m.place : Int), m.v] 133)).alloc (.cells #[.int .i64 0, .int .i64 0, .nilFunc, .nilFunc] 97) := ⟨_, rfl⟩
  have hb0 : Below w.heap.size w W0 := by rw [hW0]; exact ((Below.refl _ _).alloc (Nat.le_refl _) _).alloc (by simp) _
  have hP := plainM_any m B W0 (by rw [hW0]; exact World.ownsRow.alloc (World.ownsRow.alloc h _) _) hl
  have hc0 : W0.heap[w.heap.size]? = some (.cells #[.int .i64 (m.place : Int), m.v] 133 (0, 0)) := by
    rw [hW0, Below.heap_alloc _ _ _ (by simp)]; exact heap_alloc_new _ _
  have hr0 : W0.heap[w.heap.size + 1]? = some (.cells #[.int .i64 0, .int .i64 0, .nilFunc, .nilFunc] 97 (0, 0)) := by
    have := heap_alloc_new (w.alloc (.cells #[.int .i64 (m.place : Int), m.v] 133)) (.cells #[.int .i64 0, .int .i64 0, .nilFunc, .nilFunc] 97)
    rw [World.size_alloc, ← hW0] at this
    exact this
  have hz0 : W0.heap.size = w.heap.size + 2 := by rw [hW0]; simp
  obtain ⟨ao, n', cap, hv⟩ := row_form h
  obtain ⟨place, v, xs⟩ := m
  simp only at hv hP hc0 hW0 ho hz ⊢
  subst hv
  have q0 : W0.cell? ⟨w.heap.size, 0, none⟩ = some (.int .i64 (place : Int)) := cell_of_row _ _ 0 _ _ _ hc0
  have q1 : W0.cell? ⟨w.heap.size, 1, none⟩ = some (.slice ao n' cap) := cell_of_row _ _ 1 _ _ _ hc0
  have HR0 := hide hr0
  have HZ0 := hide hz0
  clear h hc0 hr0 hz0
  go_enter Tryz.func69, Tryz.ntmps69
  go_upto_region 1 with fail
  rw [← hW0]
  clear hW0
  have fin : ∀ w1, Below W0.heap.size W0 w1 → w1.heap[w.heap.size + 1]? = some (.cells #[.int .i64 0, .int .i64 0, .nilFunc, .nilFunc] 97 (0, 0)) := fun w1 hb1 => (hb1.block _ (by have := unhide HZ0; omega)).trans (unhide HR0)
  have FIN := hide fin
  clear fin
  cases hx : plainW xs with
  | none =>
    rw [hx] at hP
    simp only [Option.isSome_none, Option.getD_none] at hP
    clear hx
    go_upto_region 3 with (go_at_call 79; refine hP.mono ?_; clear hP; rintro ev w1 ⟨u, rfl, HU, hb1⟩)
    have hr1 := unhide FIN w1 hb1
    have c0 : w1.cell? ⟨w.heap.size + 1, 0, none⟩ = some (.int .i64 0) := cell_of_row _ _ 0 _ _ _ hr1
    have c1 : w1.cell? ⟨w.heap.size + 1, 1, none⟩ = some (.int .i64 0) := cell_of_row _ _ 1 _ _ _ hr1
    have c2 : w1.cell? ⟨w.heap.size + 1, 2, none⟩ = some .nilFunc := cell_of_row _ _ 2 _ _ _ hr1
    have c3 : w1.cell? ⟨w.heap.size + 1, 3, none⟩ = some .nilFunc := cell_of_row _ _ 3 _ _ _ hr1
    have f : ∀ i, w1.frozen? ⟨w.heap.size + 1, i, none⟩ = false := fun i => by simp [World.frozen?, hr1]
    have f0 := f 0
    have f1 := f 1
    have f2 := f 2
    have f3 := f 3
    have HR1 := hide hr1
    clear f hr1
    go_wp2_with fail
    obtain ⟨W9, hW9⟩ : ∃ W9, W9 = (((w1.setCell ⟨w.heap.size + 1, 0, none⟩ (.int .i64 0)).setCell ⟨w.heap.size + 1, 1, none⟩ (.int .i64 0)).setCell ⟨w.heap.size + 1, 2, none⟩ .nilFunc).setCell ⟨w.heap.size + 1, 3, none⟩ .nilFunc := ⟨_, rfl⟩
    rw [← hW9]
    have hr9 : W9.heap[w.heap.size + 1]? = some (.cells #[.int .i64 0, .int .i64 0, .nilFunc, .nilFunc] 97 (0, 0)) := by rw [hW9]; exact set4b _ _ _ _ (unhide HR1)
    have d0 : W9.cell? ⟨w.heap.size + 1, 0, none⟩ = some (.int .i64 0) := cell_of_row _ _ 0 _ _ _ hr9
    have d1 : W9.cell? ⟨w.heap.size + 1, 1, none⟩ = some (.int .i64 0) := cell_of_row _ _ 1 _ _ _ hr9
    have d2 : W9.cell? ⟨w.heap.size + 1, 2, none⟩ = some .nilFunc := cell_of_row _ _ 2 _ _ _ hr9
    have d3 : W9.cell? ⟨w.heap.size + 1, 3, none⟩ = some .nilFunc := cell_of_row _ _ 3 _ _ _ hr9
    refine bodyPost_ret (v := .tuple #[rule0, .bool false]) (by simp [results, Tryz.results69, go_sem, d0, d1, d2, d3]) rfl ⟨rfl, ?_⟩
    rw [hW9]
    exact below_set4 _ _ _ _ (hb0.trans (hb1.mono hb0.size)) (by omega)
  | some t =>
    rw [hx] at hP
    simp only [Option.isSome_some, Option.getD_some] at hP
    have hot : opN t = none := by unfold opW at ho; rw [hx] at ho; exact ho
    have htl := hz t hx
    have hRu := fun w' => rules_any w'
    clear hx ho
    go_upto_region 5 with (first
      | (go_at_call 79; refine hP.mono ?_; clear hP; rintro ev w1 ⟨u, rfl, HU, hb1⟩; have HUS : Hid (u.size ≤ 1500) := hide (by rw [Lib.size_eq, unhide HU]; omega))
      | (go_at_call 80; refine (hRu _).mono ?_; clear hRu; rintro ev w2 ⟨mb, rfl, hmb, hTM, hb2⟩; have hlk : (Instr.lookup 165 (.map (some mb)) (.string u) true).run Tryz.prog w2 = .ok (.tuple #[.agg #[.int .i64 0, .int .i64 0, .nilFunc, .nilFunc], .bool false]) w2 := (by rcases hTM.look u (by have := unhide HUS; omega) with h | ⟨i, h, _⟩; exact h.2; rw [unhide HU, hot] at h; cases h); clear hTM))
    obtain ⟨W3, hW3⟩ : ∃ W3, W3 = w2.alloc (.cells #[.int .i64 0, .int .i64 0, .nilFunc, .nilFunc] 97) := ⟨_, rfl⟩
    rw [← hW3]
    have hb3 : Below w2.heap.size w2 W3 := by rw [hW3]; exact (Below.refl _ _).alloc (Nat.le_refl _) _
    have hl3 : W3.heap[w2.heap.size]? = some (.cells #[.int .i64 0, .int .i64 0, .nilFunc, .nilFunc] 97 (0, 0)) := by rw [hW3]; exact heap_alloc_new _ _
    have hb13 : Below W0.heap.size W0 W3 := (hb1.trans (hb2.mono hb1.size)).trans (hb3.mono (Nat.le_trans hb1.size hb2.size))
    have hr1 := unhide FIN W3 hb13
    have hne : w.heap.size + 1 ≠ w2.heap.size := by have := unhide HZ0; have := hb1.size; have := hb2.size; omega
    have p0 : W3.cell? ⟨w2.heap.size, 0, none⟩ = some (.int .i64 0) := cell_of_row _ _ 0 _ _ _ hl3
    have p1 : W3.cell? ⟨w2.heap.size, 1, none⟩ = some (.int .i64 0) := cell_of_row _ _ 1 _ _ _ hl3
    have p2 : W3.cell? ⟨w2.heap.size, 2, none⟩ = some (.nilFunc) := cell_of_row _ _ 2 _ _ _ hl3
    have p3 : W3.cell? ⟨w2.heap.size, 3, none⟩ = some (.nilFunc) := cell_of_row _ _ 3 _ _ _ hl3
    have c0 : W3.cell? ⟨w.heap.size + 1, 0, none⟩ = some (.int .i64 0) := cell_of_row _ _ 0 _ _ _ hr1
    have c1 : W3.cell? ⟨w.heap.size + 1, 1, none⟩ = some (.int .i64 0) := cell_of_row _ _ 1 _ _ _ hr1
    have c2 : W3.cell? ⟨w.heap.size + 1, 2, none⟩ = some (.nilFunc) := cell_of_row _ _ 2 _ _ _ hr1
    have c3 : W3.cell? ⟨w.heap.size + 1, 3, none⟩ = some (.nilFunc) := cell_of_row _ _ 3 _ _ _ hr1
    have f : ∀ i, W3.frozen? ⟨w.heap.size + 1, i, none⟩ = false := fun i => by simp [World.frozen?, hr1]
    have f0 := f 0
    have f1 := f 1
    have f2 := f 2
    have f3 := f 3
    have HR1 := hide hr1
    clear f hr1 hl3 hW3
    go_wp2_with fail
    obtain ⟨W9, hW9⟩ : ∃ W9, W9 = (((W3.setCell ⟨w.heap.size + 1, 0, none⟩ (.int .i64 0)).setCell ⟨w.heap.size + 1, 1, none⟩ (.int .i64 0)).setCell ⟨w.heap.size + 1, 2, none⟩ (.nilFunc)).setCell ⟨w.heap.size + 1, 3, none⟩ (.nilFunc) := ⟨_, rfl⟩
    rw [← hW9]
    have hr9 : W9.heap[w.heap.size + 1]? = some (.cells #[.int .i64 0, .int .i64 0, .nilFunc, .nilFunc] 97 (0, 0)) := by rw [hW9]; exact set4b _ _ _ _ (unhide HR1)
    have d0 : W9.cell? ⟨w.heap.size + 1, 0, none⟩ = some (.int .i64 0) := cell_of_row _ _ 0 _ _ _ hr9
    have d1 : W9.cell? ⟨w.heap.size + 1, 1, none⟩ = some (.int .i64 0) := cell_of_row _ _ 1 _ _ _ hr9
    have d2 : W9.cell? ⟨w.heap.size + 1, 2, none⟩ = some (.nilFunc) := cell_of_row _ _ 2 _ _ _ hr9
    have d3 : W9.cell? ⟨w.heap.size + 1, 3, none⟩ = some (.nilFunc) := cell_of_row _ _ 3 _ _ _ hr9
    refine bodyPost_ret (v := .tuple #[.agg #[.int .i64 0, .int .i64 0, .nilFunc, .nilFunc], .bool false]) (by simp [results, Tryz.results69, go_sem, d0, d1, d2, d3]) rfl ⟨rfl, ?_⟩
    rw [hW9]
    exact below_set4 _ _ _ _ (hb0.trans (hb13.mono hb0.size)) (by omega)
set_option maxHeartbeats 2000000 in
set_option maxRecDepth 10000 in
theorem ruleOf_some (m : WdM) (B : Nat) (w : World) (h : m.Ok w B) (hl : (parts m.xs).length ≤ 1500) (hz : ∀ t, plainW m.xs = some t → t.length ≤ 1500) (t : List UInt8) (i : Nat) (hx : plainW m.xs = some t) (hot : opN t = some i) :
    Calls Tryz.prog 69 #[m.val] w fun ev w' => ev = .returned (.tuple #[ruleV i, .bool true]) ∧ Below w.heap.size w w' := by
  obtain ⟨W0, hW0⟩ : ∃ W0, W0 = (w.alloc (.cells #[.int .i64 (m.place : Int), m.v] 133)).alloc (.cells #[.int .i64 0, .int .i64 0, .nilFunc, .nilFunc] 97) := ⟨_, rfl⟩
  have hb0 : Below w.heap.size w W0 := by rw [hW0]; exact ((Below.refl _ _).alloc (Nat.le_refl _) _).alloc (by simp) _
  have hP := plainM_any m B W0 (by rw [hW0]; exact World.ownsRow.alloc (World.ownsRow.alloc h _) _) hl
  have hc0 : W0.heap[w.heap.size]? = some (.cells #[.int .i64 (m.place : Int), m.v] 133 (0, 0)) := by
    rw [hW0, Below.heap_alloc _ _ _ (by simp)]; exact heap_alloc_new _ _
  have hr0 : W0.heap[w.heap.size + 1]? = some (.cells #[.int .i64 0, .int .i64 0, .nilFunc, .nilFunc] 97 (0, 0)) := by
    have := heap_alloc_new (w.alloc (.cells #[.int .i64 (m.place : Int), m.v] 133)) (.cells #[.int .i64 0, .int .i64 0, .nilFunc, .nilFunc] 97)
    rw [World.size_alloc, ← hW0] at this
    exact this
  have hz0 : W0.heap.size = w.heap.size + 2 := by rw [hW0]; simp
  obtain ⟨ao, n', cap, hv⟩ := row_form h
  obtain ⟨place, v, xs⟩ := m
  simp only at hv hP hc0 hW0 hx hz ⊢
  subst hv
  have q0 : W0.cell? ⟨w.heap.size, 0, none⟩ = some (.int .i64 (place : Int)) := cell_of_row _ _ 0 _ _ _ hc0
  have q1 : W0.cell? ⟨w.heap.size, 1, none⟩ = some (.slice ao n' cap) := cell_of_row _ _ 1 _ _ _ hc0
  have HR0 := hide hr0
  have HZ0 := hide hz0
  clear h hc0 hr0 hz0
  have htl := hz t hx
  obtain ⟨ra, rbb, rf, rg, hrv⟩ : ∃ ra rbb rf rg, ruleV i = .agg #[.int .i64 ra, .int .i64 rbb, .func (.func rf) #[] #[], .func (.func rg) #[] #[]] := ⟨_, _, _, _, rfl⟩
  rw [hx] at hP
  simp only [Option.isSome_some, Option.getD_some] at hP
  have hRu := fun w' => rules_any w'
  have HRV := hide hrv
  rw [hrv]
  clear hx hrv
  go_enter Tryz.func69, Tryz.ntmps69
  go_upto_region 1 with fail
  rw [← hW0]
  clear hW0
  have fin : ∀ w1, Below W0.heap.size W0 w1 → w1.heap[w.heap.size + 1]? = some (.cells #[.int .i64 0, .int .i64 0, .nilFunc, .nilFunc] 97 (0, 0)) := fun w1 hb1 => (hb1.block _ (by have := unhide HZ0; omega)).trans (unhide HR0)
  have FIN := hide fin
  clear fin
  go_upto_region 5 with (first
    | (go_at_call 79; refine hP.mono ?_; clear hP; rintro ev w1 ⟨u, rfl, HU, hb1⟩; have HUS : Hid (u.size ≤ 1500) := hide (by rw [Lib.size_eq, unhide HU]; omega))
    | (go_at_call 80; refine (hRu _).mono ?_; clear hRu; rintro ev w2 ⟨mb, rfl, hmb, hTM, hb2⟩; have hlk : (Instr.lookup 165 (.map (some mb)) (.string u) true).run Tryz.prog w2 = .ok (.tuple #[.agg #[.int .i64 ra, .int .i64 rbb, .func (.func rf) #[] #[], .func (.func rg) #[] #[]], .bool true]) w2 := (by rcases hTM.look u (by have := unhide HUS; omega) with h | ⟨i', h, h'⟩; rw [unhide HU, hot] at h; cases h.1; rw [unhide HU, hot] at h; cases h; rw [h', unhide HRV]); clear hTM))
  obtain ⟨W3, hW3⟩ : ∃ W3, W3 = w2.alloc (.cells #[.int .i64 ra, .int .i64 rbb, .func (.func rf) #[] #[], .func (.func rg) #[] #[]] 97) := ⟨_, rfl⟩
  rw [← hW3]
  have hb3 : Below w2.heap.size w2 W3 := by rw [hW3]; exact (Below.refl _ _).alloc (Nat.le_refl _) _
  have hl3 : W3.heap[w2.heap.size]? = some (.cells #[.int .i64 ra, .int .i64 rbb, .func (.func rf) #[] #[], .func (.func rg) #[] #[]] 97 (0, 0)) := by rw [hW3]; exact heap_alloc_new _ _
  have hb13 : Below W0.heap.size W0 W3 := (hb1.trans (hb2.mono hb1.size)).trans (hb3.mono (Nat.le_trans hb1.size hb2.size))
  have hr1 := unhide FIN W3 hb13
  have hne : w.heap.size + 1 ≠ w2.heap.size := by have := unhide HZ0; have := hb1.size; have := hb2.size; omega
  have p0 : W3.cell? ⟨w2.heap.size, 0, none⟩ = some (.int .i64 ra) := cell_of_row _ _ 0 _ _ _ hl3
  have p1 : W3.cell? ⟨w2.heap.size, 1, none⟩ = some (.int .i64 rbb) := cell_of_row _ _ 1 _ _ _ hl3
  have p2 : W3.cell? ⟨w2.heap.size, 2, none⟩ = some (.func (.func rf) #[] #[]) := cell_of_row _ _ 2 _ _ _ hl3
  have p3 : W3.cell? ⟨w2.heap.size, 3, none⟩ = some (.func (.func rg) #[] #[]) := cell_of_row _ _ 3 _ _ _ hl3
  have c0 : W3.cell? ⟨w.heap.size + 1, 0, none⟩ = some (.int .i64 0) := cell_of_row _ _ 0 _ _ _ hr1
  have c1 : W3.cell? ⟨w.heap.size + 1, 1, none⟩ = some (.int .i64 0) := cell_of_row _ _ 1 _ _ _ hr1
  have c2 : W3.cell? ⟨w.heap.size + 1, 2, none⟩ = some (.nilFunc) := cell_of_row _ _ 2 _ _ _ hr1
  have c3 : W3.cell? ⟨w.heap.size + 1, 3, none⟩ = some (.nilFunc) := cell_of_row _ _ 3 _ _ _ hr1
  have f : ∀ i, W3.frozen? ⟨w.heap.size + 1, i, none⟩ = false := fun i => by simp [World.frozen?, hr1]
  have f0 := f 0
  have f1 := f 1
  have f2 := f 2
  have f3 := f 3
  have HR1 := hide hr1
  clear f hr1 hl3 hW3
  go_wp2_with fail
  obtain ⟨W9, hW9⟩ : ∃ W9, W9 = (((W3.setCell ⟨w.heap.size + 1, 0, none⟩ (.int .i64 ra)).setCell ⟨w.heap.size + 1, 1, none⟩ (.int .i64 rbb)).setCell ⟨w.heap.size + 1, 2, none⟩ (.func (.func rf) #[] #[])).setCell ⟨w.heap.size + 1, 3, none⟩ (.func (.func rg) #[] #[]) := ⟨_, rfl⟩
  rw [← hW9]
  have hr9 : W9.heap[w.heap.size + 1]? = some (.cells #[.int .i64 ra, .int .i64 rbb, .func (.func rf) #[] #[], .func (.func rg) #[] #[]] 97 (0, 0)) := by rw [hW9]; exact set4b _ _ _ _ (unhide HR1)
  have d0 : W9.cell? ⟨w.heap.size + 1, 0, none⟩ = some (.int .i64 ra) := cell_of_row _ _ 0 _ _ _ hr9
  have d1 : W9.cell? ⟨w.heap.size + 1, 1, none⟩ = some (.int .i64 rbb) := cell_of_row _ _ 1 _ _ _ hr9
  have d2 : W9.cell? ⟨w.heap.size + 1, 2, none⟩ = some (.func (.func rf) #[] #[]) := cell_of_row _ _ 2 _ _ _ hr9
  have d3 : W9.cell? ⟨w.heap.size + 1, 3, none⟩ = some (.func (.func rg) #[] #[]) := cell_of_row _ _ 3 _ _ _ hr9
  refine bodyPost_ret (v := .tuple #[.agg #[.int .i64 ra, .int .i64 rbb, .func (.func rf) #[] #[], .func (.func rg) #[] #[]], .bool true]) (by simp [results, Tryz.results69, go_sem, d0, d1, d2, d3]) rfl ⟨rfl, ?_⟩
  rw [hW9]
  exact below_set4 _ _ _ _ (hb0.trans (hb13.mono hb0.size)) (by omega)
end Go.Proofs.YtkikhmleffcajaaGreatDoor

namespace Go.Proofs.YtkikhmleffcajaaGreatDoor
open Go.RowKit Go.Maps

theorem info99 : (Tryz.prog.info? 99).map (fun i => (i.zero, i.size, i.bytes)) = some (some (.agg #[.slice none 0 0, .int .i64 0, .int .i64 0, .int .i64 0, .nilFunc, .nilFunc]), 6, 64) := by kernel_rfl
theorem info106 : (Tryz.prog.info? 103).map (fun i => (i.zero, i.size, i.bytes)) = some (some (.agg #[.string ByteArray.empty, .slice none 0 0]), 2, 40) := by kernel_rfl
/-- An instruction in memory: its words, the stage, the number of its rule. -/
structure InM where
  wv : Value
  ws : List WdM
  stage : Int
  rule : Nat
abbrev fnV (f : Nat) : Value := .func (.func f) #[] #[]
def InM.cells (m : InM) : List Value := [m.wv, .int .i64 m.stage, .int .i64 (ruleT m.rule).1, .int .i64 (ruleT m.rule).2.1, fnV (ruleT m.rule).2.2.1, fnV (ruleT m.rule).2.2.2]
abbrev InM.val (m : InM) : Value := .agg #[m.wv, .int .i64 m.stage, .int .i64 (ruleT m.rule).1, .int .i64 (ruleT m.rule).2.1, fnV (ruleT m.rule).2.2.1, fnV (ruleT m.rule).2.2.2]
theorem wd_at {w : World} {B : Nat} {v : Value} {ms : List WdM} (h : WsM w B v ms) (i : Nat) (m : WdM) (hm : ms[i]? = some m) : ∃ g cap, v = .slice (some ⟨g, 0, none⟩) ms.length cap ∧ w.cell? ⟨g, i * 2, none⟩ = some (.int .i64 (m.place : Int)) ∧ w.cell? ⟨g, i * 2 + 1, none⟩ = some m.v ∧ g < w.heap.size := by
  have hi := (List.getElem?_eq_some_iff.1 hm).1
  obtain ⟨g, cap, rfl, _, hg⟩ := World.ownsRow.form h.row (by omega)
  have key : ∀ (l : List WdM) (i : Nat) (m : WdM), l[i]? = some m → (wdC l)[i * 2]? = some (.int .i64 (m.place : Int)) ∧ (wdC l)[i * 2 + 1]? = some m.v := by
    intro l
    induction l with
    | nil => intro i m h; simp at h
    | cons a r ih =>
      intro i m h
      cases i with
      | zero => simp at h; subst h; exact ⟨rfl, rfl⟩
      | succ i =>
        have := ih i m (by simpa using h)
        rw [show (i + 1) * 2 = i * 2 + 2 by omega]
        exact ⟨this.1, this.2⟩
  have k := key ms i m hm
  exact ⟨g, cap, rfl, by rw [World.ownsRow.cellAt h.row _ (by omega)]; exact k.1, by rw [World.ownsRow.cellAt h.row _ (by omega)]; exact k.2, hg⟩
set_option maxHeartbeats 1000000 in
set_option maxRecDepth 10000 in
theorem place_any (m : InM) (m0 : WdM) (B : Nat) (w : World) (h : WsM w B m.wv m.ws) (h0 : m.ws[0]? = some m0) :
    Calls Tryz.prog 56 #[m.val] w fun ev w' => ev = .returned (.int .i64 (m0.place : Int)) ∧ Below w.heap.size w w' := by
  obtain ⟨g, cap, hv, q0, q1, hg⟩ := wd_at h 0 m0 h0
  have hl : 0 < m.ws.length := (List.getElem?_eq_some_iff.1 h0).1
  obtain ⟨wv, ws, stage, rule⟩ := m
  simp only at hv hl h0 ⊢
  subst hv
  have hn : ws.length ≠ 0 := by omega
  have n0 := World.new_ne w ⟨g, 0, none⟩ q0
  have HL := hide hl
  obtain ⟨n, hn⟩ : ∃ n, n = ws.length := ⟨_, rfl⟩
  rw [← hn] at HL ⊢
  have i1 : (0 : Int) < (n : Int) := by have := unhide HL; omega
  clear h h0 hl hn
  go_enter Tryz.func56, Tryz.ntmps56
  go_wp2_with fail
  go_ret
  exact ⟨rfl, (Below.refl _ _).alloc (Nat.le_refl _) _⟩
end Go.Proofs.YtkikhmleffcajaaGreatDoor

namespace Go.Proofs.YtkikhmleffcajaaGreatDoor
open Go.RowKit Go.Maps

def smC (c : UInt8) : Bool := decide (97 ≤ c.toNat ∧ c.toNat ≤ 122)
def sdC (c : UInt8) : Bool := smC c || isDigC c
/-- May a text be a stage's name? -/
def stageNm (l : List UInt8) : Bool := decide (l.length ≤ 10) && (match l with
  | [] => false
  | c :: _ => smC c) && l.all sdC
def octC (c : UInt8) : Bool := decide (48 ≤ c.toNat ∧ c.toNat ≤ 55)
/-- Is a text a mode? -/
def modeN (l : List UInt8) : Bool := decide (l.length = 3) && l.all octC
theorem small_any (n : Nat) (w : World) : Calls Tryz.prog 138 #[.int .u8 (n : Int)] w fun e w' => e = .returned (.bool (decide (97 ≤ n ∧ n ≤ 122))) ∧ w' = w := by
  go_enter Tryz.func138, Tryz.ntmps138
  go_wp2
  all_goals
    go_ret
    exact ⟨ret_bool (by rw [Bool.eq_iff_iff]; simp <;> omega), rfl⟩
theorem smN (c : UInt8) : decide (97 ≤ c.toNat ∧ c.toNat ≤ 122) = smC c := rfl
theorem all_stop {p : UInt8 → Bool} (s : ByteArray) (k : Nat) (h : k < s.size) (hc : p s[k] = false) : s.data.toList.all p = false := by
  rw [← List.take_append_drop (k + 1) s.data.toList, List.all_append, take_snoc s k h, List.all_append]
  simp [hc]
set_option maxHeartbeats 1000000 in
set_option maxRecDepth 10000 in
theorem stageNm_any (s : ByteArray) (w : World) (hs : s.size ≤ 1073741824) :
    Calls Tryz.prog 111 #[.string s] w fun e w' => e = .returned (.bool (stageNm s.data.toList)) ∧ w' = w := by
  by_cases he : s.data.toList = []
  · have g1 : s.toList.isEmpty = true := by rw [Lib.toList_data, he]; rfl
    have HN : Hid (stageNm s.data.toList = false) := hide (by rw [he]; rfl)
    clear he
    go_enter Tryz.func111, Tryz.ntmps111
    go_wp2_with fail
    go_ret
    exact ⟨ret_bool (unhide HN).symm, rfl⟩
  · have g1 : s.toList.isEmpty = false := by rw [Lib.toList_data]; simpa using he
    have h0 : 0 < s.size := by rw [Lib.size_eq]; exact List.length_pos_iff.2 he
    by_cases h10 : s.size ≤ 10
    · have g2 : ¬ (10 : Int) < (s.size : Int) := by omega
      have c0 := small_any s[0].toNat w
      rw [smN] at c0
      have hfirst : (match s.data.toList with | [] => false | c :: _ => smC c) = smC s[0] := by
        have h1 : s.data.toList = s[0] :: s.data.toList.drop 1 := by
          have := List.drop_eq_getElem_cons (l := s.data.toList) (i := 0) (by rw [← Lib.size_eq]; exact h0)
          rw [List.drop_zero] at this; exact this
        rw [h1]
      have HN : Hid (stageNm s.data.toList = (smC s[0] && s.data.toList.all sdC)) := hide (by
        rw [stageNm.eq_def, hfirst, ← Lib.size_eq, decide_eq_true h10]; rfl)
      clear he hfirst
      cases hc : smC s[0] with
      | false =>
        have HN2 : Hid (stageNm s.data.toList = false) := hide (by rw [unhide HN, hc]; rfl)
        rw [hc] at c0
        clear HN hc
        go_enter Tryz.func111, Tryz.ntmps111
        go_wp2_with (go_at_call 138; refine c0.mono ?_; clear c0; rintro ev w1 ⟨rfl, hw⟩; obtain rfl := hw.symm)
        go_ret
        exact ⟨ret_bool (unhide HN2).symm, rfl⟩
      | true =>
        have HN2 : Hid (stageNm s.data.toList = s.data.toList.all sdC) := hide (by rw [unhide HN, hc]; rfl)
        rw [hc] at c0
        clear HN hc
        go_enter Tryz.func111, Tryz.ntmps111
        go_wp2_with (go_at_call 138; refine c0.mono ?_; clear c0; rintro ev w1 ⟨rfl, hw⟩; obtain rfl := hw.symm)
        go_loop [19] (fun i => ∃ k : Nat, k ≤ s.size ∧ i = .int .i64 k ∧ (s.data.toList.take k).all sdC = true) (fun i => s.size - (intOf i).toNat)
        case atStart => exact ⟨0, Nat.zero_le _, rfl, rfl⟩
        case round =>
          obtain ⟨k, hk, rfl, ha⟩ := hrel
          have A := hide ha
          clear ha
          by_cases hlt : k < s.size
          · have c1 := small_any s[k].toNat w
            rw [smN] at c1
            cases h1 : smC s[k] with
            | true =>
              have B := hide (all_more s k hlt (unhide A) (show sdC s[k] = true by simp [sdC, h1]))
              rw [h1] at c1
              clear h1
              go_wp2_with (go_at_call 138; refine c1.mono ?_; clear c1; rintro ev w1 ⟨rfl, hw⟩; obtain rfl := hw.symm)
              go_round
              case rel => exact ⟨k + 1, by omega, by go_num, unhide B⟩
              case measure => simp [intOf]; omega
            | false =>
              rw [h1] at c1
              cases h2 : isDigC s[k] with
              | true =>
                have B := hide (all_more s k hlt (unhide A) (show sdC s[k] = true by simp [sdC, h2]))
                have h2' := of_decide_eq_true h2
                have g3 : ¬ (s[k].toNat : Int) < 48 := by omega
                have g4 : ¬ (57 : Int) < (s[k].toNat : Int) := by omega
                clear h1 h2 h2'
                go_wp2_with (go_at_call 138; refine c1.mono ?_; clear c1; rintro ev w1 ⟨rfl, hw⟩; obtain rfl := hw.symm)
                go_round
                case rel => exact ⟨k + 1, by omega, by go_num, unhide B⟩
                case measure => simp [intOf]; omega
              | false =>
                have B := hide (all_stop (p := sdC) s k hlt (by simp [sdC, h1, h2]))
                have h2' := of_decide_eq_false h2
                by_cases g3 : (s[k].toNat : Int) < 48
                · clear h1 h2 h2'
                  go_wp2_with (go_at_call 138; refine c1.mono ?_; clear c1; rintro ev w1 ⟨rfl, hw⟩; obtain rfl := hw.symm)
                  go_ret
                  exact ⟨ret_bool (by rw [unhide HN2, unhide B]), rfl⟩
                · have g4 : (57 : Int) < (s[k].toNat : Int) := by omega
                  clear h1 h2 h2'
                  go_wp2_with (go_at_call 138; refine c1.mono ?_; clear c1; rintro ev w1 ⟨rfl, hw⟩; obtain rfl := hw.symm)
                  go_ret
                  exact ⟨ret_bool (by rw [unhide HN2, unhide B]), rfl⟩
          · have B : Hid (s.data.toList.all sdC = true) := hide (by have := unhide A; rwa [List.take_of_length_le (by rw [← Lib.size_eq]; omega)] at this)
            go_wp2
            go_ret
            exact ⟨ret_bool (by rw [unhide HN2, unhide B]), rfl⟩
    · have g2 : (10 : Int) < (s.size : Int) := by omega
      have HN : Hid (stageNm s.data.toList = false) := hide (by rw [stageNm.eq_def, ← Lib.size_eq, decide_eq_false h10]; rfl)
      clear he h10
      go_enter Tryz.func111, Tryz.ntmps111
      go_wp2_with fail
      go_ret
      exact ⟨ret_bool (unhide HN).symm, rfl⟩
set_option maxHeartbeats 1000000 in
set_option maxRecDepth 10000 in
theorem mode_any (s : ByteArray) (w : World) :
    Calls Tryz.prog 126 #[.string s] w fun e w' => e = .returned (.bool (modeN s.data.toList)) ∧ w' = w := by
  by_cases h3 : s.size = 3
  · have g2 : ((s.size : Int) != 3) = false := by simp; omega
    have HN2 : Hid (modeN s.data.toList = s.data.toList.all octC) := hide (by rw [modeN, ← Lib.size_eq, decide_eq_true h3]; rfl)
    have hsz : s.size ≤ 3 := by omega
    clear h3
    go_enter Tryz.func126, Tryz.ntmps126
    go_wp2_with fail
    go_loop [9] (fun i => ∃ k : Nat, k ≤ s.size ∧ i = .int .i64 k ∧ (s.data.toList.take k).all octC = true) (fun i => s.size - (intOf i).toNat)
    case atStart => exact ⟨0, Nat.zero_le _, rfl, rfl⟩
    case round =>
      obtain ⟨k, hk, rfl, ha⟩ := hrel
      have A := hide ha
      clear ha
      by_cases hlt : k < s.size
      · by_cases g3 : (s[k].toNat : Int) < 48
        · have B := hide (all_stop (p := octC) s k hlt (decide_eq_false (by omega)))
          go_wp2_with fail
          go_ret
          exact ⟨ret_bool (by rw [unhide HN2, unhide B]), rfl⟩
        · by_cases g4 : (55 : Int) < (s[k].toNat : Int)
          · have B := hide (all_stop (p := octC) s k hlt (decide_eq_false (by omega)))
            go_wp2_with fail
            go_ret
            exact ⟨ret_bool (by rw [unhide HN2, unhide B]), rfl⟩
          · have B := hide (all_more s k hlt (unhide A) (show octC s[k] = true from decide_eq_true (by omega)))
            go_wp2_with fail
            go_round
            case rel => exact ⟨k + 1, by omega, by go_num, unhide B⟩
            case measure => simp [intOf]; omega
      · have B : Hid (s.data.toList.all octC = true) := hide (by have := unhide A; rwa [List.take_of_length_le (by rw [← Lib.size_eq]; omega)] at this)
        go_wp2
        go_ret
        exact ⟨ret_bool (by rw [unhide HN2, unhide B]), rfl⟩
  · have g2 : ((s.size : Int) != 3) = true := by simp; omega
    have HN : Hid (modeN s.data.toList = false) := hide (by rw [modeN, ← Lib.size_eq, decide_eq_false h3]; rfl)
    clear h3
    go_enter Tryz.func126, Tryz.ntmps126
    go_wp2_with fail
    go_ret
    exact ⟨ret_bool (unhide HN).symm, rfl⟩
end Go.Proofs.YtkikhmleffcajaaGreatDoor

namespace Go.Proofs.YtkikhmleffcajaaGreatDoor
open Go.RowKit Go.Maps

theorem pre_le {s p : ByteArray} (h : Lib.hasPrefix s.data.toList p.data.toList = true) : p.size ≤ s.size := by
  rw [Lib.hasPrefix, List.isPrefixOf_iff_prefix] at h
  rw [Lib.size_eq, Lib.size_eq]; exact h.length_le
theorem preI_any (s p : ByteArray) (w : World) :
    Calls Tryz.prog 72 #[.string s, .string p] w fun e w' => e = .returned (.bool (Lib.hasPrefix s.data.toList p.data.toList)) ∧ w' = w := by
  have H := hide (Lib.hasPrefix_raw s p)
  go_enter Tryz.func72, Tryz.ntmps72
  go_wp2
  · go_ret
    exact ⟨ret_bool (by rw [← unhide H]; simp [*]), rfl⟩
  · go_ret
    exact ⟨ret_bool (by rw [← unhide H]; simp [*]), rfl⟩
theorem cutPre_any (s p : ByteArray) (w : World) :
    Calls Tryz.prog 137 #[.string s, .string p] w fun ev w' => ∃ t : ByteArray, ev = .returned (.tuple #[.string t, .bool (Lib.hasPrefix s.data.toList p.data.toList)]) ∧ Hid (Lib.hasPrefix s.data.toList p.data.toList = true → t.data.toList = s.data.toList.drop p.size) ∧ w' = w := by
  have hI : Calls Tryz.prog 158 #[.string s, .string p] w fun ev w' => ∃ t : ByteArray, ev = .returned (.tuple #[.string t, .bool (Lib.hasPrefix s.data.toList p.data.toList)]) ∧ Hid (Lib.hasPrefix s.data.toList p.data.toList = true → t.data.toList = s.data.toList.drop p.size) ∧ w' = w := by
    have hP := preI_any s p w
    cases hh : Lib.hasPrefix s.data.toList p.data.toList with
    | false =>
      rw [hh] at hP
      clear hh
      go_enter Tryz.func158, Tryz.ntmps158
      go_wp2_with (go_at_call 72; refine hP.mono ?_; clear hP; rintro ev w1 ⟨rfl, hw⟩; obtain rfl := hw.symm)
      go_ret2
      exact ⟨_, rfl, hide (fun h => by cases h), rfl⟩
    | true =>
      have hle := pre_le hh
      have i0 : (0 : Int) ≤ (p.size : Int) := by omega
      have i1 : (p.size : Int) ≤ (s.size : Int) := by omega
      rw [hh] at hP
      clear hh
      go_enter Tryz.func158, Tryz.ntmps158
      go_wp2_with (go_at_call 72; refine hP.mono ?_; clear hP; rintro ev w1 ⟨rfl, hw⟩; obtain rfl := hw.symm)
      go_ret2
      exact ⟨_, rfl, hide (fun _ => ext_list s p.size), rfl⟩
  go_enter Tryz.func137, Tryz.ntmps137
  go_wp2_with (go_at_call 158; refine hI.mono ?_; clear hI; rintro ev w1 ⟨t, rfl, HT, hw⟩; obtain rfl := hw.symm)
  go_ret2
  exact ⟨t, rfl, HT, rfl⟩
/-- A word that is a stage's name. -/
def nameW (xs : List Atm) : Option (List UInt8) := match plainW xs with
  | some t => if stageNm t = true then some t else none
  | none => none
/-- What a word names as a stage to take from. -/
def fromW (xs : List Atm) : Option (List UInt8) := match plainW xs with
  | some t => if Lib.hasPrefix t [45, 45, 102, 114, 111, 109, 61] = true then some (t.drop 7) else none
  | none => none
theorem wd_box {w : World} {m : WdM} {B : Nat} (h : m.Ok w B) : ∃ ao n' cap, m.v = .slice ao n' cap := row_form h
set_option maxHeartbeats 1000000 in
set_option maxRecDepth 10000 in
theorem stageName_any (m : WdM) (B : Nat) (w : World) (h : m.Ok w B) (hl : (parts m.xs).length ≤ 1500) (hz : ∀ t, plainW m.xs = some t → t.length ≤ 1500) :
    Calls Tryz.prog 134 #[m.val] w fun ev w' => (nameW m.xs = none ∧ Wrg w' ev 5 m.place ∨ ∃ u : ByteArray, nameW m.xs = some u.data.toList ∧ ev = .returned (.string u)) ∧ Below w.heap.size w w' := by
  obtain ⟨W0, hW0⟩ : ∃ W0, W0 = w.alloc (.cells #[.int .i64 (m.place : Int), m.v] 133) := ⟨_, rfl⟩
  have hb0 : Below w.heap.size w W0 := by rw [hW0]; exact (Below.refl _ _).alloc (Nat.le_refl _) _
  have hP := plainM_any m B W0 (by rw [hW0]; exact World.ownsRow.alloc h _) hl
  have hc0 : W0.heap[w.heap.size]? = some (.cells #[.int .i64 (m.place : Int), m.v] 133 (0, 0)) := by rw [hW0]; exact heap_alloc_new _ _
  have hz0 : w.heap.size < W0.heap.size := by rw [hW0]; simp
  obtain ⟨ao, n', cap, hv⟩ := row_form h
  obtain ⟨place, v, xs⟩ := m
  simp only at hv hP hc0 hW0 hz ⊢
  subst hv
  have q0 : W0.cell? ⟨w.heap.size, 0, none⟩ = some (.int .i64 (place : Int)) := cell_of_row _ _ 0 _ _ _ hc0
  have q1 : W0.cell? ⟨w.heap.size, 1, none⟩ = some (.slice ao n' cap) := cell_of_row _ _ 1 _ _ _ hc0
  have HQ : Hid (∀ w1, Below W0.heap.size W0 w1 → w1.cell? ⟨w.heap.size, 0, none⟩ = some (.int .i64 (place : Int))) := hide (fun w1 hb1 => cell_later hb1 q0)
  have hF := fun w' => fail_wrg 5 place w'
  clear h hc0
  cases hx : plainW xs with
  | none =>
    have HN : Hid (nameW xs = none) := hide (by rw [nameW, hx])
    rw [hx] at hP
    simp only [Option.isSome_none, Option.getD_none] at hP
    clear hx
    go_enter Tryz.func134, Tryz.ntmps134
    go_upto_region 1 with fail
    rw [← hW0]
    clear hW0
    go_wp2_with (first
      | (go_at_call 79; refine hP.mono ?_; clear hP; rintro ev w1 ⟨u, rfl, HU, hb1⟩; have p0 := unhide HQ w1 hb1)
      | (go_at_call 36; refine (hF _).mono ?_; clear hF; rintro ev w8 ⟨bb, rfl, hc, hb8⟩))
    exact ⟨rfl, .inl ⟨unhide HN, ⟨bb, rfl, hc⟩⟩, (hb0.trans (hb1.mono hb0.size)).trans (hb8.mono (Nat.le_trans hb0.size hb1.size))⟩
  | some t =>
    have htl := hz t hx
    rw [hx] at hP
    simp only [Option.isSome_some, Option.getD_some] at hP
    have hS := fun (u : ByteArray) (hu : u.data.toList = t) w' => stageNm_any u w' (by rw [Lib.size_eq, hu]; omega)
    cases hn : stageNm t with
    | false =>
      have HN : Hid (nameW xs = none) := hide (by rw [nameW, hx]; simp [hn])
      have HS : Hid (∀ (u : ByteArray), u.data.toList = t → ∀ w', Calls Tryz.prog 111 #[.string u] w' fun e w'' => e = .returned (.bool false) ∧ w'' = w') := hide (fun u hu w' => by have := hS u hu w'; rw [hu, hn] at this; exact this)
      clear hx hS hn
      go_enter Tryz.func134, Tryz.ntmps134
      go_upto_region 1 with fail
      rw [← hW0]
      clear hW0
      go_wp2_with (first
        | (go_at_call 79; refine hP.mono ?_; clear hP; rintro ev w1 ⟨u, rfl, HU, hb1⟩; have p0 := unhide HQ w1 hb1)
        | (go_at_call 111; refine (unhide HS u (unhide HU) _).mono ?_; rintro ev w2 ⟨rfl, hw⟩; obtain rfl := hw.symm)
        | (go_at_call 36; refine (hF _).mono ?_; clear hF; rintro ev w8 ⟨bb, rfl, hc, hb8⟩))
      exact ⟨rfl, .inl ⟨unhide HN, ⟨bb, rfl, hc⟩⟩, (hb0.trans (hb1.mono hb0.size)).trans (hb8.mono (Nat.le_trans hb0.size hb1.size))⟩
    | true =>
      have HN : Hid (nameW xs = some t) := hide (by rw [nameW, hx]; simp [hn])
      have HS : Hid (∀ (u : ByteArray), u.data.toList = t → ∀ w', Calls Tryz.prog 111 #[.string u] w' fun e w'' => e = .returned (.bool true) ∧ w'' = w') := hide (fun u hu w' => by have := hS u hu w'; rw [hu, hn] at this; exact this)
      clear hx hS hn
      go_enter Tryz.func134, Tryz.ntmps134
      go_upto_region 1 with fail
      rw [← hW0]
      clear hW0
      go_wp2_with (first
        | (go_at_call 79; refine hP.mono ?_; clear hP; rintro ev w1 ⟨u, rfl, HU, hb1⟩)
        | (go_at_call 111; refine (unhide HS u (unhide HU) _).mono ?_; rintro ev w2 ⟨rfl, hw⟩; obtain rfl := hw.symm))
      go_ret
      exact ⟨.inr ⟨u, by rw [unhide HU]; exact unhide HN, rfl⟩, hb0.trans (hb1.mono hb0.size)⟩
set_option maxHeartbeats 1000000 in
set_option maxRecDepth 10000 in
theorem stageOf_any (m : WdM) (B : Nat) (w : World) (h : m.Ok w B) (hl : (parts m.xs).length ≤ 1500) :
    Calls Tryz.prog 110 #[m.val] w fun ev w' => ∃ u : ByteArray, ev = .returned (.tuple #[.string u, .bool (fromW m.xs).isSome]) ∧ Hid (∀ t, fromW m.xs = some t → u.data.toList = t) ∧ Below w.heap.size w w' := by
  obtain ⟨W0, hW0⟩ : ∃ W0, W0 = w.alloc (.cells #[.int .i64 (m.place : Int), m.v] 133) := ⟨_, rfl⟩
  have hb0 : Below w.heap.size w W0 := by rw [hW0]; exact (Below.refl _ _).alloc (Nat.le_refl _) _
  have hP := plainM_any m B W0 (by rw [hW0]; exact World.ownsRow.alloc h _) hl
  have hc0 : W0.heap[w.heap.size]? = some (.cells #[.int .i64 (m.place : Int), m.v] 133 (0, 0)) := by rw [hW0]; exact heap_alloc_new _ _
  obtain ⟨ao, n', cap, hv⟩ := row_form h
  obtain ⟨place, v, xs⟩ := m
  simp only at hv hP hc0 hW0 ⊢
  subst hv
  have q0 : W0.cell? ⟨w.heap.size, 0, none⟩ = some (.int .i64 (place : Int)) := cell_of_row _ _ 0 _ _ _ hc0
  have q1 : W0.cell? ⟨w.heap.size, 1, none⟩ = some (.slice ao n' cap) := cell_of_row _ _ 1 _ _ _ hc0
  clear h hc0
  cases hx : plainW xs with
  | none =>
    have HN : fromW xs = none := by rw [fromW, hx]
    rw [HN]
    rw [hx] at hP
    simp only [Option.isSome_none, Option.getD_none] at hP ⊢
    clear hx HN
    go_enter Tryz.func110, Tryz.ntmps110
    go_upto_region 1 with fail
    rw [← hW0]
    clear hW0
    go_wp2_with (go_at_call 79; refine hP.mono ?_; clear hP; rintro ev w1 ⟨u, rfl, HU, hb1⟩)
    go_ret2
    exact ⟨_, rfl, hide (fun t h => by cases h), hb0.trans (hb1.mono hb0.size)⟩
  | some t =>
    rw [hx] at hP
    simp only [Option.isSome_some, Option.getD_some] at hP
    have hC : ∀ (u : ByteArray), u.data.toList = t → ∀ w', Calls Tryz.prog 137 #[.string u, .string ⟨#[45, 45, 102, 114, 111, 109, 61]⟩] w' fun ev w'' => ∃ t' : ByteArray, ev = .returned (.tuple #[.string t', .bool (fromW xs).isSome]) ∧ Hid (∀ t, fromW xs = some t → t'.data.toList = t) ∧ w'' = w' := fun u hu w' => by
      refine (cutPre_any u ⟨#[45, 45, 102, 114, 111, 109, 61]⟩ w').mono ?_
      rintro ev w'' ⟨t', rfl, HT, rfl⟩
      have e : Lib.hasPrefix u.data.toList (⟨#[45, 45, 102, 114, 111, 109, 61]⟩ : ByteArray).data.toList = (fromW xs).isSome := by
        rw [hu, fromW, hx]
        show Lib.hasPrefix t [45, 45, 102, 114, 111, 109, 61] = _
        simp only
        cases Lib.hasPrefix t [45, 45, 102, 114, 111, 109, 61] <;> rfl
      refine ⟨t', by rw [e], hide (fun t2 h2 => ?_), rfl⟩
      rw [unhide HT (by rw [e, h2]; rfl), hu]
      rw [fromW, hx] at h2
      simp only at h2
      split at h2
      · injection h2
      · cases h2
    have HC := hide hC
    clear hx hC
    obtain ⟨bb, hbb⟩ : ∃ bb, bb = (fromW xs).isSome := ⟨_, rfl⟩
    rw [← hbb] at HC ⊢
    clear hbb
    go_enter Tryz.func110, Tryz.ntmps110
    go_upto_region 1 with fail
    rw [← hW0]
    clear hW0
    go_wp2_with (first
      | (go_at_call 79; refine hP.mono ?_; clear hP; rintro ev w1 ⟨u, rfl, HU, hb1⟩)
      | (go_at_call 137; refine (unhide HC u (unhide HU) _).mono ?_; rintro ev w2 ⟨t2, rfl, HT2, hw⟩; obtain rfl := hw.symm))
    go_ret2
    exact ⟨t2, rfl, HT2, hb0.trans (hb1.mono hb0.size)⟩
end Go.Proofs.YtkikhmleffcajaaGreatDoor

namespace Go.Proofs.YtkikhmleffcajaaGreatDoor
open Go.RowKit Go.Maps

/-- An instruction: its words, and the stage that it names. -/
structure Ins where
  ws : List Wd
  stage : Int
/-- A stage: its name, its instructions, the FROM first. -/
structure Stg where
  name : List UInt8
  ins : List Ins
abbrev wFROM : List UInt8 := [70, 82, 79, 77]
abbrev wENV : List UInt8 := [69, 78, 86]
abbrev wAS : List UInt8 := [65, 83]
abbrev wScratch : List UInt8 := [115, 99, 114, 97, 116, 99, 104]
/-- The place of a word of a list. -/
def plc (ws : List Wd) (i : Nat) : Nat := match ws[i]? with
  | some x => x.place
  | none => 0
/-- The text of a plain word of a list. -/
def pln (ws : List Wd) (i : Nat) : Option (List UInt8) := match ws[i]? with
  | some x => plainW x.atoms
  | none => none
def setsG (s : Stg) (nm : List UInt8) : Bool := s.ins.any fun i => pln i.ws 0 == some wENV && pln i.ws 1 == some nm
def baseG (s : Stg) : Int := match s.ins with
  | [] => -1
  | i :: _ => i.stage
def isSetF (st : List Stg) : Nat → Int → List UInt8 → Bool
  | 0, _, _ => false
  | f + 1, i, nm => if i = -1 then false else match st[i.toNat]? with
    | none => false
    | some s => setsG s nm || isSetF st f (baseG s) nm
def isSetG (st : List Stg) (nm : List UInt8) : Bool := isSetF st st.length ((st.length : Int) - 1) nm
def findG (st : List Stg) (nm : List UInt8) : Int := match st.findIdx? (fun s => s.name == nm) with
  | some i => i
  | none => -1
def sizeG (st : List Stg) : Nat := (st.map fun s => s.ins.length).sum
/-- A word that is a stage's name. -/
def nmW (ws : List Wd) (i : Nat) : Option (List UInt8) := match ws[i]? with
  | some x => nameW x.atoms
  | none => none
/-- What a FROM begins with, and its name. -/
def namesG (ws : List Wd) : Res (List UInt8 × List UInt8) :=
  if 2 < ws.length ∧ pln ws 2 ≠ some wAS then .error (5, plc ws 2)
  else if ws.length = 3 then .error (5, plc ws 0)
  else if ws.length = 4 then match nmW ws 3 with
    | none => .error (5, plc ws 3)
    | some n => match nmW ws 1 with
      | none => .error (5, plc ws 1)
      | some b => .ok (b, n)
  else match nmW ws 1 with
    | none => .error (5, plc ws 1)
    | some b => .ok (b, [])
def fromG (st : List Stg) (ws : List Wd) : Res (List Stg × Int) :=
  match namesG ws with
  | .error e => .error e
  | .ok (b, n) =>
    if b ≠ wScratch ∧ findG st b = -1 then .error (6, plc ws 1)
    else if n = wScratch ∨ (n ≠ [] ∧ findG st n ≠ -1) then .error (6, plc ws 3)
    else if 5 ≤ st.length then .error (10, plc ws 0)
    else .ok (st ++ [⟨n, []⟩], if b = wScratch then -1 else findG st b)
def copyG (st : List Stg) (ws : List Wd) : Res (List Stg × Int) :=
  match (match ws[1]? with | some x => fromW x.atoms | none => none) with
  | none => if ws.length = 4 then .error (5, plc ws 0) else .ok (st, -1)
  | some n =>
    if ws.length ≠ 4 then .error (5, plc ws 0)
    else if stageNm n = false then .error (5, plc ws 1)
    else if findG st n = -1 ∨ findG st n = (st.length : Int) - 1 then .error (6, plc ws 1)
    else .ok (st, findG st n)
def readG (op : Nat) (st : List Stg) (ws : List Wd) : Res (List Stg × Int) :=
  match op with
  | 0 => fromG st ws
  | 1 => copyG st ws
  | 4 => if ws.length < 3 then .ok (st, -1) else match pln ws 2 with
    | some t => if modeN t = true then .ok (st, -1) else .error (5, plc ws 2)
    | none => .error (5, plc ws 2)
  | 6 => match pln ws 1 with
    | some t => if isVarN t = true then .ok (st, -1) else .error (5, plc ws 1)
    | none => .error (5, plc ws 1)
  | _ => .ok (st, -1)
/-- The place of the first variable that is not set. -/
def unsetW (set : List UInt8 → Bool) : List Atm → Option Nat
  | [] => none
  | .inl _ :: r => unsetW set r
  | .inr (n, k) :: r => if set n = true then unsetW set r else some k
def unsetL (set : List UInt8 → Bool) : List Wd → Option Nat
  | [] => none
  | x :: r => match unsetW set x.atoms with
    | some k => some k
    | none => unsetL set r
/-- An instruction more in the last stage. -/
def addIns (st : List Stg) (i : Ins) : List Stg := match st.getLast? with
  | none => st
  | some s => st.dropLast ++ [⟨s.name, s.ins ++ [i]⟩]
def takeG (st : List Stg) (ws : List Wd) : Res (List Stg) :=
  match (match ws[0]? with | some x => opW x.atoms | none => none) with
  | none => .error (5, plc ws 0)
  | some op =>
    if ((ws.length : Int) - 1 < (ruleT op).1) ∨ ((ruleT op).2.1 < (ws.length : Int) - 1) ∨ (st = [] ∧ op ≠ 0) then .error (5, plc ws 0)
    else match readG op st ws with
      | .error e => .error e
      | .ok (st', k) => match unsetL (isSetG st') ws with
        | some p => .error (7, p)
        | none => if 24 ≤ sizeG st' then .error (10, plc ws 0) else .ok (addIns st' ⟨ws, k⟩)
/-- The lines from a place on. -/
def fileG (l : List UInt8) (st : List Stg) (k : Nat) : Res (List Stg) :=
  if k < l.length then
    match linG l [] k with
    | .error e => .error e
    | .ok (ws, t) => if _ : k < t then (if ws = [] then fileG l st t else match takeG st ws with
      | .error e => .error e
      | .ok st' => fileG l st' t) else .error (5, k)
  else if st = [] then .error (5, l.length) else .ok st
def parseG (l : List UInt8) : Res (List Stg) :=
  if 1500 < l.length then .error (10, 1500)
  else if mayN l < l.length then .error (5, mayN l)
  else fileG l [] 0
end Go.Proofs.YtkikhmleffcajaaGreatDoor
