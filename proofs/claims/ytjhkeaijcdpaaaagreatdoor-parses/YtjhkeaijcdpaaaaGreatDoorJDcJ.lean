import Derived.Test.YtjhkeaijcdpaaaaGreatDoorJDcI
namespace Go.Proofs.YtjhkeaijcdpaaaaGreatDoor
open Go.RowKit Go.Maps

/-- Is a byte shown as it is? -/
def shN (n : Nat) : Bool := decide (97 ≤ n ∧ n ≤ 122) || decide (65 ≤ n ∧ n ≤ 90) || decide (48 ≤ n ∧ n ≤ 57) || decide (n = 46) || decide (n = 47) || decide (n = 95) || decide (n = 61) || decide (n = 58) || decide (n = 45)
def shownC (c : UInt8) : List UInt8 := if shN c.toNat then [c] else [92, c]
theorem bt_cons (c : UInt8) : (⟨#[92]⟩ : ByteArray) ++ bt [c] = bt [92, c] := bt_app [92] [c]
set_option maxHeartbeats 4000000 in
set_option maxRecDepth 10000 in
theorem shown_doc (c : UInt8) (w : World) :
    Calls Tryz.prog 31 #[.int .u8 (c.toNat : Int)] w fun ev w' => ev = .returned (.string (bt (shownC c))) ∧ Below w.heap.size w w' := by
  have hb0 : Below w.heap.size w (w.alloc (.cells #[.int .u8 (c.toNat : Int)] 5)) := (Below.refl _ _).alloc (Nat.le_refl _) _
  have hcv : (convert 74 9 (.slice (some ⟨w.heap.size, 0, none⟩) 1 1)).run Tryz.prog (w.alloc (.cells #[.int .u8 (c.toNat : Int)] 5)) = .ok (.string (bt [c])) (w.alloc (.cells #[.int .u8 (c.toNat : Int)] 5)) :=
    conv_row (B := w.heap.size) (n := 1) ⟨rfl, .inr ⟨w.heap.size, 1, #[.int .u8 (c.toNat : Int)], rfl, Nat.le_refl _, heap_alloc_new _ _, Nat.le_refl _, by unfold maxLen; omega, rfl, rfl⟩⟩
  obtain ⟨n, hn⟩ : ∃ n, n = c.toNat := ⟨_, rfl⟩
  have hn256 : n < 256 := by rw [hn]; exact c.toNat_lt
  have HY : Hid (shN n = true → shownC c = [c]) := hide (fun h => by unfold shownC; rw [← hn, h]; rfl)
  have HNo : Hid (shN n = false → shownC c = [92, c]) := hide (fun h => by unfold shownC; rw [← hn, h]; rfl)
  rw [← hn] at hb0 hcv ⊢
  have HB : Hid (∀ o : Obj, Below w.heap.size w (w.alloc o)) := hide (fun o => (Below.refl _ _).alloc (Nat.le_refl _) _)
  clear hb0 hn
  go_enter Tryz.func31, Tryz.ntmps31
  go_upto_region 5 with fail
  go_wp2_with fail
  all_goals
    go_ret
    refine ⟨?_, unhide HB _⟩
    first
      | (rw [unhide HY (by unfold shN; simp at *; omega)]; rfl)
      | (rw [unhide HNo (by unfold shN; simp at *; omega), ← bt_cons]; rfl)
      | (exfalso; simp at *; omega)
end Go.Proofs.YtjhkeaijcdpaaaaGreatDoor

namespace Go.Proofs.YtjhkeaijcdpaaaaGreatDoor
open Go.RowKit Go.Maps

/-- An atom in a word's one form. -/
def atF : Atm → List UInt8
  | .inl c => shownC c
  | .inr (n, _) => [36, 123] ++ n ++ [125]
def atsF (xs : List Atm) : List UInt8 := (xs.map atF).flatten
/-- A word's one form. -/
def formD (xs : List Atm) : List UInt8 := if xs = [] then [34, 34] else atsF xs
theorem atF_ne (a : Atm) : atF a ≠ [] := by
  cases a with
  | inl c => show shownC c ≠ []; unfold shownC; split <;> simp
  | inr pA => obtain ⟨n, k⟩ := pA; simp [atF]
theorem atsF_nil {xs : List Atm} : atsF xs = [] ↔ xs = [] := by
  cases xs with
  | nil => simp [atsF]
  | cons a r => simp [atsF, atF_ne]
theorem atsF_take {xs : List Atm} {j : Nat} {a : Atm} (h : xs[j]? = some a) : atsF (xs.take (j + 1)) = atsF (xs.take j) ++ atF a := by
  rw [List.take_add_one, h]; simp [atsF]
theorem atsF_len : ∀ (xs : List Atm), AtOk xs → (atsF xs).length ≤ 13 * xs.length := by
  intro xs
  induction xs with
  | nil => intro _; simp [atsF]
  | cons a r ih =>
    intro h
    have h1 := ih (fun n k hm => h n k (List.mem_cons_of_mem _ hm))
    have h2 : (atF a).length ≤ 13 := by
      cases a with
      | inl c => show (shownC c).length ≤ 13; unfold shownC; split <;> simp
      | inr pA => obtain ⟨n, k⟩ := pA; have := (h n k (List.mem_cons_self ..)).2; simp [atF]; omega
    simp only [atsF, List.map_cons, List.flatten_cons, List.length_append, List.length_cons] at h1 ⊢
    omega
theorem bt_empty : (⟨#[]⟩ : ByteArray) = bt [] := rfl
theorem bt_isE (n : List UInt8) : (bt n).toList.isEmpty = n.isEmpty := by rw [ByteArray.toList_eq, bt_list]
set_option maxHeartbeats 2000000 in
set_option maxRecDepth 10000 in
theorem form_doc (v : Value) (xs : List Atm) (p : Int) (B : Nat) (w : World) (h : AtR w B v xs) (hok : AtOk xs) (hl : xs.length ≤ 1500) :
    Calls Tryz.prog 17 #[.agg #[v, .int .i64 p]] w fun ev w' => ev = .returned (.string (bt (formD xs))) ∧ Below w.heap.size w w' := by
  obtain ⟨ao, n', cap, rfl⟩ := row_form h
  obtain rfl := row_len h
  obtain ⟨W0, hW0⟩ : ∃ W0, W0 = w.alloc (.cells #[.slice ao xs.length cap, .int .i64 p] 46) := ⟨_, rfl⟩
  have hb0 : Below w.heap.size w W0 := by rw [hW0]; exact (Below.refl _ _).alloc (Nat.le_refl _) _
  have hc0 : W0.heap[w.heap.size]? = some (.cells #[.slice ao xs.length cap, .int .i64 p] 46 (0, 0)) := by rw [hW0]; exact heap_alloc_new _ _
  have hz : w.heap.size + 1 ≤ W0.heap.size := by rw [hW0]; simp
  have HH := hide h
  have HB := hide hb0
  have HC := hide hc0
  clear h hb0 hc0
  go_enter Tryz.func17, Tryz.ntmps17
  go_upto_region 1 with fail
  rw [← hW0]
  clear hW0
  go_wp2_with fail
  go_loopw [3, 4] (fun b i wr => ∃ j : Nat, i = .int .i64 (j : Int) ∧ j ≤ xs.length ∧ b = .string (bt (atsF (xs.take j))) ∧ Below w.heap.size w wr ∧ wr.heap[w.heap.size]? = some (.cells #[.slice ao xs.length cap, .int .i64 p] 46 (0, 0)) ∧ w.heap.size + 1 ≤ wr.heap.size) (fun _ i _ => xs.length - (intOf i).toNat)
  case atStart => exact ⟨0, rfl, Nat.zero_le _, rfl, unhide HB, unhide HC, hz⟩
  case round =>
    obtain ⟨j, rfl, hbl, rfl, hB, hC, hzr⟩ := hrel
    have g0 : wr.cell? ⟨w.heap.size, 0, none⟩ = some (.slice ao xs.length cap) := cell_of_row _ _ 0 _ _ _ hC
    have HCC := hide hC
    clear hC
    by_cases hlt : j < xs.length
    · obtain ⟨g, cp, hv, _, _⟩ := World.ownsRow.form (unhide HH) (by omega)
      injection hv with e1 _ e3
      subst e1 e3
      obtain ⟨a, ha⟩ : ∃ a, xs[j]? = some a := ⟨_, List.getElem?_eq_getElem hlt⟩
      have hcell : ∀ d, d < 3 → wr.cell? ⟨g, j * 3 + d, none⟩ = a.cells[d]? := fun d hd => by
        have hq : w.cell? ⟨g, j * 3 + d, none⟩ = (atC xs)[j * 3 + d]? := World.ownsRow.cellAt (unhide HH) _ (by omega)
        rw [World.cell?_of_block (hB.block g (World.ownsRow.lt (unhide HH) g rfl).2), hq, atC_at xs j a d ha hd]
      have HT := hide (atsF_take ha)
      obtain ⟨acc, hacc⟩ : ∃ acc, atsF (xs.take j) = acc := ⟨_, rfl⟩
      have hab : (bt acc).size ≤ 20000 := by
        rw [bt_size, ← hacc]
        have := atsF_len (xs.take j) (fun n k hm => hok n k (List.mem_of_mem_take hm))
        rw [List.length_take] at this
        omega
      rw [hacc]
      cases a with
      | inr pA =>
        obtain ⟨n, k⟩ := pA
        obtain ⟨hne, hnl⟩ := hok n k (List.mem_of_getElem? ha)
        have hns : (bt n).size ≤ 10 := by rw [bt_size]; exact hnl
        have b1 : ¬ 9223372036854775807 < 2 + (bt n).size := by omega
        have b2 : ¬ 9223372036854775807 < 2 + (bt n).size + 1 := by omega
        have b3 : ¬ 9223372036854775807 < (bt acc).size + (2 + (bt n).size + 1) := by omega
        have q1 : wr.cell? ⟨g, j * 3 + 1, none⟩ = some (.string (bt n)) := hcell 1 (by omega)
        have gv0 := bt_ne hne
        clear hcell ha
        go_wp2_with fail
        have e6 : bt acc ++ ((⟨#[36, 123]⟩ : ByteArray) ++ bt n ++ ⟨#[125]⟩) = bt (atsF (xs.take (j + 1))) := by
          rw [unhide HT, hacc, show (⟨#[36, 123]⟩ : ByteArray) = bt [36, 123] from rfl, show (⟨#[125]⟩ : ByteArray) = bt [125] from rfl, bt_app, bt_app, bt_app]; rfl
        go_roundw
        case rel =>
          first
            | exact ⟨j + 1, by go_num, hlt, by rw [e6], hB, unhide HCC, hzr⟩
            | ((repeat apply Exists.intro); exact ⟨⟨j + 1, by go_num, hlt, by rw [e6], hB, unhide HCC, hzr⟩, rfl⟩)
        case measure => simp [intOf]; omega
      | inl c =>
        have q0 : wr.cell? ⟨g, j * 3, none⟩ = some (.int .u8 (c.toNat : Int)) := hcell 0 (by omega)
        have q1 : wr.cell? ⟨g, j * 3 + 1, none⟩ = some (.string ⟨#[]⟩) := hcell 1 (by omega)
        have hSh := shown_doc c wr
        have hcs : (bt (shownC c)).size ≤ 2 := by rw [bt_size]; unfold shownC; split <;> simp
        have b3 : ¬ 9223372036854775807 < (bt acc).size + (bt (shownC c)).size := by omega
        clear hcell ha
        go_wp2_with (go_at_call 31; refine hSh.mono ?_; clear hSh; rintro ev w2 ⟨rfl, hb2⟩)
        have e6 : bt acc ++ bt (shownC c) = bt (atsF (xs.take (j + 1))) := by
          rw [unhide HT, hacc, bt_app]; rfl
        go_roundw
        case rel =>
          first
            | exact ⟨j + 1, by go_num, hlt, by rw [e6], hB.trans (hb2.mono hB.size), (hb2.block _ (by omega)).trans (unhide HCC), Nat.le_trans hzr hb2.size⟩
            | ((repeat apply Exists.intro); exact ⟨⟨j + 1, by go_num, hlt, by rw [e6], hB.trans (hb2.mono hB.size), (hb2.block _ (by omega)).trans (unhide HCC), Nat.le_trans hzr hb2.size⟩, rfl⟩)
        case measure => simp [intOf]; omega
    · have hj : j = xs.length := by omega
      subst hj
      rw [List.take_length]
      by_cases hx : xs = []
      · have HF : Hid (formD xs = [34, 34]) := hide (by unfold formD; rw [if_pos hx])
        have gv : (bt (atsF xs)).toList.isEmpty = true := by rw [bt_isE, atsF_nil.2 hx]; rfl
        clear hx
        go_wp2_with fail
        go_ret
        exact ⟨by rw [unhide HF]; rfl, hB⟩
      · have HF : Hid (formD xs = atsF xs) := hide (by unfold formD; rw [if_neg hx])
        have gv := bt_ne (fun e => hx (atsF_nil.1 e))
        go_wp2_with fail
        go_ret
        exact ⟨by rw [unhide HF]; rfl, hB⟩
end Go.Proofs.YtjhkeaijcdpaaaaGreatDoor
