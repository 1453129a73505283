import Derived.Test.YtkikhmleffcajaaGreatDoorJDcA
import Derived.Test.YtkikhmleffcajaaGreatDoorJBfA
import Derived.Lib.ConvBytes
namespace Go.Proofs.YtkikhmleffcajaaGreatDoor
open Go.RowKit Go.Maps

/-- A variable of a word has a name. -/
def AtOk (xs : List Atm) : Prop := ∀ n k, (Sum.inr (n, k) : Atm) ∈ xs → n ≠ [] ∧ n.length ≤ 10
/-- Bytes in memory. -/
def byC (l : List UInt8) : List Value := l.map fun c => .int .u8 (c.toNat : Int)
theorem byC_len (l : List UInt8) : (byC l).length = l.length * 1 := by simp [byC]
theorem byC_snoc (l : List UInt8) (c : UInt8) : byC (l ++ [c]) = byC l ++ [.int .u8 (c.toNat : Int)] := by simp [byC]
theorem info5 : (Tryz.prog.info? 5).map (fun i => (i.zero, i.size, i.bytes)) = some (some (.int .u8 0), 1, 1) := by kernel_rfl
theorem atC_at (xs : List Atm) : ∀ (j : Nat) (a : Atm) (d : Nat), xs[j]? = some a → d < 3 → (atC xs)[j * 3 + d]? = a.cells[d]? := by
  induction xs with
  | nil => intro j a d h; simp at h
  | cons b r ih =>
    intro j a d h hd
    have e : atC (b :: r) = b.cells ++ atC r := by simp [atC]
    rw [e]
    cases j with
    | zero =>
      simp at h; subst h
      rw [List.getElem?_append_left (by rw [atm_len]; omega)]; congr 1; omega
    | succ j =>
      rw [List.getElem?_append_right (by rw [atm_len]; omega), atm_len, show (j + 1) * 3 + d - 3 = j * 3 + d by omega]
      exact ih j a d (by simpa using h) hd
theorem bt_ne {n : List UInt8} (h : n ≠ []) : (bt n).toList.isEmpty = false := by
  rw [ByteArray.toList_eq, bt_list]
  cases n with
  | nil => exact absurd rfl h
  | cons a r => rfl
theorem row_len {w : World} {B e z n : Nat} {ao : Option Addr} {n' cap : Nat} {xs : List Value} (h : w.ownsRow B e z (.slice ao n' cap) n xs) : n' = n := by
  rcases h.2 with ⟨e, h0⟩ | ⟨g, c, cur, e, _⟩
  · injection e with _ e _; omega
  · injection e
theorem conv_nil (w : World) : (convert 73 9 (.slice none 0 0)).run Tryz.prog w = .ok (.string ⟨#[]⟩) w := by
  simp [convert, go_sem, Tryz.underlying73, Tryz.underlying9, Tryz.underlying5, run_underlying, Conv.bytesToString, loadCells, ByteArray.empty, ByteArray.emptyWithCapacity]
  rfl
theorem conv_row {w : World} {B n : Nat} {v : Value} {bs : List UInt8} (h : w.ownsRow B 5 1 v n (byC bs)) : (convert 73 9 v).run Tryz.prog w = .ok (.string (bt bs)) w := by
  have hl := h.1
  rw [byC_len] at hl
  rcases h.2 with ⟨rfl, h0⟩ | ⟨g, cap, cur, rfl, _⟩
  · obtain rfl : bs = [] := List.eq_nil_of_length_eq_zero (by omega)
    exact conv_nil w
  · obtain rfl : n = bs.length := by omega
    exact run_convert_bytes_back (P := Tryz.prog) w 73 9 5 ⟨g, 0, none⟩ cap bs Tryz.underlying73 Tryz.underlying5 Tryz.underlying9 (fun j hj => by
      have := World.ownsRow.cells h (g := g) rfl j (.int .u8 (bs[j].toNat : Int)) (by simp [byC, hj])
      simpa [Addr.add] using this)
theorem plain_step {xs : List Atm} {bs : List UInt8} {c : UInt8} (h : plainW xs = (plainW (xs.drop bs.length)).map (bs ++ ·)) (hc : xs[bs.length]? = some (.inl c)) : plainW xs = (plainW (xs.drop (bs ++ [c]).length)).map ((bs ++ [c]) ++ ·) := by
  have hlt := (List.getElem?_eq_some_iff.1 hc).1
  rw [h, List.drop_eq_getElem_cons hlt, (List.getElem?_eq_some_iff.1 hc).2]
  simp only [plainW, Option.map_map, List.length_append, List.length_singleton]
  congr 1
  funext r
  simp
set_option maxHeartbeats 2000000 in
set_option maxRecDepth 10000 in
theorem plain_doc (v : Value) (xs : List Atm) (p : Int) (B : Nat) (w : World) (h : AtR w B v xs) (hok : AtOk xs) (hl : xs.length ≤ 1500) :
    Calls Tryz.prog 11 #[.agg #[v, .int .i64 p]] w fun ev w' => ev = .returned (.tuple #[.string (bt ((plainW xs).getD [])), .bool (plainW xs).isSome]) ∧ Below w.heap.size w w' := by
  obtain ⟨i0, hi, hz0, hz1, hz2⟩ := info_parts info5
  obtain ⟨ao, n', cap, rfl⟩ := row_form h
  obtain rfl := row_len h
  obtain ⟨W0, hW0⟩ : ∃ W0, W0 = w.alloc (.cells #[.slice ao xs.length cap, .int .i64 p] 47) := ⟨_, rfl⟩
  have hb0 : Below w.heap.size w W0 := by rw [hW0]; exact (Below.refl _ _).alloc (Nat.le_refl _) _
  have hc0 : W0.heap[w.heap.size]? = some (.cells #[.slice ao xs.length cap, .int .i64 p] 47 (0, 0)) := by rw [hW0]; exact heap_alloc_new _ _
  have hz : w.heap.size + 1 ≤ W0.heap.size := by rw [hW0]; simp
  have HH := hide h
  have HB := hide hb0
  have HC := hide hc0
  clear h hb0 hc0
  go_enter Tryz.func11, Tryz.ntmps11
  go_upto_region 1 with fail
  rw [← hW0]
  clear hW0
  go_wp2_with fail
  go_loopw [4, 5] (fun b i wr => ∃ bs : List UInt8, i = .int .i64 (bs.length : Int) ∧ bs.length ≤ xs.length ∧ wr.ownsRow (w.heap.size + 1) 5 1 b bs.length (byC bs) ∧ plainW xs = (plainW (xs.drop bs.length)).map (bs ++ ·) ∧ Below w.heap.size w wr ∧ wr.heap[w.heap.size]? = some (.cells #[.slice ao xs.length cap, .int .i64 p] 47 (0, 0)) ∧ w.heap.size + 1 ≤ wr.heap.size) (fun _ i _ => xs.length - (intOf i).toNat)
  case atStart => exact ⟨[], rfl, Nat.zero_le _, World.ownsRow_nil _ _ _ _, by simp, unhide HB, unhide HC, hz⟩
  case round =>
    obtain ⟨bs, rfl, hbl, hrow, hP, hB, hC, hzr⟩ := hrel
    obtain ⟨j, hj⟩ : ∃ j, bs.length = j := ⟨_, rfl⟩
    rw [hj] at hbl hrow hP ⊢
    obtain ⟨ab, nb, cb, rfl⟩ := row_form hrow
    obtain rfl : j = nb := (row_len hrow).symm
    have g0 : wr.cell? ⟨w.heap.size, 0, none⟩ = some (.slice ao xs.length cap) := cell_of_row _ _ 0 _ _ _ hC
    have hcv := conv_row hrow
    have HROW := hide hrow
    have HP := hide hP
    have HCC := hide hC
    clear hrow hP hC
    by_cases hlt : j < xs.length
    · obtain ⟨g, cp, hv, _, _⟩ := World.ownsRow.form (unhide HH) (by omega)
      injection hv with e1 _ e3
      subst e1 e3
      obtain ⟨a, ha⟩ : ∃ a, xs[j]? = some a := ⟨_, List.getElem?_eq_getElem hlt⟩
      have hcell : ∀ d, d < 3 → wr.cell? ⟨g, j * 3 + d, none⟩ = a.cells[d]? := fun d hd => by
        have hq : w.cell? ⟨g, j * 3 + d, none⟩ = (atC xs)[j * 3 + d]? := World.ownsRow.cellAt (unhide HH) _ (by omega)
        rw [World.cell?_of_block (hB.block g (World.ownsRow.lt (unhide HH) g rfl).2), hq, atC_at xs j a d ha hd]
      cases a with
      | inr pA =>
        obtain ⟨n, k⟩ := pA
        have hne : n ≠ [] := (hok n k (List.mem_of_getElem? ha)).1
        have q1 : wr.cell? ⟨g, j * 3 + 1, none⟩ = some (.string (bt n)) := hcell 1 (by omega)
        have gv0 := bt_ne hne
        have HN : Hid (plainW xs = none) := hide (by
          rw [unhide HP, List.drop_eq_getElem_cons (by omega)]
          have : xs[j] = .inr (n, k) := (List.getElem?_eq_some_iff.1 ha).2
          simp only [this, plainW]; rfl)
        clear hcell ha
        go_wp2_with fail
        refine bodyPost_ret (v := .tuple #[.string ⟨#[]⟩, .bool false]) (by simp [results, Tryz.results11, go_sem]) rfl ⟨by rw [unhide HN]; rfl, hB⟩
      | inl c =>
        have q0 : wr.cell? ⟨g, j * 3, none⟩ = some (.int .u8 (c.toNat : Int)) := hcell 0 (by omega)
        have q1 : wr.cell? ⟨g, j * 3 + 1, none⟩ = some (.string ⟨#[]⟩) := hcell 1 (by omega)
        have HN := hide (plain_step (by rw [hj]; exact unhide HP) (by rw [hj]; exact ha))
        have HRow := hide ((unhide HROW).alloc (.cells #[.int .u8 (c.toNat : Int)] 5))
        clear hcell ha
        go_wp2_with (at_builtin; refine wpList_append_own _ rfl _ _ 73 rfl (w.heap.size + 1) 5 i0 _ 1 1 Tryz.underlying73 hi hz0 hz1 hz2 rfl (by decide) _ j (byC bs) rfl (unhide HRow) ⟨wr.heap.size, 0, none⟩ 1 1 [.int .u8 (c.toNat : Int)] rfl rfl (World.news_of_block (cs := #[.int .u8 (c.toNat : Int)]) (t := 5) (fr := (0, 0)) (heap_alloc_new _ _)) (by intro u hu; simp only [List.mem_cons, List.not_mem_nil, or_false] at hu; subst hu; rfl) (by unfold maxLen; omega) (by omega) (by simp; omega) ?_; intro v6 w6 hown6 hgrow6 _; have HA6 := hide hown6; have HG6 := hide hgrow6; clear hown6 hgrow6)
        have hbig : ∀ q, q < w.heap.size + 1 → w6.heap[q]? = wr.heap[q]? := fun q hq => ((unhide HG6).block q (by simp; omega) (fun e => by have := (World.ownsRow.lt (unhide HROW) q e.symm).1; omega)).trans (Below.heap_alloc _ _ _ (by omega))
        go_roundw
        case rel =>
          first
            | exact ⟨bs ++ [c], by rw [List.length_append, hj]; go_num, by simp; omega, by rw [byC_snoc, List.length_append, hj]; exact unhide HA6, unhide HN, (hB.alloc hB.size _).grown (unhide HG6) (by simp; omega) (fun q hq => by have := (World.ownsRow.lt (unhide HROW) q hq).1; omega), (hbig _ (by omega)).trans (unhide HCC), Nat.le_trans hzr (by have := (unhide HG6).size; simp at this; omega)⟩
            | ((repeat apply Exists.intro); exact ⟨⟨bs ++ [c], by rw [List.length_append, hj]; go_num, by simp; omega, by rw [byC_snoc, List.length_append, hj]; exact unhide HA6, unhide HN, (hB.alloc hB.size _).grown (unhide HG6) (by simp; omega) (fun q hq => by have := (World.ownsRow.lt (unhide HROW) q hq).1; omega), (hbig _ (by omega)).trans (unhide HCC), Nat.le_trans hzr (by have := (unhide HG6).size; simp at this; omega)⟩, rfl⟩)
        case measure => simp [intOf]; omega
    · have HN : Hid (plainW xs = some bs) := hide (by
        rw [unhide HP, List.drop_eq_nil_of_le (by omega)]; simp [plainW])
      go_wp2_with fail
      refine bodyPost_ret (v := .tuple #[.string (bt bs), .bool true]) (by simp [results, Tryz.results11, go_sem]) rfl ⟨by rw [unhide HN]; rfl, hB⟩
end Go.Proofs.YtkikhmleffcajaaGreatDoor

namespace Go.Proofs.YtkikhmleffcajaaGreatDoor
open Go.RowKit Go.Maps

/-- What stageName knows at a place. -/
def SnAt (l : List UInt8) (k : Nat) : Prop := (l.take k).all sdC = true ∧ (0 < k → ∀ c, l[0]? = some c → smC c = true)
theorem sn_more {l : List UInt8} {k : Nat} {c : UInt8} (h : SnAt l k) (hc : l[k]? = some c) (hn : smC c = true ∨ (0 < k ∧ isDigC c = true)) : SnAt l (k + 1) := by
  have hnm : sdC c = true := by
    unfold sdC
    rcases hn with e | e
    · rw [e]; rfl
    · rw [e.2]; simp
  refine ⟨?_, fun _ d hd => ?_⟩
  · rw [List.take_add_one, hc, List.all_append, h.1]; simp [hnm]
  · rcases Nat.eq_zero_or_pos k with rfl | hk
    · rw [hc] at hd; cases hd
      rcases hn with e | e
      · exact e
      · omega
    · exact h.2 hk d hd
theorem sn_stop {l : List UInt8} {k : Nat} {c : UInt8} (hc : l[k]? = some c) (hs : smC c = false) (hd : k = 0 ∨ isDigC c = false) : stageNm l = false := by
  unfold stageNm
  rcases hd with rfl | hd
  · cases l with
    | nil => simp at hc
    | cons a r => simp at hc; subst hc; simp [hs]
  · have hm : l.all sdC = false := by
      rw [List.all_eq_false]
      exact ⟨c, List.mem_of_getElem? hc, by simp [sdC, hs, hd]⟩
    rw [hm]; simp
theorem sn_end {l : List UInt8} (h : SnAt l l.length) : stageNm l = (!l.isEmpty && decide (l.length ≤ 10)) := by
  unfold stageNm
  have h1 := h.1
  rw [List.take_length] at h1
  rw [h1]
  cases l with
  | nil => rfl
  | cons a r =>
    have := h.2 (by simp) a rfl
    simp [this]
set_option maxHeartbeats 2000000 in
set_option maxRecDepth 10000 in
theorem stageName_doc (s : ByteArray) (w : World) (hs : s.size ≤ 1500) :
    Calls Tryz.prog 24 #[.string s] w fun e w' => e = .returned (.bool (stageNm s.data.toList)) ∧ w' = w := by
  go_enter Tryz.func24, Tryz.ntmps24
  go_wp2_with fail
  go_loop [3] (fun i => ∃ k : Nat, k ≤ s.size ∧ i = .int .i64 k ∧ SnAt s.data.toList k) (fun i => s.size - (intOf i).toNat)
  case atStart => exact ⟨0, Nat.zero_le _, rfl, rfl, fun h => by omega⟩
  case round =>
    obtain ⟨k, hk, rfl, ha⟩ := hrel
    have A := hide ha
    clear ha
    by_cases hlt : k < s.size
    · have hc := getA s k hlt
      have HC := hide hc
      clear hc
      have Hmore : Hid (((97 ≤ s[k].toNat ∧ s[k].toNat ≤ 122) ∨ (0 < k ∧ (48 ≤ s[k].toNat ∧ s[k].toNat ≤ 57))) → SnAt s.data.toList (k + 1)) := hide (fun h => sn_more (unhide A) (unhide HC) (by
        rcases h with h | ⟨h1, h⟩
        · exact .inl (decide_eq_true h)
        · exact .inr ⟨h1, decide_eq_true h⟩))
      have Hstop : Hid (¬ ((97 ≤ s[k].toNat ∧ s[k].toNat ≤ 122) ∨ (0 < k ∧ (48 ≤ s[k].toNat ∧ s[k].toNat ≤ 57))) → stageNm s.data.toList = false) := hide (fun h => sn_stop (unhide HC) (decide_eq_false fun e => h (.inl e)) (by
        rcases Nat.eq_zero_or_pos k with e | e
        · exact .inl e
        · exact .inr (decide_eq_false fun x => h (.inr ⟨e, x⟩))))
      go_wp2_with fail
      all_goals
        first
          | (go_round
             case rel => exact ⟨k + 1, hlt, by go_num, unhide Hmore (by first | omega | (simp at *; omega))⟩
             case measure => simp [intOf]; omega)
          | (refine ⟨⟨k + 1, hlt, by go_num, unhide Hmore (by first | omega | (simp at *; omega))⟩, ?_⟩; simp [intOf]; omega)
          | (go_ret; exact ⟨by rw [unhide Hstop (by first | omega | (simp at *; omega))]; rfl, rfl⟩)
          | (exfalso; first | omega | (simp at *; omega))
          | trace_state
    · have hke : k = s.size := by omega
      have HE : Hid (stageNm s.data.toList = (!s.toList.isEmpty && decide (s.size ≤ 10))) := hide (by
        have h1 := unhide A
        rw [hke, Lib.size_eq] at h1
        rw [sn_end h1, ByteArray.toList_eq, Lib.size_eq])
      clear hke
      cases he : s.toList.isEmpty with
      | true =>
        rw [he] at HE
        go_wp2_with fail
        go_ret
        exact ⟨ret_bool (by rw [unhide HE]; rfl), rfl⟩
      | false =>
        rw [he] at HE
        go_wp2_with fail
        go_ret
        exact ⟨ret_bool (by rw [unhide HE, Bool.eq_iff_iff]; simp at * <;> omega), rfl⟩
/-- What the document's bounds answers. -/
def bndD (t : List UInt8) : Int × Int × Bool := match opN t with
  | some i => ((ruleT i).1, (ruleT i).2.1, true)
  | none => (0, 0, false)
theorem bnd_ne {s : ByteArray} {l : List UInt8} (h : ¬ s = ⟨l.toArray⟩) : (s.toList == l) = false := by
  rw [ByteArray.toList_eq]
  rw [beq_eq_false_iff_ne]
  intro e
  exact h (by rw [← e])
set_option maxHeartbeats 2000000 in
set_option maxRecDepth 10000 in
theorem bounds_doc (s : ByteArray) (w : World) :
    Calls Tryz.prog 12 #[.string s] w fun e w' => e = .returned (.tuple #[.int .i64 (bndD s.data.toList).1, .int .i64 (bndD s.data.toList).2.1, .bool (bndD s.data.toList).2.2]) ∧ w' = w := by
  by_cases h0 : s = ⟨#[70, 82, 79, 77]⟩
  · subst h0
    go_enter Tryz.func12, Tryz.ntmps12
    go_wp2_with fail
    exact bodyPost_ret (v := .tuple #[.int .i64 (ruleT 0).1, .int .i64 (ruleT 0).2.1, .bool true]) (by simp [results, Tryz.results12, go_sem, ruleT]) rfl ⟨rfl, rfl⟩
  have f0 := bnd_ne (l := [70, 82, 79, 77]) h0
  by_cases h1 : s = ⟨#[67, 79, 80, 89]⟩
  · subst h1
    clear h0 f0
    go_enter Tryz.func12, Tryz.ntmps12
    go_wp2_with fail
    exact bodyPost_ret (v := .tuple #[.int .i64 (ruleT 1).1, .int .i64 (ruleT 1).2.1, .bool true]) (by simp [results, Tryz.results12, go_sem, ruleT]) rfl ⟨rfl, rfl⟩
  have f1 := bnd_ne (l := [67, 79, 80, 89]) h1
  by_cases h2 : s = ⟨#[65, 68, 68]⟩
  · subst h2
    clear h0 f0
    clear h1 f1
    go_enter Tryz.func12, Tryz.ntmps12
    go_wp2_with fail
    exact bodyPost_ret (v := .tuple #[.int .i64 (ruleT 2).1, .int .i64 (ruleT 2).2.1, .bool true]) (by simp [results, Tryz.results12, go_sem, ruleT]) rfl ⟨rfl, rfl⟩
  have f2 := bnd_ne (l := [65, 68, 68]) h2
  by_cases h3 : s = ⟨#[76, 73, 78, 75]⟩
  · subst h3
    clear h0 f0
    clear h1 f1
    clear h2 f2
    go_enter Tryz.func12, Tryz.ntmps12
    go_wp2_with fail
    exact bodyPost_ret (v := .tuple #[.int .i64 (ruleT 5).1, .int .i64 (ruleT 5).2.1, .bool true]) (by simp [results, Tryz.results12, go_sem, ruleT]) rfl ⟨rfl, rfl⟩
  have f3 := bnd_ne (l := [76, 73, 78, 75]) h3
  by_cases h4 : s = ⟨#[69, 78, 86]⟩
  · subst h4
    clear h0 f0
    clear h1 f1
    clear h2 f2
    clear h3 f3
    go_enter Tryz.func12, Tryz.ntmps12
    go_wp2_with fail
    exact bodyPost_ret (v := .tuple #[.int .i64 (ruleT 6).1, .int .i64 (ruleT 6).2.1, .bool true]) (by simp [results, Tryz.results12, go_sem, ruleT]) rfl ⟨rfl, rfl⟩
  have f4 := bnd_ne (l := [69, 78, 86]) h4
  by_cases h5 : s = ⟨#[82, 77]⟩
  · subst h5
    clear h0 f0
    clear h1 f1
    clear h2 f2
    clear h3 f3
    clear h4 f4
    go_enter Tryz.func12, Tryz.ntmps12
    go_wp2_with fail
    exact bodyPost_ret (v := .tuple #[.int .i64 (ruleT 3).1, .int .i64 (ruleT 3).2.1, .bool true]) (by simp [results, Tryz.results12, go_sem, ruleT]) rfl ⟨rfl, rfl⟩
  have f5 := bnd_ne (l := [82, 77]) h5
  by_cases h6 : s = ⟨#[87, 79, 82, 75, 68, 73, 82]⟩
  · subst h6
    clear h0 f0
    clear h1 f1
    clear h2 f2
    clear h3 f3
    clear h4 f4
    clear h5 f5
    go_enter Tryz.func12, Tryz.ntmps12
    go_wp2_with fail
    exact bodyPost_ret (v := .tuple #[.int .i64 (ruleT 7).1, .int .i64 (ruleT 7).2.1, .bool true]) (by simp [results, Tryz.results12, go_sem, ruleT]) rfl ⟨rfl, rfl⟩
  have f6 := bnd_ne (l := [87, 79, 82, 75, 68, 73, 82]) h6
  by_cases h7 : s = ⟨#[77, 75, 68, 73, 82]⟩
  · subst h7
    clear h0 f0
    clear h1 f1
    clear h2 f2
    clear h3 f3
    clear h4 f4
    clear h5 f5
    clear h6 f6
    go_enter Tryz.func12, Tryz.ntmps12
    go_wp2_with fail
    exact bodyPost_ret (v := .tuple #[.int .i64 (ruleT 4).1, .int .i64 (ruleT 4).2.1, .bool true]) (by simp [results, Tryz.results12, go_sem, ruleT]) rfl ⟨rfl, rfl⟩
  have f7 := bnd_ne (l := [77, 75, 68, 73, 82]) h7
  have HN : Hid (opN s.data.toList = none) := hide (by
    unfold opN
    have : tbl.find? (fun p => p.1 == s.data.toList) = none := by
      rw [List.find?_eq_none]
      intro p hp hq
      have hq' : p.1 = s.data.toList := by simpa using hq
      have hs : s = ⟨p.1.toArray⟩ := by rw [hq']
      simp only [tbl, List.mem_cons, List.not_mem_nil, or_false] at hp
      rcases hp with rfl | rfl | rfl | rfl | rfl | rfl | rfl | rfl
      · exact h2 hs
      · exact h1 hs
      · exact h4 hs
      · exact h0 hs
      · exact h3 hs
      · exact h7 hs
      · exact h5 hs
      · exact h6 hs
    rw [this]; rfl)
  clear h0
  clear h1
  clear h2
  clear h3
  clear h4
  clear h5
  clear h6
  clear h7
  go_enter Tryz.func12, Tryz.ntmps12
  go_wp2_with fail
  exact bodyPost_ret (v := .tuple #[.int .i64 0, .int .i64 0, .bool false]) (by simp [results, Tryz.results12, go_sem]) rfl ⟨by unfold bndD; rw [unhide HN], rfl⟩
/-- A number, or that it is none. -/
def OctOk (b : Bool) (v : Int) : Prop := if b = true then 0 ≤ v else v = -1
theorem octOk_no : OctOk false (-1) := rfl
theorem octOk_yes {v : Int} (h : 0 ≤ v) : OctOk true v := h
set_option maxHeartbeats 2000000 in
set_option maxRecDepth 10000 in
theorem number_doc (s : ByteArray) (w : World) (hs : s.size ≤ 3) :
    Calls Tryz.prog 44 #[.string s] w fun e w' => (∃ v : Int, e = .returned (.int .i64 v) ∧ OctOk (s.data.toList.all octC) v) ∧ w' = w := by
  obtain ⟨b, hb⟩ : ∃ b, s.data.toList.all octC = b := ⟨_, rfl⟩
  rw [hb]
  have HBB := hide hb
  clear hb
  go_enter Tryz.func44, Tryz.ntmps44
  go_wp2_with fail
  go_loop [3, 4] (fun v i => ∃ k n : Nat, k ≤ s.size ∧ i = .int .i64 k ∧ v = .int .i64 (n : Int) ∧ n < 8 ^ k ∧ (s.data.toList.take k).all octC = true) (fun _ i => s.size - (intOf i).toNat)
  case atStart => exact ⟨0, 0, Nat.zero_le _, rfl, rfl, by simp, rfl⟩
  case round =>
    obtain ⟨k, n, hk, rfl, rfl, hn, ha⟩ := hrel
    have A := hide ha
    clear ha
    have hn3 : n < 512 := Nat.lt_of_lt_of_le hn (by
      have : 8 ^ k ≤ 8 ^ 3 := Nat.pow_le_pow_right (by omega) (by omega)
      omega)
    by_cases hlt : k < s.size
    · have hc := getA s k hlt
      by_cases ho : 48 ≤ s[k].toNat ∧ s[k].toNat ≤ 55
      · obtain ⟨o1, o2⟩ := ho
        have HM : Hid ((s.data.toList.take (k + 1)).all octC = true) := hide (by
          rw [List.take_add_one, hc, List.all_append, unhide A]
          simp only [Option.toList_some, List.all_cons, List.all_nil, Bool.and_true, Bool.true_and]
          exact decide_eq_true ⟨o1, o2⟩)
        have hp : 8 * n + (s[k].toNat - 48) < 8 ^ (k + 1) := by rw [Nat.pow_succ]; omega
        have g1 : ¬ (s[k].toNat : Int) < 48 := by omega
        have g2 : ¬ (55 : Int) < (s[k].toNat : Int) := by omega
        clear hc
        go_wp2_with fail
        all_goals
          go_round
          case rel =>
            first
              | exact ⟨k + 1, 8 * n + (s[k].toNat - 48), hlt, by go_num, by congr 1; simp; omega, hp, unhide HM⟩
              | trace_state
          case measure => simp [intOf]; omega
      · have HM : Hid (b = false) := hide (by
          rw [← unhide HBB, List.all_eq_false]
          exact ⟨s[k], List.mem_of_getElem? hc, by unfold octC; simpa using ho⟩)
        clear hc
        go_wp2_with fail
        all_goals
          first
            | (go_ret; exact ⟨⟨-1, rfl, by rw [unhide HM]; exact octOk_no⟩, rfl⟩)
            | (exfalso; simp at *; omega)
    · have HM : Hid (b = true) := hide (by
        have h1 := unhide A
        rw [← unhide HBB]
        rwa [List.take_of_length_le (by rw [← Lib.size_eq]; omega)] at h1)
      go_wp2_with fail
      go_ret
      exact ⟨⟨n, rfl, by rw [unhide HM]; exact octOk_yes (by omega)⟩, rfl⟩
theorem mode_doc (s : ByteArray) (w : World) (_ : s.size ≤ 1500) :
    Calls Tryz.prog 27 #[.string s] w fun e w' => (∃ v : Int, e = .returned (.int .i64 v) ∧ OctOk (modeN s.data.toList) v) ∧ w' = w := by
  by_cases h3 : s.size = 3
  · have hN := number_doc s w (by omega)
    have hm : modeN s.data.toList = s.data.toList.all octC := by unfold modeN; rw [← Lib.size_eq, h3]; simp
    rw [← hm] at hN
    have g : ((s.size : Int) != 3) = false := by simp; omega
    go_enter Tryz.func27, Tryz.ntmps27
    go_wp2_with (go_at_call 44; refine hN.mono ?_; clear hN; rintro ev w1 ⟨⟨v, rfl, hv⟩, hw⟩; obtain rfl := hw.symm)
    go_ret
    exact ⟨⟨v, rfl, hv⟩, rfl⟩
  · have hm : modeN s.data.toList = false := by unfold modeN; rw [← Lib.size_eq]; simp [h3]
    have g : ((s.size : Int) != 3) = true := by simp; omega
    have HM := hide hm
    clear hm
    go_enter Tryz.func27, Tryz.ntmps27
    go_wp2_with fail
    go_ret
    exact ⟨⟨-1, rfl, by rw [unhide HM]; exact octOk_no⟩, rfl⟩
/-- Names in memory. -/
abbrev NmR (w : World) (B : Nat) (v : Value) (ns : List (List UInt8)) : Prop := w.ownsRow B 9 1 v ns.length (ns.map fun n => .string (bt n))
set_option maxHeartbeats 2000000 in
set_option maxRecDepth 10000 in
theorem has_doc (v : Value) (ns : List (List UInt8)) (nm : ByteArray) (B : Nat) (w : World) (h : NmR w B v ns) (hl : ns.length ≤ 100000) :
    Calls Tryz.prog 46 #[v, .string nm] w fun e w' => e = .returned (.bool (ns.contains nm.data.toList)) ∧ w' = w := by
  obtain ⟨ao, n', cap, rfl⟩ := row_form h
  obtain rfl := row_len h
  have HH := hide h
  obtain ⟨b, hb⟩ : ∃ b, ns.contains nm.data.toList = b := ⟨_, rfl⟩
  rw [hb]
  have HBB := hide hb
  clear h hb
  go_enter Tryz.func46, Tryz.ntmps46
  go_wp2_with fail
  go_loop [5] (fun i => ∃ k : Nat, k ≤ ns.length ∧ i = .int .i64 k ∧ nm.data.toList ∉ ns.take k) (fun i => ns.length - (intOf i).toNat)
  case atStart => exact ⟨0, Nat.zero_le _, rfl, by simp⟩
  case round =>
    obtain ⟨k, hk, rfl, ha⟩ := hrel
    have A := hide ha
    clear ha
    by_cases hlt : k < ns.length
    · obtain ⟨g, cp, hv, _, _⟩ := World.ownsRow.form (unhide HH) (by omega)
      injection hv with e1 _ e3
      subst e1 e3
      obtain ⟨a, hget⟩ : ∃ a, ns[k]? = some a := ⟨_, List.getElem?_eq_getElem hlt⟩
      have q0 : w.cell? ⟨g, k, none⟩ = some (.string (bt a)) := by
        have hq : w.cell? ⟨g, k, none⟩ = (ns.map fun n => Value.string (bt n))[k]? := World.ownsRow.cellAt (unhide HH) _ (by omega)
        rw [hq, List.getElem?_map, hget]; rfl
      by_cases he : a = nm.data.toList
      · have HM : Hid (b = true) := hide (by rw [← unhide HBB, List.contains_iff_mem, ← he]; exact List.mem_of_getElem? hget)
        have g1 : ((bt a).toList == nm.toList) = true := by rw [ByteArray.toList_eq, ByteArray.toList_eq, bt_list, he]; simp
        clear he hget
        go_wp2_with fail
        go_ret
        exact ⟨ret_bool (unhide HM).symm, rfl⟩
      · have HM : Hid (nm.data.toList ∉ ns.take (k + 1)) := hide (by
          rw [List.take_add_one, hget]
          intro hm
          rcases List.mem_append.1 hm with h' | h'
          · exact unhide A h'
          · simp at h'; exact he h'.symm)
        have g1 : ((bt a).toList == nm.toList) = false := by rw [ByteArray.toList_eq, ByteArray.toList_eq, bt_list]; simpa using he
        clear he hget
        go_wp2_with fail
        go_round
        case rel => exact ⟨k + 1, hlt, by go_num, unhide HM⟩
        case measure => simp [intOf]; omega
    · have HM : Hid (b = false) := hide (by
        have h1 := unhide A
        rw [List.take_of_length_le (by omega)] at h1
        rw [← unhide HBB, ← Bool.not_eq_true, List.contains_iff_mem]; exact h1)
      go_wp2_with fail
      go_ret
      exact ⟨ret_bool (unhide HM).symm, rfl⟩
end Go.Proofs.YtkikhmleffcajaaGreatDoor
