import Derived.Test.YtkikhmleffcajaaGreatDoorJDcI
import Derived.Test.YtkikhmleffcajaaGreatDoorJBfH
import Derived.Test.YtkikhmleffcajaaGreatDoorJDcA
import Derived.Deep.RegionHeld3
import Derived.Deep.AppendLies
namespace Go.Proofs.YtkikhmleffcajaaGreatDoor
open Go.RowKit Go.Maps

/-- A word of the document's in memory. -/
def WdM.cellsD (m : WdM) : List Value := [m.v, .int .i64 (m.place : Int)]
def wdcD (l : List WdM) : List Value := (l.map WdM.cellsD).flatten
theorem wdcD_len (l : List WdM) : (wdcD l).length = l.length * 2 := by
  induction l with
  | nil => rfl
  | cons a r ih => simp only [wdcD, List.map_cons, List.flatten_cons, List.length_append, List.length_cons] at ih ⊢; rw [ih]; simp [WdM.cellsD]; omega
theorem wdcD_snoc (l : List WdM) (a : WdM) : wdcD (l ++ [a]) = wdcD l ++ a.cellsD := by simp [wdcD]
theorem wdcD_at (xs : List WdM) : ∀ (j : Nat) (a : WdM) (d : Nat), xs[j]? = some a → d < 2 → (wdcD xs)[j * 2 + d]? = a.cellsD[d]? := by
  induction xs with
  | nil => intro j a d h; simp at h
  | cons b r ih =>
    intro j a d h hd
    have e : wdcD (b :: r) = b.cellsD ++ wdcD r := by simp [wdcD]
    have el : b.cellsD.length = 2 := rfl
    rw [e]
    cases j with
    | zero =>
      simp at h; subst h
      rw [List.getElem?_append_left (by rw [el]; omega)]; congr 1; omega
    | succ j =>
      rw [List.getElem?_append_right (by rw [el]; omega), el, show (j + 1) * 2 + d - 2 = j * 2 + d by omega]
      exact ih j a d (by simpa using h) hd
theorem info46 : (Tryz.prog.info? 47).map (fun i => (i.zero, i.size, i.bytes)) = some (some (.agg #[.slice none 0 0, .int .i64 0]), 2, 32) := by kernel_rfl
/-- Words of the document's in memory. -/
structure WsD (w : World) (B : Nat) (v : Value) (ms : List WdM) : Prop where
  row : w.ownsRow B 47 2 v ms.length (wdcD ms)
  all : ∀ m ∈ ms, AtR w B m.v m.xs
theorem WsD.same {w w' : World} {B : Nat} {v : Value} {ms : List WdM} (h : WsD w B v ms) (hk : ∀ q, B ≤ q → q < w.heap.size → w'.heap[q]? = w.heap[q]?) : WsD w' B v ms :=
  ⟨row_same h.row fun q hq => hk q (World.ownsRow.lt h.row q hq).1 (World.ownsRow.lt h.row q hq).2, fun m hm => row_same (h.all m hm) fun q hq => hk q (World.ownsRow.lt (h.all m hm) q hq).1 (World.ownsRow.lt (h.all m hm) q hq).2⟩
theorem WsD.below {w w' : World} {B : Nat} {v : Value} {ms : List WdM} (h : WsD w B v ms) (hb : Below w.heap.size w w') : WsD w' B v ms := h.same fun q _ hq => hb.block q hq
theorem WsD.base {w : World} {B B' : Nat} {v : Value} {ms : List WdM} (h : WsD w B v ms) (hb : B' ≤ B) : WsD w B' v ms := ⟨row_base h.row hb, fun m hm => row_base (h.all m hm) hb⟩
theorem WsD.snoc {w w1 : World} {B : Nat} {v v' : Value} {ms : List WdM} {m : WdM} (h : WsD w B v ms) (hm : AtR w B m.v m.xs) (hown : w1.ownsRow B 47 2 v' (ms.length + 1) (wdcD ms ++ m.cellsD)) (hg : w.grownBy w1 v.ownBlock) : WsD w1 B v' (ms ++ [m]) := by
  refine ⟨by rw [wdcD_snoc, List.length_append]; exact hown, fun m' hm' => ?_⟩
  have hok : AtR w B m'.v m'.xs := by
    rcases List.mem_append.1 hm' with h' | h'
    · exact h.all m' h'
    · rw [List.mem_singleton] at h'; rw [h']; exact hm
  exact row_same hok fun k hk => hg.block k (World.ownsRow.lt hok k hk).2 (fun e => row_apart hok h.row (by decide) k hk e.symm)
/-- An instruction of the document's in memory: all words of its line, how many of them are left out. -/
structure DpM where
  op : List UInt8
  lv : Value
  wv : Value
  ms : List WdM
  d : Nat
  stage : Int
  place : Nat
/-- A stage of the document's in memory. -/
structure DsM where
  name : List UInt8
  base : Int
  sv : Value
  steps : List DpM
  vv : Value
  vars : List (List UInt8)
def DpM.cells (p : DpM) : List Value := [.string (bt p.op), p.lv, .int .i64 p.stage, .int .i64 (p.place : Int)]
def DsM.cells (s : DsM) : List Value := [.string (bt s.name), .int .i64 s.base, s.sv, s.vv]
def dpC (l : List DpM) : List Value := (l.map DpM.cells).flatten
def dsC (l : List DsM) : List Value := (l.map DsM.cells).flatten
theorem dsC_len (l : List DsM) : (dsC l).length = l.length * 4 := by
  induction l with
  | nil => rfl
  | cons a r ih => simp only [dsC, List.map_cons, List.flatten_cons, List.length_append, List.length_cons] at ih ⊢; rw [ih]; simp [DsM.cells]; omega
theorem dsC_snoc (l : List DsM) (a : DsM) : dsC (l ++ [a]) = dsC l ++ a.cells := by simp [dsC]
theorem dsC_at (xs : List DsM) : ∀ (j : Nat) (a : DsM) (d : Nat), xs[j]? = some a → d < 4 → (dsC xs)[j * 4 + d]? = a.cells[d]? := by
  induction xs with
  | nil => intro j a d h; simp at h
  | cons b r ih =>
    intro j a d h hd
    have e : dsC (b :: r) = b.cells ++ dsC r := by simp [dsC]
    have el : b.cells.length = 4 := rfl
    rw [e]
    cases j with
    | zero =>
      simp at h; subst h
      rw [List.getElem?_append_left (by rw [el]; omega)]; congr 1; omega
    | succ j =>
      rw [List.getElem?_append_right (by rw [el]; omega), el, show (j + 1) * 4 + d - 4 = j * 4 + d by omega]
      exact ih j a d (by simpa using h) hd
/-- The row of the stages alone. -/
abbrev StR (w : World) (B : Nat) (v : Value) (ss : List DsM) : Prop := w.ownsRow B 58 4 v ss.length (dsC ss)
theorem StR.cell {w : World} {B g cap : Nat} {ss : List DsM} (h : StR w B (.slice (some ⟨g, 0, none⟩) ss.length cap) ss) {j : Nat} {a : DsM} (hj : ss[j]? = some a) (d : Nat) (hd : d < 4) : w.cell? ⟨g, j * 4 + d, none⟩ = a.cells[d]? := by
  have hlt := (List.getElem?_eq_some_iff.1 hj).1
  rw [World.ownsRow.cellAt h _ (by omega), dsC_at ss j a d hj hd]
/-- The stage of a name. -/
def callD (ss : List DsM) (nm : List UInt8) : Int := match ss.findIdx? (fun s => s.name == nm) with
  | some i => i
  | none => -1
set_option maxHeartbeats 2000000 in
set_option maxRecDepth 10000 in
theorem called_doc (v : Value) (ss : List DsM) (nm : ByteArray) (B : Nat) (w : World) (h : StR w B v ss) (hl : ss.length ≤ 100) :
    Calls Tryz.prog 25 #[v, .string nm] w fun e w' => e = .returned (.int .i64 (callD ss nm.data.toList)) ∧ w' = w := by
  obtain ⟨ao, n', cap, rfl⟩ := row_form h
  obtain rfl := row_len h
  have HH := hide h
  obtain ⟨r, hr⟩ : ∃ r, callD ss nm.data.toList = r := ⟨_, rfl⟩
  rw [hr]
  have HR := hide hr
  clear h hr
  go_enter Tryz.func25, Tryz.ntmps25
  go_wp2_with fail
  go_loop [5] (fun i => ∃ k : Nat, k ≤ ss.length ∧ i = .int .i64 k ∧ ∀ (j : Nat) (s : DsM), j < k → ss[j]? = some s → s.name ≠ nm.data.toList) (fun i => ss.length - (intOf i).toNat)
  case atStart => exact ⟨0, Nat.zero_le _, rfl, fun j s hj => by omega⟩
  case round =>
    obtain ⟨k, hk, rfl, ha⟩ := hrel
    have A := hide ha
    clear ha
    by_cases hlt : k < ss.length
    · obtain ⟨g, cp, hv, _, _⟩ := World.ownsRow.form (unhide HH) (by omega)
      injection hv with e1 _ e3
      subst e1 e3
      obtain ⟨s, hget⟩ : ∃ s, ss[k]? = some s := ⟨_, List.getElem?_eq_getElem hlt⟩
      have q0 : w.cell? ⟨g, k * 4, none⟩ = some (.string (bt s.name)) := StR.cell (unhide HH) hget 0 (by omega)
      by_cases he : s.name = nm.data.toList
      · have HM : Hid (r = (k : Int)) := hide (by
          rw [← unhide HR]; unfold callD
          rw [findIdx_some hget (by simpa using he) (fun i b hi hb => by simpa using unhide A i b hi hb)])
        have g1 : ((bt s.name).toList == nm.toList) = true := by rw [ByteArray.toList_eq, ByteArray.toList_eq, bt_list, he]; simp
        clear he hget
        go_wp2_with fail
        go_ret
        exact ⟨by rw [unhide HM]; rfl, rfl⟩
      · have HM : Hid (∀ (j : Nat) (s : DsM), j < k + 1 → ss[j]? = some s → s.name ≠ nm.data.toList) := hide (fun j s' hj hs' => by
          by_cases hik : j = k
          · subst hik; rw [hget] at hs'; cases hs'; exact he
          · exact unhide A j s' (by omega) hs')
        have g1 : ((bt s.name).toList == nm.toList) = false := by rw [ByteArray.toList_eq, ByteArray.toList_eq, bt_list]; simpa using he
        clear he hget
        go_wp2_with fail
        go_round
        case rel => exact ⟨k + 1, hlt, by go_num, unhide HM⟩
        case measure => simp [intOf]; omega
    · have HM : Hid (r = -1) := hide (by
        rw [← unhide HR]; unfold callD
        rw [findIdx_none (fun i s hs => by simpa using unhide A i s (by have := (List.getElem?_eq_some_iff.1 hs).1; omega) hs)])
      go_wp2_with fail
      go_ret
      exact ⟨by rw [unhide HM]; rfl, rfl⟩
/-- The name of a stage. -/
def titleD (ss : List DsM) (k : Int) : List UInt8 := if k < 0 then wScratch else match ss[k.toNat]? with
  | some s => s.name
  | none => []
end Go.Proofs.YtkikhmleffcajaaGreatDoor

namespace Go.Proofs.YtkikhmleffcajaaGreatDoor
open Go.RowKit Go.Maps

/-- A place, or that there is none. -/
def plcV : Option Nat → Int
  | some k => k
  | none => -1
theorem unW_byte {set : List UInt8 → Bool} {xs : List Atm} {j : Nat} {c : UInt8} (h : xs[j]? = some (.inl c)) : unsetW set (xs.drop j) = unsetW set (xs.drop (j + 1)) := by
  have hlt := (List.getElem?_eq_some_iff.1 h).1
  rw [List.drop_eq_getElem_cons hlt, (List.getElem?_eq_some_iff.1 h).2]; rfl
theorem unW_set {set : List UInt8 → Bool} {xs : List Atm} {j : Nat} {n : List UInt8} {k : Nat} (h : xs[j]? = some (.inr (n, k))) (hs : set n = true) : unsetW set (xs.drop j) = unsetW set (xs.drop (j + 1)) := by
  have hlt := (List.getElem?_eq_some_iff.1 h).1
  rw [List.drop_eq_getElem_cons hlt, (List.getElem?_eq_some_iff.1 h).2]
  show (if set n = true then _ else _) = _
  rw [if_pos hs]
theorem unW_not {set : List UInt8 → Bool} {xs : List Atm} {j : Nat} {n : List UInt8} {k : Nat} (h : xs[j]? = some (.inr (n, k))) (hs : set n = false) : unsetW set (xs.drop j) = some k := by
  have hlt := (List.getElem?_eq_some_iff.1 h).1
  rw [List.drop_eq_getElem_cons hlt, (List.getElem?_eq_some_iff.1 h).2]
  show (if set n = true then _ else _) = _
  rw [if_neg (by rw [hs]; decide)]
theorem unL_some {set : List UInt8 → Bool} {ms : List WdM} {i : Nat} {x : WdM} {k : Nat} (h : ms[i]? = some x) (hu : unsetW set x.xs = some k) : unsetL set ((ms.drop i).map WdM.wd) = some k := by
  have hlt := (List.getElem?_eq_some_iff.1 h).1
  rw [List.drop_eq_getElem_cons hlt, (List.getElem?_eq_some_iff.1 h).2, List.map_cons]
  unfold unsetL
  rw [show (WdM.wd x).atoms = x.xs from rfl, hu]
theorem unL_none {set : List UInt8 → Bool} {ms : List WdM} {i : Nat} {x : WdM} (h : ms[i]? = some x) (hu : unsetW set x.xs = none) : unsetL set ((ms.drop i).map WdM.wd) = unsetL set ((ms.drop (i + 1)).map WdM.wd) := by
  have hlt := (List.getElem?_eq_some_iff.1 h).1
  rw [List.drop_eq_getElem_cons hlt, (List.getElem?_eq_some_iff.1 h).2, List.map_cons]
  rw [unsetL]
  rw [show (WdM.wd x).atoms = x.xs from rfl, hu]
set_option maxHeartbeats 4000000 in
set_option maxRecDepth 10000 in
theorem unset_doc (g d n cap cp : Nat) (ms : List WdM) (vv : Value) (ns : List (List UInt8)) (B : Nat) (w : World) (hw : WsD w B (.slice (some ⟨g, 0, none⟩) ms.length cap) ms) (hd : ms.length = d + n) (hv : NmR w B vv ns) (hok : ∀ m ∈ ms, AtOk m.xs ∧ m.xs.length ≤ 1500) (hm : ms.length ≤ 1500) (hn : ns.length ≤ 100000) :
    Calls Tryz.prog 29 #[.slice (some ⟨g, d * 2, none⟩) n cp, vv] w fun e w' => e = .returned (.int .i64 (plcV (unsetL (fun nm => ns.contains nm) ((ms.drop d).map WdM.wd)))) ∧ Below w.heap.size w w' := by
  obtain ⟨ao, n', cap', rfl⟩ := row_form hv
  obtain ⟨st, hst⟩ : ∃ st, (fun nm => ns.contains nm) = st := ⟨_, rfl⟩
  have hsn : ∀ nm : ByteArray, ns.contains nm.data.toList = st nm.data.toList := fun nm => by rw [← hst]
  rw [hst]
  obtain ⟨r, hr⟩ : ∃ r, plcV (unsetL st ((ms.drop d).map WdM.wd)) = r := ⟨_, rfl⟩
  rw [hr]
  have HR := hide hr
  have HW := hide hw
  have HV := hide hv
  have HS := hide hsn
  have HOK := hide hok
  clear hw hv hr hst hsn hok
  go_enter Tryz.func29, Tryz.ntmps29
  go_wp2_with fail
  go_loopw [5] (fun i wr => ∃ k : Nat, k ≤ n ∧ i = .int .i64 (k : Int) ∧ Below w.heap.size w wr ∧ plcV (unsetL st ((ms.drop (d + k)).map WdM.wd)) = r) (fun i _ => n - (intOf i).toNat)
  case atStart => exact ⟨0, Nat.zero_le _, rfl, Below.refl _ _, unhide HR⟩
  case round =>
    obtain ⟨k, hk, rfl, hB, hu⟩ := hrel
    have HU := hide hu
    clear hu
    by_cases hlt : k < n
    · obtain ⟨x, hx⟩ : ∃ x, ms[d + k]? = some x := ⟨_, List.getElem?_eq_getElem (by omega)⟩
      have hxm := List.mem_of_getElem? hx
      obtain ⟨hao, hxl⟩ := unhide HOK x hxm
      have hrow := (unhide HW).all x hxm
      have hcellx : ∀ wx, Below w.heap.size w wx → wx.cell? ⟨g, d * 2 + k * 2, none⟩ = some x.v := fun wx hb => by
        have hq : w.cell? ⟨g, (d + k) * 2 + 0, none⟩ = (wdcD ms)[(d + k) * 2 + 0]? := World.ownsRow.cellAt (unhide HW).row _ (by omega)
        rw [World.cell?_of_block (hb.block g (World.ownsRow.lt (unhide HW).row g rfl).2), show d * 2 + k * 2 = (d + k) * 2 + 0 by omega, hq, wdcD_at ms (d + k) x 0 hx (by omega)]; rfl
      have HCX := hide hcellx
      have HX := hide hx
      have HAO := hide hao
      obtain ⟨ax, nx, cx, hxv⟩ := row_form hrow
      have HROW := hide hrow
      have HXV := hide hxv
      have hnx : nx = x.xs.length := by rw [hxv] at hrow; exact row_len hrow
      have q0 := hcellx wr hB
      rw [hxv] at q0
      clear hcellx hx hao hrow hxv hxm
      go_wp2_with fail
      go_loopw [6] (fun i w2 => ∃ j : Nat, j ≤ nx ∧ i = .int .i64 (j : Int) ∧ Below w.heap.size w w2 ∧ unsetW st x.xs = unsetW st (x.xs.drop j)) (fun i _ => nx - (intOf i).toNat)
      case atStart => exact ⟨0, Nat.zero_le _, rfl, hB, rfl⟩
      case round =>
        obtain ⟨j, hj, rfl, hB2, hu2⟩ := hrel
        have HU2 := hide hu2
        clear hu2
        have q1 := unhide HCX wr hB2
        rw [unhide HXV] at q1
        by_cases hjl : j < nx
        · obtain ⟨g2, c2, hf, _, _⟩ := World.ownsRow.form (unhide HROW) (by omega)
          rw [unhide HXV] at hf
          injection hf with e1 _ e3
          subst e1 e3
          obtain ⟨a, ha⟩ : ∃ a, x.xs[j]? = some a := ⟨_, List.getElem?_eq_getElem (by omega)⟩
          have hcell : ∀ e, e < 3 → wr.cell? ⟨g2, j * 3 + e, none⟩ = a.cells[e]? := fun e he => by
            have hrw := unhide HROW
            rw [unhide HXV, hnx] at hrw
            have hq : w.cell? ⟨g2, j * 3 + e, none⟩ = (atC x.xs)[j * 3 + e]? := World.ownsRow.cellAt hrw _ (by omega)
            rw [World.cell?_of_block (hB2.block g2 (World.ownsRow.lt hrw g2 rfl).2), hq, atC_at x.xs j a e ha he]
          cases a with
          | inl c =>
            have p0 : wr.cell? ⟨g2, j * 3, none⟩ = some (.int .u8 (c.toNat : Int)) := hcell 0 (by omega)
            have p1 : wr.cell? ⟨g2, j * 3 + 1, none⟩ = some (.string ⟨#[]⟩) := hcell 1 (by omega)
            have p2 : wr.cell? ⟨g2, j * 3 + 2, none⟩ = some (.int .i64 0) := hcell 2 (by omega)
            have HN := hide ((unhide HU2).trans (unW_byte ha))
            clear hcell ha
            go_upto_region 8 with fail
            obtain ⟨W3, hW3⟩ : ∃ W3, W3 = wr.alloc (.cells #[.int .u8 (c.toNat : Int), .string ⟨#[]⟩, .int .i64 0] 75) := ⟨_, rfl⟩
            have hB3 : Below w.heap.size w W3 := by rw [hW3]; exact hB2.alloc hB2.size _
            have hn3 : W3.heap[wr.heap.size]? = some (.cells #[.int .u8 (c.toNat : Int), .string ⟨#[]⟩, .int .i64 0] 75 (0, 0)) := by rw [hW3]; exact heap_alloc_new _ _
            have t1 : W3.cell? ⟨wr.heap.size, 1, none⟩ = some (.string ⟨#[]⟩) := cell_of_row _ _ 1 _ _ _ hn3
            have t2 : W3.cell? ⟨wr.heap.size, 2, none⟩ = some (.int .i64 0) := cell_of_row _ _ 2 _ _ _ hn3
            have hV3 : NmR W3 B (.slice ao n' cap') ns := row_same (unhide HV) fun q hq => hB3.block q (World.ownsRow.lt (unhide HV) q hq).2
            have hH := has_doc (.slice ao n' cap') ns ⟨#[]⟩ B W3 hV3 hn
            rw [← hW3]
            clear hW3 hn3 hV3
            go_wp2_with (go_at_call 46; refine hH.mono ?_; clear hH; rintro ev w5 ⟨rfl, hw5⟩; obtain rfl := hw5.symm)
            go_roundw
            case rel =>
              first
                | exact ⟨j + 1, hjl, by go_num, hB3, unhide HN⟩
                | ((repeat apply Exists.intro); exact ⟨⟨j + 1, hjl, by go_num, hB3, unhide HN⟩, rfl⟩)
            case measure => simp [intOf]; omega
          | inr pA =>
            obtain ⟨nm, pl⟩ := pA
            obtain ⟨hne, hnl⟩ := unhide HAO nm pl (List.mem_of_getElem? ha)
            have p0 : wr.cell? ⟨g2, j * 3, none⟩ = some (.int .u8 0) := hcell 0 (by omega)
            have p1 : wr.cell? ⟨g2, j * 3 + 1, none⟩ = some (.string (bt nm)) := hcell 1 (by omega)
            have p2 : wr.cell? ⟨g2, j * 3 + 2, none⟩ = some (.int .i64 (pl : Int)) := hcell 2 (by omega)
            have gv0 := bt_ne hne
            have hst := unhide HS (bt nm)
            rw [bt_list] at hst
            cases hs : st nm with
            | true =>
              have HN := hide ((unhide HU2).trans (unW_set ha hs))
              clear hcell ha
              go_upto_region 8 with fail
              obtain ⟨W3, hW3⟩ : ∃ W3, W3 = wr.alloc (.cells #[.int .u8 0, .string (bt nm), .int .i64 (pl : Int)] 75) := ⟨_, rfl⟩
              have hB3 : Below w.heap.size w W3 := by rw [hW3]; exact hB2.alloc hB2.size _
              have hn3 : W3.heap[wr.heap.size]? = some (.cells #[.int .u8 0, .string (bt nm), .int .i64 (pl : Int)] 75 (0, 0)) := by rw [hW3]; exact heap_alloc_new _ _
              have t1 : W3.cell? ⟨wr.heap.size, 1, none⟩ = some (.string (bt nm)) := cell_of_row _ _ 1 _ _ _ hn3
              have t2 : W3.cell? ⟨wr.heap.size, 2, none⟩ = some (.int .i64 (pl : Int)) := cell_of_row _ _ 2 _ _ _ hn3
              have hV3 : NmR W3 B (.slice ao n' cap') ns := row_same (unhide HV) fun q hq => hB3.block q (World.ownsRow.lt (unhide HV) q hq).2
              have hH := has_doc (.slice ao n' cap') ns (bt nm) B W3 hV3 hn
              rw [bt_list, hst, hs] at hH
              rw [← hW3]
              clear hW3 hn3 hV3 hst hs
              go_wp2_with (go_at_call 46; refine hH.mono ?_; clear hH; rintro ev w5 ⟨rfl, hw5⟩; obtain rfl := hw5.symm)
              go_roundw
              case rel =>
                first
                  | exact ⟨j + 1, hjl, by go_num, hB3, unhide HN⟩
                  | ((repeat apply Exists.intro); exact ⟨⟨j + 1, hjl, by go_num, hB3, unhide HN⟩, rfl⟩)
              case measure => simp [intOf]; omega
            | false =>
              have HN : Hid (r = (pl : Int)) := hide (by
                rw [← unhide HU, unL_some (unhide HX) ((unhide HU2).trans (unW_not ha hs))]; rfl)
              clear hcell ha
              go_upto_region 8 with fail
              obtain ⟨W3, hW3⟩ : ∃ W3, W3 = wr.alloc (.cells #[.int .u8 0, .string (bt nm), .int .i64 (pl : Int)] 75) := ⟨_, rfl⟩
              have hB3 : Below w.heap.size w W3 := by rw [hW3]; exact hB2.alloc hB2.size _
              have hn3 : W3.heap[wr.heap.size]? = some (.cells #[.int .u8 0, .string (bt nm), .int .i64 (pl : Int)] 75 (0, 0)) := by rw [hW3]; exact heap_alloc_new _ _
              have t1 : W3.cell? ⟨wr.heap.size, 1, none⟩ = some (.string (bt nm)) := cell_of_row _ _ 1 _ _ _ hn3
              have t2 : W3.cell? ⟨wr.heap.size, 2, none⟩ = some (.int .i64 (pl : Int)) := cell_of_row _ _ 2 _ _ _ hn3
              have hV3 : NmR W3 B (.slice ao n' cap') ns := row_same (unhide HV) fun q hq => hB3.block q (World.ownsRow.lt (unhide HV) q hq).2
              have hH := has_doc (.slice ao n' cap') ns (bt nm) B W3 hV3 hn
              rw [bt_list, hst, hs] at hH
              rw [← hW3]
              clear hW3 hn3 hV3 hst hs
              go_wp2_with (go_at_call 46; refine hH.mono ?_; clear hH; rintro ev w5 ⟨rfl, hw5⟩; obtain rfl := hw5.symm)
              go_ret
              exact ⟨by rw [unhide HN]; rfl, hB3⟩
        · have HN : Hid (unsetW st x.xs = none) := hide (by rw [unhide HU2, List.drop_eq_nil_of_le (by omega)]; rfl)
          have HN2 : Hid (plcV (unsetL st ((ms.drop (d + (k + 1))).map WdM.wd)) = r) := hide (by rw [← unhide HU, unL_none (unhide HX) (unhide HN)]; rfl)
          go_wp2_with fail
          go_roundw
          case rel =>
            first
              | exact ⟨k + 1, hlt, by go_num, hB2, unhide HN2⟩
              | ((repeat apply Exists.intro); exact ⟨⟨k + 1, hlt, by go_num, hB2, unhide HN2⟩, rfl⟩)
          case measure => simp [intOf]; omega
    · have HN : Hid (r = -1) := hide (by rw [← unhide HU, List.drop_eq_nil_of_le (by omega)]; rfl)
      go_wp2_with fail
      go_ret
      exact ⟨by rw [unhide HN]; rfl, hB⟩
end Go.Proofs.YtkikhmleffcajaaGreatDoor

namespace Go.Proofs.YtkikhmleffcajaaGreatDoor
open Go.RowKit Go.Maps

theorem begins_doc (s p : ByteArray) (w : World) :
    Calls Tryz.prog 43 #[.string s, .string p] w fun e w' => e = .returned (.bool (Lib.hasPrefix s.data.toList p.data.toList)) ∧ w' = w := by
  have H := hide (Lib.hasPrefix_raw s p)
  go_enter Tryz.func43, Tryz.ntmps43
  go_wp2
  · go_ret
    exact ⟨ret_bool (by rw [← unhide H]; simp [*]), rfl⟩
  · go_ret
    exact ⟨ret_bool (by rw [← unhide H]; simp [*]), rfl⟩
theorem plainW_len : ∀ (xs : List Atm) (t : List UInt8), plainW xs = some t → t.length ≤ xs.length := by
  intro xs
  induction xs with
  | nil => intro t h; simp [plainW] at h; subst h; simp
  | cons a r ih =>
    intro t h
    cases a with
    | inr pA => obtain ⟨n, k⟩ := pA; simp [plainW] at h
    | inl c =>
      simp only [plainW] at h
      cases hr : plainW r with
      | none => rw [hr] at h; cases h
      | some u =>
        rw [hr] at h
        injection h with h
        subst h
        have := ih u hr
        simp; omega
theorem plainW_getD (xs : List Atm) : ((plainW xs).getD []).length ≤ xs.length := by
  cases h : plainW xs with
  | none => simp
  | some t => exact plainW_len xs t h
theorem ext_at (s : ByteArray) (k : Nat) : (s.extract k s.size).data.toList = s.data.toList.drop k := ext_list s k
theorem callD_rng (ss : List DsM) (nm : List UInt8) : -1 ≤ callD ss nm ∧ callD ss nm < ss.length := by
  unfold callD
  cases h : ss.findIdx? (fun s => s.name == nm) with
  | none => simp only; omega
  | some i =>
    have := (List.findIdx?_eq_some_iff_getElem.1 h).1
    simp only; omega
abbrev pFrom : ByteArray := ⟨#[45, 45, 102, 114, 111, 109, 61]⟩
theorem pre_len {t p : List UInt8} (h : Lib.hasPrefix t p = true) : p.length ≤ t.length := (List.isPrefixOf_iff_prefix.1 h).length_le
/-- A COPY's stage, and how many words are left out. -/
def takG (ss : List DsM) (xs1 : List Atm) (n p0 p1 : Nat) : Res (Int × Nat) :=
  match fromW xs1 with
  | none => if n = 4 then .error (5, p0) else .ok (-1, 1)
  | some nm =>
    if n ≠ 4 then .error (5, p0)
    else if stageNm nm = false then .error (5, p1)
    else if callD ss nm = -1 ∨ callD ss nm = (ss.length : Int) - 1 then .error (6, p1)
    else .ok (callD ss nm, 2)
/-- What the document's taken answers. -/
def TakD (g n cap : Nat) (ev : Ending) (r : Res (Int × Nat)) : Prop := match r with
  | .error (e, p) => e ≠ 0 ∧ ev = .returned (.tuple #[.int .i64 0, .slice none 0 0, fltV e p])
  | .ok (k, d) => ev = .returned (.tuple #[.int .i64 k, .slice (some ⟨g, d * 2, none⟩) (n - d) (cap - d), fltV 0 (-1)])
theorem end27 {tm : Array Value} {W : World} {b : Nat} {d0 d1 v4 v5 : Value} {R : Ending → World → Prop} (h4 : tm[4]?.getD undef = v4) (h5 : tm[5]?.getD undef = v5) (h6 : tm[6]?.getD undef = .pointer (some ⟨b, 0, none⟩))
    (hb : W.heap[b]? = some (.cells #[d0, d1] 28 (0, 0))) (hR : R (.returned (.tuple #[v4, v5, .agg #[d0, d1]])) W) : bodyPost Tryz.prog Tryz.f26 R .ret { tmps := tm, defers := [] } W := by
  have e2 : W.cell? ⟨b, 0, none⟩ = some d0 := cell_of_row _ _ 0 _ _ _ hb
  have e3 : W.cell? ⟨b, 1, none⟩ = some d1 := cell_of_row _ _ 1 _ _ _ hb
  refine ⟨rfl, _, ?_, hR⟩
  simp only [results, Tryz.results26]
  simp [go_sem, h4, h5, h6, e2, e3]
set_option maxHeartbeats 20000000 in
set_option maxRecDepth 10000 in
theorem taken_doc (v : Value) (ss : List DsM) (g n cap : Nat) (ms : List WdM) (x0 x1 : WdM) (B : Nat) (w : World) (hS : StR w B v ss) (hl : ss.length ≤ 100) (hW : WsD w B (.slice (some ⟨g, 0, none⟩) n cap) ms) (hn : ms.length = n) (h2 : 2 ≤ n) (hnl : n ≤ 1500) (hcap : n ≤ cap) (hcm : cap ≤ maxLen)
    (h0 : ms[0]? = some x0) (h1 : ms[1]? = some x1) (hok : AtOk x1.xs) (hxl : x1.xs.length ≤ 1500) :
    Calls Tryz.prog 26 #[v, .slice (some ⟨g, 0, none⟩) n cap] w fun ev w' => TakD g n cap ev (takG ss x1.xs n x0.place x1.place) ∧ Below w.heap.size w w' := by
  obtain ⟨av, nv, cv, hv⟩ := row_form hS
  have hcm' : (cap : Int) ≤ 9223372036854775807 := by unfold maxLen at hcm; omega
  have s1 : (1 : Int) ≤ (n : Int) := by omega
  have s2 : (n : Int) ≤ (cap : Int) := by omega
  have s3 : (2 : Int) ≤ (n : Int) := by omega
  have s4 : (1 : Int) ≤ (cap : Int) := by omega
  have s5 : (2 : Int) ≤ (cap : Int) := by omega
  rw [← hn] at hW
  have hlt := (World.ownsRow.lt hW.row g rfl).2
  have cl : ∀ j x d, ms[j]? = some x → d < 2 → w.cell? ⟨g, j * 2 + d, none⟩ = x.cellsD[d]? := fun j x d hj hd => by
    have hjl := (List.getElem?_eq_some_iff.1 hj).1
    rw [World.ownsRow.cellAt hW.row _ (by omega), wdcD_at ms j x d hj hd]
  have k01 := cl 0 x0 1 h0 (by omega)
  have k10 := cl 1 x1 0 h1 (by omega)
  have k11 := cl 1 x1 1 h1 (by omega)
  have hrow1 := hW.all x1 (List.mem_of_getElem? h1)
  obtain ⟨a1, n1, c1, hx1⟩ := row_form hrow1
  obtain ⟨W0, hW0⟩ : ∃ W0, W0 = w.alloc (.cells #[.int .i64 0, .int .i64 0] 28) := ⟨_, rfl⟩
  have hb0 : Below w.heap.size w W0 := by rw [hW0]; exact (Below.refl _ _).alloc (Nat.le_refl _) _
  have hc0 : W0.heap[w.heap.size]? = some (.cells #[.int .i64 0, .int .i64 0] 28 (0, 0)) := by rw [hW0]; exact heap_alloc_new _ _
  have hz : w.heap.size < W0.heap.size := by rw [hW0]; simp
  have KC : ∀ wx, Below w.heap.size w wx → wx.cell? ⟨g, 1, none⟩ = some (.int .i64 (x0.place : Int)) ∧ wx.cell? ⟨g, 2, none⟩ = some x1.v ∧ wx.cell? ⟨g, 3, none⟩ = some (.int .i64 (x1.place : Int)) := fun wx hb => by
    have e := fun i => World.cell?_of_block (a := ⟨g, i, none⟩) (hb.block g hlt)
    exact ⟨(e 1).trans k01, (e 2).trans k10, (e 3).trans k11⟩
  have FC : Hid (∀ wX, Below W0.heap.size W0 wX → wX.heap[w.heap.size]? = some (.cells #[.int .i64 0, .int .i64 0] 28 (0, 0)) ∧ Below w.heap.size w wX) := hide (fun wX h => ⟨(h.block _ hz).trans hc0, hb0.trans (h.mono (Nat.le_of_lt hz))⟩)
  have hPl := plain_doc x1.v x1.xs x1.place B W0 (row_same hrow1 fun q hq => hb0.block q (World.ownsRow.lt hrow1 q hq).2) hok hxl
  obtain ⟨m01, m10, m11⟩ := KC W0 hb0
  have HKC := hide KC
  have HS : Hid (∀ wx, Below w.heap.size w wx → StR wx B v ss) := hide (fun wx hb => row_same hS fun q hq => hb.block q (World.ownsRow.lt hS q hq).2)
  have hgd := plainW_getD x1.xs
  rw [hx1] at m10 hPl
  rw [hv]
  rw [hv] at HS
  have hnv : nv = ss.length := by rw [hv] at hS; exact row_len hS
  subst hnv
  clear hS hW cl k01 k10 k11 hrow1 hc0 hb0 KC hlt h0 h1 hok hv
  have NOT : Hid (fromW x1.xs = none → takG ss x1.xs n x0.place x1.place = if n = 4 then .error (5, x0.place) else .ok (-1, 1)) := hide (fun h => by unfold takG; rw [h])
  cases hp : plainW x1.xs with
  | none =>
    have HF : Hid (fromW x1.xs = none) := hide (by unfold fromW; rw [hp])
    rw [hp] at hPl
    have hBg := fun wx => begins_doc (bt []) pFrom wx
    rw [show Lib.hasPrefix (bt []).data.toList pFrom.data.toList = false from rfl] at hBg
    replace hBg := fun wx => hBg wx
    clear hp hgd
    by_cases h4 : n = 4
    · have HQ : Hid (takG ss x1.xs n x0.place x1.place = .error (5, x0.place)) := hide (by rw [unhide NOT (unhide HF), if_pos h4])
      have g4 : ((n : Int) == 4) = true := by simp; omega
      go_enter Tryz.func26, Tryz.ntmps26
      go_upto_region 1 with fail
      rw [← hW0]
      clear hW0
      go_wp2_with (first
        | (go_at_call 11; refine hPl.mono ?_; clear hPl; rintro ev w1 ⟨rfl, hb1⟩; obtain ⟨hc1, hB1⟩ := unhide FC w1 hb1; obtain ⟨j01, j10, j11⟩ := unhide HKC w1 hB1; rw [hx1] at j10)
        | (go_at_call 43; refine (hBg _).mono ?_; clear hBg; rintro ev w3 ⟨rfl, hw3⟩; obtain rfl := hw3.symm)
        | (go_at_call 9; refine (bad_any _ _ _).mono ?_; rintro ev w2 ⟨rfl, hb2⟩; obtain ⟨hc2, hB2⟩ := unhide FC w2 (hb1.trans (hb2.mono hb1.size)); have q0 := cell_of_row _ _ 0 _ _ _ hc2; have q1 := cell_of_row _ _ 1 _ _ _ hc2; have z0 : ∀ i, w2.frozen? ⟨w.heap.size, i, none⟩ = false := (fun i => by simp [World.frozen?, hc2]); have HC2 := hide hc2; clear hc2))
      exact end27 rfl rfl rfl (set2 (unhide HC2) _ _) ⟨by rw [unhide HQ]; exact ⟨by decide, rfl⟩, below2 hB2 (Nat.le_refl _) _ _⟩
    · have HQ : Hid (takG ss x1.xs n x0.place x1.place = .ok (-1, 1)) := hide (by rw [unhide NOT (unhide HF), if_neg h4])
      have g4 : ((n : Int) == 4) = false := by simp; omega
      go_enter Tryz.func26, Tryz.ntmps26
      go_upto_region 1 with fail
      rw [← hW0]
      clear hW0
      go_upto_region 7 with (first
        | (go_at_call 11; refine hPl.mono ?_; clear hPl; rintro ev w1 ⟨rfl, hb1⟩; obtain ⟨hc1, hB1⟩ := unhide FC w1 hb1; obtain ⟨j01, j10, j11⟩ := unhide HKC w1 hB1; rw [hx1] at j10)
        | (go_at_call 43; refine (hBg _).mono ?_; clear hBg; rintro ev w3 ⟨rfl, hw3⟩; obtain rfl := hw3.symm))
      go_region_held3 (fun _ => True) (trivial) (first | (go_at_call 15; refine (fine_any _).mono ?_; rintro ev w2 ⟨rfl, hb2'⟩; have hb2 : Below w1.heap.size w1 w2 := (by first | exact hb2' | exact below0 hb2'); obtain ⟨hc2, hB2⟩ := unhide FC w2 (hb1.trans (hb2.mono hb1.size)); have q0 := cell_of_row _ _ 0 _ _ _ hc2; have q1 := cell_of_row _ _ 1 _ _ _ hc2; have z0 : ∀ i, w2.frozen? ⟨w.heap.size, i, none⟩ = false := (fun i => by simp [World.frozen?, hc2]); have HC2 := hide hc2; clear hc2))
      go_wp2_with fail
      all_goals
        exact end27 rfl rfl rfl (set2 (unhide HC2) _ _) ⟨by rw [unhide HQ]; rfl, below2 hB2 (Nat.le_refl _) _ _⟩
  | some t =>
    rw [hp] at hPl hgd
    have hBg := fun wx => begins_doc (bt t) pFrom wx
    rw [bt_list] at hBg
    have htl : t.length ≤ 1500 := by have : t.length ≤ x1.xs.length := hgd; omega
    simp only [Option.getD_some, Option.isSome_some] at hPl
    cases hb : Lib.hasPrefix t pFrom.data.toList with
    | false =>
      have HF : Hid (fromW x1.xs = none) := hide (by unfold fromW; rw [hp]; simp only; rw [if_neg]; rw [hb]; decide)
      rw [hb] at hBg
      clear hp hgd hb
      by_cases h4 : n = 4
      · have HQ : Hid (takG ss x1.xs n x0.place x1.place = .error (5, x0.place)) := hide (by rw [unhide NOT (unhide HF), if_pos h4])
        have g4 : ((n : Int) == 4) = true := by simp; omega
        go_enter Tryz.func26, Tryz.ntmps26
        go_upto_region 1 with fail
        rw [← hW0]
        clear hW0
        go_wp2_with (first
          | (go_at_call 11; refine hPl.mono ?_; clear hPl; rintro ev w1 ⟨rfl, hb1⟩; obtain ⟨hc1, hB1⟩ := unhide FC w1 hb1; obtain ⟨j01, j10, j11⟩ := unhide HKC w1 hB1; rw [hx1] at j10)
          | (go_at_call 43; refine (hBg _).mono ?_; clear hBg; rintro ev w3 ⟨rfl, hw3⟩; obtain rfl := hw3.symm)
          | (go_at_call 9; refine (bad_any _ _ _).mono ?_; rintro ev w2 ⟨rfl, hb2⟩; obtain ⟨hc2, hB2⟩ := unhide FC w2 (hb1.trans (hb2.mono hb1.size)); have q0 := cell_of_row _ _ 0 _ _ _ hc2; have q1 := cell_of_row _ _ 1 _ _ _ hc2; have z0 : ∀ i, w2.frozen? ⟨w.heap.size, i, none⟩ = false := (fun i => by simp [World.frozen?, hc2]); have HC2 := hide hc2; clear hc2))
        exact end27 rfl rfl rfl (set2 (unhide HC2) _ _) ⟨by rw [unhide HQ]; exact ⟨by decide, rfl⟩, below2 hB2 (Nat.le_refl _) _ _⟩
      · have HQ : Hid (takG ss x1.xs n x0.place x1.place = .ok (-1, 1)) := hide (by rw [unhide NOT (unhide HF), if_neg h4])
        have g4 : ((n : Int) == 4) = false := by simp; omega
        go_enter Tryz.func26, Tryz.ntmps26
        go_upto_region 1 with fail
        rw [← hW0]
        clear hW0
        go_upto_region 7 with (first
          | (go_at_call 11; refine hPl.mono ?_; clear hPl; rintro ev w1 ⟨rfl, hb1⟩; obtain ⟨hc1, hB1⟩ := unhide FC w1 hb1; obtain ⟨j01, j10, j11⟩ := unhide HKC w1 hB1; rw [hx1] at j10)
          | (go_at_call 43; refine (hBg _).mono ?_; clear hBg; rintro ev w3 ⟨rfl, hw3⟩; obtain rfl := hw3.symm))
        go_region_held3 (fun _ => True) (trivial) (first | (go_at_call 15; refine (fine_any _).mono ?_; rintro ev w2 ⟨rfl, hb2'⟩; have hb2 : Below w1.heap.size w1 w2 := (by first | exact hb2' | exact below0 hb2'); obtain ⟨hc2, hB2⟩ := unhide FC w2 (hb1.trans (hb2.mono hb1.size)); have q0 := cell_of_row _ _ 0 _ _ _ hc2; have q1 := cell_of_row _ _ 1 _ _ _ hc2; have z0 : ∀ i, w2.frozen? ⟨w.heap.size, i, none⟩ = false := (fun i => by simp [World.frozen?, hc2]); have HC2 := hide hc2; clear hc2))
        go_wp2_with fail
        all_goals
          exact end27 rfl rfl rfl (set2 (unhide HC2) _ _) ⟨by rw [unhide HQ]; rfl, below2 hB2 (Nat.le_refl _) _ _⟩
    | true =>
      have hFr : fromW x1.xs = some (t.drop 7) := by unfold fromW; rw [hp]; simp only; rw [if_pos hb]
      have h7 : 7 ≤ t.length := pre_len hb
      rw [hb] at hBg
      have hTk : takG ss x1.xs n x0.place x1.place = if n ≠ 4 then .error (5, x0.place) else if stageNm (t.drop 7) = false then .error (5, x1.place) else if callD ss (t.drop 7) = -1 ∨ callD ss (t.drop 7) = (ss.length : Int) - 1 then .error (6, x1.place) else .ok (callD ss (t.drop 7), 2) := by unfold takG; rw [hFr]
      clear hp hgd hb hFr
      by_cases h4 : n = 4
      · rw [if_neg (by simpa using h4)] at hTk
        have g4 : ((n : Int) == 4) = true := by simp; omega
        obtain ⟨bs, hbs⟩ : ∃ bs, bs = bt t := ⟨_, rfl⟩
        have hsz : bs.size = t.length := by rw [hbs]; exact bt_size t
        have hex : (bs.extract 7 bs.size).data.toList = t.drop 7 := by rw [ext_list, hbs, bt_list]
        have hSn := fun wx => stageName_doc (bs.extract 7 bs.size) wx (by simp; omega)
        have hCl := fun wx h => called_doc (.slice av ss.length cv) ss (bs.extract 7 bs.size) B wx h hl
        rw [hex] at hSn hCl
        have hs7 : (7 : Int) ≤ (bs.size : Int) := by omega
        rw [← hbs] at hPl hBg
        clear hex hsz hbs
        cases hs : stageNm (t.drop 7) with
        | false =>
          rw [if_pos hs] at hTk
          rw [hs] at hSn
          have HQ := hide hTk
          clear hTk hs
          go_enter Tryz.func26, Tryz.ntmps26
          go_upto_region 1 with fail
          rw [← hW0]
          clear hW0
          go_wp2_with (first
            | (go_at_call 11; refine hPl.mono ?_; clear hPl; rintro ev w1 ⟨rfl, hb1⟩; obtain ⟨hc1, hB1⟩ := unhide FC w1 hb1; obtain ⟨j01, j10, j11⟩ := unhide HKC w1 hB1; rw [hx1] at j10)
            | (go_at_call 43; refine (hBg _).mono ?_; clear hBg; rintro ev w3 ⟨rfl, hw3⟩; obtain rfl := hw3.symm)
            | (go_at_call 24; refine (hSn _).mono ?_; clear hSn; rintro ev w4 ⟨rfl, hw4⟩; obtain rfl := hw4.symm)
            | (go_at_call 9; refine (bad_any _ _ _).mono ?_; rintro ev w2 ⟨rfl, hb2⟩; obtain ⟨hc2, hB2⟩ := unhide FC w2 (hb1.trans (hb2.mono hb1.size)); have q0 := cell_of_row _ _ 0 _ _ _ hc2; have q1 := cell_of_row _ _ 1 _ _ _ hc2; have z0 : ∀ i, w2.frozen? ⟨w.heap.size, i, none⟩ = false := (fun i => by simp [World.frozen?, hc2]); have HC2 := hide hc2; clear hc2))
          exact end27 rfl rfl rfl (set2 (unhide HC2) _ _) ⟨by rw [unhide HQ]; exact ⟨by decide, rfl⟩, below2 hB2 (Nat.le_refl _) _ _⟩
        | true =>
          rw [if_neg (by rw [hs]; decide)] at hTk
          rw [hs] at hSn
          obtain ⟨kk, hkk⟩ : ∃ kk, callD ss (t.drop 7) = kk := ⟨_, rfl⟩
          have hrng := callD_rng ss (t.drop 7)
          rw [hkk] at hTk hCl hrng
          clear hs hkk
          by_cases hbad : kk = -1 ∨ kk = (ss.length : Int) - 1
          · rw [if_pos hbad] at hTk
            have HQ := hide hTk
            clear hTk
            by_cases gk : kk < 0
            · clear hbad
              go_enter Tryz.func26, Tryz.ntmps26
              go_upto_region 1 with fail
              rw [← hW0]
              clear hW0
              go_wp2_with (first
                | (go_at_call 11; refine hPl.mono ?_; clear hPl; rintro ev w1 ⟨rfl, hb1⟩; obtain ⟨hc1, hB1⟩ := unhide FC w1 hb1; obtain ⟨j01, j10, j11⟩ := unhide HKC w1 hB1; rw [hx1] at j10)
                | (go_at_call 43; refine (hBg _).mono ?_; clear hBg; rintro ev w3 ⟨rfl, hw3⟩; obtain rfl := hw3.symm)
                | (go_at_call 24; refine (hSn _).mono ?_; clear hSn; rintro ev w4 ⟨rfl, hw4⟩; obtain rfl := hw4.symm)
                | (go_at_call 25; refine (hCl _ (unhide HS _ hB1)).mono ?_; clear hCl; rintro ev w5 ⟨rfl, hw5⟩; obtain rfl := hw5.symm)
                | (go_at_call 9; refine (bad_any _ _ _).mono ?_; rintro ev w2 ⟨rfl, hb2⟩; obtain ⟨hc2, hB2⟩ := unhide FC w2 (hb1.trans (hb2.mono hb1.size)); have q0 := cell_of_row _ _ 0 _ _ _ hc2; have q1 := cell_of_row _ _ 1 _ _ _ hc2; have z0 : ∀ i, w2.frozen? ⟨w.heap.size, i, none⟩ = false := (fun i => by simp [World.frozen?, hc2]); have HC2 := hide hc2; clear hc2))
              exact end27 rfl rfl rfl (set2 (unhide HC2) _ _) ⟨by rw [unhide HQ]; exact ⟨by decide, rfl⟩, below2 hB2 (Nat.le_refl _) _ _⟩
            · have ge : (kk == (ss.length : Int) - 1) = true := by simp; omega
              go_enter Tryz.func26, Tryz.ntmps26
              go_upto_region 1 with fail
              rw [← hW0]
              clear hW0
              go_wp2_with (first
                | (go_at_call 11; refine hPl.mono ?_; clear hPl; rintro ev w1 ⟨rfl, hb1⟩; obtain ⟨hc1, hB1⟩ := unhide FC w1 hb1; obtain ⟨j01, j10, j11⟩ := unhide HKC w1 hB1; rw [hx1] at j10)
                | (go_at_call 43; refine (hBg _).mono ?_; clear hBg; rintro ev w3 ⟨rfl, hw3⟩; obtain rfl := hw3.symm)
                | (go_at_call 24; refine (hSn _).mono ?_; clear hSn; rintro ev w4 ⟨rfl, hw4⟩; obtain rfl := hw4.symm)
                | (go_at_call 25; refine (hCl _ (unhide HS _ hB1)).mono ?_; clear hCl; rintro ev w5 ⟨rfl, hw5⟩; obtain rfl := hw5.symm)
                | (go_at_call 9; refine (bad_any _ _ _).mono ?_; rintro ev w2 ⟨rfl, hb2⟩; obtain ⟨hc2, hB2⟩ := unhide FC w2 (hb1.trans (hb2.mono hb1.size)); have q0 := cell_of_row _ _ 0 _ _ _ hc2; have q1 := cell_of_row _ _ 1 _ _ _ hc2; have z0 : ∀ i, w2.frozen? ⟨w.heap.size, i, none⟩ = false := (fun i => by simp [World.frozen?, hc2]); have HC2 := hide hc2; clear hc2))
              exact end27 rfl rfl rfl (set2 (unhide HC2) _ _) ⟨by rw [unhide HQ]; exact ⟨by decide, rfl⟩, below2 hB2 (Nat.le_refl _) _ _⟩
          · rw [if_neg hbad] at hTk
            have HQ := hide hTk
            have gk : ¬ kk < 0 := by omega
            have ge : (kk == (ss.length : Int) - 1) = false := by simp; omega
            clear hTk
            subst h4
            go_enter Tryz.func26, Tryz.ntmps26
            go_upto_region 1 with fail
            rw [← hW0]
            clear hW0
            go_upto_region 14 with (first
              | (go_at_call 11; refine hPl.mono ?_; clear hPl; rintro ev w1 ⟨rfl, hb1⟩; obtain ⟨hc1, hB1⟩ := unhide FC w1 hb1; obtain ⟨j01, j10, j11⟩ := unhide HKC w1 hB1; rw [hx1] at j10)
              | (go_at_call 43; refine (hBg _).mono ?_; clear hBg; rintro ev w3 ⟨rfl, hw3⟩; obtain rfl := hw3.symm)
              | (go_at_call 24; refine (hSn _).mono ?_; clear hSn; rintro ev w4 ⟨rfl, hw4⟩; obtain rfl := hw4.symm)
              | (go_at_call 25; refine (hCl _ (unhide HS _ hB1)).mono ?_; clear hCl; rintro ev w5 ⟨rfl, hw5⟩; obtain rfl := hw5.symm))
            go_region_held3 (fun _ => True) (trivial) (first | (go_at_call 15; refine (fine_any _).mono ?_; rintro ev w2 ⟨rfl, hb2'⟩; have hb2 : Below w1.heap.size w1 w2 := (by first | exact hb2' | exact below0 hb2'); obtain ⟨hc2, hB2⟩ := unhide FC w2 (hb1.trans (hb2.mono hb1.size)); have q0 := cell_of_row _ _ 0 _ _ _ hc2; have q1 := cell_of_row _ _ 1 _ _ _ hc2; have z0 : ∀ i, w2.frozen? ⟨w.heap.size, i, none⟩ = false := (fun i => by simp [World.frozen?, hc2]); have HC2 := hide hc2; clear hc2))
            go_wp2_with fail
            all_goals
              exact end27 rfl rfl rfl (set2 (unhide HC2) _ _) ⟨by rw [unhide HQ]; rfl, below2 hB2 (Nat.le_refl _) _ _⟩
      · rw [if_pos (by simpa using h4)] at hTk
        have HQ := hide hTk
        have g4 : ((n : Int) == 4) = false := by simp; omega
        clear hTk
        go_enter Tryz.func26, Tryz.ntmps26
        go_upto_region 1 with fail
        rw [← hW0]
        clear hW0
        go_wp2_with (first
          | (go_at_call 11; refine hPl.mono ?_; clear hPl; rintro ev w1 ⟨rfl, hb1⟩; obtain ⟨hc1, hB1⟩ := unhide FC w1 hb1; obtain ⟨j01, j10, j11⟩ := unhide HKC w1 hB1; rw [hx1] at j10)
          | (go_at_call 43; refine (hBg _).mono ?_; clear hBg; rintro ev w3 ⟨rfl, hw3⟩; obtain rfl := hw3.symm)
          | (go_at_call 9; refine (bad_any _ _ _).mono ?_; rintro ev w2 ⟨rfl, hb2⟩; obtain ⟨hc2, hB2⟩ := unhide FC w2 (hb1.trans (hb2.mono hb1.size)); have q0 := cell_of_row _ _ 0 _ _ _ hc2; have q1 := cell_of_row _ _ 1 _ _ _ hc2; have z0 : ∀ i, w2.frozen? ⟨w.heap.size, i, none⟩ = false := (fun i => by simp [World.frozen?, hc2]); have HC2 := hide hc2; clear hc2))
        exact end27 rfl rfl rfl (set2 (unhide HC2) _ _) ⟨by rw [unhide HQ]; exact ⟨by decide, rfl⟩, below2 hB2 (Nat.le_refl _) _ _⟩
end Go.Proofs.YtkikhmleffcajaaGreatDoor

namespace Go.Proofs.YtkikhmleffcajaaGreatDoor
open Go.RowKit Go.Maps

theorem dpC_len (l : List DpM) : (dpC l).length = l.length * 4 := by
  induction l with
  | nil => rfl
  | cons a r ih => simp only [dpC, List.map_cons, List.flatten_cons, List.length_append, List.length_cons] at ih ⊢; rw [ih]; simp [DpM.cells]; omega
theorem dpC_snoc (l : List DpM) (a : DpM) : dpC (l ++ [a]) = dpC l ++ a.cells := by simp [dpC]
theorem dpC_at (xs : List DpM) : ∀ (j : Nat) (a : DpM) (d : Nat), xs[j]? = some a → d < 4 → (dpC xs)[j * 4 + d]? = a.cells[d]? := by
  induction xs with
  | nil => intro j a d h; simp at h
  | cons b r ih =>
    intro j a d h hd
    have e : dpC (b :: r) = b.cells ++ dpC r := by simp [dpC]
    have el : b.cells.length = 4 := rfl
    rw [e]
    cases j with
    | zero =>
      simp at h; subst h
      rw [List.getElem?_append_left (by rw [el]; omega)]; congr 1; omega
    | succ j =>
      rw [List.getElem?_append_right (by rw [el]; omega), el, show (j + 1) * 4 + d - 4 = j * 4 + d by omega]
      exact ih j a d (by simpa using h) hd
theorem dsC_set2 (xs : List DsM) : ∀ (j : Nat) (a : DsM) (sv : Value) (ps : List DpM), xs[j]? = some a → (dsC xs).set (j * 4 + 2) sv = dsC (xs.set j { a with sv := sv, steps := ps }) := by
  induction xs with
  | nil => intro j a sv ps h; simp at h
  | cons b r ih =>
    intro j a sv ps h
    have e : ∀ (b : DsM) (r : List DsM), dsC (b :: r) = b.cells ++ dsC r := fun b r => by simp [dsC]
    cases j with
    | zero =>
      simp at h; subst h
      rw [List.set_cons_zero, e, e]; simp [DsM.cells]
    | succ j =>
      rw [List.set_cons_succ, e, e, ← ih j a sv ps (by simpa using h), List.set_append_right _ _ (by simp [DsM.cells]; omega)]
      simp only [DsM.cells, List.length_cons, List.length_nil]
      rw [show (j + 1) * 4 + 2 - (0 + 1 + 1 + 1 + 1) = j * 4 + 2 by omega]
theorem dsC_set3 (xs : List DsM) : ∀ (j : Nat) (a : DsM) (vv : Value) (ns : List (List UInt8)), xs[j]? = some a → (dsC xs).set (j * 4 + 3) vv = dsC (xs.set j { a with vv := vv, vars := ns }) := by
  induction xs with
  | nil => intro j a sv ps h; simp at h
  | cons b r ih =>
    intro j a sv ps h
    have e : ∀ (b : DsM) (r : List DsM), dsC (b :: r) = b.cells ++ dsC r := fun b r => by simp [dsC]
    cases j with
    | zero =>
      simp at h; subst h
      rw [List.set_cons_zero, e, e]; simp [DsM.cells]
    | succ j =>
      rw [List.set_cons_succ, e, e, ← ih j a sv ps (by simpa using h), List.set_append_right _ _ (by simp [DsM.cells]; omega)]
      simp only [DsM.cells, List.length_cons, List.length_nil]
      rw [show (j + 1) * 4 + 3 - (0 + 1 + 1 + 1 + 1) = j * 4 + 3 by omega]
abbrev SpR (w : World) (B : Nat) (v : Value) (ps : List DpM) : Prop := w.ownsRow B 78 4 v ps.length (dpC ps)
/-- An instruction's words lie as they should. -/
structure StpOk (w : World) (B : Nat) (p : DpM) : Prop where
  row : WsD w B p.wv p.ms
  lie : ∃ g cap cp, p.wv = .slice (some ⟨g, 0, none⟩) p.ms.length cap ∧ p.lv = .slice (some ⟨g, p.d * 2, none⟩) (p.ms.length - p.d) cp
  le : p.d ≤ p.ms.length
  ok : ∀ m ∈ p.ms, AtOk m.xs ∧ m.xs.length ≤ 1500
  len : p.ms.length ≤ 1500
structure StgOk (w : World) (B : Nat) (s : DsM) : Prop where
  steps : SpR w B s.sv s.steps
  vars : NmR w B s.vv s.vars
  nil : s.vars = [] → s.vv = .slice none 0 0
  each : ∀ p ∈ s.steps, StpOk w B p
/-- The document's stages in memory. -/
structure StD (w : World) (B : Nat) (v : Value) (ss : List DsM) : Prop where
  row : StR w B v ss
  all : ∀ s ∈ ss, StgOk w B s
  asv : ∀ (i j : Nat) (s l : DsM) (q : Nat), ss[i]? = some s → ss[j]? = some l → i ≠ j → s.sv.ownBlock = some q → l.sv.ownBlock ≠ some q
  avv : ∀ (i j : Nat) (s l : DsM) (q : Nat), ss[i]? = some s → ss[j]? = some l → i ≠ j → s.vv.ownBlock = some q → l.vv.ownBlock ≠ some q
/-- Words and atoms are kept. -/
def KepW (w w' : World) : Prop := ∀ (q : Nat) (c : Array Value) (t : Nat) (fz : Nat × Nat), w.heap[q]? = some (Obj.cells c t fz) → (t = 47 ∨ t = 75) → w'.heap[q]? = w.heap[q]?
theorem kind_of {w : World} {B e z n : Nat} {v : Value} {xs : List Value} (h : w.ownsRow B e z v n xs) : ∀ g, v.ownBlock = some g → ∃ c fz, w.heap[g]? = some (.cells c e fz) := fun g hg => by
  rcases h.2 with ⟨rfl, _⟩ | ⟨g', cap, cur, rfl, _, hg', _⟩
  · cases hg
  · have : g' = g := by simpa [Value.ownBlock] using hg
    subst this; exact ⟨cur, (0, 0), hg'⟩
theorem WsD.kept {w w' : World} {B : Nat} {v : Value} {ms : List WdM} (h : WsD w B v ms) (hk : KepW w w') : WsD w' B v ms :=
  ⟨row_same h.row fun q hq => by obtain ⟨c, fz, hc⟩ := kind_of h.row q hq; exact hk q c 47 fz hc (.inl rfl),
   fun m hm => row_same (h.all m hm) fun q hq => by obtain ⟨c, fz, hc⟩ := kind_of (h.all m hm) q hq; exact hk q c 75 fz hc (.inr rfl)⟩
theorem StpOk.kept {w w' : World} {B : Nat} {p : DpM} (h : StpOk w B p) (hk : KepW w w') : StpOk w' B p := ⟨h.row.kept hk, h.lie, h.le, h.ok, h.len⟩
theorem StgOk.kept {w w' : World} {B : Nat} {s : DsM} (h : StgOk w B s) (hk : KepW w w') (h1 : ∀ q, s.sv.ownBlock = some q → w'.heap[q]? = w.heap[q]?) (h2 : ∀ q, s.vv.ownBlock = some q → w'.heap[q]? = w.heap[q]?) : StgOk w' B s :=
  ⟨row_same h.steps h1, row_same h.vars h2, h.nil, fun p hp => (h.each p hp).kept hk⟩
theorem KepW.below {w w' : World} (hb : Below w.heap.size w w') : KepW w w' := fun q c t fz hc _ => hb.block q (by
  rcases Nat.lt_or_ge q w.heap.size with h | h
  · exact h
  · rw [Array.getElem?_eq_none h] at hc; cases hc)
theorem StgOk.below {w w' : World} {B : Nat} {s : DsM} (h : StgOk w B s) (hb : Below w.heap.size w w') : StgOk w' B s :=
  h.kept (KepW.below hb) (fun q hq => hb.block q (World.ownsRow.lt h.steps q hq).2) (fun q hq => hb.block q (World.ownsRow.lt h.vars q hq).2)
theorem StD.below {w w' : World} {B : Nat} {v : Value} {ss : List DsM} (h : StD w B v ss) (hb : Below w.heap.size w w') : StD w' B v ss :=
  ⟨row_same h.row fun q hq => hb.block q (World.ownsRow.lt h.row q hq).2, fun s hs => (h.all s hs).below hb, h.asv, h.avv⟩
theorem KepW.grown {w w' : World} {B e z n : Nat} {v : Value} {xs : List Value} (h : w.ownsRow B e z v n xs) (hg : w.grownBy w' v.ownBlock) (h1 : e ≠ 47) (h2 : e ≠ 75) : KepW w w' := fun q c t fz hc ht => hg.block q (by
  rcases Nat.lt_or_ge q w.heap.size with h | h
  · exact h
  · rw [Array.getElem?_eq_none h] at hc; cases hc) (fun e' => by
  obtain ⟨c', fz', hc'⟩ := kind_of h q e'.symm
  rw [hc'] at hc
  injection hc with hc
  injection hc with _ hc _
  subst hc
  rcases ht with ht | ht
  · exact h1 ht
  · exact h2 ht)
theorem KepW.set {w : World} {g j t : Nat} {c : Array Value} {fz : Nat × Nat} (u : Value) (hg : w.heap[g]? = some (.cells c t fz)) (h1 : t ≠ 47) (h2 : t ≠ 75) : KepW w (w.setCell ⟨g, j, none⟩ u) := fun q c' t' fz' hc ht => Below.heap_setCell _ _ _ _ (fun e => by
  have e' : q = g := e
  subst e'
  rw [hg] at hc
  injection hc with hc
  injection hc with _ hc _
  subst hc
  rcases ht with ht | ht
  · exact h1 ht
  · exact h2 ht)
theorem KepW.trans {w w1 w2 : World} (h1 : KepW w w1) (h2 : KepW w1 w2) : KepW w w2 := fun q c t fz hc ht => by
  have := h1 q c t fz hc ht
  rw [h2 q c t fz (this.trans hc) ht, this]
/-- A stage more. -/
theorem StD.snoc {w w1 : World} {B : Nat} {v v' : Value} {ss : List DsM} {s : DsM} (h : StD w B v ss) (hs : StgOk w B s) (hsv : s.sv = .slice none 0 0) (hvv : ∀ q, s.vv.ownBlock = some q → ∀ t ∈ ss, t.vv.ownBlock ≠ some q)
    (hown : w1.ownsRow B 58 4 v' (ss.length + 1) (dsC ss ++ s.cells)) (hg : w.grownBy w1 v.ownBlock) : StD w1 B v' (ss ++ [s]) := by
  have hk : KepW w w1 := KepW.grown h.row hg (by decide) (by decide)
  have hok : ∀ t, StgOk w B t → StgOk w1 B t := fun t ht => ht.kept hk (fun q hq => hg.block q (World.ownsRow.lt ht.steps q hq).2 (fun e => row_apart ht.steps h.row (by decide) q hq e.symm)) (fun q hq => hg.block q (World.ownsRow.lt ht.vars q hq).2 (fun e => row_apart ht.vars h.row (by decide) q hq e.symm))
  have hnil : s.sv.ownBlock = none := by rw [hsv]; rfl
  refine ⟨by unfold StR; rw [dsC_snoc, List.length_append]; exact hown, fun t ht => ?_, fun i j a l q hi hj hij hq => ?_, fun i j a l q hi hj hij hq => ?_⟩
  · rcases List.mem_append.1 ht with h' | h'
    · exact hok t (h.all t h')
    · rw [List.mem_singleton] at h'; rw [h']; exact hok s hs
  · rw [List.getElem?_append] at hi hj
    split at hi
    · split at hj
      · exact h.asv i j a l q hi hj hij hq
      · obtain rfl : s = l := by
          have := List.mem_of_getElem? hj; rw [List.mem_singleton] at this; exact this.symm
        rw [hnil]; exact fun e => by cases e
    · obtain rfl : s = a := by
        have := List.mem_of_getElem? hi; rw [List.mem_singleton] at this; exact this.symm
      rw [hnil] at hq; cases hq
  · rw [List.getElem?_append] at hi hj
    split at hi
    · split at hj
      · exact h.avv i j a l q hi hj hij hq
      · obtain rfl : s = l := by
          have := List.mem_of_getElem? hj; rw [List.mem_singleton] at this; exact this.symm
        exact fun e => hvv q e a (List.mem_of_getElem? hi) hq
    · obtain rfl : s = a := by
        have := List.mem_of_getElem? hi; rw [List.mem_singleton] at this; exact this.symm
      split at hj
      · exact hvv q hq l (List.mem_of_getElem? hj)
      · have h1 := (List.getElem?_eq_some_iff.1 hi).1
        have h2 := (List.getElem?_eq_some_iff.1 hj).1
        simp at h1 h2
        omega
theorem set_some {α : Type} {l : List α} {k i : Nat} {a b : α} (h : (l.set k a)[i]? = some b) : (i = k ∧ b = a) ∨ (i ≠ k ∧ l[i]? = some b) := by
  rw [List.getElem?_set] at h
  split at h
  · rename_i e
    split at h
    · exact .inl ⟨e.symm, by simpa using h.symm⟩
    · cases h
  · rename_i e
    exact .inr ⟨fun e' => e e'.symm, h⟩
/-- A variable more in a stage. -/
theorem StD.env {w w1 : World} {B g cap k gg n' cp : Nat} {ss : List DsM} {s : DsM} {t : List UInt8} (h : StD w B (.slice (some ⟨g, 0, none⟩) ss.length cap) ss) (hk : ss[k]? = some s)
    (hown : w1.ownsRow B 9 1 (.slice (some ⟨gg, 0, none⟩) n' cp) (s.vars.length + 1) ((s.vars.map fun n => .string (bt n)) ++ [.string (bt t)])) (hg : w.grownBy w1 s.vv.ownBlock) (hlie : s.vv.ownBlock = some gg ∨ w.heap.size ≤ gg) :
    StD (w1.setCell ⟨g, k * 4 + 3, none⟩ (.slice (some ⟨gg, 0, none⟩) n' cp)) B (.slice (some ⟨g, 0, none⟩) ss.length cap) (ss.set k { s with vv := .slice (some ⟨gg, 0, none⟩) n' cp, vars := s.vars ++ [t] }) := by
  have hs := h.all s (List.mem_of_getElem? hk)
  have hgl := World.ownsRow.lt h.row g rfl
  obtain ⟨cg, fg, hcg⟩ := kind_of h.row g rfl
  have hgs : w1.heap[g]? = w.heap[g]? := hg.block g hgl.2 (fun e => row_apart hs.vars h.row (by decide) g e.symm rfl)
  have hrow1 : StR w1 B (.slice (some ⟨g, 0, none⟩) ss.length cap) ss := row_same h.row fun q hq => by
    have : g = q := by simpa [Value.ownBlock] using hq
    subst this; exact hgs
  have hst := (World.ownsRow.stored hrow1 (k * 4 + 3) (.slice (some ⟨gg, 0, none⟩) n' cp)).1
  rw [dsC_set3 ss k s _ (s.vars ++ [t]) hk] at hst
  have hkep : KepW w (w1.setCell ⟨g, k * 4 + 3, none⟩ (.slice (some ⟨gg, 0, none⟩) n' cp)) := (KepW.grown hs.vars hg (by decide) (by decide)).trans (KepW.set _ (hgs.trans hcg) (by decide) (by decide))
  have hgg : gg ≠ g := fun e => by
    obtain ⟨c9, f9, h9⟩ := kind_of hown gg rfl
    rw [e, hgs, hcg] at h9
    injection h9 with h9
    injection h9 with _ h9 _
    cases h9
  have hmove : ∀ q, q < w.heap.size → q ≠ g → s.vv.ownBlock ≠ some q → (w1.setCell ⟨g, k * 4 + 3, none⟩ (.slice (some ⟨gg, 0, none⟩) n' cp)).heap[q]? = w.heap[q]? := fun q h1 h2 h3 => (Below.heap_setCell _ _ _ _ h2).trans (hg.block q h1 (fun e => h3 e.symm))
  have hsvok : ∀ a ∈ ss, ∀ q, a.sv.ownBlock = some q → (w1.setCell ⟨g, k * 4 + 3, none⟩ (.slice (some ⟨gg, 0, none⟩) n' cp)).heap[q]? = w.heap[q]? := fun a ha q hq =>
    hmove q (World.ownsRow.lt (h.all a ha).steps q hq).2 (fun e => row_apart (h.all a ha).steps h.row (by decide) q hq (by rw [e]; rfl)) (row_apart (h.all a ha).steps hs.vars (by decide) q hq)
  have hap : ∀ i a q, ss[i]? = some a → i ≠ k → a.vv.ownBlock = some q → q ≠ gg := fun i a q hi hik hq e => by
    rcases hlie with hl | hl
    · exact h.avv i k a s q hi hk hik hq (by rw [hl, e])
    · have := (World.ownsRow.lt (h.all a (List.mem_of_getElem? hi)).vars q hq).2; omega
  have hlen : (ss.set k { s with vv := .slice (some ⟨gg, 0, none⟩) n' cp, vars := s.vars ++ [t] }).length = ss.length := List.length_set
  refine ⟨by rw [StR, hlen]; exact hst, fun a ha => ?_, fun i j a l q hi hj hij hq => ?_, fun i j a l q hi hj hij hq => ?_⟩
  · obtain ⟨i, hi⟩ := List.getElem?_of_mem ha
    rcases set_some hi with ⟨_, e⟩ | ⟨hik, hi⟩
    · subst e
      refine ⟨row_same hs.steps (hsvok s (List.mem_of_getElem? hk)), ?_, fun e => by simp at e, fun p hp => (hs.each p hp).kept hkep⟩
      have := row_same (w' := w1.setCell ⟨g, k * 4 + 3, none⟩ (.slice (some ⟨gg, 0, none⟩) n' cp)) hown (fun q hq => by
        have : gg = q := by simpa [Value.ownBlock] using hq
        subst this; exact Below.heap_setCell _ _ _ _ hgg)
      show World.ownsRow _ _ _ _ _ _ _
      simp only [List.length_append, List.length_cons, List.length_nil, List.map_append, List.map_cons, List.map_nil]
      exact this
    · have hm := List.mem_of_getElem? hi
      exact (h.all a hm).kept hkep (hsvok a hm) (fun q hq => hmove q (World.ownsRow.lt (h.all a hm).vars q hq).2 (fun e => row_apart (h.all a hm).vars h.row (by decide) q hq (by rw [e]; rfl)) (h.avv i k a s q hi hk hik hq))
  · rcases set_some hi with ⟨e1, e2⟩ | ⟨e1, hi⟩ <;> rcases set_some hj with ⟨e3, e4⟩ | ⟨e3, hj⟩
    · omega
    · subst e2; exact h.asv i j s l q (by rw [e1]; exact hk) hj hij hq
    · subst e4; exact h.asv i j a s q hi (by rw [e3]; exact hk) hij hq
    · exact h.asv i j a l q hi hj hij hq
  · rcases set_some hi with ⟨e1, e2⟩ | ⟨e1, hi⟩ <;> rcases set_some hj with ⟨e3, e4⟩ | ⟨e3, hj⟩
    · omega
    · subst e2
      have : gg = q := by simpa [Value.ownBlock] using hq
      subst this
      exact fun e => hap j l gg hj e3 e rfl
    · subst e4
      exact fun e => hap i a q hi e1 hq (by simpa [Value.ownBlock] using e.symm)
    · exact h.avv i j a l q hi hj hij hq
/-- A step more in a stage. -/
theorem StD.add {w w1 : World} {B g cap k gg n' cp : Nat} {ss : List DsM} {s : DsM} {p : DpM} (h : StD w B (.slice (some ⟨g, 0, none⟩) ss.length cap) ss) (hk : ss[k]? = some s) (hp : StpOk w B p)
    (hown : w1.ownsRow B 78 4 (.slice (some ⟨gg, 0, none⟩) n' cp) (s.steps.length + 1) (dpC s.steps ++ p.cells)) (hg : w.grownBy w1 s.sv.ownBlock) (hlie : s.sv.ownBlock = some gg ∨ w.heap.size ≤ gg) :
    StD (w1.setCell ⟨g, k * 4 + 2, none⟩ (.slice (some ⟨gg, 0, none⟩) n' cp)) B (.slice (some ⟨g, 0, none⟩) ss.length cap) (ss.set k { s with sv := .slice (some ⟨gg, 0, none⟩) n' cp, steps := s.steps ++ [p] }) := by
  have hs := h.all s (List.mem_of_getElem? hk)
  have hgl := World.ownsRow.lt h.row g rfl
  obtain ⟨cg, fg, hcg⟩ := kind_of h.row g rfl
  have hgs : w1.heap[g]? = w.heap[g]? := hg.block g hgl.2 (fun e => row_apart hs.steps h.row (by decide) g e.symm rfl)
  have hrow1 : StR w1 B (.slice (some ⟨g, 0, none⟩) ss.length cap) ss := row_same h.row fun q hq => by
    have : g = q := by simpa [Value.ownBlock] using hq
    subst this; exact hgs
  have hst := (World.ownsRow.stored hrow1 (k * 4 + 2) (.slice (some ⟨gg, 0, none⟩) n' cp)).1
  rw [dsC_set2 ss k s _ (s.steps ++ [p]) hk] at hst
  have hkep : KepW w (w1.setCell ⟨g, k * 4 + 2, none⟩ (.slice (some ⟨gg, 0, none⟩) n' cp)) := (KepW.grown hs.steps hg (by decide) (by decide)).trans (KepW.set _ (hgs.trans hcg) (by decide) (by decide))
  have hgg : gg ≠ g := fun e => by
    obtain ⟨c9, f9, h9⟩ := kind_of hown gg rfl
    rw [e, hgs, hcg] at h9
    injection h9 with h9
    injection h9 with _ h9 _
    cases h9
  have hmove : ∀ q, q < w.heap.size → q ≠ g → s.sv.ownBlock ≠ some q → (w1.setCell ⟨g, k * 4 + 2, none⟩ (.slice (some ⟨gg, 0, none⟩) n' cp)).heap[q]? = w.heap[q]? := fun q h1 h2 h3 => (Below.heap_setCell _ _ _ _ h2).trans (hg.block q h1 (fun e => h3 e.symm))
  have hvvok : ∀ a ∈ ss, ∀ q, a.vv.ownBlock = some q → (w1.setCell ⟨g, k * 4 + 2, none⟩ (.slice (some ⟨gg, 0, none⟩) n' cp)).heap[q]? = w.heap[q]? := fun a ha q hq =>
    hmove q (World.ownsRow.lt (h.all a ha).vars q hq).2 (fun e => row_apart (h.all a ha).vars h.row (by decide) q hq (by rw [e]; rfl)) (row_apart (h.all a ha).vars hs.steps (by decide) q hq)
  have hap : ∀ i a q, ss[i]? = some a → i ≠ k → a.sv.ownBlock = some q → q ≠ gg := fun i a q hi hik hq e => by
    rcases hlie with hl | hl
    · exact h.asv i k a s q hi hk hik hq (by rw [hl, e])
    · have := (World.ownsRow.lt (h.all a (List.mem_of_getElem? hi)).steps q hq).2; omega
  have hlen : (ss.set k { s with sv := .slice (some ⟨gg, 0, none⟩) n' cp, steps := s.steps ++ [p] }).length = ss.length := List.length_set
  refine ⟨by rw [StR, hlen]; exact hst, fun a ha => ?_, fun i j a l q hi hj hij hq => ?_, fun i j a l q hi hj hij hq => ?_⟩
  · obtain ⟨i, hi⟩ := List.getElem?_of_mem ha
    rcases set_some hi with ⟨_, e⟩ | ⟨hik, hi⟩
    · subst e
      refine ⟨?_, row_same hs.vars (hvvok s (List.mem_of_getElem? hk)), hs.nil, fun p' hp' => ?_⟩
      · have := row_same (w' := w1.setCell ⟨g, k * 4 + 2, none⟩ (.slice (some ⟨gg, 0, none⟩) n' cp)) hown (fun q hq => by
          have : gg = q := by simpa [Value.ownBlock] using hq
          subst this; exact Below.heap_setCell _ _ _ _ hgg)
        show World.ownsRow _ _ _ _ _ _ _
        simp only [dpC_snoc, List.length_append, List.length_cons, List.length_nil]
        exact this
      · rcases List.mem_append.1 hp' with h' | h'
        · exact (hs.each p' h').kept hkep
        · rw [List.mem_singleton] at h'; rw [h']; exact hp.kept hkep
    · have hm := List.mem_of_getElem? hi
      exact (h.all a hm).kept hkep (fun q hq => hmove q (World.ownsRow.lt (h.all a hm).steps q hq).2 (fun e => row_apart (h.all a hm).steps h.row (by decide) q hq (by rw [e]; rfl)) (h.asv i k a s q hi hk hik hq)) (hvvok a hm)
  · rcases set_some hi with ⟨e1, e2⟩ | ⟨e1, hi⟩ <;> rcases set_some hj with ⟨e3, e4⟩ | ⟨e3, hj⟩
    · omega
    · subst e2
      have : gg = q := by simpa [Value.ownBlock] using hq
      subst this
      exact fun e => hap j l gg hj e3 e rfl
    · subst e4
      exact fun e => hap i a q hi e1 hq (by simpa [Value.ownBlock] using e.symm)
    · exact h.asv i j a l q hi hj hij hq
  · rcases set_some hi with ⟨e1, e2⟩ | ⟨e1, hi⟩ <;> rcases set_some hj with ⟨e3, e4⟩ | ⟨e3, hj⟩
    · omega
    · subst e2; exact h.avv i j s l q (by rw [e1]; exact hk) hj hij hq
    · subst e4; exact h.avv i j a s q hi (by rw [e3]; exact hk) hij hq
    · exact h.avv i j a l q hi hj hij hq
theorem StD.nil (w : World) (B : Nat) : StD w B (.slice none 0 0) [] := ⟨World.ownsRow_nil _ _ _ _, fun s hs => by simp at hs, fun i j s l q h => by simp at h, fun i j s l q h => by simp at h⟩
end Go.Proofs.YtkikhmleffcajaaGreatDoor
