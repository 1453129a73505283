import Derived.Test.YtkikhmleffcajaaGreatDoorJAs
import Derived.Test.YtkikhmleffcajaaGreatDoorBfT
import Derived.Defers
import Derived.Recover
namespace Go.Proofs.YtkikhmleffcajaaGreatDoor
open Go.RowKit Go.Maps

theorem assert_err (v : Value) (w : World) : (Instr.typeAssert (.iface 123 v) 20 34 true).run Tryz.prog w = .ok (.tuple #[.iface 123 v, .bool true]) w := by kernel_rfl
set_option maxHeartbeats 2000000 in
set_option maxRecDepth 10000 in
theorem wrong_any (b : Nat) (e p : Nat) (w : World) (hb : w.heap[b]? = some (.cells #[.int .i64 (e : Int), .int .i64 (p : Int)] 126 (0, 0))) (hg : w.cell? ⟨0, 0, none⟩ = some (.iface 140 (.agg #[.pointer (some ⟨22, 34, none⟩)]))) :
    Calls Tryz.prog 31 #[.iface 123 (.pointer (some ⟨b, 0, none⟩))] w fun ev w' => ∃ a : Nat, ev = .returned (.iface 64 (.pointer (some ⟨a, 0, none⟩))) ∧ w'.heap[a]? = some (.cells #[.int .i64 (e : Int), .int .i64 (p : Int)] 68 (0, 0)) ∧ Below w.heap.size w w' := by
  have hA := assert_err (.pointer (some ⟨b, 0, none⟩))
  obtain ⟨W0, hW0⟩ : ∃ W0, W0 = (w.alloc (.cells #[.pointer none] 123)).alloc (.cells #[.pointer none] 124) := ⟨_, rfl⟩
  have hb0 : Below w.heap.size w W0 := by rw [hW0]; exact ((Below.refl _ _).alloc (Nat.le_refl _) _).alloc (by simp) _
  have hc0 : W0.heap[w.heap.size]? = some (.cells #[.pointer none] 123 (0, 0)) := by
    rw [hW0, Below.heap_alloc _ _ _ (by simp)]; exact heap_alloc_new _ _
  have hH := as_hitW ⟨b, 0, none⟩ ⟨w.heap.size, 0, none⟩ (.pointer none) W0 (cell_later hb0 hg) (cell_of_row _ _ 0 _ _ _ hc0) (by simp [World.frozen?, hc0])
  have hz0 : w.heap.size < W0.heap.size := by rw [hW0]; simp; omega
  have hH2 : Calls Tryz.prog 20 #[.iface 123 (.pointer (some ⟨b, 0, none⟩)), .iface 125 (.pointer (some ⟨w.heap.size, 0, none⟩))] W0 fun ev w' => ev = .returned (.bool true) ∧ w'.cell? ⟨w.heap.size, 0, none⟩ = some (.pointer (some ⟨b, 0, none⟩)) ∧ Below w.heap.size W0 w' := by
    refine hH.mono ?_
    rintro ev w' ⟨rfl, rfl⟩
    refine ⟨rfl, ?_, ?_⟩
    · refine cell_of_row _ _ 0 _ _ _ (heap_setCell_same _ _ 0 #[.pointer none] 123 _ ?_)
      rw [Below.heap_alloc _ _ _ (by simp; omega), Below.heap_alloc _ _ _ (by simp; omega), Below.heap_alloc _ _ _ (by simp; omega), Below.heap_alloc _ _ _ hz0]
      exact hc0
    · exact ((((Below.refl _ W0).alloc (Nat.le_of_lt hz0) _).alloc (by simp; omega) _).alloc (by simp; omega) _ |>.alloc (by simp; omega) _).setCell (p := ⟨w.heap.size, 0, none⟩) (Nat.le_refl _) _
  clear hH
  have HB0 := hide hb0
  have HC0 := hide hc0
  have HB := hide hb
  clear hb hb0 hc0 hg
  go_enter Tryz.func31, Tryz.ntmps31
  go_upto_region 5 with fail
  rw [← hW0]
  clear hW0
  go_upto_region 6 with (go_at_call 20; refine hH2.mono ?_; clear hH2; rintro ev w2 ⟨rfl, k0, hb2⟩)
  have hB2 : Below w.heap.size w w2 := (unhide HB0).trans hb2
  have hbl : b < w.heap.size := (Array.getElem?_eq_some_iff.1 (unhide HB)).1
  have hc2 : w2.heap[b]? = some (.cells #[.int .i64 (e : Int), .int .i64 (p : Int)] 126 (0, 0)) := (hB2.block b hbl).trans (unhide HB)
  have q0 : w2.cell? ⟨b, 0, none⟩ = some (.int .i64 (e : Int)) := cell_of_row _ _ 0 _ _ _ hc2
  have q1 : w2.cell? ⟨b, 1, none⟩ = some (.int .i64 (p : Int)) := cell_of_row _ _ 1 _ _ _ hc2
  have HB2 := hide hB2
  clear hb2 hB2 hc2
  go_region
  all_goals
    try go_wp2_with fail
    go_ret
    exact ⟨_, rfl, heap_alloc_new _ _, ((unhide HB2).alloc (unhide HB2).size _).drew⟩
end Go.Proofs.YtkikhmleffcajaaGreatDoor

namespace Go.Proofs.YtkikhmleffcajaaGreatDoor
open Go.RowKit Go.Maps

theorem any_nil (w : World) : (binOp BinOp.neq 20 .nilIface .nilIface).run Tryz.prog w = .ok (.bool false) w := by kernel_rfl
theorem any_some (v : Value) (w : World) : (binOp BinOp.neq 20 (.iface 123 v) .nilIface).run Tryz.prog w = .ok (.bool true) w := by kernel_rfl

theorem catch_idle (p : Addr) (w : World) :
    CallsD Tryz.prog 30 #[.pointer (some p)] .returning w fun e u' w' => e = .returned (.tuple #[]) ∧ u' = .returning ∧ w' = w := by
  have hn := any_nil
  refine callsD_of_wpS Tryz.func30 rfl fun c₀ cs hu => ?_
  apply wpS_seq
  apply wpS_region
  simp [wpOpsS, go_sem, recoverD, hu, Tryz.ntmps30, Exit.thenS]
  apply wpS_seq
  apply wpS_region
  simp [wpOpsS, go_sem, Exit.thenS, hn]
  refine wpS_cond (t := false) (by simp [Act.eval, Array.replicate]) ?_
  simp only [if_neg Bool.false_ne_true]
  refine wpS_of_wp ?_
  go_wp2
  cases c₀
  simp_all [bodyPostS, results, Tryz.results30]

set_option maxHeartbeats 2000000 in
theorem catch_wrong (B r b e p : Nat) (w : World) (hb : w.heap[b]? = some (.cells #[.int .i64 (e : Int), .int .i64 (p : Int)] 126 (0, 0))) (hg : w.cell? ⟨0, 0, none⟩ = some (.iface 140 (.agg #[.pointer (some ⟨22, 34, none⟩)]))) (hr : w.heap[r]? = some (.cells #[.nilIface] 34 (0, 0))) (hB : B ≤ r) :
    CallsD Tryz.prog 30 #[.pointer (some ⟨r, 0, none⟩)] (.panicking [{ v := .iface 123 (.pointer (some ⟨b, 0, none⟩)), recovered := false }]) w fun ev u' w' => ev = .returned (.tuple #[]) ∧ u' = .panicking [{ v := .iface 123 (.pointer (some ⟨b, 0, none⟩)), recovered := true }] ∧ ∃ a : Nat, w'.heap[r]? = some (.cells #[.iface 64 (.pointer (some ⟨a, 0, none⟩))] 34 (0, 0)) ∧ w'.heap[a]? = some (.cells #[.int .i64 (e : Int), .int .i64 (p : Int)] 68 (0, 0)) ∧ Below B w w' := by
  have hn := any_some (.pointer (some ⟨b, 0, none⟩))
  have hW := wrong_any b e p w hb hg
  have hrl : r < w.heap.size := (Array.getElem?_eq_some_iff.1 hr).1
  refine callsD_of_wpS Tryz.func30 rfl fun c₀ cs hu => ?_
  apply wpS_seq
  apply wpS_region
  simp [wpOpsS, go_sem, recoverD, hu, Tryz.ntmps30, Exit.thenS]
  apply wpS_seq
  apply wpS_region
  simp [wpOpsS, go_sem, Exit.thenS, hn]
  refine wpS_cond (t := true) (by simp [Act.eval, Array.replicate]) ?_
  simp only [if_true]
  refine wpS_of_wp ?_
  have HR := hide hr
  clear hb hg hr
  go_wp2_with (go_at_call 31; refine hW.mono ?_; clear hW; rintro ev w2 ⟨a, rfl, ha, hb2⟩; have hr2 := (hb2.block r hrl).trans (unhide HR); have q0 := cell_of_row _ _ 0 _ _ _ hr2; have q1 : w2.frozen? ⟨r, 0, none⟩ = false := by simp [World.frozen?, hr2])
  have hne : a ≠ r := by
    rintro rfl
    rw [hr2] at ha
    injection ha with ha
    injection ha with _ ha
    cases ha
  have hA := heap_setCell_same w2 r 0 _ _ (.iface 64 (.pointer (some ⟨a, 0, none⟩))) hr2
  have hA2 := heap_setCell_other w2 ⟨r, 0, none⟩ a (.iface 64 (.pointer (some ⟨a, 0, none⟩))) hne
  rw [ha] at hA2
  have hBB : Below B w (w2.setCell ⟨r, 0, none⟩ (.iface 64 (.pointer (some ⟨a, 0, none⟩)))) := (hb2.mono (by omega)).setCell (p := ⟨r, 0, none⟩) hB _
  obtain ⟨W, hW⟩ : ∃ W, W = w2.setCell ⟨r, 0, none⟩ (.iface 64 (.pointer (some ⟨a, 0, none⟩))) := ⟨_, rfl⟩
  rw [← hW] at hA hA2 hBB ⊢
  clear hW q0 q1 hr2 hb2 ha HR hn
  cases c₀
  simp [bodyPostS, results, Tryz.results30]
  exact ⟨a, hA, hA2, hBB⟩
end Go.Proofs.YtkikhmleffcajaaGreatDoor

namespace Go.Proofs.YtkikhmleffcajaaGreatDoor
open Go.RowKit Go.Maps

/-- What turns in an error's cell alone leaves a file as it is. -/
theorem FileM.er {w w' : World} {B fb q : Nat} {sv : Value} {ss : List StM} {c : Array Value} (h : FileM w B fb sv ss) (hq : w.heap[q]? = some (.cells c 34 (0, 0))) (ht : Tb w.heap.size q w w') : FileM w' B fb sv ss := by
  have hne : fb ≠ q := by
    rintro rfl
    have := h.cells
    rw [hq] at this
    injection this with this
    injection this with _ this
    cases this
  exact ⟨(ht.block fb h.lt hne).trans h.cells, h.base, row_off h.row ht (row_tag h.row hq (by decide)), fun s hs => ⟨row_off (h.all s hs).row ht (row_tag (h.all s hs).row hq (by decide)), fun m hm => ((h.all s hs).all m hm).off hq (by decide) (by decide) ht, (h.all s hs).short⟩, h.short⟩
/-- What layers.read comes to. -/
def ReadOut (w' : World) (ev : Ending) (r : Res (List Stg)) : Prop := match r with
  | .error (e, p) => ∃ a : Nat, ev = .returned (.tuple #[.pointer none, .iface 64 (.pointer (some ⟨a, 0, none⟩))]) ∧ w'.heap[a]? = some (.cells #[.int .i64 (e : Int), .int .i64 (p : Int)] 68 (0, 0))
  | .ok st => ∃ B fb sv ss, ev = .returned (.tuple #[.pointer (some ⟨fb, 0, none⟩), .nilIface]) ∧ FileM w' B fb sv ss ∧ ss.map StM.stg = st

set_option maxHeartbeats 2000000 in
set_option maxRecDepth 10000 in
theorem read_any (s : ByteArray) (m : Int) (w : World) (hm : w.cell? ⟨1, 0, none⟩ = some (.int .i64 m)) (hg : w.cell? ⟨0, 0, none⟩ = some (.iface 140 (.agg #[.pointer (some ⟨22, 34, none⟩)]))) :
    Calls Tryz.prog 17 #[.string s, .func (.func 18) #[] #[]] w fun ev w' => ReadOut w' ev (parseG s.data.toList) ∧ Below w.heap.size w w' := by
  have hmf : ∀ (fn : Fn) (first cap : Array Value) (w : World), (Instr.makeFunc fn first cap).run Tryz.prog w = .ok (.func fn first cap) w := fun _ _ _ _ => rfl
  have hbl := World.block_lt_of_cell? _ _ hg
  obtain ⟨W0, hW0⟩ : ∃ W0, W0 = w.alloc (.cells #[.nilIface] 34) := ⟨_, rfl⟩
  have hb0 : Below w.heap.size w W0 := by rw [hW0]; exact (Below.refl _ _).alloc (Nat.le_refl _) _
  have hr0 : W0.heap[w.heap.size]? = some (.cells #[.nilIface] 34 (0, 0)) := by rw [hW0]; exact heap_alloc_new _ _
  have hz0 : W0.heap.size = w.heap.size + 1 := by rw [hW0]; simp
  have hF := read_file s m W0 (cell_later hb0 hm)
  have hg0 := cell_later hb0 hg
  cases hp : parseG s.data.toList with
  | error ep =>
    obtain ⟨e, p⟩ := ep
    rw [hp] at hF
    unfold FileOut Wrg at hF
    have HR := hide hr0
    have HG := hide hg0
    have HB := hide hb0
    clear hr0 hg0 hb0 hp hm hg
    go_enter_defers Tryz.func17, Tryz.ntmps17
    go_upto_region 2 with fail
    rw [← hW0]
    clear hW0
    go_wp2_with (go_at_call 18; refine hF.mono ?_; clear hF; rintro ev w2 ⟨⟨b, rfl, hc⟩, hb2⟩)
    have hr2 := (hb2.block w.heap.size (by omega)).trans (unhide HR)
    have hC := catch_wrong w.heap.size w.heap.size b e p w2 hc (cell_later hb2 (unhide HG)) hr2 (Nat.le_refl _)
    refine leaves_cons (f := 30) (args := #[.pointer (some ⟨w.heap.size, 0, none⟩)]) (by simp) (by simp [go_sem]) ?_
    refine hC.mono ?_
    rintro ev u' w3 ⟨rfl, rfl, a, ha, ha2, hb3⟩
    have q0 : w3.cell? ⟨w.heap.size, 0, none⟩ = some (.iface 64 (.pointer (some ⟨a, 0, none⟩))) := cell_of_row _ _ 0 _ _ _ ha
    have hBB : Below w.heap.size w w3 := ((unhide HB).trans (hb2.mono (by omega))).trans hb3
    simp [Leaves, settle, results, Tryz.results17, go_sem, q0]
    exact ⟨⟨a, rfl, ha2⟩, hBB⟩
  | ok st =>
    rw [hp] at hF
    unfold FileOut at hF
    have HR := hide hr0
    have HB := hide hb0
    clear hr0 hg0 hb0 hp hm hg
    go_enter_defers Tryz.func17, Tryz.ntmps17
    go_upto_region 2 with fail
    rw [← hW0]
    clear hW0
    go_wp2_with (go_at_call 18; refine hF.mono ?_; clear hF; rintro ev w2 ⟨⟨fb, sv, ss, rfl, hFM, hst⟩, hb2⟩; have hr2 := (hb2.block w.heap.size (by omega)).trans (unhide HR); have q0 : w2.cell? ⟨w.heap.size, 0, none⟩ = some .nilIface := cell_of_row _ _ 0 _ _ _ hr2; have q1 : w2.frozen? ⟨w.heap.size, 0, none⟩ = false := by simp [World.frozen?, hr2])
    have hFM3 := hFM.er hr2 (Tb.to w2.heap.size w.heap.size w2 0 .nilIface)
    have hr3 := heap_setCell_same w2 w.heap.size 0 _ _ .nilIface hr2
    have hBB : Below w.heap.size w (w2.setCell ⟨w.heap.size, 0, none⟩ .nilIface) := ((unhide HB).trans (hb2.mono (by omega))).setCell (p := ⟨w.heap.size, 0, none⟩) (Nat.le_refl _) _
    obtain ⟨W, hW⟩ : ∃ W, W = w2.setCell ⟨w.heap.size, 0, none⟩ .nilIface := ⟨_, rfl⟩
    rw [← hW] at hFM3 hr3 hBB ⊢
    clear hW q0 q1
    refine leaves_cons (f := 30) (args := #[.pointer (some ⟨w.heap.size, 0, none⟩)]) (by simp) (by simp [go_sem]) ?_
    refine (catch_idle ⟨w.heap.size, 0, none⟩ _).mono ?_
    rintro ev u' w3 ⟨rfl, rfl, rfl⟩
    have q0 : w3.cell? ⟨w.heap.size, 0, none⟩ = some .nilIface := cell_of_row _ _ 0 _ _ _ hr3
    simp [Leaves, settle, results, Tryz.results17, go_sem, q0]
    exact ⟨⟨_, fb, sv, ss, rfl, hFM3, hst⟩, hBB⟩
end Go.Proofs.YtkikhmleffcajaaGreatDoor
