import Derived.Test.YtkikhmleffcajaaGreatDoorJPnA
import Derived.Test.YtkikhmleffcajaaGreatDoorJDcM
namespace Go.Proofs.YtkikhmleffcajaaGreatDoor
open Go.RowKit Go.Maps

/-- Does a stage of the document's stand on another one, or take from it? -/
def wantD (s : DsM) (k : Nat) : Bool := (s.steps.any fun p => p.stage == (k : Int)) || s.base == (k : Int)
set_option maxHeartbeats 4000000 in
set_option maxRecDepth 10000 in
theorem wants_doc (s : DsM) (k : Nat) (B : Nat) (w : World) (hs : StgOk w B s) (hl : s.steps.length ≤ 1000) :
    Calls Tryz.prog 16 #[.agg #[.string (bt s.name), .int .i64 s.base, s.sv, s.vv], .int .i64 (k : Int)] w fun e w' => e = .returned (.bool (wantD s k)) ∧ Below w.heap.size w w' := by
  obtain ⟨sa, sn, sc, hsv⟩ := row_form hs.steps
  obtain ⟨va, vn, vc, hvv⟩ := row_form hs.vars
  have hsn : sn = s.steps.length := by have := hs.steps; rw [hsv] at this; exact row_len this
  subst hsn
  rw [hsv, hvv]
  obtain ⟨W0, hW0⟩ : ∃ W0, W0 = w.alloc (.cells #[.string (bt s.name), .int .i64 s.base, .slice sa s.steps.length sc, .slice va vn vc] 58) := ⟨_, rfl⟩
  have hb0 : Below w.heap.size w W0 := by rw [hW0]; exact (Below.refl _ _).alloc (Nat.le_refl _) _
  have hc0 : W0.heap[w.heap.size]? = some (.cells #[.string (bt s.name), .int .i64 s.base, .slice sa s.steps.length sc, .slice va vn vc] 58 (0, 0)) := by rw [hW0]; exact heap_alloc_new _ _
  have c1 : W0.cell? ⟨w.heap.size, 1, none⟩ = some (.int .i64 s.base) := cell_of_row _ _ 1 _ _ _ hc0
  have c2 : W0.cell? ⟨w.heap.size, 2, none⟩ = some (.slice sa s.steps.length sc) := cell_of_row _ _ 2 _ _ _ hc0
  have HR : Hid (SpR W0 B (.slice sa s.steps.length sc) s.steps) := hide (by rw [← hsv]; exact (hs.below hb0).steps)
  obtain ⟨r, hr⟩ : ∃ r, wantD s k = r := ⟨_, rfl⟩
  rw [hr]
  have HRR := hide hr
  clear hs hsv hvv hc0 hr
  go_enter Tryz.func16, Tryz.ntmps16
  go_upto_region 1 with fail
  rw [← hW0]
  clear hW0
  go_wp2_with fail
  go_loop [5] (fun i => ∃ kk : Nat, kk ≤ s.steps.length ∧ i = .int .i64 (kk : Int) ∧ ∀ (j : Nat) (p : DpM), j < kk → s.steps[j]? = some p → ¬ p.stage = (k : Int)) (fun i => s.steps.length - (intOf i).toNat)
  case atStart => exact ⟨0, Nat.zero_le _, rfl, fun j p hj => by omega⟩
  case round =>
    obtain ⟨kk, hkk, rfl, ha⟩ := hrel
    have A := hide ha
    clear ha
    by_cases hlt : kk < s.steps.length
    · obtain ⟨gp, cp, hv, _, _⟩ := World.ownsRow.form (unhide HR) (by omega)
      injection hv with e1 _ e3
      subst e1 e3
      obtain ⟨p, hp⟩ : ∃ p, s.steps[kk]? = some p := ⟨_, List.getElem?_eq_getElem hlt⟩
      have q2 : W0.cell? ⟨gp, kk * 4 + 2, none⟩ = some (.int .i64 p.stage) := by
        rw [World.ownsRow.cellAt (unhide HR) _ (by omega), dpC_at s.steps kk p 2 hp (by omega)]; rfl
      by_cases he : p.stage = (k : Int)
      · have HM : Hid (r = true) := hide (by
          rw [← unhide HRR]; unfold wantD
          rw [List.any_eq_true.2 ⟨p, List.mem_of_getElem? hp, by simpa using he⟩]; rfl)
        have g1 : (p.stage == (k : Int)) = true := by simpa using he
        clear he hp
        go_wp2_with fail
        go_ret
        exact ⟨by rw [unhide HM]; rfl, hb0⟩
      · have HM : Hid (∀ (j : Nat) (q : DpM), j < kk + 1 → s.steps[j]? = some q → ¬ q.stage = (k : Int)) := hide (fun j q hj hq => by
          by_cases hjk : j = kk
          · subst hjk; rw [hp] at hq; cases hq; exact he
          · exact unhide A j q (by omega) hq)
        have g1 : (p.stage == (k : Int)) = false := by simpa using he
        clear he hp
        go_wp2_with fail
        go_round
        case rel => exact ⟨kk + 1, hlt, by go_num, unhide HM⟩
        case measure => simp [intOf]; omega
    · have HM : Hid (r = (s.base == (k : Int))) := hide (by
        rw [← unhide HRR]; unfold wantD
        rw [show (s.steps.any fun p => p.stage == (k : Int)) = false by
          rw [List.any_eq_false]
          intro p hp
          obtain ⟨j, hj⟩ := List.getElem?_of_mem hp
          have := (List.getElem?_eq_some_iff.1 hj).1
          simpa using unhide A j p (by omega) hj]
        rfl)
      go_wp2_with fail
      go_ret
      exact ⟨by rw [unhide HM]; rfl, hb0⟩
end Go.Proofs.YtkikhmleffcajaaGreatDoor
