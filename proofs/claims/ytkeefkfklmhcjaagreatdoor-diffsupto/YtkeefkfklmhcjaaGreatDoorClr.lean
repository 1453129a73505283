import Derived.Test.YtkeefkfklmhcjaaGreatDoorEach
import Derived.Test.YtkeefkfklmhcjaaGreatDoorNod
import Derived.RangeFuncBox
namespace Go.Proofs.YtkeefkfklmhcjaaGreatDoor
open Go.RowKit Go.Maps Go.Sort Go.Shelf
attribute [local go_sem] Oper.semAt_some

def hasX (ms : List Nd) (p : List UInt8) (s : List UInt8) : Bool := (kidsX ms p).any fun z => nameOf z.p == s
/-- Is nothing left of what was in a directory? -/
def clrX (ns ms : List Nd) (x y : Nd) : Bool := decide (x.ent.kind = 1) && decide (y.ent.kind = 1) && decide (2 ≤ (kidsX ns x.p).length) && (kidsX ns x.p).all fun k => !hasX ms y.p (nameOf k.p)
theorem boxed_rowIn {W : World} {B t : Nat} {b : Bool} (h : Boxed W B t (.bool b)) : RowIn B W := ⟨h.lt, fun k hk => by
  obtain ⟨o, s, n, c, e⟩ := hk
  rw [h.cell] at e
  cases e⟩
theorem boxed_kc {W W' : World} {B t : Nat} {b : Bool} (h : Boxed W B t (.bool b)) (hb : Below W.heap.size W W') : Kc B W W' := Kc.below hb h.lt
theorem boxed_away {W : World} {B t k : Nat} {b : Bool} (h : Boxed W B t (.bool b)) (hk : k < B) : Away B W k := ⟨Nat.lt_trans hk h.lt, by omega, fun hr => by
  obtain ⟨o, s, n, c, e⟩ := hr
  rw [h.cell] at e
  cases e⟩
theorem boxed_away' {W : World} {B t k : Nat} {b : Bool} (h : Boxed W B t (.bool b)) (hk : k < W.heap.size) (hne : k ≠ B) : Away B W k := ⟨hk, hne, fun hr => by
  obtain ⟨o, s, n, c, e⟩ := hr
  rw [h.cell] at e
  cases e⟩
set_option maxHeartbeats 2000000 in
set_option maxRecDepth 100000 in
theorem cleared_any (B B2 : Nat) (r x : Nd) (ns : List Nd) (r2 y : Nd) (ms : List Nd) (w : World) (hx : x ∈ r :: ns) (hM : Mem w B r ns) (hy : y ∈ r2 :: ms) (hM2 : Mem w B2 r2 ms) (HO : Hid (OkTo (entsN ns) ns.length)) (HS : Hid (∀ y ∈ ns, y.ent.path.size ≤ 1048576)) (hN : ns.length ≤ 1000) :
    Calls Tryz.prog 82 #[.pointer (some ⟨x.nb, 0, none⟩), .pointer (some ⟨y.nb, 0, none⟩)] w fun ev w' => ev = .returned (.bool (clrX ns ms x y)) ∧ Below w.heap.size w w' := by
  obtain ⟨W2, hW2⟩ : ∃ W2, W2 = (w.alloc (.cells #[.pointer (some ⟨y.nb, 0, none⟩)] 79)).alloc (.cells #[.bool false] 4) := ⟨_, rfl⟩
  have b2 : Below w.heap.size w W2 := by rw [hW2]; exact ((Below.refl _ w).alloc (Nat.le_refl _) _).alloc (by simp) _
  have s2 : W2.heap.size = w.heap.size + 2 := by rw [hW2]; simp
  have y2 : W2.heap[w.heap.size]? = some (.cells #[.pointer (some ⟨y.nb, 0, none⟩)] 79 (0, 0)) := by rw [hW2]; exact (Below.heap_alloc _ _ _ (by simp)).trans (heap_alloc_new _ _)
  have r2' : Boxed W2 (w.heap.size + 1) 4 (.bool false) := by
    have := heap_alloc_new (w.alloc (.cells #[.pointer (some ⟨y.nb, 0, none⟩)] 79)) (.cells #[.bool false] 4)
    rw [World.size_alloc] at this
    rw [hW2]; exact this
  obtain ⟨_, _, gx3, gx4⟩ := (hM.below b2).all x hx
  obtain ⟨_, _, gy3, gy4⟩ := (hM2.below b2).all y hy
  have cy : W2.cell? ⟨w.heap.size, 0, none⟩ = some (.pointer (some ⟨y.nb, 0, none⟩)) := cell_of_row _ _ 0 _ _ _ y2
  have hX := callsIn_wide (n := 5).2 (isDir_at x.nb x.ent.kind W2 (cell_of_row _ _ 1 _ _ _ gx3))
  have hY := callsIn_wide (n := 5).2 (isDir_at y.nb y.ent.kind W2 (cell_of_row _ _ 1 _ _ _ gy3))
  have hWd := callsIn_wide (n := 5).2 (wide_any x.nb x.mb _ _ W2 (cell_of_row _ _ 4 _ _ _ gx3) gx4)
  have hkl : (kidsN ns x.p).length = (kidsX ns x.p).length := by rw [kidsN_eq, List.length_map]
  rw [hkl] at hWd
  have c1 := r2'.cell
  have c2 := r2'.frozen
  have hb2 : Below w.heap.size w (W2.setCell ⟨w.heap.size + 1, 0, none⟩ (.bool false)) := b2.setCell (p := ⟨w.heap.size + 1, 0, none⟩) (by show w.heap.size ≤ w.heap.size + 1; omega) _
  have c3 : (W2.setCell ⟨w.heap.size + 1, 0, none⟩ (.bool false)).cell? ⟨w.heap.size + 1, 0, none⟩ = some (.bool false) := World.cell?_setCell_same' _ _ _ (by rw [c1]; rfl)
  have HM := hide (hM.below b2)
  have HM2 := hide (hM2.below b2)
  have HYB : Hid (y.nb < w.heap.size ∧ y.mb < w.heap.size) := hide ⟨(Array.getElem?_eq_some_iff.1 ((hM2.all y hy).2.2.1)).1, World.ownsMap.lt (hM2.all y hy).2.2.2⟩
  have hnx : x.nb < w.heap.size := (Array.getElem?_eq_some_iff.1 ((hM.all x hx).2.2.1)).1
  have hmx : x.mb < w.heap.size := World.ownsMap.lt (hM.all x hx).2.2.2
  have HW2 := hide hW2
  have HS2 := hide s2
  clear hW2 s2
  have HY2 := hide y2
  have HR2 := hide r2'
  have hf80 : Fence.wide.fn 106 := trivial
  have hf99 : Fence.wide.fn 123 := trivial
  have hf88 : Fence.wide.fn 113 := trivial
  clear hM hM2 gx3 gx4 gy3 gy4 y2 r2'
  refine (callsIn_wide (n := 6)).1 ?_
  refine callsIn_of_wp_marks Tryz.func82 rfl trivial ?_ rfl
  simp only [Tryz.ntmps82, List.size_toArray, List.length_cons, List.length_nil, Nat.reduceAdd, Nat.reduceSub, Array.replicate_succ, Array.replicate_zero, List.push_toArray, List.append_toArray, List.nil_append, List.cons_append]
  by_cases k1 : x.ent.kind = 1
  · by_cases k2 : y.ent.kind = 1
    · by_cases k3 : 2 ≤ (kidsX ns x.p).length
      · have d1 : decide (x.ent.kind = 1) = true := decide_eq_true k1
        have d2 : decide (y.ent.kind = 1) = true := decide_eq_true k2
        have HC : Hid (clrX ns ms x y = (kidsX ns x.p).all fun k => !hasX ms y.p (nameOf k.p)) := hide (by simp [clrX, k1, k2, k3])
        have k4 : ¬ ((kidsX ns x.p).length : Int) < 2 := by omega
        rw [d1] at hX
        rw [d2] at hY
        gi_wp2_with (first
          | (gi_at_call 106; rw [← unhide HW2]; refine hX.mono ?_; clear hX; rintro e w1 ⟨rfl, hw⟩; obtain rfl := hw.symm)
          | (gi_at_call 106; refine hY.mono ?_; clear hY; rintro e w1 ⟨rfl, hw⟩; obtain rfl := hw.symm)
          | (gi_at_call 123; refine hWd.mono ?_; clear hWd; rintro e w1 ⟨rfl, hw⟩; obtain rfl := hw.symm)
          | (gi_at_call 113; refine (callsIn_wide.2 (inside_any _ _)).mono ?_; rintro e w4 ⟨rfl, rfl⟩))
        have s2 := unhide HS2
        have bx := unhide HR2
        have b4 : Below W2.heap.size W2 (W2.alloc (.cells #[.pointer (some ⟨x.nb, 0, none⟩)] 79)) := (Below.refl _ _).alloc (Nat.le_refl _) _
        have bx4 := bx.alloc (.cells #[.pointer (some ⟨x.nb, 0, none⟩)] 79)
        have hb4 : Below w.heap.size w (W2.alloc (.cells #[.pointer (some ⟨x.nb, 0, none⟩)] 79)) := b2.trans (b4.mono b2.size)
        obtain ⟨gz1, gz2, gz3, gz4⟩ := (unhide HM2).all y hy
        refine wpIn_rangeFunc_ownF rfl (by omega) (gf := 145) (lb := #[.pointer (some ⟨W2.heap.size, 0, none⟩)]) rfl trivial (enters_of Tryz.func145 (by kernel_rfl) rfl)
          (inside_stops 5 (by omega) W2.heap.size (w.heap.size + 1) B r x ns _ hx ((unhide HM).below b4) HO HS hN (heap_alloc_new _ _) (boxed_away' bx4 (by simp) (by omega)) (boxed_away bx4 (by omega)) (boxed_away bx4 (by omega)) (boxed_rowIn bx4)) Kc.trans (fun W l o o' hl h h1 h2 => Kc.put W l o o' (by simp at hl; omega) h h1 h2) (Below.refl _ _) (fun _ => rfl)
          (fun pre W => (Boxed W (w.heap.size + 1) 4 (.bool false) ∧ ∀ k ∈ pre, hasX ms y.p (nameOf k.1.p) = false) ∧ Below (w.heap.size + 1) W2 W)
          (fun c pre W => (c = .ret ∧ Boxed W (w.heap.size + 1) 4 (.bool false) ∧ ∃ k : Kid ns x.p, hasX ms y.p (nameOf k.1.p) = true) ∧ Below (w.heap.size + 1) W2 W)
          (OwnFrom.and (Own.from (fun s A W' row hs hg hr => ⟨hs.1.kept hg (fun e => by
            obtain ⟨o, ho, hc⟩ := hr _ e.symm
            rw [show A.heap[w.heap.size + 1]? = _ from hs.1] at ho; cases ho; cases hc), hs.2⟩) _) (ownFrom_below (by omega) (by simp; omega)))
          (fun c => OwnFrom.and (Own.from (fun s A W' row hs hg hr => ⟨hs.1, hs.2.1.kept hg (fun e => by
            obtain ⟨o, ho, hc⟩ := hr _ e.symm
            rw [show A.heap[w.heap.size + 1]? = _ from hs.2.1] at ho; cases ho; cases hc), hs.2.2⟩) _) (ownFrom_below (by omega) (by simp; omega)))
          ⟨⟨bx4, by simp⟩, b4.mono (by omega)⟩
          (fun k => { tmps := #[.pointer (some ⟨x.nb, 0, none⟩), .pointer (some ⟨y.nb, 0, none⟩), undef, .pointer (some ⟨w.heap.size, 0, none⟩), .pointer (some ⟨w.heap.size + 1, 0, none⟩), .string (nm k.1), .pointer (some ⟨x.nb, 0, none⟩), .bool true, .bool false, .bool false, .pointer (some ⟨y.nb, 0, none⟩), .bool true, .bool false, .bool false, .bool false, .pointer (some ⟨x.nb, 0, none⟩), .int .i64 ((kidsX ns x.p).length : Int), .bool (decide (((kidsX ns x.p).length : Int) < 2)), .bool (decide (((kidsX ns x.p).length : Int) < 2)), .pointer (some ⟨x.nb, 0, none⟩), .func (.func 145) #[] #[.pointer (some ⟨W2.heap.size, 0, none⟩)], .string (nm k.1), .pointer (some ⟨k.1.nb, 0, none⟩), undef, undef, undef], defers := [] })
          ?assign ?body ?done ?stop
        case assign =>
          intro l k W K hK
          clear s2
          unfold encK
          gi_wp2
          exact hK
        case body =>
          rintro l pre k W ⟨⟨bw, hpre⟩, hbw⟩ hl
          have cw : W.cell? ⟨w.heap.size, 0, none⟩ = some (.pointer (some ⟨y.nb, 0, none⟩)) := (hbw.cell (p := ⟨w.heap.size, 0, none⟩) (by show w.heap.size < w.heap.size + 1; omega)).trans cy
          have hyb := unhide HYB
          have cm : W.cell? ⟨y.nb, 4, none⟩ = some (.map (some y.mb)) := (hbw.cell (p := ⟨y.nb, 4, none⟩) (by show y.nb < w.heap.size + 1; omega)).trans (cell_of_row _ _ 4 _ _ _ gz3)
          have km : KM W y.mb ms.length (kidsN ms y.p) := by
            obtain ⟨es, clock, hb, F, hs, hD⟩ := gz4
            exact ⟨es, clock, (hbw.block y.mb (by omega)).trans hb, F, hs, hD⟩
          have hnz : (nm k.1).size ≤ 1048576 := by
            have e1 := name_le k.1.p
            have e2 := unhide HS k.1 (kidsX_mem k.2).1
            have e3 : k.1.p.length = k.1.ent.path.size := Array.length_toList
            have e4 : (nm k.1).size = (nameOf k.1.p).length := rfl
            omega
          have hH := has_any y.nb y.mb _ ms y.p (nm k.1) W cm km hnz
          have hH' : Calls Tryz.prog 124 #[.pointer (some ⟨y.nb, 0, none⟩), .string (nm k.1)] W fun ev w' => ev = .returned (.bool (hasX ms y.p (nameOf k.1.p))) ∧ w' = W := hH
          have hf100 : (Fence.wide.inRound l).fn 124 := trivial
          have c1 := bw.cell
          have c2 := bw.frozen
          clear hH cm km
          cases hh : hasX ms y.p (nameOf k.1.p)
          · rw [hh] at hH'
            gi_wp2_with (refine ⟨trivial, ?_⟩; gi_at_call 124; refine (CallsIn.inRound l (callsIn_wide.2 hH')).mono ?_; rintro e w5 ⟨rfl, hw⟩; obtain rfl := hw.symm)
            refine ⟨KeepsOthers.refl _, Kc.refl _ _, ⟨bw, fun z hz => ?_⟩, hbw⟩
            rcases List.mem_append.1 hz with hz | hz
            · exact hpre z hz
            · rw [List.mem_singleton] at hz; subst hz; exact hh
          · rw [hh] at hH'
            gi_wp2_with (refine ⟨trivial, ?_⟩; gi_at_call 124; refine (CallsIn.inRound l (callsIn_wide.2 hH')).mono ?_; rintro e w5 ⟨rfl, hw⟩; obtain rfl := hw.symm)
            exact ⟨KeepsOthers.setCell _ _ _, ⟨rfl, bw.set _, k, hh⟩, hbw.setCell (p := ⟨w.heap.size + 1, 0, none⟩) (Nat.le_refl _) _⟩
        case done =>
          rintro D xs W hD rfl ⟨⟨bw, hpre⟩, hbw⟩ hK
          have c1 := bw.cell
          have c2 := bw.frozen
          simp only [World.size_alloc] at hD
          gi_wp2
          have hK2 : (W.setCell ⟨w.heap.size + 1, 0, none⟩ (.bool true)).heap[D]? = some (.deferred (some [])) := (KeepsOthers.setCell W ⟨w.heap.size + 1, 0, none⟩ (.bool true)).same D _ hK rfl
          have c5 : ((W.setCell ⟨w.heap.size + 1, 0, none⟩ (.bool true)).putObj D (.deferred none)).cell? ⟨w.heap.size + 1, 0, none⟩ = some (.bool true) := by
            rw [cell_put _ (by show w.heap.size + 1 ≠ D; omega)]
            exact World.cell?_setCell_same' _ _ _ (by rw [c1]; rfl)
          refine ⟨by simp, .inl ⟨_, _, rfl, run_takeDeferred hK2, ?_⟩⟩
          have e : clrX ns ms x y = true := by
            rw [unhide HC, List.all_eq_true]
            intro k hk
            have := hpre ⟨k, hk⟩ (by simp)
            simp only [this, Bool.not_false]
          have hW' : Below w.heap.size w (W.setCell ⟨w.heap.size + 1, 0, none⟩ (.bool true)) := (b2.trans (hbw.mono (by omega))).setCell (p := ⟨w.heap.size + 1, 0, none⟩) (by show w.heap.size ≤ w.heap.size + 1; omega) _
          refine ⟨.bool true, ?_, by rw [e], hW'.trans (belowK_b (w := w) (Nat.le_refl _) _ D _ _ (by omega) hK2 rfl rfl)⟩
          simp [results, Tryz.results82, go_sem, c5]
        case stop =>
          rintro D c pre W hD _ ⟨⟨rfl, bw, k, hk⟩, hbw⟩ hK
          have c1 := bw.cell
          simp only [World.size_alloc] at hD
          gi_wp2
          have c5 : (W.putObj D (.deferred none)).cell? ⟨w.heap.size + 1, 0, none⟩ = some (.bool false) := by
            rw [cell_put _ (by show w.heap.size + 1 ≠ D; omega)]; exact c1
          refine ⟨by simp, .inl ⟨_, _, rfl, run_takeDeferred hK, ?_⟩⟩
          have e : clrX ns ms x y = false := by
            rw [unhide HC, List.all_eq_false]
            exact ⟨k.1, k.2, by simp [hk]⟩
          refine ⟨.bool false, ?_, by rw [e], (b2.trans (hbw.mono (by omega))).trans (belowK_b (w := w) (Nat.le_refl _) _ D _ _ (by omega) hK rfl rfl)⟩
          simp [results, Tryz.results82, go_sem, c5]
      · have HC : Hid (clrX ns ms x y = false) := hide (by simp [clrX, k3])
        have d1 : decide (x.ent.kind = 1) = true := decide_eq_true k1
        have d2 : decide (y.ent.kind = 1) = true := decide_eq_true k2
        have k4 : ((kidsX ns x.p).length : Int) < 2 := by omega
        rw [d1] at hX
        rw [d2] at hY
        gi_wp2_with (first
          | (gi_at_call 106; rw [← unhide HW2]; refine hX.mono ?_; clear hX; rintro e w1 ⟨rfl, hw⟩; obtain rfl := hw.symm)
          | (gi_at_call 106; refine hY.mono ?_; clear hY; rintro e w1 ⟨rfl, hw⟩; obtain rfl := hw.symm)
          | (gi_at_call 123; refine hWd.mono ?_; clear hWd; rintro e w1 ⟨rfl, hw⟩; obtain rfl := hw.symm))
        refine ⟨.bool false, ?_, by rw [unhide HC], hb2⟩
        simp [results, Tryz.results82, go_sem, c3]
    · have HC : Hid (clrX ns ms x y = false) := hide (by simp [clrX, k2])
      have d1 : decide (x.ent.kind = 1) = true := decide_eq_true k1
      have d2 : decide (y.ent.kind = 1) = false := decide_eq_false k2
      rw [d1] at hX
      rw [d2] at hY
      gi_wp2_with (first
        | (gi_at_call 106; rw [← unhide HW2]; refine hX.mono ?_; clear hX; rintro e w1 ⟨rfl, hw⟩; obtain rfl := hw.symm)
        | (gi_at_call 106; refine hY.mono ?_; clear hY; rintro e w1 ⟨rfl, hw⟩; obtain rfl := hw.symm))
      refine ⟨.bool false, ?_, by rw [unhide HC], hb2⟩
      simp [results, Tryz.results82, go_sem, c3]
  · have HC : Hid (clrX ns ms x y = false) := hide (by simp [clrX, k1])
    have d1 : decide (x.ent.kind = 1) = false := decide_eq_false k1
    rw [d1] at hX
    gi_wp2_with (first
      | (gi_at_call 106; rw [← unhide HW2]; refine hX.mono ?_; clear hX; rintro e w1 ⟨rfl, hw⟩; obtain rfl := hw.symm))
    refine ⟨.bool false, ?_, by rw [unhide HC], hb2⟩
    simp [results, Tryz.results82, go_sem, c3]
end Go.Proofs.YtkeefkfklmhcjaaGreatDoor
