import Derived.Test.YtjofjcjojgpaeaaGreatDoorJEqS
import Derived.Test.YtjofjcjojgpaeaaGreatDoorJChl
import Derived.Test.YtjofjcjojgpaeaaGreatDoorJEach
import Derived.RangeFuncBox
namespace Go.Proofs.YtjofjcjojgpaeaaGreatDoor
open Go.RowKit

theorem kids_small {es : List Ent} (h : Tree es) (p : List UInt8) : ∀ e ∈ kidsE es p, e.path.size ≤ 1048576 := fun e he => (h.small e (by rw [kidsE, List.mem_filter] at he; exact he.1)).1
end Go.Proofs.YtjofjcjojgpaeaaGreatDoor

namespace Go.Proofs.YtjofjcjojgpaeaaGreatDoor
open Go.RowKit Go.Maps Go.Sort Go.Shelf
attribute [local go_sem] Oper.semAt_some

def hasX (ms : List Nd) (p : List UInt8) (s : List UInt8) : Bool := (kidsX ms p).any fun z => nameOf z.p == s
/-- Is nothing left of what was in a directory? -/
def clrX (ns ms : List Nd) (x y : Nd) : Bool := decide (x.ent.kind = 1) && decide (y.ent.kind = 1) && decide (2 ≤ (kidsX ns x.p).length) && (kidsX ns x.p).all fun k => !hasX ms y.p (nameOf k.p)
theorem boxed_rowIn {W : World} {B t : Nat} {b : Bool} (h : Boxed W B t (.bool b)) : RowIn B W := ⟨h.lt, fun k hk => by
  obtain ⟨o, s, n, c, e⟩ := hk
  rw [h.cell] at e
  cases e⟩
theorem boxed_kc {W W' : World} {B t : Nat} {b : Bool} (h : Boxed W B t (.bool b)) (hb : Below W.heap.size W W') : Kc B W W' := Kc.below hb h.lt
theorem boxed_away {W : World} {B t k : Nat} {b : Bool} (h : Boxed W B t (.bool b)) (hk : k < B) : Away B W k := ⟨Nat.lt_trans hk h.lt, by omega, fun hr => by
  obtain ⟨o, s, n, c, e⟩ := hr
  rw [h.cell] at e
  cases e⟩
theorem boxed_away' {W : World} {B t k : Nat} {b : Bool} (h : Boxed W B t (.bool b)) (hk : k < W.heap.size) (hne : k ≠ B) : Away B W k := ⟨hk, hne, fun hr => by
  obtain ⟨o, s, n, c, e⟩ := hr
  rw [h.cell] at e
  cases e⟩
set_option maxHeartbeats 2000000 in
set_option maxRecDepth 100000 in
theorem cleared_any (B B2 : Nat) (r x : Nd) (ns : List Nd) (r2 y : Nd) (ms : List Nd) (w : World) (hx : x ∈ r :: ns) (hM : Mem w B r ns) (hy : y ∈ r2 :: ms) (hM2 : Mem w B2 r2 ms) (HO : Hid (OkTo (entsN ns) ns.length)) (HS : Hid (∀ y ∈ ns, y.ent.path.size ≤ 1048576)) (hN : ns.length ≤ 1000) :
    Calls Tryz.prog 42 #[.pointer (some ⟨x.nb, 0, none⟩), .pointer (some ⟨y.nb, 0, none⟩)] w fun ev w' => ev = .returned (.bool (clrX ns ms x y)) ∧ Below w.heap.size w w' := by
  obtain ⟨W2, hW2⟩ : ∃ W2, W2 = (w.alloc (.cells #[.pointer (some ⟨y.nb, 0, none⟩)] 64)).alloc (.cells #[.bool false] 4) := ⟨_, rfl⟩
  have b2 : Below w.heap.size w W2 := by rw [hW2]; exact ((Below.refl _ w).alloc (Nat.le_refl _) _).alloc (by simp) _
  have s2 : W2.heap.size = w.heap.size + 2 := by rw [hW2]; simp
  have y2 : W2.heap[w.heap.size]? = some (.cells #[.pointer (some ⟨y.nb, 0, none⟩)] 64 (0, 0)) := by rw [hW2]; exact (Below.heap_alloc _ _ _ (by simp)).trans (heap_alloc_new _ _)
  have r2' : Boxed W2 (w.heap.size + 1) 4 (.bool false) := by
    have := heap_alloc_new (w.alloc (.cells #[.pointer (some ⟨y.nb, 0, none⟩)] 64)) (.cells #[.bool false] 4)
    rw [World.size_alloc] at this
    rw [hW2]; exact this
  obtain ⟨_, _, gx3, gx4⟩ := (hM.below b2).all x hx
  obtain ⟨_, _, gy3, gy4⟩ := (hM2.below b2).all y hy
  have cy : W2.cell? ⟨w.heap.size, 0, none⟩ = some (.pointer (some ⟨y.nb, 0, none⟩)) := cell_of_row _ _ 0 _ _ _ y2
  have hX := callsIn_wide (n := 5).2 (isDir_at x.nb x.ent.kind W2 (cell_of_row _ _ 1 _ _ _ gx3))
  have hY := callsIn_wide (n := 5).2 (isDir_at y.nb y.ent.kind W2 (cell_of_row _ _ 1 _ _ _ gy3))
  have hWd := callsIn_wide (n := 5).2 (wide_any x.nb x.mb _ _ W2 (cell_of_row _ _ 4 _ _ _ gx3) gx4)
  have hkl : (kidsN ns x.p).length = (kidsX ns x.p).length := by rw [kidsN_eq, List.length_map]
  rw [hkl] at hWd
  have c1 := r2'.cell
  have c2 := r2'.frozen
  have hb2 : Below w.heap.size w (W2.setCell ⟨w.heap.size + 1, 0, none⟩ (.bool false)) := b2.setCell (p := ⟨w.heap.size + 1, 0, none⟩) (by show w.heap.size ≤ w.heap.size + 1; omega) _
  have c3 : (W2.setCell ⟨w.heap.size + 1, 0, none⟩ (.bool false)).cell? ⟨w.heap.size + 1, 0, none⟩ = some (.bool false) := World.cell?_setCell_same' _ _ _ (by rw [c1]; rfl)
  have HM := hide (hM.below b2)
  have HM2 := hide (hM2.below b2)
  have HYB : Hid (y.nb < w.heap.size ∧ y.mb < w.heap.size) := hide ⟨(Array.getElem?_eq_some_iff.1 ((hM2.all y hy).2.2.1)).1, World.ownsMap.lt (hM2.all y hy).2.2.2⟩
  have hnx : x.nb < w.heap.size := (Array.getElem?_eq_some_iff.1 ((hM.all x hx).2.2.1)).1
  have hmx : x.mb < w.heap.size := World.ownsMap.lt (hM.all x hx).2.2.2
  have HW2 := hide hW2
  have HS2 := hide s2
  clear hW2 s2
  have HY2 := hide y2
  have HR2 := hide r2'
  have hf80 : Fence.wide.fn 67 := trivial
  have hf99 : Fence.wide.fn 71 := trivial
  have hf88 : Fence.wide.fn 72 := trivial
  clear hM hM2 gx3 gx4 gy3 gy4 y2 r2'
  refine (callsIn_wide (n := 6)).1 ?_
  refine callsIn_of_wp_marks Tryz.func42 rfl trivial ?_ rfl
  simp only [Tryz.ntmps42, List.size_toArray, List.length_cons, List.length_nil, Nat.reduceAdd, Nat.reduceSub, Array.replicate_succ, Array.replicate_zero, List.push_toArray, List.append_toArray, List.nil_append, List.cons_append]
  by_cases k1 : x.ent.kind = 1
  · by_cases k2 : y.ent.kind = 1
    · by_cases k3 : 2 ≤ (kidsX ns x.p).length
      · have d1 : decide (x.ent.kind = 1) = true := decide_eq_true k1
        have d2 : decide (y.ent.kind = 1) = true := decide_eq_true k2
        have HC : Hid (clrX ns ms x y = (kidsX ns x.p).all fun k => !hasX ms y.p (nameOf k.p)) := hide (by simp [clrX, k1, k2, k3])
        have k4 : ¬ ((kidsX ns x.p).length : Int) < 2 := by omega
        rw [d1] at hX
        rw [d2] at hY
        gi_wp2_with (first
          | (gi_at_call 67; rw [← unhide HW2]; refine hX.mono ?_; clear hX; rintro e w1 ⟨rfl, hw⟩; obtain rfl := hw.symm)
          | (gi_at_call 67; refine hY.mono ?_; clear hY; rintro e w1 ⟨rfl, hw⟩; obtain rfl := hw.symm)
          | (gi_at_call 71; refine hWd.mono ?_; clear hWd; rintro e w1 ⟨rfl, hw⟩; obtain rfl := hw.symm)
          | (gi_at_call 72; refine (callsIn_wide.2 (inside_any _ _)).mono ?_; rintro e w4 ⟨rfl, rfl⟩))
        have s2 := unhide HS2
        have bx := unhide HR2
        have b4 : Below W2.heap.size W2 (W2.alloc (.cells #[.pointer (some ⟨x.nb, 0, none⟩)] 64)) := (Below.refl _ _).alloc (Nat.le_refl _) _
        have bx4 := bx.alloc (.cells #[.pointer (some ⟨x.nb, 0, none⟩)] 64)
        have hb4 : Below w.heap.size w (W2.alloc (.cells #[.pointer (some ⟨x.nb, 0, none⟩)] 64)) := b2.trans (b4.mono b2.size)
        obtain ⟨gz1, gz2, gz3, gz4⟩ := (unhide HM2).all y hy
        refine wpIn_rangeFunc_ownF rfl (by omega) (gf := 96) (lb := #[.pointer (some ⟨W2.heap.size, 0, none⟩)]) rfl trivial (enters_of Tryz.func96 (by kernel_rfl) rfl)
          (inside_stops 5 (by omega) W2.heap.size (w.heap.size + 1) B r x ns _ hx ((unhide HM).below b4) HO HS hN (heap_alloc_new _ _) (boxed_away' bx4 (by simp) (by omega)) (boxed_away bx4 (by omega)) (boxed_away bx4 (by omega)) (boxed_rowIn bx4)) Kc.trans (fun W l o o' hl h h1 h2 => Kc.put W l o o' (by simp at hl; omega) h h1 h2) (Below.refl _ _) (fun _ => rfl)
          (fun pre W => (Boxed W (w.heap.size + 1) 4 (.bool false) ∧ ∀ k ∈ pre, hasX ms y.p (nameOf k.1.p) = false) ∧ Below (w.heap.size + 1) W2 W)
          (fun c pre W => (c = .ret ∧ Boxed W (w.heap.size + 1) 4 (.bool false) ∧ ∃ k : Kid ns x.p, hasX ms y.p (nameOf k.1.p) = true) ∧ Below (w.heap.size + 1) W2 W)
          (OwnFrom.and (Own.from (fun s A W' row hs hg hr => ⟨hs.1.kept hg (fun e => by
            obtain ⟨o, ho, hc⟩ := hr _ e.symm
            rw [show A.heap[w.heap.size + 1]? = _ from hs.1] at ho; cases ho; cases hc), hs.2⟩) _) (ownFrom_below (by omega) (by simp; omega)))
          (fun c => OwnFrom.and (Own.from (fun s A W' row hs hg hr => ⟨hs.1, hs.2.1.kept hg (fun e => by
            obtain ⟨o, ho, hc⟩ := hr _ e.symm
            rw [show A.heap[w.heap.size + 1]? = _ from hs.2.1] at ho; cases ho; cases hc), hs.2.2⟩) _) (ownFrom_below (by omega) (by simp; omega)))
          ⟨⟨bx4, by simp⟩, b4.mono (by omega)⟩
          (fun k => { tmps := #[.pointer (some ⟨x.nb, 0, none⟩), .pointer (some ⟨y.nb, 0, none⟩), undef, .pointer (some ⟨w.heap.size, 0, none⟩), .pointer (some ⟨w.heap.size + 1, 0, none⟩), .string (nm k.1), .pointer (some ⟨x.nb, 0, none⟩), .bool true, .bool false, .bool false, .pointer (some ⟨y.nb, 0, none⟩), .bool true, .bool false, .bool false, .bool false, .pointer (some ⟨x.nb, 0, none⟩), .int .i64 ((kidsX ns x.p).length : Int), .bool (decide (((kidsX ns x.p).length : Int) < 2)), .bool (decide (((kidsX ns x.p).length : Int) < 2)), .pointer (some ⟨x.nb, 0, none⟩), .func (.func 96) #[] #[.pointer (some ⟨W2.heap.size, 0, none⟩)], .string (nm k.1), .pointer (some ⟨k.1.nb, 0, none⟩), undef, undef, undef], defers := [] })
          ?assign ?body ?done ?stop
        case assign =>
          intro l k W K hK
          clear s2
          unfold encK
          gi_wp2
          exact hK
        case body =>
          rintro l pre k W ⟨⟨bw, hpre⟩, hbw⟩ hl
          have cw : W.cell? ⟨w.heap.size, 0, none⟩ = some (.pointer (some ⟨y.nb, 0, none⟩)) := (hbw.cell (p := ⟨w.heap.size, 0, none⟩) (by show w.heap.size < w.heap.size + 1; omega)).trans cy
          have hyb := unhide HYB
          have cm : W.cell? ⟨y.nb, 4, none⟩ = some (.map (some y.mb)) := (hbw.cell (p := ⟨y.nb, 4, none⟩) (by show y.nb < w.heap.size + 1; omega)).trans (cell_of_row _ _ 4 _ _ _ gz3)
          have km : KM W y.mb ms.length (kidsN ms y.p) := by
            obtain ⟨es, clock, hb, F, hs, hD⟩ := gz4
            exact ⟨es, clock, (hbw.block y.mb (by omega)).trans hb, F, hs, hD⟩
          have hnz : (nm k.1).size ≤ 1048576 := by
            have e1 := name_le k.1.p
            have e2 := unhide HS k.1 (kidsX_mem k.2).1
            have e3 : k.1.p.length = k.1.ent.path.size := Array.length_toList
            have e4 : (nm k.1).size = (nameOf k.1.p).length := rfl
            omega
          have hH := has_any y.nb y.mb _ ms y.p (nm k.1) W cm km hnz
          have hH' : Calls Tryz.prog 73 #[.pointer (some ⟨y.nb, 0, none⟩), .string (nm k.1)] W fun ev w' => ev = .returned (.bool (hasX ms y.p (nameOf k.1.p))) ∧ w' = W := hH
          have hf100 : (Fence.wide.inRound l).fn 73 := trivial
          have c1 := bw.cell
          have c2 := bw.frozen
          clear hH cm km
          cases hh : hasX ms y.p (nameOf k.1.p)
          · rw [hh] at hH'
            gi_wp2_with (refine ⟨trivial, ?_⟩; gi_at_call 73; refine (CallsIn.inRound l (callsIn_wide.2 hH')).mono ?_; rintro e w5 ⟨rfl, hw⟩; obtain rfl := hw.symm)
            refine ⟨KeepsOthers.refl _, Kc.refl _ _, ⟨bw, fun z hz => ?_⟩, hbw⟩
            rcases List.mem_append.1 hz with hz | hz
            · exact hpre z hz
            · rw [List.mem_singleton] at hz; subst hz; exact hh
          · rw [hh] at hH'
            gi_wp2_with (refine ⟨trivial, ?_⟩; gi_at_call 73; refine (CallsIn.inRound l (callsIn_wide.2 hH')).mono ?_; rintro e w5 ⟨rfl, hw⟩; obtain rfl := hw.symm)
            exact ⟨KeepsOthers.setCell _ _ _, ⟨rfl, bw.set _, k, hh⟩, hbw.setCell (p := ⟨w.heap.size + 1, 0, none⟩) (Nat.le_refl _) _⟩
        case done =>
          rintro D xs W hD rfl ⟨⟨bw, hpre⟩, hbw⟩ hK
          have c1 := bw.cell
          have c2 := bw.frozen
          simp only [World.size_alloc] at hD
          gi_wp2
          have hK2 : (W.setCell ⟨w.heap.size + 1, 0, none⟩ (.bool true)).heap[D]? = some (.deferred (some [])) := (KeepsOthers.setCell W ⟨w.heap.size + 1, 0, none⟩ (.bool true)).same D _ hK rfl
          have c5 : ((W.setCell ⟨w.heap.size + 1, 0, none⟩ (.bool true)).putObj D (.deferred none)).cell? ⟨w.heap.size + 1, 0, none⟩ = some (.bool true) := by
            rw [cell_put _ (by show w.heap.size + 1 ≠ D; omega)]
            exact World.cell?_setCell_same' _ _ _ (by rw [c1]; rfl)
          refine ⟨by simp, .inl ⟨_, _, rfl, run_takeDeferred hK2, ?_⟩⟩
          have e : clrX ns ms x y = true := by
            rw [unhide HC, List.all_eq_true]
            intro k hk
            have := hpre ⟨k, hk⟩ (by simp)
            simp only [this, Bool.not_false]
          have hW' : Below w.heap.size w (W.setCell ⟨w.heap.size + 1, 0, none⟩ (.bool true)) := (b2.trans (hbw.mono (by omega))).setCell (p := ⟨w.heap.size + 1, 0, none⟩) (by show w.heap.size ≤ w.heap.size + 1; omega) _
          refine ⟨.bool true, ?_, by rw [e], hW'.trans (belowK_b (w := w) (Nat.le_refl _) _ D _ _ (by omega) hK2 rfl rfl)⟩
          simp [results, Tryz.results42, go_sem, c5]
        case stop =>
          rintro D c pre W hD _ ⟨⟨rfl, bw, k, hk⟩, hbw⟩ hK
          have c1 := bw.cell
          simp only [World.size_alloc] at hD
          gi_wp2
          have c5 : (W.putObj D (.deferred none)).cell? ⟨w.heap.size + 1, 0, none⟩ = some (.bool false) := by
            rw [cell_put _ (by show w.heap.size + 1 ≠ D; omega)]; exact c1
          refine ⟨by simp, .inl ⟨_, _, rfl, run_takeDeferred hK, ?_⟩⟩
          have e : clrX ns ms x y = false := by
            rw [unhide HC, List.all_eq_false]
            exact ⟨k.1, k.2, by simp [hk]⟩
          refine ⟨.bool false, ?_, by rw [e], (b2.trans (hbw.mono (by omega))).trans (belowK_b (w := w) (Nat.le_refl _) _ D _ _ (by omega) hK rfl rfl)⟩
          simp [results, Tryz.results42, go_sem, c5]
      · have HC : Hid (clrX ns ms x y = false) := hide (by simp [clrX, k3])
        have d1 : decide (x.ent.kind = 1) = true := decide_eq_true k1
        have d2 : decide (y.ent.kind = 1) = true := decide_eq_true k2
        have k4 : ((kidsX ns x.p).length : Int) < 2 := by omega
        rw [d1] at hX
        rw [d2] at hY
        gi_wp2_with (first
          | (gi_at_call 67; rw [← unhide HW2]; refine hX.mono ?_; clear hX; rintro e w1 ⟨rfl, hw⟩; obtain rfl := hw.symm)
          | (gi_at_call 67; refine hY.mono ?_; clear hY; rintro e w1 ⟨rfl, hw⟩; obtain rfl := hw.symm)
          | (gi_at_call 71; refine hWd.mono ?_; clear hWd; rintro e w1 ⟨rfl, hw⟩; obtain rfl := hw.symm))
        refine ⟨.bool false, ?_, by rw [unhide HC], hb2⟩
        simp [results, Tryz.results42, go_sem, c3]
    · have HC : Hid (clrX ns ms x y = false) := hide (by simp [clrX, k2])
      have d1 : decide (x.ent.kind = 1) = true := decide_eq_true k1
      have d2 : decide (y.ent.kind = 1) = false := decide_eq_false k2
      rw [d1] at hX
      rw [d2] at hY
      gi_wp2_with (first
        | (gi_at_call 67; rw [← unhide HW2]; refine hX.mono ?_; clear hX; rintro e w1 ⟨rfl, hw⟩; obtain rfl := hw.symm)
        | (gi_at_call 67; refine hY.mono ?_; clear hY; rintro e w1 ⟨rfl, hw⟩; obtain rfl := hw.symm))
      refine ⟨.bool false, ?_, by rw [unhide HC], hb2⟩
      simp [results, Tryz.results42, go_sem, c3]
  · have HC : Hid (clrX ns ms x y = false) := hide (by simp [clrX, k1])
    have d1 : decide (x.ent.kind = 1) = false := decide_eq_false k1
    rw [d1] at hX
    gi_wp2_with (first
      | (gi_at_call 67; rw [← unhide HW2]; refine hX.mono ?_; clear hX; rintro e w1 ⟨rfl, hw⟩; obtain rfl := hw.symm))
    refine ⟨.bool false, ?_, by rw [unhide HC], hb2⟩
    simp [results, Tryz.results42, go_sem, c3]
end Go.Proofs.YtjofjcjojgpaeaaGreatDoor

namespace Go.Proofs.YtjofjcjojgpaeaaGreatDoor
open Go.RowKit Go.Maps

/-- A tree in memory, of these entries. -/
structure Tr (w : World) (B : Nat) (r : Nd) (ns : List Nd) (es : List Ent) : Prop where
  mem : Mem w B r ns
  ents : entsN ns = es
  tree : Tree es
theorem Tr.below {w w' : World} {B : Nat} {r : Nd} {ns : List Nd} {es : List Ent} (h : Tr w B r ns es) (hb : Below w.heap.size w w') : Tr w' B r ns es := ⟨h.mem.below hb, h.ents, h.tree⟩
theorem Tr.ok {w : World} {B : Nat} {r : Nd} {ns : List Nd} {es : List Ent} (h : Tr w B r ns es) : OkTo (entsN ns) ns.length := by
  have hl : ns.length = es.length := by rw [← h.ents]; simp [entsN]
  rw [h.ents, hl]; exact h.tree.ok
theorem Tr.len {w : World} {B : Nat} {r : Nd} {ns : List Nd} {es : List Ent} (h : Tr w B r ns es) : ns.length ≤ 40 := by
  have hl : ns.length = es.length := by rw [← h.ents]; simp [entsN]
  rw [hl]; exact h.tree.len
theorem Tr.small {w : World} {B : Nat} {r : Nd} {ns : List Nd} {es : List Ent} (h : Tr w B r ns es) : ∀ y ∈ ns, y.ent.path.size ≤ 1048576 := fun y hy => (h.tree.small y.ent (by rw [← h.ents]; exact List.mem_map.2 ⟨y, hy, rfl⟩)).1
theorem Tr.in {w : World} {B : Nat} {r : Nd} {ns : List Nd} {es : List Ent} (h : Tr w B r ns es) {x : Nd} (hx : x ∈ ns) : x.ent ∈ es := by rw [← h.ents]; exact List.mem_map.2 ⟨x, hx, rfl⟩
theorem Tr.root {w : World} {B : Nat} {r : Nd} {ns : List Nd} {es : List Ent} (h : Tr w B r ns es) : r.p = [] := by rw [Nd.p, h.mem.root]; rfl
theorem Tr.ne {w : World} {B : Nat} {r : Nd} {ns : List Nd} {es : List Ent} (h : Tr w B r ns es) {x : Nd} (hx : x ∈ ns) : x.p ≠ [] := (h.tree.path (h.in hx)).1
theorem Tr.up {w : World} {B : Nat} {r : Nd} {ns : List Nd} {es : List Ent} (h : Tr w B r ns es) {x : Nd} (hx : x ∈ ns) : prt x.p = prt (dirOf x.p) ++ [nameOf x.p] := nd_up h.ok hx
/-- What is found at a path. -/
def Found (r : Nd) (ns : List Nd) (es : List Ent) (p : List UInt8) (v : Value) : Prop :=
  (v = .pointer none ∧ p ≠ [] ∧ atE es p = none) ∨ (v = .pointer (some ⟨r.nb, 0, none⟩) ∧ p = []) ∨ ∃ x : Nd, x ∈ ns ∧ v = .pointer (some ⟨x.nb, 0, none⟩) ∧ x.p = p ∧ p ≠ [] ∧ atE es p = some x.ent
theorem Found.no {r : Nd} {ns : List Nd} {es : List Ent} {p : List UInt8} {v : Value} (hv : v = .pointer none) (hp : p ≠ []) (ha : atE es p = none) : Found r ns es p v := .inl ⟨hv, hp, ha⟩
theorem Found.root {r : Nd} {ns : List Nd} {es : List Ent} {p : List UInt8} {v : Value} (hv : v = .pointer (some ⟨r.nb, 0, none⟩)) (hp : p = []) : Found r ns es p v := .inr (.inl ⟨hv, hp⟩)
theorem Found.yes {r : Nd} {ns : List Nd} {es : List Ent} {p : List UInt8} {v : Value} (x : Nd) (hx : x ∈ ns) (hv : v = .pointer (some ⟨x.nb, 0, none⟩)) (hp : x.p = p) (h0 : p ≠ []) (ha : atE es p = some x.ent) : Found r ns es p v := .inr (.inr ⟨x, hx, hv, hp, h0, ha⟩)
theorem Found.el {r : Nd} {ns : List Nd} {es : List Ent} {p : List UInt8} {v : Value} {motive : Found r ns es p v → Prop} (no : ∀ hv hp ha, motive (.no hv hp ha)) (root : ∀ hv hp, motive (.root hv hp)) (yes : ∀ x hx hv hp h0 ha, motive (.yes x hx hv hp h0 ha)) (t : Found r ns es p v) : motive t := by
  rcases t with ⟨a, b, c⟩ | ⟨a, b⟩ | ⟨x, a, b, c, d, e⟩
  · exact no a b c
  · exact root a b
  · exact yes x a b c d e
theorem Tr.found {w : World} {B : Nat} {r : Nd} {ns : List Nd} {es : List Ent} (h : Tr w B r ns es) {p : List UInt8} {v : Value} (hv : FindIs r ns p v) : Found r ns es p v := by
  rcases hv with ⟨rfl, h1⟩ | ⟨x, hx, rfl, hp⟩
  · refine .no rfl (fun e => h1 r (by simp) (by rw [e]; exact h.root)) (atE_miss fun e he => ?_)
    rw [← h.ents] at he
    obtain ⟨z, hz, rfl⟩ := List.mem_map.1 he
    exact h1 z (by simp [hz])
  · rcases List.mem_cons.1 hx with rfl | hx
    · exact .root rfl (hp.symm.trans h.root)
    · have h0 := h.ne hx
      refine .yes x hx rfl hp (by rw [← hp]; exact h0) ?_
      have := h.tree.at (h.in hx)
      rw [← hp]; exact this
theorem has_kind {w w2 : World} {B B2 : Nat} {r r2 : Nd} {ns ms : List Nd} {xa xb : List Ent} (h : Tr w B r ns xa) (h2 : Tr w2 B2 r2 ms xb) {k : Nd} (hk : k ∈ ns) : hasX ms (dirOf k.p) (nameOf k.p) = !decide (kindP xb k.ent.path.data.toList = 0) := by
  have h0 : k.ent.path.data.toList ≠ [] := h.ne hk
  have hkp : k.ent.path.data.toList = k.p := rfl
  rw [kindP_at h0]
  cases ha : atE xb k.ent.path.data.toList with
  | none =>
    rw [hasX]
    simp only [decide_true, Bool.not_true, List.any_eq_false]
    intro z hz
    obtain ⟨hz1, hz2⟩ := kidsX_mem hz
    simp only [beq_iff_eq]
    intro e
    refine atE_none ha z.ent (h2.in hz1) (?_ : z.p = k.p)
    refine prt_inj ?_
    rw [h2.up hz1, h.up hk, hz2, e]
  | some d =>
    obtain ⟨hd, hp⟩ := atE_some ha
    have hkd := good_kind (h2.tree.path hd).2.2
    have hne : ¬ d.kind = 0 := by omega
    rw [hasX]
    simp only [hne, decide_false, Bool.not_false, List.any_eq_true]
    rw [← h2.ents] at hd
    obtain ⟨z, hz, rfl⟩ := List.mem_map.1 hd
    have hzp : z.p = k.p := hp
    refine ⟨z, ?_, by simp [hzp]⟩
    rw [kidsX, List.mem_filter]
    exact ⟨hz, by simp [hzp]⟩
theorem clrX_eq {w w2 : World} {B B2 : Nat} {r r2 : Nd} {ns ms : List Nd} {xa xb : List Ent} (h : Tr w B r ns xa) (h2 : Tr w2 B2 r2 ms xb) {x y : Nd} {p : List UInt8} (hx : x.p = p) (hy : y.p = p) (kx : kindP xa p = x.ent.kind) (ky : kindP xb p = y.ent.kind) : clrX ns ms x y = clrF xa xb p := by
  have e : kidsE xa p = (kidsX ns p).map (·.ent) := by rw [← h.ents]; exact kidsE_eq ns p
  rw [clrX, clrF, kx, ky, e, List.length_map, List.all_map, hx, hy]
  have e2 : ((kidsX ns p).all fun k => !hasX ms p (nameOf k.p)) = (kidsX ns p).all ((fun c : Ent => decide (kindP xb c.path.data.toList = 0)) ∘ fun x : Nd => x.ent) := by
    rw [Bool.eq_iff_iff, List.all_eq_true, List.all_eq_true]
    refine forall_congr' fun k => forall_congr' fun hk => ?_
    obtain ⟨hk1, hk2⟩ := kidsX_mem hk
    have := has_kind h h2 hk1
    rw [hk2] at this
    rw [this]; simp
  rw [e2]
  have e3 : (2 ≤ (kidsX ns p).length) = (1 < (kidsX ns p).length) := rfl
  simp only [e3]
  cases decide (x.ent.kind = 1) <;> cases decide (y.ent.kind = 1) <;> simp [Bool.and_comm]
theorem kind_root (es : List Ent) : kindP es [] = 1 := by simp [kindP]
set_option maxHeartbeats 1000000 in
theorem clr_old (q : Option Addr) (w : World) : Calls Tryz.prog 42 #[.pointer none, .pointer q] w fun ev w' => ev = .returned (.bool false) ∧ Below w.heap.size w w' := by
  go_enter Tryz.func42, Tryz.ntmps42
  go_wp2_with (go_at_call 67; refine (isDir_nil _).mono ?_; rintro ev w1 ⟨rfl, hw⟩; obtain rfl := hw.symm)
  refine bodyPost_ret (v := .bool false) (by simp [results, Tryz.results42, go_sem]) rfl ⟨rfl, ?_⟩
  exact (((Below.refl _ _).alloc (Nat.le_refl _) _).alloc (by simp) _)
set_option maxHeartbeats 1000000 in
theorem clr_new (x : Nat) (k : Int) (w : World) (hc : w.cell? ⟨x, 1, none⟩ = some (.int .i64 k)) : Calls Tryz.prog 42 #[.pointer (some ⟨x, 0, none⟩), .pointer none] w fun ev w' => ev = .returned (.bool false) ∧ Below w.heap.size w w' := by
  have hb : Below w.heap.size w ((w.alloc (.cells #[.pointer none] 64)).alloc (.cells #[.bool false] 4)) := ((Below.refl _ _).alloc (Nat.le_refl _) _).alloc (by simp) _
  have hX := isDir_at x k _ (cell_later hb hc)
  by_cases h : k = 1
  · rw [decide_eq_true h] at hX
    go_enter Tryz.func42, Tryz.ntmps42
    go_wp2_with (first
      | (go_at_call 67; refine hX.mono ?_; clear hX; rintro ev w1 ⟨rfl, hw⟩; obtain rfl := hw.symm)
      | (go_at_call 67; refine (isDir_nil _).mono ?_; rintro ev w1 ⟨rfl, hw⟩; obtain rfl := hw.symm))
    refine bodyPost_ret (v := .bool false) (by simp [results, Tryz.results42, go_sem]) rfl ⟨rfl, hb⟩
  · rw [decide_eq_false h] at hX
    go_enter Tryz.func42, Tryz.ntmps42
    go_wp2_with (first
      | (go_at_call 67; refine hX.mono ?_; clear hX; rintro ev w1 ⟨rfl, hw⟩; obtain rfl := hw.symm))
    refine bodyPost_ret (v := .bool false) (by simp [results, Tryz.results42, go_sem]) rfl ⟨rfl, hb⟩
/-- Is what is found at a path cleared? -/
theorem clr_at {B B2 : Nat} {r r2 : Nd} {ns ms : List Nd} {xa xb : List Ent} {p : List UInt8} {v u : Value} (w : World) (h : Tr w B r ns xa) (h2 : Tr w B2 r2 ms xb) (hv : Found r ns xa p v) (hu : Found r2 ms xb p u) :
    Calls Tryz.prog 42 #[v, u] w fun ev w' => ev = .returned (.bool (clrF xa xb p)) ∧ Below w.heap.size w w' := by
  cases hv using Found.el with
  | no hv hp ha =>
    have e : clrF xa xb p = false := by simp [clrF, kindP_at hp, ha]
    rw [e, hv]
    cases hu using Found.el with
    | no hu _ _ => rw [hu]; exact clr_old _ w
    | root hu _ => rw [hu]; exact clr_old _ w
    | yes y _ hu _ _ _ => rw [hu]; exact clr_old _ w
  | root hv hp =>
    cases hu using Found.el with
    | no _ hp' _ => exact absurd hp hp'
    | root hu _ =>
      rw [hv, hu, ← clrX_eq h h2 (x := r) (y := r2) (by rw [hp]; exact h.root) (by rw [hp]; exact h2.root) (by rw [hp, kind_root, h.mem.root]; rfl) (by rw [hp, kind_root, h2.mem.root]; rfl)]
      exact cleared_any B B2 r r ns r2 r2 ms w (by simp) h.mem (by simp) h2.mem (hide h.ok) (hide h.small) (by have := h.len; omega)
    | yes _ _ _ _ h0 _ => exact absurd hp h0
  | yes x hx hv hp h0 ha =>
    have kx : kindP xa p = x.ent.kind := by rw [kindP_at h0, ha]
    cases hu using Found.el with
    | no hu _ hb =>
      have e : clrF xa xb p = false := by simp [clrF, kindP_at h0, hb]
      rw [e, hv, hu]
      exact clr_new x.nb x.ent.kind w (cell_of_row _ _ 1 _ _ _ (h.mem.all x (by simp [hx])).2.2.1)
    | root _ hp' => exact absurd hp' h0
    | yes y hy hu hq _ hb =>
      rw [hv, hu, ← clrX_eq h h2 hp hq kx (by rw [kindP_at h0, hb])]
      exact cleared_any B B2 r x ns r2 y ms w (by simp [hx]) h.mem (by simp [hy]) h2.mem (hide h.ok) (hide h.small) (by have := h.len; omega)
theorem find_tr {B : Nat} {r : Nd} {ns : List Nd} {es : List Ent} (s : ByteArray) (m : Int) (w : World) (h : Tr w B r ns es) (hs : s.size ≤ 1048576) (hm : w.cell? ⟨14, 0, none⟩ = some (.int .i64 m)) :
    Calls Tryz.prog 39 #[.pointer (some ⟨r.nb, 0, none⟩), .string s] w fun ev w' => ∃ v, ev = .returned v ∧ Hid (Found r ns es s.data.toList v) ∧ Below w.heap.size w w' :=
  (find_any r ns B s m w h.mem (hide h.ok) hs hm).mono fun _ _ ⟨v, he, hf, hb⟩ => ⟨v, he, hide (h.found (unhide hf)), hb⟩
/-- Whether what is found is a directory. -/
theorem dir_tr {B : Nat} {r : Nd} {ns : List Nd} {es : List Ent} {p : List UInt8} {v : Value} (w : World) (h : Tr w B r ns es) (hv : Found r ns es p v) :
    Calls Tryz.prog 67 #[v] w fun ev w' => ev = .returned (.bool (decide (kindP es p = 1))) ∧ w' = w := by
  cases hv using Found.el with
  | no hv hp ha =>
    rw [hv, kindP_at hp, ha]
    exact isDir_nil w
  | root hv hp =>
    have hk : r.ent.kind = 1 := by rw [h.mem.root]; rfl
    rw [hv, hp, kind_root]
    have := isDir_at r.nb 1 w (by rw [← hk]; exact cell_of_row _ _ 1 _ _ _ (h.mem.all r (by simp)).2.2.1)
    exact this
  | yes x hx hv hp h0 ha =>
    rw [hv, kindP_at h0, ha]
    exact isDir_at x.nb _ w (cell_of_row _ _ 1 _ _ _ (h.mem.all x (by simp [hx])).2.2.1)
set_option maxHeartbeats 1000000 in
theorem told_any {B B2 : Nat} {r r2 : Nd} {ns ms : List Nd} {xa xb : List Ent} (s : ByteArray) (m : Int) (w : World) (h : Tr w B r ns xa) (h2 : Tr w B2 r2 ms xb) (hs : s.size ≤ 1048576) (hm : w.cell? ⟨14, 0, none⟩ = some (.int .i64 m)) :
    Calls Tryz.prog 44 #[.pointer (some ⟨r.nb, 0, none⟩), .pointer (some ⟨r2.nb, 0, none⟩), .string s] w fun ev w' => ev = .returned (.bool (decide (kindP xb (dirOf s.data.toList) = 1) && !clrF xa xb (dirOf s.data.toList))) ∧ Below w.heap.size w w' := by
  have HA := hide h
  have HB := hide h2
  have HM := hide hm
  clear h h2 hm
  go_enter Tryz.func44, Tryz.ntmps44
  go_upto_region 2 with (go_at_call 66; refine (last_any s _ (by omega)).mono ?_; rintro ev w1 ⟨dd, nn, rfl, HD, HNm, hb1⟩)
  have hdd : dd.size ≤ 1048576 := by rw [Lib.size_eq, unhide HD]; exact Nat.le_trans (dir_le _) (by rw [← Lib.size_eq]; exact hs)
  go_upto_region 3 with (go_at_call 39; refine (find_tr dd m _ ((unhide HB).below hb1) hdd (cell_later hb1 (unhide HM))).mono ?_; rintro ev w2 ⟨v, rfl, HF, hb2⟩)
  have hB2 : Below w.heap.size w w2 := hb1.trans (hb2.mono hb1.size)
  have hD := dir_tr w2 ((unhide HB).below hB2) (unhide HF)
  rw [unhide HD] at hD
  clear hb1 hb2
  by_cases k : kindP xb (dirOf s.data.toList) = 1
  · rw [decide_eq_true k] at hD
    have e : (decide (kindP xb (dirOf s.data.toList) = 1) && !clrF xa xb (dirOf s.data.toList)) = !clrF xa xb (dirOf s.data.toList) := by simp [k]
    have HEq := hide e
    clear e k
    go_wp2_with (first
      | (go_at_call 67; refine hD.mono ?_; clear hD; rintro ev w3 ⟨rfl, hw⟩; obtain rfl := hw.symm)
      | (go_at_call 39; refine (find_tr dd m _ ((unhide HA).below hB2) hdd (cell_later hB2 (unhide HM))).mono ?_; rintro ev w3 ⟨u, rfl, HG, hb3⟩)
      | (go_at_call 42; refine (clr_at w3 (((unhide HA).below hB2).below hb3) (((unhide HB).below hB2).below hb3) (unhide HG) (unhide HF)).mono ?_; rintro ev w4 ⟨rfl, hb4⟩))
    go_ret
    refine ⟨by rw [unhide HEq, ← unhide HD]; rfl, hB2.trans ((hb3.trans (hb4.mono hb3.size)).mono hB2.size)⟩
  · rw [decide_eq_false k] at hD
    have e : (decide (kindP xb (dirOf s.data.toList) = 1) && !clrF xa xb (dirOf s.data.toList)) = false := by simp [k]
    have HEq := hide e
    clear e k
    go_wp2_with (go_at_call 67; refine hD.mono ?_; clear hD; rintro ev w3 ⟨rfl, hw⟩; obtain rfl := hw.symm)
    go_ret
    exact ⟨by rw [unhide HEq]; rfl, hB2⟩
end Go.Proofs.YtjofjcjojgpaeaaGreatDoor
