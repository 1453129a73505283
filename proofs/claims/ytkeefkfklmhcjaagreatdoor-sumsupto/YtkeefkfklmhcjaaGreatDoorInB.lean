import Derived.RangeFuncNested
import Derived.RangeFuncBound
import Derived.RangeFuncCalls
import Derived.RangeFuncLeaves
import Derived.Shelf.Abstract
import Derived.Shelf.RegionOpen
import Derived.WalkKit
import Derived.OwnWalkIn
import Derived.TacticsInMore
import Derived.LoopNIn
import Derived.LoopIn
import Derived.Test.YtkeefkfklmhcjaaGreatDoorLaw
import Derived.Test.YtkeefkfklmhcjaaGreatDoorInA
import Derived.Test.YtkeefkfklmhcjaaGreatDoorIter
namespace Go.Proofs.YtkeefkfklmhcjaaGreatDoor
open Go.RowKit Go.Maps Go.Sort Go.Shelf
attribute [local go_sem] Oper.semAt_some

theorem inside_any (p : Option Addr) (w : World) : Calls Tryz.prog 113 #[.pointer p] w fun ev w' => ev = .returned (.func (.func 145) #[] #[.pointer (some ⟨w.heap.size, 0, none⟩)]) ∧ w' = w.alloc (.cells #[.pointer p] 79) := by
  go_enter Tryz.func113, Tryz.ntmps113
  go_wp2
  go_ret
  exact ⟨rfl, rfl⟩
/-- What the iterator reads. -/
structure It (W : World) (Bb Bx g : Nat) (x : Nd) (ns : List Nd) (cur : Array Value) : Prop where
  box : W.heap[Bx]? = some (.cells #[.pointer (some ⟨x.nb, 0, none⟩)] 79 (0, 0))
  node : W.heap[x.nb]? = some (.cells x.cells 102 (0, 0))
  map : KM W x.mb ns.length (kidsN ns x.p)
  row : W.heap[g]? = some (.cells cur 9 (0, 0))
  a1 : Away Bb W Bx
  a2 : Away Bb W x.nb
  a3 : Away Bb W x.mb
  a4 : Away Bb W g
theorem It.kc {W W' : World} {Bx g Bb : Nat} {x : Nd} {ns : List Nd} {cur : Array Value} (h : It W Bb Bx g x ns cur) (hk : Kc Bb W W') : It W' Bb Bx g x ns cur := by
  refine ⟨hk.at h.a1 h.box (.inl rfl), hk.at h.a2 h.node (.inl rfl), ?_, hk.at h.a4 h.row (.inl rfl), hk.away h.a1, hk.away h.a2, hk.away h.a3, hk.away h.a4⟩
  obtain ⟨es, clock, hb, F, hs, hD⟩ := h.map
  exact ⟨es, clock, hk.at h.a3 hb (.inr rfl), F, hs, hD⟩
def nm (y : Nd) : ByteArray := ⟨(nameOf y.p).toArray⟩
abbrev Kid (ns : List Nd) (p : List UInt8) := { y : Nd // y ∈ kidsX ns p }
def encK {ns : List Nd} {p : List UInt8} (y : Kid ns p) : Array Value := #[.string (nm y.1), .pointer (some ⟨y.1.nb, 0, none⟩)]
theorem row_cells {W : World} {B : Nat} {v : Value} {ss : List (List UInt8)} {n : Nat} (h : W.ownsRow B 9 1 v n (ss.map encStr)) (hn : n = ss.length) : (ss = [] ∧ n = 0 ∧ ∃ ao cap, v = .slice ao 0 cap) ∨ ∃ (g cap : Nat) (cur : Array Value), v = .slice (some ⟨g, 0, none⟩) n cap ∧ B ≤ g ∧ W.heap[g]? = some (.cells cur 9 (0, 0)) ∧ ∀ (k : Nat) (s : List UInt8), ss[k]? = some s → cur[k]? = some (.string ⟨s.toArray⟩) := by
  subst hn
  obtain ⟨hl, ⟨hv, h0⟩ | ⟨g, cap, cur, hv, hB, hg, h1, h2, h3, h4⟩⟩ := h
  · exact .inl ⟨List.length_eq_zero_iff.1 h0, h0, _, _, by rw [hv]⟩
  · refine .inr ⟨g, cap, cur, hv, hB, hg, fun k s hs => ?_⟩
    have hk := (List.getElem?_eq_some_iff.1 hs).1
    have h5 : (ss.map encStr)[k]? = some (encStr s) := by rw [List.getElem?_map, hs]; rfl
    rw [← h4, List.getElem?_take, if_pos (by simpa using hk), Array.getElem?_toList] at h5
    exact h5
theorem row_slice {W : World} {B : Nat} {v : Value} {xs : List Value} {n : Nat} (h : W.ownsRow B 9 1 v n xs) : ∃ N ao cap, Hid (N = n) ∧ v = .slice ao N cap := by
  obtain ⟨hl, ⟨hv, h0⟩ | ⟨g, cap, cur, hv, _⟩⟩ := h
  · exact ⟨_, _, _, hide h0.symm, hv⟩
  · exact ⟨_, _, _, hide rfl, hv⟩
theorem It.cells {W : World} {Bb Bx g : Nat} {x : Nd} {ns : List Nd} {cur : Array Value} (h : It W Bb Bx g x ns cur) : W.cell? ⟨Bx, 0, none⟩ = some (.pointer (some ⟨x.nb, 0, none⟩)) ∧ W.cell? ⟨x.nb, 4, none⟩ = some (.map (some x.mb)) ∧ ∀ k, W.cell? ⟨g, k, none⟩ = cur[k]? :=
  ⟨cell_of_row _ _ 0 _ _ _ h.box, cell_of_row _ _ 4 _ _ _ h.node, fun k => cell_of_row _ _ k _ _ _ h.row⟩
set_option maxRecDepth 100000 in
set_option maxHeartbeats 2000000 in
theorem inside_loop (n : Nat) (hn : 1 ≤ n) (Bx Bb B l : Nat) (r x : Nd) (ns : List Nd) (w : World) (hx : x ∈ r :: ns) (hM : Mem w B r ns) (HO : Hid (OkTo (entsN ns) ns.length)) (HS : Hid (∀ y ∈ ns, y.ent.path.size ≤ 1048576)) (hN : ns.length ≤ 1000)
    (hbx : w.heap[Bx]? = some (.cells #[.pointer (some ⟨x.nb, 0, none⟩)] 79 (0, 0))) (h1 : Away Bb w Bx) (h2 : Away Bb w x.nb) (h3 : Away Bb w x.mb) (h4 : RowIn Bb w) (J Jx : List (Kid ns x.p) → World → Prop) (hJ : ∀ W', Below w.heap.size w W' → J [] W')
    (hY : ∀ pre y W1, J pre W1 → pre ++ [y] <+: (kidsX ns x.p).attach → YieldAt Fence.wide (n - 1) Tryz.prog l (encK y) W1 fun e W' =>
      (e = .returned (.bool true) ∧ J (pre ++ [y]) W' ∧ Kc Bb W1 W') ∨ (e = .returned (.bool false) ∧ Jx (pre ++ [y]) W')) :
    CallsIn Fence.wide n Tryz.prog 145 #[.func (.yield l) #[] #[], .pointer (some ⟨Bx, 0, none⟩)] w fun e W' => (∃ v, e = .returned v) ∧ ((∃ ys, ys = (kidsX ns x.p).attach ∧ J ys W') ∨ (∃ pre, True ∧ Jx pre W')) := by
  obtain ⟨g1, g2, g3, g4⟩ := hM.all x hx
  have c1 : w.cell? ⟨Bx, 0, none⟩ = some (.pointer (some ⟨x.nb, 0, none⟩)) := cell_of_row _ _ 0 _ _ _ hbx
  have c2 : w.cell? ⟨x.nb, 4, none⟩ = some (.map (some x.mb)) := cell_of_row _ _ 4 _ _ _ g3
  have hmax : Maps.size (DK (kidsN ns x.p)) ≤ 1000 := by
    rw [km_size, kidsN_eq, List.length_map]
    exact Nat.le_trans (List.length_filter_le _ _) hN
  have hfK : Fence.wide.fn 147 := trivial
  have hfS : Fence.wide.fn 146 := trivial
  refine callsIn_of_wp Tryz.func145 rfl trivial ?_ rfl
  simp only [Tryz.ntmps145, List.size_toArray, List.length_cons, List.length_nil, Nat.reduceAdd, Nat.reduceSub, Array.replicate_succ, Array.replicate_zero, List.push_toArray, List.append_toArray, List.nil_append, List.cons_append]
  gi_wp2_with (first
    | (gi_at_call 147; refine (callsIn_wide.2 (callsIn_wide.1 (Tryz.maps_Keys_119 _ _))).mono ?_; rintro e w' ⟨rfl, rfl⟩)
    | (gi_at_call 146; refine (callsIn_wide.2 (callsIn_wide.1 (Tryz.slices_Sorted_keys_118_119 x.mb ns.length _ RK w g4 (by unfold maxLen; omega) (by omega)))).mono ?_; rintro e w' ⟨v, ss, rfl, hS, hrow, hnil, hb⟩; obtain ⟨N, ao, cap, HN, rfl⟩ := row_slice hrow))
  have hlen : N = (kidsX ns x.p).length := by rw [unhide HN, hS.length_eq, keys_eq, kidsN_eq]; simp
  rw [kids_sorted (unhide HO) hS, ← unhide HN] at hrow
  have hbw : Below w.heap.size w w' := (((Below.refl _ w).alloc (Nat.le_refl _) _)).trans (hb.mono (by simp))
  have hJ1 : J [] w' := hJ w' hbw
  have hk1 := hbw.block
  clear HN
  have HN := hide hlen
  clear hS hnil hb hlen c1 c2
  have hN2 : N ≤ 1000 := by rw [unhide HN]; exact Nat.le_trans (List.length_filter_le _ _) hN
  rcases row_cells hrow (by rw [List.length_map]; exact unhide HN) with ⟨he, rfl, ao', cap', hv⟩ | ⟨g, cap', cur, hv, hgB, hgc, hcells⟩
  all_goals cases hv
  · have hempty : (kidsX ns x.p).attach = [] := by rw [List.attach_eq_nil_iff]; simpa using he
    gi_wp2
    gi_loopw [12] (fun i wr => i = .int .i64 0 ∧ J [] wr) (fun _ _ => 0)
    case atStart => exact ⟨rfl, hJ1⟩
    case round =>
      obtain ⟨rfl, hJr⟩ := hrel
      gi_wp2
      go_end0
      exact ⟨⟨_, rfl⟩, .inl ⟨[], hempty.symm, hJr⟩⟩
  · have hKb := Kc.below hbw h4.1
    have hIt : It w' Bb Bx g x ns cur := ⟨(hk1 _ (Array.getElem?_eq_some_iff.1 hbx).1).trans hbx, (hk1 _ (Array.getElem?_eq_some_iff.1 g3).1).trans g3, g4.below hbw, hgc, hKb.away h1, hKb.away h2, hKb.away h3, away_new h4 hbw (by simp at hgB; omega) (Array.getElem?_eq_some_iff.1 hgc).1⟩
    have HIt := hide hIt
    clear hrow hgc hIt hk1 g3 g4 hbx hM
    gi_wp2
    gi_loopw [12] (fun i wr => ∃ k : Nat, k ≤ N ∧ i = .int .i64 (k : Int) ∧ Hid (It wr Bb Bx g x ns cur) ∧ J ((kidsX ns x.p).attach.take k) wr) (fun i _ => N - (intOf i).toNat)
    case atStart => exact ⟨0, Nat.zero_le _, rfl, HIt, by simpa using hJ1⟩
    case round =>
      obtain ⟨k, hk, rfl, HI, hJs⟩ := hrel
      have hI := unhide HI
      by_cases hlt : k < N
      · have hkx : k < (kidsX ns x.p).length := by rw [← unhide HN]; exact hlt
        have hka : k < (kidsX ns x.p).attach.length := by rw [List.length_attach]; exact hkx
        obtain ⟨y, hy⟩ : ∃ y, y = (kidsX ns x.p).attach[k] := ⟨_, rfl⟩
        have hyk : (kidsX ns x.p)[k]? = some y.1 := by rw [hy]; simp
        have HT : Hid ((kidsX ns x.p).attach.take (k + 1) = (kidsX ns x.p).attach.take k ++ [y]) := hide (by rw [List.take_add_one, List.getElem?_eq_getElem hka, hy]; rfl)
        have hlen : (kidsX ns x.p).attach.take k ++ [y] <+: (kidsX ns x.p).attach := by rw [← unhide HT]; exact List.take_prefix _ _
        obtain ⟨fn, tmps, assign, body, hyr, hR⟩ := hY _ y wr hJs hlen
        have cc := hcells k (nameOf y.1.p) (by rw [List.getElem?_map, hyk]; rfl)
        have d1 := hI.cells.1
        have d2 := hI.cells.2.1
        have d3 : wr.cell? ⟨g, k, none⟩ = some (.string (nm y.1)) := (hI.cells.2.2 k).trans cc
        have hnz : (nm y.1).size ≤ 1073741824 := by
          have e1 := name_le y.1.p
          have e2 := unhide HS y.1 (kidsX_mem y.2).1
          have e3 : y.1.p.length = y.1.ent.path.size := Array.length_toList
          have e4 : (nm y.1).size = (nameOf y.1.p).length := rfl
          omega
        have hlook := KM.at hI.map (unhide HO) y.2 (nm y.1) hnz rfl
        have i0 : (0 : Int) ≤ (k : Int) := by omega
        have i1 : (k : Int) < (N : Int) := by omega
        have i2 : IntKind.i64.wrap ((k : Int) + 1) = ((k + 1 : Nat) : Int) := by rw [IntKind.wrap_i64] <;> omega
        unfold encK at hyr
        clear hy hcells hY cc hkx hka hlen hI hyk
        gi_wp2
        refine hR.mono ?_
        rintro e W3 (⟨rfl, hJ3, hk3⟩ | ⟨rfl, hJx3⟩)
        · gi_wp2
          go_roundw
          case rel => exact ⟨k + 1, by omega, rfl, hide ((unhide HI).kc hk3), by rw [unhide HT]; exact hJ3⟩
          case measure => simp [intOf]; omega
        · gi_wp2
          refine bodyPost_ret (results_none rfl _ _ _) rfl ?_
          exact ⟨⟨_, rfl⟩, .inr ⟨_, trivial, hJx3⟩⟩
      · have hkN : k = N := by omega
        have i1 : ¬ (k : Int) < (N : Int) := by omega
        have HE : Hid ((kidsX ns x.p).attach.take k = (kidsX ns x.p).attach) := hide (List.take_of_length_le (by rw [List.length_attach, ← unhide HN]; omega))
        have HKN := hide hkN
        clear hkN
        gi_wp2
        go_end0
        exact ⟨⟨_, rfl⟩, .inl (by rw [unhide HE] at hJs; first | exact hJs | exact ⟨_, rfl, hJs⟩)⟩
theorem inside_stops (n : Nat) (hn : 1 ≤ n) (Bx Bb B : Nat) (r x : Nd) (ns : List Nd) (w : World) (hx : x ∈ r :: ns) (hM : Mem w B r ns) (HO : Hid (OkTo (entsN ns) ns.length)) (HS : Hid (∀ y ∈ ns, y.ent.path.size ≤ 1048576)) (hN : ns.length ≤ 1000)
    (hbx : w.heap[Bx]? = some (.cells #[.pointer (some ⟨x.nb, 0, none⟩)] 79 (0, 0))) (h1 : Away Bb w Bx) (h2 : Away Bb w x.nb) (h3 : Away Bb w x.mb) (h4 : RowIn Bb w) :
    SeqStopsK Fence.wide n Tryz.prog 145 #[.pointer (some ⟨Bx, 0, none⟩)] (encK (ns := ns) (p := x.p)) (Kc Bb) (fun ys => ys = (kidsX ns x.p).attach) (fun _ => True) (kidsX ns x.p).length w := by
  intro l J Jx W hW hJ hJx hY h0
  have hK := Kc.below hW h4.1
  exact inside_loop n hn Bx Bb B l r x ns W hx (hM.below hW) HO HS hN ((hW.block _ (Array.getElem?_eq_some_iff.1 hbx).1).trans hbx) (hK.away h1) (hK.away h2) (hK.away h3) (hK.rowIn h4) J Jx
    (fun W' hb => hJ [] W W' none h0 ⟨hb.os, hb.tape, hb.output, hb.size, fun k hk _ => hb.block k hk⟩ (fun r e => by cases e))
    (fun pre y W1 hj hp => hY pre y W1 hj (by have := hp.length_le; rw [List.length_append, List.length_attach] at this; simp at this; omega))
/-- The same for a loop that is never left. -/
theorem inside_all (n : Nat) (hn : 1 ≤ n) (Bx Bb B : Nat) (r x : Nd) (ns : List Nd) (w : World) (hx : x ∈ r :: ns) (hM : Mem w B r ns) (HO : Hid (OkTo (entsN ns) ns.length)) (HS : Hid (∀ y ∈ ns, y.ent.path.size ≤ 1048576)) (hN : ns.length ≤ 1000)
    (hbx : w.heap[Bx]? = some (.cells #[.pointer (some ⟨x.nb, 0, none⟩)] 79 (0, 0))) (h1 : Away Bb w Bx) (h2 : Away Bb w x.nb) (h3 : Away Bb w x.mb) (h4 : RowIn Bb w) :
    SeqAll Bb Fence.wide n Tryz.prog 145 #[.pointer (some ⟨Bx, 0, none⟩)] (encK (ns := ns) (p := x.p)) (kidsX ns x.p).attach w := by
  intro l J W hW hJ hY h0
  have hK := Kc.below hW h4.1
  refine (inside_loop n hn Bx Bb B l r x ns W hx (hM.below hW) HO HS hN ((hW.block _ (Array.getElem?_eq_some_iff.1 hbx).1).trans hbx) (hK.away h1) (hK.away h2) (hK.away h3) (hK.rowIn h4) J (fun _ _ => False)
    (fun W' hb => hJ.go [] W W' h0 (Kept.below hb)) (fun pre y W1 hj hp => ?_)).mono ?_
  · obtain ⟨fn, tmps, assign, body, hy, hR⟩ := hY pre y W1 hj hp
    exact ⟨fn, tmps, assign, body, hy, hR.mono fun e W' h => .inl ⟨h.1, h.2.1, h.2.2.2⟩⟩
  · rintro e W' ⟨hv, ⟨ys, rfl, hj⟩ | ⟨pre, _, hf⟩⟩
    · exact ⟨hv, hj⟩
    · exact hf.elim
end Go.Proofs.YtkeefkfklmhcjaaGreatDoor
