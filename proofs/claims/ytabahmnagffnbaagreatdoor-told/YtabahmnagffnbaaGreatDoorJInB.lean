import Derived.RangeFuncNested
import Derived.RangeFuncBound
import Derived.RangeFuncCalls
import Derived.RangeFuncLeaves
import Derived.Shelf.Abstract
import Derived.Shelf.RegionOpen
import Derived.WalkKit
import Derived.OwnWalkIn
import Derived.TacticsInMore
import Derived.LoopNIn
import Derived.LoopIn
import Derived.Test.YtabahmnagffnbaaGreatDoorJLaw
import Derived.Test.YtabahmnagffnbaaGreatDoorJIter
import Derived.Shelf.Strconv.Itoa0
import Derived.Shelf.Strconv.Itoa1
import Derived.Shelf.LaysM
import Derived.Shelf.Strconv.Itoa2
import Derived.Shelf.Strconv.Itoa3
import Derived.Shelf.Strconv.Itoa4
import Derived.Test.YtabahmnagffnbaaGreatDoorProg
import Derived.Test.YtabahmnagffnbaaGreatDoorJStoB
import Derived.Test.YtabahmnagffnbaaGreatDoorJAs
import Derived.Lib.ConvBytes
import Derived.Shelf.Bits.Mul64
import Derived.Handy
import Derived.Test.YtabahmnagffnbaaGreatDoorJStoE
import Derived.Test.YtabahmnagffnbaaGreatDoorJLwA
import Derived.Laws.BitsAllLaws
import Derived.Test.YtabahmnagffnbaaGreatDoorJTreeP
namespace Go.Proofs.YtabahmnagffnbaaGreatDoor
open Go.RowKit Go.Maps Go.Sort Go.Shelf
attribute [local go_sem] Oper.semAt_some

theorem inside_any (p : Option Addr) (w : World) : Calls Tryz.prog 62 #[.pointer p] w fun ev w' => ev = .returned (.func (.func 88) #[] #[.pointer (some ⟨w.heap.size, 0, none⟩)]) ∧ w' = w.alloc (.cells #[.pointer p] 52) := by
  go_enter Tryz.func62, Tryz.ntmps62
  go_wp2
  go_ret
  exact ⟨rfl, rfl⟩
/-- What the iterator reads. -/
structure It (W : World) (Bb Bx g : Nat) (x : Nd) (ns : List Nd) (cur : Array Value) : Prop where
  box : W.heap[Bx]? = some (.cells #[.pointer (some ⟨x.nb, 0, none⟩)] 52 (0, 0))
  node : W.heap[x.nb]? = some (.cells x.cells 73 (0, 0))
  map : KM W x.mb ns.length (kidsN ns x.p)
  row : W.heap[g]? = some (.cells cur 9 (0, 0))
  a1 : Away Bb W Bx
  a2 : Away Bb W x.nb
  a3 : Away Bb W x.mb
  a4 : Away Bb W g
theorem It.kc {W W' : World} {Bx g Bb : Nat} {x : Nd} {ns : List Nd} {cur : Array Value} (h : It W Bb Bx g x ns cur) (hk : Kc Bb W W') : It W' Bb Bx g x ns cur := by
  refine ⟨hk.at h.a1 h.box (.inl rfl), hk.at h.a2 h.node (.inl rfl), ?_, hk.at h.a4 h.row (.inl rfl), hk.away h.a1, hk.away h.a2, hk.away h.a3, hk.away h.a4⟩
  obtain ⟨es, clock, hb, F, hs, hD⟩ := h.map
  exact ⟨es, clock, hk.at h.a3 hb (.inr rfl), F, hs, hD⟩
def nm (y : Nd) : ByteArray := ⟨(nameOf y.p).toArray⟩
abbrev Kid (ns : List Nd) (p : List UInt8) := { y : Nd // y ∈ kidsX ns p }
def encK {ns : List Nd} {p : List UInt8} (y : Kid ns p) : Array Value := #[.string (nm y.1), .pointer (some ⟨y.1.nb, 0, none⟩)]
theorem row_cells {W : World} {B : Nat} {v : Value} {ss : List (List UInt8)} {n : Nat} (h : W.ownsRow B 9 1 v n (ss.map encStr)) (hn : n = ss.length) : (ss = [] ∧ n = 0 ∧ ∃ ao cap, v = .slice ao 0 cap) ∨ ∃ (g cap : Nat) (cur : Array Value), v = .slice (some ⟨g, 0, none⟩) n cap ∧ B ≤ g ∧ W.heap[g]? = some (.cells cur 9 (0, 0)) ∧ ∀ (k : Nat) (s : List UInt8), ss[k]? = some s → cur[k]? = some (.string ⟨s.toArray⟩) := by
  subst hn
  obtain ⟨hl, ⟨hv, h0⟩ | ⟨g, cap, cur, hv, hB, hg, h1, h2, h3, h4⟩⟩ := h
  · exact .inl ⟨List.length_eq_zero_iff.1 h0, h0, _, _, by rw [hv]⟩
  · refine .inr ⟨g, cap, cur, hv, hB, hg, fun k s hs => ?_⟩
    have hk := (List.getElem?_eq_some_iff.1 hs).1
    have h5 : (ss.map encStr)[k]? = some (encStr s) := by rw [List.getElem?_map, hs]; rfl
    rw [← h4, List.getElem?_take, if_pos (by simpa using hk), Array.getElem?_toList] at h5
    exact h5
theorem row_slice {W : World} {B : Nat} {v : Value} {xs : List Value} {n : Nat} (h : W.ownsRow B 9 1 v n xs) : ∃ N ao cap, Hid (N = n) ∧ v = .slice ao N cap := by
  obtain ⟨hl, ⟨hv, h0⟩ | ⟨g, cap, cur, hv, _⟩⟩ := h
  · exact ⟨_, _, _, hide h0.symm, hv⟩
  · exact ⟨_, _, _, hide rfl, hv⟩
theorem It.cells {W : World} {Bb Bx g : Nat} {x : Nd} {ns : List Nd} {cur : Array Value} (h : It W Bb Bx g x ns cur) : W.cell? ⟨Bx, 0, none⟩ = some (.pointer (some ⟨x.nb, 0, none⟩)) ∧ W.cell? ⟨x.nb, 4, none⟩ = some (.map (some x.mb)) ∧ ∀ k, W.cell? ⟨g, k, none⟩ = cur[k]? :=
  ⟨cell_of_row _ _ 0 _ _ _ h.box, cell_of_row _ _ 4 _ _ _ h.node, fun k => cell_of_row _ _ k _ _ _ h.row⟩
set_option maxRecDepth 100000 in
set_option maxHeartbeats 2000000 in
theorem inside_loop (n : Nat) (hn : 1 ≤ n) (Bx Bb B l : Nat) (r x : Nd) (ns : List Nd) (w : World) (hx : x ∈ r :: ns) (hM : Mem w B r ns) (HO : Hid (OkTo (entsN ns) ns.length)) (HS : Hid (∀ y ∈ ns, y.ent.path.size ≤ 1048576)) (hN : ns.length ≤ 1000)
    (hbx : w.heap[Bx]? = some (.cells #[.pointer (some ⟨x.nb, 0, none⟩)] 52 (0, 0))) (h1 : Away Bb w Bx) (h2 : Away Bb w x.nb) (h3 : Away Bb w x.mb) (h4 : RowIn Bb w) (J Jx : List (Kid ns x.p) → World → Prop) (hJ : ∀ W', Below w.heap.size w W' → J [] W')
    (hY : ∀ pre y W1, J pre W1 → pre ++ [y] <+: (kidsX ns x.p).attach → YieldAt Fence.wide (n - 1) Tryz.prog l (encK y) W1 fun e W' =>
      (e = .returned (.bool true) ∧ J (pre ++ [y]) W' ∧ Kc Bb W1 W') ∨ (e = .returned (.bool false) ∧ Jx (pre ++ [y]) W')) :
    CallsIn Fence.wide n Tryz.prog 88 #[.func (.yield l) #[] #[], .pointer (some ⟨Bx, 0, none⟩)] w fun e W' => (∃ v, e = .returned v) ∧ ((∃ ys, ys = (kidsX ns x.p).attach ∧ J ys W') ∨ (∃ pre, True ∧ Jx pre W')) := by
  obtain ⟨g1, g2, g3, g4⟩ := hM.all x hx
  have c1 : w.cell? ⟨Bx, 0, none⟩ = some (.pointer (some ⟨x.nb, 0, none⟩)) := cell_of_row _ _ 0 _ _ _ hbx
  have c2 : w.cell? ⟨x.nb, 4, none⟩ = some (.map (some x.mb)) := cell_of_row _ _ 4 _ _ _ g3
  have hmax : Maps.size (DK (kidsN ns x.p)) ≤ 1000 := by
    rw [km_size, kidsN_eq, List.length_map]
    exact Nat.le_trans (List.length_filter_le _ _) hN
  have hfK : Fence.wide.fn 89 := trivial
  have hfS : Fence.wide.fn 74 := trivial
  refine callsIn_of_wp Tryz.func88 rfl trivial ?_ rfl
  simp only [Tryz.ntmps88, List.size_toArray, List.length_cons, List.length_nil, Nat.reduceAdd, Nat.reduceSub, Array.replicate_succ, Array.replicate_zero, List.push_toArray, List.append_toArray, List.nil_append, List.cons_append]
  gi_wp2_with (first
    | (gi_at_call 89; refine (callsIn_wide.2 (callsIn_wide.1 (Tryz.maps_Keys_119 _ _))).mono ?_; rintro e w' ⟨rfl, rfl⟩)
    | (gi_at_call 74; refine (callsIn_wide.2 (callsIn_wide.1 (Tryz.slices_Sorted_keys_118_119 x.mb ns.length _ RK w g4 (by unfold maxLen; omega) (by omega)))).mono ?_; rintro e w' ⟨v, ss, rfl, hS, hrow, hnil, hb⟩; obtain ⟨N, ao, cap, HN, rfl⟩ := row_slice hrow))
  have hlen : N = (kidsX ns x.p).length := by rw [unhide HN, hS.length_eq, keys_eq, kidsN_eq]; simp
  rw [kids_sorted (unhide HO) hS, ← unhide HN] at hrow
  have hbw : Below w.heap.size w w' := (((Below.refl _ w).alloc (Nat.le_refl _) _)).trans (hb.mono (by simp))
  have hJ1 : J [] w' := hJ w' hbw
  have hk1 := hbw.block
  clear HN
  have HN := hide hlen
  clear hS hnil hb hlen c1 c2
  have hN2 : N ≤ 1000 := by rw [unhide HN]; exact Nat.le_trans (List.length_filter_le _ _) hN
  rcases row_cells hrow (by rw [List.length_map]; exact unhide HN) with ⟨he, rfl, ao', cap', hv⟩ | ⟨g, cap', cur, hv, hgB, hgc, hcells⟩
  all_goals cases hv
  · have hempty : (kidsX ns x.p).attach = [] := by rw [List.attach_eq_nil_iff]; simpa using he
    gi_wp2
    gi_loopw [12] (fun i wr => i = .int .i64 0 ∧ J [] wr) (fun _ _ => 0)
    case atStart => exact ⟨rfl, hJ1⟩
    case round =>
      obtain ⟨rfl, hJr⟩ := hrel
      gi_wp2
      go_end0
      exact ⟨⟨_, rfl⟩, .inl ⟨[], hempty.symm, hJr⟩⟩
  · have hKb := Kc.below hbw h4.1
    have hIt : It w' Bb Bx g x ns cur := ⟨(hk1 _ (Array.getElem?_eq_some_iff.1 hbx).1).trans hbx, (hk1 _ (Array.getElem?_eq_some_iff.1 g3).1).trans g3, g4.below hbw, hgc, hKb.away h1, hKb.away h2, hKb.away h3, away_new h4 hbw (by simp at hgB; omega) (Array.getElem?_eq_some_iff.1 hgc).1⟩
    have HIt := hide hIt
    clear hrow hgc hIt hk1 g3 g4 hbx hM
    gi_wp2
    gi_loopw [12] (fun i wr => ∃ k : Nat, k ≤ N ∧ i = .int .i64 (k : Int) ∧ Hid (It wr Bb Bx g x ns cur) ∧ J ((kidsX ns x.p).attach.take k) wr) (fun i _ => N - (intOf i).toNat)
    case atStart => exact ⟨0, Nat.zero_le _, rfl, HIt, by simpa using hJ1⟩
    case round =>
      obtain ⟨k, hk, rfl, HI, hJs⟩ := hrel
      have hI := unhide HI
      by_cases hlt : k < N
      · have hkx : k < (kidsX ns x.p).length := by rw [← unhide HN]; exact hlt
        have hka : k < (kidsX ns x.p).attach.length := by rw [List.length_attach]; exact hkx
        obtain ⟨y, hy⟩ : ∃ y, y = (kidsX ns x.p).attach[k] := ⟨_, rfl⟩
        have hyk : (kidsX ns x.p)[k]? = some y.1 := by rw [hy]; simp
        have HT : Hid ((kidsX ns x.p).attach.take (k + 1) = (kidsX ns x.p).attach.take k ++ [y]) := hide (by rw [List.take_add_one, List.getElem?_eq_getElem hka, hy]; rfl)
        have hlen : (kidsX ns x.p).attach.take k ++ [y] <+: (kidsX ns x.p).attach := by rw [← unhide HT]; exact List.take_prefix _ _
        obtain ⟨fn, tmps, assign, body, hyr, hR⟩ := hY _ y wr hJs hlen
        have cc := hcells k (nameOf y.1.p) (by rw [List.getElem?_map, hyk]; rfl)
        have d1 := hI.cells.1
        have d2 := hI.cells.2.1
        have d3 : wr.cell? ⟨g, k, none⟩ = some (.string (nm y.1)) := (hI.cells.2.2 k).trans cc
        have hnz : (nm y.1).size ≤ 1073741824 := by
          have e1 := name_le y.1.p
          have e2 := unhide HS y.1 (kidsX_mem y.2).1
          have e3 : y.1.p.length = y.1.ent.path.size := Array.length_toList
          have e4 : (nm y.1).size = (nameOf y.1.p).length := rfl
          omega
        have hlook := KM.at hI.map (unhide HO) y.2 (nm y.1) hnz rfl
        have i0 : (0 : Int) ≤ (k : Int) := by omega
        have i1 : (k : Int) < (N : Int) := by omega
        have i2 : IntKind.i64.wrap ((k : Int) + 1) = ((k + 1 : Nat) : Int) := by rw [IntKind.wrap_i64] <;> omega
        unfold encK at hyr
        clear hy hcells hY cc hkx hka hlen hI hyk
        gi_wp2
        refine hR.mono ?_
        rintro e W3 (⟨rfl, hJ3, hk3⟩ | ⟨rfl, hJx3⟩)
        · gi_wp2
          go_roundw
          case rel => exact ⟨k + 1, by omega, rfl, hide ((unhide HI).kc hk3), by rw [unhide HT]; exact hJ3⟩
          case measure => simp [intOf]; omega
        · gi_wp2
          refine bodyPost_ret (results_none rfl _ _ _) rfl ?_
          exact ⟨⟨_, rfl⟩, .inr ⟨_, trivial, hJx3⟩⟩
      · have hkN : k = N := by omega
        have i1 : ¬ (k : Int) < (N : Int) := by omega
        have HE : Hid ((kidsX ns x.p).attach.take k = (kidsX ns x.p).attach) := hide (List.take_of_length_le (by rw [List.length_attach, ← unhide HN]; omega))
        have HKN := hide hkN
        clear hkN
        gi_wp2
        go_end0
        exact ⟨⟨_, rfl⟩, .inl (by rw [unhide HE] at hJs; first | exact hJs | exact ⟨_, rfl, hJs⟩)⟩
theorem inside_stops (n : Nat) (hn : 1 ≤ n) (Bx Bb B : Nat) (r x : Nd) (ns : List Nd) (w : World) (hx : x ∈ r :: ns) (hM : Mem w B r ns) (HO : Hid (OkTo (entsN ns) ns.length)) (HS : Hid (∀ y ∈ ns, y.ent.path.size ≤ 1048576)) (hN : ns.length ≤ 1000)
    (hbx : w.heap[Bx]? = some (.cells #[.pointer (some ⟨x.nb, 0, none⟩)] 52 (0, 0))) (h1 : Away Bb w Bx) (h2 : Away Bb w x.nb) (h3 : Away Bb w x.mb) (h4 : RowIn Bb w) :
    SeqStopsK Fence.wide n Tryz.prog 88 #[.pointer (some ⟨Bx, 0, none⟩)] (encK (ns := ns) (p := x.p)) (Kc Bb) (fun ys => ys = (kidsX ns x.p).attach) (fun _ => True) (kidsX ns x.p).length w := by
  intro l J Jx W hW hJ hJx hY h0
  have hK := Kc.below hW h4.1
  exact inside_loop n hn Bx Bb B l r x ns W hx (hM.below hW) HO HS hN ((hW.block _ (Array.getElem?_eq_some_iff.1 hbx).1).trans hbx) (hK.away h1) (hK.away h2) (hK.away h3) (hK.rowIn h4) J Jx
    (fun W' hb => hJ [] W W' none h0 ⟨hb.os, hb.tape, hb.output, hb.size, fun k hk _ => hb.block k hk⟩ (fun r e => by cases e))
    (fun pre y W1 hj hp => hY pre y W1 hj (by have := hp.length_le; rw [List.length_append, List.length_attach] at this; simp at this; omega))
/-- The same for a loop that is never left. -/
theorem inside_all (n : Nat) (hn : 1 ≤ n) (Bx Bb B : Nat) (r x : Nd) (ns : List Nd) (w : World) (hx : x ∈ r :: ns) (hM : Mem w B r ns) (HO : Hid (OkTo (entsN ns) ns.length)) (HS : Hid (∀ y ∈ ns, y.ent.path.size ≤ 1048576)) (hN : ns.length ≤ 1000)
    (hbx : w.heap[Bx]? = some (.cells #[.pointer (some ⟨x.nb, 0, none⟩)] 52 (0, 0))) (h1 : Away Bb w Bx) (h2 : Away Bb w x.nb) (h3 : Away Bb w x.mb) (h4 : RowIn Bb w) :
    SeqAll Bb Fence.wide n Tryz.prog 88 #[.pointer (some ⟨Bx, 0, none⟩)] (encK (ns := ns) (p := x.p)) (kidsX ns x.p).attach w := by
  intro l J W hW hJ hY h0
  have hK := Kc.below hW h4.1
  refine (inside_loop n hn Bx Bb B l r x ns W hx (hM.below hW) HO HS hN ((hW.block _ (Array.getElem?_eq_some_iff.1 hbx).1).trans hbx) (hK.away h1) (hK.away h2) (hK.away h3) (hK.rowIn h4) J (fun _ _ => False)
    (fun W' hb => hJ.go [] W W' h0 (Kept.below hb)) (fun pre y W1 hj hp => ?_)).mono ?_
  · obtain ⟨fn, tmps, assign, body, hy, hR⟩ := hY pre y W1 hj hp
    exact ⟨fn, tmps, assign, body, hy, hR.mono fun e W' h => .inl ⟨h.1, h.2.1, h.2.2.2⟩⟩
  · rintro e W' ⟨hv, ⟨ys, rfl, hj⟩ | ⟨pre, _, hf⟩⟩
    · exact ⟨hv, hj⟩
    · exact hf.elim
end Go.Proofs.YtabahmnagffnbaaGreatDoor

namespace Go.Proofs
open Go.Shelf
def Tryz.laysM171_ren : Go.Shelf.Ren := ⟨fun | 171 => 60 | 243 => 86 | 246 => 105 | 283 => 121 | 284 => 122 | 285 => 123 | 286 => 124 | 129 => 136 | 317 => 142 | 318 => 143 | 319 => 144 | 320 => 145 | 337 => 155 | 338 => 156 | n => n, fun | 3 => 3 | 9 => 9 | 2 => 2 | 4 => 4 | 171 => 178 | 0 => 0 | 53 => 150 | 37 => 115 | 5 => 5 | 173 => 181 | 212 => 197 | 51 => 107 | 20 => 20 | 213 => 198 | 46 => 161 | 232 => 212 | 233 => 213 | n => n, fun | 17 => 3 | 18 => 6 | 19 => 7 | n => n⟩
theorem Tryz.laysM171 : Go.Proofs.LaysM.n171 Tryz.prog Tryz.laysM171_ren := {
  mixed := by kernel_rfl
  f129 := Tryz.func136.trans (congrArg some (by kernel_rfl))
  f171 := Tryz.func60.trans (congrArg some (by kernel_rfl))
  f243 := Tryz.func86.trans (congrArg some (by kernel_rfl))
  f246 := Tryz.func105.trans (congrArg some (by kernel_rfl))
  f283 := Tryz.func121.trans (congrArg some (by kernel_rfl))
  f284 := Tryz.func122.trans (congrArg some (by kernel_rfl))
  f285 := Tryz.func123.trans (congrArg some (by kernel_rfl))
  f286 := Tryz.func124.trans (congrArg some (by kernel_rfl))
  f317 := Tryz.func142.trans (congrArg some (by kernel_rfl))
  f318 := Tryz.func143.trans (congrArg some (by kernel_rfl))
  f319 := Tryz.func144.trans (congrArg some (by kernel_rfl))
  f320 := Tryz.func145.trans (congrArg some (by kernel_rfl))
  f337 := Tryz.func155.trans (congrArg some (by kernel_rfl))
  f338 := Tryz.func156.trans (congrArg some (by kernel_rfl))
  t0 := Tryz.underlying0
  a0 := Tryz.isAgg0
  z0 := Tryz.sizeOf0
  v0 := Tryz.zeroValue0
  t2 := Tryz.underlying2
  a2 := Tryz.isAgg2
  z2 := Tryz.sizeOf2
  v2 := Tryz.zeroValue2
  t3 := Tryz.underlying3
  a3 := Tryz.isAgg3
  z3 := Tryz.sizeOf3
  v3 := Tryz.zeroValue3
  t4 := Tryz.underlying4
  a4 := Tryz.isAgg4
  z4 := Tryz.sizeOf4
  v4 := Tryz.zeroValue4
  t5 := Tryz.underlying5
  a5 := Tryz.isAgg5
  z5 := Tryz.sizeOf5
  v5 := Tryz.zeroValue5
  t9 := Tryz.underlying9
  a9 := Tryz.isAgg9
  z9 := Tryz.sizeOf9
  v9 := Tryz.zeroValue9
  t20 := Tryz.underlying20
  a20 := Tryz.isAgg20
  z20 := Tryz.sizeOf20
  v20 := Tryz.zeroValue20
  t37 := Tryz.underlying115
  a37 := Tryz.isAgg115
  z37 := Tryz.sizeOf115
  v37 := Tryz.zeroValue115
  t46 := Tryz.underlying161
  a46 := Tryz.isAgg161
  z46 := Tryz.sizeOf161
  v46 := Tryz.zeroValue161
  t51 := Tryz.underlying107
  a51 := Tryz.isAgg107
  z51 := Tryz.sizeOf107
  v51 := Tryz.zeroValue107
  t53 := Tryz.underlying150
  a53 := Tryz.isAgg150
  z53 := Tryz.sizeOf150
  v53 := Tryz.zeroValue150
  t171 := Tryz.underlying178
  a171 := Tryz.isAgg178
  z171 := Tryz.sizeOf178
  v171 := Tryz.zeroValue178
  t173 := Tryz.underlying181
  a173 := Tryz.isAgg181
  z173 := Tryz.sizeOf181
  v173 := Tryz.zeroValue181
  t212 := Tryz.underlying197
  a212 := Tryz.isAgg197
  z212 := Tryz.sizeOf197
  v212 := Tryz.zeroValue197
  t213 := Tryz.underlying198
  a213 := Tryz.isAgg198
  z213 := Tryz.sizeOf198
  t232 := Tryz.underlying212
  a232 := Tryz.isAgg212
  z232 := Tryz.sizeOf212
  v232 := Tryz.zeroValue212
  t233 := Tryz.underlying213
  a233 := Tryz.isAgg213
  z233 := Tryz.sizeOf213
  v233 := Tryz.zeroValue213
  g17 := by kernel_rfl
  g18 := by kernel_rfl
  g19 := by kernel_rfl
  i0 := by kernel_rfl
  i2 := by kernel_rfl
  i3 := by kernel_rfl
  i4 := by kernel_rfl
  i5 := by kernel_rfl
  i9 := by kernel_rfl
  i20 := by kernel_rfl
  i37 := by kernel_rfl
  i46 := by kernel_rfl
  i51 := by kernel_rfl
  i53 := by kernel_rfl
  i171 := by kernel_rfl
  i173 := by kernel_rfl
  i212 := by kernel_rfl
  i232 := by kernel_rfl
  i233 := by kernel_rfl
  m17 := by kernel_rfl
  m18 := by kernel_rfl
  m19 := by kernel_rfl }
open Go.RowKit Go.Sort Go.Lib in
theorem Tryz.strconv_Itoa (n : Int) (h0 : -9223372036854775808 ≤ n) (h1 : n ≤ 9223372036854775807) (w : World) (htab : Lib.TabIs Tryz.prog w "internal/strconv.uint64pow10" .u64 Lib.pow10Tab) :
    Calls Tryz.prog 60 #[.int .i64 n] w fun e w' => e = .returned (.string ⟨(Lib.itoa n).toArray⟩) ∧ ∃ k os, w' = grow (w.drewN k) os := Any.strconv_Itoa Tryz.laysM171 n h0 h1 w htab
end Go.Proofs

namespace Go.Proofs.YtabahmnagffnbaaGreatDoor
open Go.RowKit

theorem pow2_8 (w : World) : Calls Tryz.prog 144 #[.int .i64 8] w fun ev w' => ev = .returned (.bool true) ∧ w' = w := by
  have e1 : bits .and .i64 8 7 = 0 := by rfl
  go_enter Tryz.func144, Tryz.ntmps144
  go_wp2
  go_ret
  simp
theorem tz64_8 (w : World) (h : w.cell? ⟨7, 7, none⟩ = some (.int .u8 3)) : Calls Tryz.prog 156 #[.int .u64 8] w fun ev w' => ev = .returned (.int .i64 3) ∧ w' = w := by
  have e1 : IntKind.u64.wrap (-8) = 18446744073709551608 := by rfl
  have e2 : bits .and .u64 8 18446744073709551608 = 8 := by rfl
  have e3 : IntKind.u64.wrap (8 * 285870213051353865) = 2286961704410830920 := by rfl
  go_enter Tryz.func156, Tryz.ntmps156
  go_wp2
  go_ret
  exact ⟨rfl, rfl⟩
theorem tz_8 (w : World) (h : w.cell? ⟨7, 7, none⟩ = some (.int .u8 3)) : Calls Tryz.prog 145 #[.int .u64 8] w fun ev w' => ev = .returned (.int .i64 3) ∧ w' = w := by
  go_enter Tryz.func145, Tryz.ntmps145
  go_wp2_with (go_at_call 156; refine (tz64_8 _ h).mono ?_; rintro ev w1 ⟨rfl, rfl⟩)
  go_ret
  exact ⟨rfl, rfl⟩

end Go.Proofs.YtabahmnagffnbaaGreatDoor
namespace Go.Proofs.YtabahmnagffnbaaGreatDoor
open Go.RowKit

def digs : ByteArray := ⟨#[48, 49, 50, 51, 52, 53, 54, 55, 56, 57, 97, 98, 99, 100, 101, 102, 103, 104, 105, 106, 107, 108, 109, 110, 111, 112, 113, 114, 115, 116, 117, 118, 119, 120, 121, 122]⟩
theorem digs_lt {m : Nat} (h : m < 8) : m < digs.size := Nat.lt_of_lt_of_le h (by decide)
theorem digs_at : ∀ (m : Nat) (h : m < 8), digs[m]'(digs_lt h) = UInt8.ofNat (48 + m)
  | 0, _ => rfl
  | 1, _ => rfl
  | 2, _ => rfl
  | 3, _ => rfl
  | 4, _ => rfl
  | 5, _ => rfl
  | 6, _ => rfl
  | 7, _ => rfl
theorem and7 (m : Nat) (h : m < 262144) : bits .and .u64 (m : Int) 7 = ((m % 8 : Nat) : Int) := by
  have hx : m &&& 7 = m % 8 := Nat.and_two_pow_sub_one_eq_mod m 3
  show IntKind.u64.wrap ((BitVec.ofInt 64 (m : Int) &&& BitVec.ofInt 64 ((7 : Nat) : Int)).toNat : Int) = _
  rw [BitVec.toNat_and, ofInt_i64 m (by omega), ofInt_i64 7 (by omega), hx]
  simp [IntKind.wrap, IntKind.bits, IntKind.signed]
  omega
theorem wp_atW {P : Program} {c : Code} {Q : Exit → Act → World → Prop} {a : Act} {W W' : World} (h : W' = W) (hw : Code.wp P c Q a W') : Code.wp P c Q a W := h ▸ hw
def encU (b : UInt8) : Value := .int .u8 (b.toNat : Int)
/-- The digits behind place k of the buffer. -/
def OctIn (w : World) (B k : Nat) (ds : List UInt8) : Prop := w.heap[B]? = some (.cells (List.replicate k (Value.int .u8 0) ++ ds.map encU).toArray 198 (0, 0)) ∧ k + ds.length = 65
theorem oct_start (w : World) : OctIn (w.alloc (Obj.cells Tryz.zeroCells198 198)) w.heap.size 65 [] := ⟨(heap_alloc_new _ _).trans rfl, rfl⟩
theorem set_mid (z : Nat) (x v : Value) (l : List Value) : (List.replicate (z + 1) x ++ l).set z v = List.replicate z x ++ v :: l := by
  rw [List.replicate_succ', List.append_assoc, List.set_append_right _ _ (by simp)]
  simp
theorem oct_put {w : World} {B z : Nat} {ds : List UInt8} (h : OctIn w B (z + 1) ds) (d : UInt8) : OctIn (w.setCell ⟨B, z, none⟩ (encU d)) B z (d :: ds) := by
  refine ⟨?_, by have := h.2; simp only [List.length_cons]; omega⟩
  rw [heap_setCell_same _ _ _ _ _ _ h.1, List.setIfInBounds_toArray, set_mid]
  rfl
theorem oct_cell {w : World} {B z : Nat} {ds : List UInt8} (h : OctIn w B (z + 1) ds) : w.cell? ⟨B, z, none⟩ = some (.int .u8 0) ∧ w.frozen? ⟨B, z, none⟩ = false := by
  refine ⟨?_, frozen_of_row _ _ _ _ _ h.1⟩
  rw [cell_of_row _ _ _ _ _ _ h.1]
  simp [List.getElem?_append]
theorem oct_back {w : World} {B z : Nat} {ds : List UInt8} (h : OctIn w B z ds) (cap : Nat) : (convert 115 9 (.slice (some ⟨B, z, none⟩) ds.length cap)).run Tryz.prog w = .ok (.string ⟨ds.toArray⟩) w := by
  refine run_convert_bytes_back (P := Tryz.prog) w 115 9 5 ⟨B, z, none⟩ cap ds Tryz.underlying115 Tryz.underlying5 Tryz.underlying9 (fun j hj => ?_)
  rw [Addr.add_lit]
  rw [cell_of_row _ _ _ _ _ _ h.1]
  simp [hj, encU]
set_option maxRecDepth 100000 in
theorem bits_any (n : Nat) (w : World) (hn : n < 262144) (h : w.cell? ⟨7, 7, none⟩ = some (.int .u8 3)) : Calls Tryz.prog 124 #[.slice none 0 0, .int .u64 (n : Int), .int .i64 8, .bool false, .bool false] w fun ev w' => ∃ s : ByteArray, ev = .returned (.tuple #[.slice none 0 0, .string s]) ∧ Hid (s.data.toList = octL n) ∧ Below w.heap.size w w' := by
  have hb0 : Below w.heap.size w (w.alloc (Obj.cells Tryz.zeroCells198 198)) := (Below.refl _ _).alloc (Nat.le_refl _) _
  have h7 : (w.alloc (Obj.cells Tryz.zeroCells198 198)).cell? ⟨7, 7, none⟩ = some (.int .u8 3) := cell_later hb0 h
  have ho0 := hide (oct_start w)
  go_enter Tryz.func124, Tryz.ntmps124
  go_wp2_with (first | (go_at_call 144; refine (pow2_8 _).mono ?_; rintro ev w1 ⟨rfl, rfl⟩) | (go_at_call 145; refine (tz_8 _ h7).mono ?_; rintro ev w1 ⟨rfl, rfl⟩))
  go_loopw [1, 13] (fun u i wr => ∃ (m k : Nat) (ds : List UInt8), u = .int .u64 (m : Int) ∧ i = .int .i64 (k : Int) ∧ Hid (OctIn wr w.heap.size k ds) ∧ Below w.heap.size w wr ∧ Hid (octL n = octL m ++ ds) ∧ (k = 65 ∧ m < 262144 ∨ k = 64 ∧ m < 32768 ∨ k = 63 ∧ m < 4096 ∨ k = 62 ∧ m < 512 ∨ k = 61 ∧ m < 64 ∨ k = 60 ∧ m < 8)) (fun u _ _ => (intOf u).toNat)
  case atStart => exact ⟨n, 65, [], rfl, rfl, ho0, hb0, hide (by simp), .inl ⟨rfl, hn⟩⟩
  case round =>
    obtain ⟨m, k, ds, rfl, rfl, HO, hb, HL, hc⟩ := hrel
    obtain ⟨z, HZ⟩ : ∃ z, Hid (k = z + 1) := ⟨k - 1, hide (by omega)⟩
    have w1 : IntKind.i64.wrap ((k : Int) - 1) = (z : Int) := by have := unhide HZ; rw [IntKind.wrap_i64] <;> omega
    have z0 : (0 : Int) ≤ (z : Int) := by omega
    have z1 : (z : Int) < 65 := by have := unhide HZ; omega
    have z2 : z ≤ 65 := by omega
    have HO2 : Hid (OctIn wr w.heap.size (z + 1) ds) := hide (by rw [← unhide HZ]; exact unhide HO)
    have c1 := (oct_cell (unhide HO2)).1
    have c2 := (oct_cell (unhide HO2)).2
    have HC := hide hc
    clear hc HO
    by_cases hm : m < 8
    · have hm2 : (m : Int) < 8 := by omega
      have m0 : (0 : Int) ≤ (m : Int) := by omega
      have m1 : (m : Int) < 36 := by omega
      have z3 : (z : Int) ≤ 65 := by omega
      have z4 : ¬ 65 = z := by omega
      have z5 : ¬ z = 65 := by omega
      go_upto_region 30 with fail
      obtain ⟨W', hW⟩ : ∃ W', W' = wr.setCell ⟨w.heap.size, z, none⟩ (.int .u8 ((digs[m]'(digs_lt hm)).toNat : Int)) := ⟨_, rfl⟩
      have HW : Hid (OctIn W' w.heap.size z (UInt8.ofNat (48 + m) :: ds)) := hide (by rw [hW, digs_at m hm]; exact oct_put (unhide HO2) _)
      have hbW : Below w.heap.size w W' := by rw [hW]; exact hb.setCell (p := ⟨w.heap.size, z, none⟩) (Nat.le_refl _) _
      refine wp_atW hW ?_
      clear hW
      have hcv := oct_back (unhide HW) (65 - z)
      have hlen : (UInt8.ofNat (48 + m) :: ds).length = 65 - z := by have := (unhide HW).2; omega
      rw [hlen] at hcv
      have HF : Hid ((UInt8.ofNat (48 + m) :: ds).toArray.toList = octL n) := hide (by rw [unhide HL, octL, if_pos hm]; simp)
      generalize (UInt8.ofNat (48 + m) :: ds).toArray = fin at hcv HF
      clear hlen
      go_wp2
      go_ret2
      exact ⟨_, rfl, HF, hbW⟩
    · have hm2 : (8 : Int) ≤ (m : Int) := by omega
      obtain ⟨r, er⟩ : ∃ r, r = m % 8 := ⟨_, rfl⟩
      obtain ⟨q, eq⟩ : ∃ q, q = m / 8 := ⟨_, rfl⟩
      have r8 : r < 8 := by omega
      have m0 : (0 : Int) ≤ (r : Int) := by omega
      have m1 : (r : Int) < 36 := by omega
      have m512 : m < 262144 := by have := unhide HC; omega
      have a7 : bits .and .u64 (m : Int) 7 = (r : Int) := by rw [and7 m m512, ← er]
      have d8 : (m : Int) / 8 = (q : Int) := by omega
      have HR : Hid (octL m = octL q ++ [UInt8.ofNat (48 + r)]) := hide (by rw [octL, if_neg hm, ← er, ← eq])
      have HQ : Hid (q < m ∧ (z = 64 ∧ q < 32768 ∨ z = 63 ∧ q < 4096 ∨ z = 62 ∧ q < 512 ∨ z = 61 ∧ q < 64 ∨ z = 60 ∧ q < 8)) := hide (by have := unhide HC; have := unhide HZ; omega)
      clear er eq
      go_wp2
      go_roundw
      case rel => exact ⟨q, z, _, rfl, rfl, hide (oct_put (unhide HO2) _), hb.setCell (p := ⟨w.heap.size, z, none⟩) (Nat.le_refl _) _, hide (by rw [unhide HL, unhide HR, ← digs_at r r8]; simp; rfl), by have := unhide HQ; omega⟩
      case measure => have := (unhide HQ).1; simp [intOf]; omega
end Go.Proofs.YtabahmnagffnbaaGreatDoor
