import Derived.Test.YtpiponkhhimaoaaGreatDoorCards
import Derived.Test.YtpiponkhhimaoaaGreatDoorTie
import Derived.Test.YtpiponkhhimaoaaGreatDoorOpnS
import Derived.ProofKit
import Derived.OpenShut
import Derived.Deep.DeepHandedRow
import Derived.LaidLaws
import Derived.LaidHandle
import Derived.Lib.LaidTab
import Derived.Stop.LaidErr
import Derived.ShutString
import Derived.Shelf.Vars
import Derived.Carry
namespace Go.Proofs.YtpiponkhhimaoaaGreatDoor
open Go.ChangeShapes Go.WideShapes Go.ChangeAt Go.RowKit
open Go.WideMaps Go.WideElems
open Go.ChangeMaps (setBlock shut_map_nil open_string shut_string keptBut_setBlock frozen?_setBlock heap_setBlock_same)

theorem own : ownKnob Tryz.prog.godebug = none := by kernel_rfl
theorem Tryz.et : Tryz.prog.globalNamed "errors.errorType" = some 0 := by kernel_rfl
theorem Tryz.oneRow : ((List.range 337).filter fun t => Tryz.prog.rowNamed t [101, 114, 114, 111, 114]) = [70] := by kernel_rfl
theorem Tryz.size : Tryz.prog.types.size = 337 := by kernel_rfl
theorem Tryz.handle70 : typeHandle Tryz.prog 70 = .pointer (some ⟨3, 70, none⟩) := by kernel_rfl
theorem Tryz.laidOut : laidOutB Tryz.prog = true := by kernel_rfl

theorem map_getD (l : List Nat) (i : Nat) : (l.map fun n : Nat => (n : Int)).getD i 0 = ((l.getD i 0 : Nat) : Int) := by
  rw [List.getD_eq_getElem?_getD, List.getD_eq_getElem?_getD, List.getElem?_map]
  cases l[i]? <;> rfl
/-- What the row's list gives. -/
theorem laid_of {W : World} (h : laidMetH Tryz.prog Rows.storesUptoRow.laid W) : Vars W := by
  have h' : laidMet Tryz.prog [(_, Rows.laid_layers_digest_roundWords)] W ∧ handlesMet Tryz.prog [("errors.errorType", Rows.laid_errors_errorType)] W := h
  have t4 := h'.1
  have e4 : (Rows.laid_layers_digest_roundWords : DataW Unit) = Lib.tabData .u32 (Ks.map fun n : Nat => (n : Int)) := by kernel_rfl
  rw [e4] at t4
  have g4 := Lib.tabIs_of_head (g := 1) (t := 277) (e := 239) (n := 64) (by kernel_rfl) (by kernel_rfl) (by kernel_rfl) (by kernel_rfl) (by kernel_rfl) (by kernel_rfl) t4
  refine ⟨fun i hi => ?_, ?_⟩
  · have := g4.cell (g := 1) (by kernel_rfl) i (by rw [List.length_map]; exact Nat.lt_of_lt_of_le hi (by decide +kernel))
    rw [this, map_getD]
  · obtain ⟨name, u, ty, e1, e2, e3, e4, e5⟩ := h'.2 _ (List.mem_singleton.2 rfl)
    have en : name = [101, 114, 114, 111, 114] := (Option.some.inj e1).symm
    subst en
    have hu : u = 226 := Option.some.inj (e2.symm.trans (by kernel_rfl))
    subst hu
    have hm : ty ∈ (List.range 337).filter fun t => Tryz.prog.rowNamed t [101, 114, 114, 111, 114] := List.mem_filter.2 ⟨List.mem_range.2 (by rw [← Tryz.size]; exact e3), e4⟩
    rw [Tryz.oneRow] at hm
    obtain rfl := List.mem_singleton.1 hm
    rw [Tryz.handle70] at e5
    simpa using World.var?_cell Tryz.et e5 0
theorem bulk_mem {H : Type} {d : DataW H} : ∀ {l : List (DataW H)}, d ∈ l → Rows.uptoBulk d ≤ Rows.uptoBulkAll l
  | x :: r, h => by
    rw [Rows.uptoBulkAll]
    rcases List.mem_cons.1 h with rfl | h
    · omega
    · have := bulk_mem h; omega
theorem bulk_blob {H : Type} (b : Blb) : Rows.uptoBulk (litB (H := H) b) = b.name.size + b.data.size + 3 := by
  have h1 : b.name.data.toList.length = b.name.size := Array.length_toList
  have h2 : b.data.data.toList.length = b.data.size := Array.length_toList
  simp only [litB, Rows.uptoBulk, Rows.uptoBulkAll]
  omega
theorem bulk_blobs {H : Type} (E : Nat → Blb) : ∀ l : List Nat, l.length + szL (l.map E) ≤ Rows.uptoBulkAll (l.map fun i => litB (H := H) (E i))
  | [] => by simp [szL]
  | i :: r => by
    have := bulk_blobs (H := H) E r
    simp only [List.map_cons, Rows.uptoBulkAll, List.length_cons, bulk_blob, szL_cons]
    omega
theorem bulk_step {H : Type} {d : DataW H} {s : Stp} (h : StD d s) : s.name.size + s.data.size + 1 ≤ Rows.uptoBulk d := by
  obtain ⟨c, rfl⟩ := h
  have h1 : s.name.data.toList.length = s.name.size := Array.length_toList
  have h2 : s.data.data.toList.length = s.data.size := Array.length_toList
  simp only [Rows.uptoBulk, Rows.uptoBulkAll]
  omega
theorem bulk_steps {H : Type} (D : Nat → DataW H) (E : Nat → Stp) : ∀ l : List Nat, (∀ i ∈ l, StD (D i) (E i)) → l.length ≤ Rows.uptoBulkAll (l.map D)
  | [], _ => by simp
  | i :: r, h => by
    have := bulk_steps D E r (fun j hj => h j (List.mem_cons_of_mem _ hj))
    have h1 := bulk_step (h i (List.mem_cons_self ..))
    simp only [List.map_cons, Rows.uptoBulkAll, List.length_cons]
    omega
/-- Files that were handed in, and their bulk. -/
theorem blobs_of {H : Type} {enc : TypeId × Value → H} {W : World} {v : Value} {d : DataW H} {p : List MemPlace} (hv : v.cells.toList = [v]) (h : DataW.Trod enc Tryz.prog W 0 (fun _ => true) true 22 v d p) :
    ∃ ao n cap F, v = .slice ao n cap ∧ BRow W ao F ∧ n = F.length ∧ n + szL F ≤ Rows.uptoBulk d ∧ ∀ b ∈ F, b.name.size + b.data.size ≤ Rows.uptoBulk d := by
  rcases open_blobs hv h with ⟨rfl, rfl⟩ | ⟨a, len, cap, E, sp, rfl, hl, rfl, hr⟩
  · exact ⟨none, 0, 0, [], rfl, fun k b hk => by simp at hk, rfl, by simp [szL], fun b hb => by simp at hb⟩
  · have h1 := bulk_blobs (H := H) E (List.range len)
    rw [List.length_range] at h1
    refine ⟨some a, len, cap, _, rfl, hr, by simp, ?_, fun b hb => ?_⟩
    · rw [Rows.uptoBulk]; omega
    · obtain ⟨i, hi, rfl⟩ := List.mem_map.1 hb
      have h2 := bulk_mem (H := H) (List.mem_map.2 ⟨i, hi, rfl⟩ : litB (E i) ∈ (List.range len).map fun i => litB (E i))
      rw [bulk_blob] at h2
      rw [Rows.uptoBulk]; omega
/-- Steps that were handed in, and their bulk. -/
theorem steps_of {H : Type} {enc : TypeId × Value → H} {W : World} {v : Value} {d : DataW H} {p : List MemPlace} (hv : v.cells.toList = [v]) (h : DataW.Trod enc Tryz.prog W 0 (fun _ => true) true 23 v d p) :
    ∃ ao n cap S, v = .slice ao n cap ∧ SRow W ao S ∧ n = S.length ∧ n ≤ Rows.uptoBulk d ∧ ∀ s ∈ S, s.name.size + s.data.size ≤ Rows.uptoBulk d := by
  rcases open_steps hv h with ⟨rfl, rfl⟩ | ⟨a, len, cap, E, D, sp, rfl, hl, rfl, hD, hr⟩
  · exact ⟨none, 0, 0, [], rfl, fun k b hk => by simp at hk, rfl, by simp, fun b hb => by simp at hb⟩
  · have h1 := bulk_steps D E (List.range len) (fun i hi => hD i (List.mem_range.1 hi))
    rw [List.length_range] at h1
    refine ⟨some a, len, cap, _, rfl, hr, by simp, ?_, fun s hs => ?_⟩
    · rw [Rows.uptoBulk]; omega
    · obtain ⟨i, hi, rfl⟩ := List.mem_map.1 hs
      have h2 := bulk_mem (H := H) (List.mem_map.2 ⟨i, hi, rfl⟩ : D i ∈ (List.range len).map D)
      have h3 := bulk_step (hD i (List.mem_range.1 hi))
      rw [Rows.uptoBulk]; omega
set_option maxRecDepth 100000 in
theorem contract (H : Type) (enc : TypeId × Value → H) (W : World) (base : Nat) (args : Array Value) (ds gs : List (DataW H)) (before : List MemPlace)
    (hval : ∀ (j : Nat) t v, Tryz.f3.params[j]? = some t → args[j]? = some v → Value.okWide Tryz.prog W .any base t v)
    (hW : DataW.Whole enc Tryz.prog Tryz.f3.params.toList Rows.storesSpec.vars false W args.toList ds gs before)
    (hk : Rows.uptoSmall H (ds ++ gs) = true)
    (hL : laidMetH Tryz.prog Rows.storesUptoRow.laid W) :
    Calls Tryz.prog 3 args W fun e W' => ∃ v, e = .returned v ∧ Rows.storesSpec.post enc Tryz.prog Tryz.f3 false true false false W args v W' := by
  have hW' := hW
  obtain ⟨p, q, hA0, hV, rfl, hfz, hnd⟩ := hW
  have hA : DataW.TrodAll enc Tryz.prog W 0 (fun _ => true) true Tryz.f3.params.toList args.toList ds p := hA0
  rw [Tryz.params3] at hA hval
  obtain ⟨v0, vs0, d0, ds0, p0, q0, hargs, rfl, rfl, h0, r0⟩ := trodAll_cons hA
  obtain ⟨v1, vs1, d1, ds1, p1, q1, hargs1, rfl, rfl, h1, r1⟩ := trodAll_cons r0
  obtain ⟨v2, vs2, d2, ds2, p2, q2, hargs2, rfl, rfl, h2, r2⟩ := trodAll_cons r1
  obtain ⟨rfl, rfl, rfl⟩ := trodAll_nil r2
  subst hargs2
  subst hargs1
  obtain rfl : args = #[v0, v1, v2] := by cases args; simp_all
  obtain ⟨rfl, rfl⟩ := trodVars_none hV
  obtain ⟨a0, l0, c0, hv0⟩ := okWide_slice Tryz.underlying22 (hval 0 22 v0 rfl rfl)
  obtain ⟨k1, hv1⟩ := okWide_int Tryz.underlying3 (hval 1 3 v1 rfl rfl)
  obtain ⟨a2, l2, c2, hv2⟩ := okWide_slice Tryz.underlying23 (hval 2 23 v2 rfl rfl)
  subst hv0
  subst hv1
  subst hv2
  clear hA0 hA r0 r1 r2 hargs
  simp only [List.append_nil] at hW' hk
  have hlaid := laid_of hL
  obtain ⟨ao, n, cap, F, e0, hr, hn, hb0, hb1⟩ := blobs_of rfl h0
  obtain ⟨so, ns, sc, S, e2, hS, hns, hb2, hb3⟩ := steps_of rfl h2
  cases e0
  cases e2
  have hkk := of_decide_eq_true hk
  simp only [Rows.uptoBulkAll] at hkk
  refine (lawT_any a0 a2 c0 l0 c2 l2 F S k1 W hr (hide hn) (by omega) (fun b hb => by have := hb1 b hb; omega) (by omega) hS (hide hns) (by omega) (fun s hs => by have := hb3 s hs; omega) hlaid).mono fun e W' ⟨he, hb⟩ => ?_
  subst he
  have hlt := hW'.lt
  refine ⟨_, rfl, _, _, _, [], p0 ++ (p1 ++ (p2 ++ [])), [], hW', ?_, ?_, ?_, hb.frame _, fun h => by cases h⟩
  · exact trodAll_cons_mk (shut_bool Tryz.underlying4 _) trodAll_mk0
  · exact trodAll_cons_mk (Below.trod Tryz.laidOut (by kernel_rfl) (of_decide_eq_true (by kernel_rfl)) h0 hb (fun x hx => hlt x (by simp [hx])))
      (trodAll_cons_mk (Below.trod Tryz.laidOut (by kernel_rfl) (of_decide_eq_true (by kernel_rfl)) h1 hb (fun x hx => hlt x (by simp [hx])))
        (trodAll_cons_mk (Below.trod Tryz.laidOut (by kernel_rfl) (of_decide_eq_true (by kernel_rfl)) h2 hb (fun x hx => hlt x (by simp [hx]))) trodAll_mk0))
  · rfl

/-! A world for the witness: the settled one, the listed variables holding what the row lists. -/
def flat0 : DataW Unit → Value
  | .lit (.int k n) => .int k n
  | _ => .int .u8 0
def flat1 : DataW Unit → List Value
  | .agg l => l.map flat0
  | _ => []
def fill (cs : Array Value) : Obj → Obj
  | .cells _ t frozen => .cells cs t frozen
  | o => o
def layIn (w0 : World) : World :=
  { w0 with heap := (w0.heap.modify 0 (fill #[.iface 226 (.agg #[.pointer (some ⟨3, 70, none⟩)])])).modify 1 (fill (flat1 Rows.laid_layers_digest_roundWords).toArray) }

set_option maxRecDepth 100000 in
theorem laid_met (os : Os) : laidMetH Tryz.prog Rows.storesUptoRow.laid ((layIn (World.holding Tryz.prog os ⟨#[], #[], []⟩)).forCall (fun _ _ => 0) ⟨#[], #[.slice none 0 0, .int .i64 0, .slice none 0 0], []⟩).memory :=
  laidMetH_of_parts (laidMet_of_run' 8 (by kernel_rfl) (by kernel_rfl)) (by kernel_rfl)
theorem reads (os : Os) {H : Type} (enc : TypeId × Value → H) : ∃ places, DataW.whole enc Tryz.prog ((layIn (World.holding Tryz.prog os ⟨#[], #[], []⟩)).forCall (fun _ _ => 0) ⟨#[], #[.slice none 0 0, .int .i64 0, .slice none 0 0], []⟩).memory Tryz.f3.params.toList Rows.storesSpec.vars false #[Value.slice none 0 0, .int .i64 0, .slice none 0 0].toList 8 = some ([.nil, .lit (.int .i64 0), .nil], [], places) :=
  ⟨[], by kernel_rfl⟩

set_option maxRecDepth 100000 in
theorem liftedUpto (os : Os) (started : os.Started) (H : Type) (enc : TypeId × Value → H) (F : Stop.Interp) :
    ReturnsInHanded {} Tryz.checked os 3 .any ((Rows.OpenSpec.upto Rows.storesSpec).preRow enc Tryz.prog Tryz.f3 Rows.storesUptoRow.domain false Rows.storesUptoRow.laid) (((Rows.OpenSpec.upto Rows.storesSpec).at F).post enc Tryz.prog Tryz.f3 false true false false) := by
  obtain ⟨places, hx⟩ := reads os enc
  refine returnsInHanded_of_row (C := Tryz.checked) (s := Rows.OpenSpec.upto Rows.storesSpec) own started (by kernel_rfl) Tryz.func3
    (witness_row_at (enc := enc) (C := Tryz.checked) false (layIn (World.holding Tryz.prog os ⟨#[], #[], []⟩)) #[.slice none 0 0, .int .i64 0, .slice none 0 0] rfl (by kernel_rfl) (by kernel_rfl) (by kernel_rfl)
      (OpenSpec.preRow_of_cond 8 hx (by kernel_rfl) (fun k hk => by cases hk; kernel_rfl) (by kernel_rfl) (laid_met os))) ?_
  intro W base args ds gs before hval hW _ hcond _ hL _ _
  exact contract H enc W base args ds gs before hval hW (hcond _ rfl) hL

theorem saidUpto : Rows.StoresUptoSaid :=
  OpenClaim.holds_of_cond 3 Tryz.f3 rfl rfl rfl rfl rfl rfl rfl ⟨rfl, rfl, rfl, rfl, rfl⟩ rfl rfl rfl rfl rfl (by kernel_rfl) Tryz.func3 (by kernel_rfl)
    (of_decide_eq_true (by kernel_rfl)) (by unfold Func.isWrapper; first | (rw [if_pos (by decide +kernel)]; kernel_rfl) | (rw [if_neg (by decide +kernel)]; exact ⟨rfl, rfl⟩))
    (fun os started H enc _ F => by rw [OpenClaim.pre_eq_preRow]; exact liftedUpto os started H enc F)

theorem plainly (f : FuncId) (fn : Func) (hf : Tryz.pinned.checked.prog.funcNamed Rows.storesUptoRow.func = some f) (hfn : Tryz.pinned.checked.prog.funcs[f]? = some fn) :
    true = Tryz.pinned.checked.prog.looks [] ∧ ∀ (j : Nat) t, fn.params[j]? = some t → Tryz.pinned.checked.prog.wantsStandIn t = false := by
  obtain rfl : f = 3 := Option.some.inj ((show Tryz.prog.funcNamed Rows.storesUptoRow.func = some 3 by kernel_rfl).symm.trans hf) |>.symm
  obtain rfl : fn = Tryz.f3 := (Option.some.inj (Tryz.func3.symm.trans hfn)).symm
  refine ⟨by kernel_rfl, fun j t ht => ?_⟩
  rw [Tryz.params3] at ht
  have hm := Array.mem_of_getElem? ht
  simp only [Array.mem_def, List.mem_cons, List.not_mem_nil, or_false] at hm
  rcases hm with rfl | rfl | rfl
  · exact (show Tryz.prog.wantsStandIn 22 = false by kernel_rfl)
  · exact (show Tryz.prog.wantsStandIn 3 = false by kernel_rfl)
  · exact (show Tryz.prog.wantsStandIn 23 = false by kernel_rfl)

theorem cardUpto : Rows.StoresUptoCardSaid :=
  Claim7.holds_tied_plain_at .later [] _ _ _ _ saidUpto (fun _ h => by cases h) (by kernel_rfl) (fun _ h => by cases h) storesUpto_row_tie rfl ⟨rfl, rfl⟩ (by kernel_rfl) rfl plainly (by kernel_rfl)
#print axioms cardUpto
end Go.Proofs.YtpiponkhhimaoaaGreatDoor
