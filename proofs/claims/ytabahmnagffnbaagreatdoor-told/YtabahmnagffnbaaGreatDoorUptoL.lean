import Derived.Test.YtabahmnagffnbaaGreatDoorCards
import Derived.Test.YtabahmnagffnbaaGreatDoorTie
import Derived.Test.YtabahmnagffnbaaGreatDoorJLawS
import Derived.ProofKit
import Derived.OpenShut
import Derived.Deep.DeepHandedRow
import Derived.LaidLaws
import Derived.LaidHandle
import Derived.Lib.LaidTab
import Derived.Stop.LaidErr
import Derived.ShutString
import Derived.Shelf.Vars
import Derived.Carry
namespace Go.Proofs.YtabahmnagffnbaaGreatDoor
open Go.ChangeShapes Go.WideShapes Go.ChangeAt Go.RowKit
open Go.WideMaps Go.WideElems
open Go.ChangeMaps (setBlock shut_map_nil shut_string keptBut_setBlock frozen?_setBlock heap_setBlock_same)

theorem own : ownKnob Tryz.prog.godebug = none := by kernel_rfl
theorem Tryz.et : Tryz.prog.globalNamed "errors.errorType" = some 0 := by kernel_rfl
theorem Tryz.oneRow : ((List.range 240).filter fun t => Tryz.prog.rowNamed t [101, 114, 114, 111, 114]) = [41] := by kernel_rfl
theorem Tryz.size : Tryz.prog.types.size = 240 := by kernel_rfl
theorem Tryz.handle41 : typeHandle Tryz.prog 41 = .pointer (some ⟨8, 41, none⟩) := by kernel_rfl

/-- The numbers of a table. -/
def nums : DataW Unit → List Int
  | .agg l => l.map fun
    | .lit (.int _ n) => n
    | _ => 0
  | _ => []
theorem map_getD (l : List Nat) (i : Nat) : (l.map fun n : Nat => (n : Int)).getD i 0 = ((l.getD i 0 : Nat) : Int) := by
  rw [List.getD_eq_getElem?_getD, List.getD_eq_getElem?_getD, List.getElem?_map]
  cases l[i]? <;> rfl
/-- What the row's list gives. -/
theorem laid_of {W : World} (h : laidMetH Tryz.prog Rows.toldRow.laid W) : Tabs W ∧ W.cell? ⟨0, 0, none⟩ = some (.iface 124 (.agg #[.pointer (some ⟨8, 41, none⟩)])) := by
  have h' : laidMet Tryz.prog ((_, Rows.laid_math_bits_deBruijn32tab) :: (_, Rows.laid_math_bits_deBruijn64tab) :: (_, Rows.laid_internal_strconv_uint64pow10) :: (_, Rows.laid_unicode_utf8_acceptRanges) :: (_, Rows.laid_layers_digest_roundWords) :: (_, Rows.laid_unicode_utf8_first) :: []) W ∧ handlesMet Tryz.prog [("errors.errorType", Rows.laid_errors_errorType)] W := h
  have t1 := laidMet.tail h'.1
  have t2 := laidMet.tail t1
  have t4 := laidMet.tail (laidMet.tail t2)
  have e1 : (Rows.laid_math_bits_deBruijn64tab : DataW Unit) = Lib.tabData .u8 (nums Rows.laid_math_bits_deBruijn64tab) := by kernel_rfl
  have e2 : (Rows.laid_internal_strconv_uint64pow10 : DataW Unit) = Lib.tabData .u64 Lib.pow10Tab := by kernel_rfl
  have e4 : (Rows.laid_layers_digest_roundWords : DataW Unit) = Lib.tabData .u32 (Ks.map fun n : Nat => (n : Int)) := by kernel_rfl
  rw [e1] at t1
  rw [e2] at t2
  rw [e4] at t4
  have g1 := Lib.tabIs_of_head (g := 7) (t := 213) (e := 5) (n := 64) (by kernel_rfl) (by kernel_rfl) (by kernel_rfl) (by kernel_rfl) (by kernel_rfl) (by kernel_rfl) t1
  have g2 := Lib.tabIs_of_head (g := 3) (t := 197) (e := 150) (n := 20) (by kernel_rfl) (by kernel_rfl) (by kernel_rfl) (by kernel_rfl) (by kernel_rfl) (by kernel_rfl) t2
  have g4 := Lib.tabIs_of_head (g := 1) (t := 158) (e := 107) (n := 64) (by kernel_rfl) (by kernel_rfl) (by kernel_rfl) (by kernel_rfl) (by kernel_rfl) (by kernel_rfl) t4
  refine ⟨⟨fun i hi => ?_, g2, ?_⟩, ?_⟩
  · have := g4.cell (g := 1) (by kernel_rfl) i (by rw [List.length_map]; exact Nat.lt_of_lt_of_le hi (by decide +kernel))
    rw [this, map_getD]
  · exact (g1.cell (g := 7) (by kernel_rfl) 7 (of_decide_eq_true (by kernel_rfl))).trans (by kernel_rfl)
  · obtain ⟨name, u, ty, e1, e2, e3, e4, e5⟩ := h'.2 _ (List.mem_singleton.2 rfl)
    have en : name = [101, 114, 114, 111, 114] := (Option.some.inj e1).symm
    subst en
    have hu : u = 124 := Option.some.inj (e2.symm.trans (by kernel_rfl))
    subst hu
    have hm : ty ∈ (List.range 240).filter fun t => Tryz.prog.rowNamed t [101, 114, 114, 111, 114] := List.mem_filter.2 ⟨List.mem_range.2 (by rw [← Tryz.size]; exact e3), e4⟩
    rw [Tryz.oneRow] at hm
    obtain rfl := List.mem_singleton.1 hm
    rw [Tryz.handle41] at e5
    simpa using World.var?_cell Tryz.et e5 0
/-- The library's variable that holds a number, whatever number. -/
theorem number_of_shaped {W : World} (h : W.ShapedOpen Tryz.prog) : ∃ m, W.cell? ⟨2, 0, none⟩ = some (.int .i64 m) :=
  Go.Proofs.cell_of_shapedOpen_int (zero := #[.int .i64 0]) (t := 3) h (of_decide_eq_true (by kernel_rfl)) (by kernel_rfl) rfl (by kernel_rfl) (by kernel_rfl) Tryz.underlying3
section
variable {H : Type} {enc : TypeId × Value → H} {w : World} {base : Nat} {spare : Nat → Bool} {held : Bool}
theorem open_int {k : Int} {d : DataW H} {p : List MemPlace} (hv : (Value.int .i64 k).cells.toList = [.int .i64 k]) (h : DataW.Trod enc Tryz.prog w base spare held 3 (.int .i64 k) d p) : d = .lit (.int .i64 k) ∧ p = [] := by
  obtain ⟨fuel, hf⟩ := h
  rw [hv] at hf
  obtain ⟨j, e, hx, _⟩ := DataW.trod_int Tryz.underlying3 hf
  cases e
  cases hx
  exact ⟨rfl, rfl⟩
theorem open_str {k : ByteArray} {d : DataW H} {p : List MemPlace} (hv : (Value.string k).cells.toList = [.string k]) (h : DataW.Trod enc Tryz.prog w base spare held 9 (.string k) d p) : d = .lit (.string k.data.toList) ∧ p = [] := by
  obtain ⟨fuel, hf⟩ := h
  rw [hv] at hf
  obtain ⟨j, e, hx, _⟩ := DataW.trod_string Tryz.underlying9 hf
  cases e
  cases hx
  exact ⟨rfl, rfl⟩
end
theorem Tryz.laidOut : laidOutB Tryz.prog = true := by kernel_rfl
set_option maxRecDepth 100000 in
theorem contract (H : Type) (enc : TypeId × Value → H) (W : World) (base : Nat) (args : Array Value) (ds gs : List (DataW H)) (before : List MemPlace)
    (hval : ∀ (j : Nat) t v, Tryz.f3.params[j]? = some t → args[j]? = some v → Value.okWide Tryz.prog W .any base t v)
    (hW : DataW.Whole enc Tryz.prog Tryz.f3.params.toList Rows.toldSpec.vars false W args.toList ds gs before)
    (hL : laidMetH Tryz.prog Rows.toldRow.laid W) (hS : W.ShapedOpen Tryz.prog) :
    Calls Tryz.prog 3 args W fun e W' => ∃ v, e = .returned v ∧ Rows.toldSpec.post enc Tryz.prog Tryz.f3 false true false false W args v W' := by
  have hW' := hW
  obtain ⟨p, q, hA0, hV, rfl, hfz, hnd⟩ := hW
  have hA : DataW.TrodAll enc Tryz.prog W 0 (fun _ => true) true Tryz.f3.params.toList args.toList ds p := hA0
  rw [Tryz.params3] at hA hval
  obtain ⟨v0, vs0, d0, ds0, p0, q0, hargs, rfl, rfl, h0, r0⟩ := trodAll_cons hA
  obtain ⟨v1, vs1, d1, ds1, p1, q1, hargs1, rfl, rfl, h1, r1⟩ := trodAll_cons r0
  obtain ⟨v2, vs2, d2, ds2, p2, q2, hargs2, rfl, rfl, h2, r2⟩ := trodAll_cons r1
  obtain ⟨v3, vs3, d3, ds3, p3, q3, hargs3, rfl, rfl, h3, r3⟩ := trodAll_cons r2
  obtain ⟨rfl, rfl, rfl⟩ := trodAll_nil r3
  subst hargs3
  subst hargs2
  subst hargs1
  obtain rfl : args = #[v0, v1, v2, v3] := by cases args; simp_all
  obtain ⟨rfl, rfl⟩ := trodVars_none hV
  obtain ⟨k0, hv0⟩ := okWide_int Tryz.underlying3 (hval 0 3 v0 rfl rfl)
  obtain ⟨k1, hv1⟩ := okWide_int Tryz.underlying3 (hval 1 3 v1 rfl rfl)
  obtain ⟨t2, hv2⟩ := okWide_string Tryz.underlying9 (hval 2 9 v2 rfl rfl)
  obtain ⟨k3, hv3⟩ := okWide_int Tryz.underlying3 (hval 3 3 v3 rfl rfl)
  subst hv0
  subst hv1
  subst hv2
  subst hv3
  clear hA0 hA r0 r1 r2 r3 hargs
  simp only [List.append_nil] at hW'
  have hlaid : LaidS W := ⟨(laid_of hL).1, (laid_of hL).2, number_of_shaped hS⟩
  refine (lawT_any k0 k1 k3 t2 W hlaid).mono fun e W' ⟨he, hb⟩ => ?_
  subst he
  have hlt := hW'.lt
  obtain ⟨e0, f0⟩ := open_int rfl h0
  obtain ⟨e1, f1⟩ := open_int rfl h1
  obtain ⟨e3, f3⟩ := open_int rfl h3
  obtain ⟨e2, f2⟩ := open_str rfl h2
  subst e0
  subst f0
  subst e1
  subst f1
  subst e2
  subst f2
  subst e3
  subst f3
  refine ⟨_, rfl, _, _, _, [], [] ++ ([] ++ ([] ++ ([] ++ []))), [], hW', ?_, ?_, ?_, hb.frame _, fun h => by cases h⟩
  · exact trodAll_cons_mk (shut_bool Tryz.underlying4 _) trodAll_mk0
  · exact trodAll_cons_mk (Below.trod Tryz.laidOut (by kernel_rfl) (of_decide_eq_true (by kernel_rfl)) h0 hb (fun x hx => hlt x (by simp [hx])))
      (trodAll_cons_mk (Below.trod Tryz.laidOut (by kernel_rfl) (of_decide_eq_true (by kernel_rfl)) h1 hb (fun x hx => hlt x (by simp [hx])))
        (trodAll_cons_mk (Below.trod Tryz.laidOut (by kernel_rfl) (of_decide_eq_true (by kernel_rfl)) h2 hb (fun x hx => hlt x (by simp [hx])))
          (trodAll_cons_mk (Below.trod Tryz.laidOut (by kernel_rfl) (of_decide_eq_true (by kernel_rfl)) h3 hb (fun x hx => hlt x (by simp [hx]))) trodAll_mk0)))
  · rfl

/-! A world for the witness: the settled one, the listed variables holding what the row lists. -/
def flat0 : DataW Unit → Value
  | .lit (.int k n) => .int k n
  | _ => .int .u8 0
def flat1 : DataW Unit → List Value
  | .agg l => l.map flat0
  | _ => []
def flat2 : DataW Unit → List Value
  | .agg l => (l.map flat1).flatten
  | _ => []
def fill (cs : Array Value) : Obj → Obj
  | .cells _ t frozen => .cells cs t frozen
  | o => o
def layIn (w0 : World) : World :=
  { w0 with heap := ((((((w0.heap.modify 0 (fill #[.iface 124 (.agg #[.pointer (some ⟨8, 41, none⟩)])])).modify 1 (fill (flat1 Rows.laid_layers_digest_roundWords).toArray)).modify 3 (fill (flat1 Rows.laid_internal_strconv_uint64pow10).toArray)).modify 4 (fill (flat1 Rows.laid_unicode_utf8_first).toArray)).modify 5 (fill (flat2 Rows.laid_unicode_utf8_acceptRanges).toArray)).modify 6 (fill (flat1 Rows.laid_math_bits_deBruijn32tab).toArray)).modify 7 (fill (flat1 Rows.laid_math_bits_deBruijn64tab).toArray) }

set_option maxRecDepth 100000 in
theorem laid_met (os : Os) : laidMetH Tryz.prog Rows.toldRow.laid ((layIn (World.holding Tryz.prog os ⟨#[], #[], []⟩)).forCall (fun _ _ => 0) ⟨#[], #[.int .i64 0, .int .i64 0, .string ⟨#[]⟩, .int .i64 0], []⟩).memory :=
  laidMetH_of_parts (laidMet_of_run' 8 (by kernel_rfl) (by kernel_rfl)) (by kernel_rfl)
theorem reads (os : Os) {H : Type} (enc : TypeId × Value → H) : ∃ places, DataW.whole enc Tryz.prog ((layIn (World.holding Tryz.prog os ⟨#[], #[], []⟩)).forCall (fun _ _ => 0) ⟨#[], #[.int .i64 0, .int .i64 0, .string ⟨#[]⟩, .int .i64 0], []⟩).memory Tryz.f3.params.toList Rows.toldSpec.vars false #[Value.int .i64 0, .int .i64 0, .string ⟨#[]⟩, .int .i64 0].toList 8 = some ([.lit (.int .i64 0), .lit (.int .i64 0), .lit (.string []), .lit (.int .i64 0)], [], places) :=
  ⟨[], by kernel_rfl⟩

set_option maxRecDepth 100000 in
theorem lifted (os : Os) (started : os.Started) (H : Type) (enc : TypeId × Value → H) (F : Stop.Interp) :
    ReturnsInHanded {} Tryz.checked os 3 .any ((OpenSpec.ofChange Rows.toldSpec).preRow enc Tryz.prog Tryz.f3 Rows.toldRow.domain false Rows.toldRow.laid) (((OpenSpec.ofChange Rows.toldSpec).at F).post enc Tryz.prog Tryz.f3 false true false false) := by
  obtain ⟨places, hx⟩ := reads os enc
  refine returnsInHanded_of_row (C := Tryz.checked) (s := OpenSpec.ofChange Rows.toldSpec) own started (by kernel_rfl) Tryz.func3
    (witness_row_at (enc := enc) (C := Tryz.checked) false (layIn (World.holding Tryz.prog os ⟨#[], #[], []⟩)) #[.int .i64 0, .int .i64 0, .string ⟨#[]⟩, .int .i64 0] rfl (by kernel_rfl) (by kernel_rfl) (by kernel_rfl)
      (OpenSpec.preRow_of_cond 8 hx (by kernel_rfl) (fun k hk => by cases hk) (by kernel_rfl) (laid_met os))) ?_
  intro W base args ds gs before hval hW _ _ _ hL hS _
  exact contract H enc W base args ds gs before hval hW hL hS

theorem said : Rows.ToldSaid :=
  OpenClaim.holds_of_cond 3 Tryz.f3 rfl rfl rfl rfl rfl rfl rfl ⟨rfl, rfl, rfl, rfl, rfl⟩ rfl rfl rfl rfl rfl (by kernel_rfl) Tryz.func3 (by kernel_rfl)
    (of_decide_eq_true (by kernel_rfl)) (by unfold Func.isWrapper; first | (rw [if_pos (by decide +kernel)]; kernel_rfl) | (rw [if_neg (by decide +kernel)]; exact ⟨rfl, rfl⟩))
    (fun os started H enc _ F => by rw [OpenClaim.pre_eq_preRow]; exact lifted os started H enc F)

theorem plainly (f : FuncId) (fn : Func) (hf : Tryz.pinned.checked.prog.funcNamed Rows.toldRow.func = some f) (hfn : Tryz.pinned.checked.prog.funcs[f]? = some fn) :
    true = Tryz.pinned.checked.prog.looks [] ∧ ∀ (j : Nat) t, fn.params[j]? = some t → Tryz.pinned.checked.prog.wantsStandIn t = false := by
  obtain rfl : f = 3 := Option.some.inj ((show Tryz.prog.funcNamed Rows.toldRow.func = some 3 by kernel_rfl).symm.trans hf) |>.symm
  obtain rfl : fn = Tryz.f3 := (Option.some.inj (Tryz.func3.symm.trans hfn)).symm
  refine ⟨by kernel_rfl, fun j t ht => ?_⟩
  rw [Tryz.params3] at ht
  have hm := Array.mem_of_getElem? ht
  simp only [Array.mem_def, List.mem_cons, List.not_mem_nil, or_false] at hm
  rcases hm with rfl | rfl | rfl | rfl
  · exact (show Tryz.prog.wantsStandIn 3 = false by kernel_rfl)
  · exact (show Tryz.prog.wantsStandIn 3 = false by kernel_rfl)
  · exact (show Tryz.prog.wantsStandIn 9 = false by kernel_rfl)
  · exact (show Tryz.prog.wantsStandIn 3 = false by kernel_rfl)

theorem card : Rows.ToldCardSaid :=
  Claim7.holds_tied_plain_at .later [] _ _ _ _ said (fun _ h => by cases h) (by kernel_rfl) (fun _ h => by cases h) told_row_tie rfl ⟨rfl, rfl⟩ (by kernel_rfl) rfl plainly (by kernel_rfl)
#print axioms card
end Go.Proofs.YtabahmnagffnbaaGreatDoor
