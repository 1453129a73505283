import Derived.Test.YtkikhmleffcajaaGreatDoorCards
import Derived.Test.YtkikhmleffcajaaGreatDoorTie
import Derived.Test.YtkikhmleffcajaaGreatDoorLwP
import Derived.Test.YtkikhmleffcajaaGreatDoorCrdO
import Derived.ProofKit
import Derived.OpenShut
import Derived.Deep.DeepHandedRow
import Derived.LaidLaws
import Derived.LaidHandle
import Derived.Lib.LaidTab
import Derived.Stop.LaidErr
import Derived.ShutString
import Derived.Shelf.Vars
import Derived.Carry
namespace Go.Proofs.YtkikhmleffcajaaGreatDoor
open Go.ChangeShapes Go.WideShapes Go.ChangeAt Go.RowKit
open Go.WideMaps Go.WideElems
open Go.ChangeMaps (setBlock shut_map_nil shut_string keptBut_setBlock frozen?_setBlock heap_setBlock_same)

theorem own : ownKnob Tryz.prog.godebug = none := by kernel_rfl
theorem Tryz.et : Tryz.prog.globalNamed "errors.errorType" = some 0 := by kernel_rfl
theorem Tryz.oneRow : ((List.range 368).filter fun t => Tryz.prog.rowNamed t [101, 114, 114, 111, 114]) = [34] := by kernel_rfl
theorem Tryz.size : Tryz.prog.types.size = 368 := by kernel_rfl
theorem Tryz.handle34 : typeHandle Tryz.prog 34 = .pointer (some ⟨22, 34, none⟩) := by kernel_rfl
/-- What the row's list gives. -/
theorem laid_of {W : World} (h : laidMetH Tryz.prog Rows.plansRow.laid W) : W.cell? ⟨0, 0, none⟩ = some (.iface 140 (.agg #[.pointer (some ⟨22, 34, none⟩)])) := by
  have h2 : handlesMet Tryz.prog [("errors.errorType", Rows.laid_errors_errorType)] W := h.2
  obtain ⟨name, u, ty, e1, e2, e3, e4, e5⟩ := h2 _ (List.mem_singleton.2 rfl)
  have en : name = [101, 114, 114, 111, 114] := (Option.some.inj e1).symm
  subst en
  have hu : u = 140 := Option.some.inj (e2.symm.trans (by kernel_rfl))
  subst hu
  have hm : ty ∈ (List.range 368).filter fun t => Tryz.prog.rowNamed t [101, 114, 114, 111, 114] := List.mem_filter.2 ⟨List.mem_range.2 (by rw [← Tryz.size]; exact e3), e4⟩
  rw [Tryz.oneRow] at hm
  obtain rfl := List.mem_singleton.1 hm
  rw [Tryz.handle34] at e5
  simpa using World.var?_cell Tryz.et e5 0
/-- The library's variable that holds a number, whatever number. -/
theorem number_of_shaped {W : World} (h : W.ShapedOpen Tryz.prog) : ∃ m, W.cell? ⟨1, 0, none⟩ = some (.int .i64 m) :=
  Go.Proofs.cell_of_shapedOpen_int (zero := #[.int .i64 0]) (t := 3) h (of_decide_eq_true (by kernel_rfl)) (by kernel_rfl) rfl (by kernel_rfl) (by kernel_rfl) Tryz.underlying3
section
variable {H : Type} {enc : TypeId × Value → H} {w : World} {base : Nat} {spare : Nat → Bool} {held : Bool}
theorem open_str {k : ByteArray} {d : DataW H} {p : List MemPlace} (hv : (Value.string k).cells.toList = [.string k]) (h : DataW.Trod enc Tryz.prog w base spare held 9 (.string k) d p) : d = .lit (.string k.data.toList) ∧ p = [] := by
  obtain ⟨fuel, hf⟩ := h
  rw [hv] at hf
  obtain ⟨j, e, hx, _⟩ := DataW.trod_string Tryz.underlying9 hf
  cases e
  cases hx
  exact ⟨rfl, rfl⟩
end
theorem Tryz.laidOut : laidOutB Tryz.prog = true := by kernel_rfl
set_option maxRecDepth 100000 in
theorem contract (H : Type) (enc : TypeId × Value → H) (W : World) (base : Nat) (args : Array Value) (ds gs : List (DataW H)) (before : List MemPlace)
    (hval : ∀ (j : Nat) t v, Tryz.f3.params[j]? = some t → args[j]? = some v → Value.okWide Tryz.prog W .any base t v)
    (hW : DataW.Whole enc Tryz.prog Tryz.f3.params.toList Rows.plansSpec.vars false W args.toList ds gs before)
    (hL : laidMetH Tryz.prog Rows.plansRow.laid W) (hS : W.ShapedOpen Tryz.prog) :
    Calls Tryz.prog 3 args W fun e W' => ∃ v, e = .returned v ∧ Rows.plansSpec.post enc Tryz.prog Tryz.f3 false true false false W args v W' := by
  have hW' := hW
  obtain ⟨p, q, hA0, hV, rfl, hfz, hnd⟩ := hW
  have hA : DataW.TrodAll enc Tryz.prog W 0 (fun _ => true) true Tryz.f3.params.toList args.toList ds p := hA0
  rw [Tryz.params3] at hA hval
  obtain ⟨v0, vs0, d0, ds0, p0, q0, hargs, rfl, rfl, h0, r0⟩ := trodAll_cons hA
  obtain ⟨rfl, rfl, rfl⟩ := trodAll_nil r0
  obtain rfl : args = #[v0] := by cases args; simp_all
  obtain ⟨rfl, rfl⟩ := trodVars_none hV
  obtain ⟨t0, hv0⟩ := okWide_string Tryz.underlying9 (hval 0 9 v0 rfl rfl)
  subst hv0
  clear hA0 hA r0 hargs
  simp only [List.append_nil] at hW'
  obtain ⟨m, hm⟩ := number_of_shaped hS
  refine (law_any t0 m W hm (laid_of hL)).mono fun e W' ⟨he, hb⟩ => ?_
  subst he
  have hlt := hW'.lt
  obtain ⟨e0, f0⟩ := open_str rfl h0
  subst e0
  subst f0
  refine ⟨_, rfl, _, _, _, [], [] ++ [], [], hW', ?_, ?_, ?_, hb.frame _, fun h => by cases h⟩
  · exact trodAll_cons_mk (shut_bool Tryz.underlying4 _) trodAll_mk0
  · exact trodAll_cons_mk (Below.trod Tryz.laidOut (by kernel_rfl) (of_decide_eq_true (by kernel_rfl)) h0 hb (fun x hx => hlt x (by simp [hx]))) trodAll_mk0
  · rfl

/-! A world for the witness: the settled one, the listed variables holding what the row lists. -/
def flat0 : DataW Unit → Value
  | .lit (.int k n) => .int k n
  | _ => .int .u8 0
def flat1 : DataW Unit → List Value
  | .agg l => l.map flat0
  | _ => []
def flat2 : DataW Unit → List Value
  | .agg l => (l.map flat1).flatten
  | _ => []
def fill (cs : Array Value) : Obj → Obj
  | .cells _ t frozen => .cells cs t frozen
  | o => o
def layIn (w0 : World) : World :=
  { w0 with heap := ((((((((((((((((((((((w0.heap.modify 0 (fill #[.iface 140 (.agg #[.pointer (some ⟨22, 34, none⟩)])])).modify 2 (fill (flat1 Rows.laid_layers_archive_sizeField).toArray)).modify 3 (fill (flat1 Rows.laid_layers_archive_aheadField).toArray)).modify 4 (fill (flat1 Rows.laid_layers_archive_nameField).toArray)).modify 5 (fill (flat1 Rows.laid_layers_archive_modeField).toArray)).modify 6 (fill (flat1 Rows.laid_layers_archive_kindField).toArray)).modify 7 (fill (flat1 Rows.laid_layers_archive_linkField).toArray)).modify 8 (fill (flat1 Rows.laid_layers_archive_userField).toArray)).modify 9 (fill (flat1 Rows.laid_layers_archive_groupField).toArray)).modify 10 (fill (flat1 Rows.laid_layers_archive_timeField).toArray)).modify 11 (fill (flat1 Rows.laid_layers_archive_magicField).toArray)).modify 12 (fill (flat1 Rows.laid_layers_archive_deviceField).toArray)).modify 13 (fill (flat1 Rows.laid_layers_archive_device2Field).toArray)).modify 16 (fill (flat1 Rows.laid_layers_archive_checkField).toArray)).modify 17 (fill (flat1 Rows.laid_unicode_utf8_first).toArray)).modify 18 (fill (flat2 Rows.laid_unicode_utf8_acceptRanges).toArray)).modify 19 (fill (flat1 Rows.laid_internal_strconv_uint64pow10).toArray)).modify 20 (fill (flat1 Rows.laid_math_bits_deBruijn32tab).toArray)).modify 21 (fill (flat1 Rows.laid_math_bits_deBruijn64tab).toArray)).modify 15 (fill #[.iface 311 (.pointer (some ⟨w0.heap.size, 0, none⟩))])).modify 14 (fill #[.iface 311 (.pointer (some ⟨w0.heap.size + 1, 0, none⟩))])).push (.cells #[.string ⟨#[118, 97, 108, 117, 101, 32, 111, 117, 116, 32, 111, 102, 32, 114, 97, 110, 103, 101]⟩] 313 (0, 0))).push (.cells #[.string ⟨#[105, 110, 118, 97, 108, 105, 100, 32, 115, 121, 110, 116, 97, 120]⟩] 313 (0, 0)) }

set_option maxRecDepth 100000 in
theorem laid_met (os : Os) : laidMetH Tryz.prog Rows.plansRow.laid ((layIn (World.holding Tryz.prog os ⟨#[], #[], []⟩)).forCall (fun _ _ => 0) ⟨#[], #[.string ⟨#[]⟩], []⟩).memory :=
  laidMetH_of_parts (laidMet_of_run' 8 (by kernel_rfl) (by kernel_rfl)) (by kernel_rfl)
theorem reads (os : Os) {H : Type} (enc : TypeId × Value → H) : ∃ places, DataW.whole enc Tryz.prog ((layIn (World.holding Tryz.prog os ⟨#[], #[], []⟩)).forCall (fun _ _ => 0) ⟨#[], #[.string ⟨#[]⟩], []⟩).memory Tryz.f3.params.toList Rows.plansSpec.vars false #[Value.string ⟨#[]⟩].toList 8 = some ([.lit (.string [])], [], places) :=
  ⟨[], by kernel_rfl⟩

set_option maxRecDepth 100000 in
theorem lifted (os : Os) (started : os.Started) (H : Type) (enc : TypeId × Value → H) (F : Stop.Interp) :
    ReturnsInHanded {} Tryz.checked os 3 .any ((OpenSpec.ofChange Rows.plansSpec).preRow enc Tryz.prog Tryz.f3 Rows.plansRow.domain false Rows.plansRow.laid) (((OpenSpec.ofChange Rows.plansSpec).at F).post enc Tryz.prog Tryz.f3 false true false false) := by
  obtain ⟨places, hx⟩ := reads os enc
  refine returnsInHanded_of_row (C := Tryz.checked) (s := OpenSpec.ofChange Rows.plansSpec) own started (by kernel_rfl) Tryz.func3
    (witness_row_at (enc := enc) (C := Tryz.checked) false (layIn (World.holding Tryz.prog os ⟨#[], #[], []⟩)) #[.string ⟨#[]⟩] rfl (by kernel_rfl) (by kernel_rfl) (by kernel_rfl)
      (OpenSpec.preRow_of_cond 8 hx (by kernel_rfl) (fun k hk => by cases hk) (by kernel_rfl) (laid_met os))) ?_
  intro W base args ds gs before hval hW _ _ _ hL hS _
  exact contract H enc W base args ds gs before hval hW hL hS

theorem said : Rows.PlansSaid :=
  OpenClaim.holds_of_cond 3 Tryz.f3 rfl rfl rfl rfl rfl rfl rfl ⟨rfl, rfl, rfl, rfl, rfl⟩ rfl rfl rfl rfl rfl named3 Tryz.func3 closed inst3 wrap3
    (fun os started H enc _ F => by rw [OpenClaim.pre_eq_preRow]; exact lifted os started H enc F)

theorem plainly (f : FuncId) (fn : Func) (hf : Tryz.pinned.checked.prog.funcNamed Rows.plansRow.func = some f) (hfn : Tryz.pinned.checked.prog.funcs[f]? = some fn) :
    true = Tryz.pinned.checked.prog.looks [] ∧ ∀ (j : Nat) t, fn.params[j]? = some t → Tryz.pinned.checked.prog.wantsStandIn t = false := by
  obtain rfl : f = 3 := Option.some.inj ((show Tryz.prog.funcNamed Rows.plansRow.func = some 3 by kernel_rfl).symm.trans hf) |>.symm
  obtain rfl : fn = Tryz.f3 := (Option.some.inj (Tryz.func3.symm.trans hfn)).symm
  refine ⟨by kernel_rfl, fun j t ht => ?_⟩
  rw [Tryz.params3] at ht
  have hm := Array.mem_of_getElem? ht
  simp only [Array.mem_def, List.mem_cons, List.not_mem_nil, or_false] at hm
  subst hm
  exact (show Tryz.prog.wantsStandIn 9 = false by kernel_rfl)

theorem card : Rows.PlansCardSaid :=
  Claim7.holds_tied_plain_at .later [] _ _ _ _ said (fun _ h => by cases h) (by kernel_rfl) (fun _ h => by cases h) plans_row_tie rfl ⟨rfl, rfl⟩ (by kernel_rfl) rfl plainly (by kernel_rfl)
#print axioms card
end Go.Proofs.YtkikhmleffcajaaGreatDoor
