import Derived.Test.YtjofjcjojgpaeaaGreatDoorCards
import Derived.Test.YtjofjcjojgpaeaaGreatDoorTie
import Derived.Test.YtjofjcjojgpaeaaGreatDoorLawU
import Derived.Test.YtjofjcjojgpaeaaGreatDoorJOpen
import Derived.ProofKit
import Derived.SizedLaws
import Derived.OpenShut
import Derived.Deep.DeepHandedRow
import Derived.LaidLaws
import Derived.LaidHandle
import Derived.Lib.LaidTab
import Derived.Stop.LaidErr
import Derived.ShutString
import Derived.Shelf.Vars
namespace Go.Proofs.YtjofjcjojgpaeaaGreatDoor
open Go.ChangeShapes Go.WideShapes Go.ChangeAt Go.RowKit
open Go.WideMaps Go.WideElems
open Go.ChangeMaps (setBlock shut_map_nil open_string shut_string keptBut_setBlock frozen?_setBlock heap_setBlock_same)

theorem own : ownKnob Tryz.prog.godebug = none := by kernel_rfl
theorem Tryz.et : Tryz.prog.globalNamed "errors.errorType" = some 0 := by kernel_rfl
theorem Tryz.oneRow : ((List.range 285).filter fun t => Tryz.prog.rowNamed t [101, 114, 114, 111, 114]) = [52] := by kernel_rfl
theorem Tryz.size : Tryz.prog.types.size = 285 := by kernel_rfl
theorem Tryz.handle52 : typeHandle Tryz.prog 52 = .pointer (some ⟨22, 52, none⟩) := by kernel_rfl
/-- What the row's list gives. -/
theorem laid_of {W : World} (h : laidMetH Tryz.prog Rows.undoneRow.laid W) : W.cell? ⟨0, 0, none⟩ = some (.iface 129 (.agg #[.pointer (some ⟨22, 52, none⟩)])) := by
  have h' : laidMet Tryz.prog ((_, Rows.laid_unicode_utf8_acceptRanges) :: (_, Rows.laid_unicode_utf8_first) :: []) W ∧ handlesMet Tryz.prog [("errors.errorType", Rows.laid_errors_errorType)] W := h
  obtain ⟨name, u, ty, e1, e2, e3, e4, e5⟩ := h'.2 _ (List.mem_singleton.2 rfl)
  have en : name = [101, 114, 114, 111, 114] := (Option.some.inj e1).symm
  subst en
  have hu : u = 129 := Option.some.inj (e2.symm.trans (by kernel_rfl))
  subst hu
  have hm : ty ∈ (List.range 285).filter fun t => Tryz.prog.rowNamed t [101, 114, 114, 111, 114] := List.mem_filter.2 ⟨List.mem_range.2 (by rw [← Tryz.size]; exact e3), e4⟩
  rw [Tryz.oneRow] at hm
  obtain rfl := List.mem_singleton.1 hm
  rw [Tryz.handle52] at e5
  simpa using World.var?_cell Tryz.et e5 0
/-- The library's variable that holds a number, whatever number. -/
theorem number_of_shaped {W : World} (h : W.ShapedOpen Tryz.prog) : ∃ m, W.cell? ⟨14, 0, none⟩ = some (.int .i64 m) :=
  Go.Proofs.cell_of_shapedOpen_int (zero := #[.int .i64 0]) (t := 3) h (of_decide_eq_true (by kernel_rfl)) (by kernel_rfl) rfl (by kernel_rfl) (by kernel_rfl) Tryz.underlying3
theorem erow_of {W : World} {a : Addr} {len cap : Nat} {E : Nat → Tg} (hl : len ≤ cap) (hx : ∀ i, i < cap → OkT (E i) ∧ a.spot = none ∧ W.cells? 0 (a.add (i * 4)) 4 = some (E i).cells) : TgRow W (some a) ((List.range len).map E) := by
  intro k e hk
  rw [List.getElem?_map] at hk
  obtain ⟨j, hj, rfl⟩ := Option.map_eq_some_iff.1 hk
  have hk' : k < len := by
    have := (List.getElem?_eq_some_iff.1 hj).1
    simpa using this
  rw [List.getElem?_range hk'] at hj
  cases hj
  obtain ⟨_, h2, h3⟩ := hx k (by omega)
  obtain ⟨g, o, sp⟩ := a
  simp only at h2
  subst h2
  have h4 := (World.cells?_some h3).2.2
  rw [Addr.add_lit] at h4
  refine ⟨g, o, rfl, ?_, ?_, ?_, ?_⟩
  · have := h4 0 (by decide); rw [Addr.add_lit] at this; exact this
  · have := h4 1 (by decide); rw [Addr.add_lit] at this; exact this
  · have := h4 2 (by decide); rw [Addr.add_lit] at this; exact this
  · have := h4 3 (by decide); rw [Addr.add_lit] at this; exact this
theorem cells_same {W W' : World} (hb : Below W.heap.size W W') {a : Addr} {n : Nat} {cs : List Value} (hn : 0 < n) (h : W.cells? 0 a n = some cs) : W'.cells? 0 a n = some cs := by
  refine World.cells?_carry h (fun p hp => hb.same ?_)
  unfold MemPlace.row at hp
  obtain ⟨j, _, rfl⟩ := List.mem_map.1 hp
  exact World.cells?_block h hn
/-- A list of entries that was handed in: what the walk asks of it, and how it reads behind. -/
theorem arg_open {H : Type} {enc : TypeId × Value → H} {W : World} {ao : Option Addr} {len cap : Nat} {d : DataW H} {p : List MemPlace} (h0 : DataW.Trod enc Tryz.prog W 0 (fun _ => true) true 22 (.slice ao len cap) d p) (hk : ∀ el sp, d = .slice el sp → el.length ≤ 140737488351232) :
    ∃ es : List Tg, len = es.length ∧ len ≤ 140737488351232 ∧ len ≤ cap ∧ TgRow W ao es ∧ ∀ W' : World, Below W.heap.size W W' → DataW.Trod enc Tryz.prog W' 0 (fun b => decide (b < W.heap.size)) true 22 (.slice ao len cap) d p := by
  rcases open_tgs rfl h0 with ⟨he, rfl, rfl⟩ | ⟨a, len', cap', E, he, hl, hm, rfl, rfl, hx⟩
  · cases he
    exact ⟨[], rfl, by omega, by omega, fun k e hk => by simp at hk, fun W' _ => shut_slice_nil Tryz.underlying22⟩
  · cases he
    have b1 : len ≤ 140737488351232 := by simpa using hk _ _ rfl
    refine ⟨(List.range len).map E, by simp, b1, hl, erow_of hl hx, fun W' hb => ?_⟩
    by_cases hblk : a.block < W.heap.size
    · exact shut_tgs hl hm (by simpa using hblk) (fun i hi => ⟨(hx i hi).1, cells_same hb (by decide) (hx i hi).2.2⟩)
    · have hc : cap = 0 := by
        rcases Nat.eq_zero_or_pos cap with h | h
        · exact h
        · have h3 := (hx 0 h).2.2
          simp only [Nat.zero_mul, Addr.add_zero'] at h3
          exact absurd (World.cells?_block h3 (by decide)) hblk
      subst hc
      obtain rfl : len = 0 := by omega
      have h := Go.Deep.shut_slice (enc := enc) (w := W') (base := 0) (held := true) (spare := fun b => decide (b < W.heap.size)) (a := a) (len := 0) (cap := 0) Tryz.underlying22 (Nat.zero_le _) (Nat.le_refl _) hm (by simpa using hblk) (fun i => litT (E i)) (fun _ => []) (fun i hi => absurd hi (Nat.not_lt_zero _))
      rw [Nat.zero_mul] at h
      exact h
set_option maxRecDepth 100000 in
theorem contract (H : Type) (enc : TypeId × Value → H) (W : World) (base : Nat) (args : Array Value) (ds gs : List (DataW H)) (before : List MemPlace)
    (hval : ∀ (j : Nat) t v, Tryz.f3.params[j]? = some t → args[j]? = some v → Value.okWide Tryz.prog W .any base t v)
    (hW : DataW.Whole enc Tryz.prog Tryz.f3.params.toList Rows.undoneSpec.vars false W args.toList ds gs before)
    (hz : (DataW.weightsEach Tryz.prog (Tryz.f3.params.toList ++ (OpenSpec.ofChange Rows.undoneSpec).bare.plain.varTypes Tryz.prog) (ds ++ gs)).all (· ≤ reachBytes) = true)
    (hL : laidMetH Tryz.prog Rows.undoneRow.laid W) (hS : W.ShapedOpen Tryz.prog) :
    Calls Tryz.prog 3 args W fun e W' => ∃ v, e = .returned v ∧ Rows.undoneSpec.post enc Tryz.prog Tryz.f3 false true false false W args v W' := by
  have hW' := hW
  obtain ⟨p, q, hA0, hV, rfl, hfz, hnd⟩ := hW
  have hA : DataW.TrodAll enc Tryz.prog W 0 (fun _ => true) true Tryz.f3.params.toList args.toList ds p := hA0
  rw [Tryz.params3] at hA hval
  obtain ⟨v0, vs0, d0, ds0, p0, q0, hargs, rfl, rfl, h0, r0⟩ := trodAll_cons hA
  obtain ⟨v1, vs1, d1, ds1, p1, q1, hargs1, rfl, rfl, h1, r1⟩ := trodAll_cons r0
  obtain ⟨rfl, rfl, rfl⟩ := trodAll_nil r1
  obtain rfl : args = #[v0, v1] := by cases args; simp_all
  obtain ⟨rfl, rfl⟩ := trodVars_none hV
  obtain ⟨ao, la, ca, hv0⟩ := okWide_slice Tryz.underlying22 (hval 0 22 v0 rfl rfl)
  obtain ⟨bo, lb, cb, hv1⟩ := okWide_slice Tryz.underlying22 (hval 1 22 v1 rfl rfl)
  subst hv0 hv1
  clear hA0 hA
  simp only [List.append_nil] at hW' hz
  have hlaid : Laid W := ⟨laid_of hL, number_of_shaped hS⟩
  obtain ⟨xa, ea, la1, la2, ra, ta⟩ := arg_open h0 (fun el sp e => by
    subst e
    have := sized_slice (j := 0) (t := 22) hz (by first | rfl | (rw [Tryz.params3]; rfl)) rfl Tryz.underlying22
    have e2 : Tryz.prog.bytesOf 49 = 40 := by kernel_rfl
    rw [e2] at this
    unfold reachBytes at this
    omega)
  obtain ⟨xb, eb, lb1, lb2, rb, tb⟩ := arg_open h1 (fun el sp e => by
    subst e
    have := sized_slice (j := 1) (t := 22) hz (by first | rfl | (rw [Tryz.params3]; rfl)) rfl Tryz.underlying22
    have e2 : Tryz.prog.bytesOf 49 = 40 := by kernel_rfl
    rw [e2] at this
    unfold reachBytes at this
    omega)
  refine (lawU_any ao bo ca cb la lb xa xb W ra rb (hide ea) (hide eb) (by omega) (by omega) hlaid).mono fun e W' ⟨he, hb⟩ => ?_
  subst he
  refine ⟨_, rfl, _, _, _, [], p0 ++ (p1 ++ []), [], hW', ?_, ?_, ?_, hb.frame _, fun h => by cases h⟩
  · exact trodAll_cons_mk (shut_bool Tryz.underlying4 _) trodAll_mk0
  · exact trodAll_cons_mk (ta W' hb) (trodAll_cons_mk (tb W' hb) trodAll_mk0)
  · rfl

/-! A world for the witness: the settled one, the listed variables holding what the row lists. -/
def flat0 : DataW Unit → Value
  | .lit (.int k n) => .int k n
  | _ => .int .u8 0
def flat1 : DataW Unit → List Value
  | .agg l => l.map flat0
  | _ => []
def flat2 : DataW Unit → List Value
  | .agg l => (l.map flat1).flatten
  | _ => []
def fill (cs : Array Value) : Obj → Obj
  | .cells _ t frozen => .cells cs t frozen
  | o => o
def layIn (w0 : World) : World :=
  { w0 with heap := ((w0.heap.modify 0 (fill #[.iface 129 (.agg #[.pointer (some ⟨22, 52, none⟩)])])).modify 18 (fill (flat1 Rows.laid_unicode_utf8_first).toArray)).modify 19 (fill (flat2 Rows.laid_unicode_utf8_acceptRanges).toArray) }

set_option maxRecDepth 100000 in
theorem laid_met (os : Os) : laidMetH Tryz.prog Rows.undoneRow.laid ((layIn (World.holding Tryz.prog os ⟨#[], #[], []⟩)).forCall (fun _ _ => 0) ⟨#[], #[.slice none 0 0, .slice none 0 0], []⟩).memory :=
  laidMetH_of_parts (laidMet_of_run' 8 (by kernel_rfl) (by kernel_rfl)) (by kernel_rfl)
theorem reads (os : Os) {H : Type} (enc : TypeId × Value → H) : ∃ places, DataW.whole enc Tryz.prog ((layIn (World.holding Tryz.prog os ⟨#[], #[], []⟩)).forCall (fun _ _ => 0) ⟨#[], #[.slice none 0 0, .slice none 0 0], []⟩).memory Tryz.f3.params.toList Rows.undoneSpec.vars false #[Value.slice none 0 0, Value.slice none 0 0].toList 8 = some ([.nil, .nil], [], places) :=
  ⟨[], by kernel_rfl⟩

set_option maxRecDepth 100000 in
theorem lifted (os : Os) (started : os.Started) (H : Type) (enc : TypeId × Value → H) (F : Stop.Interp) :
    ReturnsInHanded {} Tryz.checked os 3 .any ((OpenSpec.ofChange Rows.undoneSpec).preRow enc Tryz.prog Tryz.f3 Rows.undoneRow.domain false Rows.undoneRow.laid) (((OpenSpec.ofChange Rows.undoneSpec).at F).post enc Tryz.prog Tryz.f3 false true false false) := by
  obtain ⟨places, hx⟩ := reads os enc
  refine returnsInHanded_of_row (C := Tryz.checked) (s := OpenSpec.ofChange Rows.undoneSpec) own started (by kernel_rfl) Tryz.func3
    (witness_row_at (enc := enc) (C := Tryz.checked) false (layIn (World.holding Tryz.prog os ⟨#[], #[], []⟩)) #[.slice none 0 0, .slice none 0 0] rfl (by kernel_rfl) (by kernel_rfl) (by kernel_rfl)
      (OpenSpec.preRow_of_cond 8 hx (by kernel_rfl) (fun k hk => by cases hk) (by kernel_rfl) (laid_met os))) ?_
  intro W base args ds gs before hval hW _ _ hz hL hS _
  exact contract H enc W base args ds gs before hval hW hz hL hS

theorem said : Rows.UndoneSaid :=
  OpenClaim.holds_of_cond 3 Tryz.f3 rfl rfl rfl rfl rfl rfl rfl ⟨rfl, rfl, rfl, rfl, rfl⟩ rfl rfl rfl rfl rfl (by kernel_rfl) Tryz.func3 (by kernel_rfl)
    (of_decide_eq_true (by kernel_rfl)) (by unfold Func.isWrapper; first | (rw [if_pos (by decide +kernel)]; kernel_rfl) | (rw [if_neg (by decide +kernel)]; exact ⟨rfl, rfl⟩))
    (fun os started H enc _ F => by rw [OpenClaim.pre_eq_preRow]; exact lifted os started H enc F)

theorem plainly (f : FuncId) (fn : Func) (hf : Tryz.pinned.checked.prog.funcNamed Rows.undoneRow.func = some f) (hfn : Tryz.pinned.checked.prog.funcs[f]? = some fn) :
    true = Tryz.pinned.checked.prog.looks [] ∧ ∀ (j : Nat) t, fn.params[j]? = some t → Tryz.pinned.checked.prog.wantsStandIn t = false := by
  obtain rfl : f = 3 := Option.some.inj ((show Tryz.prog.funcNamed Rows.undoneRow.func = some 3 by kernel_rfl).symm.trans hf) |>.symm
  obtain rfl : fn = Tryz.f3 := (Option.some.inj (Tryz.func3.symm.trans hfn)).symm
  refine ⟨by kernel_rfl, fun j t ht => ?_⟩
  rw [Tryz.params3] at ht
  obtain rfl : t = 22 := by simpa using Array.mem_of_getElem? ht
  exact (show Tryz.prog.wantsStandIn 22 = false by kernel_rfl)

theorem card : Rows.UndoneCardSaid :=
  Claim7.holds_tied_plain_at .later [] _ _ _ _ said (fun _ h => by cases h) (by kernel_rfl) (fun _ h => by cases h) undone_row_tie rfl ⟨rfl, rfl⟩ (by kernel_rfl) rfl plainly (by kernel_rfl)
#print axioms card
end Go.Proofs.YtjofjcjojgpaeaaGreatDoor
