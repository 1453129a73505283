import Derived.Test.YtkeefkfklmhcjaaGreatDoorCards
import Derived.Test.YtkeefkfklmhcjaaGreatDoorTie
import Derived.Test.YtkeefkfklmhcjaaGreatDoorLawS
import Derived.Test.YtkeefkfklmhcjaaGreatDoorOpen
import Derived.ProofKit
import Derived.OpenShut
import Derived.Deep.DeepHandedRow
import Derived.LaidLaws
import Derived.LaidHandle
import Derived.Lib.LaidTab
import Derived.Stop.LaidErr
import Derived.ShutString
import Derived.Shelf.Vars
namespace Go.Proofs.YtkeefkfklmhcjaaGreatDoor
open Go.ChangeShapes Go.WideShapes Go.ChangeAt Go.RowKit
open Go.WideMaps Go.WideElems
open Go.ChangeMaps (setBlock shut_map_nil open_string shut_string keptBut_setBlock frozen?_setBlock heap_setBlock_same)

theorem own : ownKnob Tryz.prog.godebug = none := by kernel_rfl
theorem Tryz.et : Tryz.prog.globalNamed "errors.errorType" = some 0 := by kernel_rfl
theorem Tryz.oneRow : ((List.range 314).filter fun t => Tryz.prog.rowNamed t [101, 114, 114, 111, 114]) = [50] := by kernel_rfl
theorem Tryz.size : Tryz.prog.types.size = 314 := by kernel_rfl
theorem Tryz.handle50 : typeHandle Tryz.prog 50 = .pointer (some ⟨23, 50, none⟩) := by kernel_rfl

/-- The numbers of a table. -/
def nums : DataW Unit → List Int
  | .agg l => l.map fun
    | .lit (.int _ n) => n
    | _ => 0
  | _ => []
theorem map_getD (l : List Nat) (i : Nat) : (l.map fun n : Nat => (n : Int)).getD i 0 = ((l.getD i 0 : Nat) : Int) := by
  rw [List.getD_eq_getElem?_getD, List.getD_eq_getElem?_getD, List.getElem?_map]
  cases l[i]? <;> rfl
/-- What the row's list gives. -/
theorem laid_of {W : World} (h : laidMetH Tryz.prog Rows.sumsUptoRow.laid W) : Tabs W ∧ W.cell? ⟨0, 0, none⟩ = some (.iface 150 (.agg #[.pointer (some ⟨23, 50, none⟩)])) := by
  have h' : laidMet Tryz.prog ((_, Rows.laid_math_bits_deBruijn32tab) :: (_, Rows.laid_math_bits_deBruijn64tab) :: (_, Rows.laid_internal_strconv_uint64pow10) :: (_, Rows.laid_unicode_utf8_acceptRanges) :: (_, Rows.laid_layers_digest_roundWords) :: (_, Rows.laid_unicode_utf8_first) :: []) W ∧ handlesMet Tryz.prog [("errors.errorType", Rows.laid_errors_errorType)] W := h
  have t1 := laidMet.tail h'.1
  have t2 := laidMet.tail t1
  have t4 := laidMet.tail (laidMet.tail t2)
  have e1 : (Rows.laid_math_bits_deBruijn64tab : DataW Unit) = Lib.tabData .u8 (nums Rows.laid_math_bits_deBruijn64tab) := by kernel_rfl
  have e2 : (Rows.laid_internal_strconv_uint64pow10 : DataW Unit) = Lib.tabData .u64 Lib.pow10Tab := by kernel_rfl
  have e4 : (Rows.laid_layers_digest_roundWords : DataW Unit) = Lib.tabData .u32 (Ks.map fun n : Nat => (n : Int)) := by kernel_rfl
  rw [e1] at t1
  rw [e2] at t2
  rw [e4] at t4
  have g1 := Lib.tabIs_of_head (g := 20) (t := 279) (e := 5) (n := 64) (by kernel_rfl) (by kernel_rfl) (by kernel_rfl) (by kernel_rfl) (by kernel_rfl) (by kernel_rfl) t1
  have g2 := Lib.tabIs_of_head (g := 16) (t := 255) (e := 181) (n := 20) (by kernel_rfl) (by kernel_rfl) (by kernel_rfl) (by kernel_rfl) (by kernel_rfl) (by kernel_rfl) t2
  have g4 := Lib.tabIs_of_head (g := 9) (t := 202) (e := 140) (n := 64) (by kernel_rfl) (by kernel_rfl) (by kernel_rfl) (by kernel_rfl) (by kernel_rfl) (by kernel_rfl) t4
  refine ⟨⟨fun i hi => ?_, g2, ?_⟩, ?_⟩
  · have := g4.cell (g := 9) (by kernel_rfl) i (by rw [List.length_map]; exact Nat.lt_of_lt_of_le hi (by decide +kernel))
    rw [this, map_getD]
  · exact (g1.cell (g := 20) (by kernel_rfl) 7 (of_decide_eq_true (by kernel_rfl))).trans (by kernel_rfl)
  · obtain ⟨name, u, ty, e1, e2, e3, e4, e5⟩ := h'.2 _ (List.mem_singleton.2 rfl)
    have en : name = [101, 114, 114, 111, 114] := (Option.some.inj e1).symm
    subst en
    have hu : u = 150 := Option.some.inj (e2.symm.trans (by kernel_rfl))
    subst hu
    have hm : ty ∈ (List.range 314).filter fun t => Tryz.prog.rowNamed t [101, 114, 114, 111, 114] := List.mem_filter.2 ⟨List.mem_range.2 (by rw [← Tryz.size]; exact e3), e4⟩
    rw [Tryz.oneRow] at hm
    obtain rfl := List.mem_singleton.1 hm
    rw [Tryz.handle50] at e5
    simpa using World.var?_cell Tryz.et e5 0
/-- The library's variable that holds a number, whatever number. -/
theorem number_of_shaped {W : World} (h : W.ShapedOpen Tryz.prog) : ∃ m, W.cell? ⟨15, 0, none⟩ = some (.int .i64 m) :=
  Go.Proofs.cell_of_shapedOpen_int (zero := #[.int .i64 0]) (t := 3) h (of_decide_eq_true (by kernel_rfl)) (by kernel_rfl) rfl (by kernel_rfl) (by kernel_rfl) Tryz.underlying3
theorem bulk_mem {H : Type} {d : DataW H} : ∀ {l : List (DataW H)}, d ∈ l → Rows.uptoBulk d ≤ Rows.uptoBulkAll l
  | x :: r, h => by
    rw [Rows.uptoBulkAll]
    rcases List.mem_cons.1 h with rfl | h
    · omega
    · have := bulk_mem h; omega
theorem bulk_ent {H : Type} (e : Ent) : Rows.uptoBulk (litE (H := H) e) = e.path.size + e.data.size + 5 := by
  have h1 : e.path.data.toList.length = e.path.size := Array.length_toList
  have h2 : e.data.data.toList.length = e.data.size := Array.length_toList
  simp only [litE, Rows.uptoBulk, Rows.uptoBulkAll]
  omega
theorem bulk_len {H : Type} (E : Nat → Ent) : ∀ l : List Nat, l.length ≤ Rows.uptoBulkAll (l.map fun i => litE (H := H) (E i))
  | [] => by simp
  | i :: r => by
    have := bulk_len (H := H) E r
    simp only [List.map_cons, Rows.uptoBulkAll, List.length_cons, bulk_ent]
    omega
theorem small_of {H : Type} {len : Nat} {E : Nat → Ent} {sp : List (DataW H)} (hk : Rows.uptoSmall H [.slice ((List.range len).map fun i => litE (E i)) sp] = true) : len ≤ 1048576 ∧ Small ((List.range len).map E) := by
  have h := of_decide_eq_true hk
  simp only [Rows.uptoBulkAll, Rows.uptoBulk] at h
  have h1 := bulk_len (H := H) E (List.range len)
  rw [List.length_range] at h1
  refine ⟨by omega, fun e he => ?_⟩
  obtain ⟨i, hi, rfl⟩ := List.mem_map.1 he
  have h2 := bulk_mem (H := H) (List.mem_map.2 ⟨i, hi, rfl⟩ : litE (E i) ∈ (List.range len).map fun i => litE (E i))
  rw [bulk_ent] at h2
  omega
theorem erow_of {W : World} {a : Addr} {len cap : Nat} {E : Nat → Ent} (hl : len ≤ cap) (hx : ∀ i, i < cap → OkE (E i) ∧ a.spot = none ∧ W.cells? 0 (a.add (i * 4)) 4 = some (E i).cells) : ERow W (some a) ((List.range len).map E) := by
  intro k e hk
  rw [List.getElem?_map] at hk
  obtain ⟨j, hj, rfl⟩ := Option.map_eq_some_iff.1 hk
  have hk' : k < len := by
    have := (List.getElem?_eq_some_iff.1 hj).1
    simpa using this
  rw [List.getElem?_range hk'] at hj
  cases hj
  obtain ⟨_, h2, h3⟩ := hx k (by omega)
  obtain ⟨g, o, sp⟩ := a
  simp only at h2
  subst h2
  have h4 := (World.cells?_some h3).2.2
  rw [Addr.add_lit] at h4
  refine ⟨g, o, rfl, ?_, ?_, ?_, ?_⟩
  · have := h4 0 (by decide); rw [Addr.add_lit] at this; exact this
  · have := h4 1 (by decide); rw [Addr.add_lit] at this; exact this
  · have := h4 2 (by decide); rw [Addr.add_lit] at this; exact this
  · have := h4 3 (by decide); rw [Addr.add_lit] at this; exact this
theorem cells_same {W W' : World} (hb : Below W.heap.size W W') {a : Addr} {n : Nat} {cs : List Value} (hn : 0 < n) (h : W.cells? 0 a n = some cs) : W'.cells? 0 a n = some cs := by
  refine World.cells?_carry h (fun p hp => hb.same ?_)
  unfold MemPlace.row at hp
  obtain ⟨j, _, rfl⟩ := List.mem_map.1 hp
  exact World.cells?_block h hn
set_option maxRecDepth 100000 in
theorem contract (H : Type) (enc : TypeId × Value → H) (W : World) (base : Nat) (args : Array Value) (ds gs : List (DataW H)) (before : List MemPlace)
    (hval : ∀ (j : Nat) t v, Tryz.f3.params[j]? = some t → args[j]? = some v → Value.okWide Tryz.prog W .any base t v)
    (hW : DataW.Whole enc Tryz.prog Tryz.f3.params.toList Rows.sumsSpec.vars false W args.toList ds gs before)
    (hk : Rows.uptoSmall H (ds ++ gs) = true)
    (hL : laidMetH Tryz.prog Rows.sumsUptoRow.laid W) (hS : W.ShapedOpen Tryz.prog) :
    Calls Tryz.prog 3 args W fun e W' => ∃ v, e = .returned v ∧ Rows.sumsSpec.post enc Tryz.prog Tryz.f3 false true false false W args v W' := by
  have hW' := hW
  obtain ⟨p, q, hA0, hV, rfl, hfz, hnd⟩ := hW
  have hA : DataW.TrodAll enc Tryz.prog W 0 (fun _ => true) true Tryz.f3.params.toList args.toList ds p := hA0
  rw [Tryz.params3] at hA hval
  obtain ⟨v0, vs0, d0, ds0, p0, q0, hargs, rfl, rfl, h0, r0⟩ := trodAll_cons hA
  obtain ⟨rfl, rfl, rfl⟩ := trodAll_nil r0
  obtain rfl : args = #[v0] := by cases args; simp_all
  obtain ⟨rfl, rfl⟩ := trodVars_none hV
  obtain ⟨ao, len, cap, hv⟩ := okWide_slice Tryz.underlying22 (hval 0 22 v0 rfl rfl)
  subst hv
  clear hA0 hA
  simp only [List.append_nil] at hW' hk
  have hlaid : LaidS W := ⟨(laid_of hL).1, (laid_of hL).2, number_of_shaped hS⟩
  rcases open_ents rfl h0 with ⟨he, rfl, rfl⟩ | ⟨a, len', cap', E, he, hl, hm, rfl, rfl, hx⟩
  · cases he
    refine (lawS_any none 0 0 [] W (erow_nil _ _) (hide rfl) (by decide) (by decide) (hide (fun e he => by simp at he)) hlaid).mono fun e W' ⟨he, hb⟩ => ?_
    subst he
    refine ⟨_, rfl, _, _, _, [], [], [], hW', ?_, ?_, ?_, hb.frame _, fun h => by cases h⟩
    · exact trodAll_cons_mk (shut_bool Tryz.underlying4 _) trodAll_mk0
    · exact trodAll_cons_mk (shut_slice_nil Tryz.underlying22) trodAll_mk0
    · rfl
  · cases he
    obtain ⟨b1, b2⟩ := small_of hk
    refine (lawS_any (some a) cap len ((List.range len).map E) W (erow_of hl hx) (hide (by simp)) (by omega) hl (hide b2) hlaid).mono fun e W' ⟨he, hb⟩ => ?_
    subst he
    have hargs' : DataW.Trod enc Tryz.prog W' 0 (fun b => decide (b < W.heap.size)) true 22 (.slice (some a) len cap) (.slice ((List.range len).map fun i => litE (E i)) ((List.range (cap - len)).map fun j => litE (E (len + j)))) (MemPlace.row a (cap * 4)) := by
      by_cases hblk : a.block < W.heap.size
      · exact shut_ents hl hm (by simpa using hblk) (fun i hi => ⟨(hx i hi).1, cells_same hb (by decide) (hx i hi).2.2⟩)
      · have hc : cap = 0 := by
          rcases Nat.eq_zero_or_pos cap with h | h
          · exact h
          · have h3 := (hx 0 h).2.2
            simp only [Nat.zero_mul, Addr.add_zero'] at h3
            exact absurd (World.cells?_block h3 (by decide)) hblk
        subst hc
        obtain rfl : len = 0 := by omega
        have h := Go.Deep.shut_slice (enc := enc) (w := W') (base := 0) (held := true) (spare := fun b => decide (b < W.heap.size)) (a := a) (len := 0) (cap := 0) Tryz.underlying22 (Nat.zero_le _) (Nat.le_refl _) hm (by simpa using hblk) (fun i => litE (E i)) (fun _ => []) (fun i hi => absurd hi (Nat.not_lt_zero _))
        rw [Nat.zero_mul] at h
        exact h
    refine ⟨_, rfl, _, _, _, [], MemPlace.row a (cap * 4) ++ [], [], hW', ?_, ?_, ?_, hb.frame _, fun h => by cases h⟩
    · exact trodAll_cons_mk (shut_bool Tryz.underlying4 _) trodAll_mk0
    · exact trodAll_cons_mk hargs' trodAll_mk0
    · rfl

/-! A world for the witness: the settled one, the listed variables holding what the row lists. -/
def flat0 : DataW Unit → Value
  | .lit (.int k n) => .int k n
  | _ => .int .u8 0
def flat1 : DataW Unit → List Value
  | .agg l => l.map flat0
  | _ => []
def flat2 : DataW Unit → List Value
  | .agg l => (l.map flat1).flatten
  | _ => []
def fill (cs : Array Value) : Obj → Obj
  | .cells _ t frozen => .cells cs t frozen
  | o => o
def layIn (w0 : World) : World :=
  { w0 with heap := ((((((w0.heap.modify 0 (fill #[.iface 150 (.agg #[.pointer (some ⟨23, 50, none⟩)])])).modify 9 (fill (flat1 Rows.laid_layers_digest_roundWords).toArray)).modify 16 (fill (flat1 Rows.laid_internal_strconv_uint64pow10).toArray)).modify 17 (fill (flat1 Rows.laid_unicode_utf8_first).toArray)).modify 18 (fill (flat2 Rows.laid_unicode_utf8_acceptRanges).toArray)).modify 19 (fill (flat1 Rows.laid_math_bits_deBruijn32tab).toArray)).modify 20 (fill (flat1 Rows.laid_math_bits_deBruijn64tab).toArray) }

set_option maxRecDepth 100000 in
theorem laid_met (os : Os) : laidMetH Tryz.prog Rows.sumsUptoRow.laid ((layIn (World.holding Tryz.prog os ⟨#[], #[], []⟩)).forCall (fun _ _ => 0) ⟨#[], #[.slice none 0 0], []⟩).memory :=
  laidMetH_of_parts (laidMet_of_run' 8 (by kernel_rfl) (by kernel_rfl)) (by kernel_rfl)
theorem reads (os : Os) {H : Type} (enc : TypeId × Value → H) : ∃ places, DataW.whole enc Tryz.prog ((layIn (World.holding Tryz.prog os ⟨#[], #[], []⟩)).forCall (fun _ _ => 0) ⟨#[], #[.slice none 0 0], []⟩).memory Tryz.f3.params.toList Rows.sumsSpec.vars false #[Value.slice none 0 0].toList 8 = some ([.nil], [], places) :=
  ⟨[], by kernel_rfl⟩

set_option maxRecDepth 100000 in
theorem liftedUpto (os : Os) (started : os.Started) (H : Type) (enc : TypeId × Value → H) (F : Stop.Interp) :
    ReturnsInHanded {} Tryz.checked os 3 .any ((Rows.OpenSpec.upto Rows.sumsSpec).preRow enc Tryz.prog Tryz.f3 Rows.sumsUptoRow.domain false Rows.sumsUptoRow.laid) (((Rows.OpenSpec.upto Rows.sumsSpec).at F).post enc Tryz.prog Tryz.f3 false true false false) := by
  obtain ⟨places, hx⟩ := reads os enc
  refine returnsInHanded_of_row (C := Tryz.checked) (s := Rows.OpenSpec.upto Rows.sumsSpec) own started (by kernel_rfl) Tryz.func3
    (witness_row_at (enc := enc) (C := Tryz.checked) false (layIn (World.holding Tryz.prog os ⟨#[], #[], []⟩)) #[.slice none 0 0] rfl (by kernel_rfl) (by kernel_rfl) (by kernel_rfl)
      (OpenSpec.preRow_of_cond 8 hx (by kernel_rfl) (fun k hk => by cases hk; kernel_rfl) (by kernel_rfl) (laid_met os))) ?_
  intro W base args ds gs before hval hW _ hcond _ hL hS _
  exact contract H enc W base args ds gs before hval hW (hcond _ rfl) hL hS

theorem saidUpto : Rows.SumsUptoSaid :=
  OpenClaim.holds_of_cond 3 Tryz.f3 rfl rfl rfl rfl rfl rfl rfl ⟨rfl, rfl, rfl, rfl, rfl⟩ rfl rfl rfl rfl rfl (by kernel_rfl) Tryz.func3 (by kernel_rfl)
    (of_decide_eq_true (by kernel_rfl)) (by unfold Func.isWrapper; first | (rw [if_pos (by decide +kernel)]; kernel_rfl) | (rw [if_neg (by decide +kernel)]; exact ⟨rfl, rfl⟩))
    (fun os started H enc _ F => by rw [OpenClaim.pre_eq_preRow]; exact liftedUpto os started H enc F)

theorem plainly (f : FuncId) (fn : Func) (hf : Tryz.pinned.checked.prog.funcNamed Rows.sumsUptoRow.func = some f) (hfn : Tryz.pinned.checked.prog.funcs[f]? = some fn) :
    true = Tryz.pinned.checked.prog.looks [] ∧ ∀ (j : Nat) t, fn.params[j]? = some t → Tryz.pinned.checked.prog.wantsStandIn t = false := by
  obtain rfl : f = 3 := Option.some.inj ((show Tryz.prog.funcNamed Rows.sumsUptoRow.func = some 3 by kernel_rfl).symm.trans hf) |>.symm
  obtain rfl : fn = Tryz.f3 := (Option.some.inj (Tryz.func3.symm.trans hfn)).symm
  refine ⟨by kernel_rfl, fun j t ht => ?_⟩
  rw [Tryz.params3] at ht
  obtain rfl : t = 22 := by simpa using Array.mem_of_getElem? ht
  exact (show Tryz.prog.wantsStandIn 22 = false by kernel_rfl)

theorem cardUpto : Rows.SumsUptoCardSaid :=
  Claim7.holds_tied_plain_at .later [] _ _ _ _ saidUpto (fun _ h => by cases h) (by kernel_rfl) (fun _ h => by cases h) sumsUpto_row_tie rfl ⟨rfl, rfl⟩ (by kernel_rfl) rfl plainly (by kernel_rfl)
#print axioms cardUpto
end Go.Proofs.YtkeefkfklmhcjaaGreatDoor
