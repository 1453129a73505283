import Derived.Test.YtjofjcjojgpaeaaGreatDoorCards
import Derived.Test.YtjofjcjojgpaeaaGreatDoorTie
import Derived.Test.YtjofjcjojgpaeaaGreatDoorJThrE
import Derived.ChangeSame
import Derived.Test.YtjofjcjojgpaeaaGreatDoorJOpen
import Derived.ProofKit
import Derived.SizedLaws
import Derived.OpenShut
import Derived.Deep.DeepHandedRow
import Derived.LaidLaws
import Derived.LaidHandle
import Derived.Lib.LaidTab
import Derived.Stop.LaidErr
import Derived.ShutString
import Derived.Shelf.Vars
namespace Go.Proofs.YtjofjcjojgpaeaaGreatDoor
open Go.ChangeShapes Go.WideShapes Go.ChangeAt Go.RowKit
open Go.WideMaps Go.WideElems
open Go.ChangeMaps (setBlock shut_map_nil open_string shut_string keptBut_setBlock frozen?_setBlock heap_setBlock_same)

theorem own : ownKnob Tryz.prog.godebug = none := by kernel_rfl
theorem Tryz.et : Tryz.prog.globalNamed "errors.errorType" = some 0 := by kernel_rfl
theorem Tryz.oneRow : ((List.range 285).filter fun t => Tryz.prog.rowNamed t [101, 114, 114, 111, 114]) = [52] := by kernel_rfl
theorem Tryz.size : Tryz.prog.types.size = 285 := by kernel_rfl
theorem Tryz.handle52 : typeHandle Tryz.prog 52 = .pointer (some ⟨22, 52, none⟩) := by kernel_rfl
/-- The numbers of a table. -/
def nums : DataW Unit → List Int
  | .agg l => l.map fun
    | .lit (.int _ n) => n
    | _ => 0
  | _ => []
/-- A pair of numbers that stands first on the list. -/
theorem pair_of_head {W : World} {name : String} {a b : Int} {rest : List (String × DataW Unit)} {g : Nat} (hg : Tryz.prog.globalNamed name = some g) (hty : (Tryz.prog.globals[g]?).map (·.type) = some 168)
    (h : laidMet Tryz.prog ((name, .agg [.lit (.int .i64 a), .lit (.int .i64 b)]) :: rest) W) : W.cell? ⟨g, 0, none⟩ = some (.int .i64 a) ∧ W.cell? ⟨g, 1, none⟩ = some (.int .i64 b) := by
  obtain ⟨ps, ⟨g', t', cs, fuel, p, q, hg', ht', hvar, hd, _, _⟩, _⟩ := h
  obtain rfl := Option.some.inj (hg.symm.trans hg')
  obtain rfl := Option.some.inj (hty.symm.trans ht')
  obtain ⟨y0, y1, n, hx, hl, h0', h1'⟩ := trod_struct2 Tryz.underlying168 hd
  have h0 : DataW.trod (fun _ => ()) Tryz.prog W 0 (fun _ => true) false n 3 ((cs.toList.drop 0).take (Tryz.prog.cellsOf 3)) = some y0 := h0'
  have h1 : DataW.trod (fun _ => ()) Tryz.prog W 0 (fun _ => true) false n 3 ((cs.toList.drop 1).take (Tryz.prog.cellsOf 3)) = some y1 := h1'
  have hl2 : cs.toList.length = 2 := hl.trans (by kernel_rfl)
  have c3 : Tryz.prog.cellsOf 3 = 1 := by kernel_rfl
  rw [c3] at h0 h1
  obtain ⟨x0, e0, rfl, _⟩ := DataW.trod_int Tryz.underlying3 h0
  obtain ⟨x1, e1, rfl, _⟩ := DataW.trod_int Tryz.underlying3 h1
  injection hx with hx _
  injection hx with hx
  injection hx with hx0 hx1
  injection hx1 with hx1 _
  injection hx0 with hx0
  injection hx1 with hx1
  injection hx0 with _ hx0
  injection hx1 with _ hx1
  subst hx0 hx1
  have q0 : cs.toList[0]? = some (.int .i64 a) := by
    have := congrArg (·[0]?) e0
    simpa [List.getElem?_take, List.getElem?_drop] using this
  have q1 : cs.toList[1]? = some (.int .i64 b) := by
    have := congrArg (·[0]?) e1
    simpa [List.getElem?_take, List.getElem?_drop] using this
  refine ⟨?_, ?_⟩
  · have := World.var?_cell hg hvar 0
    rw [this, ← Array.getElem?_toList, q0]
  · have := World.var?_cell hg hvar 1
    rw [this, ← Array.getElem?_toList, q1]
/-- A value of an interface that stands first on the list. -/
theorem iface_of_head {W : World} {name nm : String} {d : DataW Unit} {rest : List (String × DataW Unit)} {g : Nat} (hg : Tryz.prog.globalNamed name = some g) (hty : (Tryz.prog.globals[g]?).map (·.type) = some 52)
    (h : laidMet Tryz.prog ((name, .iface nm d) :: rest) W) : ∃ (te : Nat) (pe : Value), W.cell? ⟨g, 0, none⟩ = some (.iface te pe) := by
  obtain ⟨ps, ⟨g', t', cs, fuel, p, q, hg', ht', hvar, hd, _, _⟩, _⟩ := h
  obtain rfl := Option.some.inj (hg.symm.trans hg')
  obtain rfl := Option.some.inj (hty.symm.trans ht')
  cases fuel with
  | zero => simp [DataW.trod] at hd
  | succ fuel =>
    have hx : ∃ u v, cs.toList = [.iface u v] := by
      cases hl : cs.toList with
      | nil => simp [DataW.trod, Tryz.underlying52, hl] at hd
      | cons x r =>
        cases r with
        | nil => cases x <;> first | exact ⟨_, _, rfl⟩ | (simp [DataW.trod, Tryz.underlying52, hl] at hd)
        | cons y r => simp [DataW.trod, Tryz.underlying52, hl] at hd
    obtain ⟨u, v, hx⟩ := hx
    refine ⟨u, v, ?_⟩
    rw [World.var?_cell hg hvar 0, ← Array.getElem?_toList, hx]; rfl
/-- What the row's list gives. -/
theorem laid_of {W : World} (h : laidMetH Tryz.prog Rows.throughRow.laid W) : Flds W ∧ W.cell? ⟨21, 7, none⟩ = some (.int .u8 3) ∧ (∃ (te : Nat) (pe : Value), W.cell? ⟨16, 0, none⟩ = some (.iface te pe)) ∧ W.cell? ⟨0, 0, none⟩ = some (.iface 129 (.agg #[.pointer (some ⟨22, 52, none⟩)])) := by
  have h' : laidMet Tryz.prog ((_, Rows.laid_math_bits_deBruijn32tab) :: (_, Rows.laid_math_bits_deBruijn64tab) :: (_, Rows.laid_internal_strconv_uint64pow10) :: (_, Rows.laid_unicode_utf8_acceptRanges) :: ("strconv.ErrRange", Rows.laid_strconv_ErrRange) :: ("strconv.ErrSyntax", Rows.laid_strconv_ErrSyntax) :: (_, Rows.laid_layers_archive_nameField) :: (_, Rows.laid_layers_archive_modeField) :: (_, Rows.laid_layers_archive_userField) :: (_, Rows.laid_layers_archive_groupField) :: (_, Rows.laid_layers_archive_sizeField) :: (_, Rows.laid_layers_archive_timeField) :: (_, Rows.laid_layers_archive_checkField) :: (_, Rows.laid_layers_archive_kindField) :: (_, Rows.laid_layers_archive_linkField) :: (_, Rows.laid_layers_archive_magicField) :: (_, Rows.laid_layers_archive_deviceField) :: (_, Rows.laid_layers_archive_device2Field) :: (_, Rows.laid_layers_archive_aheadField) :: (_, Rows.laid_unicode_utf8_first) :: []) W ∧ handlesMet Tryz.prog [("errors.errorType", Rows.laid_errors_errorType)] W := h
  have t0 := h'.1
  have t1 := laidMet.tail t0
  have t2 := laidMet.tail t1
  have t3 := laidMet.tail t2
  have t4 := laidMet.tail t3
  have t5 := laidMet.tail t4
  have t6 := laidMet.tail t5
  have t7 := laidMet.tail t6
  have t8 := laidMet.tail t7
  have t9 := laidMet.tail t8
  have t10 := laidMet.tail t9
  have t11 := laidMet.tail t10
  have t12 := laidMet.tail t11
  have t13 := laidMet.tail t12
  have t14 := laidMet.tail t13
  have t15 := laidMet.tail t14
  have t16 := laidMet.tail t15
  have t17 := laidMet.tail t16
  have t18 := laidMet.tail t17
  have t19 := laidMet.tail t18
  have e1 : (Rows.laid_math_bits_deBruijn64tab : DataW Unit) = Lib.tabData .u8 (nums Rows.laid_math_bits_deBruijn64tab) := by kernel_rfl
  rw [e1] at t1
  have g1 := Lib.tabIs_of_head (g := 21) (t := 258) (e := 5) (n := 64) (by kernel_rfl) (by kernel_rfl) (by kernel_rfl) (by kernel_rfl) (by kernel_rfl) (by kernel_rfl) t1
  have es := iface_of_head (g := 16) (by kernel_rfl) (by kernel_rfl) t5
  have f11 := pair_of_head (g := 10) (by kernel_rfl) (by kernel_rfl) t6
  have f1 := pair_of_head (g := 1) (by kernel_rfl) (by kernel_rfl) t7
  have f2 := pair_of_head (g := 2) (by kernel_rfl) (by kernel_rfl) t8
  have f3 := pair_of_head (g := 3) (by kernel_rfl) (by kernel_rfl) t9
  have f4 := pair_of_head (g := 4) (by kernel_rfl) (by kernel_rfl) t10
  have f5 := pair_of_head (g := 5) (by kernel_rfl) (by kernel_rfl) t11
  have f14 := pair_of_head (g := 13) (by kernel_rfl) (by kernel_rfl) t12
  have f12 := pair_of_head (g := 11) (by kernel_rfl) (by kernel_rfl) t13
  have f13 := pair_of_head (g := 12) (by kernel_rfl) (by kernel_rfl) t14
  have f6 := pair_of_head (g := 6) (by kernel_rfl) (by kernel_rfl) t15
  have f7 := pair_of_head (g := 7) (by kernel_rfl) (by kernel_rfl) t16
  have f8 := pair_of_head (g := 8) (by kernel_rfl) (by kernel_rfl) t17
  have f10 := pair_of_head (g := 9) (by kernel_rfl) (by kernel_rfl) t18
  refine ⟨?_, ?_, es, ?_⟩
  · intro t ht
    simp only [fieldTab, List.mem_cons, List.not_mem_nil, or_false] at ht
    rcases ht with rfl | rfl | rfl | rfl | rfl | rfl | rfl | rfl | rfl | rfl | rfl | rfl | rfl
    · exact f1
    · exact f2
    · exact f3
    · exact f4
    · exact f5
    · exact f6
    · exact f7
    · exact f8
    · exact f10
    · exact f11
    · exact f12
    · exact f13
    · exact f14
  · exact (g1.cell (g := 21) (by kernel_rfl) 7 (of_decide_eq_true (by kernel_rfl))).trans (by kernel_rfl)
  · obtain ⟨name, u, ty, e1, e2, e3, e4, e5⟩ := h'.2 _ (List.mem_singleton.2 rfl)
    have en : name = [101, 114, 114, 111, 114] := (Option.some.inj e1).symm
    subst en
    have hu : u = 129 := Option.some.inj (e2.symm.trans (by kernel_rfl))
    subst hu
    have hm : ty ∈ (List.range 285).filter fun t => Tryz.prog.rowNamed t [101, 114, 114, 111, 114] := List.mem_filter.2 ⟨List.mem_range.2 (by rw [← Tryz.size]; exact e3), e4⟩
    rw [Tryz.oneRow] at hm
    obtain rfl := List.mem_singleton.1 hm
    rw [Tryz.handle52] at e5
    simpa using World.var?_cell Tryz.et e5 0
/-- The library's variable that holds a number, whatever number. -/
theorem number_of_shaped {W : World} (h : W.ShapedOpen Tryz.prog) : ∃ m, W.cell? ⟨14, 0, none⟩ = some (.int .i64 m) :=
  Go.Proofs.cell_of_shapedOpen_int (zero := #[.int .i64 0]) (t := 3) h (of_decide_eq_true (by kernel_rfl)) (by kernel_rfl) rfl (by kernel_rfl) (by kernel_rfl) Tryz.underlying3
theorem erow_of {W : World} {a : Addr} {len cap : Nat} {E : Nat → Tg} (hl : len ≤ cap) (hx : ∀ i, i < cap → OkT (E i) ∧ a.spot = none ∧ W.cells? 0 (a.add (i * 4)) 4 = some (E i).cells) : TgRow W (some a) ((List.range len).map E) := by
  intro k e hk
  rw [List.getElem?_map] at hk
  obtain ⟨j, hj, rfl⟩ := Option.map_eq_some_iff.1 hk
  have hk' : k < len := by
    have := (List.getElem?_eq_some_iff.1 hj).1
    simpa using this
  rw [List.getElem?_range hk'] at hj
  cases hj
  obtain ⟨_, h2, h3⟩ := hx k (by omega)
  obtain ⟨g, o, sp⟩ := a
  simp only at h2
  subst h2
  have h4 := (World.cells?_some h3).2.2
  rw [Addr.add_lit] at h4
  refine ⟨g, o, rfl, ?_, ?_, ?_, ?_⟩
  · have := h4 0 (by decide); rw [Addr.add_lit] at this; exact this
  · have := h4 1 (by decide); rw [Addr.add_lit] at this; exact this
  · have := h4 2 (by decide); rw [Addr.add_lit] at this; exact this
  · have := h4 3 (by decide); rw [Addr.add_lit] at this; exact this
theorem cells_same {W W' : World} (hb : Below W.heap.size W W') {a : Addr} {n : Nat} {cs : List Value} (hn : 0 < n) (h : W.cells? 0 a n = some cs) : W'.cells? 0 a n = some cs := by
  refine World.cells?_carry h (fun p hp => hb.same ?_)
  unfold MemPlace.row at hp
  obtain ⟨j, _, rfl⟩ := List.mem_map.1 hp
  exact World.cells?_block h hn
/-- A list of entries that was handed in: what the walk asks of it, and how it reads behind. -/
theorem arg_open {H : Type} {enc : TypeId × Value → H} {W : World} {ao : Option Addr} {len cap : Nat} {d : DataW H} {p : List MemPlace} (h0 : DataW.Trod enc Tryz.prog W 0 (fun _ => true) true 22 (.slice ao len cap) d p) (hk : ∀ el sp, d = .slice el sp → el.length ≤ 140737488351232) :
    ∃ es : List Tg, len = es.length ∧ len ≤ 140737488351232 ∧ len ≤ cap ∧ TgRow W ao es ∧ ∀ W' : World, Below W.heap.size W W' → DataW.Trod enc Tryz.prog W' 0 (fun b => decide (b < W.heap.size)) true 22 (.slice ao len cap) d p := by
  rcases open_tgs rfl h0 with ⟨he, rfl, rfl⟩ | ⟨a, len', cap', E, he, hl, hm, rfl, rfl, hx⟩
  · cases he
    exact ⟨[], rfl, by omega, by omega, fun k e hk => by simp at hk, fun W' _ => shut_slice_nil Tryz.underlying22⟩
  · cases he
    have b1 : len ≤ 140737488351232 := by simpa using hk _ _ rfl
    refine ⟨(List.range len).map E, by simp, b1, hl, erow_of hl hx, fun W' hb => ?_⟩
    by_cases hblk : a.block < W.heap.size
    · exact shut_tgs hl hm (by simpa using hblk) (fun i hi => ⟨(hx i hi).1, cells_same hb (by decide) (hx i hi).2.2⟩)
    · have hc : cap = 0 := by
        rcases Nat.eq_zero_or_pos cap with h | h
        · exact h
        · have h3 := (hx 0 h).2.2
          simp only [Nat.zero_mul, Addr.add_zero'] at h3
          exact absurd (World.cells?_block h3 (by decide)) hblk
      subst hc
      obtain rfl : len = 0 := by omega
      have h := Go.Deep.shut_slice (enc := enc) (w := W') (base := 0) (held := true) (spare := fun b => decide (b < W.heap.size)) (a := a) (len := 0) (cap := 0) Tryz.underlying22 (Nat.zero_le _) (Nat.le_refl _) hm (by simpa using hblk) (fun i => litT (E i)) (fun _ => []) (fun i hi => absurd hi (Nat.not_lt_zero _))
      rw [Nat.zero_mul] at h
      exact h
set_option maxRecDepth 100000 in
theorem contract (H : Type) (enc : TypeId × Value → H) (W : World) (base : Nat) (args : Array Value) (ds gs : List (DataW H)) (before : List MemPlace)
    (hval : ∀ (j : Nat) t v, Tryz.f4.params[j]? = some t → args[j]? = some v → Value.okWide Tryz.prog W .any base t v)
    (hW : DataW.Whole enc Tryz.prog Tryz.f4.params.toList Rows.throughSpec.vars false W args.toList ds gs before)
    (hz : (DataW.weightsEach Tryz.prog (Tryz.f4.params.toList ++ (OpenSpec.ofChange Rows.throughSpec).bare.plain.varTypes Tryz.prog) (ds ++ gs)).all (· ≤ reachBytes) = true)
    (hL : laidMetH Tryz.prog Rows.throughRow.laid W) (hS : W.ShapedOpen Tryz.prog) :
    Calls Tryz.prog 4 args W fun e W' => ∃ v, e = .returned v ∧ Rows.throughSpec.post enc Tryz.prog Tryz.f4 false true false false W args v W' := by
  have hW' := hW
  obtain ⟨p, q, hA0, hV, rfl, hfz, hnd⟩ := hW
  have hA : DataW.TrodAll enc Tryz.prog W 0 (fun _ => true) true Tryz.f4.params.toList args.toList ds p := hA0
  rw [Tryz.params4] at hA hval
  obtain ⟨v0, vs0, d0, ds0, p0, q0, hargs, rfl, rfl, h0, r0⟩ := trodAll_cons hA
  obtain ⟨v1, vs1, d1, ds1, p1, q1, hargs1, rfl, rfl, h1, r1⟩ := trodAll_cons r0
  obtain ⟨rfl, rfl, rfl⟩ := trodAll_nil r1
  obtain rfl : args = #[v0, v1] := by cases args; simp_all
  obtain ⟨rfl, rfl⟩ := trodVars_none hV
  obtain ⟨ao, la, ca, hv0⟩ := okWide_slice Tryz.underlying22 (hval 0 22 v0 rfl rfl)
  obtain ⟨bo, lb, cb, hv1⟩ := okWide_slice Tryz.underlying22 (hval 1 22 v1 rfl rfl)
  subst hv0 hv1
  clear hA0 hA
  simp only [List.append_nil] at hW' hz
  obtain ⟨l1, l2, l3, l4⟩ := laid_of hL
  have hlaid : LaidU W := ⟨l4, ⟨⟨l1, l2, number_of_shaped hS⟩, l3⟩⟩
  obtain ⟨xa, ea, la1, la2, ra, ta⟩ := arg_open h0 (fun el sp e => by
    subst e
    have := sized_slice (j := 0) (t := 22) hz (by first | rfl | (rw [Tryz.params4]; rfl)) rfl Tryz.underlying22
    have e2 : Tryz.prog.bytesOf 49 = 40 := by kernel_rfl
    rw [e2] at this
    unfold reachBytes at this
    omega)
  obtain ⟨xb, eb, lb1, lb2, rb, tb⟩ := arg_open h1 (fun el sp e => by
    subst e
    have := sized_slice (j := 1) (t := 22) hz (by first | rfl | (rw [Tryz.params4]; rfl)) rfl Tryz.underlying22
    have e2 : Tryz.prog.bytesOf 49 = 40 := by kernel_rfl
    rw [e2] at this
    unfold reachBytes at this
    omega)
  refine (lawH_any ao bo ca cb la lb xa xb W ra rb (hide ea) (hide eb) (by omega) (by omega) hlaid).mono fun e W' ⟨he, hb⟩ => ?_
  subst he
  refine ⟨_, rfl, _, _, _, [], p0 ++ (p1 ++ []), [], hW', ?_, ?_, ?_, hb.frame _, fun h => by cases h⟩
  · exact trodAll_cons_mk (shut_bool Tryz.underlying4 _) trodAll_mk0
  · exact trodAll_cons_mk (ta W' hb) (trodAll_cons_mk (tb W' hb) trodAll_mk0)
  · rfl

/-! A world for the witness: the settled one, the listed variables holding what the row lists. -/
def flat0 : DataW Unit → Value
  | .lit (.int k n) => .int k n
  | _ => .int .u8 0
def flat1 : DataW Unit → List Value
  | .agg l => l.map flat0
  | _ => []
def flat2 : DataW Unit → List Value
  | .agg l => (l.map flat1).flatten
  | _ => []
def fill (cs : Array Value) : Obj → Obj
  | .cells _ t frozen => .cells cs t frozen
  | o => o
def layIn (w0 : World) : World :=
  { w0 with heap := ((((((((((((((((((((((w0.heap.modify 0 (fill #[.iface 129 (.agg #[.pointer (some ⟨22, 52, none⟩)])])).modify 10 (fill (flat1 Rows.laid_layers_archive_nameField).toArray)).modify 1 (fill (flat1 Rows.laid_layers_archive_modeField).toArray)).modify 2 (fill (flat1 Rows.laid_layers_archive_userField).toArray)).modify 3 (fill (flat1 Rows.laid_layers_archive_groupField).toArray)).modify 4 (fill (flat1 Rows.laid_layers_archive_sizeField).toArray)).modify 5 (fill (flat1 Rows.laid_layers_archive_timeField).toArray)).modify 13 (fill (flat1 Rows.laid_layers_archive_checkField).toArray)).modify 11 (fill (flat1 Rows.laid_layers_archive_kindField).toArray)).modify 12 (fill (flat1 Rows.laid_layers_archive_linkField).toArray)).modify 6 (fill (flat1 Rows.laid_layers_archive_magicField).toArray)).modify 7 (fill (flat1 Rows.laid_layers_archive_deviceField).toArray)).modify 8 (fill (flat1 Rows.laid_layers_archive_device2Field).toArray)).modify 9 (fill (flat1 Rows.laid_layers_archive_aheadField).toArray)).modify 15 (fill (flat1 Rows.laid_internal_strconv_uint64pow10).toArray)).modify 18 (fill (flat1 Rows.laid_unicode_utf8_first).toArray)).modify 19 (fill (flat2 Rows.laid_unicode_utf8_acceptRanges).toArray)).modify 20 (fill (flat1 Rows.laid_math_bits_deBruijn32tab).toArray)).modify 21 (fill (flat1 Rows.laid_math_bits_deBruijn64tab).toArray)).modify 17 (fill #[.iface 254 (.pointer (some ⟨w0.heap.size, 0, none⟩))])).modify 16 (fill #[.iface 254 (.pointer (some ⟨w0.heap.size + 1, 0, none⟩))])).push (.cells #[.string ⟨#[118, 97, 108, 117, 101, 32, 111, 117, 116, 32, 111, 102, 32, 114, 97, 110, 103, 101]⟩] 256 (0, 0))).push (.cells #[.string ⟨#[105, 110, 118, 97, 108, 105, 100, 32, 115, 121, 110, 116, 97, 120]⟩] 256 (0, 0)) }

set_option maxRecDepth 100000 in
theorem laid_met (os : Os) : laidMetH Tryz.prog Rows.throughRow.laid ((layIn (World.holding Tryz.prog os ⟨#[], #[], []⟩)).forCall (fun _ _ => 0) ⟨#[], #[.slice none 0 0, .slice none 0 0], []⟩).memory :=
  laidMetH_of_parts (laidMet_of_run' 8 (by kernel_rfl) (by kernel_rfl)) (by kernel_rfl)
theorem reads (os : Os) {H : Type} (enc : TypeId × Value → H) : ∃ places, DataW.whole enc Tryz.prog ((layIn (World.holding Tryz.prog os ⟨#[], #[], []⟩)).forCall (fun _ _ => 0) ⟨#[], #[.slice none 0 0, .slice none 0 0], []⟩).memory Tryz.f4.params.toList Rows.throughSpec.vars false #[Value.slice none 0 0, Value.slice none 0 0].toList 8 = some ([.nil, .nil], [], places) :=
  ⟨[], by kernel_rfl⟩

set_option maxRecDepth 100000 in
theorem lifted (os : Os) (started : os.Started) (H : Type) (enc : TypeId × Value → H) (F : Stop.Interp) :
    ReturnsInHanded {} Tryz.checked os 4 .any ((OpenSpec.ofChange Rows.throughSpec).preRow enc Tryz.prog Tryz.f4 Rows.throughRow.domain false Rows.throughRow.laid) (((OpenSpec.ofChange Rows.throughSpec).at F).post enc Tryz.prog Tryz.f4 false true false false) := by
  obtain ⟨places, hx⟩ := reads os enc
  refine returnsInHanded_of_row (C := Tryz.checked) (s := OpenSpec.ofChange Rows.throughSpec) own started (by kernel_rfl) Tryz.func4
    (witness_row_at (enc := enc) (C := Tryz.checked) false (layIn (World.holding Tryz.prog os ⟨#[], #[], []⟩)) #[.slice none 0 0, .slice none 0 0] rfl (by kernel_rfl) (by kernel_rfl) (by kernel_rfl)
      (OpenSpec.preRow_of_cond 8 hx (by kernel_rfl) (fun k hk => by cases hk) (by kernel_rfl) (laid_met os))) ?_
  intro W base args ds gs before hval hW _ _ hz hL hS _
  exact contract H enc W base args ds gs before hval hW hz hL hS

theorem said : Rows.ThroughSaid :=
  OpenClaim.holds_of_cond 4 Tryz.f4 rfl rfl rfl rfl rfl rfl rfl ⟨rfl, rfl, rfl, rfl, rfl⟩ rfl rfl rfl rfl rfl (by kernel_rfl) Tryz.func4 (by kernel_rfl)
    (of_decide_eq_true (by kernel_rfl)) (by unfold Func.isWrapper; first | (rw [if_pos (by decide +kernel)]; kernel_rfl) | (rw [if_neg (by decide +kernel)]; exact ⟨rfl, rfl⟩))
    (fun os started H enc _ F => by rw [OpenClaim.pre_eq_preRow]; exact lifted os started H enc F)

theorem plainly (f : FuncId) (fn : Func) (hf : Tryz.pinned.checked.prog.funcNamed Rows.throughRow.func = some f) (hfn : Tryz.pinned.checked.prog.funcs[f]? = some fn) :
    true = Tryz.pinned.checked.prog.looks [] ∧ ∀ (j : Nat) t, fn.params[j]? = some t → Tryz.pinned.checked.prog.wantsStandIn t = false := by
  obtain rfl : f = 4 := Option.some.inj ((show Tryz.prog.funcNamed Rows.throughRow.func = some 4 by kernel_rfl).symm.trans hf) |>.symm
  obtain rfl : fn = Tryz.f4 := (Option.some.inj (Tryz.func4.symm.trans hfn)).symm
  refine ⟨by kernel_rfl, fun j t ht => ?_⟩
  rw [Tryz.params4] at ht
  obtain rfl : t = 22 := by simpa using Array.mem_of_getElem? ht
  exact (show Tryz.prog.wantsStandIn 22 = false by kernel_rfl)

theorem card : Rows.ThroughCardSaid :=
  Claim7.holds_tied_plain_at .later [] _ _ _ _ said (fun _ h => by cases h) (by kernel_rfl) (fun _ h => by cases h) through_row_tie rfl ⟨rfl, rfl⟩ (by kernel_rfl) rfl plainly (by kernel_rfl)
#print axioms card
end Go.Proofs.YtjofjcjojgpaeaaGreatDoor
