import Derived.Test.YtehfpjcclknipaaGreatDoorCards
import Derived.Test.YtehfpjcclknipaaGreatDoorTie
import Derived.Test.YtehfpjcclknipaaGreatDoorKwC
import Derived.Test.YtehfpjcclknipaaGreatDoorCrdO
import Derived.ProofKit
import Derived.OpenShut
import Derived.Deep.DeepHandedRow
import Derived.LaidLaws
import Derived.LaidHandle
import Derived.Lib.LaidTab
import Derived.Stop.LaidErr
import Derived.ShutString
import Derived.Shelf.Vars
import Derived.Carry
namespace Go.Proofs.YtehfpjcclknipaaGreatDoor
open Go.ChangeShapes Go.WideShapes Go.ChangeAt Go.RowKit
open Go.WideMaps Go.WideElems
open Go.ChangeMaps (setBlock shut_map_nil shut_string keptBut_setBlock frozen?_setBlock heap_setBlock_same)
theorem own:ownKnob Tryz.prog.godebug=none:=by kernel_rfl
theorem Tryz.et:Tryz.prog.globalNamed "errors.errorType"=some 0:=by kernel_rfl
theorem Tryz.oneRow:((List.range 384).filter fun t=>Tryz.prog.rowNamed t [101,114,114,111,114])=[47]:=by kernel_rfl
theorem Tryz.size:Tryz.prog.types.size=384:=by kernel_rfl
theorem Tryz.handle47:typeHandle Tryz.prog 47=.pointer (some ⟨22,47,none⟩):=by kernel_rfl
def nums:DataW Unit→List Int
 | .agg l=>l.map fun
   | .lit (.int _ n)=>n
   | _=>0
 | _=>[]
theorem pair_of_head {W:World}{name:String}{a b:Int}{rest:List (String × DataW Unit)}{g:Nat}(hg:Tryz.prog.globalNamed name=some g) (hty:(Tryz.prog.globals[g]?).map (·.type)=some 233)
  (h:laidMet Tryz.prog ((name,.agg [.lit (.int .i64 a),.lit (.int .i64 b)]) :: rest) W):W.cell? ⟨g,0,none⟩=some (.int .i64 a)∧W.cell? ⟨g,1,none⟩=some (.int .i64 b):=by
 obtain ⟨ps,⟨g',t',cs,fuel,p,q,hg',ht',hvar,hd,_,_⟩,_⟩:=h
 obtain rfl:=Option.some.inj (hg.symm.trans hg')
 obtain rfl:=Option.some.inj (hty.symm.trans ht')
 obtain ⟨y0,y1,n,hx,hl,h0',h1'⟩:=trod_struct2 Tryz.underlying233 hd
 have h0:DataW.trod (fun _=>()) Tryz.prog W 0 (fun _=>true) false n 3 ((cs.toList.drop 0).take (Tryz.prog.cellsOf 3))=some y0:=h0'
 have h1:DataW.trod (fun _=>()) Tryz.prog W 0 (fun _=>true) false n 3 ((cs.toList.drop 1).take (Tryz.prog.cellsOf 3))=some y1:=h1'
 have hl2:cs.toList.length=2:=hl.trans (by kernel_rfl)
 have c3:Tryz.prog.cellsOf 3=1:=by kernel_rfl
 rw [c3] at h0 h1
 obtain ⟨x0,e0,rfl,_⟩:=DataW.trod_int Tryz.underlying3 h0
 obtain ⟨x1,e1,rfl,_⟩:=DataW.trod_int Tryz.underlying3 h1
 injection hx with hx _
 injection hx with hx
 injection hx with hx0 hx1
 injection hx1 with hx1 _
 injection hx0 with hx0
 injection hx1 with hx1
 injection hx0 with _ hx0
 injection hx1 with _ hx1
 subst hx0 hx1
 have q0:cs.toList[0]?=some (.int .i64 a):=by
  have:=congrArg (·[0]?) e0
  simpa [List.getElem?_take,List.getElem?_drop] using this
 have q1:cs.toList[1]?=some (.int .i64 b):=by
  have:=congrArg (·[0]?) e1
  simpa [List.getElem?_take,List.getElem?_drop] using this
 refine ⟨?_,?_⟩
 ·have:=World.var?_cell hg hvar 0
  rw [this,←Array.getElem?_toList,q0]
 ·have:=World.var?_cell hg hvar 1
  rw [this,←Array.getElem?_toList,q1]
theorem laid_of {W:World}(h:laidMetH Tryz.prog Rows.knownRow.laid W):T.Flds W∧W.cell? ⟨19,7,none⟩=some (.int .u8 3)∧W.cell? ⟨0,0,none⟩=some (.iface 168 (.agg #[.pointer (some ⟨22,47,none⟩)])):=by
 have h':laidMet Tryz.prog ((_,Rows.laid_math_bits_deBruijn32tab) :: (_,Rows.laid_math_bits_deBruijn64tab) :: (_,Rows.laid_internal_strconv_uint64pow10) :: (_,Rows.laid_unicode_utf8_acceptRanges) :: ("strconv.ErrRange",Rows.laid_strconv_ErrRange) :: ("strconv.ErrSyntax",Rows.laid_strconv_ErrSyntax) :: (_,Rows.laid_layers_archive_nameField) :: (_,Rows.laid_layers_archive_modeField) :: (_,Rows.laid_layers_archive_userField) :: (_,Rows.laid_layers_archive_groupField) :: (_,Rows.laid_layers_archive_sizeField) :: (_,Rows.laid_layers_archive_timeField) :: (_,Rows.laid_layers_archive_checkField) :: (_,Rows.laid_layers_archive_kindField) :: (_,Rows.laid_layers_archive_linkField) :: (_,Rows.laid_layers_archive_magicField) :: (_,Rows.laid_layers_archive_deviceField) :: (_,Rows.laid_layers_archive_device2Field) :: (_,Rows.laid_layers_archive_aheadField) :: (_,Rows.laid_unicode_utf8_first) :: []) W∧handlesMet Tryz.prog [("errors.errorType",Rows.laid_errors_errorType)] W:=h
 have t0:=h'.1
 have t1:=laidMet.tail t0
 have t2:=laidMet.tail t1
 have t3:=laidMet.tail t2
 have t4:=laidMet.tail t3
 have t5:=laidMet.tail t4
 have t6:=laidMet.tail t5
 have t7:=laidMet.tail t6
 have t8:=laidMet.tail t7
 have t9:=laidMet.tail t8
 have t10:=laidMet.tail t9
 have t11:=laidMet.tail t10
 have t12:=laidMet.tail t11
 have t13:=laidMet.tail t12
 have t14:=laidMet.tail t13
 have t15:=laidMet.tail t14
 have t16:=laidMet.tail t15
 have t17:=laidMet.tail t16
 have t18:=laidMet.tail t17
 have t19:=laidMet.tail t18
 have e1:(Rows.laid_math_bits_deBruijn64tab:DataW Unit)=Lib.tabData .u8 (nums Rows.laid_math_bits_deBruijn64tab):=by kernel_rfl
 rw [e1] at t1
 have g1:=Lib.tabIs_of_head (g:=19) (t:=337) (e:=5) (n:=64) (by kernel_rfl) (by kernel_rfl) (by kernel_rfl) (by kernel_rfl) (by kernel_rfl) (by kernel_rfl) t1
 have f10:=pair_of_head (g:=10) (by kernel_rfl) (by kernel_rfl) t6
 have f1:=pair_of_head (g:=1) (by kernel_rfl) (by kernel_rfl) t7
 have f2:=pair_of_head (g:=2) (by kernel_rfl) (by kernel_rfl) t8
 have f3:=pair_of_head (g:=3) (by kernel_rfl) (by kernel_rfl) t9
 have f4:=pair_of_head (g:=4) (by kernel_rfl) (by kernel_rfl) t10
 have f5:=pair_of_head (g:=5) (by kernel_rfl) (by kernel_rfl) t11
 have f13:=pair_of_head (g:=13) (by kernel_rfl) (by kernel_rfl) t12
 have f11:=pair_of_head (g:=11) (by kernel_rfl) (by kernel_rfl) t13
 have f12:=pair_of_head (g:=12) (by kernel_rfl) (by kernel_rfl) t14
 have f6:=pair_of_head (g:=6) (by kernel_rfl) (by kernel_rfl) t15
 have f7:=pair_of_head (g:=7) (by kernel_rfl) (by kernel_rfl) t16
 have f8:=pair_of_head (g:=8) (by kernel_rfl) (by kernel_rfl) t17
 have f9:=pair_of_head (g:=9) (by kernel_rfl) (by kernel_rfl) t18
 refine ⟨?_,?_,?_⟩
 ·intro t ht
  simp only [T.fieldTab,List.mem_cons,List.not_mem_nil,or_false] at ht
  rcases ht with rfl | rfl | rfl | rfl | rfl | rfl | rfl | rfl | rfl | rfl | rfl | rfl | rfl
  ·exact f1
  ·exact f2
  ·exact f3
  ·exact f4
  ·exact f5
  ·exact f6
  ·exact f7
  ·exact f8
  ·exact f9
  ·exact f10
  ·exact f11
  ·exact f12
  ·exact f13
 ·exact (g1.cell (g:=19) (by kernel_rfl) 7 (of_decide_eq_true (by kernel_rfl))).trans (by kernel_rfl)
 ·obtain ⟨name,u,ty,e1,e2,e3,e4,e5⟩:=h'.2 _ (List.mem_singleton.2 rfl)
  have en:name=[101,114,114,111,114]:=(Option.some.inj e1).symm
  subst en
  have hu:u=168:=Option.some.inj (e2.symm.trans (by kernel_rfl))
  subst hu
  have hm:ty∈(List.range 384).filter fun t=>Tryz.prog.rowNamed t [101,114,114,111,114]:=List.mem_filter.2 ⟨List.mem_range.2 (by rw [←Tryz.size];exact e3),e4⟩
  rw [Tryz.oneRow] at hm
  obtain rfl:=List.mem_singleton.1 hm
  rw [Tryz.handle47] at e5
  simpa using World.var?_cell Tryz.et e5 0
theorem number_of_shaped {W:World}(h:W.ShapedOpen Tryz.prog):∃ m,W.cell? ⟨14,0,none⟩=some (.int .i64 m):=
 Go.Proofs.cell_of_shapedOpen_int (zero:=#[.int .i64 0]) (t:=3) h (of_decide_eq_true (by kernel_rfl)) (by kernel_rfl) rfl (by kernel_rfl) (by kernel_rfl) Tryz.underlying3
section
variable {H:Type}{enc:TypeId × Value→H}{w:World}{base:Nat}{spare:Nat→Bool}{held:Bool}
theorem open_int {k:Int}{d:DataW H}{p:List MemPlace}(hv:(Value.int .i64 k).cells.toList=[.int .i64 k]) (h:DataW.Trod enc Tryz.prog w base spare held 3 (.int .i64 k) d p):d=.lit (.int .i64 k)∧p=[]:=by
 obtain ⟨fuel,hf⟩:=h
 rw [hv] at hf
 obtain ⟨j,e,hx,_⟩:=DataW.trod_int Tryz.underlying3 hf
 cases e
 cases hx
 exact ⟨rfl,rfl⟩
end
theorem Tryz.laidOut:laidOutB Tryz.prog=true:=by kernel_rfl
set_option maxRecDepth 100000 in
theorem contract (H:Type) (enc:TypeId × Value→H) (W:World) (base:Nat) (args:Array Value) (ds gs:List (DataW H)) (before:List MemPlace)
  (hval:∀ (j:Nat) t v,Tryz.f3.params[j]?=some t→args[j]?=some v→Value.okWide Tryz.prog W .any base t v)
  (hW:DataW.Whole enc Tryz.prog Tryz.f3.params.toList Rows.knownSpec.vars false W args.toList ds gs before)
  (hL:laidMetH Tryz.prog Rows.knownRow.laid W) (hS:W.ShapedOpen Tryz.prog) :
  Calls Tryz.prog 3 args W fun e W'=>∃ v,e=.returned v∧Rows.knownSpec.post enc Tryz.prog Tryz.f3 false true false false W args v W':=by
 have hW':=hW
 obtain ⟨p,q,hA0,hV,rfl,hfz,hnd⟩:=hW
 have hA:DataW.TrodAll enc Tryz.prog W 0 (fun _=>true) true Tryz.f3.params.toList args.toList ds p:=hA0
 rw [Tryz.params3] at hA hval
 obtain ⟨v0,vs0,d0,ds0,p0,q0,hargs,rfl,rfl,h0,r0⟩:=trodAll_cons hA
 obtain ⟨rfl,rfl,rfl⟩:=trodAll_nil r0
 obtain rfl:args=#[v0]:=by cases args;simp_all
 obtain ⟨rfl,rfl⟩:=trodVars_none hV
 obtain ⟨t0,hv0⟩:=okWide_int Tryz.underlying3 (hval 0 3 v0 rfl rfl)
 subst hv0
 clear hA0 hA r0 hargs
 simp only [List.append_nil] at hW'
 obtain ⟨m,hm⟩:=number_of_shaped hS
 obtain ⟨l1,l2,l3⟩:=laid_of hL
 refine (T.law_any t0 W ⟨l3,l1,l2,m,hm⟩).mono fun e W' ⟨he,hb⟩=>?_
 subst he
 have hlt:=hW'.lt
 obtain ⟨e0,f0⟩:=open_int rfl h0
 subst e0
 subst f0
 refine ⟨_,rfl,_,_,_,[],[]++[],[],hW',?_,?_,?_,hb.frame _,fun h=>by cases h⟩
 ·exact trodAll_cons_mk (shut_bool Tryz.underlying4 _) trodAll_mk0
 ·exact trodAll_cons_mk (Below.trod Tryz.laidOut (by kernel_rfl) (of_decide_eq_true (by kernel_rfl)) h0 hb (fun x hx=>hlt x (by simp [hx]))) trodAll_mk0
 ·rfl
def flat0:DataW Unit→Value
 | .lit (.int k n)=>.int k n
 | _=>.int .u8 0
def flat1:DataW Unit→List Value
 | .agg l=>l.map flat0
 | _=>[]
def flat2:DataW Unit→List Value
 | .agg l=>(l.map flat1).flatten
 | _=>[]
def fill (cs:Array Value):Obj→Obj
 | .cells _ t frozen=>.cells cs t frozen
 | o=>o
def layIn (w0:World):World:=
 { w0 with heap:=((((((((((((((((((((((w0.heap.modify 0 (fill #[.iface 168 (.agg #[.pointer (some ⟨22,47,none⟩)])])).modify 1 (fill (flat1 Rows.laid_layers_archive_modeField).toArray)).modify 2 (fill (flat1 Rows.laid_layers_archive_userField).toArray)).modify 3 (fill (flat1 Rows.laid_layers_archive_groupField).toArray)).modify 4 (fill (flat1 Rows.laid_layers_archive_sizeField).toArray)).modify 5 (fill (flat1 Rows.laid_layers_archive_timeField).toArray)).modify 6 (fill (flat1 Rows.laid_layers_archive_magicField).toArray)).modify 7 (fill (flat1 Rows.laid_layers_archive_deviceField).toArray)).modify 8 (fill (flat1 Rows.laid_layers_archive_device2Field).toArray)).modify 9 (fill (flat1 Rows.laid_layers_archive_aheadField).toArray)).modify 10 (fill (flat1 Rows.laid_layers_archive_nameField).toArray)).modify 11 (fill (flat1 Rows.laid_layers_archive_kindField).toArray)).modify 12 (fill (flat1 Rows.laid_layers_archive_linkField).toArray)).modify 13 (fill (flat1 Rows.laid_layers_archive_checkField).toArray)).modify 16 (fill (flat1 Rows.laid_unicode_utf8_first).toArray)).modify 17 (fill (flat2 Rows.laid_unicode_utf8_acceptRanges).toArray)).modify 15 (fill (flat1 Rows.laid_internal_strconv_uint64pow10).toArray)).modify 18 (fill (flat1 Rows.laid_math_bits_deBruijn32tab).toArray)).modify 19 (fill (flat1 Rows.laid_math_bits_deBruijn64tab).toArray)).modify 21 (fill #[.iface 353 (.pointer (some ⟨w0.heap.size,0,none⟩))])).modify 20 (fill #[.iface 353 (.pointer (some ⟨w0.heap.size+1,0,none⟩))])).push (.cells #[.string ⟨#[118,97,108,117,101,32,111,117,116,32,111,102,32,114,97,110,103,101]⟩] 355 (0,0))).push (.cells #[.string ⟨#[105,110,118,97,108,105,100,32,115,121,110,116,97,120]⟩] 355 (0,0)) }
set_option maxRecDepth 100000 in
theorem laid_met (os:Os):laidMetH Tryz.prog Rows.knownRow.laid ((layIn (World.holding Tryz.prog os ⟨#[],#[],[]⟩)).forCall (fun _ _=>0) ⟨#[],#[.int .i64 0],[]⟩).memory:=
 laidMetH_of_parts (laidMet_of_run' 8 (by kernel_rfl) (by kernel_rfl)) (by kernel_rfl)
theorem reads (os:Os) {H:Type}(enc:TypeId × Value→H):∃ places,DataW.whole enc Tryz.prog ((layIn (World.holding Tryz.prog os ⟨#[],#[],[]⟩)).forCall (fun _ _=>0) ⟨#[],#[.int .i64 0],[]⟩).memory Tryz.f3.params.toList Rows.knownSpec.vars false #[Value.int .i64 0].toList 8=some ([.lit (.int .i64 0)],[],places):=
 ⟨[],by kernel_rfl⟩
set_option maxRecDepth 100000 in
theorem lifted (os:Os) (started:os.Started) (H:Type) (enc:TypeId × Value→H) (F:Stop.Interp) :
  ReturnsInHanded {} Tryz.checked os 3 .any ((OpenSpec.ofChange Rows.knownSpec).preRow enc Tryz.prog Tryz.f3 Rows.knownRow.domain false Rows.knownRow.laid) (((OpenSpec.ofChange Rows.knownSpec).at F).post enc Tryz.prog Tryz.f3 false true false false):=by
 obtain ⟨places,hx⟩:=reads os enc
 refine returnsInHanded_of_row (C:=Tryz.checked) (s:=OpenSpec.ofChange Rows.knownSpec) own started (by kernel_rfl) Tryz.func3
  (witness_row_at (enc:=enc) (C:=Tryz.checked) false (layIn (World.holding Tryz.prog os ⟨#[],#[],[]⟩)) #[.int .i64 0] rfl (by kernel_rfl) (by kernel_rfl) (by kernel_rfl)
    (OpenSpec.preRow_of_cond 8 hx (by kernel_rfl) (fun k hk=>by cases hk) (by kernel_rfl) (laid_met os))) ?_
 intro W base args ds gs before hval hW _ _ _ hL hS _
 exact contract H enc W base args ds gs before hval hW hL hS
theorem said:Rows.KnownSaid:=
 OpenClaim.holds_of_cond 3 Tryz.f3 rfl rfl rfl rfl rfl rfl rfl ⟨rfl,rfl,rfl,rfl,rfl⟩ rfl rfl rfl rfl rfl named3 Tryz.func3 closed inst3 wrap3
  (fun os started H enc _ F=>by rw [OpenClaim.pre_eq_preRow];exact lifted os started H enc F)
theorem plainly (f:FuncId) (fn:Func) (hf:Tryz.pinned.checked.prog.funcNamed Rows.knownRow.func=some f) (hfn:Tryz.pinned.checked.prog.funcs[f]?=some fn) :
  true=Tryz.pinned.checked.prog.looks []∧∀ (j:Nat) t,fn.params[j]?=some t→Tryz.pinned.checked.prog.wantsStandIn t=false:=by
 obtain rfl:f=3:=Option.some.inj ((show Tryz.prog.funcNamed Rows.knownRow.func=some 3 by kernel_rfl).symm.trans hf) |>.symm
 obtain rfl:fn=Tryz.f3:=(Option.some.inj (Tryz.func3.symm.trans hfn)).symm
 refine ⟨by kernel_rfl,fun j t ht=>?_⟩
 rw [Tryz.params3] at ht
 have hm:=Array.mem_of_getElem? ht
 simp only [Array.mem_def,List.mem_cons,List.not_mem_nil,or_false] at hm
 subst hm
 exact (show Tryz.prog.wantsStandIn 3=false by kernel_rfl)
theorem card:Rows.KnownCardSaid:=
 Claim7.holds_tied_plain_at .later [] _ _ _ _ said (fun _ h=>by cases h) (by kernel_rfl) (fun _ h=>by cases h) known_row_tie rfl ⟨rfl,rfl⟩ (by kernel_rfl) rfl plainly (by kernel_rfl)
#print axioms card
end Go.Proofs.YtehfpjcclknipaaGreatDoor
