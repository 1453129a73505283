import Derived.Test.YtjhobnjdfhkohaaGreatDoorXAV
import Derived.Test.YtjhobnjdfhkohaaGreatDoorXAW
import Derived.Test.YtjhobnjdfhkohaaGreatDoorXB
import Derived.Deep.DeepHandedRow
import Derived.ShutString
import Derived.SizedLaws
import Derived.Stop.LaidErr
import Derived.Test.YtjhobnjdfhkohaaGreatDoorCards
import Derived.Test.YtjhobnjdfhkohaaGreatDoorTie
set_option linter.all false
set_option maxRecDepth 100000
namespace Go.Proofs.YtjhobnjdfhkohaaGreatDoor
open Go.Proofs.Tryz
open Go.ChangeShapes Go.WideShapes Go.ChangeAt Go.RowKit T
open Go.WideMaps Go.WideElems
open Go.ChangeMaps (setBlock shut_map_nil open_string shut_string keptBut_setBlock frozen?_setBlock heap_setBlock_same)
theorem own:ownKnob prog.godebug=none:=by kernel_rfl
theorem Tryz.et:prog.globalNamed "errors.errorType"=some 0:=by kernel_rfl
theorem Tryz.oneRow:((List.range 367).filter λt=>prog.rowNamed t [101,114,114,111,114])=[45]:=by kernel_rfl
theorem Tryz.size:prog.types.size=367:=by kernel_rfl
theorem Tryz.handle45:typeHandle prog 45=.pointer (some ⟨22,45,none⟩):=by kernel_rfl
def Ny:DataW Unit->List Int
 |.agg l=>l.map fun
  |.lit (.int _ n)=>n
  |_=>0
 |_=>[]
theorem aV{W:World}{name:String}{a b:Int}{rest:List (String×DataW Unit)}{g:Nat}(hg:prog.globalNamed name=some g)(hty:(prog.globals[g]?).map (·.type)=some 288)(h:laidMet prog ((name,.agg [.lit (.int .i64 a),.lit (.int .i64 b)])::rest) W):W.cell? ⟨g,0,none⟩=some (.int .i64 a)/\W.cell? ⟨g,1,none⟩=some (.int .i64 b):=by
 obtain⟨ps,⟨g',t',cs,fuel,p,q,hg',ht',hvar,hd,_,_⟩,_⟩:=h;obtain rfl:=Option.some.inj (hg.symm.trans hg');obtain rfl:=Option.some.inj (hty.symm.trans ht');obtain⟨y0,y1,n,hx,hl,h0',h1'⟩:=trod_struct2 underlying288 hd;have h0:DataW.trod (λ_=>()) prog W 0 (λ_=>true) false n 3 ((cs.toList.drop 0).take (prog.cellsOf 3))=some y0:=h0';have h1:DataW.trod (λ_=>()) prog W 0 (λ_=>true) false n 3 ((cs.toList.drop 1).take (prog.cellsOf 3))=some y1:=h1';have hl2:cs.toList.length=2:=hl.trans (by kernel_rfl);have c3:prog.cellsOf 3=1:=by kernel_rfl
 rw[c3]at h0 h1;obtain⟨x0,e0,rfl,_⟩:=DataW.trod_int underlying3 h0;obtain⟨x1,e1,rfl,_⟩:=DataW.trod_int underlying3 h1;injection hx with hx _;injection hx with hx;injection hx with hx0 hx1;injection hx1 with hx1 _;injection hx0 with hx0;injection hx1 with hx1;injection hx0 with _ hx0;injection hx1 with _ hx1;subst hx0 hx1;have q0:cs.toList[0]?=some (.int .i64 a):=by have:=congrArg (·[0]?) e0;simpa[List.getElem?_take,List.getElem?_drop]using this
 have q1:cs.toList[1]?=some (.int .i64 b):=by have:=congrArg (·[0]?) e1;simpa[List.getElem?_take,List.getElem?_drop]using this
 refine⟨?_,?_⟩
 .have:=World.var?_cell hg hvar 0;rw[this,<-Array.getElem?_toList,q0]
 have:=World.var?_cell hg hvar 1;rw[this,<-Array.getElem?_toList,q1]
theorem sH{W:World}{name nm:String}{d:DataW Unit}{rest:List (String×DataW Unit)}{g:Nat}(hg:prog.globalNamed name=some g)(hty:(prog.globals[g]?).map (·.type)=some 45)(h:laidMet prog ((name,.iface nm d)::rest) W):∃(te:Nat) (pe:Value),W.cell? ⟨g,0,none⟩=some (.iface te pe):=by
 obtain⟨ps,⟨g',t',cs,fuel,p,q,hg',ht',hvar,hd,_,_⟩,_⟩:=h;obtain rfl:=Option.some.inj (hg.symm.trans hg');obtain rfl:=Option.some.inj (hty.symm.trans ht');cases fuel with
 |zero=>simp[DataW.trod]at hd
 |succ fuel=>
  have hx:∃u v,cs.toList=[.iface u v]:=by
   cases hl:cs.toList with
   |nil=>simp[DataW.trod,underlying45,hl]at hd
   |cons x r=>
    cases r with
    |nil=>cases x<;>first|exact⟨_,_,rfl⟩|(simp[DataW.trod,underlying45,hl]at hd)
    |cons y r=>simp[DataW.trod,underlying45,hl]at hd
  obtain⟨u,v,hx⟩:=hx;refine⟨u,v,?_⟩;rw[World.var?_cell hg hvar 0,<-Array.getElem?_toList,hx];rfl
theorem ID{W:World}(h:laidMetH prog Rows.formedRow.laid W):Flds W/\W.cell? ⟨21,7,none⟩=some (.int .u8 3)/\(∃(te:Nat) (pe:Value),W.cell? ⟨16,0,none⟩=some (.iface te pe))/\W.cell? ⟨0,0,none⟩=some (.iface 157 (.agg #[.pointer (some ⟨22,45,none⟩)])):=by
 have h':laidMet prog ((_,Rows.laid_math_bits_deBruijn32tab)::(_,Rows.laid_math_bits_deBruijn64tab)::(_,Rows.laid_internal_strconv_uint64pow10)::(_,Rows.laid_unicode_utf8_acceptRanges)::("strconv.ErrRange",Rows.laid_strconv_ErrRange)::("strconv.ErrSyntax",Rows.laid_strconv_ErrSyntax)::(_,Rows.laid_layers_archive_nameField)::(_,Rows.laid_layers_archive_modeField)::(_,Rows.laid_layers_archive_userField)::(_,Rows.laid_layers_archive_groupField)::(_,Rows.laid_layers_archive_sizeField)::(_,Rows.laid_layers_archive_timeField)::(_,Rows.laid_layers_archive_checkField)::(_,Rows.laid_layers_archive_kindField)::(_,Rows.laid_layers_archive_linkField)::(_,Rows.laid_layers_archive_magicField)::(_,Rows.laid_layers_archive_deviceField)::(_,Rows.laid_layers_archive_device2Field)::(_,Rows.laid_layers_archive_aheadField)::(_,Rows.laid_unicode_utf8_first)::[]) W/\handlesMet prog [("errors.errorType",Rows.laid_errors_errorType)] W:=h;have t0:=h'.1;have t1:=laidMet.tail t0;have t2:=laidMet.tail t1;have t3:=laidMet.tail t2;have t4:=laidMet.tail t3;have t5:=laidMet.tail t4;have t6:=laidMet.tail t5;have t7:=laidMet.tail t6;have t8:=laidMet.tail t7;have t9:=laidMet.tail t8;have t10:=laidMet.tail t9;have t11:=laidMet.tail t10;have t12:=laidMet.tail t11;have t13:=laidMet.tail t12;have t14:=laidMet.tail t13;have t15:=laidMet.tail t14;have t16:=laidMet.tail t15;have t17:=laidMet.tail t16;have t18:=laidMet.tail t17;have t19:=laidMet.tail t18;have e1:(Rows.laid_math_bits_deBruijn64tab:DataW Unit)=Lib.tabData .u8 (Ny Rows.laid_math_bits_deBruijn64tab):=by kernel_rfl
 rw[e1]at t1;have g1:=Lib.tabIs_of_head (g:=21) (t:=338) (e:=5) (n:=64) (by kernel_rfl) (by kernel_rfl) (by kernel_rfl) (by kernel_rfl) (by kernel_rfl) (by kernel_rfl) t1;have es:=sH (g:=16) (by kernel_rfl) (by kernel_rfl) t5;have f6:=aV (g:=6) (by kernel_rfl) (by kernel_rfl) t6;have f7:=aV (g:=7) (by kernel_rfl) (by kernel_rfl) t7;have f10:=aV (g:=10) (by kernel_rfl) (by kernel_rfl) t8;have f11:=aV (g:=11) (by kernel_rfl) (by kernel_rfl) t9;have f2:=aV (g:=2) (by kernel_rfl) (by kernel_rfl) t10;have f12:=aV (g:=12) (by kernel_rfl) (by kernel_rfl) t11;have f18:=aV (g:=18) (by kernel_rfl) (by kernel_rfl) t12;have f8:=aV (g:=8) (by kernel_rfl) (by kernel_rfl) t13;have f9:=aV (g:=9) (by kernel_rfl) (by kernel_rfl) t14;have f13:=aV (g:=13) (by kernel_rfl) (by kernel_rfl) t15;have f14:=aV (g:=14) (by kernel_rfl) (by kernel_rfl) t16;have f15:=aV (g:=15) (by kernel_rfl) (by kernel_rfl) t17;have f5:=aV (g:=5) (by kernel_rfl) (by kernel_rfl) t18;refine⟨?_,?_,es,?_⟩
 .intro t ht;simp only[fieldTab,nh,List.not_mem_nil,or_false]at ht;rcases ht with rfl|rfl|rfl|rfl|rfl|rfl|rfl|rfl|rfl|rfl|rfl|rfl|rfl
  .exact f7
  .exact f10
  .exact f11
  .exact f2
  .exact f12
  .exact f13
  .exact f14
  .exact f15
  .exact f5
  .exact f6
  .exact f8
  .exact f9
  exact f18
 .exact(g1.cell (g:=21) (by kernel_rfl) 7 (of_decide_eq_true (by kernel_rfl))).trans (by kernel_rfl)
 obtain⟨name,u,ty,e1,e2,e3,e4,e5⟩:=h'.2 _ (List.mem_singleton.2 rfl);have en:name=[101,114,114,111,114]:=(Option.some.inj e1).symm;subst en;have hu:u=157:=Option.some.inj (e2.symm.trans (by kernel_rfl));subst hu;have hm:ty∈(List.range 367).filter λt=>prog.rowNamed t [101,114,114,111,114]:=List.mem_filter.2 ⟨List.mem_range.2 (by rw[<-Tryz.size];exact e3),e4⟩;rw[Tryz.oneRow]at hm;obtain rfl:=List.mem_singleton.1 hm;rw[Tryz.handle45]at e5;simpa using World.var?_cell Tryz.et e5 0
theorem oC{W:World}(h:W.ShapedOpen prog):∃m,W.cell? ⟨1,0,none⟩=some (.int .i64 m):= Go.Proofs.cell_of_shapedOpen_int (zero:=#[.int .i64 0]) (t:=3) h (of_decide_eq_true (by kernel_rfl)) (by kernel_rfl) rfl (by kernel_rfl) (by kernel_rfl) underlying3
theorem A9{W:World}{a:Addr}{len cap:Nat}{E:Nat->Tg}(hl:len<=cap)(hx:∀i,i<cap->OkT (E i)/\a.spot=none/\W.cells? 0 (a.add (i*4)) 4=some (E i).cells):TgRow W (some a) ((List.range len).map E):=by
 intro k e hk;rw[List.getElem?_map]at hk;obtain⟨j,hj,rfl⟩:=Option.map_eq_some_iff.1 hk;have hk':k<len:=by
  have:=(sI hj)
  simpa using this
 rw[List.getElem?_range hk']at hj;cases hj;obtain⟨_,h2,h3⟩:=hx k (by omega);obtain⟨g,o,sp⟩:=a;simp only at h2;subst h2;have h4:=(World.cells?_some h3).2.2;rw[Addr.add_lit]at h4;refine⟨g,o,rfl,?_,?_,?_,?_⟩
 .have:=h4 0 (by decide);rw[Addr.add_lit]at this;exact this
 .have:=h4 1 (by decide);rw[Addr.add_lit]at this;exact this
 .have:=h4 2 (by decide);rw[Addr.add_lit]at this;exact this
 have:=h4 3 (by decide);rw[Addr.add_lit]at this;exact this
theorem re{W W':World}(hb:Bw W W'){a:Addr}{n:Nat}{cs:List Value}(hn:0<n)(h:W.cells? 0 a n=some cs):W'.cells? 0 a n=some cs:=by refine World.cells?_carry h (λp hp=>hb.same ?_);unfold MemPlace.row at hp;obtain⟨j,_,rfl⟩:=List.mem_map.1 hp;exact World.cells?_block h hn
theorem Ck{H:Type}{enc:TypeId×Value->H}{W:World}{ao:OA}{len cap:Nat}{d:DataW H}{p:List MemPlace}(h0:DataW.Trod enc prog W 0 (λ_=>true) true 22 (.slice ao len cap) d p)(hk:∀el sp,d=.slice el sp->el.length<=140737488351232): ∃es:List Tg,len=es.length/\len<=140737488351232/\len<=cap/\TgRow W ao es/\(∀x∈es,x.d.size<=9223372036854775807)/\∀W':World,Bw W W'->DataW.Trod enc prog W' 0 (λb=>decide (b<W.heap.size)) true 22 (.slice ao len cap) d p:=by
 rcases open_tgsL rfl h0 with⟨he,rfl,rfl⟩|⟨a,len',cap',E,he,hl,hm,rfl,rfl,hx⟩
 .cases he;exact⟨[],rfl,by omega,by omega,λk e hk=>by simp at hk,λx hx=>(by cases hx),λW' _=>shut_slice_nil underlying22⟩
 cases he;have b1:len<=140737488351232:=(by simpa using hk _ _ rfl);refine⟨(List.range len).map E,by simp,b1,hl,A9 hl hx,λx hx'=>(by obtain⟨i,hi,rfl⟩:=List.mem_map.1 hx';exact(hx i (by have:=List.mem_range.1 hi;omega)).1.d),λW' hb=>?_⟩;by_cases hblk:a.block<W.heap.size
 .exact shut_tgsL hl hm (by simpa using hblk) (λi hi=>⟨(hx i hi).1,re hb (by decide) (hx i hi).2.2⟩)
 have hc:cap=0:=by
  rcases Nat.eq_zero_or_pos cap with h|h
  .exact h
  have h3:=(hx 0 h).2.2;simp only[Nat.zero_mul,Addr.add_zero']at h3;exact absurd (World.cells?_block h3 (by decide)) hblk
 subst hc;obtain rfl:len=0:=by omega
 have h:=Go.Deep.shut_slice (enc:=enc) (w:=W') (base:=0) (held:=true) (spare:=λb=>decide (b<W.heap.size)) (a:=a) (len:=0) (cap:=0) underlying22 (Nat.zero_le _) (bH _) hm (by simpa using hblk) (λi=>litT (E i)) (λ_=>[]) (λi hi=>absurd hi (Nat.not_lt_zero _));rw[Nat.zero_mul]at h;exact h
theorem CX{H:Type}{enc:TypeId×Value->H}{W:World}{ao:OA}{len cap:Nat}{d:DataW H}{p:List MemPlace}(h0:DataW.Trod enc prog W 0 (λ_=>true) true 23 (.slice ao len cap) d p)(hk:∀el sp,d=.slice el sp->el.length<=140737488351232): ∃es:List Tg,len=es.length/\len<=140737488351232/\len<=cap/\TgRow W ao es/\(∀x∈es,x.d.size<=9223372036854775807)/\∀W':World,Bw W W'->DataW.Trod enc prog W' 0 (λb=>decide (b<W.heap.size)) true 23 (.slice ao len cap) d p:=by
 rcases open_tgsC rfl h0 with⟨he,rfl,rfl⟩|⟨a,len',cap',E,he,hl,hm,rfl,rfl,hx⟩
 .cases he;exact⟨[],rfl,by omega,by omega,λk e hk=>by simp at hk,λx hx=>(by cases hx),λW' _=>shut_slice_nil underlying23⟩
 cases he;have b1:len<=140737488351232:=(by simpa using hk _ _ rfl);refine⟨(List.range len).map E,by simp,b1,hl,A9 hl hx,λx hx'=>(by obtain⟨i,hi,rfl⟩:=List.mem_map.1 hx';exact(hx i (by have:=List.mem_range.1 hi;omega)).1.d),λW' hb=>?_⟩;by_cases hblk:a.block<W.heap.size
 .exact shut_tgsC hl hm (by simpa using hblk) (λi hi=>⟨(hx i hi).1,re hb (by decide) (hx i hi).2.2⟩)
 have hc:cap=0:=by
  rcases Nat.eq_zero_or_pos cap with h|h
  .exact h
  have h3:=(hx 0 h).2.2;simp only[Nat.zero_mul,Addr.add_zero']at h3;exact absurd (World.cells?_block h3 (by decide)) hblk
 subst hc;obtain rfl:len=0:=by omega
 have h:=Go.Deep.shut_slice (enc:=enc) (w:=W') (base:=0) (held:=true) (spare:=λb=>decide (b<W.heap.size)) (a:=a) (len:=0) (cap:=0) underlying23 (Nat.zero_le _) (bH _) hm (by simpa using hblk) (λi=>litT (E i)) (λ_=>[]) (λi hi=>absurd hi (Nat.not_lt_zero _));rw[Nat.zero_mul]at h;exact h
theorem Ho(H:Type)(enc:TypeId×Value->H)(W:World)(base:Nat)(args:Array Value)(ds gs:List (DataW H))(before:List MemPlace)(hval:∀(j:Nat) t v,Tryz.f3.params[j]?=some t->args[j]?=some v->Value.okWide prog W .any base t v)(hW:DataW.Whole enc prog Tryz.f3.params.toList Rows.formedSpec.vars false W args.toList ds gs before)(hz:(DataW.weightsEach prog (Tryz.f3.params.toList++(OpenSpec.ofChange Rows.formedSpec).bare.plain.varTypes prog) (ds++gs)).all (·<=reachBytes)=true)(hL:laidMetH prog Rows.formedRow.laid W)(hS:W.ShapedOpen prog): Cl 3 args W λe W'=>∃v,e=.returned v/\Rows.formedSpec.post enc prog Tryz.f3 false true false false W args v W':=by
 have hW':=hW;obtain⟨p,q,hA0,hV,rfl,hfz,hnd⟩:=hW;have hA:DataW.TrodAll enc prog W 0 (λ_=>true) true Tryz.f3.params.toList args.toList ds p:=hA0;rw[params3]at hA hval;obtain⟨v0,vs0,d0,ds0,p0,q0,hargs,rfl,rfl,h0,r0⟩:=trodAll_cons hA;obtain⟨v1,vs1,d1,ds1,p1,q1,hargs1,rfl,rfl,h1,r1⟩:=trodAll_cons r0;obtain⟨v2,vs2,d2,ds2,p2,q2,hargs2,rfl,rfl,h2,r2⟩:=trodAll_cons r1;obtain⟨rfl,rfl,rfl⟩:=trodAll_nil r2;obtain rfl:args=#[v0,v1,v2]:=by cases args;simp_all
 obtain⟨rfl,rfl⟩:=trodVars_none hV;obtain⟨s,hv0,rfl,rfl,w0⟩:=open_string underlying9 (hval 0 9 v0 rfl rfl) h0;obtain⟨lo,ln,lc,hv1⟩:=okWide_slice underlying22 (hval 1 22 v1 rfl rfl);obtain⟨co,cn,cc,hv2⟩:=okWide_slice underlying23 (hval 2 23 v2 rfl rfl);subst hv0 hv1 hv2;clear hA0 hA;simp only[List.append_nil]at hW' hz;obtain⟨l1,l2,l3,l4⟩:=ID hL;obtain⟨m,hm⟩:=oC hS;obtain⟨xl,el,la1,la2,rl,dl,tl⟩:=Ck h1 (λel sp e=>by subst e;have:=sized_slice (j:=1) (t:=22) hz (by first|rfl|(rw[params3];rfl)) rfl underlying22;have e2:prog.bytesOf 41=40:=(by kernel_rfl);rw[e2]at this;unfold reachBytes at this;omega);obtain⟨xc,ec,lb1,lb2,rc,_,tc⟩:=CX h2 (λel sp e=>by subst e;have:=sized_slice (j:=2) (t:=23) hz (by first|rfl|(rw[params3];rfl)) rfl underlying23;have e2:prog.bytesOf 55=40:=(by kernel_rfl);rw[e2]at this;unfold reachBytes at this;omega);have h21:21<W.heap.size:=World.block_lt_of_cell? _ _ l2;refine(T.Is s lo co ln lc cn cc xl xc W rl rc (ab el) (ab ec) (by omega) dl ⟨⟨m,hm⟩,l4,⟨⟨l1,l2,⟨m,hm⟩⟩,l3⟩,h21⟩).mono λe W' ⟨he,hb⟩=>?_;subst he;refine⟨_,rfl,_,_,_,[],[]++(p1++(p2++[])),[],hW',?_,?_,?_,hb.frame _,λh=>by cases h⟩
 .exact trodAll_cons_mk (shut_bool underlying4 _) trodAll_mk0
 .exact trodAll_cons_mk (shut_string underlying9 w0) (trodAll_cons_mk (tl W' hb) (trodAll_cons_mk (tc W' hb) trodAll_mk0))
 rfl
def MX:DataW Unit->Value
 |.lit (.int k n)=>.int k n
 |_=>.int .u8 0
def fu:DataW Unit->List Value
 |.agg l=>l.map MX
 |_=>[]
def M0:DataW Unit->List Value
 |.agg l=>(l.map fu).flatten
 |_=>[]
def fill(cs:Array Value):Obj->Obj
 |.cells _ t frozen=>.cells cs t frozen
 |o=>o
def Gw(w0:World):World:=
 { w0 with heap:=((((((((((((((((((((((w0.heap.modify 0 (fill #[.iface 157 (.agg #[.pointer (some ⟨22,45,none⟩)])])).modify 6 (fill (fu Rows.laid_layers_archive_nameField).toArray)).modify 7 (fill (fu Rows.laid_layers_archive_modeField).toArray)).modify 10 (fill (fu Rows.laid_layers_archive_userField).toArray)).modify 11 (fill (fu Rows.laid_layers_archive_groupField).toArray)).modify 2 (fill (fu Rows.laid_layers_archive_sizeField).toArray)).modify 12 (fill (fu Rows.laid_layers_archive_timeField).toArray)).modify 18 (fill (fu Rows.laid_layers_archive_checkField).toArray)).modify 8 (fill (fu Rows.laid_layers_archive_kindField).toArray)).modify 9 (fill (fu Rows.laid_layers_archive_linkField).toArray)).modify 13 (fill (fu Rows.laid_layers_archive_magicField).toArray)).modify 14 (fill (fu Rows.laid_layers_archive_deviceField).toArray)).modify 15 (fill (fu Rows.laid_layers_archive_device2Field).toArray)).modify 5 (fill (fu Rows.laid_layers_archive_aheadField).toArray)).modify 3 (fill (fu Rows.laid_unicode_utf8_first).toArray)).modify 4 (fill (M0 Rows.laid_unicode_utf8_acceptRanges).toArray)).modify 19 (fill (fu Rows.laid_internal_strconv_uint64pow10).toArray)).modify 20 (fill (fu Rows.laid_math_bits_deBruijn32tab).toArray)).modify 21 (fill (fu Rows.laid_math_bits_deBruijn64tab).toArray)).modify 17 (fill #[.iface 327 (.pointer (some ⟨w0.heap.size,0,none⟩))])).modify 16 (fill #[.iface 327 (.pointer (some ⟨w0.heap.size+1,0,none⟩))])).push (.cells #[.string ⟨#[118,97,108,117,101,32,111,117,116,32,111,102,32,114,97,110,103,101]⟩] 329 (0,0))).push (.cells #[.string ⟨#[105,110,118,97,108,105,100,32,115,121,110,116,97,120]⟩] 329 (0,0)) }
theorem Hw(os:Os):laidMetH prog Rows.formedRow.laid ((Gw (World.holding prog os ⟨#[],#[],[]⟩)).forCall (λ_ _=>0) ⟨#[],#[.string ⟨#[]⟩,.slice none 0 0,.slice none 0 0],[]⟩).memory:= laidMetH_of_parts (laidMet_of_run' 8 (by kernel_rfl) (by kernel_rfl)) (by kernel_rfl)
theorem reads(os:Os){H:Type}(enc:TypeId×Value->H):∃places,DataW.whole enc prog ((Gw (World.holding prog os ⟨#[],#[],[]⟩)).forCall (λ_ _=>0) ⟨#[],#[.string ⟨#[]⟩,.slice none 0 0,.slice none 0 0],[]⟩).memory Tryz.f3.params.toList Rows.formedSpec.vars false #[Value.string ⟨#[]⟩,Value.slice none 0 0,Value.slice none 0 0].toList 8=some ([.lit (.string []),.nil,.nil],[],places):= ⟨[],by kernel_rfl⟩
theorem zP(os:Os)(started:os.Started)(H:Type)(enc:TypeId×Value->H)(F:Stop.Interp): ReturnsInHanded {} Tryz.checked os 3 .any ((OpenSpec.ofChange Rows.formedSpec).preRow enc prog Tryz.f3 Rows.formedRow.domain false Rows.formedRow.laid) (((OpenSpec.ofChange Rows.formedSpec).at F).post enc prog Tryz.f3 false true false false):=by
 obtain⟨places,hx⟩:=reads os enc;refine returnsInHanded_of_row (C:=Tryz.checked) (s:=OpenSpec.ofChange Rows.formedSpec) own started (by kernel_rfl) func3 (witness_row_at (enc:=enc) (C:=Tryz.checked) false (Gw (World.holding prog os ⟨#[],#[],[]⟩)) #[.string ⟨#[]⟩,.slice none 0 0,.slice none 0 0] rfl (by kernel_rfl) (by kernel_rfl) (by kernel_rfl)
  (OpenSpec.preRow_of_cond 8 hx (by kernel_rfl) (λk hk=>by cases hk) (by kernel_rfl) (Hw os))) ?_
 intro W base args ds gs before hval hW _ _ hz hL hS _;exact Ho H enc W base args ds gs before hval hW hz hL hS
theorem GL:Rows.FormedSaid:= OpenClaim.holds_of_cond 3 Tryz.f3 rfl rfl rfl rfl rfl rfl rfl ⟨rfl,rfl,rfl,rfl,rfl⟩ rfl rfl rfl rfl rfl K8 func3 closed Mw Ku (λos started H enc _ F=>by rw[OpenClaim.pre_eq_preRow];exact zP os started H enc F)
theorem Jj(f:FuncId)(fn:Func)(hf:Tryz.pinned.checked.prog.funcNamed Rows.formedRow.func=some f)(hfn:Tryz.pinned.checked.prog.funcs[f]?=some fn): true=Tryz.pinned.checked.prog.looks []/\∀(j:Nat) t,fn.params[j]?=some t->Tryz.pinned.checked.prog.wantsStandIn t=false:=by
 obtain rfl:f=3:=Option.some.inj ((show prog.funcNamed Rows.formedRow.func=some 3 by kernel_rfl).symm.trans hf) |>.symm;obtain rfl:fn=Tryz.f3:=(Option.some.inj (func3.symm.trans hfn)).symm;refine⟨by kernel_rfl,λj t ht=>?_⟩;rw[params3]at ht;have hm:t=9\/t=22\/t=23:=by simpa using Array.mem_of_getElem? ht
 rcases hm with rfl|rfl|rfl
 .exact(show prog.wantsStandIn 9=false by kernel_rfl)
 .exact(show prog.wantsStandIn 22=false by kernel_rfl)
 exact(show prog.wantsStandIn 23=false by kernel_rfl)
theorem card:Rows.FormedCardSaid:= Claim7.holds_tied_plain_at .later [] _ _ _ _ GL (λ_ h=>by cases h) (by kernel_rfl) (λ_ h=>by cases h) formed_row_tie rfl ⟨rfl,rfl⟩ (by kernel_rfl) rfl Jj (by kernel_rfl)
#print axioms card
end Go.Proofs.YtjhobnjdfhkohaaGreatDoor
