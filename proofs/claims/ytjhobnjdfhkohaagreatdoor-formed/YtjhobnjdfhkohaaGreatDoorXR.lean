import Derived.Test.YtjhobnjdfhkohaaGreatDoorXQ
import Derived.Shelf.Strings.BuilderK
import Derived.Shelf.Strings.OnBuilder
set_option linter.all false
set_option maxHeartbeats 4000000
set_option maxRecDepth 10000
namespace Go.Proofs.YtjhobnjdfhkohaaGreatDoor
open Go.Proofs.Tryz
open Go.RowKit Go.Maps
theorem JQ(w:World):(binOp BinOp.neq 20 .nilIface .nilIface).run prog w=.ok (.bool false) w:=by kernel_rfl
theorem FC(v:Value)(w:World):(binOp BinOp.neq 20 (.iface 137 v) .nilIface).run prog w=.ok (.bool true) w:=by kernel_rfl
theorem At(p:Addr)(w:World): CallsD prog 29 #[.pointer (some p)] .returning w λe u' w'=>e=.returned (.tuple #[])/\u'=.returning/\w'=w:=by have hn:=JQ;refine callsD_of_wpS func29 rfl λc₀ cs hu=>?_;apply wpS_seq;apply wpS_region;simp[wpOpsS,go_sem,recoverD,hu,ntmps29,Exit.thenS];apply wpS_seq;apply wpS_region;simp[wpOpsS,go_sem,Exit.thenS,hn];refine wpS_cond (t:=false) (by simp[Act.eval,Array.replicate]) ?_;simp only[if_neg Bool.false_ne_true];refine wpS_of_wp ?_;go_wp2;cases c₀;simp_all[bodyPostS,results,results29]
theorem xI(B r b e p:Nat)(w:World)(hb:w.heap[b]?=some (.cells #[.int .i64 (e:Int),.int .i64 (p:Int)] 140 (0,0)))(hg:w.cell? ⟨0,0,none⟩=some (.iface 157 (.agg #[.pointer (some ⟨22,45,none⟩)])))(hr:w.heap[r]?=some (.cells #[.nilIface] 45 (0,0)))(hB:B<=r): CallsD prog 29 #[.pointer (some ⟨r,0,none⟩)] (.panicking [{ v:=.iface 137 (.pointer (some ⟨b,0,none⟩)),recovered:=false }]) w λev u' w'=>ev=.returned (.tuple #[])/\u'=.panicking [{ v:=.iface 137 (.pointer (some ⟨b,0,none⟩)),recovered:=true }]/\∃a:Nat,w'.heap[r]?=some (.cells #[.iface 64 (.pointer (some ⟨a,0,none⟩))] 45 (0,0))/\w'.heap[a]?=some (.cells #[.int .i64 (e:Int),.int .i64 (p:Int)] 68 (0,0))/\Below B w w':=by
 have hn:=FC (.pointer (some ⟨b,0,none⟩));have hW:=Dg b e p w hb hg;have hrl:r<w.heap.size:=(gA hr)
 refine callsD_of_wpS func29 rfl λc₀ cs hu=>?_;apply wpS_seq;apply wpS_region;simp[wpOpsS,go_sem,recoverD,hu,ntmps29,Exit.thenS];apply wpS_seq;apply wpS_region;simp[wpOpsS,go_sem,Exit.thenS,hn];refine wpS_cond (t:=true) (by simp[Act.eval,Array.replicate]) ?_;simp only[if_true];refine wpS_of_wp ?_;have HR:=ab hr;clear hb hg hr;go_wp2_with (go_at_call 30;refine hW.mono ?_;clear hW;rintro ev w2⟨a,rfl,ha,hb2⟩;have hr2:=(hb2.block r hrl).trans (uh HR);have q0:=cq 0 hr2;have q1:w2.frozen? ⟨r,0,none⟩=false:=by simp[World.frozen?,hr2])
 have hne:a≠r:=by rintro rfl;rw[hr2]at ha;injection ha with ha;injection ha with _ ha;cases ha
 have hA:=hS w2 r 0 _ _ (.iface 64 (.pointer (some ⟨a,0,none⟩))) hr2;have hA2:=heap_setCell_other w2 ⟨r,0,none⟩ a (.iface 64 (.pointer (some ⟨a,0,none⟩))) hne;rw[ha]at hA2;have hBB:Below B w (w2.setCell ⟨r,0,none⟩ (.iface 64 (.pointer (some ⟨a,0,none⟩)))):=(hb2.mono (by omega)).setCell (p:=⟨r,0,none⟩) hB _;obtain⟨W,hW⟩:=aq (w2.setCell ⟨r,0,none⟩ (.iface 64 (.pointer (some ⟨a,0,none⟩))));rw[<-hW]at hA hA2 hBB⊢;clear hW q0 q1 hr2 hb2 ha HR hn;cases c₀;simp[bodyPostS,results,results29];exact⟨a,hA,hA2,hBB⟩
theorem aQ.er{w w':World}{B fb q:Nat}{sv:Value}{ss:List ax}{c:Array Value}(h:aQ w B fb sv ss)(hq:w.heap[q]?=some (.cells c 45 (0,0)))(ht:Tb w.heap.size q w w'):aQ w' B fb sv ss:=by
 have hne:fb≠q:=by rintro rfl;have:=h.cells;rw[hq]at this;injection this with this;injection this with _ this;cases this
 exact⟨(ht.block fb h.lt hne).trans h.cells,h.base,iX h.row ht (bZ h.row hq (by decide)),λs hs=>⟨iX (h.all s hs).row ht (bZ (h.all s hs).row hq (by decide)),λm hm=>((h.all s hs).all m hm).off hq (by decide) (by decide) ht,(h.all s hs).short⟩,h.short⟩
def nF(w':World)(ev:Ending)(r:lW (List aU)):Prop:=match r with
 |.error (e,p)=>∃a:Nat,ev=.returned (.tuple #[.pointer none,.iface 64 (.pointer (some ⟨a,0,none⟩))])/\w'.heap[a]?=some (.cells #[.int .i64 (e:Int),.int .i64 (p:Int)] 68 (0,0))
 |.ok st=>∃B fb sv ss,ev=.returned (.tuple #[.pointer (some ⟨fb,0,none⟩),.nilIface])/\aQ w' B fb sv ss/\ss.map ax.stg=st
theorem read_any(s:BA)(m:Int)(w:World)(hm:w.cell? ⟨1,0,none⟩=some (.int .i64 m))(hg:w.cell? ⟨0,0,none⟩=some (.iface 157 (.agg #[.pointer (some ⟨22,45,none⟩)]))): Cl 21 #[.string s,.func (.func 22) #[] #[]] w λev w'=>nF w' ev (aI s.data.toList)/\Bw w w':=by
 have hmf:∀(fn:Fn) (first cap:Array Value) (w:World),(Instr.makeFunc fn first cap).run prog w=.ok (.func fn first cap) w:=λ_ _ _ _=>rfl;have hbl:=World.block_lt_of_cell? _ _ hg;obtain⟨W0,hW0⟩:=aq (w.alloc (.cells #[.nilIface] 45));have hb0:=dw hW0;have hr0:=em hW0;have hz0:W0.heap.size=w.heap.size+1:=by rw[hW0];simp
 have hF:=lJ s m W0 (cL hb0 hm);have hg0:=cL hb0 hg;cases hp:aI s.data.toList with
 |error ep=>
  obtain⟨e,p⟩:=ep;rw[hp]at hF;unfold gK jm at hF;have HR:=ab hr0;have HG:=ab hg0;have HB:=ab hb0;clear hr0 hg0 hb0 hp hm hg;go_enter_defers func21,ntmps21;go_upto_region 2 with fail;rw[<-hW0];clear hW0;go_wp2_with (go_at_call 22;refine hF.mono ?_;clear hF;rintro ev w2⟨⟨b,rfl,hc⟩,hb2⟩)
  have hr2:=(hb2.block w.heap.size (by omega)).trans (uh HR);have hC:=xI w.heap.size w.heap.size b e p w2 hc (cL hb2 (uh HG)) hr2 (nR _);refine leaves_cons (f:=29) (args:=#[.pointer (some ⟨w.heap.size,0,none⟩)]) (by simp) (by simp[go_sem]) ?_;refine hC.mono ?_;rintro ev u' w3⟨rfl,rfl,a,ha,ha2,hb3⟩;have q0:=cq 0 ha;have hBB:Bw w w3:=((uh HB).trans (hb2.mono (by omega))).trans hb3;simp[Leaves,settle,results,results21,go_sem,q0];exact⟨⟨a,rfl,ha2⟩,hBB⟩
 |ok st=>
  rw[hp]at hF;unfold gK at hF;have HR:=ab hr0;have HB:=ab hb0;clear hr0 hg0 hb0 hp hm hg;go_enter_defers func21,ntmps21;go_upto_region 2 with fail;rw[<-hW0];clear hW0;go_wp2_with (go_at_call 22;refine hF.mono ?_;clear hF;rintro ev w2⟨⟨fb,sv,ss,rfl,hFM,hst⟩,hb2⟩;have hr2:=(hb2.block w.heap.size (by omega)).trans (uh HR);have q0:w2.cell? ⟨w.heap.size,0,none⟩=some .nilIface:=cq 0 hr2;have q1:w2.frozen? ⟨w.heap.size,0,none⟩=false:=by simp[World.frozen?,hr2])
  have hFM3:=hFM.er hr2 (Tb.to w2.heap.size w.heap.size w2 0 .nilIface);have hr3:=hS w2 w.heap.size 0 _ _ .nilIface hr2;have hBB:Bw w (w2.setCell ⟨w.heap.size,0,none⟩ .nilIface):=((uh HB).trans (hb2.mono (by omega))).setCell (p:=⟨w.heap.size,0,none⟩) (nR _) _;obtain⟨W,hW⟩:=aq (w2.setCell ⟨w.heap.size,0,none⟩ .nilIface);rw[<-hW]at hFM3 hr3 hBB⊢;clear hW q0 q1;refine leaves_cons (f:=29) (args:=#[.pointer (some ⟨w.heap.size,0,none⟩)]) (by simp) (by simp[go_sem]) ?_;refine(At ⟨w.heap.size,0,none⟩ _).mono ?_;rintro ev u' w3⟨rfl,rfl,rfl⟩;have q0:=cq 0 hr3;simp[Leaves,settle,results,results21,go_sem,q0];exact⟨⟨_,fb,sv,ss,rfl,hFM3,hst⟩,hBB⟩
def oc(n:Nat):Bool:=decide (65<=n/\n<=90)||decide (48<=n/\n<=57)||decide (97<=n/\n<=122)||decide (0<=Lib.indexByte [46,47,95,61,58,45] n.toUInt8)
theorem Gf(n:Nat)(w:World):Cl 121 #[.int .u8 (n:Int)] w λe w'=>e=.returned (.bool (oc n))/\w'=w:=by
 have mC:=vw n w;have mD:=AW n w;have mI:=vx ⟨#[46,47,95,61,58,45]⟩ (n:Int) w;have HD:Hid (oc n=(decide (65<=n/\n<=90)||decide (48<=n/\n<=57)||decide (97<=n/\n<=122)||decide (0<=Lib.indexByte [46,47,95,61,58,45] n.toUInt8))):=ab rfl;simp only[Int.toNat_natCast]at mI;generalize hI:Lib.indexByte (ByteArray.mk #[46,47,95,61,58,45]).data.toList n.toUInt8=I at mI;have hI2:=hI;rw[hI2]at HD;generalize hc:decide (65<=n/\n<=90)=cc at mC HD;generalize hd:decide (48<=n/\n<=57)=dd at mD HD;clear hI hI2 hc hd;go_enter func121,ntmps121;go_wp2_with (first|(go_at_call 135;refine mC.mono ?_;clear mC;rintro ev w2⟨rfl,rfl⟩)|(go_at_call 136;refine mD.mono ?_;clear mD;rintro ev w2⟨rfl,rfl⟩)|(go_at_call 134;refine mI.mono ?_;clear mI;rintro ev w2⟨rfl,rfl⟩))
 all_goals
  go_ret;exact⟨ag (by rw[uh HD];rw[Bool.eq_iff_iff];simp_all<;>omega),rfl⟩
end Go.Proofs.YtjhobnjdfhkohaaGreatDoor
namespace Go.Proofs
open Go.Proofs.Tryz
open Go.Shelf Go.RowKit
def Tryz.lays156_ren:Go.Shelf.Ren:=⟨fun|156=>65|165=>93|166=>36|169=>38|240=>63|241=>123|276=>91|277=>150|n=>n,fun|31=>26|9=>9|3=>3|4=>4|0=>0|20=>20|72=>103|76=>107|70=>100|37=>101|75=>45|127=>155|164=>109|5=>5|80=>63|n=>n,fun|n=>n⟩
theorem Tryz.lays156:Go.Proofs.Lays.n156 Tryz.prog Tryz.lays156_ren:={
 mixed:=by kernel_rfl
 f156:=Tryz.func65.trans (congrArg some (by kernel_rfl))
 f165:=Tryz.func93.trans (congrArg some (by kernel_rfl))
 f166:=Tryz.func36.trans (congrArg some (by kernel_rfl))
 f169:=Tryz.func38.trans (congrArg some (by kernel_rfl))
 f240:=Tryz.func63.trans (congrArg some (by kernel_rfl))
 f241:=Tryz.func123.trans (congrArg some (by kernel_rfl))
 f276:=Tryz.func91.trans (congrArg some (by kernel_rfl))
 f277:=Tryz.func150.trans (congrArg some (by kernel_rfl))
 t0:=Tryz.underlying0
 a0:=Tryz.isAgg0
 z0:=Tryz.sizeOf0
 v0:=Tryz.zeroValue0
 t3:=Tryz.underlying3
 a3:=Tryz.isAgg3
 z3:=Tryz.sizeOf3
 v3:=Tryz.zeroValue3
 t4:=Tryz.underlying4
 a4:=Tryz.isAgg4
 z4:=Tryz.sizeOf4
 v4:=Tryz.zeroValue4
 t9:=Tryz.underlying9
 a9:=Tryz.isAgg9
 z9:=Tryz.sizeOf9
 v9:=Tryz.zeroValue9
 t20:=Tryz.underlying20
 a20:=Tryz.isAgg20
 z20:=Tryz.sizeOf20
 v20:=Tryz.zeroValue20
 t31:=Tryz.underlying26
 a31:=Tryz.isAgg26
 z31:=Tryz.sizeOf26
 v31:=Tryz.zeroValue26
 t37:=Tryz.underlying101
 a37:=Tryz.isAgg101
 z37:=Tryz.sizeOf101
 v37:=Tryz.zeroValue101
 t70:=Tryz.underlying100
 a70:=Tryz.isAgg100
 z70:=Tryz.sizeOf100
 v70:=Tryz.zeroValue100
 t72:=Tryz.underlying103
 a72:=Tryz.isAgg103
 z72:=Tryz.sizeOf103
 v72:=Tryz.zeroValue103
 t75:=Tryz.underlying45
 a75:=Tryz.isAgg45
 z75:=Tryz.sizeOf45
 v75:=Tryz.zeroValue45
 t76:=Tryz.underlying107
 a76:=Tryz.isAgg107
 z76:=Tryz.sizeOf107
 v76:=Tryz.zeroValue107
 t127:=Tryz.underlying155
 a127:=Tryz.isAgg155
 z127:=Tryz.sizeOf155
 v127:=Tryz.zeroValue155
 t164:=Tryz.underlying109
 a164:=Tryz.isAgg109
 z164:=Tryz.sizeOf109
 v164:=Tryz.zeroValue109 }
theorem Tryz.Builder_Extra_156:Builder.Extra Tryz.prog Tryz.lays156_ren:={
 sizeBuilder:=by kernel_rfl
 liesBuilder:=by kernel_rfl
 t5:=Tryz.underlying5
 a5:=Tryz.isAgg5
 z5:=Tryz.sizeOf5
 v5:=Tryz.zeroValue5
 infoByte:=by kernel_rfl
 cellsByte:=by kernel_rfl
 sizeByte:=by kernel_rfl
 neB5:=by decide }
open Go.RowKit in
theorem Tryz.strings_Join_none(a:Option Addr)(c:Nat)(sep:ByteArray)(w:World): Calls Tryz.prog 65 #[.slice a 0 c,.string sep] w λe w'=>e=.returned (.string ⟨#[]⟩)/\w'=w:=Any.strings_Join_none Tryz.lays156 Tryz.Builder_Extra_156 a c sep w
open Go.RowKit in
theorem Tryz.strings_Join(bk o c:Nat)(xs:List ByteArray)(sep:ByteArray)(w:World)(hcells:∀(j:Nat) x,xs[j]?=some x->w.cell? ⟨bk,o+j,none⟩=some (.string x))(hbk:bk<w.heap.size)(hN:xs.length<=140737488355328)(hcap:xs.length<=c)(hlen:(Lib.join (xs.map (·.data.toList)) sep.data.toList).length<=140737488355328): Calls Tryz.prog 65 #[.slice (some ⟨bk,o,none⟩) xs.length c,.string sep] w λe w'=>e=.returned (.string ⟨(Lib.join (xs.map (·.data.toList)) sep.data.toList).toArray⟩)/\Below w.heap.size w w':=Any.strings_Join Tryz.lays156 Tryz.Builder_Extra_156 bk o c xs sep w hcells hbk hN hcap hlen
def Tryz.renB:Go.Shelf.Ren:=⟨fun|167=>122|n=>Tryz.lays156_ren.f n,Tryz.lays156_ren.t,Tryz.lays156_ren.g⟩
theorem Tryz.laysB:Go.Proofs.Lays.n167 Tryz.prog Tryz.renB:={
 mixed:=Tryz.lays156.mixed
 f167:=Tryz.func122.trans (congrArg some (by kernel_rfl))
 f240:=Tryz.func63.trans (congrArg some (by kernel_rfl))
 f276:=Tryz.func91.trans (congrArg some (by kernel_rfl))
 t0:=Tryz.lays156.t0
 a0:=Tryz.lays156.a0
 z0:=Tryz.lays156.z0
 v0:=Tryz.lays156.v0
 t4:=Tryz.lays156.t4
 a4:=Tryz.lays156.a4
 z4:=Tryz.lays156.z4
 v4:=Tryz.lays156.v4
 t5:=Tryz.underlying5
 a5:=Tryz.isAgg5
 z5:=Tryz.sizeOf5
 v5:=Tryz.zeroValue5
 t9:=Tryz.lays156.t9
 a9:=Tryz.lays156.a9
 z9:=Tryz.lays156.z9
 v9:=Tryz.lays156.v9
 t20:=Tryz.lays156.t20
 a20:=Tryz.lays156.a20
 z20:=Tryz.lays156.z20
 v20:=Tryz.lays156.v20
 t37:=Tryz.lays156.t37
 a37:=Tryz.lays156.a37
 z37:=Tryz.lays156.z37
 v37:=Tryz.lays156.v37
 t70:=Tryz.lays156.t70
 a70:=Tryz.lays156.a70
 z70:=Tryz.lays156.z70
 v70:=Tryz.lays156.v70
 t72:=Tryz.lays156.t72
 a72:=Tryz.lays156.a72
 z72:=Tryz.lays156.z72
 v72:=Tryz.lays156.v72
 t75:=Tryz.lays156.t75
 a75:=Tryz.lays156.a75
 z75:=Tryz.lays156.z75
 v75:=Tryz.lays156.v75
 t164:=Tryz.lays156.t164
 a164:=Tryz.lays156.a164
 z164:=Tryz.lays156.z164
 v164:=Tryz.lays156.v164 }
theorem Tryz.extraB:Builder.Extra Tryz.prog Tryz.renB:={
 sizeBuilder:=by kernel_rfl
 liesBuilder:=by kernel_rfl
 t5:=Tryz.underlying5
 a5:=Tryz.isAgg5
 z5:=Tryz.sizeOf5
 v5:=Tryz.zeroValue5
 infoByte:=by kernel_rfl
 cellsByte:=by kernel_rfl
 sizeByte:=by kernel_rfl
 neB5:=by decide }
theorem Tryz.Builder_WriteByte(B b:Nat)(bs:List Value)(c:Int)(w:World)(h:Lib.IsBuilder 103 5 B b bs w)(hlen:bs.length+1<=140737488355328)(hBw:B<=w.heap.size): Calls Tryz.prog 122 #[.pointer (some ⟨b,0,none⟩),.int .u8 c] w λe w'=>e=.returned .nilIface/\(Lib.BuilderAt 103 5 B b (.pointer (some ⟨b,0,none⟩)) (bs++[.int .u8 c]) w'/\Below B w w'):=Any.Builder_WriteByte Tryz.laysB Tryz.extraB B b bs c w h hlen hBw
theorem Tryz.Builder_WriteString(B b:Nat)(bs:List Value)(s:ByteArray)(w:World)(h:Lib.IsBuilder 103 5 B b bs w)(hlen:bs.length+s.size<=140737488355328)(hBw:B<=w.heap.size): Calls Tryz.prog 36 #[.pointer (some ⟨b,0,none⟩),.string s] w λe w'=>e=.returned (.tuple #[.int .i64 s.size,.nilIface])/\(Lib.BuilderAt 103 5 B b (.pointer (some ⟨b,0,none⟩)) (bs++Lib.strCells s) w'/\Below B w w'):=Any.Builder_WriteString { Tryz.lays156 with } Tryz.Builder_Extra_156 B b bs s w h hlen hBw
theorem Tryz.Builder_String_any(B b:Nat)(l:List UInt8)(w:World)(h:Lib.IsBuilder 103 5 B b (Lib.byteCells l) w)(hBw:B<=w.heap.size): Calls Tryz.prog 38 #[.pointer (some ⟨b,0,none⟩)] w λe w'=>e=.returned (.string ⟨l.toArray⟩)/\Below B w w':=Any.Builder_String_any { Tryz.lays156 with } Tryz.Builder_Extra_156 B b l w h hBw
end Go.Proofs
namespace Go.Proofs.YtjhobnjdfhkohaaGreatDoor
open Go.Proofs.Tryz
open Go.RowKit Go.Maps
theorem eF{T e:TypeId}{B b:Nat}{p:Value}{bs:List Value}{w w':World}(h:Lib.BuilderAt T e B b p bs w)(hb:Bw w w'):Lib.BuilderAt T e B b p bs w':=by obtain⟨h1,v,h2,h3,h4⟩:=h;refine⟨h1,v,(hb.block b (gA h2)).trans h2,h3.kept (lj hb) ?_,h4⟩;cases hv:v.ownBlock<;>simp
def mj(B b:Nat)(l:LU)(w:World):Prop:=Lib.IsBuilder 103 5 B b (Lib.byteCells l) w/\B<=w.heap.size
theorem mj.later{B b:Nat}{l:LU}{w w':World}(h:mj B b l w)(hb:Bw w w'):mj B b l w':=by
 refine⟨?_,nT h.2 hb.size⟩;rcases h.1 with h1|h1
 .exact .inl (eF h1 hb)
 exact .inr (eF h1 hb)
theorem nB(w:World):mj w.heap.size w.heap.size [] (w.alloc (.cells #[.pointer none,.slice none 0 0] 103)):= ⟨.inl ⟨nR _,.slice none 0 0,hN _ _,World.ownsRow_nil _ _ _ _,by simp[Value.ownBlock]⟩,by simp⟩
theorem eH(l:LU):(Lib.byteCells l).length=l.length:=by simp[Lib.byteCells]
theorem NQ(B b:Nat)(l:LU)(c:Int)(x:UInt8)(w:World)(h:mj B b l w)(hc:c=(x.toNat:Int))(hl:l.length<=4294967296): Cl 122 #[.pointer (some ⟨b,0,none⟩),.int .u8 c] w λe w'=>e=.returned .nilIface/\mj B b (l++[x]) w'/\Below B w w':=by subst hc;refine(Tryz.Builder_WriteByte B b _ _ w h.1 (by rw[eH];omega) h.2).mono ?_;rintro e w'⟨rfl,hb,hbl⟩;refine⟨rfl,⟨.inr ?_,nT h.2 hbl.size⟩,hbl⟩;simpa[Lib.byteCells]using hb
theorem Mt(B b:Nat)(l:LU)(s:BA)(w:World)(h:mj B b l w)(hl:l.length+s.size<=4294967296): Cl 36 #[.pointer (some ⟨b,0,none⟩),.string s] w λe w'=>e=.returned (.tuple #[.int .i64 s.size,.nilIface])/\mj B b (l++s.data.toList) w'/\Below B w w':=by refine(Tryz.Builder_WriteString B b _ _ w h.1 (by rw[eH];omega) h.2).mono ?_;rintro e w'⟨rfl,hb,hbl⟩;refine⟨rfl,⟨.inr ?_,nT h.2 hbl.size⟩,hbl⟩;simpa[Lib.byteCells,Lib.strCells]using hb
theorem E0(B b:Nat)(l:LU)(w:World)(h:mj B b l w): Cl 38 #[.pointer (some ⟨b,0,none⟩)] w λe w'=>e=.returned (.string ⟨l.toArray⟩)/\Below B w w':= Tryz.Builder_String_any B b l w h.1 h.2
def fa(c:UInt8):LU:=if oc c.toNat then [c] else [92,c]
def bQ(l:LU):LU:=(l.map fa).flatten
def kh(l:LU):LU:=if l=[] then [34,34] else bQ l
theorem qE(l:LU):(bQ l).length<=2*l.length:=by
 induction l with
 |nil=>simp[bQ]
 |cons a r ih=>
  have h1:bQ (a::r)=fa a++bQ r:=by simp[bQ]
  rw[h1,lA,lC];have:(fa a).length<=2:=by unfold fa;split<;>simp
  omega
theorem pj(l:LU)(c:UInt8):bQ (l++[c])=bQ l++fa c:=by simp[bQ]
theorem CE{c:UInt8}(h:oc c.toNat=true):fa c=[c]:=by simp[fa,h]
theorem FU{c:UInt8}(h:oc c.toNat=false):fa c=[92]++[c]:=by simp[fa,h]
theorem kR(s:BA)(w:World)(hs:s.size<=1073741824): Cl 92 #[.string s] w λe w'=>(∃u:BA,e=.returned (.string u)/\u.data.toList=kh s.data.toList)/\Bw w w':=by
 by_cases he:s.data.toList=[]
 .have g1:s.toList.isEmpty=true:=by rw[tD,he];rfl
  have HN:Hid (kh s.data.toList=[34,34]):=ab (by rw[he];rfl);clear he;go_enter func92,ntmps92;go_wp2_with fail;go_ret;exact⟨⟨_,rfl,(uh HN).symm⟩,bR _ _⟩
 have g1:s.toList.isEmpty=false:=by rw[tD];simpa using he
 have HN:Hid (kh s.data.toList=bQ s.data.toList):=ab (by unfold kh;rw[if_neg he]);clear he;obtain⟨W0,hW0⟩:=aq (w.alloc (.cells #[.pointer none,.slice none 0 0] 103));have hb0:=dw hW0;have hB0:mj w.heap.size w.heap.size [] W0:=by rw[hW0];exact nB w
 go_enter func92,ntmps92;go_wp2_with fail;rw[<-hW0];clear hW0;go_loopw [9] (λi wr=>∃k:Nat,k<=s.size/\i=.int .i64 k/\mj w.heap.size w.heap.size (bQ (s.data.toList.take k)) wr/\Bw w wr) (λi _=>s.size-(intOf i).toNat);case atStart=>exact⟨0,Nat.zero_le _,rfl,hB0,hb0⟩
 case round=>
  obtain⟨k,hk,rfl,hB,hb⟩:=hrel;have HB:=ab hB;have Hb:=ab hb;clear hB hb hB0 hb0;by_cases hlt:k<s.size
  .have hl:(bQ (s.data.toList.take k)).length<=2147483648:=by have:=qE (s.data.toList.take k);rw[List.length_take]at this;omega
   have HL:=ab hl;clear hl;have hU:=Gf s[k].toNat wr;cases hu:oc s[k].toNat with
   |true=>
    rw[hu]at hU;have HS:Hid (bQ (s.data.toList.take (k+1))=bQ (s.data.toList.take k)++[s[k]]):=ab (by rw[fw s k hlt,pj,CE hu]);clear hu;have hW:=λw2 h=>NQ w.heap.size w.heap.size (bQ (s.data.toList.take k)) (s[k].toNat:Int) s[k] w2 h rfl (by have:=uh HL;omega);go_wp2_with (first|(go_at_call 121;refine hU.mono ?_;clear hU;rintro ev w2⟨rfl,hw⟩;obtain rfl:=hw.symm)|(go_at_call 122;refine(hW _ (uh HB)).mono ?_;clear hW;rintro ev w3⟨rfl,hB3,hb3⟩))
    go_roundw;case rel=>exact⟨k+1,hlt,by go_num,by rw[uh HS];exact hB3,(uh Hb).trans hb3⟩
    case measure=>simp[intOf];omega
   |false=>
    rw[hu]at hU;have HS:Hid (bQ (s.data.toList.take (k+1))=bQ (s.data.toList.take k)++[92]++[s[k]]):=ab (by rw[fw s k hlt,pj,FU hu,aA]);clear hu;have hV:=λw2 h=>Mt w.heap.size w.heap.size (bQ (s.data.toList.take k)) ⟨#[92]⟩ w2 h (by have:=uh HL;have h1:(ByteArray.mk #[92]).size=1:=rfl;omega);have hW:=λw2 h=>NQ w.heap.size w.heap.size (bQ (s.data.toList.take k)++[92]) (s[k].toNat:Int) s[k] w2 h rfl (by have:=uh HL;simp;omega);go_wp2_with (first|(go_at_call 121;refine hU.mono ?_;clear hU;rintro ev w2⟨rfl,hw⟩;obtain rfl:=hw.symm)|(go_at_call 36;refine(hV _ (uh HB)).mono ?_;clear hV;rintro ev w3⟨rfl,hB3,hb3⟩)|(go_at_call 122;refine(hW _ hB3).mono ?_;clear hW;rintro ev w4⟨rfl,hB4,hb4⟩))
    go_roundw;case rel=>exact⟨k+1,hlt,by go_num,by rw[uh HS];exact hB4,((uh Hb).trans hb3).trans hb4⟩
    case measure=>simp[intOf];omega
  have hke:k=s.size:=by omega
  have hW:=E0 w.heap.size w.heap.size _ wr (uh HB);have HS:Hid (bQ (s.data.toList.take k)=kh s.data.toList):=ab (by rw[uh HN,List.take_of_length_le (by rw[hke,zE];exact nR _)]);clear hke;go_wp2_with (go_at_call 38;refine hW.mono ?_;clear hW;rintro ev w3⟨rfl,hb3⟩)
  go_ret;exact⟨⟨_,rfl,(List.toList_toArray).trans (uh HS)⟩,(uh Hb).trans hb3⟩
def jK(p:dC):LU:=if p.isVar then [36,123]++p.text.data.toList++[125] else kh p.text.data.toList
def bP(l:List dC):LU:=(l.map jK).flatten
def gx(l:List dC):LU:=if l=[] then [34,34] else bP l
def kA(l:List dC):Nat:=(l.map λp=>2*p.text.size+3).sum
theorem tr(l:LU):(kh l).length<=2*l.length+2:=by
 unfold kh;split
 .simp
 have:=qE l;omega
theorem CP(p:dC):(jK p).length<=2*p.text.size+3:=by
 unfold jK;split
 .have:=zE p.text;rw[lA,lA,<-this];simp;omega
 have:=tr p.text.data.toList;rw[<-zE]at this;omega
theorem zb(l:List dC)(p:dC):bP (l++[p])=bP l++jK p:=by simp[bP]
theorem rB(l:List dC):(bP l).length<=kA l:=by
 induction l with
 |nil=>simp[bP,kA]
 |cons a r ih=>
  have h1:bP (a::r)=jK a++bP r:=by simp[bP]
  have h2:kA (a::r)=2*a.text.size+3+kA r:=by simp[kA]
  rw[h1,h2,lA];have:=CP a;omega
theorem m9(l r:List dC):kA (l++r)=kA l+kA r:=by simp[kA]
theorem GK(l:List dC)(k:Nat):kA (l.take k)<=kA l:=by have:=m9 (l.take k) (l.drop k);rw[List.take_append_drop]at this;omega
theorem A1{l:List dC}{k:Nat}{p:dC}(h:l[k]?=some p):kA (l.take k)+(2*p.text.size+3)<=kA l:=by
 have h1:l.take (k+1)=l.take k++[p]:=by rw[List.take_add_one,h];rfl
 have h2:=GK l (k+1);rw[h1,m9]at h2;have h3:kA [p]=2*p.text.size+3:=by simp[kA]
 omega
theorem C8(m:aw)(B:Nat)(w:World)(h:m.Ok w B)(hl:(parts m.xs).length<=1500)(hz:kA (parts m.xs)<=268435456): Cl 64 #[m.val] w λev w'=>(∃u:BA,ev=.returned (.string u)/\u.data.toList=gx (parts m.xs))/\Bw w w':=by
 obtain⟨place,v,xs⟩:=m;unfold aw.Ok at h;simp only at h hl hz⊢;obtain⟨ps,hps⟩:=aq (parts xs);rw[<-hps]at h hl hz⊢;clear hps;obtain⟨W0,hW0⟩:=aq (w.alloc (.cells #[.int .i64 (place:Int),v] 148));have hb0:=dw hW0;have hz0:W0.heap.size=w.heap.size+1:=by rw[hW0];simp
 have hc0:=em hW0;have p1:=cq 1 hc0;by_cases he:ps=[]
 .subst he;have HB:=ab hb0;have hT:=kR ⟨#[]⟩ W0 (by decide);have HF:Hid (gx []=kh (ByteArray.mk #[]).data.toList):=ab rfl;rcases yw h with rfl|⟨g,cap,rfl⟩
  all_goals
   clear h hl hz hb0 hc0;go_enter func64,ntmps64;go_upto_region 1 with fail;rw[<-hW0];clear hW0;go_wp2_with (go_at_call 92;refine hT.mono ?_;clear hT;rintro ev w2⟨⟨u,rfl,hu⟩,hb2⟩)
   go_ret;exact⟨⟨_,rfl,by rw[uh HF];exact hu⟩,(uh HB).trans (hb2.mono (by omega))⟩
 have hpos:0<ps.length:=List.length_pos_iff.2 he;obtain⟨g,cap,rfl,_,hgl⟩:=World.ownsRow.form h hpos;have HF:Hid (gx ps=bP ps):=ab (by unfold gx;rw[if_neg he]);clear he;obtain⟨n,hn⟩:=aq ps.length;have HN:=ab hn;have HROW:=ab h;have HZ:=ab hz;have HG:=ab hgl;rw[<-hn]at p1 hl hpos hW0⊢;have g0:((n:Int)==0)=false:=by simp;omega
 obtain⟨W1,hW1⟩:=aq (W0.alloc (.cells #[.pointer none,.slice none 0 0] 103));have HB1:Hid (Below (w.heap.size+1) W0 W1):=ab (by rw[hW1];exact(bR _ _).alloc (by omega) _);have HBl:Hid (mj (w.heap.size+1) (w.heap.size+1) [] W1):=ab (by rw[hW1,<-hz0];exact nB W0);have p2:=cL ((uh HB1).mono (by omega)) p1;have HB0:=ab hb0;clear h hz hgl hc0 hb0 hn;go_enter func64,ntmps64;go_upto_region 1 with fail;rw[<-hW0];clear hW0;go_upto_region 4 with fail;rw[<-hW1];clear hW1;go_wp2_with fail;clear p1 p2;go_loopw [14] (λi wr=>∃k:Nat,k<=n/\i=.int .i64 k/\mj (w.heap.size+1) (w.heap.size+1) (bP (ps.take k)) wr/\Below (w.heap.size+1) W0 wr) (λi _=>n-(intOf i).toNat);case atStart=>exact⟨0,Nat.zero_le _,rfl,uh HBl,uh HB1⟩
 case round=>
  obtain⟨k,hk,rfl,hB,hb⟩:=hrel;have HB:=ab hB;have Hb:=ab hb;clear hB HBl HB1;by_cases hlt:k<n
  .obtain⟨p,hp⟩:∃p,ps[k]?=some p:=⟨_,gG (by rw[<-uh HN];exact hlt)⟩
   have hbw:Bw w wr:=(uh HB0).trans (hb.mono (by omega));have hrow3:=ap (uh HROW) (w':=wr) (λi hi=>hbw.block i (World.ownsRow.lt (uh HROW) i hi).2);obtain⟨t0,t1,t2⟩:=vK _ k p hp;have hjl:k<ps.length:=by rw[<-uh HN];exact hlt
   have u0:wr.cell? ⟨g,k*3,none⟩=some (.string p.text):=by rw[World.ownsRow.cellAt hrow3 _ (by omega)];exact t0
   have u1:wr.cell? ⟨g,k*3+1,none⟩=some (.bool p.isVar):=by rw[World.ownsRow.cellAt hrow3 _ (by omega)];exact t1
   have u2:wr.cell? ⟨g,k*3+2,none⟩=some (.int .i64 p.place):=by rw[World.ownsRow.cellAt hrow3 _ (by omega)];exact t2
   have hsp:=A1 hp;have hsz:p.text.size<=1073741824/\(bP (ps.take k)).length+(2*p.text.size+3)<=268435456:=by have h1:=rB (ps.take k);have h2:=uh HZ;omega
   have HSZ:=ab hsz;have HS:Hid (bP (ps.take (k+1))=bP (ps.take k)++jK p):=ab (by rw[List.take_add_one,hp];exact zb _ _);have n0:=World.new_ne wr ⟨g,k*3,none⟩ u0;obtain⟨W2,hW2⟩:=aq (wr.alloc (.cells #[.string p.text,.bool p.isVar,.int .i64 p.place] 192));have hb2:=dw hW2;have HB2:Hid (Below (w.heap.size+1) W0 W2):=ab (hb.trans (hb2.mono (by have:=hb.size;omega)));have HL2:Hid (mj (w.heap.size+1) (w.heap.size+1) (bP (ps.take k)) W2):=ab ((uh HB).later hb2);have hc2:=em hW2;have q0:=cq 0 hc2;have q1:=cq 1 hc2;clear hp hbw hrow3 t0 t1 t2 hjl hsp hsz hb2 hc2 hb HB Hb;go_upto_region 7 with fail;rw[<-hW2];clear hW2 u0 u1 u2 n0;cases hv:p.isVar with
   |true=>
    rw[hv]at q1;have HP:Hid (jK p=[36,123]++p.text.data.toList++[125]):=ab (by unfold jK;rw[hv];rfl);clear hv;have HV:Hid (({ data:=#[36,123] }++p.text++{ data:=#[125] }:BA).size=p.text.size+3):=ab (by rw[ByteArray.size_append,ByteArray.size_append];have h1:(ByteArray.mk #[36,123]).size=2:=rfl;have h2:(ByteArray.mk #[125]).size=1:=rfl;omega);have hps1:p.text.size<=1073741824:=(uh HSZ).1;go_wp2_with (go_at_call 36;refine(Mt _ _ _ _ _ (uh HL2) ?_).mono ?_;(have hh:=(uh HSZ).2;rw[uh HV];omega);rintro ev w3⟨rfl,hB3,hb3⟩)
    go_roundw;case rel=>exact⟨k+1,hlt,by go_num,by rw[uh HS,uh HP];simpa using hB3,(uh HB2).trans hb3⟩
    case measure=>simp[intOf];omega
   |false=>
    rw[hv]at q1;have HP:Hid (jK p=kh p.text.data.toList):=ab (by unfold jK;rw[hv];rfl);clear hv;have hT:=kR p.text W2 (uh HSZ).1;have hlen:=tr p.text.data.toList;have HLE:=ab hlen;clear hlen;go_wp2_with (first|(go_at_call 92;refine hT.mono ?_;clear hT;rintro ev w3⟨⟨u,rfl,hu⟩,hb3⟩;have HU:=ab hu;have HL3:=ab ((uh HL2).later hb3);clear hu)|(go_at_call 36;refine(Mt _ _ _ _ _ (uh HL3) ?_).mono ?_;(have hh:=(uh HSZ).2;have h2:=uh HLE;rw[<-uh HU,<-zE,<-zE]at h2;omega);rintro ev w4⟨rfl,hB4,hb4⟩))
    go_roundw;case rel=>exact⟨k+1,hlt,by go_num,by rw[uh HS,uh HP,<-uh HU];exact hB4,((uh HB2).trans (hb3.mono (by have:=(uh HB2).size;omega))).trans hb4⟩
    case measure=>simp[intOf];omega
  have hke:k=n:=by omega
  have hW:=E0 _ _ _ wr (uh HB);have HS:Hid (bP (ps.take k)=gx ps):=ab (by rw[uh HF,List.take_of_length_le (by rw[hke,uh HN];exact nR _)]);clear hke hb;go_wp2_with (go_at_call 38;refine hW.mono ?_;clear hW;rintro ev w3⟨rfl,hb3⟩)
  go_ret;exact⟨⟨_,rfl,(List.toList_toArray).trans (uh HS)⟩,((uh HB0).trans ((uh Hb).mono (by omega))).trans (hb3.mono (by omega))⟩
theorem dL{w:World}{B e z n:Nat}{ao:OA}{n' cap:Nat}{xs:List Value}(h:w.ownsRow B e z (.slice ao n' cap) n xs):n'=n:=by
 rcases h.2 with⟨e,h0⟩|⟨g,c,cur,e,_⟩
 .injection e with _ e _;omega
 injection e
abbrev iV:LU:=[67,79,80,89]
abbrev Dz:LU:=[65,68,68]
def cA.arr(m:cA):Array Value:=#[m.wv,.int .i64 m.stage,.int .i64 (af m.rule).1,.int .i64 (af m.rule).2.1,aN (af m.rule).2.2.1,aN (af m.rule).2.2.2]
theorem ic{w:World}{B e z n:Nat}{v:Value}{xs:List Value}(h:w.ownsRow B e z v n xs)(hn:0<n):∃g cap,v=.slice (some ⟨g,0,none⟩) n cap/\n<=cap/\cap<=maxLen:=by
 rcases h.2 with⟨_,h0⟩|⟨g,cap,cur,hv,_,_,h1,h2,_⟩
 .omega
 exact⟨g,cap,hv,h1,h2⟩
theorem qz(i:Nat):1<=(af i).1:=by unfold af;split<;>decide
def Ao(m:cA)(ev:Ending):Prop:=∃g cap,m.wv=.slice (some ⟨g,0,none⟩) m.ws.length cap/\ev=.returned (.slice (some ⟨g,2,none⟩) (m.ws.length-1) (cap-1))
theorem lZ(m:cA)(x:aw)(B:Nat)(w:World)(h:m.Ok w B)(h0:m.ws[0]?=some x)(hst:m.stage=-1\/(an x.xs==some iV)=false): Cl 74 #[m.val] w λev w'=>Ao m ev/\Bw w w':=by
 have hl0:=(gL h0)
 obtain⟨g,cap,hcp,hc1,hc2⟩:=ic h.ws.row (by omega);have hsh:=h.short;have hle:=h.least;have hrp:=qz m.rule;obtain⟨W0,hW0⟩:=aq (w.alloc (.cells #[m.wv,.int .i64 m.stage,.int .i64 (af m.rule).1,.int .i64 (af m.rule).2.1,aN (af m.rule).2.2.1,aN (af m.rule).2.2.2] 86));have hb0:=dw hW0;have hc0:=em hW0;have hIs:=xo m x ⟨#[67,79,80,89]⟩ B W0 (h.below hb0).ws h0 (h.small x (mG h0)).1;obtain⟨b,hb⟩:=aq ((an x.xs==some iV));rw[show (⟨#[67,79,80,89]⟩:BA).data.toList=iV from rfl,<-hb]at hIs;rw[<-hb]at hst;obtain⟨wv,ws,stage,rule⟩:=m;simp only at hcp hst hIs hc0 hl0 hc1 hsh hW0 hle hrp⊢;subst hcp;unfold cA.val at hIs⊢;simp only at hIs⊢;have r0:=cq 0 hc0;have r1:=cq 1 hc0;have r2:=cq 2 hc0;have r3:=cq 3 hc0;have r4:=cq 4 hc0;have r5:=cq 5 hc0;obtain⟨n,hn⟩:∃n,ws.length=n+1:=⟨ws.length-1,by omega⟩
 obtain⟨c,hc⟩:∃c,cap=c+1:=⟨cap-1,by omega⟩
 rw[hn]at hIs hW0 r0 hc0 hc1 hsh⊢;subst hc;have HC:=ab hc0;have hc00:¬c=0:=by omega
 have HO:Hid (∀ev,ev=.returned (.slice (some ⟨g,2,none⟩) n c)->Ao ⟨.slice (some ⟨g,0,none⟩) (n+1) (c+1),ws,stage,rule⟩ ev):=ab (λev he=>⟨g,c+1,by rw[hn],by rw[he];simp[hn]⟩);obtain⟨OO,hOO⟩:=aq (Ao ⟨.slice (some ⟨g,0,none⟩) (n+1) (c+1),ws,stage,rule⟩);rw[<-hOO]at HO⊢;have i1:(1:Int)<=(n:Int)+1/\(n:Int)+1<=(c:Int)+1:=by omega
 clear h h0 hb hc0 hn hl0 hc1 hc2 hsh hle hrp hOO;cases b with
 |false=>
  clear hst;go_enter func74,ntmps74;go_upto_region 1 with fail;rw[<-hW0];clear hW0;go_upto_region 3 with(go_at_call 89;refine hIs.mono ?_;clear hIs;rintro e1 w1⟨rfl,hb1⟩)
  have q0:=cL hb1 r0;clear r0 r1 r2 r3 r4 r5;go_wp2_with fail;go_ret;exact⟨uh HO _ rfl,hb0.trans (hb1.mono hb0.size)⟩
 |true=>
  obtain rfl:stage=-1:=hst.elim id (λe=>by cases e);have HK:Hid (∀W,Bw W0 W->W.cell? ⟨w.heap.size,1,none⟩=some (.int .i64 (-1))/\W.cell? ⟨w.heap.size,0,none⟩=some (.slice (some ⟨g,0,none⟩) (n+1) (c+1))):=ab (λW hB=>⟨cL hB r1,cL hB r0⟩);go_enter func74,ntmps74;go_upto_region 1 with fail;rw[<-hW0];clear hW0;go_wp2_with (go_at_call 89;refine hIs.mono ?_;clear hIs;rintro e1 w1⟨rfl,hb1⟩;obtain⟨q1,q0⟩:=uh HK w1 hb1)
  go_ret;exact⟨uh HO _ rfl,hb0.trans (hb1.mono hb0.size)⟩
def jg(xs:List bM):Bool:=an xs==some iV||an xs==some Dz
theorem xB(m:cA)(x:aw)(mb:Nat)(cv:OA)(B:Nat)(w:World)(hcv:w.cell? ⟨mb,0,none⟩=some (.pointer cv))(h:m.Ok w B)(h0:m.ws[0]?=some x)(hst:m.stage=-1): Cl 73 #[.pointer (some ⟨mb,0,none⟩),m.val] w λev w'=>ev=.returned (.pointer (if jg x.xs=true then cv else none))/\Bw w w':=by
 obtain⟨W0,hW0⟩:=aq (w.alloc (.cells #[m.wv,.int .i64 m.stage,.int .i64 (af m.rule).1,.int .i64 (af m.rule).2.1,aN (af m.rule).2.2.1,aN (af m.rule).2.2.2] 86));have hb0:=dw hW0;have hc0:=em hW0;have hok:=h.below hb0;have hsm:=(h.small x (mG h0)).1;obtain⟨g,cap,hcp,_,_⟩:=ic h.ws.row (by have:=(gL h0);omega);have hIs:∀(t:BA) W,Bw W0 W->Cl 89 #[m.val,.string t] W λev w'=>ev=.returned (.bool (an x.xs==some t.data.toList))/\Bw W w':=λt W hB=>xo m x t B W (hok.below hB).ws h0 hsm;have hI1:=hIs ⟨#[67,79,80,89]⟩ W0 (bR _ _);have hI2:=λW hB=>hIs ⟨#[65,68,68]⟩ W hB;rw[show (⟨#[67,79,80,89]⟩:BA).data.toList=iV from rfl]at hI1;rw[show (⟨#[65,68,68]⟩:BA).data.toList=Dz from rfl]at hI2;obtain⟨b1,hb1e⟩:=aq ((an x.xs==some iV));obtain⟨b2,hb2e⟩:=aq ((an x.xs==some Dz));have ht:jg x.xs=(b1||b2):=by unfold jg;rw[hb1e,hb2e]
 rw[<-hb1e]at hI1;rw[<-hb2e]at hI2;rw[ht];have HK:Hid (∀W,Bw W0 W->W.heap[w.heap.size]?=some (.cells #[m.wv,.int .i64 m.stage,.int .i64 (af m.rule).1,.int .i64 (af m.rule).2.1,aN (af m.rule).2.2.1,aN (af m.rule).2.2.2] 86 (0,0))/\W.cell? ⟨mb,0,none⟩=some (.pointer cv)):=ab (λW hB=>⟨(hB.block w.heap.size (gA hc0)).trans hc0,cL hB (cL hb0 hcv)⟩);obtain⟨wv,ws,stage,rule⟩:=m;simp only at hcp hst hW0 HK hc0;subst hcp hst;unfold cA.val at hI1 hI2⊢;simp only at hI1 hI2⊢;obtain⟨n,hn⟩:=aq ws.length;rw[<-hn]at hI1 hI2 hW0 HK hc0⊢;have r0:=cq 0 hc0;have r1:=cq 1 hc0;have r2:=cq 2 hc0;have r3:=cq 3 hc0;have r4:=cq 4 hc0;have r5:=cq 5 hc0;clear h h0 hok hIs hb1e hb2e ht hn hsm hc0 hcv;cases b1 with
 |true=>
  simp only[Bool.true_or,if_true];go_enter func73,ntmps73;go_upto_region 1 with fail;rw[<-hW0];clear hW0;go_upto_region 3 with(go_at_call 89;refine hI1.mono ?_;clear hI1;rintro e1 w1⟨rfl,hb1⟩)
  obtain⟨hh,hcv⟩:=uh HK w1 hb1;have s1:=cq 1 hh;clear hh r0 r1 r2 r3 r4 r5;go_wp2_with fail;go_ret;exact⟨rfl,hb0.trans (hb1.mono hb0.size)⟩
 |false=>
  have HK2:Hid (∀W,Bw W0 W->W.cell? ⟨w.heap.size,0,none⟩=some (.slice (some ⟨g,0,none⟩) n cap)/\W.cell? ⟨w.heap.size,1,none⟩=some (.int .i64 (-1))/\W.cell? ⟨w.heap.size,2,none⟩=some (.int .i64 (af rule).1)/\W.cell? ⟨w.heap.size,3,none⟩=some (.int .i64 (af rule).2.1)/\W.cell? ⟨w.heap.size,4,none⟩=some (aN (af rule).2.2.1)/\W.cell? ⟨w.heap.size,5,none⟩=some (aN (af rule).2.2.2)/\W.cell? ⟨mb,0,none⟩=some (.pointer cv)):=ab (λW hB=>by obtain⟨hh,hcv⟩:=uh HK W hB;exact⟨cq 0 hh,cq 1 hh,cq 2 hh,cq 3 hh,cq 4 hh,cq 5 hh,hcv⟩);have HI2:=ab hI2;clear hI2;cases b2 with
  |true=>
   simp only[Bool.false_or,if_true];go_enter func73,ntmps73;go_upto_region 1 with fail;rw[<-hW0];clear hW0;go_wp2_with (first|(go_at_call_of 89 (Value.string ⟨#[67,79,80,89]⟩);refine hI1.mono ?_;clear hI1;rintro e1 w1⟨rfl,hb1⟩;obtain⟨s0,s1,s2,s3,s4,s5,hcv⟩:=uh HK2 w1 hb1;clear r0 r1 r2 r3 r4 r5)|(go_at_call_of 89 (Value.string ⟨#[65,68,68]⟩);refine(uh HI2 _ hb1).mono ?_;rintro e2 w2⟨rfl,hb2⟩;obtain⟨_,v1,_,_,_,_,hcv2⟩:=uh HK2 w2 (hb1.trans (hb2.mono hb1.size));clear s0 s1 s2 s3 s4 s5))
   go_ret;exact⟨rfl,hb0.trans ((hb1.trans (hb2.mono hb1.size)).mono hb0.size)⟩
  |false=>
   simp only[Bool.false_or,Bool.false_eq_true,if_false];go_enter func73,ntmps73;go_upto_region 1 with fail;rw[<-hW0];clear hW0;go_wp2_with (first|(go_at_call_of 89 (Value.string ⟨#[67,79,80,89]⟩);refine hI1.mono ?_;clear hI1;rintro e1 w1⟨rfl,hb1⟩;obtain⟨s0,s1,s2,s3,s4,s5,hcv⟩:=uh HK2 w1 hb1;clear r0 r1 r2 r3 r4 r5)|(go_at_call_of 89 (Value.string ⟨#[65,68,68]⟩);refine(uh HI2 _ hb1).mono ?_;rintro e2 w2⟨rfl,hb2⟩))
   go_ret;exact⟨rfl,hb0.trans ((hb1.trans (hb2.mono hb1.size)).mono hb0.size)⟩
def l7(ws:List (List bM)):LU:=Lib.join (ws.map λx=>gx (parts x)) [32]
def pD(ws:List (List bM)):Nat:=(ws.map λx=>kA (parts x)+3).sum
theorem Cm(l:List dC):(gx l).length<=kA l+2:=by
 unfold gx;split
 .simp
 have:=rB l;omega
theorem yu:∀xs:List LU,(Lib.join xs [32]).length<=(xs.map λl=>l.length+1).sum
 |[]=>by simp[Lib.join,List.intercalate]
 |[a]=>by simp[Lib.join,List.intercalate]
 |a::b::r=>by
  have ih:=yu (b::r);have h1:Lib.join (a::b::r) [32]=a++[32]++Lib.join (b::r) [32]:=by simp[Lib.join,List.intercalate]
  rw[h1,lA,lA,List.map_cons,List.sum_cons];simp only[lC,lN];omega
theorem oM(ws:List (List bM)):(l7 ws).length<=pD ws:=by
 refine nT (yu _) ?_;unfold pD;induction ws with
 |nil=>simp
 |cons a r ih=>simp only[List.map_cons,List.sum_cons];have:=Cm (parts a);omega
theorem Jk{ws:List (List bM)}{x:List bM}(h:x∈ws):kA (parts x)<=pD ws:=by
 induction ws with
 |nil=>cases h
 |cons a r ih=>
  have h2:pD (a::r)=kA (parts a)+3+pD r:=by simp[pD]
  rcases mC.1 h with rfl|h
  .omega
  have:=ih h;omega
theorem LE:(prog.info? 9).map (λi=>(i.zero,i.size,i.bytes))=some (some (.string ByteArray.empty),1,16):=by kernel_rfl
abbrev rA(w:World)(B:Nat)(v:Value)(us:List BA):Prop:=w.ownsRow B 9 1 v us.length (us.map Value.string)
theorem J7(m:cA)(B:Nat)(w:World)(h:m.Ok w B)(hz:pD (m.ws.map aw.xs)<=268435456): Cl 37 #[m.val] w λev w'=>(∃u:BA,ev=.returned (.string u)/\u.data.toList=l7 (m.ws.map aw.xs))/\Bw w w':=by
 obtain⟨wv,ws,st,rl⟩:=m;obtain⟨hws,hop,_,hsm,hsh⟩:=h;simp only at hws hop hsm hsh hz⊢;have hpos:0<ws.length:=by
  cases ws with
  |nil=>cases hop
  |cons a r=>simp
 obtain⟨g,cap,rfl,_,hgl⟩:=World.ownsRow.form hws.row hpos;obtain⟨n,hn⟩:=aq ws.length;have HN:=ab hn;have HWS:=ab hws;have HSM:=ab hsm;have HZ:=ab hz;unfold cA.val;simp only;generalize (af rl).1=r1;generalize (af rl).2.1=r2;generalize (af rl).2.2.1=r3;generalize (af rl).2.2.2=r4;rw[<-hn]at hsh hpos⊢;obtain⟨W0,hW0⟩:=aq (w.alloc (.cells #[.slice (some ⟨g,0,none⟩) n cap,.int .i64 st,.int .i64 r1,.int .i64 r2,aN r3,aN r4] 86));have hb0:=dw hW0;have hz0':W0.heap.size=w.heap.size+1:=by rw[hW0];simp
 have hc0:=em hW0;have p0:=cq 0 hc0;have HB0:=ab hb0;clear hws hop hsm hz hn hb0 hc0;go_enter func37,ntmps37;go_upto_region 1 with fail;rw[<-hW0];clear hW0;go_wp2_with fail;clear p0;go_loopw [3,9] (λsv i wr=>∃(k:Nat) (us:List BA),k<=n/\us.length=k/\i=.int .i64 k/\rA wr (w.heap.size+1) sv us/\us.map (·.data.toList)=(ws.take k).map (λx=>gx (parts x.xs))/\Below (w.heap.size+1) W0 wr) (λ_ i _=>n-(intOf i).toNat);case atStart=>exact⟨0,[],Nat.zero_le _,rfl,rfl,World.ownsRow_nil _ _ _ _,rfl,bR _ _⟩
 case round=>
  obtain⟨k,us,hk,huk,rfl,hrow,hus,hb⟩:=hrel;obtain⟨aos,ns,caps,hsv⟩:=ar hrow;subst hsv;have HROW:=ab hrow;have HUS:=ab hus;have HUK:=ab huk;have Hb:=ab hb;clear hrow hus huk;have hbw:=(uh HB0).trans (hb.mono (by omega));by_cases hlt:k<n
  .have hlt':k<ws.length:=by rw[<-uh HN];exact hlt
   obtain⟨x,hx⟩:∃x,ws[k]?=some x:=⟨_,gG hlt'⟩
   have hWr:=(uh HWS).below hbw;obtain⟨gw,capw,hwv,q0,q1,_⟩:=kg hWr k x hx;rw[<-uh HN]at hwv;injection hwv with e1 e2 e3;injection e1 with e1;injection e1 with e1;subst e1 e3;clear e2;have hok:=hWr.all x (mG hx);obtain⟨aox,nx,capx,hxv⟩:=ar hok;rw[hxv]at q1;have n0:=World.new_ne wr ⟨g,k*2,none⟩ q0;obtain⟨W1,hW1⟩:=aq (wr.alloc (.cells #[.int .i64 (x.place:Int),.slice aox nx capx] 148));have hb1:=dw hW1;have hc1:=em hW1;have p0:=cq 0 hc1;have p1:=cq 1 hc1;have hok1:=ap hok λj hj=>hb1.block j (World.ownsRow.lt hok j hj).2;have hF:=C8 x B W1 hok1 (uh HSM x (mG hx)).1 (nT (Jk (List.mem_map.2 ⟨x,mG hx,rfl⟩)) (uh HZ));unfold aw.val at hF;rw[hxv]at hF;have HB1:Hid (Below (w.heap.size+1) W0 W1):=ab (hb.trans (hb1.mono (by have:=hb.size;omega)));have HR1:Hid (rA W1 (w.heap.size+1) (.slice aos ns caps) us):=ab (ap (uh HROW) λj hj=>hb1.block j (World.ownsRow.lt (uh HROW) j hj).2);have HX:Hid ((ws.take (k+1)).map (λx=>gx (parts x.xs))=(ws.take k).map (λx=>gx (parts x.xs))++[gx (parts x.xs)]):=ab (by rw[List.take_add_one,hx];simp);obtain⟨i0,hi,hz0,hz1,hz2⟩:=info_parts LE;clear hx hWr hok hxv hb1 hc1 hok1 hbw hb;go_upto_region 5 with fail;rw[<-hW1];clear hW1 q0 q1 n0;go_wp2_with (first|(go_at_call 64;refine hF.mono ?_;clear hF;rintro ev w3⟨⟨u,rfl,hu⟩,hb3⟩;have HU:=ab hu;have HB3:=ab hb3;have HR3:Hid (rA w3 (w.heap.size+1) (.slice aos ns caps) us):=ab (ap (uh HR1) λj hj=>hb3.block j (World.ownsRow.lt (uh HR1) j hj).2);have HR4:=ab ((uh HR3).alloc (.cells #[.string u] 9));have HSZ:=ab (nT (uh HB1).size hb3.size);clear hu hb3)|(at_builtin;refine wpList_append_own _ rfl _ _ 26 rfl (w.heap.size+1) 9 i0 _ 1 16 underlying26 hi hz0 hz1 hz2 rfl (by decide) _ us.length (us.map Value.string) rfl (uh HR4) ⟨w3.heap.size,0,none⟩ 1 1 [.string u] rfl rfl (World.news_of_block (cs:=#[.string u]) (t:=9) (fr:=(0,0)) (hN _ _)) (by intro u hu;simp only[mC,List.not_mem_nil,or_false]at hu;rw[hu];rfl) (by have:=uh HUK;unfold maxLen;omega) (by have:=uh HUK;omega) (by have:=uh HSZ;simp;omega) ?_;intro v6 w6 hown6 hgrow6 _))
   have hb6:=((bR _ w3).alloc (by have:=uh HSZ;omega) _).grown hgrow6 (by have:=uh HSZ;simp;omega) (λq hq=>(World.ownsRow.lt (uh HR3) q hq).1);have HB6:Hid (Below (w.heap.size+1) W0 w6):=ab (((uh HB1).trans ((uh HB3).mono (by have:=(uh HB1).size;omega))).trans hb6);have HR6:Hid (rA w6 (w.heap.size+1) v6 (us++[u])):=ab (by unfold rA;rw[lA,List.map_append];exact hown6);have HU6:Hid ((us++[u]).map (·.data.toList)=(ws.take (k+1)).map (λx=>gx (parts x.xs))):=ab (by rw[uh HX,List.map_append,uh HUS,<-uh HU];rfl);clear hgrow6 hown6 hb6;go_roundw;case rel=>exact⟨k+1,us++[u],hlt,by rw[lA,uh HUK];rfl,by go_num,uh HR6,uh HU6,uh HB6⟩
   case measure=>simp[intOf];omega
  have hke:k=n:=by omega
  have hul:us.length=n:=by rw[uh HUK,hke]
  rcases(uh HROW).2 with⟨_,h0⟩|⟨g2,cap2,cur,hv2,_,hg2,hc2,_⟩
  .omega
  injection hv2 with e1 e2 e3;subst e1 e2 e3;have hcells:∀(j:Nat) x,us[j]?=some x->wr.cell? ⟨g2,0+j,none⟩=some (.string x):=λj x hj=>by
   have hjl:=(gL hj)
   rw[Nat.zero_add,World.ownsRow.cellAt (uh HROW) j (by omega),List.getElem?_map,hj];rfl
  have HFI:Hid (Lib.join (us.map (·.data.toList)) [32]=l7 (ws.map aw.xs)):=ab (by rw[uh HUS,List.take_of_length_le (by rw[hke,uh HN];exact nR _)];unfold l7;rw[List.map_map];rfl);have hJ:=Tryz.strings_Join g2 0 caps us ⟨#[32]⟩ wr hcells (gA hg2) (by omega) hc2 (by show (Lib.join (us.map (·.data.toList)) [32]).length<=_;rw[uh HFI];have h1:=oM (ws.map aw.xs);have h2:=uh HZ;omega);have HJ:Hid ((Lib.join (us.map (·.data.toList)) (ByteArray.mk #[32]).data.toList)=l7 (ws.map aw.xs)):=ab (uh HFI);generalize (Lib.join (us.map (·.data.toList)) (ByteArray.mk #[32]).data.toList)=J at hJ HJ;clear hke hul hcells hg2 hc2 hb;go_wp2_with (go_at_call 65;refine hJ.mono ?_;clear hJ;rintro ev w3⟨rfl,hb3⟩)
  go_ret;exact⟨⟨_,rfl,(List.toList_toArray).trans (uh HJ)⟩,hbw.trans (hb3.mono hbw.size)⟩
end Go.Proofs.YtjhobnjdfhkohaaGreatDoor
