import Derived.Test.YtjhobnjdfhkohaaGreatDoorXA
import Derived.BigQuiet
import Derived.Deep.DeepCutAuto
import Derived.Shelf.Bits.Mul64
import Derived.Shelf.Slices.CompactS
import Derived.Shelf.Small.Bits
import Derived.Shelf.Strconv.Clone
import Derived.Shelf.Strings.LastIndex
import Derived.Shelf.Strings.Prefix
import Derived.Shelf.Strings.Shaped
import Derived.Shelf.Strings.SplitShaped
import Derived.Shelf.Unicode.DecodeSlow
import Derived.Sort.Grow
import Derived.WalkSmall
set_option linter.all false
set_option maxHeartbeats 1000000
namespace Go.Proofs.YtjhobnjdfhkohaaGreatDoor
open Go.Proofs.Tryz
open Go Go.RowKit
def Mv(n:Int):Bool:=decide ((97<=n/\n<=122)\/(65<=n/\n<=90)\/(48<=n/\n<=57)\/n=46\/n=95\/n=45)
def Js(c:UInt8):Bool:=Mv (c.toNat:Int)
def Be(l:LU):Bool:=l==[]||decide (60<l.length)||l==[46]||l==[46,46]||Lib.hasPrefix l [46,119,104,46]
def gN(l:LU):Bool:=!Be l&&l.all Js
theorem ab{p:Prop}(h:p):Hid p:=h
theorem Nt{p:Prop}(h:Hid p):p:=h.out
theorem uh{p:Prop}(h:Hid p):p:=h.out
theorem cq{w:World}{g:Nat}{cs:Array Value}{t:TypeId}{fr:Nat×Nat}(j:Nat)(hg:w.heap[g]?=some (.cells cs t fr)):w.cell? ⟨g,j,none⟩=cs[j]?:=cell_of_row w g j cs t fr hg
theorem ag{a b:Bool}(h:a=b):Ending.returned (.bool a)=.returned (.bool b):=by rw[h]
theorem Bv{l:LU}(h:Be l=true):gN l=false:=by simp[gN,h]
theorem oV{l:LU}(h:Be l=false):l≠[]/\l.length<=60/\l≠[46]/\l≠[46,46]/\Lib.hasPrefix l [46,119,104,46]=false:=by simp only[Be,Bool.or_eq_false_iff,beq_eq_false_iff_ne,decide_eq_false_iff_not,Nat.not_lt]at h;exact⟨h.1.1.1.1,h.1.1.1.2,h.1.1.2,h.1.2,h.2⟩
theorem fw(s:BA)(k:Nat)(h:k<s.size):s.data.toList.take (k+1)=s.data.toList.take k++[s[k]]:=by rw[List.take_succ_eq_append_getElem (by simpa using h)];rfl
theorem F6(s:BA)(k:Nat)(h:k<s.size)(h1:(s.data.toList.take k).all Js=true)(h2:Mv (s[k].toNat:Int)=true):(s.data.toList.take (k+1)).all Js=true:=by rw[fw s k h,List.all_append,h1];simp[Js,h2]
theorem J4(s:BA)(k:Nat)(h:k<s.size)(h2:Mv (s[k].toNat:Int)=false):gN s.data.toList=false:=by
 have:s.data.toList.all Js=false:=by rw[<-List.take_append_drop (k+1) s.data.toList,List.all_append,fw s k h,List.all_append];simp[Js,h2]
 simp[gN,this]
theorem Eu(s:BA)(k:Nat)(h:s.size<=k)(h1:(s.data.toList.take k).all Js=true)(h0:Be s.data.toList=false):gN s.data.toList=true:=by rw[List.take_of_length_le (by simpa using h)]at h1;simp[gN,h1,h0]
theorem C1(s:BA)(h:(((s.toList.isEmpty=false/\(s.size:Int)<=60)/\(s.toList==[46])=false)/\(s.toList==[46,46])=false)/\Lib.hasPrefix s.data.toList [46,119,104,46]=false):Be s.data.toList=false:=by
 rw[tD]at h;obtain⟨⟨⟨⟨h1,h2⟩,h3⟩,h4⟩,h5⟩:=h;have:=zE s;have h1':(s.data.toList==[])=false:=by simpa using h1
 have h2':decide (60<s.data.toList.length)=false:=by simp only[decide_eq_false_iff_not];omega
 simp only[Be,h1',h2',h3,h4,h5,Bool.or_self]
def eJ:LU->List LU
 |[]=>[[]]
 |c::r=>if c=47 then []::eJ r else ((c::(eJ r).headD [])::(eJ r).tail)
theorem mp(l:LU):eJ l≠[]:=by
 cases l with
 |nil=>simp[eJ]
 |cons c r=>unfold eJ;split<;>simp
theorem pX(l:LU):(eJ l).length<=l.length+1:=by
 induction l with
 |nil=>simp[eJ]
 |cons c r ih=>unfold eJ;split<;>simp<;>omega
theorem kD(l:LU):Lib.join (eJ l) [47]=l:=by
 induction l with
 |nil=>simp[eJ,Lib.join_one]
 |cons c r ih=>
  have hne:=mp r;rw[eJ];cases h2:eJ r with
  |nil=>exact absurd h2 hne
  |cons x y=>
   rw[h2,Lib.join_cons]at ih;split
   .rename_i h;subst h;rw[Lib.join_cons,Lib.joinTail,List.map_cons,List.flatten_cons,<-ih];simp[Lib.joinTail]
   rw[Lib.join_cons];simp[ih]
end Go.Proofs.YtjhobnjdfhkohaaGreatDoor
namespace Go.Proofs.YtjhobnjdfhkohaaGreatDoor.T
open Go.Proofs.Tryz
open Go Go.RowKit
theorem q8:∀l:LU,Lib.splitK [47] 0 (Lib.count l [47]) l=eJ l
 |[]=>by rw[Lib.count_miss (by simp[Lib.index])];rfl
 |c::r=>by
  have ih:=q8 r;by_cases h:c=47
  .subst h;have hix:Lib.index (47::r) [47]=((0:Nat):Int):=by rw[Lib.index];simp[List.isPrefixOf]
   rw[Lib.count_cons_eq,Nat.add_comm,Lib.splitK,hix,eJ,if_pos rfl,<-ih];simp
  have hp:([47]:LU).isPrefixOf (c::r)=false:=by simp[List.isPrefixOf,Ne.symm h]
  have hix:Lib.index (c::r) [47]=if Lib.index r [47]==-1 then -1 else Lib.index r [47]+1:=by rw[Lib.index,hp];simp
  rw[Lib.count_cons_ne c 47 r h,eJ,if_neg h,<-ih];by_cases hm:Lib.index r [47]=-1
  .rw[Lib.count_miss hm];simp[Lib.splitK]
  have hge:=Lib.index_ge r [47];obtain⟨j,hj⟩:∃j:Nat,Lib.index r [47]=j:=⟨(Lib.index r [47]).toNat,by omega⟩
  have hix':Lib.index (c::r) [47]=((j+1:Nat):Int):=by rw[hix,if_neg (λe=>hm (beq_iff_eq.1 e)),hj];omega
  have hm1:¬((((j+1:Nat):Int)==-1)=true):=λe=>by have:=beq_iff_eq.1 e;omega
  have hm2:¬(((j:Int)==-1)=true):=λe=>by have:=beq_iff_eq.1 e;omega
  rw[Lib.count_hit (by simp) hj,Nat.add_comm,Lib.splitK,Lib.splitK,hix',hj,if_neg hm1,if_neg hm2,Int.toNat_natCast,Int.toNat_natCast];simp
def prt(l:LU):List LU:=if l=[] then [] else eJ l
def isP(l:LU):Bool:=decide (l.length<=170)&&decide ((prt l).length<=12)&&(prt l).all gN
theorem prt_nil:prt []=[]:=rfl
theorem prt_ne{l:LU}(h:l≠[]):prt l=eJ l:=if_neg h
theorem GZ{l:LU}(h:170<l.length):isP l=false:=by simp[isP,Nat.not_le.2 h]
theorem J5{l:LU}{k:Nat}{b:LU}(hk:(prt l)[k]?=some b)(hb:gN b=false):isP l=false:=by
 have:(prt l).all gN=false:=by rw[Bool.eq_false_iff];intro h;rw[List.all_eq_true]at h;have:=h b (mG hk);rw[hb]at this;cases this
 simp[isP,this]
theorem Jy{l:LU}(h1:l.length<=170)(h2:(prt l).all gN=true):isP l=decide ((prt l).length<=12):=by simp[isP,h1,h2]
theorem sN{xs:List LU}{k:Nat}{b:LU}(hk:xs[k]?=some b)(h:(xs.take k).all gN=true)(hb:gN b=true):(xs.take (k+1)).all gN=true:=by rw[List.take_add_one,hk,List.all_append,h];simp[hb]
def jn(k:Nat)(xs:List LU):LU:=Lib.join (xs.take k) [47]
theorem BP(xs:List LU):jn 0 xs=[]:=rfl
theorem B8(xs:List LU)(k:Nat)(y:LU)(h:xs[k]?=some y):jn (k+1) xs=if k=0 then y else jn k xs++[47]++y:=by
 cases xs with
 |nil=>simp at h
 |cons x r=>
  cases k with
  |zero=>simp at h;subst h;simp[jn,Lib.join_one]
  |succ j=>rw[if_neg (by omega)];simp only[jn,List.take_succ_cons,Lib.join_cons];rw[Lib.joinTail_take_succ [47] r j y (by simpa using h)];simp
theorem Kv(xs:List LU)(k:Nat):(jn k xs).length<=(Lib.join xs [47]).length:=by
 cases xs with
 |nil=>simp[jn]
 |cons x r=>
  cases k with
  |zero=>simp[jn,Lib.join_nil]
  |succ j=>simp only[jn,List.take_succ_cons,Lib.join_cons,lA];have:=Lib.joinTail_take_le [47] r j;omega
end Go.Proofs.YtjhobnjdfhkohaaGreatDoor.T
namespace Go.Proofs.YtjhobnjdfhkohaaGreatDoor.T
open Go.Proofs.Tryz
open Go.RowKit
theorem hasPrefix_any(s p:BA)(w:World): Cl 80 #[.string s,.string p] w λe w'=>e=.returned (.bool (Lib.hasPrefix s.data.toList p.data.toList))/\w'=w:=by
 have H:=ab (Lib.hasPrefix_raw s p);go_enter func80,ntmps80;go_wp2
 .go_ret;exact⟨ag (by rw[<-uh H];simp[*]),rfl⟩
 go_ret;exact⟨ag (by rw[<-uh H];simp[*]),rfl⟩
theorem rT(n:Int)(w:World): Cl 151 #[.int .u8 n] w λe w'=>e=.returned (.bool (Mv n))/\w'=w:=by
 go_enter func151,ntmps151;go_wp2;all_goals
  go_ret;exact⟨ag (by rw[Bool.eq_iff_iff];simp[Mv]<;>omega),rfl⟩
theorem Hq(s:BA)(w:World)(h:Be s.data.toList=true): Cl 124 #[.string s] w λe w'=>e=.returned (.bool (gN s.data.toList))/\w'=w:=by
 rw[Bv h];have H:=ab h;clear h;go_enter func124,ntmps124;go_wp2_with (go_at_call 80;refine(hasPrefix_any _ _ _).mono ?_;rintro e w'⟨rfl,rfl⟩)
 all_goals first
  |(go_ret;exact⟨rfl,rfl⟩)
  |exact absurd (uh H) (by rw[C1 s (by assumption)];simp)
theorem DV(s:BA)(w:World)(h:Be s.data.toList=false): Cl 124 #[.string s] w λe w'=>e=.returned (.bool (gN s.data.toList))/\w'=w:=by
 obtain⟨h1,h2,h3,h4,h5⟩:=oV h;have H:=ab h;have g1:s.toList.isEmpty=false:=by rw[tD];simpa using h1
 have g2:(s.size:Int)<=60:=by have:=zE s;omega
 have g3:(s.toList==[46])=false:=by rw[tD];simpa using h3
 have g4:(s.toList==[46,46])=false:=by rw[tD];simpa using h4
 clear h h1 h2 h3 h4;go_enter func124,ntmps124;go_wp2_with (go_at_call 80;refine(hasPrefix_any _ _ _).mono ?_;rintro e w'⟨rfl,rfl⟩)
 go_loop [25] (λi=>∃k:Nat,k<=s.size/\i=.int .i64 k/\(s.data.toList.take k).all Js=true) (λi=>s.size-(intOf i).toNat);case atStart=>exact⟨0,Nat.zero_le _,rfl,rfl⟩
 case round=>
  obtain⟨k,hk,rfl,ha⟩:=hrel;have A:=ab ha;clear ha;by_cases hlt:k<s.size
  .cases hok:Mv (s[k].toNat:Int)
   .have B:=ab (J4 s k hlt hok);go_wp2_with (go_at_call 151;refine(rT _ _).mono ?_;rintro e w'⟨rfl,rfl⟩)
    go_ret;exact⟨ag (uh B).symm,rfl⟩
   have B:=ab (F6 s k hlt (uh A) hok);go_wp2_with (go_at_call 151;refine(rT _ _).mono ?_;rintro e w'⟨rfl,rfl⟩)
   go_round;case rel=>exact⟨k+1,by omega,by go_num,uh B⟩
   case measure=>simp[intOf];omega
  have B:=ab (Eu s k (by omega) (uh A) (uh H));go_wp2;go_ret;exact⟨ag (uh B).symm,rfl⟩
theorem isEl_any(s:BA)(w:World): Cl 124 #[.string s] w λe w'=>e=.returned (.bool (gN s.data.toList))/\w'=w:=by
 cases h:Be s.data.toList
 .exact DV s w h
 exact Hq s w h
theorem Tryz.info9:(prog.info? 9).map (λi=>(i.zero,i.size,i.bytes))=some (some (.string ByteArray.empty),1,16):=by kernel_rfl
def Own(w:World)(B:Nat)(v:Value)(ps:List BA):Prop:=w.ownsRow B 9 1 v ps.length (ps.map Value.string)
def txts(ps:List BA):List LU:=ps.map (·.data.toList)
end Go.Proofs.YtjhobnjdfhkohaaGreatDoor.T
namespace Go.Proofs
open Go.Proofs.Tryz
open Go.Shelf
def Tryz.laysM316_ren:Go.Shelf.Ren:=⟨fun|316=>132|n=>n,fun|9=>9|3=>3|4=>4|37=>101|0=>0|127=>155|5=>5|n=>n,fun|n=>n⟩
theorem Tryz.laysM316:Go.Proofs.LaysM.n316 Tryz.prog Tryz.laysM316_ren:={
 mixed:=by kernel_rfl
 f316:=Tryz.func132.trans (congrArg some (by kernel_rfl))
 t0:=Tryz.underlying0
 a0:=Tryz.isAgg0
 z0:=Tryz.sizeOf0
 v0:=Tryz.zeroValue0
 t3:=Tryz.underlying3
 a3:=Tryz.isAgg3
 z3:=Tryz.sizeOf3
 v3:=Tryz.zeroValue3
 t4:=Tryz.underlying4
 a4:=Tryz.isAgg4
 z4:=Tryz.sizeOf4
 v4:=Tryz.zeroValue4
 t9:=Tryz.underlying9
 a9:=Tryz.isAgg9
 z9:=Tryz.sizeOf9
 v9:=Tryz.zeroValue9
 t37:=Tryz.underlying101
 a37:=Tryz.isAgg101
 z37:=Tryz.sizeOf101
 v37:=Tryz.zeroValue101
 t127:=Tryz.underlying155
 a127:=Tryz.isAgg155
 z127:=Tryz.sizeOf155
 v127:=Tryz.zeroValue155
 t5:=Tryz.underlying5
 a5:=Tryz.isAgg5
 z5:=Tryz.sizeOf5
 v5:=Tryz.zeroValue5
 i0:=by kernel_rfl
 i3:=by kernel_rfl
 i4:=by kernel_rfl
 i5:=by kernel_rfl
 i9:=by kernel_rfl
 i37:=by kernel_rfl
 i127:=by kernel_rfl }
open Go.RowKit in
theorem Tryz.stringslite_Clone(s:ByteArray)(w:World)(hlim:s.size<=281474976710656): Calls Tryz.prog 132 #[.string s] w λe w'=>e=.returned (.string s)/\Below w.heap.size w w':=Any.stringslite_Clone Tryz.laysM316 s w hlim
def Tryz.lays148_ren:Go.Shelf.Ren:=⟨fun|148=>127|222=>154|223=>155|269=>189|n=>n,fun|9=>9|3=>3|4=>4|5=>5|146=>251|51=>250|46=>225|n=>n,fun|n=>n⟩
theorem Tryz.lays148:Go.Proofs.Lays.n148 Tryz.prog Tryz.lays148_ren:={
 mixed:=by kernel_rfl
 f148:=Tryz.func127.trans (congrArg some (by kernel_rfl))
 f222:=Tryz.func154.trans (congrArg some (by kernel_rfl))
 f223:=Tryz.func155.trans (congrArg some (by kernel_rfl))
 f269:=Tryz.func189.trans (congrArg some (by kernel_rfl))
 t3:=Tryz.underlying3
 a3:=Tryz.isAgg3
 z3:=Tryz.sizeOf3
 v3:=Tryz.zeroValue3
 t4:=Tryz.underlying4
 a4:=Tryz.isAgg4
 z4:=Tryz.sizeOf4
 v4:=Tryz.zeroValue4
 t5:=Tryz.underlying5
 a5:=Tryz.isAgg5
 z5:=Tryz.sizeOf5
 v5:=Tryz.zeroValue5
 t9:=Tryz.underlying9
 a9:=Tryz.isAgg9
 z9:=Tryz.sizeOf9
 v9:=Tryz.zeroValue9
 t46:=Tryz.underlying225
 a46:=Tryz.isAgg225
 z46:=Tryz.sizeOf225
 v46:=Tryz.zeroValue225
 t51:=Tryz.underlying250
 a51:=Tryz.isAgg250
 z51:=Tryz.sizeOf250
 v51:=Tryz.zeroValue250
 t146:=Tryz.underlying251
 a146:=Tryz.isAgg251
 z146:=Tryz.sizeOf251
 v146:=Tryz.zeroValue251 }
open Go.RowKit Go.Lib in
theorem Tryz.strings_LastIndex_one(s sub:ByteArray)(h1:sub.size=1)(hs:s.size<4611686018427387904)(w:World): Calls Tryz.prog 127 #[.string s,.string sub] w λe w'=>e=.returned (.int .i64 (Lib.lastIndexByte s ((sub[0]'(by omega)).toNat:Int)))/\w'=w:=Any.strings_LastIndex_one Tryz.lays148 s sub h1 hs w
def Tryz.lays146_ren:Go.Shelf.Ren:=⟨fun|146=>126|221=>153|268=>186|138=>187|143=>188|195=>207|197=>208|218=>209|219=>133|260=>222|217=>160|225=>161|224=>162|267=>163|266=>194|314=>195|n=>n,fun|9=>9|31=>26|3=>3|4=>4|0=>0|105=>263|21=>21|5=>5|46=>225|119=>297|139=>300|138=>299|146=>251|51=>250|n=>n,fun|1=>1|3=>3|4=>4|n=>n⟩
theorem Tryz.lays146:Go.Proofs.Lays.n146 Tryz.prog Tryz.lays146_ren:={
 mixed:=by kernel_rfl
 f138:=Tryz.func187.trans (congrArg some (by kernel_rfl))
 f143:=Tryz.func188.trans (congrArg some (by kernel_rfl))
 f146:=Tryz.func126.trans (congrArg some (by kernel_rfl))
 f195:=Tryz.func207.trans (congrArg some (by kernel_rfl))
 f197:=Tryz.func208.trans (congrArg some (by kernel_rfl))
 f217:=Tryz.func160.trans (congrArg some (by kernel_rfl))
 f218:=Tryz.func209.trans (congrArg some (by kernel_rfl))
 f219:=Tryz.func133.trans (congrArg some (by kernel_rfl))
 f221:=Tryz.func153.trans (congrArg some (by kernel_rfl))
 f224:=Tryz.func162.trans (congrArg some (by kernel_rfl))
 f225:=Tryz.func161.trans (congrArg some (by kernel_rfl))
 f260:=Tryz.func222.trans (congrArg some (by kernel_rfl))
 f266:=Tryz.func194.trans (congrArg some (by kernel_rfl))
 f267:=Tryz.func163.trans (congrArg some (by kernel_rfl))
 f268:=Tryz.func186.trans (congrArg some (by kernel_rfl))
 f314:=Tryz.func195.trans (congrArg some (by kernel_rfl))
 t0:=Tryz.underlying0
 a0:=Tryz.isAgg0
 z0:=Tryz.sizeOf0
 v0:=Tryz.zeroValue0
 t3:=Tryz.underlying3
 a3:=Tryz.isAgg3
 z3:=Tryz.sizeOf3
 v3:=Tryz.zeroValue3
 t4:=Tryz.underlying4
 a4:=Tryz.isAgg4
 z4:=Tryz.sizeOf4
 v4:=Tryz.zeroValue4
 t5:=Tryz.underlying5
 a5:=Tryz.isAgg5
 z5:=Tryz.sizeOf5
 v5:=Tryz.zeroValue5
 t9:=Tryz.underlying9
 a9:=Tryz.isAgg9
 z9:=Tryz.sizeOf9
 v9:=Tryz.zeroValue9
 t21:=Tryz.underlying21
 a21:=Tryz.isAgg21
 z21:=Tryz.sizeOf21
 v21:=Tryz.zeroValue21
 t31:=Tryz.underlying26
 a31:=Tryz.isAgg26
 z31:=Tryz.sizeOf26
 v31:=Tryz.zeroValue26
 t46:=Tryz.underlying225
 a46:=Tryz.isAgg225
 z46:=Tryz.sizeOf225
 v46:=Tryz.zeroValue225
 t51:=Tryz.underlying250
 a51:=Tryz.isAgg250
 z51:=Tryz.sizeOf250
 v51:=Tryz.zeroValue250
 t105:=Tryz.underlying263
 a105:=Tryz.isAgg263
 z105:=Tryz.sizeOf263
 v105:=Tryz.zeroValue263
 t119:=Tryz.underlying297
 a119:=Tryz.isAgg297
 z119:=Tryz.sizeOf297
 t138:=Tryz.underlying299
 a138:=Tryz.isAgg299
 z138:=Tryz.sizeOf299
 v138:=Tryz.zeroValue299
 t139:=Tryz.underlying300
 a139:=Tryz.isAgg300
 z139:=Tryz.sizeOf300
 v139:=Tryz.zeroValue300
 t146:=Tryz.underlying251
 a146:=Tryz.isAgg251
 z146:=Tryz.sizeOf251
 v146:=Tryz.zeroValue251
 g1:=by kernel_rfl
 g3:=by kernel_rfl
 g4:=by kernel_rfl }
open Go.RowKit Go.Lib in
theorem Tryz.strings_Split(s sep:ByteArray)(m:Int)(w:World)(hs:s.size<4294967281)(hm:w.cell? ⟨1,0,none⟩=some (.int .i64 m))(h1:1<=sep.size): Calls Tryz.prog 126 #[.string s,.string sep] w λe w'=>
 e=.returned (.slice (some ⟨w.heap.size,0,none⟩) (Lib.countB s sep+1) (Lib.countB s sep+1))/\w'=w.alloc (.cells ((Lib.splitB sep 0 (Lib.countB s sep) s).map Value.string).toArray 9):=Any.strings_Split Tryz.lays146 (by kernel_rfl) s sep m w hs hm h1
end Go.Proofs
namespace Go.Proofs.YtjhobnjdfhkohaaGreatDoor.T
open Go.Proofs.Tryz
open Go.RowKit
theorem txts_len(ps:List BA):(txts ps).length=ps.length:=by simp[txts]
theorem txts_get{ps:List BA}{k:Nat}{b:BA}(h:ps[k]?=some b):(txts ps)[k]?=some b.data.toList:=by simp[txts,h]
theorem own_cell{w:World}{B g cap:Nat}{ps:List BA}(h:Own w B (.slice (some ⟨g,0,none⟩) ps.length cap) ps){k:Nat}{b:BA}(hk:ps[k]?=some b):w.cell? ⟨g,k,none⟩=some (.string b):=by
 have hl:=(gL hk)
 rw[World.ownsRow.cellAt h k (by omega)];simp[hk]
theorem own_form{w:World}{B:Nat}{v:Value}{ps:List BA}(h:Own w B v ps)(hn:ps≠[]):∃g cap,v=.slice (some ⟨g,0,none⟩) ps.length cap:=by
 rcases h.2 with⟨_,h0⟩|⟨g,cap,cur,hv,_⟩
 .exact absurd (List.length_eq_zero_iff.1 h0) hn
 exact⟨g,cap,hv⟩
theorem elems_nil(s:BA)(w:World)(h:s.data.toList=[]): Cl 99 #[.string s] w λe w'=>e=.returned (.slice none 0 0)/\w'=w:=by
 have g:s.toList.isEmpty=true:=by rw[tD,h];rfl
 clear h;go_enter func99,ntmps99;go_wp2;go_ret;exact⟨rfl,rfl⟩
theorem split_any(s:BA)(m:Int)(w:World)(hs:s.size<=4294967280)(hm:w.cell? ⟨1,0,none⟩=some (.int .i64 m)): Cl 126 #[.string s,.string ⟨#[47]⟩] w λe w'=>∃g cap ps,e=.returned (.slice (some ⟨g,0,none⟩) ps.length cap)/\Own w' w.heap.size (.slice (some ⟨g,0,none⟩) ps.length cap) ps/\txts ps=eJ s.data.toList/\Bw w w'/\∃os,w'=Go.Sort.grow w os:=by
 refine(Tryz.strings_Split s ⟨#[47]⟩ m w (by omega) hm (by decide)).mono ?_;rintro e w'⟨rfl,rfl⟩;have hl:=Lib.splitB_all ⟨#[47]⟩ (by decide) 0 _ s rfl;have hc:=Lib.countB_le ⟨#[47]⟩ (by decide) s.size s (nR _);refine⟨w.heap.size,_,Lib.splitB ⟨#[47]⟩ 0 (Lib.countB s ⟨#[47]⟩) s,by rw[hl],?_,?_,eD,_,Go.Sort.alloc_eq_grow _ _⟩
 .have:=World.ownsRow_lit (base:=w.heap.size) (e:=9) (size:=1) w ((Lib.splitB ⟨#[47]⟩ 0 (Lib.countB s ⟨#[47]⟩) s).map Value.string).toArray (Lib.countB s ⟨#[47]⟩+1) (nR _) (by unfold maxLen;omega) (by simp[hl]);rw[<-hl]at this⊢;simpa[Own]using this
 exact(Lib.splitB_data ⟨#[47]⟩ 0 _ s).trans (q8 s.data.toList)
theorem elems_some(s:BA)(m:Int)(w:World)(hs:s.size<=4294967280)(hm:w.cell? ⟨1,0,none⟩=some (.int .i64 m))(h:s.data.toList≠[]): Cl 99 #[.string s] w λe w'=>∃g cap ps,e=.returned (.slice (some ⟨g,0,none⟩) ps.length cap)/\Own w' w.heap.size (.slice (some ⟨g,0,none⟩) ps.length cap) ps/\txts ps=eJ s.data.toList/\Bw w w'/\∃os,w'=Go.Sort.grow w os:=by
 have g:s.toList.isEmpty=false:=by rw[tD];simpa using h
 clear h;go_enter func99,ntmps99;go_wp2_with (go_at_call 126;refine(split_any _ m _ hs hm).mono ?_;rintro e w'⟨g,cap,ps,rfl,hown,ht,hb,hgr⟩)
 go_ret;exact⟨_,_,_,rfl,hown,ht,hb,hgr⟩
theorem Kh(s:BA)(w:World)(h:170<s.size): Cl 95 #[.string s] w λe w'=>e=.returned (.bool (isP s.data.toList))/\Bw w w':=by have B:=ab (GZ (l:=s.data.toList) (by have:=zE s;omega));go_enter func95,ntmps95;go_wp2;go_ret;exact⟨ag (uh B).symm,bR _ _⟩
theorem Mj(s:BA)(w:World)(h:s.data.toList=[]): Cl 95 #[.string s] w λe w'=>e=.returned (.bool (isP s.data.toList))/\Bw w w':=by
 have B:Hid (isP s.data.toList=true):=by rw[h];exact ab (by decide)
 have hz:(s.size:Int)<=170:=by rw[zE s,h];decide
 have H:=ab h;clear h;go_enter func95,ntmps95;go_wp2_with (go_at_call 99;refine(elems_nil _ _ (uh H)).mono ?_;rintro e w'⟨rfl,rfl⟩)
 refine wp_loop_rounds 1 ?_;rw[rounds_succ];go_wp2;go_ret;exact⟨ag (uh B).symm,bR _ _⟩
theorem Jm(s:BA)(m:Int)(w:World)(hs:s.size<=170)(hm:w.cell? ⟨1,0,none⟩=some (.int .i64 m))(h:s.data.toList≠[]): Cl 95 #[.string s] w λe w'=>e=.returned (.bool (isP s.data.toList))/\Bw w w':=by
 have H:=ab h;have hl0:Hid ((eJ s.data.toList).length<=s.size+1):=ab (by have:=pX s.data.toList;have:=zE s;omega);have HP:=ab (prt_ne h);clear h;go_enter func95,ntmps95;go_wp2_with (go_at_call 99;refine(elems_some _ m _ (by omega) hm (uh H)).mono ?_;rintro e w1⟨g,cap,ps,rfl,hown,ht,hb,_⟩)
 have hlen:ps.length<=171:=by have:=txts_len ps;rw[ht]at this;have:=uh hl0;omega
 have HT:=ab ht;clear ht hl0;go_loop [13] (λi=>∃k:Nat,k<=ps.length/\i=.int .i64 k/\Hid (((txts ps).take k).all gN=true)) (λi=>ps.length-(intOf i).toNat);case atStart=>exact⟨0,Nat.zero_le _,rfl,ab rfl⟩
 case round=>
  obtain⟨k,hk,rfl,HA⟩:=hrel;by_cases hlt:k<ps.length
  .obtain⟨b,hbk⟩:∃b,ps[k]?=some b:=⟨ps[k],gG hlt⟩
   have hcell:=own_cell hown hbk;have HB:=ab hbk;clear hbk;cases hok:gN b.data.toList
   .have B:=ab (J5 (l:=s.data.toList) (by rw[uh HP,<-uh HT];exact txts_get (uh HB)) hok);go_wp2_with (go_at_call 124;refine(isEl_any _ _).mono ?_;rintro e w'⟨rfl,rfl⟩)
    go_ret;exact⟨ag (uh B).symm,hb⟩
   have B:=ab (sN (txts_get (uh HB)) (uh HA) hok);go_wp2_with (go_at_call 124;refine(isEl_any _ _).mono ?_;rintro e w'⟨rfl,rfl⟩)
   go_round;case rel=>exact⟨k+1,by omega,by go_num,B⟩
   case measure=>simp[intOf];omega
  have B:Hid (isP s.data.toList=decide (ps.length<=12)):=by have ha:=uh HA;have ht:=uh HT;rw[List.take_of_length_le (by rw[txts_len];omega)]at ha;have:=Jy (l:=s.data.toList) (by have:=zE s;omega) (by rw[uh HP,<-ht];exact ha);rw[uh HP,<-ht,txts_len]at this;exact ab this
  go_wp2;go_ret;exact⟨ag (by rw[uh B];exact decide_eq_decide.2 (by omega)),hb⟩
theorem is_any(s:BA)(m:Int)(w:World)(hm:w.cell? ⟨1,0,none⟩=some (.int .i64 m)): Cl 95 #[.string s] w λe w'=>e=.returned (.bool (isP s.data.toList))/\Bw w w':=by
 by_cases h1:170<s.size
 .exact Kh s w h1
 by_cases h2:s.data.toList=[]
 .exact Mj s w h2
 exact Jm s m w (by omega) hm h2
def bs(l:LU):BA:=⟨l.toArray⟩
theorem data_bs(l:LU):(bs l).data.toList=l:=rfl
theorem data_append(a b:BA):(a++b).data.toList=a.data.toList++b.data.toList:=by simp
structure aj where
 path:BA
 kind:Int
 mode:Int
 data:BA
def Ia(c:UInt8):Bool:=decide (33<=(c.toNat:Int)/\(c.toNat:Int)<=126)
def wm(l:LU):Bool:=l.all Ia&&l != []&&decide (l.length<=100)
def ci(m:Int):Bool:=decide (0<=m/\m<=511)
def bc(e:aj):Bool:=
 if e.kind=1 then ci e.mode&&e.data.data.toList==[]
 else if e.kind=2 then ci e.mode&&decide (e.data.size<=4096)
 else if e.kind=3 then decide (e.mode=0)&&wm e.data.data.toList
 else false
theorem I1(s:BA)(k:Nat)(h:k<s.size)(h1:(s.data.toList.take k).all Ia=true)(h2:33<=(s[k].toNat:Int)/\(s[k].toNat:Int)<=126):(s.data.toList.take (k+1)).all Ia=true:=by rw[fw s k h,List.all_append,h1];simpa[Ia]using h2
theorem Lh(s:BA)(k:Nat)(h:k<s.size)(h2:¬(33<=(s[k].toNat:Int)/\(s[k].toNat:Int)<=126)):wm s.data.toList=false:=by
 have:s.data.toList.all Ia=false:=by rw[List.all_eq_false];refine⟨s[k],?_,by simpa[Ia]using h2⟩;rw[show s[k]=s.data[k] from rfl];simp
 simp[wm,this]
theorem Jg(s:BA)(k:Nat)(h:s.size<=k)(h1:(s.data.toList.take k).all Ia=true):s.data.toList.all Ia=true:=by rw[List.take_of_length_le (by have:=zE s;omega)]at h1;exact h1
theorem yd(s:BA)(w:World): Cl 97 #[.string s] w λe w'=>e=.returned (.bool (wm s.data.toList))/\w'=w:=by
 by_cases h0:s.data.toList=[]
 .have C:Hid (wm s.data.toList=false):=ab (by rw[h0];rfl);have g1:s.toList.isEmpty=true:=by rw[tD,h0];rfl
  clear h0;go_enter func97,ntmps97;go_wp2;go_ret;exact⟨ag (uh C).symm,rfl⟩
 have g1:s.toList.isEmpty=false:=by rw[tD];simpa using h0
 by_cases h1:(s.size:Int)<=100
 .have D:Hid (s.data.toList.all Ia=true->wm s.data.toList=true):=ab (λh=>by rw[wm,h];have:=zE s;simp[h0];omega);clear h0;go_enter func97,ntmps97;go_wp2;go_loop [13] (λi=>∃k:Nat,k<=s.size/\i=.int .i64 k/\(s.data.toList.take k).all Ia=true) (λi=>s.size-(intOf i).toNat);case atStart=>exact⟨0,Nat.zero_le _,rfl,rfl⟩
  case round=>
   obtain⟨k,hk,rfl,ha⟩:=hrel;have A:=ab ha;clear ha;by_cases hlt:k<s.size
   .by_cases hc:33<=(s[k].toNat:Int)/\(s[k].toNat:Int)<=126
    .have B:=ab (I1 s k hlt (uh A) hc);obtain⟨hc1,hc2⟩:=hc;go_wp2;go_round;case rel=>exact⟨k+1,by omega,by go_num,uh B⟩
     case measure=>simp[intOf];omega
    have B:=ab (Lh s k hlt hc);have hc2:(s[k].toNat:Int)<33\/126<(s[k].toNat:Int):=by omega
    clear hc;rcases hc2 with hc|hc
    all_goals
     go_wp2;go_ret;exact⟨ag (uh B).symm,rfl⟩
   have B:=ab (uh D (Jg s k (by omega) (uh A)));go_wp2;go_ret;exact⟨ag (uh B).symm,rfl⟩
 have C:Hid (wm s.data.toList=false):=ab (by rw[wm];have:=zE s;simp;omega);clear h0;go_enter func97,ntmps97;go_wp2;go_ret;exact⟨ag (uh C).symm,rfl⟩
theorem jT(n:Int)(w:World): Cl 96 #[.int .i64 n] w λe w'=>e=.returned (.bool (ci n))/\w'=w:=by
 by_cases h0:0<=n
 .by_cases h1:n<=511
  .have C:Hid (ci n=true):=ab (by simp[ci,h0,h1]);go_enter func96,ntmps96;go_wp2;go_ret;exact⟨ag (uh C).symm,rfl⟩
  have C:Hid (ci n=false):=ab (by simp[ci,h1]);go_enter func96,ntmps96;go_wp2;go_ret;exact⟨ag (uh C).symm,rfl⟩
 have C:Hid (ci n=false):=ab (by simp[ci,h0]);go_enter func96,ntmps96;go_wp2;go_ret;exact⟨ag (uh C).symm,rfl⟩
def bK(e:aj):Bool:=e.path.data.toList != []&&isP e.path.data.toList&&bc e
theorem fY(e:aj)(m:Int)(w:World)(hm:w.cell? ⟨1,0,none⟩=some (.int .i64 m)): Cl 70 #[.agg #[.string e.path,.int .i64 e.kind,.int .i64 e.mode,.string e.data]] w λev w'=>ev=.returned (.bool (bK e))/\Bw w w':=by
 obtain⟨path,kind,mode,data⟩:=e;simp only at⊢;have hml:=World.block_lt_of_cell? _ _ hm;have HB:∀o,Bw w (w.alloc o):=λo=>(bR _ _).alloc (nR _) o;have HM:Hid (∀o,(w.alloc o).cell? ⟨1,0,none⟩=some (.int .i64 m)):=ab (λo=>cL (HB o) hm);clear hm;by_cases p0:path.data.toList=[]
 .have C:Hid (bK ⟨path,kind,mode,data⟩=false):=ab (by simp[bK,p0]);have g1:path.toList.isEmpty=true:=by rw[tD,p0];rfl
  clear p0;go_enter func70,ntmps70;go_wp2;go_ret;exact⟨ag (uh C).symm,HB _⟩
 have g1:path.toList.isEmpty=false:=by rw[tD];simpa using p0
 cases hp:isP path.data.toList
 .have C:Hid (bK ⟨path,kind,mode,data⟩=false):=ab (by simp[bK,hp]);clear p0;go_enter func70,ntmps70;go_wp2_with (go_at_call 95;refine(is_any _ m _ (uh HM _)).mono ?_;rintro ev w1⟨rfl,hb1⟩)
  go_ret;exact⟨ag (uh C).symm,(HB _).trans (hb1.mono (by simp))⟩
 have CC:Hid (bK ⟨path,kind,mode,data⟩=bc ⟨path,kind,mode,data⟩):=ab (by simp[bK,hp,p0]);clear p0;go_enter func70,ntmps70;go_upto_region 3 with(go_at_call 95;refine(is_any _ m _ (uh HM _)).mono ?_;rintro ev w1⟨rfl,hb1⟩)
 have hq:=(hb1.block w.heap.size (by simp)).trans (hN _ _);have q1:=cell_of_row w1 w.heap.size 1 _ _ _ hq;have q2:=cell_of_row w1 w.heap.size 2 _ _ _ hq;have q3:=cell_of_row w1 w.heap.size 3 _ _ _ hq;simp only[List.getElem?_toArray,List.getElem?_cons_succ,List.getElem?_cons_zero]at q1 q2 q3;have hB1:=(HB _).trans (hb1.mono (by simp));clear hq hb1 HB HM;by_cases k1:kind=1
 .subst k1;by_cases h0:data.data.toList=[]
  .have C:Hid (bc ⟨path,1,mode,data⟩=ci mode):=ab (by simp[bc,h0]);have g2:data.toList.isEmpty=true:=by rw[tD,h0];rfl
   clear h0;cases hmo:ci mode;all_goals
    go_wp2_with (go_at_call 96;refine(jT _ _).mono ?_;rintro ev w'⟨rfl,hw⟩;obtain rfl:=hw.symm)
    go_ret;exact⟨ag (by rw[uh CC,uh C,hmo]),hB1⟩
  have C:Hid (bc ⟨path,1,mode,data⟩=false):=ab (by simp only[bc,if_true,beq_eq_false_iff_ne.2 h0,Bool.and_false]);have g2:data.toList.isEmpty=false:=by rw[tD];simpa using h0
  clear h0;cases hmo:ci mode;all_goals
   go_wp2_with (go_at_call 96;refine(jT _ _).mono ?_;rintro ev w'⟨rfl,hw⟩;obtain rfl:=hw.symm)
   go_ret;exact⟨ag (by rw[uh CC,uh C]),hB1⟩
 by_cases k2:kind=2
 .subst k2;clear k1;by_cases h0:(data.size:Int)<=4096
  .have C:Hid (bc ⟨path,2,mode,data⟩=ci mode):=ab (by have:data.size<=4096:=(by omega);simp[bc,this]);cases hmo:ci mode;all_goals
    go_wp2_with (go_at_call 96;refine(jT _ _).mono ?_;rintro ev w'⟨rfl,hw⟩;obtain rfl:=hw.symm)
    go_ret;exact⟨ag (by rw[uh CC,uh C,hmo]),hB1⟩
  have C:Hid (bc ⟨path,2,mode,data⟩=false):=ab (by simp[bc];intro _;omega);cases hmo:ci mode;all_goals
   go_wp2_with (go_at_call 96;refine(jT _ _).mono ?_;rintro ev w'⟨rfl,hw⟩;obtain rfl:=hw.symm)
   go_ret;exact⟨ag (by rw[uh CC,uh C];try exact dF (by omega)),hB1⟩
 by_cases k3:kind=3
 .subst k3;clear k1 k2;by_cases hz:mode=0
  .subst hz;have C:Hid (bc ⟨path,3,0,data⟩=wm data.data.toList):=ab (by simp[bc]);go_wp2_with (go_at_call 97;refine(yd _ _).mono ?_;rintro ev w'⟨rfl,hw⟩;obtain rfl:=hw.symm)
   go_ret;exact⟨ag (by rw[uh CC,uh C]),hB1⟩
  have C:Hid (bc ⟨path,3,mode,data⟩=false):=ab (by simp[bc,hz]);go_wp2;go_ret;exact⟨ag (by rw[uh CC,uh C]),hB1⟩
 have C:Hid (bc ⟨path,kind,mode,data⟩=false):=ab (by simp[bc,k1,k2,k3]);go_wp2;go_ret;exact⟨ag (by rw[uh CC,uh C]),hB1⟩
def iH:List LU->List LU->Bool
 |_,[]=>false
 |[],_::_=>true
 |x::xs,y::ys=>Op.bytesLess x y||(x==y&&iH xs ys)
theorem bh{α:Type}{l:List α}{k:Nat}{a:α}(h:l[k]?=some a):l.drop k=a::l.drop (k+1):=by obtain⟨hk,rfl⟩:=eL.1 h;exact List.drop_eq_getElem_cons hk
theorem LJ{x y:List LU}{k:Nat}{a b:LU}(ha:x[k]?=some a)(hb:y[k]?=some b):iH (x.drop k) (y.drop k)=(Op.bytesLess a b||(a==b&&iH (x.drop (k+1)) (y.drop (k+1)))):=by rw[bh ha,bh hb,iH]
theorem I8{x y:List LU}{k:Nat}(h:x.length<=k\/y.length<=k):iH (x.drop k) (y.drop k)=decide (x.length<=k/\k<y.length):=by
 by_cases h2:y.length<=k
 .rw[List.drop_of_length_le (l:=y) h2];have:¬(x.length<=k/\k<y.length):=by omega
  simp only[this,decide_false];cases x.drop k<;>rfl
 have hx:x.length<=k:=by omega
 have hy:k<y.length:=by omega
 rw[List.drop_of_length_le (l:=x) hx,List.drop_eq_getElem_cons hy,iH];simp[hx,hy]
def kB(x y:List LU):Int:=if iH x y=true then -1 else if x=y then 0 else 1
theorem Ji{x y:List LU}{k:Nat}{a b:LU}(ha:x[k]?=some a)(hb:y[k]?=some b):kB (x.drop k) (y.drop k)=if Op.bytesLess a b=true then -1 else if (a==b)=true then kB (x.drop (k+1)) (y.drop (k+1)) else 1:=by
 unfold kB;rw[LJ ha hb,bh ha,bh hb];cases h1:Op.bytesLess a b with
 |true=>simp
 |false=>
  cases h2:(a==b)with
  |false=>
   have:a≠b:=by simpa using h2
   simp[this]
  |true=>
   have:a=b:=by simpa using h2
   simp[this]
theorem yV{x y:List LU}{k:Nat}(h:x.length<=k\/y.length<=k)(hx:k<=x.length)(hy:k<=y.length):kB (x.drop k) (y.drop k)=if x.length<y.length then -1 else if x.length=y.length then 0 else 1:=by
 unfold kB;rw[I8 h];by_cases h1:x.length<y.length
 .have:x.length<=k/\k<y.length:=by omega
  simp[h1,this]
 have:¬(x.length<=k/\k<y.length):=by omega
 by_cases h2:x.length=y.length
 .rw[List.drop_of_length_le (l:=x) (by omega),List.drop_of_length_le (l:=y) (by omega)];simp[h2]
 have hne:x.drop k≠y.drop k:=λe=>by have:=congrArg List.length e;rw[List.length_drop,List.length_drop]at this;omega
 simp[this,h1,h2,hne]
theorem JB{x y:List LU}:kB x y<0↔iH x y=true:=by
 unfold kB;split
 .rename_i h;simp[h]
 rename_i h;split<;>simp[h]
def nW(w:World)(ao:OA)(ps:List BA):Prop:=∀k b,ps[k]?=some b->∃g,ao=some ⟨g,0,none⟩/\w.cell? ⟨g,k,none⟩=some (.string b)
theorem nW.below{w w':World}{ao:OA}{ps:List BA}(h:nW w ao ps)(hb:Bw w w'):nW w' ao ps:=λk b hk=>by obtain⟨g,h1,h2⟩:=h k b hk;exact⟨g,h1,cL hb h2⟩
theorem pH{w:World}{B g cap:Nat}{ps:List BA}(h:Own w B (.slice (some ⟨g,0,none⟩) ps.length cap) ps):nW w (some ⟨g,0,none⟩) ps:=λ_ _ hk=>⟨g,rfl,own_cell h hk⟩
theorem yH(w:World)(ao:OA):nW w ao []:=λk b hk=>by simp at hk
theorem Du(s:BA)(m:Int)(w:World)(hs:s.size<=4294967280)(hm:w.cell? ⟨1,0,none⟩=some (.int .i64 m)): Cl 99 #[.string s] w λe w'=>∃ao cap n ps,e=.returned (.slice ao n cap)/\nW w' ao ps/\Hid (txts ps=prt s.data.toList)/\Hid (n=ps.length)/\n<=s.size+1/\Bw w w':=by
 by_cases h:s.data.toList=[]
 .refine(elems_nil s w h).mono ?_;rintro e w'⟨rfl,hw⟩;obtain rfl:=hw.symm;exact⟨none,0,0,[],rfl,yH _ _,ab (by rw[h];rfl),ab rfl,by omega,bR _ _⟩
 refine(elems_some s m w hs hm h).mono ?_;rintro e w'⟨g,cap,ps,rfl,h1,h2,h3,_⟩;have hl:ps.length<=s.size+1:=by have:=pX s.data.toList;rw[<-h2,txts_len,<-zE]at this;exact this
 exact⟨_,cap,_,ps,rfl,pH h1,ab (by rw[prt_ne h];exact h2),ab rfl,hl,h3⟩
theorem BG(t:TypeId)(a b:BA):binOp .gtr t (.string a) (.string b)=pure (.bool !(Op.bytesLess a.toList b.toList||a.toList==b.toList)):=by simp[binOp,Op.stringOp]
attribute [local go_sem] BG
theorem xV{a b:LU}(h:Op.bytesLess a b=true):(a==b)=false:=by
 rw[beq_eq_false_iff_ne];rintro rfl;induction a with
 |nil=>simp[Op.bytesLess]at h
 |cons c r ih=>simp[Op.bytesLess]at h;exact ih h
theorem oZ(s:BA)(w:World):Cl 152 #[.string s] w λe w'=>e=.returned (.bool false)/\w'=w:=by go_enter func152,ntmps152;go_wp2;go_ret;exact⟨rfl,rfl⟩
def fT(a b:LU):Int:=if Op.bytesLess a b=true then -1 else if (a==b)=true then 0 else 1
theorem vH(a b:BA)(w:World):Cl 125 #[.string a,.string b] w λe w'=>e=.returned (.int .i64 (fT a.toList b.toList))/\w'=w:=by
 cases h1:Op.bytesLess a.toList b.toList
 .cases h2:(a.toList==b.toList)
  .have C:Hid (fT a.toList b.toList=1):=ab (by simp[fT,h1,h2]);go_enter func125,ntmps125;go_wp2_with (go_at_call 152;refine(oZ _ _).mono ?_;rintro ev w'⟨rfl,hw⟩;obtain rfl:=hw.symm)
   go_ret;exact⟨by rw[uh C];rfl,rfl⟩
  have C:Hid (fT a.toList b.toList=0):=ab (by simp[fT,h1,h2]);go_enter func125,ntmps125;go_wp2_with (go_at_call 152;refine(oZ _ _).mono ?_;rintro ev w'⟨rfl,hw⟩;obtain rfl:=hw.symm)
  go_ret;exact⟨by rw[uh C];rfl,rfl⟩
 have C:Hid (fT a.toList b.toList=-1):=ab (by simp[fT,h1]);go_enter func125,ntmps125;go_wp2_with (go_at_call 152;refine(oZ _ _).mono ?_;rintro ev w'⟨rfl,hw⟩;obtain rfl:=hw.symm)
 go_ret;exact⟨by rw[uh C];rfl,rfl⟩
end Go.Proofs.YtjhobnjdfhkohaaGreatDoor.T
namespace Go.Proofs.YtjhobnjdfhkohaaGreatDoor
open Go.Proofs.Tryz
open Go.RowKit
theorem wrap_i64(n:Nat)(h:n<9223372036854775808):IntKind.i64.wrap (n:Int)=n:=by simp[IntKind.wrap,IntKind.bits,IntKind.signed];omega
theorem cJ(W:World)(n:Nat)(a:Addr)(v:Value):(W.drewN n).setCell a v=(W.setCell a v).drewN n:=rfl
theorem dP(W:World)(n:Nat)(o:Obj):(W.drewN n).alloc o=(W.alloc o).drewN n:=rfl
theorem am{w w1:World}(h:Below w.drew.heap.size w.drew w1):Bw w w1:=⟨h.os,h.tape,h.output,h.size,h.block⟩
theorem mu{w w1:World}{o:Obj}(h:Below (w.alloc o).drew.heap.size (w.alloc o).drew w1):Bw w w1:= ((bR _ _).alloc (nR _) o).trans (Below.mono (B':=w.heap.size) (am h) (by simp))
theorem lj{w w':World}(h:Bw w w'):w.grownBy w' none:=⟨h.os,h.tape,h.output,h.size,λk hk _=>h.block k hk⟩
end Go.Proofs.YtjhobnjdfhkohaaGreatDoor
namespace Go.Proofs.YtjhobnjdfhkohaaGreatDoor.T
open Go.Proofs.Tryz
open Go.RowKit
attribute [local go_sem] BG
theorem zR{ps:List BA}{n k:Nat}(hn:n=ps.length)(hk:k<n):∃b,ps[k]?=some b:=⟨ps[k]'(by omega),gG (by omega)⟩
theorem Gq(ao1 ao2:OA)(cap1 cap2 n1 n2:Nat)(ps1 ps2:List BA)(w:World)(ht1:nW w ao1 ps1)(ht2:nW w ao2 ps2)(HN1:Hid (n1=ps1.length))(HN2:Hid (n2=ps2.length))(hl1:n1<=4294967280)(hl2:n2<=4294967280): Cl 98 #[.slice ao1 n1 cap1,.slice ao2 n2 cap2] w λe w'=>e=.returned (.int .i64 (kB (txts ps1) (txts ps2)))/\w'=w:=by
 have L1:Hid ((txts ps1).length=n1):=ab (by rw[txts_len,uh HN1]);have L2:Hid ((txts ps2).length=n2):=ab (by rw[txts_len,uh HN2]);go_enter func98,ntmps98;go_wp2;go_loop [11] (λi=>∃k:Nat,k<=n1/\k<=n2/\i=.int .i64 k/\Hid (kB (txts ps1) (txts ps2)=kB ((txts ps1).drop k) ((txts ps2).drop k))) (λi=>n1-(intOf i).toNat);case atStart=>exact⟨0,by omega,by omega,rfl,ab rfl⟩
 case round=>
  obtain⟨k,hk1,hk2,rfl,HK⟩:=hrel;by_cases hlt:k<n1
  .obtain⟨x,hx⟩:=zR (uh HN1) hlt;obtain⟨g1,rfl,c1⟩:=ht1 k x hx;have i1:(k:Int)<n1:=by omega
   have i0:(0:Int)<=k:=by omega
   by_cases hlt2:k<n2
   .obtain⟨y,hy⟩:=zR (uh HN2) hlt2;obtain⟨g2,rfl,c2⟩:=ht2 k y hy;have HA:=ab (Ji (txts_get hx) (txts_get hy));have i2:(k:Int)<n2:=by omega
    clear hx hy;cases h1:Op.bytesLess x.toList y.toList
    .cases h2:(x.toList==y.toList)
     .have e:fT x.toList y.toList=1:=by simp[fT,h1,h2]
      go_wp2_with (go_at_call 125;refine(vH _ _ _).mono ?_;rintro ev w'⟨rfl,hw⟩;obtain rfl:=hw.symm)
      go_ret;have R:kB (txts ps1) (txts ps2)=1:=by rw[uh HK,uh HA,<-tD x,<-tD y,h1,h2];simp
      exact⟨by (rw[R];try rfl),rfl⟩
     have e:fT x.toList y.toList=0:=by simp[fT,h1,h2]
     go_wp2_with (go_at_call 125;refine(vH _ _ _).mono ?_;rintro ev w'⟨rfl,hw⟩;obtain rfl:=hw.symm)
     go_round;case rel=>
      have R:kB (txts ps1) (txts ps2)=kB ((txts ps1).drop (k+1)) ((txts ps2).drop (k+1)):=by rw[uh HK,uh HA,<-tD x,<-tD y,h1,h2];simp
      exact⟨k+1,by omega,by omega,by go_num,ab R⟩
     case measure=>simp[intOf];omega
    have e:fT x.toList y.toList=-1:=by simp[fT,h1]
    go_wp2_with (go_at_call 125;refine(vH _ _ _).mono ?_;rintro ev w'⟨rfl,hw⟩;obtain rfl:=hw.symm)
    go_ret;have R:kB (txts ps1) (txts ps2)=-1:=by rw[uh HK,uh HA,<-tD x,<-tD y,h1];simp
    exact⟨by (rw[R];try rfl),rfl⟩
   have HA:=ab (yV (x:=txts ps1) (y:=txts ps2) (k:=k) (by rw[uh L1,uh L2];omega) (by rw[uh L1];omega) (by rw[uh L2];omega));clear hx;go_wp2;go_ret;have R:kB (txts ps1) (txts ps2)=1:=by rw[uh HK,uh HA,uh L1,uh L2];split<;>(try split)<;>omega
   exact⟨by (rw[R];try rfl),rfl⟩
  have HA:=ab (yV (x:=txts ps1) (y:=txts ps2) (k:=k) (by rw[uh L1,uh L2];omega) (by rw[uh L1];omega) (by rw[uh L2];omega));by_cases hl:(n1:Int)<n2
  .go_wp2;go_ret;have R:kB (txts ps1) (txts ps2)=-1:=by rw[uh HK,uh HA,uh L1,uh L2];split<;>(try split)<;>omega
   exact⟨by (rw[R];try rfl),rfl⟩
  go_wp2;go_ret;have R:kB (txts ps1) (txts ps2)=0:=by rw[uh HK,uh HA,uh L1,uh L2];split<;>(try split)<;>omega
  exact⟨by (rw[R];try rfl),rfl⟩
theorem ro(s:BA)(m:Int)(w:World)(hs:s.size<=4294967280)(hm:w.cell? ⟨1,0,none⟩=some (.int .i64 m)): Cl 99 #[.string s] w λe w'=>∃ao cap n ps,e=.returned (.slice ao n cap)/\nW w' ao ps/\Hid (txts ps=prt s.data.toList)/\Hid (n=ps.length)/\n<=s.size+1/\Bw w w'/\Hid (∃os,w'=Go.Sort.grow w os):=by
 by_cases h:s.data.toList=[]
 .refine(elems_nil s w h).mono ?_;rintro e w'⟨rfl,hw⟩;obtain rfl:=hw.symm;exact⟨none,0,0,[],rfl,yH _ _,ab (by rw[h];rfl),ab rfl,by omega,bR _ _,ab ⟨#[],(Go.Sort.grow_empty w).symm⟩⟩
 refine(elems_some s m w hs hm h).mono ?_;rintro e w'⟨g,cap,ps,rfl,h1,h2,h3,h4⟩;have hl:ps.length<=s.size+1:=by have:=pX s.data.toList;rw[<-h2,txts_len,<-zE]at this;exact this
 exact⟨_,cap,_,ps,rfl,pH h1,ab (by rw[prt_ne h];exact h2),ab rfl,hl,h3,ab h4⟩
theorem uZ(a b:BA)(m:Int)(w:World)(ha:a.size<=1073741824)(hb:b.size<=1073741824)(hm:w.cell? ⟨1,0,none⟩=some (.int .i64 m)): Cl 71 #[.string a,.string b] w λe w'=>e=.returned (.int .i64 (kB (prt a.data.toList) (prt b.data.toList)))/\(∃os,w'=Go.Sort.grow w os)/\Bw w w':=by
 have HM:=ab hm;clear hm;go_enter func71,ntmps71;go_wp2_with (first|(go_at_call_of 99 (Value.string a);refine(ro a m _ (by omega) (uh HM)).mono ?_;rintro ev w1⟨ao1,cap1,n1,ps1,rfl,ht1,HE1,HN1,hl1,hb1,HG1⟩)|(go_at_call_of 99 (Value.string b);refine(ro b m _ (by omega) (cL hb1 (uh HM))).mono ?_;rintro ev w2⟨ao2,cap2,n2,ps2,rfl,ht2,HE2,HN2,hl2,hb2,HG2⟩)|(go_at_call 98;refine(Gq _ _ _ _ _ _ ps1 ps2 _ (ht1.below hb2) ht2 HN1 HN2 (by omega) (by omega)).mono ?_;rintro ev w3⟨rfl,hw⟩;obtain rfl:=hw.symm))
 go_ret;obtain⟨o1,h1⟩:=uh HG1;obtain⟨o2,h2⟩:=uh HG2;refine⟨by rw[<-uh HE1,<-uh HE2];rfl,⟨o1++o2,?_⟩,hb1.trans (hb2.mono hb1.size)⟩;rw[h2,h1,Go.Sort.grow_grow]
theorem iW(a b:BA)(m:Int)(w:World)(ha:a.size<=1073741824)(hb:b.size<=1073741824)(hm:w.cell? ⟨1,0,none⟩=some (.int .i64 m)): Cl 71 #[.string a,.string b] w λe w'=>∃n:Int,e=.returned (.int .i64 n)/\(n<0↔iH (prt a.data.toList) (prt b.data.toList)=true)/\Bw w w':=by refine(uZ a b m w ha hb hm).mono ?_;rintro e w'⟨rfl,_,hb⟩;exact⟨_,rfl,JB,hb⟩
end Go.Proofs.YtjhobnjdfhkohaaGreatDoor.T
