import Derived.Test.YtjhobnjdfhkohaaGreatDoorXAA
import Derived.Handy
import Derived.Lib.ConvBytes
import Derived.Lib.SlBuf
import Derived.Shelf.Strconv.Itoa4
import Derived.Shelf.Strings.Explode
import Derived.Shelf.Strings.Repeat
import Derived.Shelf.Unicode.DecodeAny
import Derived.Shelf.Utf8.RuneCount
set_option linter.all false
set_option maxHeartbeats 1000000
set_option maxRecDepth 100000
namespace Go.Proofs.YtjhobnjdfhkohaaGreatDoor.T
open Go.Proofs.Tryz
open Go.RowKit
theorem ii(d r:BA)(w:World)(_:d.size<=1073741824)(_:r.size<=1073741824): Cl 174 #[.string d,.string r] w λev w'=>ev=.returned (.string (bt (iI d.data.toList r.data.toList)))/\w'=w:=by
 by_cases hd:d.data.toList=[]
 .have g1:d.toList.isEmpty=true:=by rw[tD];simpa using hd
  have HF:Hid (r=bt (iI d.data.toList r.data.toList)):=ab (by rw[iI,if_pos hd,cF]);clear hd;go_enter func174,ntmps174;go_wp2;go_ret;exact⟨congrArg (λt=>Ending.returned (Value.string t)) (uh HF),rfl⟩
 have g1:d.toList.isEmpty=false:=by rw[tD];simpa using hd
 have HF:Hid (d++(⟨#[47]⟩:BA)++r=bt (iI d.data.toList r.data.toList)):=ab (by
  rw[iI,if_neg hd];conv=>lhs;rw[<-cF d,<-cF r,show (⟨#[47]⟩:BA)=bt [47] from rfl,gn,gn]
  simp)
 clear hd;go_enter func174,ntmps174;go_wp2;go_ret;exact⟨congrArg (λt=>Ending.returned (Value.string t)) (uh HF),rfl⟩
theorem AL(c:aj)(w:World)(hs:c.path.size<=1048576): Cl 261 #[.agg #[.string c.path,.int .i64 c.kind,.int .i64 c.mode,.string c.data]] w λev w'=>ev=.returned (.string (bt (aD c)))/\Bw w w':=by
 have hb0:∀o,Bw w (w.alloc o):=λo=>(bR _ _).alloc (nR _) o;by_cases h1:c.kind=1
 .have HF:Hid (c.path++(⟨#[47]⟩:BA)=bt (aD c)):=ab (by rw[aD,if_pos h1,<-gn,cF];rfl);go_enter func261,ntmps261;go_wp2;go_ret;exact⟨congrArg (λt=>Ending.returned (Value.string t)) (uh HF),hb0 _⟩
 have h1':(c.kind==1)=false:=by simp[h1]
 by_cases h4:c.kind=4
 .have HF:∀d n:BA,d.data.toList=al c.path.data.toList->n.data.toList=ai c.path.data.toList->bt (iI d.data.toList ((⟨#[46,119,104,46]⟩:BA)++n).data.toList)=bt (aD c):=λd n hd hn=>by rw[aD,if_neg h1,if_pos h4,hd,ByteArray.data_append,Array.toList_append,hn];rfl
  have HFh:=ab HF;have h4':(c.kind==4)=true:=by simp[h4]
  clear HF;go_enter func261,ntmps261;go_wp2_with (first|(go_at_call 100;refine(eE c.path _ (by omega)).mono ?_;rintro ev w1⟨dd,nn,rfl,HD,HNm,hb1⟩;have hds:dd.size<=1048576:=(by rw[zE,uh HD];have:=mN c.path.data.toList;rw[zE]at hs;omega);have hns:nn.size<=1048576:=(by rw[zE,uh HNm];have:=fQ c.path.data.toList;rw[zE]at hs;omega))|(go_at_call 174;refine(ii dd ((⟨#[46,119,104,46]⟩:BA)++nn) _ (by omega) (by rw[ByteArray.size_append];show 4+_<=_;omega)).mono ?_;rintro ev w2⟨rfl,hw⟩;obtain rfl:=hw.symm))
  go_ret;exact⟨congrArg (λt=>Ending.returned (Value.string t)) (uh HFh dd nn (uh HD) (uh HNm)),(hb0 _).trans (hb1.mono (hb0 _).size)⟩
 have h4':(c.kind==4)=false:=by simp[h4]
 by_cases h5:c.kind=5
 .have h5':(c.kind==5)=true:=by simp[h5]
  have HF:Hid (bt (iI c.path.data.toList (⟨#[46,119,104,46,46,119,104,46,46,111,112,113]⟩:BA).data.toList)=bt (aD c)):=ab (by rw[aD,if_neg h1,if_neg h4,if_pos h5];rfl);go_enter func261,ntmps261;go_wp2_with (go_at_call 174;refine(ii c.path ⟨#[46,119,104,46,46,119,104,46,46,111,112,113]⟩ _ (by omega) (by decide)).mono ?_;rintro ev w2⟨rfl,hw⟩;obtain rfl:=hw.symm)
  go_ret;exact⟨congrArg (λt=>Ending.returned (Value.string t)) (uh HF),hb0 _⟩
 have h5':(c.kind==5)=false:=by simp[h5]
 have HF:Hid (c.path=bt (aD c)):=ab (by rw[aD,if_neg h1,if_neg h4,if_neg h5,cF]);go_enter func261,ntmps261;go_wp2;go_ret;exact⟨congrArg (λt=>Ending.returned (Value.string t)) (uh HF),hb0 _⟩
theorem xC(a b:LU)(h:(47:UInt8)∉a):Lib.index (a++47::b) [47]=(a.length:Int):=by
 induction a with
 |nil=>rw[List.nil_append,Lib.index];simp[List.isPrefixOf]
 |cons c r ih=>
  simp only[nh,not_or]at h;have hp:List.isPrefixOf [47] (c::(r++47::b))=false:=by simp[List.isPrefixOf,h.1]
  rw[List.cons_append,Lib.index,hp,ih h.2];have hne:((r.length:Int)==-1)=false:=by simp
  simp[hne]
theorem Dh(a b:LU)(h:(47:UInt8)∉a):Lib.cut (a++47::b) [47]=(a,b,true):=by rw[Lib.cut,xC a b h,if_pos (by omega)];simp
theorem qQ{l:LU}{k i:Nat}(h:cT l k=some i):k<=i/\i<l.length/\l.drop k=(l.drop k).take (i-k)++47::l.drop (i+1)/\(47:UInt8)∉(l.drop k).take (i-k):=by
 unfold cT at h;rw[List.find?_eq_some_iff_getElem]at h;obtain⟨h1,j,hj,e,h2⟩:=h;simp only[List.length_range]at hj;simp only[List.getElem_range]at e;subst e;simp only[LZ,decide_eq_true_eq,beq_iff_eq]at h1;have hg:l.getD j 0=l[j]:=by rw[List.getD_eq_getElem?_getD,pS hj];rfl
 refine⟨h1.1,hj,?_,λhm=>?_⟩
 .have e1:l.drop j=47::l.drop (j+1):=by rw[List.drop_eq_getElem_cons hj,<-hg,h1.2]
  have e2:l.drop j=(l.drop k).drop (j-k):=by rw[List.drop_drop];congr 1;omega
  rw[<-e1,e2,List.take_append_drop]
 obtain⟨q,hq,e⟩:=List.getElem_of_mem hm;rw[List.length_take,List.length_drop]at hq;rw[List.getElem_take,List.getElem_drop]at e;have:=h2 (k+q) (by omega);simp only[List.getElem_range,Bool.not_eq_true',Bool.and_eq_false_iff,decide_eq_false_iff_not]at this;rcases this with h3|h3
 .exact h3 (by omega)
 rw[List.getD_eq_getElem?_getD,pS (by omega),Option.getD_some,e]at h3;simp at h3
def fieldTab:List (Nat×Nat×Nat):=[(7,100,8),(10,108,8),(11,116,8),(2,124,12),(12,136,12),(13,257,8),(14,329,8),(15,337,8),(5,345,155),(6,0,100),(8,156,1),(9,157,100),(18,148,8)]
def Flds(w:World):Prop:=∀t∈fieldTab,w.cell? ⟨t.1,0,none⟩=some (.int .i64 (t.2.1:Nat))/\w.cell? ⟨t.1,1,none⟩=some (.int .i64 (t.2.2:Nat))
theorem Flds.below{w w':World}(h:Flds w)(hb:Bw w w'):Flds w':=λt ht=>⟨aM hb (h t ht).1,aM hb (h t ht).2⟩
theorem Flds.at{w:World}(h:Flds w){b o n:Nat}(ht:(b,o,n)∈fieldTab):w.cell? ⟨b,0,none⟩=some (.int .i64 (o:Nat))/\w.cell? ⟨b,1,none⟩=some (.int .i64 (n:Nat)):=h _ ht
theorem Ac(l:LU)(mx:Int)(w:World)(hl:l.length<=1048576)(hF:Flds w)(hm:w.cell? ⟨1,0,none⟩=some (.int .i64 mx))(hp:l.length<=100\/∃i,cT l (l.length-101)=some i): Cl 275 #[.string (bt l)] w λev w'=>ev=.returned (.tuple #[.string (bt (aR l).1),.string (bt (aR l).2)])/\Bw w w':=by
 obtain⟨f0,f1⟩:=hF.at (b:=6) (o:=0) (n:=100) (by decide)
 obtain⟨s,hs⟩:=aq (bt l);have hsl:s.data.toList=l:=by rw[hs,aK]
 have hsz:s.size=l.length:=by rw[hs,bF]
 have HS:=ab hs;have HL:=ab hsl;have HZ:=ab hsz;rw[<-hs];have hs2:s.size<=1048576:=by omega
 by_cases h1:l.length<=100
 .have i1:(s.size:Int)-100-1<0:=by omega
  have HF:Hid (aR l=([],l)):=ab (by rw[aR,if_pos h1]);clear h1 hsl hs hp hsz;go_enter func275,ntmps275;go_wp2;go_ret2;refine⟨?_,ju _ _⟩;rw[uh HF,uh HS];rfl
 obtain⟨i,hi⟩:=hp.resolve_left h1;obtain⟨k1,k2,k3,k4⟩:=qQ hi;have HF:Hid (aR l=(l.take i,l.drop (i+1))):=ab (by rw[aR,if_neg h1,hi]);obtain⟨k,hk⟩:∃k:Nat,k=l.length-101:=⟨_,rfl⟩
 rw[<-hk]at k1 k3 k4;have hkz:(s.size:Int)-100-1=(k:Int):=by omega
 have i1:¬(k:Int)<0:=by omega
 have i2:(0:Int)<=(k:Int):=by omega
 have i3:(k:Int)<=(s.size:Int):=by omega
 have E1:Hid (s.extract k s.size=bt ((l.drop k).take (i-k)++47::l.drop (i+1))):=ab (by rw[nu,hsl,<-k3]);have E2:Hid (s.extract 0 k=bt (l.take k)):=ab (by rw[wj,hsl]);have E3:Hid (l.take i=l.take k++(l.drop k).take (i-k)):=ab (by rw[<-List.take_add];congr 1;omega);have K4:=ab k4;clear h1 hsl hs hp hsz hi k1 k2 k3 k4 hk;obtain⟨A,hA⟩:=aq ((l.drop k).take (i-k));obtain⟨B,hB⟩:=aq (l.drop (i+1));rw[<-hA,<-hB]at E1;rw[<-hA]at E3 K4;rw[<-hB]at HF;have hcut:Cl 82 #[.string (s.extract k s.size),.string ⟨#[47]⟩] w λev w'=>ev=.returned (.tuple #[.string (bt A),.string (bt B),.bool true])/\Bw w w':=by
  refine(Tryz.strings_Cut (s.extract k s.size) ⟨#[47]⟩ mx w (by rw[ByteArray.size_extract];omega) hm).mono ?_;rintro e w'⟨rfl,n,rfl⟩;refine⟨?_,dW n (ju _ _)⟩;have e1:(s.extract k s.size).data.toList=A++47::B:=by rw[uh E1,aK]
  rw[e1,show (⟨#[47]⟩:BA).data.toList=[47] from rfl,Dh A B (uh K4)];rfl
 have hAz:(bt A).size<=1048576:=by rw[bF,hA,List.length_take,List.length_drop];omega
 obtain⟨sa,hsa⟩:=aq (bt A);obtain⟨sb,hsb⟩:=aq (bt B);rw[<-hsa,<-hsb]at hcut;rw[<-hsa]at hAz;have HR:Hid (s.extract 0 k++sa=bt (l.take i)):=ab (by rw[uh E2,hsa,gn,uh E3]);have HSB:=ab hsb;clear hA hB hsa hsb E1 E2 E3 K4;go_enter func275,ntmps275;go_wp2_with (go_at_call 82;refine hcut.mono ?_;clear hcut;rintro ev w1⟨rfl,hb1⟩)
 go_ret2;refine⟨?_,hb1⟩;rw[uh HF];exact Le (uh HR) (uh HSB)
theorem sW(b o n:Nat)(w:World)(h:o+n<=512)(h0:0<n): Cl 273 #[.pointer (some ⟨b,0,none⟩),.agg #[.int .i64 (o:Nat),.int .i64 (n:Nat)]] w λev w'=>ev=.returned (.slice (some ⟨b,o,none⟩) n (512-o))/\Bw w w':=by
 have i0:(0:Int)<=(o:Int):=by omega
 have i1:(o:Int)<=(o:Int)+(n:Int):=by omega
 have i2:(o:Int)+(n:Int)<=512:=by omega
 have i3:¬512=o:=by omega
 go_enter func273,ntmps273;go_upto_region 1 with fail
 go_quiet (fail)
 go_wp2;go_ret;exact⟨congrArg (λt=>Ending.returned (.slice (some ⟨b,o,none⟩) t (512-o))) (Nat.add_sub_cancel_left o n),dW _ (eD)⟩
def fe(w:World)(b:Nat)(xs:LU):Prop:=w.heap[b]?=some (.cells (Lib.byteCells xs).toArray 284 (0,0))/\xs.length=512
theorem fe.below{w w':World}{b:Nat}{xs:LU}(h:fe w b xs)(hb:Bw w w'):fe w' b xs:= ⟨(hb.block b (bY h.1)).trans h.1,h.2⟩
theorem cj{w w':World}{b:Nat}(h:w.grownBy w' (some b)){a:Addr}{v:Value}(ha:w.cell? a=some v)(hne:a.block≠b):w'.cell? a=some v:=by rw[World.cell?_of_block (h.block a.block (World.block_lt_of_cell? _ _ ha) (λe=>hne (Option.some.inj e)))];exact ha
theorem bN{w w1 w2:World}{b:Nat}(h1:w.grownBy w1 (some b))(h2:w1.grownBy w2 (some b)):w.grownBy w2 (some b):= ⟨h2.os.trans h1.os,h2.tape.trans h1.tape,h2.output.trans h1.output,dz h1.size h2.size,λk hk hne=>(h2.block k (Nat.lt_of_lt_of_le hk h1.size) hne).trans (h1.block k hk hne)⟩
theorem dM{w w':World}{b:Nat}(h:Bw w w'):w.grownBy w' (some b):=⟨h.os,h.tape,h.output,h.size,λk hk _=>h.block k hk⟩
theorem Flds.grown{w w':World}{b:Nat}(h:Flds w)(hg:w.grownBy w' (some b))(hb:18<b):Flds w':=λt ht=>by
 have hlt:t.1<19:=by simp only[fieldTab,nh,List.not_mem_nil,or_false]at ht;rcases ht with rfl|rfl|rfl|rfl|rfl|rfl|rfl|rfl|rfl|rfl|rfl|rfl|rfl<;>decide
 exact⟨cj hg (h t ht).1 (by show t.1≠b;omega),cj hg (h t ht).2 (by show t.1≠b;omega)⟩
theorem uz{A X B s:LU}(hs:s.length<=X.length):(Lib.byteCells (A++X++B)).take A.length++Lib.byteCells s++(Lib.byteCells (A++X++B)).drop (A.length+s.length)=Lib.byteCells (A++(s++X.drop s.length)++B):=by
 have e1:(Lib.byteCells (A++X++B)).take A.length=Lib.byteCells A:=by rw[yL,Lib.byteCells_append,List.take_left' (by rw[Lib.byteCells_length])]
 have e2:(Lib.byteCells (A++X++B)).drop (A.length+s.length)=Lib.byteCells (X.drop s.length++B):=by rw[yL,Lib.byteCells_append,<-List.drop_drop,List.drop_left' (by rw[Lib.byteCells_length]),Lib.byteCells,<-List.map_drop,<-Lib.byteCells,List.drop_append_of_le_length hs]
 rw[e1,e2,<-Lib.byteCells_append,<-Lib.byteCells_append];simp[yL]
theorem Kw:(prog.info? 5).map (·.size)=some 1:=by kernel_rfl
theorem df(b o n:Nat)(A X B:LU)(s:BA)(w:World)(hk:fe w b (A++X++B))(hA:A.length=o)(hX:X.length=n)(hs:s.size<=n)(h0:0<n): Cl 264 #[.pointer (some ⟨b,0,none⟩),.agg #[.int .i64 (o:Nat),.int .i64 (n:Nat)],.string s] w λev w'=>ev=.returned (.tuple #[])/\Hid (fe w' b (A++(s.data.toList++X.drop s.size)++B))/\w.grownBy w' (some b):=by
 have hl:=hk.2;simp only[qJ]at hl;have hon:o+n<=512:=by omega
 have hz:s.size=s.data.toList.length:=im s;have HK:=ab hk;have HA:=ab hA;have HZ:=ab hz;have hbl:b<w.heap.size:=(bY hk.1)
 have hfit:∀w1:World,Bw w w1->∃w2,(Builtin.copy_ #[101,9] 3 #[.slice (some ⟨b,o,none⟩) n (512-o),.string s]).run prog w1=.ok (.int .i64 s.size) w2/\Hid (fe w2 b (A++(s.data.toList++X.drop s.size)++B))/\w.grownBy w2 (some b):=λw1 hb1=>by
  have hk1:=(uh HK).below hb1;refine⟨_,Lib.run_copy_row_string w1 101 9 3 5 b o n (512-o) s _ 284 underlying101 Kw hk1.1 hs ?_,ab ⟨?_,?_⟩,?_⟩
  .rw[pL,Lib.byteCells_length,hk1.2];omega
  .refine(setRow_heap _ _ _ _ _ _ hk1.1).trans ?_;congr 2;rw[<-hA,hz];exact congrArg List.toArray (uz (by omega))
  .have:=(uh HK).2;simp only[qJ,List.length_drop]at this⊢;omega
  exact⟨hb1.os,hb1.tape,hb1.output,by simpa using hb1.size,λk hk hne=>(setRow_other _ _ _ _ (λe=>hne (congrArg some e))).trans (hb1.block k hk)⟩
 have HFit:=ab hfit;have hb0:Bw w (w.alloc (.cells #[.int .i64 (o:Nat),.int .i64 (n:Nat)] 288)):=eD;clear hk hA hl hz hfit hX;go_enter func264,ntmps264;go_wp2_with (first|(go_at_call 273;refine(sW b o n _ hon h0).mono ?_;rintro ev w1⟨rfl,hb1⟩;obtain⟨w2,hrun,HB,hg⟩:=uh HFit w1 (hb0.trans (hb1.mono hb0.size)))|(at_builtin;refine Lib.wpList_copy_run _ rfl _ _ 101 9 rfl _ _ rfl rfl hrun ?_))
 go_end0;exact⟨rfl,HB,hg⟩
end Go.Proofs.YtjhobnjdfhkohaaGreatDoor.T
namespace Go.Proofs.YtjhobnjdfhkohaaGreatDoor.T
open Go.Proofs.Tryz
open Go Go.RowKit
theorem tT(a:Nat)(ha:a<9223372036854775808):(BitVec.ofInt 64 (a:Int)).toNat=a:=by rw[BitVec.ofInt_natCast,BitVec.toNat_ofNat];exact Nat.mod_eq_of_lt (by omega)
def rr(x n:Nat):Nat:=(x / 2 ^ n) ||| (x*2 ^ (32-n)%4294967296)
end Go.Proofs.YtjhobnjdfhkohaaGreatDoor.T
namespace Go.Proofs.YtjhobnjdfhkohaaGreatDoor.T
open Go.Proofs.Tryz
open Go.RowKit
theorem Mq(w:World):Cl 286 #[.int .i64 8] w λev w'=>ev=.returned (.bool true)/\w'=w:=by
 have e1:bits .and .i64 8 7=0:=by rfl
 go_enter func286,ntmps286;go_wp2;go_ret;simp
theorem Lz(w:World)(h:w.cell? ⟨21,7,none⟩=some (.int .u8 3)):Cl 289 #[.int .u64 8] w λev w'=>ev=.returned (.int .i64 3)/\w'=w:=by
 have e1:IntKind.u64.wrap (-8)=18446744073709551608:=by rfl
 have e2:bits .and .u64 8 18446744073709551608=8:=by rfl
 have e3:IntKind.u64.wrap (8*285870213051353865)=2286961704410830920:=by rfl
 go_enter func289,ntmps289;go_wp2;go_ret;exact⟨rfl,rfl⟩
theorem NA(w:World)(h:w.cell? ⟨21,7,none⟩=some (.int .u8 3)):Cl 287 #[.int .u64 8] w λev w'=>ev=.returned (.int .i64 3)/\w'=w:=by
 go_enter func287,ntmps287;go_wp2_with (go_at_call 289;refine(Lz _ h).mono ?_;rintro ev w1⟨rfl,rfl⟩)
 go_ret;exact⟨rfl,rfl⟩
def K0:BA:=⟨#[48,49,50,51,52,53,54,55,56,57,97,98,99,100,101,102,103,104,105,106,107,108,109,110,111,112,113,114,115,116,117,118,119,120,121,122]⟩
theorem BK{m:Nat}(h:m<8):m<K0.size:=Nat.lt_of_lt_of_le h (by decide)
theorem A7:∀(m:Nat) (h:m<8),K0[m]'(BK h)=UInt8.ofNat (48+m)
 |0,_=>rfl
 |1,_=>rfl
 |2,_=>rfl
 |3,_=>rfl
 |4,_=>rfl
 |5,_=>rfl
 |6,_=>rfl
 |7,_=>rfl
theorem NF(m:Nat)(h:m<262144):bits .and .u64 (m:Int) 7=((m%8:Nat):Int):=by have hx:=Nat.and_two_pow_sub_one_eq_mod m 3;show IntKind.u64.wrap ((BitVec.ofInt 64 (m:Int) &&& BitVec.ofInt 64 ((7:Nat):Int)).toNat:Int)=_;rw[BitVec.toNat_and,tT m (by omega),tT 7 (by omega),hx];simp[IntKind.wrap,IntKind.bits,IntKind.signed];omega
theorem Ln{P:Program}{c:Code}{Q:Exit->Act->World->Prop}{a:Act}{W W':World}(h:W'=W)(hw:Code.wp P c Q a W'):Code.wp P c Q a W:=h ▸ hw
def LX(b:UInt8):Value:=.int .u8 (b.toNat:Int)
def pJ(w:World)(B k:Nat)(ds:LU):Prop:=w.heap[B]?=some (.cells (List.replicate k (Value.int .u8 0)++ds.map LX).toArray 336 (0,0))/\k+ds.length=65
theorem Dn(w:World):pJ (w.alloc (Obj.cells Tryz.zeroCells336 336)) w.heap.size 65 []:=⟨(hN _ _).trans rfl,rfl⟩
theorem Ja(z:Nat)(x v:Value)(l:List Value):(List.replicate (z+1) x++l).set z v=List.replicate z x++v::l:=by rw[List.replicate_succ',aA,List.set_append_right _ _ (by simp)];simp
theorem BB{w:World}{B z:Nat}{ds:LU}(h:pJ w B (z+1) ds)(d:UInt8):pJ (w.setCell ⟨B,z,none⟩ (LX d)) B z (d::ds):=by refine⟨?_,by have:=h.2;simp only[lC];omega⟩;rw[hS _ _ _ _ _ _ h.1,List.setIfInBounds_toArray,Ja];rfl
theorem xK{w:World}{B z:Nat}{ds:LU}(h:pJ w B (z+1) ds):w.cell? ⟨B,z,none⟩=some (.int .u8 0)/\w.frozen? ⟨B,z,none⟩=false:=by refine⟨?_,frozen_of_row _ _ _ _ _ h.1⟩;rw[cell_of_row _ _ _ _ _ _ h.1];simp[List.getElem?_append]
theorem GN{w:World}{B z:Nat}{ds:LU}(h:pJ w B z ds)(cap:Nat):(convert 101 9 (.slice (some ⟨B,z,none⟩) ds.length cap)).run prog w=.ok (.string ⟨ds.toArray⟩) w:=by refine run_convert_bytes_back (P:=prog) w 101 9 5 ⟨B,z,none⟩ cap ds underlying101 underlying5 underlying9 (λj hj=>?_);rw[Addr.add_lit];rw[cell_of_row _ _ _ _ _ _ h.1];simp[hj,LX]
theorem FF(n:Nat)(w:World)(hn:n<262144)(h:w.cell? ⟨21,7,none⟩=some (.int .u8 3)):Cl 283 #[.slice none 0 0,.int .u64 (n:Int),.int .i64 8,.bool false,.bool false] w λev w'=>∃s:BA,ev=.returned (.tuple #[.slice none 0 0,.string s])/\Hid (s.data.toList=cW n)/\Bw w w':=by
 have hb0:Bw w (w.alloc (Obj.cells Tryz.zeroCells336 336)):=eD;have h7:=cL hb0 h;have ho0:=ab (Dn w);go_enter func283,ntmps283;go_wp2_with (first|(go_at_call 286;refine(Mq _).mono ?_;rintro ev w1⟨rfl,rfl⟩)|(go_at_call 287;refine(NA _ h7).mono ?_;rintro ev w1⟨rfl,rfl⟩))
 go_loopw [1,13] (λu i wr=>∃(m k:Nat) (ds:LU),u=.int .u64 (m:Int)/\i=.int .i64 (k:Int)/\Hid (pJ wr w.heap.size k ds)/\Bw w wr/\Hid (cW n=cW m++ds)/\(k=65/\m<262144\/k=64/\m<32768\/k=63/\m<4096\/k=62/\m<512\/k=61/\m<64\/k=60/\m<8)) (λu _ _=>(intOf u).toNat);case atStart=>exact⟨n,65,[],rfl,rfl,ho0,hb0,ab (by simp),.inl ⟨rfl,hn⟩⟩
 case round=>
  obtain⟨m,k,ds,rfl,rfl,HO,hb,HL,hc⟩:=hrel;obtain⟨z,HZ⟩:∃z,Hid (k=z+1):=⟨k-1,ab (by omega)⟩
  have w1:IntKind.i64.wrap ((k:Int)-1)=(z:Int):=by have:=uh HZ;rw[IntKind.wrap_i64]<;>omega
  have z0:(0:Int)<=(z:Int):=by omega
  have z1:(z:Int)<65:=by have:=uh HZ;omega
  have z2:z<=65:=by omega
  have HO2:Hid (pJ wr w.heap.size (z+1) ds):=ab (by rw[<-uh HZ];exact uh HO);have c1:=(xK (uh HO2)).1;have c2:=(xK (uh HO2)).2;have HC:=ab hc;clear hc HO;by_cases hm:m<8
  .have hm2:(m:Int)<8:=by omega
   have m0:(0:Int)<=(m:Int):=by omega
   have m1:(m:Int)<36:=by omega
   have z3:(z:Int)<=65:=by omega
   have z4:¬65=z:=by omega
   have z5:¬z=65:=by omega
   go_upto_region 30 with fail
   obtain⟨W',hW⟩:=aq (wr.setCell ⟨w.heap.size,z,none⟩ (.int .u8 ((K0[m]'(BK hm)).toNat:Int)));have HW:Hid (pJ W' w.heap.size z (UInt8.ofNat (48+m)::ds)):=ab (by rw[hW,A7 m hm];exact BB (uh HO2) _);have hbW:Bw w W':=by rw[hW];exact hb.setCell (p:=⟨w.heap.size,z,none⟩) (nR _) _
   refine Ln hW ?_;clear hW;have hcv:=GN (uh HW) (65-z);have hlen:(UInt8.ofNat (48+m)::ds).length=65-z:=by have:=(uh HW).2;omega
   rw[hlen]at hcv;have HF:Hid ((UInt8.ofNat (48+m)::ds).toArray.toList=cW n):=ab (by rw[uh HL,cW,if_pos hm];simp);generalize (UInt8.ofNat (48+m)::ds).toArray=fin at hcv HF;clear hlen;go_wp2;go_ret2;exact⟨_,rfl,HF,hbW⟩
  have hm2:(8:Int)<=(m:Int):=by omega
  obtain⟨r,er⟩:=aq (m%8);obtain⟨q,eq⟩:=aq (m / 8);have r8:r<8:=by omega
  have m0:(0:Int)<=(r:Int):=by omega
  have m1:(r:Int)<36:=by omega
  have m512:m<262144:=by have:=uh HC;omega
  have a7:bits .and .u64 (m:Int) 7=(r:Int):=by rw[NF m m512,<-er]
  have d8:(m:Int) / 8=(q:Int):=by omega
  have HR:Hid (cW m=cW q++[UInt8.ofNat (48+r)]):=ab (by rw[cW,if_neg hm,<-er,<-eq]);have HQ:Hid (q<m/\(z=64/\q<32768\/z=63/\q<4096\/z=62/\q<512\/z=61/\q<64\/z=60/\q<8)):=ab (by have:=uh HC;have:=uh HZ;omega);clear er eq;go_wp2;go_roundw;case rel=>exact⟨q,z,_,rfl,rfl,ab (BB (uh HO2) _),hb.setCell (p:=⟨w.heap.size,z,none⟩) (nR _) _,ab (by rw[uh HL,uh HR,<-A7 r r8];simp;rfl),by have:=uh HQ;omega⟩
  case measure=>have:=(uh HQ).1;simp[intOf];omega
theorem Fa(n:Nat)(w:World)(hn:n<262144)(h:w.cell? ⟨21,7,none⟩=some (.int .u8 3)):Cl 279 #[.int .i64 (n:Int),.int .i64 8] w λev w'=>∃s:BA,ev=.returned (.string s)/\Hid (s.data.toList=cW n)/\Bw w w':=by
 have e1:IntKind.u64.wrap (n:Int)=(n:Int):=by rw[IntKind.wrap_u64];omega
 have e2:(0:Int)<=(n:Int):=by omega
 have e3:¬(n:Int)<0:=by omega
 go_enter func279,ntmps279;go_wp2_with (go_at_call 283;refine(FF n _ hn h).mono ?_;rintro ev w1⟨s,rfl,HS,hb⟩)
 go_ret;exact⟨_,rfl,HS,hb⟩
theorem Ke(n:Nat)(w:World)(hn:n<262144)(h:w.cell? ⟨21,7,none⟩=some (.int .u8 3)):Cl 276 #[.int .i64 (n:Int),.int .i64 8] w λev w'=>∃s:BA,ev=.returned (.string s)/\Hid (s.data.toList=cW n)/\Bw w w':=by
 go_enter func276,ntmps276;go_wp2_with (go_at_call 279;refine(Fa n _ hn h).mono ?_;rintro ev w1⟨s,rfl,HS,hb⟩)
 go_ret;exact⟨_,rfl,HS,hb⟩
end Go.Proofs.YtjhobnjdfhkohaaGreatDoor.T
namespace Go.Proofs
open Go.Proofs.Tryz
open Go.Shelf
def Tryz.lays105_ren:Go.Shelf.Ren:=⟨fun|105=>235|212=>254|99=>80|165=>93|166=>36|170=>255|169=>38|263=>271|264=>272|206=>109|240=>63|241=>123|276=>91|277=>150|n=>n,fun|9=>9|3=>3|4=>4|20=>20|0=>0|46=>225|109=>307|5=>5|72=>103|76=>107|51=>250|146=>251|53=>281|148=>323|70=>100|37=>101|75=>45|127=>155|164=>109|80=>63|n=>n,fun|n=>n⟩
theorem Tryz.lays105:Go.Proofs.Lays.n105 Tryz.prog Tryz.lays105_ren:={
 mixed:=by kernel_rfl
 f99:=Tryz.func80.trans (congrArg some (by kernel_rfl))
 f105:=Tryz.func235.trans (congrArg some (by kernel_rfl))
 f165:=Tryz.func93.trans (congrArg some (by kernel_rfl))
 f166:=Tryz.func36.trans (congrArg some (by kernel_rfl))
 f169:=Tryz.func38.trans (congrArg some (by kernel_rfl))
 f170:=Tryz.func255.trans (congrArg some (by kernel_rfl))
 f206:=Tryz.func109.trans (congrArg some (by kernel_rfl))
 f212:=Tryz.func254.trans (congrArg some (by kernel_rfl))
 f240:=Tryz.func63.trans (congrArg some (by kernel_rfl))
 f241:=Tryz.func123.trans (congrArg some (by kernel_rfl))
 f263:=Tryz.func271.trans (congrArg some (by kernel_rfl))
 f264:=Tryz.func272.trans (congrArg some (by kernel_rfl))
 f276:=Tryz.func91.trans (congrArg some (by kernel_rfl))
 f277:=Tryz.func150.trans (congrArg some (by kernel_rfl))
 t0:=Tryz.underlying0
 a0:=Tryz.isAgg0
 z0:=Tryz.sizeOf0
 v0:=Tryz.zeroValue0
 t3:=Tryz.underlying3
 a3:=Tryz.isAgg3
 z3:=Tryz.sizeOf3
 v3:=Tryz.zeroValue3
 t4:=Tryz.underlying4
 a4:=Tryz.isAgg4
 z4:=Tryz.sizeOf4
 v4:=Tryz.zeroValue4
 t5:=Tryz.underlying5
 a5:=Tryz.isAgg5
 z5:=Tryz.sizeOf5
 v5:=Tryz.zeroValue5
 t9:=Tryz.underlying9
 a9:=Tryz.isAgg9
 z9:=Tryz.sizeOf9
 v9:=Tryz.zeroValue9
 t20:=Tryz.underlying20
 a20:=Tryz.isAgg20
 z20:=Tryz.sizeOf20
 v20:=Tryz.zeroValue20
 t37:=Tryz.underlying101
 a37:=Tryz.isAgg101
 z37:=Tryz.sizeOf101
 v37:=Tryz.zeroValue101
 t46:=Tryz.underlying225
 a46:=Tryz.isAgg225
 z46:=Tryz.sizeOf225
 v46:=Tryz.zeroValue225
 t51:=Tryz.underlying250
 a51:=Tryz.isAgg250
 z51:=Tryz.sizeOf250
 v51:=Tryz.zeroValue250
 t53:=Tryz.underlying281
 a53:=Tryz.isAgg281
 z53:=Tryz.sizeOf281
 v53:=Tryz.zeroValue281
 t70:=Tryz.underlying100
 a70:=Tryz.isAgg100
 z70:=Tryz.sizeOf100
 v70:=Tryz.zeroValue100
 t72:=Tryz.underlying103
 a72:=Tryz.isAgg103
 z72:=Tryz.sizeOf103
 v72:=Tryz.zeroValue103
 t75:=Tryz.underlying45
 a75:=Tryz.isAgg45
 z75:=Tryz.sizeOf45
 v75:=Tryz.zeroValue45
 t76:=Tryz.underlying107
 a76:=Tryz.isAgg107
 z76:=Tryz.sizeOf107
 v76:=Tryz.zeroValue107
 t109:=Tryz.underlying307
 a109:=Tryz.isAgg307
 z109:=Tryz.sizeOf307
 v109:=Tryz.zeroValue307
 t127:=Tryz.underlying155
 a127:=Tryz.isAgg155
 z127:=Tryz.sizeOf155
 v127:=Tryz.zeroValue155
 t146:=Tryz.underlying251
 a146:=Tryz.isAgg251
 z146:=Tryz.sizeOf251
 v146:=Tryz.zeroValue251
 t148:=Tryz.underlying323
 a148:=Tryz.isAgg323
 z148:=Tryz.sizeOf323
 v148:=Tryz.zeroValue323
 t164:=Tryz.underlying109
 a164:=Tryz.isAgg109
 z164:=Tryz.sizeOf109
 v164:=Tryz.zeroValue109 }
theorem Tryz.Builder_Extra_105:Builder.Extra Tryz.prog Tryz.lays105_ren:={
 sizeBuilder:=by kernel_rfl
 liesBuilder:=by kernel_rfl
 t5:=Tryz.underlying5
 a5:=Tryz.isAgg5
 z5:=Tryz.sizeOf5
 v5:=Tryz.zeroValue5
 infoByte:=by kernel_rfl
 cellsByte:=by kernel_rfl
 sizeByte:=by kernel_rfl
 neB5:=by decide }
open Go.RowKit Go.Lib in
theorem Tryz.strings_Repeat(s:ByteArray)(c:Nat)(w:World)(hc:c<=9223372036854775807)(hlen:s.size*c<=140737488355328): Calls Tryz.prog 235 #[.string s,.int .i64 c] w λe w'=>e=.returned (.string ⟨(Lib.repeatL s.data.toList c).toArray⟩)/\Below w.heap.size w w':=Any.strings_Repeat Tryz.lays105 Tryz.Builder_Extra_105 s c w hc hlen
end Go.Proofs
namespace Go.Proofs.YtjhobnjdfhkohaaGreatDoor.T
open Go.Proofs.Tryz
open Go.RowKit
theorem Jn(x:UInt8)(c:Nat):Lib.repeatL [x] c=List.replicate c x:=by
 induction c with
 |zero=>rfl
 |succ c ih=>simp[Lib.repeatL,List.replicate_succ]at ih⊢;exact ih
theorem mJ(x:UInt8)(c:Nat)(w:World)(hc:c<=1048576): Cl 235 #[.string ⟨#[x]⟩,.int .i64 c] w λev w'=>ev=.returned (.string (bt (List.replicate c x)))/\Bw w w':=by refine(Tryz.strings_Repeat ⟨#[x]⟩ c w (by omega) (by show 1*c<=_;omega)).mono ?_;rintro e w'⟨rfl,hb⟩;refine⟨?_,hb⟩;rw[show (⟨#[x]⟩:BA).data.toList=[x] from rfl,Jn];rfl
theorem b7(b o n v:Nat)(A X B:LU)(w:World)(hk:fe w b (A++X++B))(hA:A.length=o)(hX:X.length=n)(h0:0<n)(hv:v<262144)(hd:(cW v).length+1<=n)(h20:w.cell? ⟨21,7,none⟩=some (.int .u8 3)): Cl 262 #[.pointer (some ⟨b,0,none⟩),.agg #[.int .i64 (o:Nat),.int .i64 (n:Nat)],.int .i64 v] w λev w'=>ev=.returned (.tuple #[])/\Hid (fe w' b (A++bq v (n-1)++B))/\w.grownBy w' (some b):=by
 have hl:=hk.2;simp only[lA]at hl;have hn5:n<=512:=by omega
 have HK:=ab hk;have HA:=ab hA;have HX:=ab hX;obtain⟨W0,hW0⟩:=aq (w.alloc (.cells #[.int .i64 (o:Nat),.int .i64 (n:Nat)] 288));have hB0:=dw hW0;have q0:W0.cell? ⟨w.heap.size,0,none⟩=some (.int .i64 (o:Nat)):=by rw[hW0];exact cq 0 (hN _ _)
 have q1:W0.cell? ⟨w.heap.size,1,none⟩=some (.int .i64 (n:Nat)):=by rw[hW0];exact cq 1 (hN _ _)
 have hf:=Ke v W0 hv (cL hB0 h20);clear hk hA hX hl h20;go_enter func262,ntmps262;go_upto_region 1 with fail;rw[<-hW0];clear hW0;go_upto_region 2 with(go_at_call 276;refine hf.mono ?_;clear hf;rintro ev w1⟨ds,rfl,HDS,hb1⟩;have q0:=cL hb1 q0;have q1:=cL hb1 q1)
 have hdz:ds.size=(cW v).length:=by rw[zE,uh HDS]
 obtain⟨z,hz⟩:∃z:Nat,z=n-1-(cW v).length:=⟨_,rfl⟩
 have e1:(n:Int)-1-(ds.size:Int)=(z:Int):=by omega
 have hz5:z<=512:=by omega
 have HZ:=ab hz;have HDZ:=ab hdz;have hds5:ds.size<=512:=by omega
 have hB1:=hB0.trans (hb1.mono hB0.size);clear hz hd hdz;have hRp:=mJ 48 z w1 (by omega);go_upto_region 3 with(go_at_call 235;refine hRp.mono ?_;clear hRp;rintro ev w2⟨rfl,hb2⟩;have q0:=cL hb2 q0;have q1:=cL hb2 q1)
 obtain⟨zs,hzs⟩:=aq (bt (List.replicate z 48));rw[<-hzs];have hzz:zs.size=z:=by rw[hzs,bF,List.length_replicate]
 have hB2:=hB1.trans (hb2.mono hB1.size);have HT:Hid ((zs++ds++(⟨#[0]⟩:BA)).data.toList=bq v (n-1)):=ab (by rw[hzs,<-cF ds,uh HDS,show (⟨#[0]⟩:BA)=bt [0] from rfl,gn,gn,aK,bq,uh HZ]);have hsz:(zs++ds++(⟨#[0]⟩:BA)).size=n:=by have:=uh HZ;have:=uh HDZ;rw[ByteArray.size_append,ByteArray.size_append,hzz];show z+ds.size+1=n;omega
 have hS:=df b o n A X B (zs++ds++(⟨#[0]⟩:BA)) w2 ((uh HK).below hB2) (uh HA) (uh HX) (by omega) h0;have HSZ:=ab hsz;clear hzs hsz;go_wp2_with (go_at_call 264;refine hS.mono ?_;clear hS;rintro ev w3⟨rfl,HB3,hg3⟩)
 go_end0;refine⟨rfl,ab ?_,bN (dM hB2) hg3⟩;have h:=uh HB3;rw[uh HT,uh HSZ,List.drop_of_length_le (by rw[uh HX];exact nR _),List.append_nil]at h;exact h
structure Hd where
 nm:LU
 md:LU
 us:LU
 gr:LU
 sz:LU
 tm:LU
 ck:LU
 kd:LU
 lk:LU
 mg:LU
 nn:LU
 d1:LU
 d2:LU
 ah:LU
 en:LU
def dD(h:Hd):LU:=h.nm++(h.md++(h.us++(h.gr++(h.sz++(h.tm++(h.ck++(h.kd++(h.lk++(h.mg++(h.nn++(h.d1++(h.d2++(h.ah++(h.en))))))))))))))
structure da(h:Hd):Prop where
 nm:h.nm.length=100
 md:h.md.length=8
 us:h.us.length=8
 gr:h.gr.length=8
 sz:h.sz.length=12
 tm:h.tm.length=12
 ck:h.ck.length=8
 kd:h.kd.length=1
 lk:h.lk.length=100
 mg:h.mg.length=8
 nn:h.nn.length=64
 d1:h.d1.length=8
 d2:h.d2.length=8
 ah:h.ah.length=155
 en:h.en.length=12
def hd0:Hd:=⟨List.replicate 100 0,List.replicate 8 0,List.replicate 8 0,List.replicate 8 0,List.replicate 12 0,List.replicate 12 0,List.replicate 8 0,List.replicate 1 0,List.replicate 100 0,List.replicate 8 0,List.replicate 64 0,List.replicate 8 0,List.replicate 8 0,List.replicate 155 0,List.replicate 12 0⟩
theorem qO:da hd0:=⟨rfl,rfl,rfl,rfl,rfl,rfl,rfl,rfl,rfl,rfl,rfl,rfl,rfl,rfl,rfl⟩
theorem K1:dD hd0=List.replicate 512 0:=by decide +kernel
theorem Gm(h:Hd)(x:LU):dD { h with nm:=x }=(([]:LU))++x++(h.md++h.us++h.gr++h.sz++h.tm++h.ck++h.kd++h.lk++h.mg++h.nn++h.d1++h.d2++h.ah++h.en):=by simp[dD,aA]
theorem Nj{h:Hd}(_:da h):(([]:LU)).length=0:=by simp[]
theorem Lu(h:Hd)(ok:da h)(s:BA)(b:Nat)(w:World)(hk:fe w b (dD h))(hs:s.size<=100): Cl 264 #[.pointer (some ⟨b,0,none⟩),.agg #[.int .i64 0,.int .i64 100],.string s] w λev w'=>ev=.returned (.tuple #[])/\Hid (fe w' b (dD { h with nm:=s.data.toList++h.nm.drop s.size }))/\w.grownBy w' (some b):=by rw[Gm];exact df b 0 100 _ h.nm _ s w (by rw[<-Gm];exact hk) (Nj ok) ok.nm hs (by omega)
theorem uH(h:Hd)(x:LU):dD { h with md:=x }=(h.nm)++x++(h.us++h.gr++h.sz++h.tm++h.ck++h.kd++h.lk++h.mg++h.nn++h.d1++h.d2++h.ah++h.en):=by simp[dD,aA]
theorem KB{h:Hd}(ok:da h):(h.nm).length=100:=by simp[ok.nm]
theorem NK(h:Hd)(ok:da h)(s:BA)(b:Nat)(w:World)(hk:fe w b (dD h))(hs:s.size<=8): Cl 264 #[.pointer (some ⟨b,0,none⟩),.agg #[.int .i64 100,.int .i64 8],.string s] w λev w'=>ev=.returned (.tuple #[])/\Hid (fe w' b (dD { h with md:=s.data.toList++h.md.drop s.size }))/\w.grownBy w' (some b):=by rw[uH];exact df b 100 8 _ h.md _ s w (by rw[<-uH];exact hk) (KB ok) ok.md hs (by omega)
theorem KR(h:Hd)(ok:da h)(v b:Nat)(w:World)(hk:fe w b (dD h))(hv:v<262144)(h20:w.cell? ⟨21,7,none⟩=some (.int .u8 3)): Cl 262 #[.pointer (some ⟨b,0,none⟩),.agg #[.int .i64 100,.int .i64 8],.int .i64 v] w λev w'=>ev=.returned (.tuple #[])/\Hid (fe w' b (dD { h with md:=bq v 7 }))/\w.grownBy w' (some b):=by rw[uH];exact b7 b 100 8 v _ h.md _ w (by rw[<-uH];exact hk) (KB ok) ok.md (by omega) hv (by have:=aW 5 v (by simpa using hv);omega) h20
theorem Ge(h:Hd)(x:LU):dD { h with us:=x }=(h.nm++h.md)++x++(h.gr++h.sz++h.tm++h.ck++h.kd++h.lk++h.mg++h.nn++h.d1++h.d2++h.ah++h.en):=by simp[dD,aA]
theorem MM{h:Hd}(ok:da h):(h.nm++h.md).length=108:=by simp[ok.nm,ok.md]
theorem KF(h:Hd)(ok:da h)(v b:Nat)(w:World)(hk:fe w b (dD h))(hv:v<262144)(h20:w.cell? ⟨21,7,none⟩=some (.int .u8 3)): Cl 262 #[.pointer (some ⟨b,0,none⟩),.agg #[.int .i64 108,.int .i64 8],.int .i64 v] w λev w'=>ev=.returned (.tuple #[])/\Hid (fe w' b (dD { h with us:=bq v 7 }))/\w.grownBy w' (some b):=by rw[Ge];exact b7 b 108 8 v _ h.us _ w (by rw[<-Ge];exact hk) (MM ok) ok.us (by omega) hv (by have:=aW 5 v (by simpa using hv);omega) h20
theorem ER(h:Hd)(x:LU):dD { h with gr:=x }=(h.nm++h.md++h.us)++x++(h.sz++h.tm++h.ck++h.kd++h.lk++h.mg++h.nn++h.d1++h.d2++h.ah++h.en):=by simp[dD,aA]
theorem MG{h:Hd}(ok:da h):(h.nm++h.md++h.us).length=116:=by simp[ok.nm,ok.md,ok.us]
theorem LP(h:Hd)(ok:da h)(v b:Nat)(w:World)(hk:fe w b (dD h))(hv:v<262144)(h20:w.cell? ⟨21,7,none⟩=some (.int .u8 3)): Cl 262 #[.pointer (some ⟨b,0,none⟩),.agg #[.int .i64 116,.int .i64 8],.int .i64 v] w λev w'=>ev=.returned (.tuple #[])/\Hid (fe w' b (dD { h with gr:=bq v 7 }))/\w.grownBy w' (some b):=by rw[ER];exact b7 b 116 8 v _ h.gr _ w (by rw[<-ER];exact hk) (MG ok) ok.gr (by omega) hv (by have:=aW 5 v (by simpa using hv);omega) h20
theorem Hm(h:Hd)(x:LU):dD { h with sz:=x }=(h.nm++h.md++h.us++h.gr)++x++(h.tm++h.ck++h.kd++h.lk++h.mg++h.nn++h.d1++h.d2++h.ah++h.en):=by simp[dD,aA]
theorem ME{h:Hd}(ok:da h):(h.nm++h.md++h.us++h.gr).length=124:=by simp[ok.nm,ok.md,ok.us,ok.gr]
theorem Ex(h:Hd)(ok:da h)(v b:Nat)(w:World)(hk:fe w b (dD h))(hv:v<262144)(h20:w.cell? ⟨21,7,none⟩=some (.int .u8 3)): Cl 262 #[.pointer (some ⟨b,0,none⟩),.agg #[.int .i64 124,.int .i64 12],.int .i64 v] w λev w'=>ev=.returned (.tuple #[])/\Hid (fe w' b (dD { h with sz:=bq v 11 }))/\w.grownBy w' (some b):=by rw[Hm];exact b7 b 124 12 v _ h.sz _ w (by rw[<-Hm];exact hk) (ME ok) ok.sz (by omega) hv (by have:=aW 5 v (by simpa using hv);omega) h20
theorem Gp(h:Hd)(x:LU):dD { h with tm:=x }=(h.nm++h.md++h.us++h.gr++h.sz)++x++(h.ck++h.kd++h.lk++h.mg++h.nn++h.d1++h.d2++h.ah++h.en):=by simp[dD,aA]
theorem MY{h:Hd}(ok:da h):(h.nm++h.md++h.us++h.gr++h.sz).length=136:=by simp[ok.nm,ok.md,ok.us,ok.gr,ok.sz]
theorem LB(h:Hd)(ok:da h)(v b:Nat)(w:World)(hk:fe w b (dD h))(hv:v<262144)(h20:w.cell? ⟨21,7,none⟩=some (.int .u8 3)): Cl 262 #[.pointer (some ⟨b,0,none⟩),.agg #[.int .i64 136,.int .i64 12],.int .i64 v] w λev w'=>ev=.returned (.tuple #[])/\Hid (fe w' b (dD { h with tm:=bq v 11 }))/\w.grownBy w' (some b):=by rw[Gp];exact b7 b 136 12 v _ h.tm _ w (by rw[<-Gp];exact hk) (MY ok) ok.tm (by omega) hv (by have:=aW 5 v (by simpa using hv);omega) h20
theorem Es(h:Hd)(x:LU):dD { h with ck:=x }=(h.nm++h.md++h.us++h.gr++h.sz++h.tm)++x++(h.kd++h.lk++h.mg++h.nn++h.d1++h.d2++h.ah++h.en):=by simp[dD,aA]
theorem Nb{h:Hd}(ok:da h):(h.nm++h.md++h.us++h.gr++h.sz++h.tm).length=148:=by simp[ok.nm,ok.md,ok.us,ok.gr,ok.sz,ok.tm]
theorem Mb(h:Hd)(ok:da h)(s:BA)(b:Nat)(w:World)(hk:fe w b (dD h))(hs:s.size<=8): Cl 264 #[.pointer (some ⟨b,0,none⟩),.agg #[.int .i64 148,.int .i64 8],.string s] w λev w'=>ev=.returned (.tuple #[])/\Hid (fe w' b (dD { h with ck:=s.data.toList++h.ck.drop s.size }))/\w.grownBy w' (some b):=by rw[Es];exact df b 148 8 _ h.ck _ s w (by rw[<-Es];exact hk) (Nb ok) ok.ck hs (by omega)
theorem FA(h:Hd)(x:LU):dD { h with kd:=x }=(h.nm++h.md++h.us++h.gr++h.sz++h.tm++h.ck)++x++(h.lk++h.mg++h.nn++h.d1++h.d2++h.ah++h.en):=by simp[dD,aA]
theorem My{h:Hd}(ok:da h):(h.nm++h.md++h.us++h.gr++h.sz++h.tm++h.ck).length=156:=by simp[ok.nm,ok.md,ok.us,ok.gr,ok.sz,ok.tm,ok.ck]
theorem vF(h:Hd)(ok:da h)(s:BA)(b:Nat)(w:World)(hk:fe w b (dD h))(hs:s.size<=1): Cl 264 #[.pointer (some ⟨b,0,none⟩),.agg #[.int .i64 156,.int .i64 1],.string s] w λev w'=>ev=.returned (.tuple #[])/\Hid (fe w' b (dD { h with kd:=s.data.toList++h.kd.drop s.size }))/\w.grownBy w' (some b):=by rw[FA];exact df b 156 1 _ h.kd _ s w (by rw[<-FA];exact hk) (My ok) ok.kd hs (by omega)
theorem GC(h:Hd)(x:LU):dD { h with lk:=x }=(h.nm++h.md++h.us++h.gr++h.sz++h.tm++h.ck++h.kd)++x++(h.mg++h.nn++h.d1++h.d2++h.ah++h.en):=by simp[dD,aA]
theorem Mx{h:Hd}(ok:da h):(h.nm++h.md++h.us++h.gr++h.sz++h.tm++h.ck++h.kd).length=157:=by simp[ok.nm,ok.md,ok.us,ok.gr,ok.sz,ok.tm,ok.ck,ok.kd]
theorem Me(h:Hd)(ok:da h)(s:BA)(b:Nat)(w:World)(hk:fe w b (dD h))(hs:s.size<=100): Cl 264 #[.pointer (some ⟨b,0,none⟩),.agg #[.int .i64 157,.int .i64 100],.string s] w λev w'=>ev=.returned (.tuple #[])/\Hid (fe w' b (dD { h with lk:=s.data.toList++h.lk.drop s.size }))/\w.grownBy w' (some b):=by rw[GC];exact df b 157 100 _ h.lk _ s w (by rw[<-GC];exact hk) (Mx ok) ok.lk hs (by omega)
theorem FX(h:Hd)(x:LU):dD { h with mg:=x }=(h.nm++h.md++h.us++h.gr++h.sz++h.tm++h.ck++h.kd++h.lk)++x++(h.nn++h.d1++h.d2++h.ah++h.en):=by simp[dD,aA]
theorem MJ{h:Hd}(ok:da h):(h.nm++h.md++h.us++h.gr++h.sz++h.tm++h.ck++h.kd++h.lk).length=257:=by simp[ok.nm,ok.md,ok.us,ok.gr,ok.sz,ok.tm,ok.ck,ok.kd,ok.lk]
theorem K7(h:Hd)(ok:da h)(s:BA)(b:Nat)(w:World)(hk:fe w b (dD h))(hs:s.size<=8): Cl 264 #[.pointer (some ⟨b,0,none⟩),.agg #[.int .i64 257,.int .i64 8],.string s] w λev w'=>ev=.returned (.tuple #[])/\Hid (fe w' b (dD { h with mg:=s.data.toList++h.mg.drop s.size }))/\w.grownBy w' (some b):=by rw[FX];exact df b 257 8 _ h.mg _ s w (by rw[<-FX];exact hk) (MJ ok) ok.mg hs (by omega)
theorem G8(h:Hd)(x:LU):dD { h with d1:=x }=(h.nm++h.md++h.us++h.gr++h.sz++h.tm++h.ck++h.kd++h.lk++h.mg++h.nn)++x++(h.d2++h.ah++h.en):=by simp[dD,aA]
theorem MU{h:Hd}(ok:da h):(h.nm++h.md++h.us++h.gr++h.sz++h.tm++h.ck++h.kd++h.lk++h.mg++h.nn).length=329:=by simp[ok.nm,ok.md,ok.us,ok.gr,ok.sz,ok.tm,ok.ck,ok.kd,ok.lk,ok.mg,ok.nn]
theorem LI(h:Hd)(ok:da h)(v b:Nat)(w:World)(hk:fe w b (dD h))(hv:v<262144)(h20:w.cell? ⟨21,7,none⟩=some (.int .u8 3)): Cl 262 #[.pointer (some ⟨b,0,none⟩),.agg #[.int .i64 329,.int .i64 8],.int .i64 v] w λev w'=>ev=.returned (.tuple #[])/\Hid (fe w' b (dD { h with d1:=bq v 7 }))/\w.grownBy w' (some b):=by rw[G8];exact b7 b 329 8 v _ h.d1 _ w (by rw[<-G8];exact hk) (MU ok) ok.d1 (by omega) hv (by have:=aW 5 v (by simpa using hv);omega) h20
theorem EX(h:Hd)(x:LU):dD { h with d2:=x }=(h.nm++h.md++h.us++h.gr++h.sz++h.tm++h.ck++h.kd++h.lk++h.mg++h.nn++h.d1)++x++(h.ah++h.en):=by simp[dD,aA]
theorem MH{h:Hd}(ok:da h):(h.nm++h.md++h.us++h.gr++h.sz++h.tm++h.ck++h.kd++h.lk++h.mg++h.nn++h.d1).length=337:=by simp[ok.nm,ok.md,ok.us,ok.gr,ok.sz,ok.tm,ok.ck,ok.kd,ok.lk,ok.mg,ok.nn,ok.d1]
theorem Mp(h:Hd)(ok:da h)(v b:Nat)(w:World)(hk:fe w b (dD h))(hv:v<262144)(h20:w.cell? ⟨21,7,none⟩=some (.int .u8 3)): Cl 262 #[.pointer (some ⟨b,0,none⟩),.agg #[.int .i64 337,.int .i64 8],.int .i64 v] w λev w'=>ev=.returned (.tuple #[])/\Hid (fe w' b (dD { h with d2:=bq v 7 }))/\w.grownBy w' (some b):=by rw[EX];exact b7 b 337 8 v _ h.d2 _ w (by rw[<-EX];exact hk) (MH ok) ok.d2 (by omega) hv (by have:=aW 5 v (by simpa using hv);omega) h20
theorem EA(h:Hd)(x:LU):dD { h with ah:=x }=(h.nm++h.md++h.us++h.gr++h.sz++h.tm++h.ck++h.kd++h.lk++h.mg++h.nn++h.d1++h.d2)++x++(h.en):=by simp[dD,aA]
theorem Mz{h:Hd}(ok:da h):(h.nm++h.md++h.us++h.gr++h.sz++h.tm++h.ck++h.kd++h.lk++h.mg++h.nn++h.d1++h.d2).length=345:=by simp[ok.nm,ok.md,ok.us,ok.gr,ok.sz,ok.tm,ok.ck,ok.kd,ok.lk,ok.mg,ok.nn,ok.d1,ok.d2]
theorem Lt(h:Hd)(ok:da h)(s:BA)(b:Nat)(w:World)(hk:fe w b (dD h))(hs:s.size<=155): Cl 264 #[.pointer (some ⟨b,0,none⟩),.agg #[.int .i64 345,.int .i64 155],.string s] w λev w'=>ev=.returned (.tuple #[])/\Hid (fe w' b (dD { h with ah:=s.data.toList++h.ah.drop s.size }))/\w.grownBy w' (some b):=by rw[EA];exact df b 345 155 _ h.ah _ s w (by rw[<-EA];exact hk) (Mz ok) ok.ah hs (by omega)
end Go.Proofs.YtjhobnjdfhkohaaGreatDoor.T
