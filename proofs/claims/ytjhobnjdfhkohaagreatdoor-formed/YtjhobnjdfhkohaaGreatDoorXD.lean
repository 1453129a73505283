import Derived.Test.YtjhobnjdfhkohaaGreatDoorXC
import Derived.Carry
import Derived.Deep.RegionHeld3
set_option linter.all false
set_option maxHeartbeats 2000000
set_option maxRecDepth 100000
namespace Go.Proofs.YtjhobnjdfhkohaaGreatDoor.T
open Go.Proofs.Tryz
open Go.RowKit
theorem lP(a b:LU):eJ (a++47::b)=eJ a++eJ b:=by
 induction a with
 |nil=>simp[eJ]
 |cons c r ih=>
  have hne:=mp r;rw[List.cons_append,eJ,ih,eJ];split
  .rfl
  cases h2:eJ r with
  |nil=>exact absurd h2 hne
  |cons x y=>simp
theorem oy{b:LU}(h:47∉b):eJ b=[b]:=by
 induction b with
 |nil=>rfl
 |cons c r ih=>simp only[mC,not_or]at h;rw[eJ,if_neg (Ne.symm h.1),ih h.2];rfl
def al(l:LU):LU:=Lib.join ((eJ l).dropLast) [47]
def ai(l:LU):LU:=(eJ l).getLastD []
theorem eN{b:LU}(h:47∉b):al b=[]/\ai b=b:=by rw[al,ai,oy h];exact⟨rfl,rfl⟩
theorem eV{a b:LU}(h:47∉b):al (a++47::b)=a/\ai (a++47::b)=b:=by rw[al,ai,lP,oy h];simp[kD]
theorem Le{a b c d:BA}(h1:a=c)(h2:b=d):Ending.returned (.tuple #[.string a,.string b])=.returned (.tuple #[.string c,.string d]):=by rw[h1,h2]
theorem uA(s:BA)(j:Nat)(hj:j<s.size):s.data[j]! = s.data.toList[j]'(by rw[<-zE];exact hj):=by have h:=hj;rw[getElem!_pos s.data j h];simp
theorem MA(s:BA):(Lib.lastIndexByte s 47=-1/\al s.data.toList=[]/\ai s.data.toList=s.data.toList)\/(∃i:Nat,i<s.size/\Lib.lastIndexByte s 47=i/\al s.data.toList=s.data.toList.take i/\ai s.data.toList=s.data.toList.drop (i+1)):=by
 have hl:=zE s;rcases Lib.lastIndexByte_spec s 47 with⟨h1,h2⟩|⟨i,hi,h1,h2,h3⟩
 .refine .inl ⟨h1,?_⟩;refine eN λhm=>?_;obtain⟨j,hj,e⟩:=List.getElem_of_mem hm;have:=h2 j (by omega);rw[uA s j (by omega),e]at this;exact this rfl
 refine .inr ⟨i,hi,h1,?_⟩;have hc:s.data.toList[i]'(by omega)=47:=by rw[uA s i hi]at h2;exact UInt8.toNat_inj.1 (by have:(47:UInt8).toNat=47:=rfl;omega)
 have hsp:s.data.toList=s.data.toList.take i++47::s.data.toList.drop (i+1):=by rw[<-hc,<-List.drop_eq_getElem_cons,List.take_append_drop]
 have hn:(47:UInt8)∉s.data.toList.drop (i+1):=λhm=>by obtain⟨j,hj,e⟩:=List.getElem_of_mem hm;rw[List.length_drop]at hj;rw[List.getElem_drop]at e;have:=h3 (i+1+j) (by omega) (by omega);rw[uA s _ (by omega),e]at this;exact this rfl
 have:=eV (a:=s.data.toList.take i) hn;rw[<-hsp]at this;exact this
theorem eE(s:BA)(w:World)(hs:s.size<=1073741824): Cl 100 #[.string s] w λe w'=>∃d n:BA,e=.returned (.tuple #[.string d,.string n])/\Hid (d.data.toList=al s.data.toList)/\Hid (n.data.toList=ai s.data.toList)/\Bw w w':=by
 have hLI:=λw:World=>Tryz.strings_LastIndex_one s ⟨#[47]⟩ rfl (by omega) w;rcases MA s with⟨h1,h2,h3⟩|⟨i,hi,h1,h2,h3⟩
 .have HR:=ab (And.intro h2 h3);have hz:Lib.lastIndexByte s (((⟨#[47]⟩:BA)[0]'(by decide)).toNat:Int)=-1:=h1;simp only[hz]at hLI;clear h1 h2 h3 hz;go_enter func100,ntmps100;go_wp2_with (go_at_call 127;refine(hLI _).mono ?_;rintro ev w'⟨rfl,hw⟩;obtain rfl:=hw.symm)
  go_ret2;exact⟨bs [],s,Le rfl rfl,ab (by rw[(uh HR).1];rfl),ab (uh HR).2.symm,bR _ _⟩
 have HR:=ab (And.intro h2 h3);have hz:Lib.lastIndexByte s (((⟨#[47]⟩:BA)[0]'(by decide)).toNat:Int)=(i:Int):=h1;simp only[hz]at hLI;have i0:(0:Int)<=(i:Int):=by omega
 have i1:(i:Int)<=(s.size:Int):=by omega
 have i2:(i:Int)+1<=(s.size:Int):=by omega
 have i3:(0:Int)<=(i:Int)+1:=by omega
 clear h1 h2 h3 hz;go_enter func100,ntmps100;go_wp2_with (go_at_call 127;refine(hLI _).mono ?_;rintro ev w'⟨rfl,hw⟩;obtain rfl:=hw.symm)
 go_quiet (fail)
 go_wp2_with fail
 go_ret2;refine⟨_,_,Le rfl rfl,ab ?_,ab ?_,below_drewN (bR _ _) _⟩
 .rw[Lib.extract_data,(uh HR).1];simp
 rw[Lib.extract_data,(uh HR).2,List.take_of_length_le (by rw[List.length_drop,<-zE];omega)]
def fB(w:World)(ao:OA)(es:List aj):Prop:=∀k e,es[k]?=some e->∃g o,ao=some ⟨g,o,none⟩/\w.cell? ⟨g,o+k*4,none⟩=some (.string e.path)/\w.cell? ⟨g,o+k*4+1,none⟩=some (.int .i64 e.kind)/\w.cell? ⟨g,o+k*4+2,none⟩=some (.int .i64 e.mode)/\w.cell? ⟨g,o+k*4+3,none⟩=some (.string e.data)
theorem fB.below{w w':World}{ao:OA}{es:List aj}(h:fB w ao es)(hb:Bw w w'):fB w' ao es:=λk e hk=>by obtain⟨g,o,h1,h2,h3,h4,h5⟩:=h k e hk;exact⟨g,o,h1,cL hb h2,cL hb h3,cL hb h4,cL hb h5⟩
def bd(es:List aj)(p:LU):Int:=if p=[] then 1 else match es.find? (λe=>e.path.data.toList==p)with
 |some e=>e.kind
 |none=>0
theorem zz{es:List aj}{p:LU}{i:Nat}{e:aj}(h1:es[i]?=some e)(h2:e.path.data.toList=p)(h3:∀e'∈es.take i,e'.path.data.toList≠p):es.find? (λe=>e.path.data.toList==p)=some e:=by
 have hsp:es=es.take i++e::es.drop (i+1):=by rw[<-bh h1,List.take_append_drop]
 rw[hsp,List.find?_append,List.find?_eq_none.2 (by intro e' he';simpa using h3 e' he')];simp[h2]
theorem Ct{es:List aj}{p:LU}(hp:p≠[]){i:Nat}{e:aj}(h1:es[i]?=some e)(h2:e.path.data.toList=p)(h3:∀e'∈es.take i,e'.path.data.toList≠p):bd es p=e.kind:=by rw[bd,if_neg hp,zz h1 h2 h3]
def ix(es:List aj):Prop:=∀e∈es,e.path.size<=1048576/\e.data.size<=1048576
def fE(es:List aj)(i:Nat):Bool:=match es[i]? with
 |none=>false
 |some e=>decide (i<40)&&bK e&&(decide (i=0)||match es[i-1]? with
  |none=>false
  |some d=>iH (prt d.path.data.toList) (prt e.path.data.toList))&&decide (bd (es.take i) (al e.path.data.toList)=1)
def cG(es:List aj)(r:Int):Prop:=(r=-1/\∀i,i<es.length->fE es i=true)\/∃i:Nat,r=i/\i<es.length/\fE es i=false/\∀j,j<i->fE es j=true
theorem jY{es:List aj}{r s:Int}(h1:cG es r)(h2:cG es s):r=s:=by
 rcases h1 with⟨rfl,a1⟩|⟨i,rfl,a1,a2,a3⟩<;>rcases h2 with⟨rfl,b1⟩|⟨j,rfl,b1,b2,b3⟩
 .rfl
 .rw[a1 j b1]at b2;cases b2
 .rw[b1 i a1]at a2;cases a2
 rcases Nat.lt_trichotomy i j with h|h|h
 .rw[b3 i h]at a2;cases a2
 .rw[h]
 rw[a3 j h]at b2;cases b2
theorem iN{es:List aj}{i:Nat}(hi:i<es.length)(h1:fE es i=false)(h2:∀j,j<i->fE es j=true):cG es i:=.inr ⟨i,rfl,hi,h1,h2⟩
theorem M2{es:List aj}{i:Nat}(h:fE es i=true):i<40:=by
 unfold fE at h;split at h
 .cases h
 simp only[bA,decide_eq_true_eq]at h;exact h.1.1.1
theorem I3{es:List aj}{i:Nat}{e:aj}(h:es[i]?=some e):fE es i=(decide (i<40)&&bK e&&(decide (i=0)||match es[i-1]? with
 |none=>false
 |some d=>iH (prt d.path.data.toList) (prt e.path.data.toList))&&decide (bd (es.take i) (al e.path.data.toList)=1)):=by
 unfold fE;rw[h]
def Ma(es:List aj)(i:Nat):Bool:=match es[i]? with
 |none=>false
 |some e=>bK e&&(decide (i=0)||match es[i-1]? with
  |none=>false
  |some d=>iH (prt d.path.data.toList) (prt e.path.data.toList))&&decide (bd (es.take i) (al e.path.data.toList)=1)
theorem Hv{es:List aj}{i:Nat}(h:fE es i=true):Ma es i=true:=by
 unfold fE at h;unfold Ma;split at h
 .cases h
 simp only[bA]at h⊢;exact⟨⟨h.1.1.2,h.1.2⟩,h.2⟩
theorem Fo{es:List aj}{i:Nat}{e:aj}(h:es[i]?=some e):Ma es i=(bK e&&(decide (i=0)||match es[i-1]? with
 |none=>false
 |some d=>iH (prt d.path.data.toList) (prt e.path.data.toList))&&decide (bd (es.take i) (al e.path.data.toList)=1)):=by
 unfold Ma;rw[h]
theorem GS{es:List aj}{k:Nat}(h:∀j,j<k->fE es j=true):k<=40:=by
 cases k with
 |zero=>omega
 |succ k=>have:=M2 (h k (by omega));omega
attribute [local go_sem] cJ dP
end Go.Proofs.YtjhobnjdfhkohaaGreatDoor.T
namespace Go.Proofs.YtjhobnjdfhkohaaGreatDoor.T
open Go.Proofs.Tryz
open Go.RowKit
theorem ga:∀{a b c:LU},Op.bytesLess a b=true->Op.bytesLess b c=true->Op.bytesLess a c=true
 |_,[],_,h,_=>by simp[Op.bytesLess]at h
 |_,_::_,[],_,h=>by simp[Op.bytesLess]at h
 |[],_::_,_::_,_,_=>rfl
 |x::a,y::b,z::c,h1,h2=>by
  simp only[Op.bytesLess,bO,decide_eq_true_eq,bA,beq_iff_eq]at h1 h2⊢;rcases h1 with h1|⟨rfl,h1⟩
  .rcases h2 with h2|⟨rfl,h2⟩
   .exact .inl (UInt8.lt_trans h1 h2)
   exact .inl h1
  rcases h2 with h2|⟨rfl,h2⟩
  .exact .inl h2
  exact .inr ⟨rfl,ga h1 h2⟩
theorem jU(a:LU):Op.bytesLess a a=false:=by
 induction a with
 |nil=>rfl
 |cons c r ih=>simp[Op.bytesLess,ih]
theorem p6(x:List LU):iH x x=false:=by
 induction x with
 |nil=>rfl
 |cons c r ih=>simp[iH,ih,jU]
theorem lK:∀{a b c:List LU},iH a b=true->iH b c=true->iH a c=true
 |_,[],_,h,_=>by simp[iH]at h
 |_,_::_,[],_,h=>by simp[iH]at h
 |[],_::_,_::_,_,_=>rfl
 |x::a,y::b,z::c,h1,h2=>by
  simp only[iH,bO,bA,beq_iff_eq]at h1 h2⊢;rcases h1 with h1|⟨rfl,h1⟩
  .rcases h2 with h2|⟨rfl,h2⟩
   .exact .inl (ga h1 h2)
   exact .inl h1
  rcases h2 with h2|⟨rfl,h2⟩
  .exact .inl h2
  exact .inr ⟨rfl,lK h1 h2⟩
theorem qU(x:List LU)(a b:LU):iH (x++[a]) (x++[b])=Op.bytesLess a b:=by
 induction x with
 |nil=>simp[iH]
 |cons c r ih=>simp[iH,ih,jU]
theorem je{x:LU}(h:gN x=true):47∉x/\x≠[]:=by simp only[gN,bA,Bool.not_eq_true']at h;refine⟨λhm=>?_,(oV h.1).1⟩;have:=List.all_eq_true.1 h.2 47 hm;revert this;decide
theorem mO{xs:List LU}(hne:xs≠[])(h:∀x∈xs,47∉x):eJ (Lib.join xs [47])=xs:=by
 induction xs with
 |nil=>exact absurd rfl hne
 |cons x r ih=>
  cases r with
  |nil=>rw[Lib.join_one];exact oy (h x (by simp))
  |cons y r=>
   have e:Lib.join (x::y::r) [47]=x++47::Lib.join (y::r) [47]:=by rw[Lib.join_cons,Lib.join_cons,Lib.joinTail];simp[Lib.joinTail]
   rw[e,lP,oy (h x (by simp)),ih (by simp) (λz hz=>h z (by simp[hz]))];rfl
theorem vA{xs:List LU}(hne:xs≠[])(h:∀x∈xs,x≠[]):Lib.join xs [47]≠[]:=by
 cases xs with
 |nil=>exact absurd rfl hne
 |cons x r=>rw[Lib.join_cons];intro e;exact h x (by simp) (List.append_eq_nil_iff.1 e).1
theorem qX{p:LU}(hp:isP p=true)(h0:p≠[]):prt p=prt (al p)++[ai p]:=by
 have hall:∀x∈eJ p,gN x=true:=by simp only[isP,bA]at hp;rw[prt_ne h0]at hp;exact λx hx=>List.all_eq_true.1 hp.2 x hx
 have hne:=mp p;have hsp:eJ p=(eJ p).dropLast++[ai p]:=by rw[ai,List.getLastD_eq_getLast?,List.getLast?_eq_some_getLast hne];exact(List.dropLast_concat_getLast hne).symm
 have hd:prt (al p)=(eJ p).dropLast:=by
  by_cases hz:(eJ p).dropLast=[]
  .rw[al,hz];rfl
  have hm:∀x∈(eJ p).dropLast,gN x=true:=λx hx=>hall x (List.dropLast_subset _ hx);have h1:al p≠[]:=vA hz (λx hx=>(je (hm x hx)).2);rw[prt_ne h1,al,mO hz (λx hx=>(je (hm x hx)).1)]
 rw[prt_ne h0,hd,<-hsp]
structure IC(es:List aj)(i:Nat)(e:aj):Prop where
 ent:bK e=true
 ord:i=0\/∃d,es[i-1]?=some d/\iH (prt d.path.data.toList) (prt e.path.data.toList)=true
 dir:bd (es.take i) (al e.path.data.toList)=1
theorem dj{es:List aj}{i:Nat}{e:aj}(he:es[i]?=some e)(h:Ma es i=true):IC es i e:=by
 rw[Fo he]at h;simp only[bA,decide_eq_true_eq,bO]at h;refine⟨h.1.1,?_,h.2⟩;rcases h.1.2 with h|h
 .exact .inl h
 right;cases hd:es[i-1]? with
 |none=>rw[hd]at h;cases h
 |some d=>rw[hd]at h;exact⟨d,rfl,h⟩
theorem aP{e:aj}(h:bK e=true):e.path.data.toList≠[]/\isP e.path.data.toList=true/\bc e=true:=by simp only[bK,bA,bne_iff_ne]at h;exact⟨h.1.1,h.1.2,h.2⟩
def cX(es:List aj)(n:Nat):Prop:=∀i,i<n->Ma es i=true
theorem pg{es:List aj}{n:Nat}(h:cX es n):∀(j i:Nat) (d e:aj),i<j->j<n->es[i]?=some d->es[j]?=some e->iH (prt d.path.data.toList) (prt e.path.data.toList)=true
 |0,_,_,_,hij,_,_,_=>by omega
 |j+1,i,d,e,hij,hjn,hd,he=>by
  rcases(dj he (h (j+1) hjn)).ord with h0|⟨c,hc,hl⟩
  .omega
  rw[Nat.add_sub_cancel]at hc;by_cases hi:i=j
  .subst hi;rw[hd]at hc;cases hc;exact hl
  exact lK (pg h j i d c (by omega) (by omega) hd hc) hl
theorem kQ{es:List aj}{n i j:Nat}{d e:aj}(h:cX es n)(hi:i<n)(hj:j<n)(hd:es[i]?=some d)(he:es[j]?=some e)(hp:d.path.data.toList=e.path.data.toList):i=j:=by
 rcases Nat.lt_trichotomy i j with hl|hl|hl
 .have:=pg h j i d e hl hj hd he;rw[hp,p6]at this;cases this
 .exact hl
 have:=pg h i j e d hl hi he hd;rw[hp,p6]at this;cases this
def de:aj:=⟨⟨#[]⟩,1,493,⟨#[]⟩⟩
theorem jA{es:List aj}{p:LU}(h:bd es p=1)(hp:p≠[]):∃e∈es,e.path.data.toList=p/\e.kind=1:=by
 rw[bd,if_neg hp]at h;cases hf:es.find? (λe=>e.path.data.toList==p)with
 |none=>rw[hf]at h;cases h
 |some e=>rw[hf]at h;exact⟨e,List.mem_of_find?_eq_some hf,by simpa using List.find?_some hf,h⟩
theorem Cn{es:List aj}{j k:Nat}{e c:aj}(h:cX es es.length)(hj:(de::es)[j]?=some e)(hc:es[k]?=some c)(hd:al c.path.data.toList=e.path.data.toList):j<k+1:=by
 cases j with
 |zero=>omega
 |succ i=>
  rw[List.getElem?_cons_succ]at hj;rcases Nat.lt_or_ge i k with hik|hik
  .omega
  exfalso;have hk:=(gL hc)
  have hin:=(gL hj)
  have hp:=dj hc (h k hk);have e0:=(aP (dj hj (h i hin)).ent).1;rw[<-hd]at e0;obtain⟨e',hm,hp',_⟩:=jA hp.dir e0;obtain⟨q,hq,hqe⟩:=List.getElem_of_mem hm;rw[List.length_take]at hq;rw[List.getElem_take]at hqe;have hq':es[q]?=some e':=by rw[<-hqe];exact gG (by omega)
  have:=kQ h (by omega) hin hq' hj (by rw[hp',hd]);omega
def pI(es:List aj)(p:LU):List aj:=es.filter λk=>al k.path.data.toList==p
def Deep(es:List aj)(f:Nat)(e:aj):Prop:=∃j,(de::es)[j]?=some e/\es.length<j+f
theorem lL(es:List aj):Deep es (es.length+1) de:=⟨0,rfl,by omega⟩
theorem nf{es:List aj}{f:Nat}{e c:aj}(h:cX es es.length)(hd:Deep es (f+1) e)(hc:c∈pI es e.path.data.toList):Deep es f c:=by
 obtain⟨j,hj,hl⟩:=hd;rw[pI,List.mem_filter]at hc;obtain⟨k,hk,hke⟩:=List.getElem_of_mem hc.1;have hk':es[k]?=some c:=by rw[<-hke];exact gG hk
 have:=Cn h hj hk' (by simpa using hc.2);exact⟨k+1,by rw[List.getElem?_cons_succ];exact hk',by omega⟩
theorem nV{es:List aj}{f:Nat}{e:aj}(hd:Deep es f e):f≠0:=by
 obtain⟨j,hj,hl⟩:=hd;have:=(gL hj)
 simp at this;omega
theorem dG{p:LU}(h:47∈p):∃a b,p=a++47::b/\47∉b:=by
 induction p with
 |nil=>simp at h
 |cons c r ih=>
  by_cases hr:47∈r
  .obtain⟨a,b,rfl,hb⟩:=ih hr;exact⟨c::a,b,by simp,hb⟩
  simp only[mC,hr,or_false]at h;subst h;exact⟨[],r,by simp,hr⟩
theorem fQ(p:LU):(ai p).length<=p.length:=by
 by_cases h:47∈p
 .obtain⟨a,b,rfl,hb⟩:=dG h;rw[(eV hb).2];simp;omega
 rw[(eN h).2];exact nR _
structure F9(es:List aj):Prop where
 ok:cX es es.length
 len:es.length<=40
 small:ix es
structure jo(es:List aj):Prop where
 ok:cX es es.length
 len:es.length<=600
 small:ix es
theorem F9.g{es:List aj}(h:F9 es):jo es:=⟨h.ok,by have:=h.len;omega,h.small⟩
theorem F9.path{es:List aj}(h:F9 es){e:aj}(he:e∈es):e.path.data.toList≠[]/\isP e.path.data.toList=true/\bc e=true:=by obtain⟨k,hk,rfl⟩:=List.getElem_of_mem he;exact aP (dj (gG hk) (h.ok k hk)).ent
theorem De{e:aj}(h:bc e=true):0<=e.mode/\e.mode<=511:=by
 unfold bc at h;split at h
 .simp only[bA,ci,decide_eq_true_eq]at h;exact h.1
 split at h
 .simp only[bA,ci,decide_eq_true_eq]at h;exact h.1
 split at h
 .simp only[bA,decide_eq_true_eq]at h;omega
 cases h
structure One(e:aj):Prop where
 mode:0<=e.mode/\e.mode<=511
 path:e.path.size<=1048576
 data:e.data.size<=1048576
theorem IX{es:List aj}(h:cG es (-1))(hs:ix es):F9 es:=by
 rcases h with⟨_,h⟩|⟨i,hi,_⟩
 .exact⟨λi hi=>Hv (h i hi),GS h,hs⟩
 omega
theorem tR{e:aj}(h:bc e=true):e.kind=1\/e.kind=2\/e.kind=3:=by
 unfold bc at h;split at h
 .rename_i h1;exact .inl (by simpa using h1)
 split at h
 .rename_i h1;exact .inr (.inl (by simpa using h1))
 split at h
 .rename_i h1;exact .inr (.inr (by simpa using h1))
 cases h
end Go.Proofs.YtjhobnjdfhkohaaGreatDoor.T
namespace Go.Proofs.YtjhobnjdfhkohaaGreatDoor.T
open Go.Proofs.Tryz
open Go.RowKit Go.Maps
def RK(v:Value):Option (DataW Unit×List MemPlace):=match v with
 |.pointer (some ⟨b,0,none⟩)=>some (.lit (.int .i64 (b:Int)),[])
 |_=>none
theorem L9{v:Value}{y:DataW Unit×List MemPlace}(h:RK v=some y):∃b:Nat,v=.pointer (some ⟨b,0,none⟩)/\y.1=.lit (.int .i64 (b:Int)):=by
 unfold RK at h;split at h
 .rename_i b;cases h;exact⟨b,rfl,rfl⟩
 cases h
def DK(L:List (LU×Nat)):DataW Unit:=.map (L.map λp=>(Lit.string p.1,DataW.lit (.int .i64 (p.2:Int))))
theorem lF:∀a b:LU,bytesBefore a b=Op.bytesLess a b
 |[],[]=>rfl
 |_::_,[]=>rfl
 |[],_::_=>rfl
 |a::x,b::y=>by simp[bytesBefore,Op.bytesLess,lF x y]
theorem rC(x:Lit×DataW Unit):∀l:List (Lit×DataW Unit),(∀y∈l,x.1.before y.1=false)->DataW.insert x l=l++[x]
 |[],_=>rfl
 |y::r,h=>by rw[DataW.insert,h y (by simp),if_neg (by simp),rC x r (λz hz=>h z (by simp[hz]))];rfl
theorem m8{a b:LU}(h:Op.bytesLess a b=true):Op.bytesLess b a=false:=by
 cases h2:Op.bytesLess b a
 .rfl
 have:=ga h h2;rw[jU]at this;cases this
theorem EI{L:List (LU×Nat)}{x:LU}{b:Nat}(h:∀p∈L,Op.bytesLess p.1 x=true):(DK L).put (.string x) (.lit (.int .i64 (b:Int)))=DK (L++[(x,b)]):=by
 have hf:∀p∈(L.map λp=>(Lit.string p.1,DataW.lit (H:=Unit) (.int .i64 (p.2:Int)))),(!p.1.sameKey (Lit.string x))=true:=by intro p hp;obtain⟨q,hq,rfl⟩:=List.mem_map.1 hp;have h1:=xV (h q hq);simpa[Lit.sameKey]using h1
 rw[DK,DK,DataW.put,List.filter_eq_self.2 hf,rC,List.map_append]
 .rfl
 intro p hp;obtain⟨q,hq,rfl⟩:=List.mem_map.1 hp;show bytesBefore x q.1=false;rw[lF];exact m8 (h q hq)
def KM(w:World)(b n:Nat)(L:List (LU×Nat)):Prop:=w.ownsMap prog 9 RK b n (DK L)
theorem yn(L:List (LU×Nat))(x:LU)(zd:DataW Unit):(DK L).atKey (.string x) zd=match L.find? (λp=>p.1==x)with|some p=>.lit (.int .i64 (p.2:Int))|none=>zd:=by
 induction L with
 |nil=>rfl
 |cons p r ih=>
  simp only[DK,DataW.atKey,List.map_cons,List.find?_cons]at ih⊢;by_cases h:p.1=x
  .subst h;simp[Lit.sameKey]
  have h1:(Lit.string p.1).sameKey (Lit.string x)=false:=by simp[Lit.sameKey,h]
  have h2:(p.1==x)=false:=by simp[h]
  rw[h1,h2];exact ih
theorem KM.look{w:World}{b n:Nat}{L:List (LU×Nat)}(h:KM w b n L)(s:BA)(hs:s.size<=1073741824)(c:Bool): ((Instr.lookup 170 (.map (some b)) (.string s) c).run prog w=.ok (if c then .tuple #[.pointer none,.bool false] else .pointer none) w/\∀p∈L,p.1≠s.data.toList)\/∃q:Nat,(s.data.toList,q)∈L/\(Instr.lookup 170 (.map (some b)) (.string s) c).run prog w=.ok (if c then .tuple #[.pointer (some ⟨q,0,none⟩),.bool true] else .pointer (some ⟨q,0,none⟩)) w:=by
 obtain⟨es,clock,hb,F,_,hD⟩:=h;have hkey:keyOf prog 9 (.string s)=some (.string s.data.toList):=WideMaps.keyOf_string_mk underlying9 (by unfold maxLen;omega);rcases Maps.fit_look c (Maps.string_keyed underlying9) underlying170 (zeroValue70 w) hb F hkey with⟨hrun,_,hat⟩|⟨e0,y,_,_,hrun,hRv,hat,_⟩
 .refine .inl ⟨hrun,λp hp e=>?_⟩;rw[<-hD]at hat
  have h1:=hat .nil;rw[yn]at h1;cases hf:L.find? (λp=>p.1==s.data.toList)with
  |none=>exact absurd (by simpa using e) (by simpa using List.find?_eq_none.1 hf p hp)
  |some z=>rw[hf]at h1;cases h1
 rw[<-hD]at hat
 have h1:=hat .nil;rw[yn]at h1;obtain⟨q,hv,hy⟩:=L9 hRv;cases hf:L.find? (λp=>p.1==s.data.toList)with
 |none=>rw[hf]at h1;rw[hy]at h1;cases h1
 |some z=>
  rw[hf,hy]at h1;have hz:z.2=q:=by
   have h2:((z.2:Nat):Int)=(q:Int):=by simp only[DataW.lit.injEq,Lit.int.injEq,true_and]at h1;exact h1
   omega
  have hm:=List.mem_of_find?_eq_some hf;have hk:z.1=s.data.toList:=by simpa using List.find?_some hf
  refine .inr ⟨q,by rw[<-hz,<-hk];exact hm,?_⟩;rw[hrun,hv]
structure Nd where
 ent:aj
 nb:Nat
 mb:Nat
def Nd.p(x:Nd):LU:=x.ent.path.data.toList
def Nd.cells(x:Nd):Array Value:=#[.string x.ent.path,.int .i64 x.ent.kind,.int .i64 x.ent.mode,.string x.ent.data,.map (some x.mb)]
def aB(ns:List Nd)(p:LU):List (LU×Nat):=(ns.filter λx=>al x.p==p).map λx=>(ai x.p,x.nb)
structure cw(w:World)(B:Nat)(r:Nd)(ns:List Nd):Prop where
 root:r.ent=de
 all:∀x∈r::ns,B<=x.nb/\B<=x.mb/\w.heap[x.nb]?=some (.cells x.cells 172 (0,0))/\KM w x.mb ns.length (aB ns x.p)
 apart:(r::ns).Pairwise λx y=>x.mb≠y.mb
theorem KM.below{w w':World}{b n:Nat}{L:List (LU×Nat)}(h:KM w b n L)(hb:Bw w w'):KM w' b n L:= World.ownsMap.kept (row:=none) h ⟨hb.os,hb.tape,hb.output,hb.size,λk hk _=>hb.block k hk⟩ (by simp)
theorem cw.below{w w':World}{B:Nat}{r:Nd}{ns:List Nd}(h:cw w B r ns)(hb:Bw w w'):cw w' B r ns:=by refine⟨h.root,λx hx=>?_,h.apart⟩;obtain⟨h1,h2,h3,h4⟩:=h.all x hx;exact⟨h1,h2,(hb.block x.nb (gA h3)).trans h3,h4.below hb⟩
def ac(ns:List Nd):List aj:=ns.map (·.ent)
theorem gQ{a b:LU}(h:prt a=prt b):a=b:=by
 have e:∀l:LU,Lib.join (prt l) [47]=l:=λl=>by
  by_cases hl:l=[]
  .subst hl;rfl
  rw[prt_ne hl];exact kD l
 rw[<-e a,<-e b,h]
theorem nM{es:List aj}{n:Nat}(h:cX es n){k:Nat}{e:aj}(hk:k<n)(he:es[k]?=some e):prt e.path.data.toList=prt (al e.path.data.toList)++[ai e.path.data.toList]:=by have:=aP (dj he (h k hk)).ent;exact qX this.2.1 this.1
theorem rj{es:List aj}{n:Nat}(h:cX es n)(hn:n<=es.length):∀(k:Nat) (e:aj) (i:Nat),k<n->es[k]?=some e->1<=i->i<=(prt e.path.data.toList).length->∃(q:Nat) (a:aj),q<n/\es[q]?=some a/\prt a.path.data.toList=(prt e.path.data.toList).take i:=by
 intro k;induction k using Nat.strongRecOn with
 |ind k ih=>
  intro e i hk he h1 hi;by_cases hl:i=(prt e.path.data.toList).length
  .exact⟨k,e,hk,he,by rw[hl,List.take_length]⟩
  have hup:=nM h hk he;have hlen:(prt e.path.data.toList).length=(prt (al e.path.data.toList)).length+1:=by rw[hup];simp
  have hd0:al e.path.data.toList≠[]:=by intro e0;rw[e0,prt_nil]at hlen;simp at hlen;omega
  obtain⟨a,hm,hp,_⟩:=jA (dj he (h k hk)).dir hd0;obtain⟨q,hq,hqe⟩:=List.getElem_of_mem hm;rw[List.length_take]at hq;rw[List.getElem_take]at hqe;have hq':es[q]?=some a:=by rw[<-hqe];exact gG (by omega)
  obtain⟨q2,a2,h2,h3,h4⟩:=ih q (by omega) a i (by omega) hq' h1 (by rw[hp];omega);refine⟨q2,a2,h2,h3,?_⟩;rw[h4,hp,hup,List.take_append_of_le_length (by omega)]
theorem FP{ns:List Nd}{k:Nat}{e:aj}(h:(ac ns)[k]?=some e):∃x∈ns,x.ent=e:=by rw[ac,List.getElem?_map,Option.map_eq_some_iff]at h;obtain⟨x,hx,rfl⟩:=h;exact⟨x,mG hx,rfl⟩
theorem gh{ns:List Nd}{x:Nd}(h:x∈ns):∃k,k<ns.length/\ns[k]?=some x/\(ac ns)[k]?=some x.ent:=by obtain⟨k,hk,rfl⟩:=List.getElem_of_mem h;exact⟨k,hk,gG hk,by rw[ac,List.getElem?_map,gG hk];rfl⟩
def mH(r:Nd)(ns:List Nd)(p:LU)(v:Value):Prop:=(v=.pointer none/\∀x∈r::ns,x.p≠p)\/∃x∈r::ns,v=.pointer (some ⟨x.nb,0,none⟩)/\x.p=p
theorem qC{ns:List Nd}{p nm:LU}{q:Nat}(h:(nm,q)∈aB ns p):∃x∈ns,al x.p=p/\ai x.p=nm/\x.nb=q:=by rw[aB,List.mem_map]at h;obtain⟨x,hx,e⟩:=h;rw[List.mem_filter]at hx;cases e;exact⟨x,hx.1,by simpa using hx.2,rfl,rfl⟩
theorem AU{ns:List Nd}{x:Nd}(h:x∈ns):(ai x.p,x.nb)∈aB ns (al x.p):=by rw[aB,List.mem_map];exact⟨x,by rw[List.mem_filter];exact⟨h,by simp⟩,rfl⟩
theorem yq{xs:List LU}{x:LU}(h:x∈xs):x.length<=(Lib.join xs [47]).length:=by
 cases xs with
 |nil=>simp at h
 |cons y r=>
  rw[Lib.join_cons,lA];rw[mC]at h;rcases h with rfl|h
  .omega
  have:x.length<=(Lib.joinTail [47] r).length:=by
   rw[Lib.joinTail];induction r with
   |nil=>simp at h
   |cons z r ih=>
    rw[mC]at h;simp only[List.map_cons,List.flatten_cons,lA];rcases h with rfl|h
    .omega
    have:=ih h;omega
  omega
theorem JX{l x:LU}{k:Nat}(h:(prt l)[k]?=some x):x.length<=l.length:=by
 have hm:=mG h;by_cases hl:l=[]
 .subst hl;simp[prt_nil]at hm
 rw[prt_ne hl]at hm;have:=yq hm;rw[kD]at this;exact this
theorem cY(r:Nd)(ns:List Nd)(B:Nat)(s:BA)(m:Int)(w:World)(hM:cw w B r ns)(HO:Hid (cX (ac ns) ns.length))(hs:s.size<=1048576)(hm:w.cell? ⟨1,0,none⟩=some (.int .i64 m)): Cl 101 #[.pointer (some ⟨r.nb,0,none⟩),.string s] w λev w'=>∃v,ev=.returned v/\Hid (mH r ns s.data.toList v)/\Bw w w':=by
 have HM:=ab hm;have HMem:=ab hM;clear hm hM;go_enter func101,ntmps101;go_wp2_with (go_at_call 99;refine(Du s m _ (by omega) (uh HM)).mono ?_;rintro ev w1⟨ao1,cap1,n1,ps1,rfl,ht1,HE1,HN1,hl1,hb1⟩)
 have HMem1:=ab ((uh HMem).below hb1);go_loop [0,12] (λv i=>∃(k:Nat) (x:Nd),k<=n1/\i=.int .i64 k/\v=.pointer (some ⟨x.nb,0,none⟩)/\Hid (x∈r::ns/\prt x.p=(prt s.data.toList).take k)) (λ_ i=>n1-(intOf i).toNat);case atStart=>exact⟨0,r,by omega,rfl,rfl,ab ⟨by simp,by rw[Nd.p,(uh HMem).root];rfl⟩⟩
 case round=>
  obtain⟨k,x,hk,rfl,rfl,HX⟩:=hrel;obtain⟨_,_,hn,hkm⟩:=(uh HMem1).all x (uh HX).1;have c4:w1.cell? ⟨x.nb,4,none⟩=some (.map (some x.mb)):=cell_of_row w1 x.nb 4 _ _ _ hn;clear hn;by_cases hlt:k<n1
  .obtain⟨y,hy⟩:=zR (uh HN1) hlt;obtain⟨g1,rfl,e1⟩:=ht1 k y hy;have HY:Hid ((prt s.data.toList)[k]?=some y.data.toList):=ab (by rw[<-uh HE1];exact txts_get hy);have hyz:y.size<=1048577:=by have h1:=JX (uh HY);rw[<-zE,<-zE]at h1;omega
   have i0:(0:Int)<=(k:Int):=by omega
   have i1:(k:Int)<(n1:Int):=by omega
   clear hy;rcases hkm.look y (by omega) true with⟨hrun,hno⟩|⟨q,hq,hrun⟩
   .have HNo:=ab hno;simp only[if_true]at hrun;clear hno hkm ht1;go_wp2_with fail;go_ret;refine⟨_,rfl,ab (.inl ⟨rfl,λz hz e=>?_⟩),hb1⟩;obtain⟨hx1,hx2⟩:=uh HX;rw[mC]at hz;have hyk:=uh HY;have hlk:k<(prt s.data.toList).length:=(gL hyk)
    rcases hz with rfl|hz
    .have:prt z.p=[]:=by rw[Nd.p,(uh HMem).root];rfl
     rw[e]at this;rw[this]at hlk;simp at hlk
    obtain⟨kz,hkz,_,hez⟩:=gh hz;obtain⟨qa,a,hqa,hae,hpa⟩:=rj (uh HO) (by simp[ac]) kz z.ent (k+1) hkz hez (by omega) (by show k+1<=(prt z.p).length;rw[e];omega);obtain⟨xa,hxa,rfl⟩:=FP hae;have hua:=nM (uh HO) hqa hae;have e5:prt z.ent.path.data.toList=prt s.data.toList:=by show prt z.p=_;rw[e]
    rw[e5,List.take_add_one,hyk,hua]at hpa;have hpa':prt (al xa.p)++[ai xa.p]=(prt s.data.toList).take k++[y.data.toList]:=hpa;rw[<-hx2]at hpa';have h6:=List.append_inj' hpa' rfl;have hdx:al xa.p=x.p:=gQ h6.1;have hnx:ai xa.p=y.data.toList:=by simpa using h6.2
    have h7:=AU hxa;rw[hdx,hnx]at h7;exact uh HNo _ h7 rfl
   have HQ:=ab hq;simp only[if_true]at hrun;clear hq hkm;go_wp2_with fail;go_round;case rel=>obtain⟨z,hz,hdz,hnz,rfl⟩:=qC (uh HQ);refine⟨k+1,z,by omega,by go_num,rfl,ab ⟨by simp[hz],?_⟩⟩;obtain⟨kz,hkz,_,hez⟩:=gh hz;have hu:prt z.p=prt (al z.p)++[ai z.p]:=nM (uh HO) hkz hez;rw[hu,hdz,hnz,(uh HX).2,List.take_add_one,uh HY];rfl
   case measure=>simp[intOf];omega
  have HF:Hid (mH r ns s.data.toList (.pointer (some ⟨x.nb,0,none⟩))):=ab (by obtain⟨h1,h2⟩:=uh HX;refine .inr ⟨x,h1,rfl,gQ ?_⟩;rw[h2,List.take_of_length_le];rw[<-uh HE1,txts_len,<-uh HN1];omega);go_wp2_with fail;go_ret;exact⟨_,rfl,HF,hb1⟩
theorem eX(e:aj)(w:World): Cl 94 #[.agg #[.string e.path,.int .i64 e.kind,.int .i64 e.mode,.string e.data]] w λev w'=>∃nb mb:Nat,ev=.returned (.pointer (some ⟨nb,0,none⟩))/\w.heap.size<=nb/\w.heap.size<=mb/\Hid (w'.heap[nb]?=some (.cells (Nd.cells ⟨e,nb,mb⟩) 172 (0,0))/\KM w' mb 0 [])/\Bw w w':=by
 have hmm:=@run_makeMap prog;go_enter func94,ntmps94;go_wp2;go_ret;refine⟨w.heap.size+2,w.heap.size+1,rfl,by omega,by omega,ab ⟨?_,?_⟩,((eD).alloc (by simp) _).alloc (by simp;omega) _⟩
 .have h:=hN ((w.alloc (.cells #[.string e.path,.int .i64 e.kind,.int .i64 e.mode,.string e.data] 39)).alloc (.map #[] 0)) (.cells (Nd.cells ⟨e,w.heap.size+2,w.heap.size+1⟩) 172 (0,0));simpa[Nd.cells]using h
 have h:=(World.ownsMap_made (w.alloc (.cells #[.string e.path,.int .i64 e.kind,.int .i64 e.mode,.string e.data] 39)) prog 9 RK).alloc (.cells (Nd.cells ⟨e,w.heap.size+2,w.heap.size+1⟩) 172 (0,0));simpa[Nd.cells,KM,DK]using h
theorem rk(ns:List Nd)(y:Nd)(p:LU):aB (ns++[y]) p=aB ns p++(if al y.p=p then [(ai y.p,y.nb)] else []):=by rw[aB,aB,List.filter_append,List.map_append];by_cases h:al y.p=p<;>simp[h]
theorem fh{l:List Nd}(h:l.Pairwise λx y=>x.mb≠y.mb){x z:Nd}(hx:x∈l)(hz:z∈l)(hne:z≠x):z.mb≠x.mb:=by
 obtain⟨i,hi,rfl⟩:=List.getElem_of_mem hx;obtain⟨j,hj,rfl⟩:=List.getElem_of_mem hz;rw[List.pairwise_iff_getElem]at h;rcases Nat.lt_trichotomy i j with hl|hl|hl
 .exact(h i j hi hj hl).symm
 .subst hl;exact absurd rfl hne
 exact h j i hj hi hl
theorem cw.add{w w':World}{B:Nat}{r:Nd}{ns:List Nd}(h:cw w B r ns){x y:Nd}(hx:x∈r::ns)(hy1:B<=y.nb)(hy2:B<=y.mb)(hyc:w.heap[y.nb]?=some (.cells y.cells 172 (0,0)))(hyk:KM w y.mb 0 [])(hfr:∀z∈r::ns,z.mb≠y.mb)(hup:KM w' x.mb (ns.length+1) (aB ns x.p++[(ai y.p,y.nb)]))(hg:w.grownBy w' (some x.mb))(hdir:al y.p=x.p)(huniq:∀z∈r::ns,z.p=x.p->z=x)(hno:aB (ns++[y]) y.p=[]):cw w' B r (ns++[y]):=by
 have hmb:∀b cs t f,w.heap[b]?=some (.cells cs t f)->b≠x.mb:=λb cs t f hb e=>by obtain⟨_,_,_,es,clock,hm,_⟩:=h.all x hx;rw[e,hm]at hb;cases hb
 refine⟨h.root,λz hz=>?_,?_⟩
 .rw[mC,mA,List.mem_singleton]at hz;have hz':z∈r::ns\/z=y:=by
   rcases hz with hz|hz|hz
   .exact .inl (by simp[hz])
   .exact .inl (by simp[hz])
   exact .inr hz
  rw[lA,List.length_singleton];rcases hz' with hz|rfl
  .obtain⟨h1,h2,h3,h4⟩:=h.all z hz;refine⟨h1,h2,(hg.block z.nb (gA h3) (λe=>hmb _ _ _ _ h3 (by simpa using e))).trans h3,?_⟩;rw[rk];by_cases e:z.p=x.p
   .have:=huniq z hz e;subst this;rw[if_pos hdir];exact hup
   rw[if_neg (λe'=>e (e'.symm.trans hdir)),List.append_nil];have hne:z≠x:=λe'=>e (by rw[e']);exact World.ownsMap.mono (World.ownsMap.kept h4 hg (λe'=>fh h.apart hx hz hne (by simpa using e'))) (by omega)
  refine⟨hy1,hy2,(hg.block z.nb (gA hyc) (λe=>hmb _ _ _ _ hyc (by simpa using e))).trans hyc,?_⟩;rw[hno];exact World.ownsMap.mono (World.ownsMap.kept hyk hg (λe'=>hfr x hx (by simpa using e'.symm))) (by omega)
 rw[<-List.cons_append,List.pairwise_append];refine⟨h.apart,by simp,λa ha b hb=>?_⟩;rw[List.mem_singleton]at hb;subst hb;exact hfr a ha
structure gy(r:Nd)(ns:List Nd)(e:aj):Prop where
 ok:cX (ac ns) ns.length
 ent:bK e=true
 lt:∀x∈ns,iH (prt x.p) (prt e.path.data.toList)=true
 root:r.ent=de
theorem gy.uniq{r:Nd}{ns:List Nd}{e:aj}(h:gy r ns e){x:Nd}(hx:x∈r::ns):∀z∈r::ns,z.p=x.p->z=x:=by
 have hr:r.p=[]:=by rw[Nd.p,h.root];rfl
 have hn:∀z∈ns,z.p≠[]:=λz hz=>by obtain⟨k,hk,_,he⟩:=gh hz;exact(aP (dj he (h.ok k hk)).ent).1
 intro z hz e;rw[mC]at hx hz;rcases hx with rfl|hx<;>rcases hz with rfl|hz
 .rfl
 .exact absurd (e.trans hr) (hn z hz)
 .exact absurd (e.symm.trans hr) (hn x hx)
 obtain⟨k,hk,h1,h2⟩:=gh hx;obtain⟨j,hj,h3,h4⟩:=gh hz;have:=kQ h.ok hj hk h4 h2 e;subst this;rw[h1]at h3;cases h3;rfl
theorem gy.kids{r:Nd}{ns:List Nd}{y:Nd}(h:gy r ns y.ent):aB (ns++[y]) y.p=[]:=by
 have hp:=aP h.ent;have hup:prt y.p=prt (al y.p)++[ai y.p]:=qX hp.2.1 hp.1;have hne:∀z∈ns,z.p≠y.p:=λz hz e=>by have h1:=h.lt z hz;rw[e]at h1;have h2:=p6 (prt y.p);rw[Nd.p]at h1 h2;rw[h2]at h1;cases h1
 rw[rk,if_neg,List.append_nil,aB,List.map_eq_nil_iff,List.filter_eq_nil_iff]
 .intro z hz e;have hd:al z.p=y.p:=by simpa using e
  obtain⟨k,hk,_,hz2⟩:=gh hz;have hd0:al z.ent.path.data.toList≠[]:=by show al z.p≠[];rw[hd];exact hp.1
  obtain⟨a,hm,ha,_⟩:=jA (dj hz2 (h.ok k hk)).dir hd0;have hm':=List.mem_of_mem_take hm;rw[ac,List.mem_map]at hm';obtain⟨b,hb,rfl⟩:=hm';exact hne b hb (ha.trans hd)
 intro e;rw[e]at hup;have:=congrArg List.length hup;simp at this
theorem gy.less{r:Nd}{ns:List Nd}{y:Nd}(h:gy r ns y.ent){p:LU}(hd:al y.p=p):∀q∈aB ns p,Op.bytesLess q.1 (ai y.p)=true:=by intro q hq;have hp:=aP h.ent;have hup:prt y.p=prt (al y.p)++[ai y.p]:=qX hp.2.1 hp.1;obtain⟨z,hz,h1,h2,h3⟩:=qC (nm:=q.1) (q:=q.2) hq;obtain⟨k,hk,_,hz2⟩:=gh hz;have hu:prt z.p=prt (al z.p)++[ai z.p]:=nM h.ok hk hz2;have hl:iH (prt z.p) (prt y.p)=true:=h.lt z hz;rw[hu,hup,h1,hd,qU,h2]at hl;exact hl
theorem D9{r:Nd}{ns:List Nd}{e:aj}(h:gy r ns e){p:LU}{v:Value}(hv:mH r ns p v):(v=.pointer none/\bd (ac ns) p≠1)\/∃x∈r::ns,v=.pointer (some ⟨x.nb,0,none⟩)/\x.p=p/\bd (ac ns) p=x.ent.kind:=by
 rcases hv with⟨rfl,h1⟩|⟨x,hx,rfl,hp⟩
 .refine .inl ⟨rfl,λh2=>?_⟩;have hr:r.p=[]:=by rw[Nd.p,h.root];rfl
  have hp0:p≠[]:=λe0=>h1 r (by simp) (hr.trans e0.symm);obtain⟨a,ha,hpa,_⟩:=jA h2 hp0;rw[ac,List.mem_map]at ha;obtain⟨z,hz,rfl⟩:=ha;exact h1 z (by simp[hz]) hpa
 refine .inr ⟨x,hx,rfl,hp,?_⟩;rw[mC]at hx;rcases hx with rfl|hx
 .have hr:x.p=[]:=by rw[Nd.p,h.root];rfl
  rw[bd,if_pos (hp.symm.trans hr),h.root];rfl
 obtain⟨k,hk,_,hk2⟩:=gh hx;have h0:=(aP (dj hk2 (h.ok k hk)).ent).1;have hp0:p≠[]:=λe0=>h0 (hp.trans e0);refine Ct hp0 hk2 hp λe' he'=>?_;obtain⟨j,hj,rfl⟩:=List.getElem_of_mem he';rw[List.length_take]at hj;rw[List.getElem_take];intro e2;have:=kQ h.ok (by omega) hk (gG (by omega)) hk2 (e2.trans hp.symm);omega
theorem aH{w w':World}{a:Addr}{v:Value}{b:Nat}(hg:w.grownBy w' (some b))(hc:w.cell? a=some v)(hne:a.block≠b):w'.cell? a=some v:= hg.cell hc (by simpa using hne)
theorem mf{w:World}{b n g h:Nat}{L:List (LU×Nat)}{cs cs':Array Value}{t t':TypeId}{f f':Nat×Nat}(hk:KM w b n L)(h1:w.heap[g]?=some (.cells cs t f))(h2:w.heap[h]?=some (.cells cs' t' f')):g≠b/\h≠b:=by
 obtain⟨es,clock,hm,_⟩:=hk;constructor
 .intro e;rw[e,hm]at h1;cases h1
 intro e;rw[e,hm]at h2;cases h2
theorem mN(p:LU):(al p).length<=p.length:=by
 by_cases h:47∈p
 .obtain⟨a,b,rfl,hb⟩:=dG h;rw[(eV hb).1];simp
 rw[(eN h).1];simp
def rF(w w':World):Prop:=∀(g:Nat) (cs:Array Value) (t:TypeId) (f:Nat×Nat),w.heap[g]?=some (Obj.cells cs t f)->w'.heap[g]?=some (Obj.cells cs t f)
theorem au{w w':World}(h:Bw w w'):rF w w':=λg _ _ _ hg=>(h.block g (gA hg)).trans hg
theorem Dk{w w':World}{b n:Nat}{L:List (LU×Nat)}(hk:KM w b n L)(hg:w.grownBy w' (some b)):rF w w':=λg cs t f hc=>by have hne:=(mf hk hc hc).1;exact(hg.block g (gA hc) (by simpa using hne)).trans hc
theorem rF.trans{a b c:World}(h1:rF a b)(h2:rF b c):rF a c:=λg cs t f h=>h2 g cs t f (h1 g cs t f h)
attribute [local go_sem] cJ dP
theorem jt(w:World):Cl 102 #[.pointer none] w λev w'=>ev=.returned (.bool false)/\w'=w:=by go_enter func102,ntmps102;go_wp2;go_ret;exact⟨rfl,rfl⟩
theorem cd(b:Nat)(k:Int)(w:World)(hc:w.cell? ⟨b,1,none⟩=some (.int .i64 k)):Cl 102 #[.pointer (some ⟨b,0,none⟩)] w λev w'=>ev=.returned (.bool (decide (k=1)))/\w'=w:=by go_enter func102,ntmps102;go_wp2;go_ret;exact⟨by by_cases h:k=1<;>simp[h],rfl⟩
theorem gy.fresh{r:Nd}{ns:List Nd}{e:aj}(h:gy r ns e){p:LU}(hd:al e.path.data.toList=p){nn:BA}(hn:nn.data.toList=ai e.path.data.toList){w:World}{b n:Nat}(hk:KM w b n (aB ns p))(hs:nn.size<=1048576): (Instr.lookup 170 (.map (some b)) (.string nn) false).run prog w=.ok (.pointer none) w:=by
 rcases hk.look nn (by omega) false with⟨hrun,_⟩|⟨q,hq,_⟩
 .exact hrun
 have h1:=gy.less (y:=⟨e,0,0⟩) h hd _ hq;rw[show ai (Nd.p ⟨e,0,0⟩)=nn.data.toList from hn.symm,jU]at h1;cases h1
theorem AX(r:Nd)(ns:List Nd)(B:Nat)(e:aj)(m:Int)(w:World)(hM:cw w B r ns)(HA:Hid (gy r ns e))(hn:ns.length<=40)(hB:B<=w.heap.size)(hs:e.path.size<=1048576)(hm:w.cell? ⟨1,0,none⟩=some (.int .i64 m))(_:1<B): Cl 72 #[.pointer (some ⟨r.nb,0,none⟩),.agg #[.string e.path,.int .i64 e.kind,.int .i64 e.mode,.string e.data]] w λev w'=>∃b:Bool,ev=.returned (.bool b)/\Hid (b=decide (bd (ac ns) (al e.path.data.toList)=1))/\Hid (b=true->∃y:Nd,y.ent=e/\cw w' B r (ns++[y]))/\Hid (rF w w')/\Below B w w':=by
 have HM:=ab hm;have HMem:=ab hM;have HB:=ab hB;have hB0:∀o,Bw w (w.alloc o):=λo=>(bR _ _).alloc (nR _) o;clear hm hM hB;go_enter func72,ntmps72;go_upto_region 2 with(go_at_call 100;refine(eE e.path _ (by omega)).mono ?_;rintro ev w1⟨dd,nn,rfl,HD,HNm,hb1⟩)
 have hB1:Bw w w1:=(hB0 _).trans (hb1.mono (by simp));have hq:=(hb1.block w.heap.size (by simp)).trans (hN _ _);have hdd:dd.size<=1048576:=by rw[zE,uh HD];exact nT (mN _) (by rw[<-zE];exact hs)
 have hnn:nn.size<=1048576:=by rw[zE,uh HNm];exact nT (fQ _) (by rw[<-zE];exact hs)
 have HQ:=ab hq;clear hq hb1;go_upto_region 3 with(go_at_call 101;refine(cY r ns B dd m _ ((uh HMem).below hB1) (ab (uh HA).ok) hdd (cL hB1 (uh HM))).mono ?_;rintro ev w2⟨v,rfl,HF,hb2⟩)
 have hB2:Bw w w2:=hB1.trans (hb2.mono hB1.size);have hq2:w2.heap[w.heap.size]?=some (.cells #[.string e.path,.int .i64 e.kind,.int .i64 e.mode,.string e.data] 39 (0,0)):=(hb2.block w.heap.size (gA (uh HQ))).trans (uh HQ);have hM2:=(uh HMem).below hB2;have hBz:=uh HB;rcases D9 (uh HA) (uh HF)with⟨rfl,hk⟩|⟨x,hx,rfl,hxp,hk⟩
 .have C:Hid (false=decide (bd (ac ns) (al e.path.data.toList)=1)):=ab (by rw[<-uh HD];exact(dF hk).symm);clear hk HF hM2 hq2 HQ;go_wp2_with (go_at_call 102;refine(jt _).mono ?_;rintro ev w3⟨rfl,hw⟩;obtain rfl:=hw.symm)
  go_ret;exact⟨false,rfl,C,ab (by intro h;cases h),ab (au hB2),hB2.mono hBz⟩
 obtain⟨hx1,hx2,hx3,hx4⟩:=hM2.all x hx;have c1:w2.cell? ⟨x.nb,1,none⟩=some (.int .i64 x.ent.kind):=cell_of_row w2 x.nb 1 _ _ _ hx3;have c4:w2.cell? ⟨x.nb,4,none⟩=some (.map (some x.mb)):=cell_of_row w2 x.nb 4 _ _ _ hx3;have q0:w2.cell? ⟨w.heap.size,0,none⟩=some (.string e.path):=cell_of_row w2 w.heap.size 0 _ _ _ hq2;have q1:w2.cell? ⟨w.heap.size,1,none⟩=some (.int .i64 e.kind):=cell_of_row w2 w.heap.size 1 _ _ _ hq2;have q2:w2.cell? ⟨w.heap.size,2,none⟩=some (.int .i64 e.mode):=cell_of_row w2 w.heap.size 2 _ _ _ hq2;have q3:w2.cell? ⟨w.heap.size,3,none⟩=some (.string e.data):=cell_of_row w2 w.heap.size 3 _ _ _ hq2;by_cases k1:x.ent.kind=1
 .have C:Hid (true=decide (bd (ac ns) (al e.path.data.toList)=1)):=ab (by rw[<-uh HD,hk,k1];rfl);have k2:(x.ent.kind==1)=true:=by simp[k1]
  rw[k1]at c1;have HX:=ab hx;have HXp:=ab hxp;have HX4:=ab hx4;have HM2:=ab hM2;have HX3:=ab hx3;have HQ2:=ab hq2;have hlk:=gy.fresh (uh HA) (by rw[hxp];exact(uh HD).symm) (uh HNm) hx4 hnn;clear hx hxp hx4 hM2 hk HF hx3 hq2 hx1 hx2;go_upto_region 5 with(go_at_call 102;refine(cd _ _ _ c1).mono ?_;rintro ev w3⟨rfl,hw⟩;obtain rfl:=hw.symm)
  go_upto_region 8 with(go_at_call 102;refine(jt _).mono ?_;rintro ev w3⟨rfl,hw⟩;obtain rfl:=hw.symm)
  go_region_held3 (λw'=>w'.cell? ⟨x.nb,4,none⟩=some (.map (some x.mb))/\w'.cell? ⟨w.heap.size,0,none⟩=some (.string e.path)/\w'.cell? ⟨w.heap.size,1,none⟩=some (.int .i64 e.kind)/\w'.cell? ⟨w.heap.size,2,none⟩=some (.int .i64 e.mode)/\w'.cell? ⟨w.heap.size,3,none⟩=some (.string e.data)) (first|exact⟨aH hg6 p4 (uh HNE).1,aH hg6 p0 (uh HNE).2,aH hg6 p1 (uh HNE).2,aH hg6 p2 (uh HNE).2,aH hg6 p3 (uh HNE).2⟩|exact⟨p4,p0,p1,p2,p3⟩|go_keep) (first|(go_at_call 94;refine(eX e _).mono ?_;rintro ev w5⟨nb,mb,rfl,hnb,hmb,HN5,hb5⟩;have p4:=cL (am hb5) c4;have p0:=cL (am hb5) q0;have p1:=cL (am hb5) q1;have p2:=cL (am hb5) q2;have p3:=cL (am hb5) q3;obtain⟨w6,hrun6,hown6,hg6⟩:=World.ownsMap.update ((uh HX4).below (am hb5)) (Maps.string_keyed underlying9) underlying170 (by unfold maxLen;omega) (WideMaps.keyOf_string_mk underlying9 (s:=nn) (by unfold maxLen;omega)) (show RK (.pointer (some ⟨nb,0,none⟩))=some (.lit (.int .i64 (nb:Int)),[]) from rfl);have HNE:Hid (x.nb≠x.mb/\w.heap.size≠x.mb):=ab (mf (uh HX4) (uh HX3) (uh HQ2))))
  have hxx:=(uh HM2).all x (uh HX);have R1:Below B w w5:=(hB2.mono hBz).trans (Below.mono (B':=B) (am hb5) (nT hBz hB2.size));have R2:Below B w w6:=R1.grown hg6 (nT hBz R1.size) (λq hq=>by cases hq;exact hxx.2.1);have hdir:al (Nd.p ⟨e,nb,mb⟩)=x.p:=by rw[uh HXp,uh HD];rfl
  have R3:KM w6 x.mb (ns.length+1) (aB ns x.p++[(ai (Nd.p ⟨e,nb,mb⟩),nb)]):=by have h:=hown6;rw[uh HNm]at h;unfold KM;rw[<-EI (gy.less (y:=⟨e,nb,mb⟩) (uh HA) hdir)];exact h
  have hz2:B<=w2.heap.size:=nT hBz hB2.size;have hnb':w2.heap.size<=nb:=hnb;have hmb':w2.heap.size<=mb:=hmb;have R4:cw w6 B r (ns++[⟨e,nb,mb⟩]):=cw.add ((uh HM2).below (am hb5)) (uh HX) (y:=⟨e,nb,mb⟩) (nT hz2 hnb') (nT hz2 hmb') (uh HN5).1 (uh HN5).2 (λz hz=>by have:=World.ownsMap.lt ((uh HM2).all z hz).2.2.2;show z.mb≠mb;omega) R3 hg6 hdir ((uh HA).uniq (uh HX)) (gy.kids (y:=⟨e,nb,mb⟩) (uh HA));go_wp2_with fail;go_ret;exact⟨true,rfl,C,ab (λ_=>⟨⟨e,nb,mb⟩,rfl,R4⟩),ab ((au hB2).trans ((au (am hb5)).trans (Dk ((uh HX4).below (am hb5)) hg6))),R2⟩
 have C:Hid (false=decide (bd (ac ns) (al e.path.data.toList)=1)):=ab (by rw[<-uh HD,hk];exact(dF k1).symm);have k2:(x.ent.kind==1)=false:=by simp[k1]
 clear hk HF hM2 hq2 HQ hx hxp;go_wp2_with (go_at_call 102;refine(cd _ _ _ c1).mono ?_;rintro ev w3⟨rfl,hw⟩;obtain rfl:=hw.symm)
 go_ret;exact⟨false,rfl,C,ab (by intro h;cases h),ab (au hB2),hB2.mono hBz⟩
end Go.Proofs.YtjhobnjdfhkohaaGreatDoor.T
