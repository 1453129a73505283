import Derived.Test.YtjhobnjdfhkohaaGreatDoorXE
set_option linter.all false
set_option maxRecDepth 100000
namespace Go.Proofs.YtjhobnjdfhkohaaGreatDoor.T
open Go.Proofs.Tryz
open Go.RowKit
def Em(a b:aj):Bool:=a.path.toList==b.path.toList&&(a.kind==b.kind&&(a.mode==b.mode&&a.data.toList==b.data.toList))
theorem BM{a b:aj}:Em a b=true↔a=b:=by obtain⟨⟨⟨p⟩⟩,k,m,⟨⟨d⟩⟩⟩:=a;obtain⟨⟨⟨q⟩⟩,k',m',⟨⟨e⟩⟩⟩:=b;simp[Em,tD]
def Fp(e:aj):Array Value:=#[.string e.path,.int .i64 e.kind,.int .i64 e.mode,.string e.data]
theorem yx:prog.fieldsOf 39=prog.fieldsOf 38:=by kernel_rfl
theorem Fs:(prog.fieldsOf 38).toList.map (λf=>(f.name,f.type,f.offset))=[("Path",9,0),("Kind",3,1),("Mode",3,2),("Data",9,3)]:=by kernel_rfl
theorem Il{l:List Field}{a b c d:String×TypeId×Nat}(h:l.map (λf=>(f.name,f.type,f.offset))=[a,b,c,d]):∃f1 f2 f3 f4:Field,l=[f1,f2,f3,f4]/\(f1.name=a.1/\f1.type=a.2.1/\f1.offset=a.2.2)/\(f2.name=b.1/\f2.type=b.2.1/\f2.offset=b.2.2)/\(f3.name=c.1/\f3.type=c.2.1/\f3.offset=c.2.2)/\(f4.name=d.1/\f4.type=d.2.1/\f4.offset=d.2.2):=by
 match l,h with
 |[f1,f2,f3,f4],h=>simp only[List.map_cons,List.map_nil,List.cons.injEq,and_true]at h;obtain⟨rfl,rfl,rfl,rfl⟩:=h;exact⟨f1,f2,f3,f4,rfl,⟨rfl,rfl,rfl⟩,⟨rfl,rfl,rfl⟩,⟨rfl,rfl,rfl⟩,⟨rfl,rfl,rfl⟩⟩
theorem rY(a b:aj)(w:World):(Op.eqFields 9999 (Fp a) (Fp b) (prog.fieldsOf 38).toList).run prog w=.ok (Em a b) w:=by
 obtain⟨f1,f2,f3,f4,he,⟨n1,t1,o1⟩,⟨n2,t2,o2⟩,⟨n3,t3,o3⟩,⟨n4,t4,o4⟩⟩:=Il Fs;rw[he];simp only[Op.eqFields,n1,n2,n3,n4,t1,t2,t3,t4,o1,o2,o3,o4,Fp];have u9:=underlying9;have u3:=underlying3;cases h1:(a.path.toList==b.path.toList)
 .simp[go_sem,part,u9,h1,Em,Result.andThen]
 cases h2:(a.kind==b.kind)
 .simp[go_sem,part,u9,u3,h1,h2,Em,Result.andThen]
 cases h3:(a.mode==b.mode)
 .simp[go_sem,part,u9,u3,h1,h2,h3,Em,Result.andThen]
 cases h4:(a.data.toList==b.data.toList)
 .simp[go_sem,part,u9,u3,h1,h2,h3,h4,Em,Result.andThen]
 simp[go_sem,part,u9,u3,h1,h2,h3,h4,Em,Result.andThen]
theorem yW:prog.underlying 39=some (.struct (prog.fieldsOf 39)):=by kernel_rfl
theorem BF:prog.stoodInHeld 39=false:=by kernel_rfl
theorem M5(a b:aj)(w:World):(binOp .eql 39 (.agg #[.string a.path,.int .i64 a.kind,.int .i64 a.mode,.string a.data]) (.agg #[.string b.path,.int .i64 b.kind,.int .i64 b.mode,.string b.data])).run prog w=.ok (.bool (Em a b)) w:=by rw[run_eql_struct,run_equalIn_struct w 9999 39 _ _ yW BF,yx];have h:=rY a b w;unfold Fp at h;rw[h];rfl
theorem Ni(a b:aj)(w:World):(binOp .neq 39 (.agg #[.string a.path,.int .i64 a.kind,.int .i64 a.mode,.string a.data]) (.agg #[.string b.path,.int .i64 b.kind,.int .i64 b.mode,.string b.data])).run prog w=.ok (.bool (!Em a b)) w:=by rw[run_neq_struct,run_equalIn_struct w 9999 39 _ _ yW BF,yx];have h:=rY a b w;unfold Fp at h;rw[h];rfl
def nC(es:List aj)(p:LU):Option aj:=es.find? λe=>e.path.data.toList==p
theorem nQ{es:List aj}{p:LU}{e:aj}(h:nC es p=some e):e∈es/\e.path.data.toList=p:= ⟨List.mem_of_find?_eq_some h,by simpa using List.find?_some h⟩
theorem xR{es:List aj}{p:LU}(h:nC es p=none):∀e∈es,e.path.data.toList≠p:=λe he=>by simpa using List.find?_eq_none.1 h e he
theorem nl{es:List aj}{p:LU}(hp:p≠[]):bd es p=match nC es p with|some e=>e.kind|none=>0:=by rw[bd,if_neg hp];rfl
theorem fX{p q r:LU}(h1:under p q)(h2:under q r):under p r:=by obtain⟨a,u,e1⟩:=h1;obtain⟨b,v,e2⟩:=h2;exact⟨a,u++b::v,by rw[e2,e1];simp⟩
theorem n9{p q:LU}(h:under p q):gP p q=true:=by obtain⟨a,u,e⟩:=h;rw[gP,e];exact xE _ _ _
theorem gC{p q:LU}(h:under p q):gP q p=false:=by
 cases h2:gP q p
 .rfl
 have:=dr.trans (n9 h) h2;rw[dr.irr]at this;cases this
theorem bS(p:LU):¬under p p:=λh=>by have:=n9 h;rw[dr.irr]at this;cases this
def b9(z:LU):Prop:=prt z=prt (al z)++[ai z]
theorem b9.under{z:LU}(h:b9 z):under (al z) z:=⟨_,[],h⟩
theorem b9.up{z p:LU}(h:b9 z)(hu:Go.Proofs.YtjhobnjdfhkohaaGreatDoor.T.under p z):p=al z\/Go.Proofs.YtjhobnjdfhkohaaGreatDoor.T.under p (al z):=by
 obtain⟨a,u,e⟩:=hu;rw[h]at e;rcases List.eq_nil_or_concat u with rfl|⟨u',l,rfl⟩
 .exact .inl (gQ (List.append_inj' e rfl).1.symm)
 right;have e2:prt (al z)++[ai z]=(prt p++a::u')++[l]:=by rw[e];simp
 exact⟨a,u',(List.append_inj' e2 rfl).1⟩
theorem b9.eq{y z:LU}(hy:b9 y)(hz:b9 z)(h1:al y=al z)(h2:ai y=ai z):y=z:=gQ (by rw[hy,hz,h1,h2])
theorem b9.lt{y z:LU}(hy:b9 y)(hz:b9 z)(h1:al y=al z):gP y z=Op.bytesLess (ai y) (ai z):=by rw[gP,hy,hz,h1,qU]
theorem dZ{e:aj}(h:bK e=true):b9 e.path.data.toList:=qX (aP h).2.1 (aP h).1
structure aO(es:List aj):Prop where
 ord:es.Pairwise λx y=>gP x.path.data.toList y.path.data.toList=true
 ent:∀e∈es,bK e=true
 dir:∀e∈es,al e.path.data.toList=[]\/∃d∈es,d.path.data.toList=al e.path.data.toList/\d.kind=1
theorem wO{es:List aj}(h:cX es es.length):aO es:=by
 refine⟨?_,λe he=>?_,λe he=>?_⟩
 .rw[List.pairwise_iff_getElem];intro i j hi hj hij;exact pg h j i es[i] es[j] hij hj (gG hi) (gG hj)
 .obtain⟨k,hk,rfl⟩:=List.getElem_of_mem he;exact(dj (gG hk) (h k hk)).ent
 obtain⟨k,hk,rfl⟩:=List.getElem_of_mem he;by_cases hd:al es[k].path.data.toList=[]
 .exact .inl hd
 obtain⟨d,hm,hp,hk1⟩:=jA (dj (gG hk) (h k hk)).dir hd;exact .inr ⟨d,List.mem_of_mem_take hm,hp,hk1⟩
theorem aO.one{es:List aj}(h:aO es){d e:aj}(hd:d∈es)(he:e∈es)(hp:d.path.data.toList=e.path.data.toList):d=e:=by
 obtain⟨i,hi,rfl⟩:=List.getElem_of_mem hd;obtain⟨j,hj,rfl⟩:=List.getElem_of_mem he;have ho:=List.pairwise_iff_getElem.1 h.ord;rcases Nat.lt_trichotomy i j with hl|rfl|hl
 .have:=ho i j hi hj hl;rw[hp,dr.irr]at this;cases this
 .rfl
 have:=ho j i hj hi hl;rw[hp,dr.irr]at this;cases this
theorem aO.at{es:List aj}(h:aO es){e:aj}(he:e∈es):nC es e.path.data.toList=some e:=by
 cases hf:nC es e.path.data.toList with
 |none=>exact absurd rfl (xR hf e he)
 |some d=>have:=nQ hf;rw[h.one this.1 he this.2]
theorem aO.kind{es:List aj}(h:aO es)(p:LU):bd es p=1↔p=[]\/∃d∈es,d.path.data.toList=p/\d.kind=1:=by
 by_cases hp:p=[]
 .subst hp;simp[bd]
 rw[nl hp];constructor
 .intro h1;cases hf:nC es p with
  |none=>rw[hf]at h1;cases h1
  |some d=>rw[hf]at h1;exact .inr ⟨d,(nQ hf).1,(nQ hf).2,h1⟩
 rintro(h1|⟨d,hd,rfl,hk⟩)
 .exact absurd h1 hp
 rw[h.at hd];exact hk
theorem aO.ok{es:List aj}(h:aO es):cX es es.length:=by
 intro i hi;have he:es[i]?=some es[i]:=gG hi;have hm:es[i]∈es:=List.getElem_mem hi;have hP:=dZ (h.ent _ hm);rw[Fo he];simp only[bA,bO,decide_eq_true_eq];refine⟨⟨h.ent _ hm,?_⟩,?_⟩
 .by_cases h0:i=0
  .exact .inl h0
  right;rw[gG (by omega)];exact List.pairwise_iff_getElem.1 h.ord (i-1) i (by omega) hi (by omega)
 by_cases hd0:al es[i].path.data.toList=[]
 .rw[hd0];rfl
 rcases h.dir _ hm with h1|⟨d,hd,hp,hk⟩
 .exact absurd h1 hd0
 obtain⟨j,hj,rfl⟩:=List.getElem_of_mem hd;have hji:j<i:=by
  rcases Nat.lt_or_ge j i with h1|h1
  .exact h1
  exfalso;have hu:gP es[j].path.data.toList es[i].path.data.toList=true:=by rw[hp];exact n9 hP.under
  rcases Nat.lt_or_ge i j with h2|h2
  .have:=dr.trans hu (List.pairwise_iff_getElem.1 h.ord i j hi hj h2);rw[dr.irr]at this;cases this
  have:i=j:=by omega
  subst this;rw[dr.irr]at hu;cases hu
 rw[nl hd0];have hin:es[j]∈es.take i:=List.mem_take_iff_getElem.2 ⟨j,by omega,rfl⟩;cases hf:nC (es.take i) (al es[i].path.data.toList)with
 |none=>exact absurd hp (xR hf _ hin)
 |some d=>have h3:=nQ hf;rw[h.one (List.mem_of_mem_take h3.1) hd (h3.2.trans hp.symm)];exact hk
def tV(p:LU)(self:Bool)(q:LU):Bool:=!(j4 p q||(self&&q==p))
def dx(both:Bool)(p q:LU):Bool:=gP p q&&(both||!j4 p q)
def Do{α:Type}(f:α->LU)(l:List α)(p:LU)(self:Bool):List α:=l.filter λx=>tV p self (f x)
def dA{α:Type}(f:α->LU)(l:List α)(both:Bool)(y:α):List α:=(l.filter λx=>gP (f x) (f y))++y::l.filter λx=>dx both (f y) (f x)
def aj.q(e:aj):LU:=e.path.data.toList
def wo(es:List aj)(p:LU)(self:Bool):List aj:=Do aj.q es p self
def j6(es:List aj)(e:aj):Bool:=decide (bd es e.path.data.toList=1)&&decide (e.kind=1)
def oU(es:List aj)(e:aj):List aj:=dA aj.q es (j6 es e) e
theorem Hk(ns:List Nd)(p:LU)(self:Bool):ac (Do Nd.p ns p self)=wo (ac ns) p self:=by rw[wo,Do,Do,ac,ac,List.filter_map];rfl
theorem lD(ns:List Nd)(both:Bool)(y:Nd):ac (dA Nd.p ns both y)=dA aj.q (ac ns) both y.ent:=by rw[dA,dA,ac,ac,List.map_append,List.map_cons,List.filter_map,List.filter_map];rfl
theorem dQ{p q:LU}{self:Bool}:tV p self q=true↔¬under p q/\(self=true->q≠p):=by
 unfold tV;simp only[Bool.not_eq_true',Bool.or_eq_false_iff,Bool.and_eq_false_iff,<-fD,Bool.not_eq_true];constructor
 .rintro⟨h1,h2⟩;refine⟨h1,λhs e=>?_⟩;rcases h2 with h2|h2
  .rw[hs]at h2;cases h2
  simp[e]at h2
 rintro⟨h1,h2⟩;refine⟨h1,?_⟩;cases self
 .exact .inl rfl
 right;simpa using h2 rfl
theorem aT{p q:LU}{both:Bool}:dx both p q=true↔gP p q=true/\(both=true\/¬under p q):=by unfold dx;simp[<-fD]
theorem IF{es:List aj}(h:aO es)(p:LU)(self:Bool):aO (wo es p self):=by
 refine⟨h.ord.filter _,λe he=>h.ent e (List.mem_filter.1 he).1,λe he=>?_⟩;obtain⟨hm,hk⟩:=List.mem_filter.1 he;have hk:=dQ.1 hk;have hP:=dZ (h.ent e hm);rcases h.dir e hm with h0|⟨d,hd,hp,hk1⟩
 .exact .inl h0
 refine .inr ⟨d,List.mem_filter.2 ⟨hd,dQ.2 ⟨λhu=>hk.1 ?_,λ_ hq=>hk.1 ?_⟩⟩,hp,hk1⟩
 .refine fX hu ?_;show under d.path.data.toList e.path.data.toList;rw[hp];exact hP.under
 have hq':d.path.data.toList=p:=hq;show under p e.path.data.toList;rw[<-hq',hp];exact hP.under
theorem dY{α:Type}{f:α->LU}{l:List α}{both:Bool}{y x:α}:x∈dA f l both y↔x=y\/(x∈l/\(gP (f x) (f y)=true\/dx both (f y) (f x)=true)):=by
 rw[dA,mA,mC,List.mem_filter,List.mem_filter];constructor
 .rintro(⟨h1,h2⟩|h|⟨h1,h2⟩)
  .exact .inr ⟨h1,.inl h2⟩
  .exact .inl h
  exact .inr ⟨h1,.inr h2⟩
 rintro(h|⟨h1,h2|h2⟩)
 .exact .inr (.inl h)
 .exact .inl ⟨h1,h2⟩
 exact .inr (.inr ⟨h1,h2⟩)
theorem Jl{α:Type}{f:α->LU}{l:List α}{both:Bool}{y:α}(h:l.Pairwise λa b=>gP (f a) (f b)=true):(dA f l both y).Pairwise λa b=>gP (f a) (f b)=true:=by
 rw[dA,List.pairwise_append,List.pairwise_cons];refine⟨h.filter _,⟨λb hb=>(aT.1 (List.mem_filter.1 hb).2).1,h.filter _⟩,λa ha b hb=>?_⟩;have ha':=(List.mem_filter.1 ha).2;rcases mC.1 hb with rfl|hb
 .exact ha'
 exact dr.trans ha' (aT.1 (List.mem_filter.1 hb).2).1
theorem q9{es:List aj}{e:aj}(h:aO es)(he:bK e=true)(hd:bd es (al e.path.data.toList)=1):aO (oU es e):=by
 have hPe:=dZ he;refine⟨Jl h.ord,λx hx=>?_,λx hx=>?_⟩
 .rcases dY.1 hx with rfl|⟨h1,_⟩
  .exact he
  exact h.ent x h1
 rcases dY.1 hx with rfl|⟨h1,h2⟩
 .rcases(h.kind _).1 hd with h0|⟨d,hd,hp,hk⟩
  .exact .inl h0
  exact .inr ⟨d,dY.2 (.inr ⟨hd,.inl (by show gP d.path.data.toList x.path.data.toList=true;rw[hp];exact n9 hPe.under)⟩),hp,hk⟩
 have hPx:=dZ (h.ent x h1);rcases h.dir x h1 with h0|⟨d,hd,hp,hk⟩
 .exact .inl h0
 right;by_cases hde:d.path.data.toList=e.path.data.toList
 .
  have hux:under e.path.data.toList x.path.data.toList:=by rw[<-hde,hp];exact hPx.under
  have hb:j6 es e=true:=by
   rcases h2 with h2|h2
   .have:gP x.path.data.toList e.path.data.toList=true:=h2;rw[gC hux]at this;cases this
   rcases(aT.1 h2).2 with h3|h3
   .exact h3
   exact absurd hux h3
  have hb2:=hb;simp only[j6,bA,decide_eq_true_eq]at hb2;exact⟨e,dY.2 (.inl rfl),hde.symm.trans hp,hb2.2⟩
 refine⟨d,dY.2 (.inr ⟨hd,?_⟩),hp,hk⟩;have hdx:under d.path.data.toList x.path.data.toList:=by rw[hp];exact hPx.under
 cases hlt:gP d.path.data.toList e.path.data.toList
 .right;refine aT.2 ⟨?_,?_⟩
  .show gP e.path.data.toList d.path.data.toList=true;cases h5:gP e.path.data.toList d.path.data.toList
   .exact absurd (dr.one hlt h5) hde
   rfl
  cases hb:j6 es e
  .right;intro hu;have hux:under e.path.data.toList x.path.data.toList:=fX hu hdx;rcases h2 with h2|h2
   .have:gP x.path.data.toList e.path.data.toList=true:=h2;rw[gC hux]at this;cases this
   rcases(aT.1 h2).2 with h3|h3
   .rw[hb]at h3;cases h3
   exact h3 hux
  exact .inl rfl
 exact .inl hlt
end Go.Proofs.YtjhobnjdfhkohaaGreatDoor.T
namespace Go.Proofs.YtjhobnjdfhkohaaGreatDoor.T
open Go.Proofs.Tryz
open Go.RowKit Go.Maps
theorem gR{α:Type}(A B:α->Bool):∀(l:List α),l.Pairwise (λx z=>B x=true->A z=false)->(∀x∈l,A x=true->B x=false)->l.filter A++l.filter B=l.filter λx=>A x||B x
 |[],_,_=>rfl
 |x::t,h,hd=>by
  rw[List.pairwise_cons]at h;have ih:=gR A B t h.2 (λz hz=>hd z (by simp[hz]));cases ha:A x
  .cases hb:B x
   .simp[ha,hb,ih]
   have e1:t.filter A=[]:=List.filter_eq_nil_iff.2 λz hz=>by rw[h.1 z hz hb];simp
   rw[e1,List.nil_append]at ih;simp[ha,hb,e1,ih]
  have hb:=hd x (by simp) ha;simp[ha,hb,ih]
theorem xp{α:Type}{f:α->LU}{o:α}:∀{l:List α},l.Pairwise (λa b=>gP (f a) (f b)=true)->o∈l->l=(l.filter λx=>gP (f x) (f o))++o::l.filter λx=>gP (f o) (f x)
 |[],_,h=>by simp at h
 |x::t,h,hm=>by
  rw[List.pairwise_cons]at h;rcases mC.1 hm with rfl|hm
  .have e1:t.filter (λx=>gP (f x) (f o))=[]:=List.filter_eq_nil_iff.2 λz hz=>by intro h2;have:=dr.trans (h.1 z hz) h2;rw[dr.irr]at this;cases this
   have e2:=List.filter_eq_self.2 λz hz=>h.1 z hz;simp[dr.irr,e1,e2]
  have ih:=xp h.2 hm;have h1:=h.1 o hm;have h2:gP (f o) (f x)=false:=by
   cases h3:gP (f o) (f x)
   .rfl
   have:=dr.trans h1 h3;rw[dr.irr]at this;cases this
  simp only[List.filter_cons,h1,h2,if_true,Bool.false_eq_true,if_false,List.cons_append];rw[<-ih]
theorem dp{ns:List Nd}(h:aO (ac ns)){x:Nd}(hx:x∈ns):b9 x.p:=dZ (h.ent x.ent (List.mem_map.2 ⟨x,hx,rfl⟩))
theorem Al{ns:List Nd}(h:aO (ac ns)):ns.Pairwise λx y=>gP x.p y.p=true:=by have:=h.ord;rw[ac,List.pairwise_map]at this;exact this
theorem vY{ns:List Nd}(h:aO (ac ns)){p q:LU}{self:Bool}(hq:tV p self q=true)(h1:self=true->q≠al p)(h2:self=false->q≠p):aB (Do Nd.p ns p self) q=aB ns q:=by
 rw[aB,aB,Do,List.filter_filter];congr 1;refine List.filter_congr λx hx=>?_;have hk:=dQ.1 hq;cases hd:(al x.p==q)
 .rfl
 have hd':al x.p=q:=by simpa using hd
 have hP:=dp h hx;rw[Bool.true_and];refine dQ.2 ⟨λhu=>?_,λhs e=>h1 hs (by rw[<-hd',e])⟩;rcases hP.up hu with e|e
 .rw[hd']at e;cases self
  .exact h2 rfl e.symm
  exact hk.2 rfl e.symm
 rw[hd']at e;exact hk.1 e
theorem yQ{ns:List Nd}(h:aO (ac ns)){p:LU}(hp:b9 p):aB (Do Nd.p ns p true) (al p)=(aB ns (al p)).filter λz=>z.1 != ai p:=by
 rw[aB,aB,Do,List.filter_map,List.filter_filter,List.filter_filter];congr 1;refine List.filter_congr λx hx=>?_;have hP:=dp h hx;cases hd:(al x.p==al p)
 .simp
 have hd':al x.p=al p:=by simpa using hd
 rw[Bool.true_and,Bool.and_true];by_cases hn:ai x.p=ai p
 .have e:=hP.eq hp hd' hn;simp[tV,e]
 have:tV p true x.p=true:=dQ.2 ⟨λhu=>by
  rcases hP.up hu with e|e
  .rw[hd']at e;have:=hp.under;rw[<-e]at this;exact bS _ this
  rw[hd']at e;exact bS _ (fX hp.under e),λ_ e=>hn (by rw[e])⟩
 rw[this];simp[hn]
theorem Hz{ns:List Nd}(h:aO (ac ns)){p:LU}:aB (Do Nd.p ns p false) p=[]:=by rw[aB,Do,List.filter_filter];rw[List.filter_eq_nil_iff.2,List.map_nil];intro x hx hc;simp only[bA,beq_iff_eq]at hc;have hP:=dp h hx;have:=hP.under;rw[hc.1]at this;exact(dQ.1 hc.2).1 this
theorem th{ns:List Nd}(h:aO (ac ns))(both:Bool)(p:LU):(ns.filter λx=>gP x.p p)++(ns.filter λx=>dx both p x.p)=ns.filter λx=>gP x.p p||dx both p x.p:=by
 refine gR _ _ ns ((Al h).imp fun {x z} hl hb=>?_) (λx _ ha=>?_)
 .have h1:=(aT.1 hb).1;cases h2:gP z.p p
  .rfl
  have:=dr.trans (dr.trans h1 hl) h2;rw[dr.irr]at this;cases this
 cases hb:dx both p x.p
 .rfl
 have:=dr.trans ha (aT.1 hb).1;rw[dr.irr]at this;cases this
theorem sE{ns:List Nd}(h:aO (ac ns)){y:Nd}{q:LU}(h1:q≠al y.p)(h2:q≠y.p)(h3:¬under y.p q):aB (dA Nd.p ns false y) q=aB ns q:=by
 have h1':(al y.p==q)=false:=by simpa using λe=>h1 e.symm
 rw[aB,aB,dA,List.filter_append,List.filter_cons,if_neg (by rw[h1'];simp),<-List.filter_append,th h,List.filter_filter];congr 1;refine List.filter_congr λx hx=>?_;cases hd:(al x.p==q)
 .rfl
 have hd':al x.p=q:=by simpa using hd
 have hP:=dp h hx;rw[Bool.true_and,bO];cases hl:gP x.p y.p
 .right;refine aT.2 ⟨?_,.inr λhu=>?_⟩
  .cases hg:gP y.p x.p
   .have:=dr.one hl hg;rw[this]at hd';exact absurd hd'.symm h1
   rfl
  rcases hP.up hu with e|e
  .rw[hd']at e;exact h2 e.symm
  rw[hd']at e;exact h3 e
 exact .inl rfl
theorem vV{ns:List Nd}(h:aO (ac ns)){y:Nd}(hy:b9 y.p):aB (dA Nd.p ns false y) y.p=[]:=by
 have h1':(al y.p==y.p)=false:=by simp only[beq_eq_false_iff_ne,ne_eq];intro e;have:=hy.under;rw[e]at this;exact bS _ this
 rw[aB,dA,List.filter_append,List.filter_cons,if_neg (by rw[h1'];simp),<-List.filter_append,th h,List.filter_filter,List.filter_eq_nil_iff.2,List.map_nil];intro x hx hc;simp only[bA,beq_iff_eq,bO]at hc;have hu:=(dp h hx).under;rw[hc.1]at hu;rcases hc.2 with h2|h2
 .rw[gC hu]at h2;cases h2
 rcases(aT.1 h2).2 with h3|h3
 .cases h3
 exact h3 hu
theorem jZ{ns:List Nd}(h:aO (ac ns)){y:Nd}(hy:b9 y.p):aB (dA Nd.p ns false y) (al y.p)=((aB ns (al y.p)).filter λz=>Op.bytesLess z.1 (ai y.p))++(ai y.p,y.nb)::(aB ns (al y.p)).filter λz=>Op.bytesLess (ai y.p) z.1:=by
 rw[aB,aB,dA,List.filter_append,List.filter_cons,if_pos (by simp),List.map_append,List.map_cons,List.filter_map,List.filter_map,List.filter_filter,List.filter_filter,List.filter_filter,List.filter_filter];congr 2
 .refine List.filter_congr λx hx=>?_;cases hd:(al x.p==al y.p)
  .simp
  have hd':al x.p=al y.p:=by simpa using hd
  rw[(dp h hx).lt hy hd'];simp
 congr 1;refine List.filter_congr λx hx=>?_;cases hd:(al x.p==al y.p)
 .simp
 have hd':al x.p=al y.p:=by simpa using hd
 have hP:=dp h hx;have hnu:j4 y.p x.p=false:=by
  cases hb:j4 y.p x.p
  .rfl
  exfalso;rcases hP.up (fD.1 hb)with e|e
  .rw[hd']at e;have:=hy.under;rw[<-e]at this;exact bS _ this
  rw[hd']at e;exact bS _ (fX hy.under e)
 rw[dx,hy.lt hP hd'.symm,hnu];simp
theorem Cj{ns:List Nd}(h:aO (ac ns)){o y:Nd}(ho:o∈ns)(hp:y.p=o.p)(hn:y.nb=o.nb)(q:LU):aB (dA Nd.p ns true y) q=aB ns q:=by
 have e:ns=_:=xp (f:=Nd.p) (Al h) ho;have e2:(ns.filter λx=>dx true y.p x.p)=ns.filter λx=>gP o.p x.p:=by refine List.filter_congr λx _=>?_;rw[dx,hp];simp
 rw[aB,dA,e2,hp];conv=>rhs;rw[aB,e]
 rw[List.filter_append,List.filter_append,List.map_append,List.map_append,List.filter_cons,List.filter_cons,hp];split
 .rw[List.map_cons,List.map_cons,hp,hn]
 rfl
theorem qw(x:Lit×DataW Unit)(l2:List (Lit×DataW Unit))(h2:∀y∈l2,x.1.before y.1=true):∀l1:List (Lit×DataW Unit),(∀y∈l1,x.1.before y.1=false)->DataW.insert x (l1++l2)=l1++x::l2
 |[],_=>by
  cases l2 with
  |nil=>rfl
  |cons y r=>rw[List.nil_append,DataW.insert,h2 y (by simp),if_pos rfl];rfl
 |y::r,h=>by rw[List.cons_append,DataW.insert,h y (by simp),if_neg (by simp),qw x l2 h2 r (λz hz=>h z (by simp[hz]))];rfl
theorem yh(L:List (LU×Nat))(x:LU):((L.map λp=>(Lit.string p.1,DataW.lit (H:=Unit) (.int .i64 (p.2:Int)))).filter λp=>!p.1.sameKey (Lit.string x))=(L.filter λp=>p.1 != x).map λp=>(Lit.string p.1,DataW.lit (H:=Unit) (.int .i64 (p.2:Int))):=by rw[List.filter_map];congr 1
theorem KX(L:List (LU×Nat))(x:LU):(DK L).del (.string x)=DK (L.filter λz=>z.1 != x):=by rw[DK,DK,DataW.del,yh]
theorem AM{L:List (LU×Nat)}(hL:L.Pairwise λa b=>Op.bytesLess a.1 b.1=true){x:LU}{b:Nat}:(DK L).put (.string x) (.lit (.int .i64 (b:Int)))=DK ((L.filter λz=>Op.bytesLess z.1 x)++(x,b)::L.filter λz=>Op.bytesLess x z.1):=by
 have e:(L.filter λp=>p.1 != x)=(L.filter λz=>Op.bytesLess z.1 x)++L.filter λz=>Op.bytesLess x z.1:=by
  rw[gR _ _ L (hL.imp fun {a c} hl hb=>by
   cases h2:Op.bytesLess c.1 x
   .rfl
   have:=ga (ga hb hl) h2;rw[jU]at this;cases this) (λa _ h1=>m8 h1)]
  refine List.filter_congr λz _=>?_;by_cases hz:z.1=x
  .rw[hz,jU];simp
  have h1:(z.1 != x)=true:=by simpa using hz
  rw[h1];cases h2:Op.bytesLess z.1 x
  .cases h3:Op.bytesLess x z.1
   .exact absurd (kG h2 h3) hz
   rfl
  rfl
 rw[DK,DK,DataW.put,yh,e,List.map_append,qw,List.map_append]
 .rfl
 .intro y hy;obtain⟨z,hz,rfl⟩:=List.mem_map.1 hy;show bytesBefore x z.1=true;rw[lF];exact(List.mem_filter.1 hz).2
 intro y hy;obtain⟨z,hz,rfl⟩:=List.mem_map.1 hy;show bytesBefore x z.1=false;rw[lF];exact m8 (List.mem_filter.1 hz).2
theorem KM.fit{w:World}{b n m:Nat}{L:List (LU×Nat)}(h:KM w b n L)(hm:L.length<=m):KM w b m L:=by obtain⟨es,clock,hb,F,hs,hD⟩:=h;refine⟨es,clock,hb,F,?_,hD⟩;have e:=congrArg Maps.size hD;rw[DK]at e;simp only[Maps.size,Go.length_sorted,List.length_map]at e;simp at e;omega
theorem lf(ns:List Nd)(p:LU):(aB ns p).length<=ns.length:=by rw[aB,List.length_map];exact List.length_filter_le _ _
theorem oo{ns:List Nd}(h:aO (ac ns))(p:LU):(aB ns p).Pairwise λa b=>Op.bytesLess a.1 b.1=true:=by have:=jC (ns:=ns) (by have:=h.ok;rwa [show (ac ns).length=ns.length from by simp[ac]]at this) p;rw[jp,List.pairwise_map];exact this
theorem vR{r:Nd}{ns:List Nd}(h:aO (ac ns))(hr:r.ent=de){x z:Nd}(hx:x∈r::ns)(hz:z∈r::ns)(hp:x.p=z.p):x=z:=by
 have h0:∀y∈ns,y.p≠[]:=λy hy=>(aP (h.ent y.ent (List.mem_map.2 ⟨y,hy,rfl⟩))).1;have hr0:r.p=[]:=by rw[Nd.p,hr];rfl
 rcases mC.1 hx with e1|hx1<;>rcases mC.1 hz with e2|hz1
 .rw[e1,e2]
 .exact absurd (hp.symm.trans (by rw[e1];exact hr0)) (h0 z hz1)
 .exact absurd (hp.trans (by rw[e2];exact hr0)) (h0 x hx1)
 obtain⟨i,hi,rfl⟩:=List.getElem_of_mem hx1;obtain⟨j,hj,rfl⟩:=List.getElem_of_mem hz1;have ho:=List.pairwise_iff_getElem.1 (Al h);rcases Nat.lt_trichotomy i j with hl|rfl|hl
 .have:=ho i j hi hj hl;rw[hp,dr.irr]at this;cases this
 .rfl
 have:=ho j i hj hi hl;rw[hp,dr.irr]at this;cases this
theorem cw.turn{w w':World}{B:Nat}{r:Nd}{ns ns':List Nd}{x:Nd}(h:cw w B r ns)(hx:x∈r::ns')(hsub:∀z∈ns',z∈ns)(hap:(r::ns').Pairwise λx y=>x.mb≠y.mb)(hg:w.grownBy w' (some x.mb)){n:Nat}(hk:KM w' x.mb n (aB ns' x.p))(hsame:∀z∈r::ns',z≠x->aB ns' z.p=aB ns z.p):cw w' B r ns':=by
 have sub:∀z∈r::ns',z∈r::ns:=λz hz=>by
  rcases mC.1 hz with rfl|hz
  .simp
  simp[hsub z hz]
 obtain⟨hx1,hx2,hx3,hx4⟩:=h.all x (sub x hx);refine⟨h.root,λz hz=>?_,hap⟩;obtain⟨h1,h2,h3,h4⟩:=h.all z (sub z hz);refine⟨h1,h2,?_,?_⟩
 .have hne:=(mf hx4 h3 h3).1;exact(hg.block z.nb (gA h3) (by simpa using hne)).trans h3
 by_cases hzx:z=x
 .subst hzx;exact hk.fit (lf _ _)
 have hmb:=fh hap hx hz hzx;rw[hsame z hz hzx];exact KM.fit (World.ownsMap.kept (row:=some x.mb) h4 hg (λe=>hmb (Option.some.inj e))) (by rw[<-hsame z hz hzx];exact lf _ _)
theorem vJ{r:Nd}{ns:List Nd}(h:(r::ns).Pairwise λx y=>x.mb≠y.mb)(f:Nd->Bool):(r::ns.filter f).Pairwise λx y=>x.mb≠y.mb:=by rw[List.pairwise_cons]at h⊢;exact⟨λz hz=>h.1 z (List.mem_filter.1 hz).1,h.2.filter _⟩
theorem Jf{r:Nd}{ns:List Nd}(h:aO (ac ns))(hr:r.ent=de){p:LU}(hp:b9 p)(hno:∀x∈r::ns,x.p≠al p):wo (ac ns) p true=ac ns:=by
 have hr0:r.p=[]:=by rw[Nd.p,hr];rfl
 have hat:∀e∈ac ns,e.path.data.toList≠p:=λe he hep=>by
  rcases h.dir e he with h0|⟨d,hd,hdp,_⟩
  .rw[hep]at h0;exact hno r (by simp) (hr0.trans h0.symm)
  obtain⟨x,hx,rfl⟩:=List.mem_map.1 hd;exact hno x (by simp[hx]) (by rw[<-hep];exact hdp)
 rw[wo,Do,List.filter_eq_self];intro e he;refine dQ.2 ⟨λhu=>?_,λ_=>hat e he⟩;obtain⟨a,u,e1⟩:=hu;obtain⟨k,hk,hke⟩:=List.getElem_of_mem he;have e1':prt e.path.data.toList=prt p++a::u:=e1;obtain⟨q,a',hq,ha,hpa⟩:=rj h.ok (nR _) k e (prt p).length hk (by rw[<-hke];exact gG hk) (by rw[hp];simp) (by rw[e1'];simp);rw[e1',List.take_left'  rfl]at hpa;exact hat a' (mG ha) (gQ hpa)
end Go.Proofs.YtjhobnjdfhkohaaGreatDoor.T
