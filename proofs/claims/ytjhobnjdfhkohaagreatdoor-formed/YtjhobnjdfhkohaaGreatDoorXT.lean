import Derived.Test.YtjhobnjdfhkohaaGreatDoorXR
import Derived.Test.YtjhobnjdfhkohaaGreatDoorXS
import Derived.Laws.AppendOwnNone
set_option linter.all false
set_option maxHeartbeats 2000000
set_option maxRecDepth 100000
namespace Go.Proofs.YtjhobnjdfhkohaaGreatDoor.T
open Go.Proofs.Tryz
open Go.RowKit Go.Maps
theorem mi{r:Nd}{ns:List Nd}(h:aO (ac ns))(hr:r.ent=de){p:LU}{v:Value}(hv:mH r ns p v):(v=.pointer none/\bd (ac ns) p≠1)\/∃x∈r::ns,v=.pointer (some ⟨x.nb,0,none⟩)/\x.p=p/\bd (ac ns) p=x.ent.kind:=by
 have hr0:r.p=[]:=by rw[Nd.p,hr];rfl
 rcases hv with⟨rfl,hno⟩|⟨x,hx,rfl,hp⟩
 .refine .inl ⟨rfl,λhk=>?_⟩;rcases(h.kind p).1 hk with h0|⟨d,hd,hdp,_⟩
  .exact hno r (by simp) (hr0.trans h0.symm)
  obtain⟨x,hx,rfl⟩:=List.mem_map.1 hd;exact hno x (by simp[hx]) hdp
 refine .inr ⟨x,hx,rfl,hp,?_⟩;rcases mC.1 hx with e|e
 .rw[<-hp,e,hr0,hr];rfl
 have hm:x.ent∈ac ns:=List.mem_map.2 ⟨x,e,rfl⟩;have h0:=(aP (h.ent x.ent hm)).1;have hp0:p≠[]:=by rw[<-hp];exact h0
 rw[nl hp0,<-hp];show (match nC (ac ns) x.ent.path.data.toList with|some e=>e.kind|none=>0)=_;rw[h.at hm]
theorem td{r:Nd}{ns:List Nd}{y:Nd}{both:Bool}(h:(r::ns).Pairwise λx y=>x.mb≠y.mb)(hfr:∀z∈r::dA Nd.p ns both y,z≠y->z.mb≠y.mb)(hry:r≠y)(hny:∀z∈ns,gP z.p y.p=true\/gP y.p z.p=true->z≠y):(r::dA Nd.p ns both y).Pairwise λx y=>x.mb≠y.mb:=by
 have hc:=List.pairwise_cons.1 h;have k1:∀z∈ns.filter (λx=>gP x.p y.p),z.mb≠y.mb:=λz hz=>hfr z (List.mem_cons_of_mem _ (dY.2 (.inr ⟨(List.mem_filter.1 hz).1,.inl (List.mem_filter.1 hz).2⟩))) (hny z (List.mem_filter.1 hz).1 (.inl (List.mem_filter.1 hz).2));have k2:∀z∈ns.filter (λx=>dx both y.p x.p),z.mb≠y.mb:=λz hz=>hfr z (List.mem_cons_of_mem _ (dY.2 (.inr ⟨(List.mem_filter.1 hz).1,.inr (List.mem_filter.1 hz).2⟩))) (hny z (List.mem_filter.1 hz).1 (.inr (aT.1 (List.mem_filter.1 hz).2).1));refine List.pairwise_cons.2 ⟨λz hz=>?_,?_⟩
 .rcases dY.1 hz with e|⟨e,_⟩
  .rw[e];exact hfr r (by simp) hry
  exact hc.1 z e
 rw[dA,List.pairwise_append,List.pairwise_cons];refine⟨hc.2.filter _,⟨λz hz=>(k2 z hz).symm,hc.2.filter _⟩,λa ha b hb=>?_⟩;rcases mC.1 hb with e|e
 .rw[e];exact k1 a ha
 have h1:=(List.mem_filter.1 ha)
 have h2:=(List.mem_filter.1 e)
 refine fh hc.2 h2.1 h1.1 (λe=>?_);have h3:=h1.2;rw[e]at h3;have:=dr.trans h3 (aT.1 h2.2).1;rw[dr.irr]at this;cases this
theorem cw.put{w w':World}{B:Nat}{r:Nd}{ns:List Nd}{x y:Nd}(h:cw w B r ns)(hT:aO (ac ns))(hx:x∈r::ns)(hxd:x.p=al y.p)(hy:b9 y.p)(hy1:B<=y.nb)(hy2:B<=y.mb)(hyc:w.heap[y.nb]?=some (.cells y.cells 172 (0,0)))(hyk:KM w y.mb 0 [])(hfr:∀z∈r::ns,z.mb≠y.mb)(hg:w.grownBy w' (some x.mb)){n:Nat}(hk:KM w' x.mb n (aB (dA Nd.p ns false y) x.p)):cw w' B r (dA Nd.p ns false y):=by
 have hr0:r.p=[]:=by rw[Nd.p,h.root];rfl
 have hy0:y.p≠[]:=λe=>by have h5:=congrArg List.length (show prt y.p=_ from hy);rw[e]at h5;simp[prt]at h5
 obtain⟨_,_,hx3,hx4⟩:=h.all x hx;have hap:(r::dA Nd.p ns false y).Pairwise λx y=>x.mb≠y.mb:=by
  refine td h.apart (λz hz hne=>?_) (λe=>hy0 (by rw[<-e];exact hr0)) (λz _ hl e=>?_)
  .rcases mC.1 hz with e|e
   .rw[e];exact hfr r (by simp)
   rcases dY.1 e with e|⟨e,_⟩
   .exact absurd e hne
   exact hfr z (by simp[e])
  rw[e,dr.irr]at hl;rcases hl with hl|hl<;>cases hl
 refine⟨h.root,λz hz=>?_,hap⟩;have key:z=y\/(z∈r::ns/\z.p≠y.p/\¬under y.p z.p):=by
  rcases mC.1 hz with e|e
  .right;refine⟨by rw[e];simp,by rw[e,hr0];exact hy0.symm,λ⟨a,u,e1⟩=>?_⟩;rw[e,hr0]at e1;simp[prt]at e1
  rcases dY.1 e with e|⟨e,h1|h1⟩
  .exact .inl e
  .refine .inr ⟨by simp[e],λe2=>?_,λhu=>?_⟩
   .rw[e2,dr.irr]at h1;cases h1
   rw[gC hu]at h1;cases h1
  have h2:=aT.1 h1;refine .inr ⟨by simp[e],λe2=>?_,λhu=>?_⟩
  .rw[e2,dr.irr]at h2;cases h2.1
  rcases h2.2 with h3|h3
  .cases h3
  exact h3 hu
 rcases key with e|⟨hm,hp1,hp2⟩
 .rw[e];have hne:=(mf hx4 hyc hyc).1;refine⟨hy1,hy2,(hg.block y.nb (gA hyc) (by simpa using hne)).trans hyc,?_⟩;rw[vV hT hy];exact KM.fit (World.ownsMap.kept (row:=some x.mb) hyk hg (λe=>hfr x hx (Option.some.inj e).symm)) (by simp)
 obtain⟨h1,h2,h3,h4⟩:=h.all z hm;have hne:=(mf hx4 h3 h3).1;refine⟨h1,h2,(hg.block z.nb (gA h3) (by simpa using hne)).trans h3,?_⟩;by_cases hzx:z=x
 .rw[hzx];exact hk.fit (lf _ _)
 have hq:z.p≠al y.p:=λe=>hzx (vR hT h.root hm hx (e.trans hxd.symm));have e5:=sE hT hq hp1 hp2;have h6:=lf (dA Nd.p ns false y) z.p;rw[e5]at h6⊢;exact KM.fit (World.ownsMap.kept (row:=some x.mb) h4 hg (λe=>fh h.apart hx hm hzx (Option.some.inj e))) h6
theorem cw.over{w w':World}{B:Nat}{r:Nd}{ns:List Nd}{z:Nd}{e:aj}(h:cw w B r ns)(hT:aO (ac ns))(hz:z∈ns)(hzp:z.p=e.path.data.toList)(hc:w'.heap[z.nb]?=some (.cells (Nd.cells ⟨e,z.nb,z.mb⟩) 172 (0,0)))(ho:∀k,k≠z.nb->w'.heap[k]?=w.heap[k]?):cw w' B r (dA Nd.p ns true ⟨e,z.nb,z.mb⟩):=by
 have hr0:r.p=[]:=by rw[Nd.p,h.root];rfl
 obtain⟨hz1,hz2,hz3,hz4⟩:=h.all z (by simp[hz]);have hz0:z.p≠[]:=(aP (hT.ent z.ent (List.mem_map.2 ⟨z,hz,rfl⟩))).1;have hyp:Nd.p ⟨e,z.nb,z.mb⟩=z.p:=hzp.symm;have kKM:∀{b n L},KM w b n L->KM w' b n L:=fun {b n L} hk=>by have hne:=(mf hk hz3 hz3).1;obtain⟨es,clock,hb,F,hs,hD⟩:=hk;exact⟨es,clock,(ho b hne.symm).trans hb,F,hs,hD⟩
 have hnb:∀u∈r::ns,u.p≠z.p->u.nb≠z.nb/\u.mb≠z.mb:=λu hu hp=>by have hmb:=fh h.apart (x:=z) (z:=u) (by simp[hz]) hu (λe=>hp (by rw[e]));refine⟨λen=>hmb ?_,hmb⟩;have h3:=(h.all u hu).2.2.1;rw[en,hz3]at h3;have h4:=congrArg (λo=>match o with|some (Obj.cells cs _ _)=>cs[4]?|_=>none) h3;simp[Nd.cells]at h4;exact h4.symm
 have sub:∀u∈r::dA Nd.p ns true ⟨e,z.nb,z.mb⟩,u=⟨e,z.nb,z.mb⟩\/(u∈r::ns/\u.p≠z.p):=λu hu=>by
  rcases mC.1 hu with e1|e1
  .exact .inr ⟨by rw[e1];simp,by rw[e1,hr0];exact hz0.symm⟩
  rcases dY.1 e1 with e2|⟨e2,h1|h1⟩
  .exact .inl e2
  .rw[hyp]at h1;exact .inr ⟨by simp[e2],λe3=>by rw[e3,dr.irr]at h1;cases h1⟩
  rw[hyp]at h1;exact .inr ⟨by simp[e2],λe3=>by have:=(aT.1 h1).1;rw[e3,dr.irr]at this;cases this⟩
 refine⟨h.root,λu hu=>?_,?_⟩
 .have hl:=lf (dA Nd.p ns true ⟨e,z.nb,z.mb⟩) u.p;rw[Cj hT hz hyp rfl]at hl⊢;rcases sub u hu with e1|⟨e1,e2⟩
  .subst e1;refine⟨hz1,hz2,hc,?_⟩;rw[hyp]at hl⊢;exact(kKM hz4).fit hl
  obtain⟨h1,h2,h3,h4⟩:=h.all u e1;exact⟨h1,h2,(ho _ (hnb u e1 e2).1).trans h3,(kKM h4).fit hl⟩
 refine td h.apart (λu hu hne=>?_) (λe1=>hz0 (by rw[<-hyp,<-e1];exact hr0)) (λu _ hl e1=>?_)
 .rcases sub u hu with e1|⟨e1,e2⟩
  .exact absurd e1 hne
  exact(hnb u e1 e2).2
 rw[e1,dr.irr]at hl;rcases hl with hl|hl<;>cases hl
theorem Cp{ns:List Nd}{x:Nd}{e:aj}{nn:LU}(h:aO (ac ns))(he:bK e=true)(hxd:x.p=al e.path.data.toList)(hnn:nn=ai e.path.data.toList)(hno:∀p∈aB ns x.p,p.1≠nn):j6 (ac ns) e=false:=by
 have hk:¬bd (ac ns) e.path.data.toList=1:=λhk=>by
  rcases(h.kind _).1 hk with h0|⟨d,hd,hdp,_⟩
  .exact(aP he).1 h0
  obtain⟨z,hz,rfl⟩:=List.mem_map.1 hd;have h2:=AU hz;have hzp:z.p=e.path.data.toList:=hdp;rw[hzp,<-hxd]at h2;exact hno _ h2 hnn.symm
 rw[j6,dF hk];rfl
theorem tI{ns:List Nd}{z:Nd}{e:aj}(h:aO (ac ns))(hz:z∈ns)(hzp:z.p=e.path.data.toList):j6 (ac ns) e=(decide (z.ent.kind=1)&&decide (e.kind=1)):=by have hm:z.ent∈ac ns:=List.mem_map.2 ⟨z,hz,rfl⟩;have h0:=(aP (h.ent z.ent hm)).1;have hzp':z.ent.path.data.toList=e.path.data.toList:=hzp;rw[j6,nl (by rw[<-hzp'];exact h0),<-hzp',h.at hm]
def KI(r:Nd)(ns:List Nd)(g:Nat):Prop:=∀x∈r::ns,g≠x.nb/\g≠x.mb
def lT(r:Nd)(ns:List Nd)(w w':World):Prop:=∀g,g<w.heap.size->KI r ns g->w'.heap[g]?=w.heap[g]?
def pN(n:Nat)(ns ns':List Nd):Prop:=∀y∈ns',(∃x∈ns,y.nb=x.nb/\y.mb=x.mb)\/(n<=y.nb/\n<=y.mb)
theorem cM{r:Nd}{ns:List Nd}{w w':World}(h:Bw w w'):lT r ns w w':=λg hg _=>h.block g hg
theorem dn(n:Nat)(ns:List Nd):pN n ns ns:=λy hy=>.inl ⟨y,hy,rfl,rfl⟩
theorem KI.grew{r:Nd}{ns ns':List Nd}{g n:Nat}(h:KI r ns g)(hg:g<n)(hn:pN n ns ns'):KI r ns' g:=λx hx=>by
 rcases mC.1 hx with rfl|hx
 .exact h x (by simp)
 rcases hn x hx with⟨y,hy,e1,e2⟩|⟨h1,h2⟩
 .rw[e1,e2];exact h y (by simp[hy])
 omega
theorem lT.trans{r:Nd}{ns ns':List Nd}{w w1 w2:World}(h1:lT r ns w w1)(hn:pN w.heap.size ns ns')(hs:w.heap.size<=w1.heap.size)(h2:lT r ns' w1 w2):lT r ns w w2:=λg hg ho=>
 (h2 g (by omega) (ho.grew hg hn)).trans (h1 g hg ho)
theorem pN.trans{n m:Nat}{a b c:List Nd}(h1:pN n a b)(h2:pN m b c)(hm:n<=m):pN n a c:=λy hy=>by
 rcases h2 y hy with⟨x,hx,e1,e2⟩|⟨g1,g2⟩
 .rcases h1 x hx with⟨z,hz,e3,e4⟩|⟨g1,g2⟩
  .exact .inl ⟨z,hz,e1.trans e3,e2.trans e4⟩
  exact .inr ⟨by omega,by omega⟩
 exact .inr ⟨by omega,by omega⟩
theorem rE{r:Nd}{ns:List Nd}{w w':World}{x:Nd}(hx:x∈r::ns)(h:w.grownBy w' (some x.mb)):lT r ns w w':=λg hg ho=>h.block g hg (λe=>(ho x hx).2 (by simpa using e))
theorem DI{r:Nd}{ns:List Nd}{w w':World}{z:Nd}(hz:z∈r::ns)(ho:∀k,k≠z.nb->w'.heap[k]?=w.heap[k]?):lT r ns w w':=λg _ h=>ho g (h z hz).1
theorem nJ{n:Nat}{ns:List Nd}{both:Bool}{y:Nd}(h:n<=y.nb/\n<=y.mb\/∃x∈ns,y.nb=x.nb/\y.mb=x.mb):pN n ns (dA Nd.p ns both y):=λz hz=>by
 rcases dY.1 hz with rfl|⟨hz,_⟩
 .rcases h with h|h
  .exact .inr h
  exact .inl h
 exact .inl ⟨z,hz,rfl,rfl⟩
theorem cw.out{w:World}{B:Nat}{r:Nd}{ns:List Nd}(h:cw w B r ns){g t:Nat}{cs:Array Value}{f:Nat×Nat}(hg:w.heap[g]?=some (.cells cs t f))(ht:t≠172):KI r ns g:=λx hx=>by obtain⟨_,_,h3,h4⟩:=h.all x hx;refine⟨λe=>?_,(mf h4 hg h3).1⟩;subst e;rw[hg]at h3;injection h3 with h3;injection h3 with _ h3 _;exact ht h3
theorem cw.new{w:World}{B:Nat}{r:Nd}{ns:List Nd}(h:cw w B r ns){g:Nat}(hg:w.heap.size<=g):KI r ns g:=λx hx=>by
 obtain⟨_,_,h3,h4⟩:=h.all x hx;have h5:=(gA h3)
 have h6:=World.ownsMap.lt h4;omega
theorem qA(r:Nd)(ns:List Nd)(B:Nat)(e:aj)(m:Int)(w:World)(hM:cw w B r ns)(HT:Hid (aO (ac ns)))(HE:Hid (bK e=true))(hn:ns.length<=1000)(hB:B<=w.heap.size)(hs:e.path.size<=1048576)(hm:w.cell? ⟨1,0,none⟩=some (.int .i64 m)): Cl 72 #[.pointer (some ⟨r.nb,0,none⟩),.agg #[.string e.path,.int .i64 e.kind,.int .i64 e.mode,.string e.data]] w λev w'=>∃b:Bool,ev=.returned (.bool b)/\Hid (b=decide (bd (ac ns) (al e.path.data.toList)=1))/\Hid (b=true->∃ns',cw w' B r ns'/\ac ns'=oU (ac ns) e/\pN w.heap.size ns ns')/\Hid (lT r ns w w')/\Below B w w':=by
 have HM:=ab hm;have HMem:=ab hM;have HB:=ab hB;have hB0:∀o,Bw w (w.alloc o):=λo=>(bR _ _).alloc (nR _) o;have HO:Hid (cX (ac ns) ns.length):=ab (by have:=(uh HT).ok;rwa [show (ac ns).length=ns.length from by simp[ac]]at this);clear hm hM hB;go_enter func72,ntmps72;go_upto_region 2 with(go_at_call 100;refine(eE e.path _ (by omega)).mono ?_;rintro ev w1⟨dd,nn,rfl,HD,HNm,hb1⟩)
 have hB1:Bw w w1:=(hB0 _).trans (hb1.mono (by simp));have hq:=(hb1.block w.heap.size (by simp)).trans (hN _ _);have hdd:dd.size<=1048576:=by rw[zE,uh HD];exact nT (mN _) (by rw[<-zE];exact hs)
 have hnn:nn.size<=1048576:=by rw[zE,uh HNm];exact nT (fQ _) (by rw[<-zE];exact hs)
 have HQ:=ab hq;clear hq hb1;go_upto_region 3 with(go_at_call 101;refine(cY r ns B dd m _ ((uh HMem).below hB1) HO hdd (cL hB1 (uh HM))).mono ?_;rintro ev w2⟨v,rfl,HF,hb2⟩)
 have hB2:Bw w w2:=hB1.trans (hb2.mono hB1.size);have hq2:w2.heap[w.heap.size]?=some (.cells #[.string e.path,.int .i64 e.kind,.int .i64 e.mode,.string e.data] 39 (0,0)):=(hb2.block w.heap.size (gA (uh HQ))).trans (uh HQ);have hM2:=(uh HMem).below hB2;have hBz:=uh HB;rcases mi (uh HT) hM2.root (uh HF)with⟨rfl,hk⟩|⟨x,hx,rfl,hxp,hk⟩
 .have C:Hid (false=decide (bd (ac ns) (al e.path.data.toList)=1)):=ab (by rw[<-uh HD];exact(dF hk).symm);clear hk HF hM2 hq2 HQ;go_wp2_with (go_at_call 102;refine(jt _).mono ?_;rintro ev w3⟨rfl,hw⟩;obtain rfl:=hw.symm)
  go_ret;exact⟨false,rfl,C,ab (by intro h;cases h),ab (cM hB2),hB2.mono hBz⟩
 obtain⟨hx1,hx2,hx3,hx4⟩:=hM2.all x hx;have c1:w2.cell? ⟨x.nb,1,none⟩=some (.int .i64 x.ent.kind):=cell_of_row w2 x.nb 1 _ _ _ hx3;have c4:w2.cell? ⟨x.nb,4,none⟩=some (.map (some x.mb)):=cell_of_row w2 x.nb 4 _ _ _ hx3;have q0:w2.cell? ⟨w.heap.size,0,none⟩=some (.string e.path):=cell_of_row w2 w.heap.size 0 _ _ _ hq2;have q1:w2.cell? ⟨w.heap.size,1,none⟩=some (.int .i64 e.kind):=cell_of_row w2 w.heap.size 1 _ _ _ hq2;have q2:w2.cell? ⟨w.heap.size,2,none⟩=some (.int .i64 e.mode):=cell_of_row w2 w.heap.size 2 _ _ _ hq2;have q3:w2.cell? ⟨w.heap.size,3,none⟩=some (.string e.data):=cell_of_row w2 w.heap.size 3 _ _ _ hq2;by_cases k1:x.ent.kind=1
 .have C:Hid (true=decide (bd (ac ns) (al e.path.data.toList)=1)):=ab (by rw[<-uh HD,hk,k1];rfl);have k2:(x.ent.kind==1)=true:=by simp[k1]
  rw[k1]at c1;have HX:=ab hx;have HXp:=ab hxp;have HX4:=ab hx4;have HM2:=ab hM2;have HX3:=ab hx3;have HQ2:=ab hq2;have HXd:Hid (x.p=al e.path.data.toList):=ab (hxp.trans (uh HD));rcases hx4.look nn (by omega) false with⟨hlk,hno⟩|⟨q,hq,hlk⟩
  .have HBo:Hid (j6 (ac ns) e=false):=ab (Cp (uh HT) (uh HE) (uh HXd) (uh HNm) hno);simp only[Bool.false_eq_true,if_false]at hlk;clear hx hxp hx4 hM2 hk HF hx3 hq2 hx1 hx2 hno;go_upto_region 5 with(go_at_call 102;refine(cd _ _ _ c1).mono ?_;rintro ev w3⟨rfl,hw⟩;obtain rfl:=hw.symm)
   go_upto_region 8 with(go_at_call 102;refine(jt _).mono ?_;rintro ev w3⟨rfl,hw⟩;obtain rfl:=hw.symm)
   go_region_held3 (λw'=>w'.cell? ⟨x.nb,4,none⟩=some (.map (some x.mb))/\w'.cell? ⟨w.heap.size,0,none⟩=some (.string e.path)/\w'.cell? ⟨w.heap.size,1,none⟩=some (.int .i64 e.kind)/\w'.cell? ⟨w.heap.size,2,none⟩=some (.int .i64 e.mode)/\w'.cell? ⟨w.heap.size,3,none⟩=some (.string e.data)) (first|exact⟨aH hg6 p4 (uh HNE).1,aH hg6 p0 (uh HNE).2,aH hg6 p1 (uh HNE).2,aH hg6 p2 (uh HNE).2,aH hg6 p3 (uh HNE).2⟩|exact⟨p4,p0,p1,p2,p3⟩|go_keep) (first|(go_at_call 94;refine(eX e _).mono ?_;rintro ev w5⟨nb,mb,rfl,hnb,hmb,HN5,hb5⟩;have p4:=cL (am hb5) c4;have p0:=cL (am hb5) q0;have p1:=cL (am hb5) q1;have p2:=cL (am hb5) q2;have p3:=cL (am hb5) q3;obtain⟨w6,hrun6,hown6,hg6⟩:=World.ownsMap.update ((uh HX4).below (am hb5)) (Maps.string_keyed underlying9) underlying170 (by unfold maxLen;omega) (WideMaps.keyOf_string_mk underlying9 (s:=nn) (by unfold maxLen;omega)) (show RK (.pointer (some ⟨nb,0,none⟩))=some (.lit (.int .i64 (nb:Int)),[]) from rfl);have HNE:Hid (x.nb≠x.mb/\w.heap.size≠x.mb):=ab (mf (uh HX4) (uh HX3) (uh HQ2))))
   have hxx:=(uh HM2).all x (uh HX);have R1:Below B w w5:=(hB2.mono hBz).trans (Below.mono (B':=B) (am hb5) (nT hBz hB2.size));have R2:Below B w w6:=R1.grown hg6 (nT hBz R1.size) (λq hq=>by cases hq;exact hxx.2.1);have hPy:b9 (Nd.p ⟨e,nb,mb⟩):=dZ (uh HE);have R3:KM w6 x.mb (ns.length+1) (aB (dA Nd.p ns false ⟨e,nb,mb⟩) x.p):=by have h:=hown6;rw[uh HNm,AM (oo (uh HT) x.p)]at h;rw[uh HXd]at h⊢;rw[show al e.path.data.toList=al (Nd.p ⟨e,nb,mb⟩) from rfl,jZ (uh HT) hPy];exact h
   have hz2:B<=w2.heap.size:=nT hBz hB2.size;have hnb':w2.heap.size<=nb:=hnb;have hmb':w2.heap.size<=mb:=hmb;have R4:cw w6 B r (dA Nd.p ns false ⟨e,nb,mb⟩):=cw.put ((uh HM2).below (am hb5)) (uh HT) (uh HX) (uh HXd) hPy (nT hz2 hnb') (nT hz2 hmb') (uh HN5).1 (uh HN5).2 (λz hz=>by have:=World.ownsMap.lt ((uh HM2).all z hz).2.2.2;show z.mb≠mb;omega) hg6 R3;go_wp2_with fail;go_ret;exact⟨true,rfl,C,ab (λ_=>⟨_,R4,by rw[lD,oU,uh HBo],nJ (.inl ⟨nT hB2.size hnb',nT hB2.size hmb'⟩)⟩),ab ((cM (hB2.trans ((am hb5).mono hB2.size))).trans (dn _ _) (nT hB2.size (am hb5).size) (rE (uh HX) hg6)),R2⟩
  obtain⟨z,hz,hzd,hzn,hzq⟩:=qC hq;subst hzq;obtain⟨_,_,hz3,_⟩:=hM2.all z (by simp[hz]);have z1:w2.cell? ⟨z.nb,1,none⟩=some (.int .i64 z.ent.kind):=cell_of_row w2 z.nb 1 _ _ _ hz3;have HZp:Hid (z.p=e.path.data.toList):=ab ((dp (uh HT) hz).eq (dZ (uh HE)) (hzd.trans (uh HXd)) (hzn.trans (uh HNm)));have HZ:=ab hz;have HZ3:=ab hz3;simp only[Bool.false_eq_true,if_false]at hlk;by_cases hb:z.ent.kind=1/\e.kind=1
  .obtain⟨kz,ke⟩:=hb;have HBo:Hid (j6 (ac ns) e=true):=ab (by rw[tI (uh HT) (uh HZ) (uh HZp),kz,ke];rfl);rw[kz]at z1;have hq1:=q1;rw[ke]at hq1;have z0:w2.cell? ⟨z.nb,0,none⟩=some (.string z.ent.path):=cell_of_row w2 z.nb 0 _ _ _ hz3;have f0:=frozen_of_row w2 z.nb 0 _ _ hz3;have f1:=frozen_of_row w2 z.nb 1 _ _ hz3;have f2:=frozen_of_row w2 z.nb 2 _ _ hz3;have f3:=frozen_of_row w2 z.nb 3 _ _ hz3;have HZ1:=ab hz3;have m1:=hS w2 z.nb 0 _ _ (.string e.path) hz3;have m2:=hS _ z.nb 1 _ _ (.int .i64 1) m1;have m3:=hS _ z.nb 2 _ _ (.int .i64 e.mode) m2;have m4:=hS _ z.nb 3 _ _ (.string e.data) m3;have t1:(w2.setCell ⟨z.nb,0,none⟩ (.string e.path)).cell? ⟨z.nb,1,none⟩=some (.int .i64 z.ent.kind):=cell_of_row _ z.nb 1 _ _ _ m1;have t2:((w2.setCell ⟨z.nb,0,none⟩ (.string e.path)).setCell ⟨z.nb,1,none⟩ (.int .i64 1)).cell? ⟨z.nb,2,none⟩=some (.int .i64 z.ent.mode):=cell_of_row _ z.nb 2 _ _ _ m2;have t3:(((w2.setCell ⟨z.nb,0,none⟩ (.string e.path)).setCell ⟨z.nb,1,none⟩ (.int .i64 1)).setCell ⟨z.nb,2,none⟩ (.int .i64 e.mode)).cell? ⟨z.nb,3,none⟩=some (.string z.ent.data):=cell_of_row _ z.nb 3 _ _ _ m3;have HC:Hid (((((w2.setCell ⟨z.nb,0,none⟩ (.string e.path)).setCell ⟨z.nb,1,none⟩ (.int .i64 1)).setCell ⟨z.nb,2,none⟩ (.int .i64 e.mode)).setCell ⟨z.nb,3,none⟩ (.string e.data)).heap[z.nb]?=some (.cells (Nd.cells ⟨e,z.nb,z.mb⟩) 172 (0,0))):=ab (by rw[m4,Nd.cells,Nd.cells,ke];rfl);have hzb:B<=z.nb:=(hM2.all z (by simp[hz])).1;clear m1 m2 m3 m4;clear hx hxp hx4 hM2 hk HF hx3 hq2 hx1 hx2 hq hz hz3 hzd hzn q1;go_upto_region 5 with(go_at_call 102;refine(cd _ _ _ c1).mono ?_;rintro ev w3⟨rfl,hw⟩;obtain rfl:=hw.symm)
   go_wp2_with (go_at_call 102;refine(cd _ _ _ z1).mono ?_;rintro ev w3⟨rfl,hw⟩;obtain rfl:=hw.symm)
   go_ret;have ho:∀k,k≠z.nb->((((w2.setCell ⟨z.nb,0,none⟩ (.string e.path)).setCell ⟨z.nb,1,none⟩ (.int .i64 1)).setCell ⟨z.nb,2,none⟩ (.int .i64 e.mode)).setCell ⟨z.nb,3,none⟩ (.string e.data)).heap[k]?=w2.heap[k]?:=λk hk=>by rw[heap_setCell_other _ _ _ _ hk,heap_setCell_other _ _ _ _ hk,heap_setCell_other _ _ _ _ hk,heap_setCell_other _ _ _ _ hk]
   exact⟨true,rfl,C,ab (λ_=>⟨_,cw.over (uh HM2) (uh HT) (uh HZ) (uh HZp) (uh HC) ho,by rw[lD,oU,uh HBo],nJ (.inr ⟨z,uh HZ,rfl,rfl⟩)⟩),ab ((cM hB2).trans (dn _ _) hB2.size (DI (List.mem_cons_of_mem _ (uh HZ)) ho)),((((hB2.mono hBz).setCell hzb _).setCell hzb _).setCell hzb _).setCell hzb _⟩
  have HBo:Hid (j6 (ac ns) e=false):=ab (by
   rw[tI (uh HT) (uh HZ) (uh HZp)];cases h1:decide (z.ent.kind=1)<;>cases h2:decide (e.kind=1)
   .rfl
   .rfl
   .rfl
   exact absurd ⟨of_decide_eq_true h1,of_decide_eq_true h2⟩ hb)
  clear hx hxp hx4 hM2 hk HF hx3 hq2 hx1 hx2 hq hz hz3 hzd hzn;by_cases kz:z.ent.kind=1
  .have ke:¬e.kind=1:=λh=>hb ⟨kz,h⟩;have ke':(e.kind==1)=false:=by simp[ke]
   rw[kz]at z1;clear hb;go_upto_region 5 with(go_at_call 102;refine(cd _ _ _ c1).mono ?_;rintro ev w3⟨rfl,hw⟩;obtain rfl:=hw.symm)
   go_upto_region 8 with(go_at_call 102;refine(cd _ _ _ z1).mono ?_;rintro ev w3⟨rfl,hw⟩;obtain rfl:=hw.symm)
   go_region_held3 (λw'=>w'.cell? ⟨x.nb,4,none⟩=some (.map (some x.mb))/\w'.cell? ⟨w.heap.size,0,none⟩=some (.string e.path)/\w'.cell? ⟨w.heap.size,1,none⟩=some (.int .i64 e.kind)/\w'.cell? ⟨w.heap.size,2,none⟩=some (.int .i64 e.mode)/\w'.cell? ⟨w.heap.size,3,none⟩=some (.string e.data)) (first|exact⟨aH hg6 p4 (uh HNE).1,aH hg6 p0 (uh HNE).2,aH hg6 p1 (uh HNE).2,aH hg6 p2 (uh HNE).2,aH hg6 p3 (uh HNE).2⟩|exact⟨p4,p0,p1,p2,p3⟩|go_keep) (first|(go_at_call 94;refine(eX e _).mono ?_;rintro ev w5⟨nb,mb,rfl,hnb,hmb,HN5,hb5⟩;have p4:=cL (am hb5) c4;have p0:=cL (am hb5) q0;have p1:=cL (am hb5) q1;have p2:=cL (am hb5) q2;have p3:=cL (am hb5) q3;obtain⟨w6,hrun6,hown6,hg6⟩:=World.ownsMap.update ((uh HX4).below (am hb5)) (Maps.string_keyed underlying9) underlying170 (by unfold maxLen;omega) (WideMaps.keyOf_string_mk underlying9 (s:=nn) (by unfold maxLen;omega)) (show RK (.pointer (some ⟨nb,0,none⟩))=some (.lit (.int .i64 (nb:Int)),[]) from rfl);have HNE:Hid (x.nb≠x.mb/\w.heap.size≠x.mb):=ab (mf (uh HX4) (uh HX3) (uh HQ2))))
   have hxx:=(uh HM2).all x (uh HX);have R1:Below B w w5:=(hB2.mono hBz).trans (Below.mono (B':=B) (am hb5) (nT hBz hB2.size));have R2:Below B w w6:=R1.grown hg6 (nT hBz R1.size) (λq hq=>by cases hq;exact hxx.2.1);have hPy:b9 (Nd.p ⟨e,nb,mb⟩):=dZ (uh HE);have R3:KM w6 x.mb (ns.length+1) (aB (dA Nd.p ns false ⟨e,nb,mb⟩) x.p):=by have h:=hown6;rw[uh HNm,AM (oo (uh HT) x.p)]at h;rw[uh HXd]at h⊢;rw[show al e.path.data.toList=al (Nd.p ⟨e,nb,mb⟩) from rfl,jZ (uh HT) hPy];exact h
   have hz2:B<=w2.heap.size:=nT hBz hB2.size;have hnb':w2.heap.size<=nb:=hnb;have hmb':w2.heap.size<=mb:=hmb;have R4:cw w6 B r (dA Nd.p ns false ⟨e,nb,mb⟩):=cw.put ((uh HM2).below (am hb5)) (uh HT) (uh HX) (uh HXd) hPy (nT hz2 hnb') (nT hz2 hmb') (uh HN5).1 (uh HN5).2 (λz hz=>by have:=World.ownsMap.lt ((uh HM2).all z hz).2.2.2;show z.mb≠mb;omega) hg6 R3;go_wp2_with fail;go_ret;exact⟨true,rfl,C,ab (λ_=>⟨_,R4,by rw[lD,oU,uh HBo],nJ (.inl ⟨nT hB2.size hnb',nT hB2.size hmb'⟩)⟩),ab ((cM (hB2.trans ((am hb5).mono hB2.size))).trans (dn _ _) (nT hB2.size (am hb5).size) (rE (uh HX) hg6)),R2⟩
  have hDz:Cl 102 #[.pointer (some ⟨z.nb,0,none⟩)] w2 λev w'=>ev=.returned (.bool false)/\w'=w2:=by have:=cd _ _ _ z1;rw[dF kz]at this;exact this
  clear hb kz z1;go_upto_region 5 with(go_at_call 102;refine(cd _ _ _ c1).mono ?_;rintro ev w3⟨rfl,hw⟩;obtain rfl:=hw.symm)
  go_upto_region 8 with(go_at_call 102;refine hDz.mono ?_;rintro ev w3⟨rfl,hw⟩;obtain rfl:=hw.symm)
  go_region_held3 (λw'=>w'.cell? ⟨x.nb,4,none⟩=some (.map (some x.mb))/\w'.cell? ⟨w.heap.size,0,none⟩=some (.string e.path)/\w'.cell? ⟨w.heap.size,1,none⟩=some (.int .i64 e.kind)/\w'.cell? ⟨w.heap.size,2,none⟩=some (.int .i64 e.mode)/\w'.cell? ⟨w.heap.size,3,none⟩=some (.string e.data)) (first|exact⟨aH hg6 p4 (uh HNE).1,aH hg6 p0 (uh HNE).2,aH hg6 p1 (uh HNE).2,aH hg6 p2 (uh HNE).2,aH hg6 p3 (uh HNE).2⟩|exact⟨p4,p0,p1,p2,p3⟩|go_keep) (first|(go_at_call 94;refine(eX e _).mono ?_;rintro ev w5⟨nb,mb,rfl,hnb,hmb,HN5,hb5⟩;have p4:=cL (am hb5) c4;have p0:=cL (am hb5) q0;have p1:=cL (am hb5) q1;have p2:=cL (am hb5) q2;have p3:=cL (am hb5) q3;obtain⟨w6,hrun6,hown6,hg6⟩:=World.ownsMap.update ((uh HX4).below (am hb5)) (Maps.string_keyed underlying9) underlying170 (by unfold maxLen;omega) (WideMaps.keyOf_string_mk underlying9 (s:=nn) (by unfold maxLen;omega)) (show RK (.pointer (some ⟨nb,0,none⟩))=some (.lit (.int .i64 (nb:Int)),[]) from rfl);have HNE:Hid (x.nb≠x.mb/\w.heap.size≠x.mb):=ab (mf (uh HX4) (uh HX3) (uh HQ2))))
  have hxx:=(uh HM2).all x (uh HX);have R1:Below B w w5:=(hB2.mono hBz).trans (Below.mono (B':=B) (am hb5) (nT hBz hB2.size));have R2:Below B w w6:=R1.grown hg6 (nT hBz R1.size) (λq hq=>by cases hq;exact hxx.2.1);have hPy:b9 (Nd.p ⟨e,nb,mb⟩):=dZ (uh HE);have R3:KM w6 x.mb (ns.length+1) (aB (dA Nd.p ns false ⟨e,nb,mb⟩) x.p):=by have h:=hown6;rw[uh HNm,AM (oo (uh HT) x.p)]at h;rw[uh HXd]at h⊢;rw[show al e.path.data.toList=al (Nd.p ⟨e,nb,mb⟩) from rfl,jZ (uh HT) hPy];exact h
  have hz2:B<=w2.heap.size:=nT hBz hB2.size;have hnb':w2.heap.size<=nb:=hnb;have hmb':w2.heap.size<=mb:=hmb;have R4:cw w6 B r (dA Nd.p ns false ⟨e,nb,mb⟩):=cw.put ((uh HM2).below (am hb5)) (uh HT) (uh HX) (uh HXd) hPy (nT hz2 hnb') (nT hz2 hmb') (uh HN5).1 (uh HN5).2 (λz hz=>by have:=World.ownsMap.lt ((uh HM2).all z hz).2.2.2;show z.mb≠mb;omega) hg6 R3;go_wp2_with fail;go_ret;exact⟨true,rfl,C,ab (λ_=>⟨_,R4,by rw[lD,oU,uh HBo],nJ (.inl ⟨nT hB2.size hnb',nT hB2.size hmb'⟩)⟩),ab ((cM (hB2.trans ((am hb5).mono hB2.size))).trans (dn _ _) (nT hB2.size (am hb5).size) (rE (uh HX) hg6)),R2⟩
 have C:Hid (false=decide (bd (ac ns) (al e.path.data.toList)=1)):=ab (by rw[<-uh HD,hk];exact(dF k1).symm);have k2:(x.ent.kind==1)=false:=by simp[k1]
 clear hk HF hM2 hq2 HQ hx hxp;go_wp2_with (go_at_call 102;refine(cd _ _ _ c1).mono ?_;rintro ev w3⟨rfl,hw⟩;obtain rfl:=hw.symm)
 go_ret;exact⟨false,rfl,C,ab (by intro h;cases h),ab (cM hB2),hB2.mono hBz⟩
end Go.Proofs.YtjhobnjdfhkohaaGreatDoor.T
namespace Go.Proofs.YtjhobnjdfhkohaaGreatDoor.R
open Go.Proofs.Tryz
open Go.Proofs.YtjhobnjdfhkohaaGreatDoor.T
open Go Go.RowKit
def run:List LU->List LU->Option (List LU)
 |out,[]=>some out
 |out,p::r=>
  if p=[]\/p=[46] then run out r
  else if p=[46,46] then (if out=[] then none else run out.dropLast r)
  else if gN p=true then run (out++[p]) r else none
theorem FO{out r:List LU}{p:LU}(h:p=[]\/p=[46]):run out (p::r)=run out r:=by rw[run,if_pos h]
theorem K3{out r:List LU}(h:out≠[]):run out ([46,46]::r)=run out.dropLast r:=by rw[run,if_neg (by decide),if_pos rfl,if_neg h]
theorem Iz{r:List LU}:run [] ([46,46]::r)=none:=by rw[run,if_neg (by decide),if_pos rfl,if_pos rfl]
theorem KW{out r:List LU}{p:LU}(h:gN p=true):run out (p::r)=run (out++[p]) r:=by
 have h0:Be p=false:=by
  cases hh:Be p
  .rfl
  rw[Bv hh]at h;cases h
 obtain⟨h1,_,h3,h4,_⟩:=oV h0;rw[run,if_neg (by simp[h1,h3]),if_neg h4,if_pos h]
theorem Kd{out r:List LU}{p:LU}(h1:p≠[])(h2:p≠[46])(h3:p≠[46,46])(h:gN p=false):run out (p::r)=none:=by rw[run,if_neg (by simp[h1,h2]),if_neg h3,if_neg (by simp[h])]
def wt(xs:List LU):Nat:=(xs.map (λx=>x.length+1)).sum
theorem CA(a b:List LU):wt (a++b)=wt a+wt b:=by simp[wt]
theorem eI(a:LU)(b:List LU):wt (a::b)=a.length+1+wt b:=by simp[wt]
theorem Mc:wt []=0:=rfl
theorem pa(xs:List LU):xs.length<=wt xs:=by
 induction xs with
 |nil=>simp[wt]
 |cons x r ih=>rw[eI,lC];omega
theorem yZ(xs:List LU):wt xs.dropLast<=wt xs:=by
 induction xs with
 |nil=>simp
 |cons x r ih=>
  cases r with
  |nil=>simp[wt]
  |cons y t=>rw[List.dropLast_cons_cons,eI,eI];omega
theorem vj(xs:List LU):(Lib.join xs [47]).length<=wt xs:=by
 cases xs with
 |nil=>simp[Lib.join_nil]
 |cons x r=>
  rw[Lib.join_cons,lA,Lib.joinTail_length,eI];have:r.length+Lib.lens r=wt r:=by
   induction r with
   |nil=>rfl
   |cons y t ih=>rw[eI,<-ih];simp only[Lib.lens,lC,List.map_cons,List.sum_cons];omega
  simp only[lC,lN];omega
theorem vg(l:LU):wt (eJ l)=l.length+1:=by
 induction l with
 |nil=>rfl
 |cons c r ih=>
  rw[eJ];split
  .rw[eI,ih];simp;omega
  cases h:eJ r with
  |nil=>exact absurd h (mp r)
  |cons x y=>rw[h]at ih;rw[eI]at ih;rw[eI];simp;omega
theorem LL(l:LU):wt (prt l)<=l.length+1:=by
 unfold prt;split
 .simp[wt]
 rw[vg];omega
theorem bh{xs:List LU}{k:Nat}{b:LU}(h:xs[k]?=some b):xs.drop k=b::xs.drop (k+1):=by obtain⟨hl,rfl⟩:=eL.1 h;exact List.drop_eq_getElem_cons hl
def jc(xs out0 out:List LU)(k:Nat):Prop:=run out (xs.drop k)=run out0 xs/\wt out+wt (xs.drop k)<=wt out0+wt xs
theorem Aw(xs out0:List LU):jc xs out0 out0 0:=⟨rfl,nR _⟩
theorem fy{xs out0 out:List LU}{k:Nat}{b:LU}(h:jc xs out0 out k)(hk:xs[k]?=some b)(hb:b=[]\/b=[46]):jc xs out0 out (k+1):=by obtain⟨h1,h2⟩:=h;rw[bh hk]at h1 h2;rw[FO hb]at h1;rw[eI]at h2;exact⟨h1,by omega⟩
theorem qM{xs out0 out:List LU}{k:Nat}(h:jc xs out0 out k)(hk:xs[k]?=some [46,46])(ho:out≠[]):jc xs out0 out.dropLast (k+1):=by obtain⟨h1,h2⟩:=h;rw[bh hk]at h1 h2;rw[K3 ho]at h1;rw[eI]at h2;have:=yZ out;exact⟨h1,by omega⟩
theorem qB{xs out0 out:List LU}{k:Nat}{b:LU}(h:jc xs out0 out k)(hk:xs[k]?=some b)(hb:gN b=true):jc xs out0 (out++[b]) (k+1):=by obtain⟨h1,h2⟩:=h;rw[bh hk]at h1 h2;rw[KW hb]at h1;rw[eI]at h2;refine⟨h1,?_⟩;rw[CA,eI,Mc];omega
theorem om{xs out0:List LU}{k:Nat}(h:jc xs out0 [] k)(hk:xs[k]?=some [46,46]):run out0 xs=none:=by rw[<-h.1,bh hk,Iz]
theorem oT{xs out0 out:List LU}{k:Nat}{b:LU}(h:jc xs out0 out k)(hk:xs[k]?=some b)(h1:b≠[])(h2:b≠[46])(h3:b≠[46,46])(hb:gN b=false):run out0 xs=none:=by rw[<-h.1,bh hk,Kd h1 h2 h3 hb]
theorem oL{xs out0 out:List LU}{k:Nat}(h:jc xs out0 out k)(hk:xs.length<=k):run out0 xs=some out:=by rw[<-h.1,List.drop_of_length_le hk];rfl
theorem jx{xs out0 out:List LU}{k:Nat}(h:jc xs out0 out k):wt out<=wt out0+wt xs:=by have:=h.2;omega
def pu(work text:LU):List LU:=if text.head?=some 47 then [] else prt work
def fin:Option (List LU)->Option LU
 |none=>none
 |some out=>if isP (Lib.join out [47])=true then some (Lib.join out [47]) else none
def res(work text:LU):Option LU:=fin (run [] (pu work text++eJ text))
def resP(work text:LU):Option LU:=if isP work=true then fin (run (pu work text) (eJ text)) else none
end Go.Proofs.YtjhobnjdfhkohaaGreatDoor.R
namespace Go.Proofs.YtjhobnjdfhkohaaGreatDoor.R
open Go.Proofs.Tryz
open Go.Proofs.YtjhobnjdfhkohaaGreatDoor.T
open Go.RowKit
theorem qZ{w:World}{B B':Nat}{v:Value}{e:TypeId}{size n:Nat}{xs:List Value}(h:w.ownsRow B e size v n xs)(hB:B'<=B):w.ownsRow B' e size v n xs:=by
 refine⟨h.1,?_⟩;rcases h.2 with hn|⟨g,cap,cur,hv,hb,r⟩
 .exact .inl hn
 exact .inr ⟨g,cap,cur,hv,by omega,r⟩
theorem CB{w w':World}{B B':Nat}{g n cap:Nat}{ps:List BA}(h:Own w B (.slice (some ⟨g,0,none⟩) n cap) ps)(hb:Below B' w w')(hg:g<B'):Own w' B (.slice (some ⟨g,0,none⟩) n cap) ps:=by
 refine⟨h.1,?_⟩;rcases h.2 with⟨h0,_⟩|⟨g',cap',cur,hv,hbg,hh,r⟩
 .cases h0
 have:g'=g:=by cases hv;rfl
 subst this;exact .inr ⟨g',cap',cur,hv,hbg,(hb.block g' hg).trans hh,r⟩
theorem ph{w:World}{B g n cap:Nat}{ps:List BA}(h:Own w B (.slice (some ⟨g,0,none⟩) n cap) ps):g<w.heap.size:=(h.lt g rfl).2
theorem mn{w:World}{B:Nat}{v:Value}{ps qs:List BA}{n:Nat}{xs:List Value}(h:w.ownsRow B 9 1 v n xs)(hn:n=(ps++qs).length)(hx:xs=(ps++qs).map Value.string):Own w B v (ps++qs):=by subst hn hx;exact h
theorem oE{w:World}{B:Nat}{v:Value}{ps:List BA}(h:Own w B v ps):∃ao cap,v=.slice ao ps.length cap:=by
 rcases h.2 with⟨hv,h0⟩|⟨g,cap,cur,hv,_⟩
 .exact⟨none,0,by rw[h0];exact hv⟩
 exact⟨_,cap,hv⟩
theorem qe{w:World}{B g n cap:Nat}{ps:List BA}(h:Own w B (.slice (some ⟨g,0,none⟩) n cap) ps):n<=cap:=by
 rcases h.2 with⟨h0,_⟩|⟨g',cap',cur,hv,hbg,hh,hn,_⟩
 .cases h0
 cases hv;exact hn
theorem oW(ps:List BA)(b:BA):txts (ps++[b])=txts ps++[b.data.toList]:=by simp[txts]
theorem jh(ps:List BA):txts ps.dropLast=(txts ps).dropLast:=by simp[txts,List.map_dropLast]
theorem uq{ps:List BA}(h:ps≠[]):txts ps≠[]:=by simpa[txts]using h
theorem wa{w:World}{B g cap n:Nat}{ps:List BA}(h:Own w B (.slice (some ⟨g,0,none⟩) ps.length cap) ps)(hn:ps.length=n+1):Own w B (.slice (some ⟨g,0,none⟩) n cap) ps.dropLast:=by
 have hne:ps≠[]:=by rintro rfl;simp at hn
 have hl:ps.dropLast.length=n:=by simp[hn]
 have e:ps.map Value.string=ps.dropLast.map Value.string++[.string (ps.getLast hne)]:=by
  conv=>lhs;rw[<-List.dropLast_concat_getLast hne]
  simp
 unfold Own at h⊢;rw[hl];rw[hn,e]at h;exact ownsRow_pop (by rw[List.length_map,hl];omega) h
theorem ow(b:BA):(b.data.toList=[]/\b.toList.isEmpty=true/\(b.toList==[46])=false/\(b.toList==[46,46])=false)\/(b.data.toList=[46]/\b.toList.isEmpty=false/\(b.toList==[46])=true/\(b.toList==[46,46])=false)\/(b.data.toList=[46,46]/\b.toList.isEmpty=false/\(b.toList==[46])=false/\(b.toList==[46,46])=true)\/((b.data.toList≠[]/\b.data.toList≠[46]/\b.data.toList≠[46,46])/\b.toList.isEmpty=false/\(b.toList==[46])=false/\(b.toList==[46,46])=false):=by
 rw[tD];by_cases h1:b.data.toList=[]
 .left;rw[h1];decide
 by_cases h2:b.data.toList=[46]
 .right;left;rw[h2];decide
 by_cases h3:b.data.toList=[46,46]
 .right;right;left;rw[h3];decide
 right;right;right;exact⟨⟨h1,h2,h3⟩,by cases hx:b.data.toList<;>simp_all,by simp[h2],by simp[h3]⟩
theorem ef{P:Program}(w:World){ops:Array Oper}{rest:List Oper}{o:Oper}{a:Act}{Q:Exit->Act->World->Prop}(hgd:o.guard=none)(s x:Operand)(t:TypeId)(ho:o.op=.call { callee:=.builtin .append,args:=#[s,x],argTypes:=#[t,t] })(base:Nat)(e:TypeId)(i:TypeInfo)(z:Value)(size bytes:Nat)(ht:P.underlying t=some (.slice e))(hi:P.info? e=some i)(hz:i.zero=some z)(hsize:i.size=size)(hby:i.bytes=bytes)(hzs:z.cells.size=size)(hsz:0<size)(v:Value)(n:Nat)(xs:List Value)(hs:a.eval s=v)(hown:w.ownsRow base e size v n xs)(ad:Addr)(m c:Nat)(news:List Value)(hx:a.eval x=.slice (some ad) m c)(hl:news.length=m*size)(hnews:∀j u,news[j]?=some u->w.cell? (ad.add j)=some u)(h1:∀u∈news,u.oneCell'=true)(hm:0<m)(h63:n+m<=maxLen)(hbytes:(n+m)*bytes<=140737488355328)(hbase:base<=w.heap.size)(h:∀v' w',w'.ownsRow base e size v' (n+m) (xs++news)->w.grownBy w' v.ownBlock->(v'.ownBlock=v.ownBlock\/∀k,v'.ownBlock=some k->w.heap.size<=k)->wpList P ops Q rest (a.put o.dst v') w'):wpList P ops Q (o::rest) a w:=by
 have fresh:∀v' w',w'.ownsRow w.heap.size e size v' (n+m) (xs++news)->w.grownBy w' none->wpList P ops Q rest (a.put o.dst v') w':=by intro v' w' r1 r2;exact h v' w' (qZ r1 hbase) ⟨r2.os,r2.tape,r2.output,r2.size,λk hk _=>r2.block k hk (by simp)⟩ (.inr λk hk=>(r1.lt k hk).1)
 rcases hown.2 with⟨rfl,rfl⟩|⟨g,cap,cur,rfl,hbg,hg,hnc,hcm,hcs,htake⟩
 .exact wpList_append_grows w hgd s x t ho e i z size bytes ht hi hz hsize hby hzs hsz none 0 0 xs hs (λ_=>⟨rfl,rfl⟩) hown.1 (λb hb=>by cases hb) ad m c news hx hl hnews h1 (by omega) h63 hbytes fresh
 by_cases hroom:n+m<=cap
 .exact wpList_append_fits w hgd s x t ho base e i size ht hi hsize g n cap xs hs hown ad m c news hx hl hnews h1 hroom λw' r1 r2=>h _ w' r1 r2 (.inl rfl)
 exact wpList_append_grows w hgd s x t ho e i z size bytes ht hi hz hsize hby hzs hsz (some ⟨g,0,none⟩) n cap xs hs (λhb=>by cases hb) hown.1 (λb hb=>by cases hb;exact hown.cells rfl) ad m c news hx hl hnews h1 (by omega) h63 hbytes fresh
theorem zU(s t:LU):wt (pu s t)<=s.length+1:=by
 unfold pu;split
 .simp[wt]
 exact LL s
theorem mR{w w':World}{o:Obj}{B gs caps:Nat}{aps:List BA}{v:Value}(h:Own w B (.slice (some ⟨gs,0,none⟩) aps.length caps) aps)(hg:(w.alloc o).grownBy w' v.ownBlock)(hne:v.ownBlock≠some gs):Own w' B (.slice (some ⟨gs,0,none⟩) aps.length caps) aps:= World.ownsRow.kept (World.ownsRow.alloc h o) hg (.inr (λe=>hne e.symm))
theorem fh{w:World}{o:Obj}{v v':Value}{gs:Nat}(h:v'.ownBlock=v.ownBlock\/∀k,v'.ownBlock=some k->(w.alloc o).heap.size<=k)(hne:v.ownBlock≠some gs)(hg:gs<w.heap.size):v'.ownBlock≠some gs:=by
 rcases h with h|h
 .rw[h];exact hne
 intro e;have:=h gs e;simp at this;omega
def errV(o:Option LU):Value:=match o with
 |some _=>.nilIface
 |none=>.iface 27 (.int .i64 1)
theorem dR{a b:BA}{c d:Value}(h:a=b)(h2:c=d):Ending.returned (.tuple #[.string a,c])=.returned (.tuple #[.string b,d]):=by rw[h,h2]
theorem GA(l:LU):Lib.hasPrefix l [47]=decide (l.head?=some 47):=by
 cases l with
 |nil=>rfl
 |cons c r=>
  by_cases h:c=47
  .subst h;simp[Lib.hasPrefix,List.isPrefixOf]
  simp[Lib.hasPrefix,List.isPrefixOf,h,Ne.symm h]
theorem fF(s:BA)(w:World)(hs:s.size<=281474976710656): Cl 108 #[.string s] w λe w'=>e=.returned (.string s)/\Bw w w':=by
 go_enter func108,ntmps108;go_wp2_with (go_at_call 132;refine(Tryz.stringslite_Clone _ _ hs).mono ?_;rintro e w'⟨rfl,hb⟩)
 go_ret;exact⟨rfl,hb⟩
theorem ii(ao:OA)(cap B:Nat)(ps:List BA)(w:World)(hown:Own w B (.slice ao ps.length cap) ps)(hl:ps.length<=4294967280)(hM:(Lib.join (txts ps) [47]).length<=17179869184): Cl 65 #[.slice ao ps.length cap,.string ⟨#[47]⟩] w λe w'=>e=.returned (.string (bs (Lib.join (txts ps) [47])))/\Bw w w':=by
 by_cases ho:ps=[]
 .subst ho;refine(Tryz.strings_Join_none ao cap ⟨#[47]⟩ w).mono ?_;rintro e w'⟨rfl,rfl⟩;exact⟨rfl,bR _ _⟩
 obtain⟨g,cap',hv⟩:=own_form hown ho;cases hv;refine(Tryz.strings_Join g 0 cap ps ⟨#[47]⟩ w (λj x hx=>by rw[Nat.zero_add];exact own_cell hown hx) (ph hown) (by omega) (qe hown) (by show (Lib.join (txts ps) [47]).length<=_;omega)).mono ?_;rintro e w'⟨rfl,hb⟩;exact⟨rfl,hb⟩
theorem paths_bad(s t:BA)(m:Int)(w:World)(hm:w.cell? ⟨1,0,none⟩=some (.int .i64 m))(h:isP s.data.toList=false): Cl 199 #[.string s,.string t] w λe w'=>e=.returned (.tuple #[.string (bs ((resP s.data.toList t.data.toList).getD [])),errV (resP s.data.toList t.data.toList)])/\Bw w w':=by
 have HR:Hid (resP s.data.toList t.data.toList=none):=ab (by simp[resP,h]);go_enter func199,ntmps199;go_wp2_with (go_at_call 95;refine(is_any _ m _ hm).mono ?_;rintro e w1⟨rfl,hb1⟩)
 go_ret2;exact⟨dR (by rw[uh HR];rfl) (by rw[uh HR];rfl),hb1⟩
end Go.Proofs.YtjhobnjdfhkohaaGreatDoor.R
