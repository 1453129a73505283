import Derived.Test.YtjhobnjdfhkohaaGreatDoorXU
set_option linter.all false
set_option maxHeartbeats 4000000
set_option maxRecDepth 100000
namespace Go.Proofs.YtjhobnjdfhkohaaGreatDoor.T
open Go.Proofs.Tryz
open Go.RowKit
def ej(cs:List aj)(c:aj):Bool:=decide (cs.length<80)&&bT c&&(decide (cs.length=0)||match cs[cs.length-1]? with
 |none=>false
 |some d=>Ls d c)
theorem qb{cs:List aj}{i:Nat}{c:aj}(h:cs[i]?=some c):ej (cs.take i) c=vt cs i:=by
 have hi:=(gL h)
 have hl:(cs.take i).length=i:=by simp;omega
 rw[A8 h,ej,hl];cases i with
 |zero=>simp
 |succ i=>
  have:(cs.take (i+1))[i+1-1]?=cs[i+1-1]?:=by rw[List.getElem?_take,if_pos (by omega)]
  rw[this]<;>cases cs[i+1-1]?<;>rfl
theorem sM(ao:OA)(cap k:Nat)(cs:List aj)(c:aj)(m:Int)(w:World)(hr:fB w ao cs)(HN:Hid (k=cs.length))(hk:k<=1048576)(HS:Hid (ix cs))(hcs:c.path.size<=1048576)(hm:w.cell? ⟨1,0,none⟩=some (.int .i64 m)): Cl 217 #[.slice ao k cap,.agg #[.string c.path,.int .i64 c.kind,.int .i64 c.mode,.string c.data]] w λev w'=>ev=.returned (.bool (ej cs c))/\Bw w w':=by
 obtain⟨W0,hW0⟩:=aq (w.alloc (.cells #[.string c.path,.int .i64 c.kind,.int .i64 c.mode,.string c.data] 246));have hb0:=dw hW0;have hq0:=em hW0;have HW0:=ab hW0;have HQ:=ab hq0;have HM:=ab hm;have HR:=ab hr;by_cases h80:k<80
 .have n80:¬(80:Int)<=(k:Int):=by omega
  have hCh:=uo c m W0 (cL hb0 hm);clear hW0 hm hr;cases hc:bT c
  .rw[hc]at hCh;have R:Hid (ej cs c=false):=ab (by rw[ej,hc];simp);clear hc hq0;go_enter func217,ntmps217;go_wp2_with (go_at_call 238;rw[<-uh HW0];refine hCh.mono ?_;clear hCh;rintro ev w1⟨rfl,hb1⟩)
   go_ret;exact⟨ag (uh R).symm,hb0.trans (hb1.mono hb0.size)⟩
  rw[hc]at hCh;by_cases hk0:k=0
  .subst hk0;have R:Hid (ej cs c=true):=ab (by rw[ej,hc,<-uh HN];simp);clear hc hq0;go_enter func217,ntmps217;go_wp2_with (go_at_call 238;rw[<-uh HW0];refine hCh.mono ?_;clear hCh;rintro ev w1⟨rfl,hb1⟩)
   go_ret;exact⟨ag (uh R).symm,hb0.trans (hb1.mono hb0.size)⟩
  obtain⟨q,hq⟩:∃q,q+1=k:=⟨k-1,by omega⟩
  obtain⟨d,hd⟩:∃d,cs[q]?=some d:=⟨cs[q]'(by have:=uh HN;omega),gG (by have:=uh HN;omega)⟩
  have hds:=((uh HS) d (mG hd)).1;have R0:Hid (ej cs c=Ls d c):=ab (by
   have e1:cs.length-1=q:=by have:=uh HN;omega
   have e2:cs.length<80:=by have:=uh HN;omega
   have e3:¬cs.length=0:=by have:=uh HN;omega
   rw[ej,hc,e1,hd];simp only[e2,e3,decide_true,decide_false,Bool.true_and,Bool.false_or])
  have hw:IntKind.i64.wrap ((k:Int)-1)=(q:Int):=by rw[show (k:Int)-1=(q:Int) from by omega];exact wrap_i64 _ (by omega)
  have z0:¬(k:Int)=0:=by omega
  have z1:((k:Int)==0)=false:=by simp;omega
  have p0:(0:Int)<=(q:Int):=by omega
  have p1:(q:Int)<(k:Int):=by omega
  obtain⟨g,o,hgo,_⟩:=(uh HR) q d hd;cases hgo;have HD:=ab hd;clear hc hq0 hd hq;go_enter func217,ntmps217;go_upto_region 6 with(go_at_call 238;rw[<-uh HW0];refine hCh.mono ?_;clear hCh;rintro ev w1⟨rfl,hb1⟩)
  have hB1:=hb0.trans (hb1.mono hb0.size);have hq1:=(hb1.block w.heap.size (gA (uh HQ))).trans (uh HQ);obtain⟨g',o',hgo,d0,d1,d2,d3⟩:=((uh HR).below hB1) q d (uh HD);cases hgo;obtain⟨W2,hW2⟩:=aq (w1.alloc (.cells #[.string d.path,.int .i64 d.kind,.int .i64 d.mode,.string d.data] 246));have b2:=dw hW2;have hB2:=hB1.trans (b2.mono hB1.size);have hq2:=(b2.block w.heap.size (gA hq1)).trans hq1;have hl2:=em hW2;have e0:=cq 0 hq2;have e1:=cq 1 hq2;have l0:=cq 0 hl2;have l1:=cq 1 hl2;have l2:=cq 2 hl2;have l3:=cq 3 hl2;have HL2:=ab hl2;have HQ2:=ab hq2;clear hq1 hq2 hl2 hb1;go_upto_region 7 with fail;rw[<-hW2];clear hW2 d0 d1 d2 d3;by_cases hp:d.path.data.toList=c.path.data.toList
  .have g1:(d.path.toList==c.path.toList)=true:=by rw[tD,tD,hp];simp
   have R1:Hid (ej cs c=(decide (d.kind=1)&&decide (c.kind=5))):=ab (by rw[uh R0,Ls,if_pos hp]);clear hp;by_cases k1:d.kind=1
   .rw[k1]at l1;by_cases k5:c.kind=5
    .have R:Hid (ej cs c=true):=ab (by rw[uh R1,k1,k5];rfl);rw[k5]at e1;go_wp2_with fail;go_ret;exact⟨ag (uh R).symm,hB2⟩
    have R:Hid (ej cs c=false):=ab (by rw[uh R1];simp[k5]);have k5':(c.kind==5)=false:=by simp[k5]
    go_wp2_with fail
    go_ret;exact⟨ag (uh R).symm,hB2⟩
   have R:Hid (ej cs c=false):=ab (by rw[uh R1];simp[k1]);have k1':(d.kind==1)=false:=by simp[k1]
   go_wp2_with fail
   go_ret;exact⟨ag (uh R).symm,hB2⟩
  have g1:(d.path.toList==c.path.toList)=false:=by rw[tD,tD];simpa using hp
  have R1:Hid (ej cs c=(gP d.path.data.toList c.path.data.toList&&(decide (d.kind=1\/d.kind=5)||!Lib.hasPrefix c.path.data.toList (d.path.data.toList++[47])))):=ab (by rw[uh R0,Ls,if_neg hp]);have hCm:=iW d.path c.path m W2 (by omega) (by omega) (cL hB2 (uh HM));clear hp;cases hlt:gP d.path.data.toList c.path.data.toList
  .have R:Hid (ej cs c=false):=ab (by rw[uh R1,hlt];rfl);have HLt:=ab hlt;clear hlt;go_wp2_with (go_at_call 71;refine hCm.mono ?_;clear hCm;rintro ev w3⟨n3,rfl,hn3,hb3⟩;have hn4:¬n3<0:=(λh=>by have h5:=hn3.1 h;rw[show iH (prt d.path.data.toList) (prt c.path.data.toList)=false from uh HLt]at h5;cases h5);clear hn3)
   go_ret;exact⟨ag (uh R).symm,hB2.trans (hb3.mono hB2.size)⟩
  have R2:Hid (ej cs c=(decide (d.kind=1\/d.kind=5)||!Lib.hasPrefix c.path.data.toList (d.path.data.toList++[47]))):=ab (by rw[uh R1,hlt];rfl);have HLt:=ab hlt;clear hlt;by_cases hh:d.kind=1\/d.kind=5
  .have R:Hid (ej cs c=true):=ab (by rw[uh R2,dT hh];rfl);have hMh:∀W,Cl 239 #[.agg #[.string d.path,.int .i64 d.kind,.int .i64 d.mode,.string d.data]] W λev w'=>ev=.returned (.bool true)/\Bw W w':=λW=>by have:=pA d W;rw[dT hh]at this;exact this
   clear hh;go_wp2_with (first|(go_at_call 71;refine hCm.mono ?_;clear hCm;rintro ev w3⟨n3,rfl,hn3,hb3⟩;have hn4:n3<0:=hn3.2 (uh HLt);clear hn3;have l0:=cL hb3 l0;have l1:=cL hb3 l1;have l2:=cL hb3 l2;have l3:=cL hb3 l3;have e0:=cL hb3 e0)|(go_at_call 239;refine(hMh w3).mono ?_;rintro ev w4⟨rfl,hb4⟩))
   go_ret;exact⟨ag (uh R).symm,hB2.trans ((hb3.trans (hb4.mono hb3.size)).mono hB2.size)⟩
  have R:Hid (ej cs c=!Lib.hasPrefix c.path.data.toList (d.path.data.toList++[47])):=ab (by rw[uh R2,dF hh];rfl);have hMh:∀W,Cl 239 #[.agg #[.string d.path,.int .i64 d.kind,.int .i64 d.mode,.string d.data]] W λev w'=>ev=.returned (.bool false)/\Bw W w':=λW=>by have:=pA d W;rw[dF hh]at this;exact this
  clear hh;go_wp2_with (first|(go_at_call 71;refine hCm.mono ?_;clear hCm;rintro ev w3⟨n3,rfl,hn3,hb3⟩;have hn4:n3<0:=hn3.2 (uh HLt);clear hn3;have l0:=cL hb3 l0;have l1:=cL hb3 l1;have l2:=cL hb3 l2;have l3:=cL hb3 l3;have e0:=cL hb3 e0)|(go_at_call 239;refine(hMh w3).mono ?_;rintro ev w4⟨rfl,hb4⟩;have l0:=cL hb4 l0;have e0:=cL hb4 e0)|(go_at_call 240;refine(ww c.path d.path w4 (by omega)).mono ?_;rintro ev w5⟨rfl,hw⟩;obtain rfl:=hw.symm))
  go_ret;exact⟨ag (uh R).symm,hB2.trans ((hb3.trans (hb4.mono hb3.size)).mono hB2.size)⟩
 have n80:(80:Int)<=(k:Int):=by omega
 have R:Hid (ej cs c=false):=ab (by
  have:¬cs.length<80:=by have:=uh HN;omega
  simp[ej,this])
 clear hW0 hm hr;go_enter func217,ntmps217;go_wp2_with fail;go_ret;exact⟨ag (uh R).symm,by have h:=hb0;rw[uh HW0]at h;exact h⟩
theorem Kl{cs:List aj}{i:Nat}(h:vt cs i=true):i<80:=by
 unfold vt at h;split at h
 .cases h
 simp only[bA,decide_eq_true_eq]at h;exact h.1.1
theorem EQ{cs:List aj}{k:Nat}(h:∀j,j<k->vt cs j=true):k<=80:=by
 cases k with
 |zero=>omega
 |succ k=>have:=Kl (h k (by omega));omega
def NG(w:World)(er:Value)(c i:Int):Prop:=∃b:Nat,er=.iface 64 (.pointer (some ⟨b,0,none⟩))/\w.cell? ⟨b,0,none⟩=some (.int .i64 c)/\w.cell? ⟨b,1,none⟩=some (.int .i64 i)
attribute [local go_sem] cJ dP
end Go.Proofs.YtjhobnjdfhkohaaGreatDoor.T
namespace Go.Proofs.YtjhobnjdfhkohaaGreatDoor.T
open Go.Proofs.Tryz
open Go.RowKit
theorem uv{c d:LU}(hd:d≠[])(hc:isP c=true):Lib.hasPrefix c (d++[47])=true↔under d c:=by
 rw[Lib.hasPrefix,List.isPrefixOf_iff_prefix];constructor
 .rintro⟨r,rfl⟩;have hne:d++[47]++r≠[]:=by simp
  cases hs:eJ r with
  |nil=>exact absurd hs (mp r)
  |cons a u=>refine⟨a,u,?_⟩;rw[prt_ne hne,prt_ne hd,<-hs,<-lP];simp
 rintro⟨a,u,e⟩;have hal:∀x∈a::u,47∉x:=λx hx=>by
  have h1:(prt c).all gN=true:=by simp only[isP,bA]at hc;exact hc.2
  exact(je (List.all_eq_true.1 h1 x (by rw[e];exact List.mem_append_right _ hx))).1
 refine⟨Lib.join (a::u) [47],?_⟩;apply gQ;have hne:d++[47]++Lib.join (a::u) [47]≠[]:=by simp
 rw[prt_ne hne,e,prt_ne hd,show d++[47]++Lib.join (a::u) [47]=d++47::Lib.join (a::u) [47] from by simp,lP,mO (by simp) hal]
theorem gW{c:aj}(h:bT c=true):isP c.path.data.toList=true/\(c.path.data.toList=[]->c.kind=5):=by
 unfold bT at h;split at h
 .next hk=>
  simp only[bA,Bool.not_eq_true',Bool.and_eq_false_iff,decide_eq_false_iff_not]at h;refine⟨h.1.1.2,λe=>?_⟩;rcases h.1.1.1 with h1|h1
  .rcases hk with hk|hk
   .exact absurd hk h1
   exact hk
  rw[e]at h1;cases h1
 have h3:=aP h;exact⟨h3.2.1,λe=>absurd e h3.1⟩
theorem zi{cs:List aj}{i:Nat}{c:aj}(he:cs[i]?=some c)(h:vt cs i=true):bT c=true/\∀d,i≠0->cs[i-1]?=some d->Ls d c=true:=by
 rw[A8 he]at h;simp only[bA,bO,decide_eq_true_eq]at h;refine⟨h.1.2,λd h0 hd=>?_⟩;rcases h.2 with h2|h2
 .exact absurd h2 h0
 rw[hd]at h2;exact h2
end Go.Proofs.YtjhobnjdfhkohaaGreatDoor.T
namespace Go.Proofs.YtjhobnjdfhkohaaGreatDoor.T
open Go.Proofs.Tryz
open Go.RowKit Go.Maps
theorem Jv{α:Type}{f:α->LU}{l:List α}(h:l.Pairwise λa b=>gP (f a) (f b)=true)(both:Bool)(y:α):(dA f l both y).length<=l.length+1:=by
 have e:=gR (λx=>gP (f x) (f y)) (λx=>dx both (f y) (f x)) l (h.imp fun {x z} hl hb=>by
  have h1:=(aT.1 hb).1;cases h2:gP (f z) (f y)
  .rfl
  .have:=dr.trans (dr.trans h1 hl) h2;rw[dr.irr]at this;cases this) (λx _ ha=>by
  cases hb:dx both (f y) (f x)
  .rfl
  have:=dr.trans ha (aT.1 hb).1;rw[dr.irr]at this;cases this)
 have h2:=congrArg List.length e;have h3:=List.length_filter_le (λx=>gP (f x) (f y)||dx both (f y) (f x)) l;rw[lA]at h2;rw[dA,lA,lC];omega
def x5(p:LU):aj:=⟨bs p,1,493,⟨#[]⟩⟩
def Eq:List aj->LU->List LU->Except Nat (List aj)
 |t,_,[]=>.ok t
 |t,d,n::r=>match nC t (gj d n)with
  |none=>Eq (oU t (x5 (gj d n))) (gj d n) r
  |some x=>if x.kind=1 then Eq t (gj d n) r else .error 9
def cK(t:List aj)(p:LU):Except Nat (List aj):=if isP p=true then Eq t [] (prt p) else .error 1
theorem dh(l:LU):(bs l).data.toList=l:=by simp[bs]
theorem cR{p:LU}(h:isP p=true):p.length<=170/\(prt p).length<=12/\∀x∈prt p,gN x=true:=by simp only[isP,LZ,decide_eq_true_eq]at h;exact⟨h.1.1,h.1.2,λx hx=>List.all_eq_true.1 h.2 x hx⟩
theorem wG(p:LU):Lib.join (prt p) [47]=p:=by
 unfold prt;split
 .rename_i h;rw[h];rfl
 exact kD p
theorem KQ{xs:List LU}(h:∀x∈xs,gN x=true)(k:Nat):prt (jn k xs)=xs.take k:=by
 cases e:xs.take k with
 |nil=>rw[jn,e];rfl
 |cons a r=>
  have hm:∀x∈a::r,gN x=true:=λx hx=>h x (List.mem_of_mem_take (by rw[e];exact hx));have h1:jn k xs=Lib.join (a::r) [47]:=by rw[jn,e]
  have h2:=vA (xs:=a::r) (by simp) (λx hx=>(je (hm x hx)).2);rw[h1,prt_ne h2,mO (by simp) (λx hx=>(je (hm x hx)).1)]
theorem Lf{p:LU}(h:isP p=true)(k:Nat):isP (jn k (prt p))=true:=by obtain⟨h1,h2,h3⟩:=cR h;have hl:=Kv (prt p) k;rw[wG]at hl;simp only[isP,LZ,decide_eq_true_eq];rw[KQ h3];refine⟨⟨by omega,by rw[List.length_take];omega⟩,List.all_eq_true.2 λx hx=>h3 x (List.mem_of_mem_take hx)⟩
theorem BW{xs:List LU}(h:∀x∈xs,gN x=true){k:Nat}(hk:k<xs.length):jn (k+1) xs≠[]:=by refine vA (λe=>?_) (λx hx=>(je (h x (List.mem_of_mem_take hx))).2);have:=congrArg List.length e;rw[List.length_take,nD]at this;omega
theorem nK{xs:List LU}(h:∀x∈xs,gN x=true){k:Nat}{y:LU}(hk:xs[k]?=some y):gj (jn k xs) y=jn (k+1) xs:=by
 rw[B8 xs k y hk];have hl:=(sI hk)
 cases k with
 |zero=>rw[BP,gj,if_pos rfl,if_pos rfl]
 |succ j=>rw[gj,if_neg (BW h (by omega)),if_neg (by omega)];simp
theorem FD{xs:List LU}(h:∀x∈xs,gN x=true){k:Nat}{y:LU}(hk:xs[k]?=some y):al (jn (k+1) xs)=jn k xs:=by
 have hy:=je (h y (oG hk));rw[B8 xs k y hk];cases k with
 |zero=>rw[if_pos rfl,BP];exact(eN hy.1).1
 |succ j=>rw[if_neg (by omega),show jn (j+1) xs++[47]++y=jn (j+1) xs++47::y by simp];exact(eV hy.1).1
theorem Br{q:LU}(h:isP q=true)(h0:q≠[]):bK (x5 q)=true:=by unfold bK bc x5;simp[dh,h,h0,ci]
theorem kP{r:Nd}{ns:List Nd}(h:aO (ac ns))(hr:r.ent=de){p:LU}(hp:p≠[]){v:Value}(hv:mH r ns p v):(v=.pointer none/\nC (ac ns) p=none)\/∃x∈ns,v=.pointer (some ⟨x.nb,0,none⟩)/\x.p=p/\nC (ac ns) p=some x.ent:=by
 rcases hv with⟨rfl,hno⟩|⟨x,hx,rfl,hxp⟩
 .refine .inl ⟨rfl,?_⟩;unfold nC;rw[List.find?_eq_none];intro e he;obtain⟨y,hy,rfl⟩:=List.mem_map.1 he;have:=hno y (by simp[hy]);rw[Nd.p]at this;simpa using this
 rcases nh.1 hx with rfl|hx
 .exact absurd (hxp.symm.trans (by rw[Nd.p,hr];rfl)) hp
 refine .inr ⟨x,hx,rfl,hxp,?_⟩;have:=h.at (List.mem_map.2 ⟨x,hx,rfl⟩)
 rw[<-hxp];exact this
theorem yl{t:List aj}{p:LU}(hp:p≠[]):bd t p=match nC t p with|some e=>e.kind|none=>0:=by rw[bd,if_neg hp];rfl
theorem Fh{t:List aj}{e:aj}(hT:aO (oU t e))(_:e.path.data.toList≠[]):nC (oU t e) e.path.data.toList=some e:=by exact hT.at (dY.2 (.inl rfl))
theorem DF(s:BA)(m:Int)(w:World)(hs:s.size<=4294967280)(hm:w.cell? ⟨1,0,none⟩=some (.int .i64 m)): Cl 99 #[.string s] w λe w'=>∃ao cap n ps,e=.returned (.slice ao n cap)/\Hid (Own w' w.heap.size (.slice ao n cap) ps)/\Hid (txts ps=prt s.data.toList)/\Hid (n=ps.length)/\n<=s.size+1/\Bw w w':=by
 by_cases h:s.data.toList=[]
 .refine(elems_nil s w h).mono ?_;rintro e w'⟨rfl,hw⟩;obtain rfl:=hw.symm;exact⟨none,0,0,[],rfl,ab (World.ownsRow_nil _ _ _ _),ab (by rw[h];rfl),ab rfl,by omega,ju _ _⟩
 refine(elems_some s m w hs hm h).mono ?_;rintro e w'⟨g,cap,ps,rfl,h1,h2,h3,_⟩;have hl:ps.length<=s.size+1:=by have:=pX s.data.toList;rw[<-h2,txts_len,<-im]at this;exact this
 exact⟨_,cap,_,ps,rfl,ab h1,ab (by rw[prt_ne h];exact h2),ab rfl,hl,h3⟩
theorem GJ{w0 w w':World}{r:Nd}{ns:List Nd}{B:Nat}{v:Value}{ps:List BA}(h:Own w w0.heap.size v ps)(hM:cw w0 B r ns)(hf:lT r ns w w'):Own w' w0.heap.size v ps:=by
 have h1:=h;unfold Own at h1⊢;refine⟨h1.1,?_⟩;rcases h1.2 with h2|⟨g,cap,cur,e,hb,hg,h3⟩
 .exact .inl h2
 exact .inr ⟨g,cap,cur,e,hb,(hf g (bY hg) (hM.new hb)).trans hg,h3⟩
structure eh(w w':World)(B:Nat)(r:Nd)(ns ns':List Nd):Prop where
 below:Below B w w'
 foot:lT r ns w w'
 grew:pN w.heap.size ns ns'
theorem eh.refl(w:World)(B:Nat)(r:Nd)(ns:List Nd):eh w w B r ns ns:=⟨ju _ _,λ_ _ _=>rfl,dn _ _⟩
theorem eh.trans{w w1 w2:World}{B:Nat}{r:Nd}{a b c:List Nd}(h1:eh w w1 B r a b)(h2:eh w1 w2 B r b c):eh w w2 B r a c:= ⟨h1.below.trans h2.below,h1.foot.trans h1.grew h1.below.size h2.foot,h1.grew.trans h2.grew h1.below.size⟩
theorem eh.of_below{w w':World}{B:Nat}{r:Nd}{ns:List Nd}(h:Bw w w')(hB:B<=w.heap.size):eh w w' B r ns ns:=⟨h.mono hB,cM h,dn _ _⟩
theorem ed.go{w w':World}{B sb:Nat}{r:Nd}{ns ns':List Nd}{work:BA}{ev:Value}(h:ed w B sb r ns work ev)(hs:eh w w' B r ns ns')(hM:cw w' B r ns')(hT:aO (ac ns')):ed w' B sb r ns' work ev:= ⟨(hs.foot sb h.lt (h.mem.out h.cells (by decide))).trans h.cells,hM,hT,h.lim,dz h.base hs.below.size⟩
theorem jP{ns ns':List Nd}{e:aj}(hT:aO (ac ns))(h:ac ns'=oU (ac ns) e):ns'.length<=ns.length+1:=by
 have h1:(ac ns').length=ns'.length:=by simp[ac]
 have h2:(ac ns).length=ns.length:=by simp[ac]
 have h3:=Jv (f:=aj.q) (l:=ac ns) hT.ord (j6 (ac ns) e) e;rw[<-h1,h];have:(oU (ac ns) e).length<=(ac ns).length+1:=h3;omega
def bm(w w':World):Prop:=∀(g:Nat) (cs:Array Value) (t:Nat) (f:Nat×Nat),w.heap[g]?=some (Obj.cells cs t f)->t≠172->t≠134->w'.heap[g]?=some (Obj.cells cs t f)
theorem bm.trans{a b c:World}(h1:bm a b)(h2:bm b c):bm a c:=λg cs t f h e1 e2=>h2 g cs t f (h1 g cs t f h e1 e2) e1 e2
theorem ak{w w':World}(h:Bw w w'):bm w w':=λg _ _ _ hg _ _=>(h.block g (bY hg)).trans hg
theorem fJ{w w':World}{B:Nat}{r:Nd}{ns:List Nd}(hM:cw w B r ns)(hf:lT r ns w w'):bm w w':=λg _ _ _ hg e1 _=>(hf g (bY hg) (hM.out hg e1)).trans hg
def bx(w w':World)(B sb:Nat)(r:Nd)(ns:List Nd)(work:BA)(ev:Value)(d:Nat)(e:Ending)(x:Except Nat (List aj)):Prop:=match x with
 |.error k=>e=.returned (.iface 27 (.int .i64 (k:Int)))
 |.ok t=>e=.returned .nilIface/\∃ns',ed w' B sb r ns' work ev/\ac ns'=t/\eh w w' B r ns ns'/\ns'.length<=ns.length+d
structure Dq(w wr:World)(B sb:Nat)(r:Nd)(ns ns':List Nd)(work:BA)(ev:Value)(xs:List LU)(k:Nat):Prop where
 sta:ed wr B sb r ns' work ev
 stp:eh w wr B r ns ns'
 len:ns'.length<=ns.length+k
 eq:Eq (ac ns) [] xs=Eq (ac ns') (jn k xs) (xs.drop k)
 dir:bd (ac ns') (jn k xs)=1
theorem Dq.have{w wr:World}{B sb:Nat}{r:Nd}{ns ns':List Nd}{work:BA}{ev:Value}{xs:List LU}{k:Nat}{y:LU}{x:aj}(h:Dq w wr B sb r ns ns' work ev xs k)(hx:∀x∈xs,gN x=true)(hy:xs[k]?=some y)(ha:nC (ac ns') (jn (k+1) xs)=some x)(hk:x.kind=1):Dq w wr B sb r ns ns' work ev xs (k+1):=by
 have hl:=(gL hy)
 refine⟨h.sta,h.stp,by have:=h.len;omega,?_,?_⟩
 .rw[h.eq,List.drop_eq_getElem_cons hl,Eq];have e:=(eL.1 hy).2;rw[e,nK hx hy,ha];simp only;rw[if_pos hk]
 rw[yl (BW hx hl),ha];exact hk
theorem Dq.bad{w wr:World}{B sb:Nat}{r:Nd}{ns ns':List Nd}{work:BA}{ev:Value}{xs:List LU}{k:Nat}{y:LU}{x:aj}(h:Dq w wr B sb r ns ns' work ev xs k)(hx:∀x∈xs,gN x=true)(hy:xs[k]?=some y)(ha:nC (ac ns') (jn (k+1) xs)=some x)(hk:¬x.kind=1):Eq (ac ns) [] xs=.error 9:=by
 have hl:=(gL hy)
 rw[h.eq,List.drop_eq_getElem_cons hl,Eq];have e:=(eL.1 hy).2;rw[e,nK hx hy,ha];simp only;rw[if_neg hk]
theorem Dq.made{w wr w2:World}{B sb:Nat}{r:Nd}{ns ns' ns2:List Nd}{work:BA}{ev:Value}{xs:List LU}{k:Nat}{y:LU}(h:Dq w wr B sb r ns ns' work ev xs k)(hx:∀x∈xs,gN x=true)(hp:isP (jn (k+1) xs)=true)(hy:xs[k]?=some y)(ha:nC (ac ns') (jn (k+1) xs)=none)(hM:cw w2 B r ns2)(he:ac ns2=oU (ac ns') (x5 (jn (k+1) xs)))(hs:eh wr w2 B r ns' ns2):Dq w w2 B sb r ns ns2 work ev xs (k+1):=by
 have hl:=(gL hy)
 have hne:=BW hx hl;have hT:aO (ac ns2):=by rw[he];refine q9 h.sta.tree (Br hp hne) ?_;show bd (ac ns') (al (bs (jn (k+1) xs)).data.toList)=1;rw[dh,FD hx hy];exact h.dir
 refine⟨h.sta.go hs hM hT,h.stp.trans hs,by have:=h.len;have:=jP h.sta.tree he;omega,?_,?_⟩
 .rw[h.eq,List.drop_eq_getElem_cons hl,Eq];have e:=(eL.1 hy).2;rw[e,nK hx hy,ha,<-he]
 rw[yl hne];have:=Fh (t:=ac ns') (e:=x5 (jn (k+1) xs)) (by rw[<-he];exact hT) (by show (bs _).data.toList≠[];rw[dh];exact hne);rw[<-he,show (x5 (jn (k+1) xs)).path.data.toList=jn (k+1) xs from dh _]at this;rw[this];rfl
theorem Dq.fin{w wr:World}{B sb:Nat}{r:Nd}{ns ns':List Nd}{work:BA}{ev:Value}{xs:List LU}{k:Nat}(h:Dq w wr B sb r ns ns' work ev xs k)(hk:xs.length<=k):Eq (ac ns) [] xs=.ok (ac ns'):=by rw[h.eq,List.drop_of_length_le hk,Eq]
theorem Ii(w:World):(binOp BinOp.eql 70 (.pointer none) (.pointer none)).run prog w=.ok (.bool true) w:=by kernel_rfl
theorem dO(sb:Nat)(r:Nd)(ns:List Nd)(work p:BA)(ev:Value)(B:Nat)(m:Int)(w:World)(h:ed w B sb r ns work ev)(hn:ns.length<=900)(hp:p.size<=1048576)(hm:w.cell? ⟨1,0,none⟩=some (.int .i64 m)): Cl 178 #[.pointer (some ⟨sb,0,none⟩),.string p] w λe w'=>bx w w' B sb r ns work ev 12 e (cK (ac ns) p.data.toList)/\Below B w w'/\bm w w':=by
 have hI:=is_any p m w hm;have HS:=ab h;have HM:=ab hm;have hBw:=h.base;have hl14:=h.lim;clear h hm;cases hip:isP p.data.toList with
 |false=>
  rw[hip]at hI;have HG:Hid (cK (ac ns) p.data.toList=.error 1):=ab (by unfold cK;rw[hip];rfl);clear hip;go_enter func178,ntmps178;go_wp2_with (go_at_call 95;refine hI.mono ?_;clear hI;rintro e w1⟨rfl,hb1⟩)
  go_ret;rw[uh HG];exact⟨rfl,hb1.mono hBw,ak hb1⟩
 |true=>
  rw[hip]at hI;obtain⟨hp1,hp2,hel⟩:=cR hip;obtain⟨xs,hxs⟩:=aq (prt p.data.toList);have HXS:=ab hxs;have HIP:=ab hip;rw[<-hxs]at hel hp2;have HEL:=ab hel;have HG:Hid (cK (ac ns) p.data.toList=Eq (ac ns) [] xs):=ab (by unfold cK;rw[if_pos hip,hxs]);clear hip hxs hp1 hel;go_enter func178,ntmps178;go_upto_region 5 with(first|(go_at_call 95;refine hI.mono ?_;clear hI;rintro e w1⟨rfl,hb1⟩)|(go_at_call 99;refine(DF p m _ (by omega) (cL hb1 (uh HM))).mono ?_;rintro e w2⟨ao,cap,n,ps,rfl,HO2,HT2,HN2,hn2,hb2⟩))
  have hb02:=hb1.trans (hb2.mono hb1.size);have H0:Hid (Dq w w2 B sb r ns ns work ev xs 0):=ab ⟨(uh HS).below hb02,.of_below hb02 hBw,by omega,rfl,rfl⟩;have HO:Hid (∀(wr:World) (ns':List Nd),eh w2 wr B r ns ns'->Own wr w1.heap.size (.slice ao n cap) ps):=ab (λwr ns' hs=>GJ (uh HO2) ((uh HS).mem.below hb1) hs.foot);have HPS:Hid (∀(k:Nat) (y:BA),ps[k]?=some y->xs[k]?=some y.data.toList):=ab (λk y hy=>by rw[uh HXS,<-uh HT2];exact txts_get hy);have hnx:n=xs.length:=by rw[uh HXS,<-uh HT2,txts_len];exact uh HN2
  have HNX:=ab hnx;have hn12:n<=12:=by omega
  clear hb1 hb2 hnx HO2;have HJ:Hid (∀k,(jn k xs).length<=170):=ab (λk=>by have:=Kv (prt p.data.toList) k;rw[wG,<-uh HXS]at this;exact nT this (cR (uh HIP)).1);have HP:Hid (∀k,isP (jn k xs)=true):=ab (λk=>by rw[uh HXS];exact Lf (uh HIP) k);have HMr:Hid (∀wr,Below B w wr->wr.cell? ⟨1,0,none⟩=some (.int .i64 m)):=ab (λwr hb=>(hb.cell (p:=⟨1,0,none⟩) (by show 1<B;omega)).trans (uh HM));clear hb02 HT2 HN2 HIP HXS;go_loopw [5,16] (λav iv wr=>∃(k:Nat) (s:BA) (ns':List Nd),k<=n/\iv=.int .i64 (k:Int)/\av=.string s/\Hid (s.data.toList=jn k xs)/\Hid (Dq w wr B sb r ns ns' work ev xs k)/\Hid (eh w2 wr B r ns ns')) (λ_ iv _=>n-(intOf iv).toNat);case atStart=>exact⟨0,⟨#[]⟩,ns,Nat.zero_le _,rfl,rfl,ab rfl,H0,ab (.refl _ _ _ _)⟩
  case round=>
   clear H0;obtain⟨k,s,ns',hk,rfl,rfl,HSs,HI,HSt⟩:=hrel;by_cases hlt:k<n
   .have hO:=uh HO wr ns' (uh HSt);obtain⟨y,hyx⟩:∃y,xs[k]?=some y:=⟨_,gG (by rw[<-uh HNX];exact hlt)⟩
    obtain⟨yb,hy⟩:∃yb,ps[k]?=some yb:=by
     rcases hO.2 with⟨e,h0⟩|⟨g,c,cur,e,_⟩
     .injection e with _ e _;omega
     injection e with _ e _;exact⟨_,gG (by omega)⟩
    obtain⟨g,cp,hv⟩:=own_form hO (λe=>by rw[e]at hy;simp at hy);injection hv with e1 e2 e3;subst e1 e3;have q:wr.cell? ⟨g,k,none⟩=some (.string yb):=by rw[e2]at hO;exact own_cell hO hy
    have hxy:=uh HPS k yb hy;have HY:=ab hxy;have hsl:s.size<=170:=by rw[zE,uh HSs];exact uh HJ k
    have hyl:yb.size<=170:=by
     have h1:=uh HJ (k+1);rw[<-nK (uh HEL) hxy,gj]at h1;rw[zE];split at h1
     .exact h1
     rw[lA,lC]at h1;omega
    have i0:(0:Int)<=(k:Int):=by omega
    have i1:(k:Int)<(n:Int):=by omega
    have hmr:=uh HMr wr (uh HI).stp.below;have c0:=(uh HI).sta.c0;have HMM:=ab hmr;have hBr:=(uh HI).sta.base;have hnn:ns'.length<=1000:=by have:=(uh HI).len;omega
    clear hyx hy e2 hO hxy hmr;go_upto_region 8 with(go_at_call 174;refine(gT s yb _ (by omega) (by omega)).mono ?_;rintro e w3⟨s2,rfl,hs2,hw⟩;obtain rfl:=hw.symm)
    have HS2:Hid (s2.data.toList=jn (k+1) xs):=ab (by rw[hs2,uh HSs,nK (uh HEL) (uh HY)]);have h2l:s2.size<=170:=by rw[zE,uh HS2];exact uh HJ (k+1)
    have hne:=BW (uh HEL) (by rw[<-uh HNX];exact hlt);have HNE:=ab hne;clear hs2 hne;go_upto_region 9 with(go_at_call 101;refine(cY r ns' B s2 m _ (uh HI).sta.mem (ab (uh HI).sta.ok) (by omega) (uh HMM)).mono ?_;rintro e w4⟨v,rfl,HF,hb4⟩)
    have hst4:=(uh HI).sta.below hb4;have c4:=hst4.c0;have HST4:=ab hst4;have HB4:=ab hb4;have HSP4:Hid (eh wr w4 B r ns' ns'):=ab (.of_below hb4 hBr);rcases kP hst4.tree hst4.mem.root (uh HNE) (by rw[<-uh HS2];exact uh HF)with⟨rfl,ha⟩|⟨x,hx,rfl,hxp,ha⟩
    .have HA:=ab ha;have HEq:Hid ((⟨s2,1,493,⟨#[]⟩⟩:aj)=x5 (jn (k+1) xs)):=ab (by unfold x5;rw[<-uh HS2];rfl);have hPut:=qA r ns' B ⟨s2,1,493,⟨#[]⟩⟩ m w4 hst4.mem (ab hst4.tree) (ab (by rw[uh HEq];exact Br (uh HP (k+1)) (uh HNE))) hnn hst4.base (by simp;omega) (cL hb4 (uh HMM));have hbt:decide (bd (ac ns') (al s2.data.toList)=1)=true:=by rw[uh HS2,FD (uh HEL) (uh HY)];exact dT (uh HI).dir
     have HBT:=ab hbt;clear HF ha hst4 hb4 hbt q c0;go_wp2_with (go_at_call 72;refine hPut.mono ?_;clear hPut;rintro e w5⟨b,rfl,hbk,hok,hft,hb5⟩)
     obtain⟨ns2,hM2,he2,hg2⟩:=uh hok ((uh hbk).trans (uh HBT));have hs5:=(uh HSP4).trans ⟨hb5,uh hft,hg2⟩;have hI5:=((uh HI).made (uh HEL) (uh HP (k+1)) (uh HY) (uh HA) hM2 (by rw[he2,uh HEq]) hs5)
     go_roundw;case rel=>
      first
       |exact⟨k+1,s2,ns2,hlt,by go_num,rfl,HS2,ab hI5,ab ((uh HSt).trans hs5)⟩
       |((repeat apply Exists.intro);exact⟨⟨k+1,s2,ns2,hlt,by go_num,rfl,HS2,ab hI5,ab ((uh HSt).trans hs5)⟩,rfl⟩)
     case measure=>simp[intOf];omega
    obtain⟨_,_,hx3,_⟩:=hst4.mem.all x (by simp[hx]);have z1:=cell_of_row w4 x.nb 1 _ _ _ hx3;have hI4:Dq w w4 B sb r ns ns' work ev xs k:=⟨hst4,(uh HI).stp.trans (uh HSP4),(uh HI).len,(uh HI).eq,(uh HI).dir⟩
    have HI4:=ab hI4;have HA:=ab ha;by_cases hk1:x.ent.kind=1
    .have hI5:=ab (hI4.have (uh HEL) (uh HY) ha hk1);have hD:=cd _ _ _ z1;rw[dT hk1]at hD;clear HF ha hst4 hb4 q c0 hx3 hx hxp hI4 hk1 z1;go_wp2_with (go_at_call 102;refine hD.mono ?_;clear hD;rintro e w5⟨rfl,hw⟩;obtain rfl:=hw.symm)
     go_roundw;case rel=>
      first
       |exact⟨k+1,s2,ns',hlt,by go_num,rfl,HS2,hI5,ab ((uh HSt).trans (uh HSP4))⟩
       |((repeat apply Exists.intro);exact⟨⟨k+1,s2,ns',hlt,by go_num,rfl,HS2,hI5,ab ((uh HSt).trans (uh HSP4))⟩,rfl⟩)
     case measure=>simp[intOf];omega
    have HBad:=ab (hI4.bad (uh HEL) (uh HY) ha hk1);have hD:=cd _ _ _ z1;rw[dF hk1]at hD;have hBl:=hI4.stp.below;have hKx:=fJ (uh HS).mem hI4.stp.foot;clear HF ha hst4 hb4 q c0 hx3 hx hxp hI4 hk1 z1;go_wp2_with (go_at_call 102;refine hD.mono ?_;clear hD;rintro e w5⟨rfl,hw⟩;obtain rfl:=hw.symm)
    go_ret;rw[uh HG,uh HBad];exact⟨rfl,hBl,hKx⟩
   have hFin:=(uh HI).fin (by rw[<-uh HNX];omega);have HFin:=ab hFin;clear hFin;go_wp2_with fail;go_ret;rw[uh HG,uh HFin];exact⟨⟨rfl,ns',(uh HI).sta,rfl,(uh HI).stp,by have:=(uh HI).len;omega⟩,(uh HI).stp.below,fJ (uh HS).mem (uh HI).stp.foot⟩
theorem fL{w w':World}{B:Nat}{r:Nd}{ns:List Nd}(hM:cw w B r ns)(hf:lT r ns w w'){g t:Nat}{cs:Array Value}{f:Nat×Nat}(hg:w.heap[g]?=some (.cells cs t f))(ht:t≠172):w'.heap[g]?=some (.cells cs t f):= (hf g (gA hg) (hM.out hg ht)).trans hg
theorem cU(W:World):Bw W W.drew:=⟨rfl,rfl,rfl,nR _,λ_ _=>rfl⟩
def eT(t:List aj)(e:aj):Except Nat (List aj):=
 if (match nC t e.path.data.toList with|some x=>decide (x.kind=1) != decide (e.kind=1)|none=>false)=true then .error 9
 else if isP e.path.data.toList=false then .error 1
 else if bd t (al e.path.data.toList)=1 then .ok (oU t e) else .error 9
def aS(t:List aj)(e:aj):Except Nat (List aj):=match cK t (al e.path.data.toList)with
 |.error k=>.error k
 |.ok t'=>eT t' e
theorem cV(e:aj)(q:BA)(w:World): Cl 176 #[.agg #[.string e.path,.int .i64 e.kind,.int .i64 e.mode,.string e.data],.string q] w λev w'=>ev=.returned (.agg #[.string q,.int .i64 e.kind,.int .i64 e.mode,.string e.data])/\Bw w w':=by go_enter func176,ntmps176;go_wp2;refine bodyPost_ret (v:=.agg #[.string q,.int .i64 e.kind,.int .i64 e.mode,.string e.data]) (by simp[results,results176,go_sem]) rfl ⟨rfl,(eD).alloc (by simp) _⟩
theorem wq(sb:Nat)(r:Nd)(ns:List Nd)(work:BA)(ev:Value)(e:aj)(B:Nat)(m:Int)(w:World)(h:ed w B sb r ns work ev)(hn:ns.length<=1000)(hp:e.path.size<=1048576)(HG:Hid (bc e=true))(HP:Hid (e.path.data.toList≠[]))(hm:w.cell? ⟨1,0,none⟩=some (.int .i64 m)): Cl 183 #[.pointer (some ⟨sb,0,none⟩),.agg #[.string e.path,.int .i64 e.kind,.int .i64 e.mode,.string e.data]] w λv w'=>bx w w' B sb r ns work ev 1 v (eT (ac ns) e)/\Below B w w'/\lT r ns w w':=by
 obtain⟨W0,hW0⟩:=aq (w.alloc (.cells #[.string e.path,.int .i64 e.kind,.int .i64 e.mode,.string e.data] 39));have hb0:=dw hW0;have hc0:=em hW0;have hst0:=h.below hb0;have hm0:=cL hb0 hm;have hBw:=h.base;have s0:=hst0.c0;have q0:=cq 0 hc0;have HST:=ab hst0;have HM:=ab hm0;have HC:=ab hc0;have HB0:=ab hb0;clear h hm hst0 hm0 hc0 hb0;go_enter func183,ntmps183;go_upto_region 1 with fail;rw[<-hW0];clear hW0;go_region_held3 (λw'=>w'.cell? ⟨sb,0,none⟩=some (.pointer (some ⟨r.nb,0,none⟩))/\w'.cell? ⟨w.heap.size,0,none⟩=some (.string e.path)) (first|exact⟨s1,q1⟩|exact⟨s0,q0⟩|go_keep) (first|(go_at_call 101;refine(cY r ns B e.path m _ (by exact(uh HST).mem.below (cU _)) (ab (uh HST).ok) hp (by exact cL (cU _) (uh HM))).mono ?_;rintro v1 w1⟨v,rfl,HF,hb1⟩;have s1:=cL (am hb1) s0;have q1:=cL (am hb1) q0));have hb01:=am hb1;have hbw1:=(uh HB0).trans (hb01.mono (uh HB0).size);have hst1:=(uh HST).below hb01;have hc1:=(hb01.block w.heap.size (gA (uh HC))).trans (uh HC);have hm1:=cL hb01 (uh HM);have k1:=cq 1 hc1;have k2:=cq 2 hc1;have k3:=cq 3 hc1;have HST1:=ab hst1;have HM1:=ab hm1;have HC1:=ab hc1;have hX:=kP hst1.tree hst1.mem.root (uh HP) (uh HF);clear hb1 hb01 HST HM HC HB0 s0 q0 hst1 hm1 hc1 HF;rcases hX with⟨rfl,ha⟩|⟨x,hx,rfl,hxp,ha⟩
 .have HNo:Hid ((match nC (ac ns) e.path.data.toList with|some x=>decide (x.kind=1) != decide (e.kind=1)|none=>false)=false):=ab (by rw[ha]);clear ha;go_upto_region 2 with fail;go_quiet (fail);go_upto_region 4 with fail;obtain⟨W2,hW2⟩:=aq (w1.drewN nq);have hb12:Bw w1 W2:=by rw[hW2];exact below_drewN (bR _ _) _
  have hc2:W2.heap[w.heap.size]?=some (.cells #[.string e.path,.int .i64 e.kind,.int .i64 e.mode,.string e.data] 39 (0,0)):=by rw[hW2];exact uh HC1
  have hst2:=(uh HST1).below hb12;have hm2:=cL hb12 (uh HM1);have hbw2:=hbw1.trans (hb12.mono hbw1.size);rw[<-hW2];clear hW2 s1 q1 k1 k2 k3 hb12 HST1 HM1 HC1 hbw1;have j0:=cq 0 hc2;have hI:=is_any e.path m W2 hm2;have HST2:=ab hst2;have HM2:=ab hm2;have HC2:=ab hc2;clear hst2 hm2 hc2;cases hip:isP e.path.data.toList with
  |false=>
   rw[hip]at hI;have HR:Hid (eT (ac ns) e=.error 1):=ab (by unfold eT;rw[uh HNo,if_neg (by simp),hip,if_pos rfl]);clear hip;go_wp2_with (go_at_call 95;refine hI.mono ?_;clear hI;rintro e3 w3⟨rfl,hb3⟩)
   go_ret;rw[uh HR];exact⟨rfl,(hbw2.trans (hb3.mono hbw2.size)).mono hBw,cM (hbw2.trans (hb3.mono hbw2.size))⟩
  |true=>
   rw[hip]at hI;have HIP:=ab hip;clear hip;go_upto_region 6 with(go_at_call 95;refine hI.mono ?_;clear hI;rintro e3 w3⟨rfl,hb3⟩)
   have hbw3:=hbw2.trans (hb3.mono hbw2.size);have hst3:=(uh HST2).below hb3;have hm3:=cL hb3 (uh HM2);have hc3:=(hb3.block w.heap.size (gA (uh HC2))).trans (uh HC2);have s3:=hst3.c0;have y0:=cq 0 hc3;have y1:=cq 1 hc3;have y2:=cq 2 hc3;have y3:=cq 3 hc3;have HE:Hid (bK e=true):=ab (by unfold bK;rw[uh HG,uh HIP];simpa using uh HP);have HST3:=ab hst3;have HM3:=ab hm3;have hB3:=nT hBw hbw3.size;have HC3:=ab hc3;clear hb3 HST2 HM2 HC2 j0 hst3 hm3 hc3;go_region_held3 (λw'=>w'.cell? ⟨sb,0,none⟩=some (.pointer (some ⟨r.nb,0,none⟩))/\w'.cell? ⟨w.heap.size,0,none⟩=some (.string e.path)/\w'.cell? ⟨w.heap.size,1,none⟩=some (.int .i64 e.kind)/\w'.cell? ⟨w.heap.size,2,none⟩=some (.int .i64 e.mode)/\w'.cell? ⟨w.heap.size,3,none⟩=some (.string e.data)) (first|exact⟨cq 0 f1,cq 0 f2,cq 1 f2,cq 2 f2,cq 3 f2⟩|exact⟨s3,y0,y1,y2,y3⟩|go_keep) (first|(go_at_call 72;refine(qA r ns B e m _ (by exact(uh HST3).mem.below (cU _)) (ab (uh HST3).tree) HE hn (by exact hB3) hp (by exact cL (cU _) (uh HM3))).mono ?_;rintro e4 w4⟨b,rfl,hbk,hok,hft,hb4⟩;have f1:=fL ((uh HST3).mem.below (cU _)) (uh hft) (g:=sb) (uh HST3).cells (by decide);have f2:=fL ((uh HST3).mem.below (cU _)) (uh hft) (g:=w.heap.size) (uh HC3) (by decide)));have hb34:=(hbw3.mono hBw).trans (((cU w3).mono hB3).trans hb4);have hst34:∀ns',pN w3.drew.heap.size ns ns'->eh w w4 B r ns ns':=λns' hg=>((eh.of_below hbw3 hBw).trans (eh.of_below (cU w3) hB3)).trans ⟨hb4,uh hft,hg⟩;have HS34:=ab hst34;have HKX:Hid (lT r ns w w4):=ab (uh HS34 ns (dn _ _)).foot;have HF1:=ab f1;clear hst34 f1 f2 s3 y0 y1 y2 y3;cases b with
   |false=>have HR:Hid (eT (ac ns) e=.error 9):=ab (by have:=of_decide_eq_false (uh hbk).symm;unfold eT;rw[uh HNo,if_neg (by simp),uh HIP,if_neg (by simp),if_neg this]);go_wp2_with fail;go_ret;rw[uh HR];exact⟨rfl,hb34,uh HKX⟩
   |true=>obtain⟨ns',hM',he',hg'⟩:=uh hok rfl;have hkd:=of_decide_eq_true (uh hbk).symm;have HR:Hid (eT (ac ns) e=.ok (ac ns')):=ab (by unfold eT;rw[uh HNo,if_neg (by simp),uh HIP,if_neg (by simp),if_pos hkd,he']);have HT:Hid (aO (ac ns')):=ab (by rw[he'];exact q9 (uh HST3).tree (uh HE) hkd);have HM':=ab hM';have HL:=ab (jP (uh HST3).tree he');have HS':=ab (uh HS34 ns' hg');clear hM' he' hg' hkd;go_wp2_with fail;go_ret;rw[uh HR];exact⟨⟨rfl,ns',⟨uh HF1,uh HM',uh HT,(uh HST3).lim,nT hB3 hb4.size⟩,rfl,uh HS',uh HL⟩,hb34,uh HKX⟩
 obtain⟨_,_,hx3,_⟩:=(uh HST1).mem.all x (by simp[hx]);have z1:=cell_of_row w1 x.nb 1 _ _ _ hx3;obtain⟨d1,hd1⟩:=aq (decide (x.ent.kind=1));obtain⟨d2,hd2⟩:=aq (decide (e.kind=1));have hD:∀n,Cl 102 #[.pointer (some ⟨x.nb,0,none⟩)] (w1.drewN n) λev w'=>ev=.returned (.bool d1)/\w'=w1.drewN n:=λn=>by rw[hd1];exact cd _ _ _ (cL (below_drewN (bR _ _) _) z1)
 have g2:(e.kind==1)=d2:=by rw[hd2];rw[Bool.eq_iff_iff];simp
 have HNN:Hid ((match nC (ac ns) e.path.data.toList with|some x=>decide (x.kind=1) != decide (e.kind=1)|none=>false)=(d1 != d2)):=ab (by rw[ha,hd1,hd2]);clear hx hxp ha hx3 z1 hd1 hd2;by_cases hdd:d1=d2
 .have HNo:Hid ((match nC (ac ns) e.path.data.toList with|some x=>decide (x.kind=1) != decide (e.kind=1)|none=>false)=false):=ab (by rw[uh HNN,hdd];simp);subst hdd;go_upto_region 2 with fail;go_quiet (first|(go_at_call 102;exact Calls.quiet_of_same (hD _)));go_upto_region 4 with fail;clear hD g2 HNN;obtain⟨W2,hW2⟩:=aq (w1.drewN nq);have hb12:Bw w1 W2:=by rw[hW2];exact below_drewN (bR _ _) _
  have hc2:W2.heap[w.heap.size]?=some (.cells #[.string e.path,.int .i64 e.kind,.int .i64 e.mode,.string e.data] 39 (0,0)):=by rw[hW2];exact uh HC1
  have hst2:=(uh HST1).below hb12;have hm2:=cL hb12 (uh HM1);have hbw2:=hbw1.trans (hb12.mono hbw1.size);rw[<-hW2];clear hW2 s1 q1 k1 k2 k3 hb12 HST1 HM1 HC1 hbw1;have j0:=cq 0 hc2;have hI:=is_any e.path m W2 hm2;have HST2:=ab hst2;have HM2:=ab hm2;have HC2:=ab hc2;clear hst2 hm2 hc2;cases hip:isP e.path.data.toList with
  |false=>
   rw[hip]at hI;have HR:Hid (eT (ac ns) e=.error 1):=ab (by unfold eT;rw[uh HNo,if_neg (by simp),hip,if_pos rfl]);clear hip;go_wp2_with (go_at_call 95;refine hI.mono ?_;clear hI;rintro e3 w3⟨rfl,hb3⟩)
   go_ret;rw[uh HR];exact⟨rfl,(hbw2.trans (hb3.mono hbw2.size)).mono hBw,cM (hbw2.trans (hb3.mono hbw2.size))⟩
  |true=>
   rw[hip]at hI;have HIP:=ab hip;clear hip;go_upto_region 6 with(go_at_call 95;refine hI.mono ?_;clear hI;rintro e3 w3⟨rfl,hb3⟩)
   have hbw3:=hbw2.trans (hb3.mono hbw2.size);have hst3:=(uh HST2).below hb3;have hm3:=cL hb3 (uh HM2);have hc3:=(hb3.block w.heap.size (gA (uh HC2))).trans (uh HC2);have s3:=hst3.c0;have y0:=cq 0 hc3;have y1:=cq 1 hc3;have y2:=cq 2 hc3;have y3:=cq 3 hc3;have HE:Hid (bK e=true):=ab (by unfold bK;rw[uh HG,uh HIP];simpa using uh HP);have HST3:=ab hst3;have HM3:=ab hm3;have hB3:=nT hBw hbw3.size;have HC3:=ab hc3;clear hb3 HST2 HM2 HC2 j0 hst3 hm3 hc3;go_region_held3 (λw'=>w'.cell? ⟨sb,0,none⟩=some (.pointer (some ⟨r.nb,0,none⟩))/\w'.cell? ⟨w.heap.size,0,none⟩=some (.string e.path)/\w'.cell? ⟨w.heap.size,1,none⟩=some (.int .i64 e.kind)/\w'.cell? ⟨w.heap.size,2,none⟩=some (.int .i64 e.mode)/\w'.cell? ⟨w.heap.size,3,none⟩=some (.string e.data)) (first|exact⟨cq 0 f1,cq 0 f2,cq 1 f2,cq 2 f2,cq 3 f2⟩|exact⟨s3,y0,y1,y2,y3⟩|go_keep) (first|(go_at_call 72;refine(qA r ns B e m _ (by exact(uh HST3).mem.below (cU _)) (ab (uh HST3).tree) HE hn (by exact hB3) hp (by exact cL (cU _) (uh HM3))).mono ?_;rintro e4 w4⟨b,rfl,hbk,hok,hft,hb4⟩;have f1:=fL ((uh HST3).mem.below (cU _)) (uh hft) (g:=sb) (uh HST3).cells (by decide);have f2:=fL ((uh HST3).mem.below (cU _)) (uh hft) (g:=w.heap.size) (uh HC3) (by decide)));have hb34:=(hbw3.mono hBw).trans (((cU w3).mono hB3).trans hb4);have hst34:∀ns',pN w3.drew.heap.size ns ns'->eh w w4 B r ns ns':=λns' hg=>((eh.of_below hbw3 hBw).trans (eh.of_below (cU w3) hB3)).trans ⟨hb4,uh hft,hg⟩;have HS34:=ab hst34;have HKX:Hid (lT r ns w w4):=ab (uh HS34 ns (dn _ _)).foot;have HF1:=ab f1;clear hst34 f1 f2 s3 y0 y1 y2 y3;cases b with
   |false=>have HR:Hid (eT (ac ns) e=.error 9):=ab (by have:=of_decide_eq_false (uh hbk).symm;unfold eT;rw[uh HNo,if_neg (by simp),uh HIP,if_neg (by simp),if_neg this]);go_wp2_with fail;go_ret;rw[uh HR];exact⟨rfl,hb34,uh HKX⟩
   |true=>obtain⟨ns',hM',he',hg'⟩:=uh hok rfl;have hkd:=of_decide_eq_true (uh hbk).symm;have HR:Hid (eT (ac ns) e=.ok (ac ns')):=ab (by unfold eT;rw[uh HNo,if_neg (by simp),uh HIP,if_neg (by simp),if_pos hkd,he']);have HT:Hid (aO (ac ns')):=ab (by rw[he'];exact q9 (uh HST3).tree (uh HE) hkd);have HM':=ab hM';have HL:=ab (jP (uh HST3).tree he');have HS':=ab (uh HS34 ns' hg');clear hM' he' hg' hkd;go_wp2_with fail;go_ret;rw[uh HR];exact⟨⟨rfl,ns',⟨uh HF1,uh HM',uh HT,(uh HST3).lim,nT hB3 hb4.size⟩,rfl,uh HS',uh HL⟩,hb34,uh HKX⟩
 have HR:Hid (eT (ac ns) e=.error 9):=ab (by unfold eT;rw[uh HNN,if_pos (by simpa using hdd)]);have g3:(d1==d2)=false:=by simpa using hdd
 have g4:(d1 != d2)=true:=by simpa using hdd
 go_upto_region 2 with fail
 go_quiet (first|(go_at_call 102;exact Calls.quiet_of_same (hD _)))
 go_wp2_with fail
 go_ret;rw[uh HR];exact⟨rfl,(below_drewN hbw1 _).mono hBw,cM (below_drewN hbw1 _)⟩
theorem Bi(sb:Nat)(r:Nd)(ns:List Nd)(work:BA)(ev:Value)(e:aj)(B:Nat)(m:Int)(w:World)(h:ed w B sb r ns work ev)(hn:ns.length<=1000)(hp:e.path.size<=1048576)(HG:Hid (bc e=true))(HP:Hid (e.path.data.toList≠[]))(hm:w.cell? ⟨1,0,none⟩=some (.int .i64 m)): Cl 183 #[.pointer (some ⟨sb,0,none⟩),.agg #[.string e.path,.int .i64 e.kind,.int .i64 e.mode,.string e.data]] w λv w'=>bx w w' B sb r ns work ev 1 v (eT (ac ns) e)/\Below B w w'/\bm w w':= (wq sb r ns work ev e B m w h hn hp HG HP hm).mono λ_ _ k=>⟨k.1,k.2.1,fJ h.mem k.2.2⟩
end Go.Proofs.YtjhobnjdfhkohaaGreatDoor.T
