import Derived.Test.YtjhobnjdfhkohaaGreatDoorXL
set_option linter.all false
set_option maxHeartbeats 4000000
set_option maxRecDepth 10000
namespace Go.Proofs.YtjhobnjdfhkohaaGreatDoor
open Go.Proofs.Tryz
open Go.RowKit Go.Maps
theorem vU(ms:List aw)(i:Nat):pln (ms.map aw.wd) i=match ms[i]? with|some x=>an x.xs|none=>none:=by unfold pln;rw[List.getElem?_map];cases ms[i]?<;>rfl
theorem F1{ms:List aw}{i:Nat}{x:aw}(h:ms[i]?=some x):plc (ms.map aw.wd) i=x.place:=by unfold plc;rw[List.getElem?_map,h];rfl
theorem xg{m:cA}{w:World}{B:Nat}(h:m.Ok w B):∃x,m.ws[0]?=some x/\lX x.xs=some m.rule:=by
 have:=h.op;cases hx:m.ws[0]? with
 |none=>rw[hx]at this;cases this
 |some x=>rw[hx]at this;exact⟨x,rfl,this⟩
theorem xo(m:cA)(x:aw)(t:BA)(B:Nat)(w:World)(h:mU w B m.wv m.ws)(h0:m.ws[0]?=some x)(hl:(parts x.xs).length<=1500): Cl 89 #[m.val,.string t] w λev w'=>ev=.returned (.bool (an x.xs==some t.data.toList))/\Bw w w':=by
 obtain⟨g,cap,hv,q0,q1,hg⟩:=kg h 0 x h0;have hok:=h.all x (mG h0);have hl0:0<m.ws.length:=(gL h0)
 have hb0:Bw w (w.alloc (.cells #[m.wv,.int .i64 m.stage,.int .i64 (af m.rule).1,.int .i64 (af m.rule).2.1,aN (af m.rule).2.2.1,aN (af m.rule).2.2.2] 86)):=eD;have hI:=qg x t B _ (ap hok (w':=w.alloc (.cells #[m.wv,.int .i64 m.stage,.int .i64 (af m.rule).1,.int .i64 (af m.rule).2.1,aN (af m.rule).2.2.1,aN (af m.rule).2.2.2] 86)) λk hk=>hb0.block k (World.ownsRow.lt hok k hk).2) hl;obtain⟨ao,n',cap',hxv⟩:=ar hok;rw[hxv]at q1;obtain⟨bb,hbb⟩:=aq ((an x.xs==some t.data.toList));rw[<-hbb]at hI⊢;obtain⟨pl,vv,xx⟩:=x;simp only at hxv q0 hI;subst hxv;obtain⟨wv,ws,stage,rule⟩:=m;simp only at hv hl0 hI hb0⊢;subst hv;have n0:=World.new_ne w ⟨g,0,none⟩ q0;have i1:(0:Int)<(ws.length:Int):=by omega
 obtain⟨n,hn⟩:=aq ws.length;rw[<-hn]at hI hb0 i1⊢;clear h h0 hok hl0 hn hbb hl;go_enter func89,ntmps89;go_wp2_with (go_at_call 118;refine hI.mono ?_;clear hI;rintro ev w1⟨rfl,hb1⟩)
 go_ret;exact⟨rfl,hb0.trans (hb1.mono hb0.size)⟩
theorem EZ(s:ax)(m:cA)(B:Nat)(w:World)(h:s.Ok w B)(h0:s.ins[0]?=some m): Cl 119 #[.agg #[.string s.name,s.iv]] w λev w'=>ev=.returned (.int .i64 m.stage)/\Bw w w':=by
 have hl0:=(gL h0)
 obtain⟨g,cap,hv,_,hg⟩:=World.ownsRow.form h.row hl0;have hrow:=h.row;rw[hv]at hrow;have q1:w.cell? ⟨g,1,none⟩=some (.int .i64 m.stage):=by rw[World.ownsRow.cellAt hrow _ (by omega)];have:=GB s.ins 0 m h0 1 (by omega);rw[Nat.zero_mul,Nat.zero_add]at this;exact this
 have n0:=World.new_ne w ⟨g,1,none⟩ q1;rw[hv];have i1:(0:Int)<(s.ins.length:Int):=by omega
 obtain⟨n,hn⟩:=aq s.ins.length;rw[<-hn]at i1⊢;clear h h0 hl0 hv hrow hn;go_enter func119,ntmps119;go_wp2_with fail;go_ret;exact⟨rfl,eD⟩
theorem eE(B fb g cap:Nat)(ss:List ax)(w:World)(h:aQ w B fb (.slice (some ⟨g,0,none⟩) ss.length cap) ss)(h0:0<ss.length): Cl 62 #[.pointer (some ⟨fb,0,none⟩)] w λev w'=>ev=.returned (.pointer (some ⟨g,(ss.length-1)*2,none⟩))/\Bw w w':=by
 have c0:=h.c0;have hsh:=h.short;obtain⟨n,hn⟩:∃n,n+1=ss.length:=⟨ss.length-1,by omega⟩
 rw[<-hn]at c0 hsh⊢;have i3:IntKind.i64.wrap (((n+1:Nat):Int)-1)=(n:Int):=by rw[show (((n+1:Nat):Int)-1)=((n:Nat):Int) by omega];exact wrap_i64 n (by omega)
 clear h h0 hn;go_enter func62,ntmps62;go_upto_region 1 with fail;go_quiet (fail);go_wp2;go_ret;exact⟨by simp,below_drewN (bR _ _) _⟩
theorem Gl(B fb:Nat)(sv:Value)(ss:List ax)(w:World)(h:aQ w B fb sv ss): Cl 60 #[.pointer (some ⟨fb,0,none⟩)] w λev w'=>ev=.returned (.int .i64 (ea (ss.map ax.stg):Nat))/\Bw w w':=by
 have c0:=h.c0;have hsh:=h.short;have sz:∀l:List ax,ea (l.map ax.stg)=(l.map λs=>s.ins.length).sum:=λl=>by unfold ea;rw[List.map_map];congr 1;apply List.map_congr_left;intro a _;simp[ax.stg]
 rcases h.row.2 with⟨rfl,h0⟩|⟨g,cap,cur,rfl,_⟩
 .have e:ss=[]:=List.length_eq_zero_iff.1 h0;subst e;clear h sz;go_enter func60,ntmps60;go_wp2_with fail;go_loop [3,11] (λt i=>i=.int .i64 0/\t=.int .i64 0) (λ_ _=>0);case atStart=>exact⟨rfl,rfl⟩
  case round=>obtain⟨rfl,rfl⟩:=hrel;go_wp2;go_ret;exact⟨rfl,bR _ _⟩
 have HF:=ab h;obtain⟨n,hn⟩:=aq ss.length;have HN:=ab hn;have HROW:=ab h.row;have HSZ:=ab sz;rw[<-hn]at c0 hsh;clear h sz;go_enter func60,ntmps60;go_wp2_with fail;go_loopw [3,11] (λt i wr=>∃k:Nat,k<=n/\i=.int .i64 k/\t=.int .i64 (((ss.take k).map λs=>s.ins.length).sum:Nat)/\((ss.take k).map λs=>s.ins.length).sum<=k*1500/\Bw w wr) (λ_ i _=>n-(intOf i).toNat);case atStart=>exact⟨0,Nat.zero_le _,rfl,rfl,by simp,bR _ _⟩
 case round=>
  obtain⟨k,hk,rfl,rfl,hle,hb⟩:=hrel;by_cases hlt:k<n
  .have hlt':k<ss.length:=by rw[<-uh HN];exact hlt
   obtain⟨s,hs⟩:∃s,ss[k]?=some s:=⟨_,gG hlt'⟩
   have hok:=(uh HF).all s (mG hs);obtain⟨q0,q1⟩:=rJ (ap (uh HROW) (w':=wr) λj hj=>hb.block j (World.ownsRow.lt (uh HROW) j hj).2) k s hs;obtain⟨ao,n2,cap2,hiv,hn2⟩:=lQ hok;rw[hiv]at q1;have n0:=World.new_ne wr ⟨g,k*2,none⟩ q0;have hss:=hok.short;have e2:((ss.take (k+1)).map λs=>s.ins.length).sum=((ss.take k).map λs=>s.ins.length).sum+n2:=by rw[List.take_add_one,hs,List.map_append,List.sum_append];simp[hn2]
   obtain⟨T,hT⟩:=aq (((ss.take k).map λs=>s.ins.length).sum);rw[<-hT]at hle e2⊢;have HE2:=ab e2;have i4:IntKind.i64.wrap ((T:Int)+(n2:Int))=((T+n2:Nat):Int):=by rw[<-Int.natCast_add];exact wrap_i64 _ (by omega)
   rw[<-hn2]at hss;clear hok hiv hn2 hs e2 hT;go_wp2_with fail;go_roundw;case rel=>
    first
     |exact⟨k+1,by omega,by go_num,by rw[uh HE2];first|rfl|(rw[Int.natCast_add]),by rw[uh HE2];omega,hb.alloc hb.size _⟩
     |((repeat apply Exists.intro);exact⟨⟨k+1,by omega,by go_num,by rw[uh HE2];first|rfl|(rw[Int.natCast_add]),by rw[uh HE2];omega,hb.alloc hb.size _⟩,rfl⟩)
   case measure=>simp[intOf];omega
  have hkn:ss.take k=ss:=List.take_of_length_le (by rw[<-uh HN];omega);rw[hkn];go_wp2_with fail;go_ret;exact⟨by rw[uh HSZ];rfl,hb⟩
theorem Bu{w:World}{B g cap:Nat}{ms:List cA}(h:w.ownsRow B 86 6 (.slice (some ⟨g,0,none⟩) ms.length cap) ms.length (Ib ms))(i:Nat)(m:cA)(hm:ms[i]?=some m): w.cell? ⟨g,i*6,none⟩=some m.wv/\w.cell? ⟨g,i*6+1,none⟩=some (.int .i64 m.stage)/\w.cell? ⟨g,i*6+2,none⟩=some (.int .i64 (af m.rule).1)/\w.cell? ⟨g,i*6+3,none⟩=some (.int .i64 (af m.rule).2.1)/\w.cell? ⟨g,i*6+4,none⟩=some (aN (af m.rule).2.2.1)/\w.cell? ⟨g,i*6+5,none⟩=some (aN (af m.rule).2.2.2):=by
 have hi:=(gL hm)
 have key:=GB ms i m hm;refine⟨?_,?_,?_,?_,?_,?_⟩
 .rw[World.ownsRow.cellAt h _ (by omega)];exact key 0 (by omega)
 .rw[World.ownsRow.cellAt h _ (by omega)];exact key 1 (by omega)
 .rw[World.ownsRow.cellAt h _ (by omega)];exact key 2 (by omega)
 .rw[World.ownsRow.cellAt h _ (by omega)];exact key 3 (by omega)
 .rw[World.ownsRow.cellAt h _ (by omega)];exact key 4 (by omega)
 rw[World.ownsRow.cellAt h _ (by omega)];exact key 5 (by omega)
theorem FK{m:cA}{w:World}{B:Nat}(h:m.Ok w B){x:aw}(hx:m.ws[0]?=some x)(he:an x.xs=some vq):∃y,m.ws[1]?=some y:=by
 obtain⟨x',hx',ho⟩:=xg h;rw[hx]at hx';cases hx';unfold lX at ho;rw[he]at ho;have h6:m.rule=6:=by
  have:wh vq=some 6:=by decide
  have ho':wh vq=some m.rule:=ho;rw[this]at ho';injection ho' with ho';exact ho'.symm
 have hl:=h.least;rw[h6]at hl;have:(2:Int)<=(m.ws.length:Int)-1:=hl;exact⟨_,gG (by omega)⟩
def vN(nm:LU)(m:cA):Bool:=pln m.ins.ws 0==some vq&&pln m.ins.ws 1==some nm
theorem EG(s:ax)(nm:LU):l9 s.stg nm=s.ins.any (vN nm):=by unfold l9 ax.stg;simp only[List.any_map];rfl
theorem Jw{α:Type}{p:α->Bool}{l:List α}(h:∀(i:Nat) a,l[i]?=some a->p a=false):l.any p=false:=by rw[List.any_eq_false];intro x hx;obtain⟨i,hi,rfl⟩:=List.mem_iff_getElem.1 hx;simp[h i _ (gG hi)]
theorem IM{α:Type}{p:α->Bool}{l:List α}{k:Nat}{a:α}(hk:l[k]?=some a)(ha:p a=true):l.any p=true:= List.any_eq_true.2 ⟨a,mG hk,ha⟩
theorem Fx(s:ax)(nm:BA)(B:Nat)(w:World)(h:s.Ok w B): Cl 120 #[.agg #[.string s.name,s.iv],.string nm] w λev w'=>ev=.returned (.bool (l9 s.stg nm.data.toList))/\Bw w w':=by
 rw[EG];have hsh:=h.short;rcases h.row.2 with⟨hv,h0⟩|⟨g,cap,cur,hv,_⟩
 .have e:s.ins=[]:=List.length_eq_zero_iff.1 h0;rw[hv,e];clear h;have hb0:Bw w (w.alloc (.cells #[.string s.name,.slice none 0 0] 106)):=eD;go_enter func120,ntmps120;go_wp2_with fail;go_loop [10] (λi=>i=.int .i64 0) (λ_=>0);case atStart=>rfl
  case round=>subst hrel;go_wp2;go_ret;exact⟨rfl,hb0⟩
 have HF:=ab h;have hrow:=h.row;rw[hv]at hrow;have HROW:=ab hrow;obtain⟨n,hn⟩:=aq s.ins.length;have HN:=ab hn;rw[hv,<-hn];rw[<-hn]at hsh;clear h hrow hv hn;have hb0:Bw w (w.alloc (.cells #[.string s.name,.slice (some ⟨g,0,none⟩) n cap] 106)):=eD;go_enter func120,ntmps120;go_wp2_with fail;go_loopw [10] (λi wr=>∃k:Nat,k<=n/\i=.int .i64 k/\Bw w wr/\(∀(i:Nat) a,i<k->s.ins[i]?=some a->vN nm.data.toList a=false)) (λi _=>n-(intOf i).toNat);case atStart=>exact⟨0,Nat.zero_le _,rfl,hb0,λi s hi=>by omega⟩
 case round=>
  obtain⟨k,hk,rfl,hb,ha⟩:=hrel;have A:=ab ha;clear ha hb0;by_cases hlt:k<n
  .have hlt':k<s.ins.length:=by rw[<-uh HN];exact hlt
   obtain⟨m,hm⟩:∃m,s.ins[k]?=some m:=⟨_,gG hlt'⟩
   have hok:=(uh HF).all m (mG hm);obtain⟨q0,q1,q2,q3,q4,q5⟩:=Bu (ap (uh HROW) (w':=wr) λj hj=>hb.block j (World.ownsRow.lt (uh HROW) j hj).2) k m hm;have hgl:g<wr.heap.size:=World.block_lt_of_cell? _ _ q0;obtain⟨x,hx,_⟩:=xg hok;obtain⟨g2,cap2,hwv,_⟩:=kg hok.ws 0 x hx;have hxs:=(hok.small x (mG hx)).1;obtain⟨W1,hW1⟩:=aq (wr.alloc (.cells #[m.wv,.int .i64 m.stage,.int .i64 (af m.rule).1,.int .i64 (af m.rule).2.1,aN (af m.rule).2.2.1,aN (af m.rule).2.2.2] 86));have hb1:Bw w W1:=by rw[hW1];exact hb.alloc hb.size _
   have hok1:=hok.below hb1;have hIs:=xo m x ⟨#[69,78,86]⟩ B W1 hok1.ws hx hxs;have hc1:=em hW1;have hz1:wr.heap.size<W1.heap.size:=by rw[hW1];simp
   have hpl0:pln m.ins.ws 0=an x.xs:=by show pln (m.ws.map aw.wd) 0=_;rw[vU,hx]
   rw[show (⟨#[69,78,86]⟩:BA).data.toList=vq from rfl]at hIs;have r0:=cq 0 hc1;have r1:=cq 1 hc1;have r2:=cq 2 hc1;have r3:=cq 3 hc1;have r4:=cq 4 hc1;have r5:=cq 5 hc1;have n0:=World.new_ne wr ⟨g,k*6,none⟩ q0;unfold cA.val at hIs;rw[hwv]at q0 r0 hIs hW1;have HM:=ab hm;have HOK:=ab hok1;have HX:=ab hx;have HWV:=ab hwv;have HP0:=ab hpl0;clear hok hok1 hx hc1 hwv hm hpl0;go_upto_region 4 with fail;rw[<-hW1];clear hW1 q0 q1 q2 q3 q4 q5 n0;have HB1:=ab hb1;clear hb1 hb;cases hb0:(an x.xs==some vq)with
   |false=>
    have A2:Hid (∀(i:Nat) a,i<k+1->s.ins[i]?=some a->vN nm.data.toList a=false):=ab (λi a hi ha=>by
     by_cases hik:i=k
     .subst hik;rw[uh HM]at ha;cases ha;unfold vN;rw[uh HP0,hb0];rfl
     exact uh A i a (by omega) ha)
    rw[hb0]at hIs;clear hb0;go_wp2_with (go_at_call 89;refine hIs.mono ?_;clear hIs;rintro ev w2⟨rfl,hb2⟩)
    go_roundw;case rel=>
     first
      |exact⟨k+1,by omega,by go_num,(uh HB1).trans (hb2.mono (uh HB1).size),uh A2⟩
      |((repeat apply Exists.intro);exact⟨⟨k+1,by omega,by go_num,(uh HB1).trans (hb2.mono (uh HB1).size),uh A2⟩,rfl⟩)
    case measure=>simp[intOf];omega
   |true=>
    have hxe:an x.xs=some vq:=by simpa using hb0
    obtain⟨y,hy⟩:=FK (uh HOK) (uh HX) hxe;have hyok:=(uh HOK).ws.all y (mG hy);have hys:=((uh HOK).small y (mG hy)).1;obtain⟨g3,cap3,hwv3,y0,y1,_⟩:=kg (uh HOK).ws 1 y hy;have hwv':=uh HWV;rw[hwv3]at hwv';injection hwv' with e1 e2 e3;injection e1 with e1;injection e1 with e1;subst e1 e3;obtain⟨ao,n',cap',hyv⟩:=ar hyok;rw[hyv]at y1;have HI2:Hid (∀w2,Bw W1 w2->Cl 118 #[.agg #[.int .i64 (y.place:Int),.slice ao n' cap'],.string nm] w2 λev w'=>ev=.returned (.bool (an y.xs==some nm.data.toList))/\Bw w2 w'):=ab (λw2 hb2=>by have:=qg y nm B w2 (ap hyok λj hj=>hb2.block j (World.ownsRow.lt hyok j hj).2) hys;unfold aw.val at this;rw[hyv]at this;exact this);have hpl1:pln m.ins.ws 1=an y.xs:=by show pln (m.ws.map aw.wd) 1=_;rw[vU,hy]
    have HE:Hid (vN nm.data.toList m=(an y.xs==some nm.data.toList)):=ab (by unfold vN;rw[uh HP0,hb0,hpl1];rfl);have hml:1<m.ws.length:=(gL hy)
    rw[hb0]at hIs;obtain⟨N,hN⟩:=aq m.ws.length;rw[<-hN]at hIs r0 hml;have i5:(1:Int)<(N:Int):=by omega
    have HH:Hid (∀w2,Bw W1 w2->w2.cell? ⟨wr.heap.size,0,none⟩=some (.slice (some ⟨g3,0,none⟩) N cap3)/\w2.cell? ⟨g3,1*2,none⟩=some (.int .i64 (y.place:Int))/\w2.cell? ⟨g3,1*2+1,none⟩=some (.slice ao n' cap')):=ab (λw2 hb2=>⟨cL hb2 r0,cL hb2 y0,cL hb2 y1⟩);cases hb3:(an y.xs==some nm.data.toList)with
    |true=>
     have HR:Hid (s.ins.any (vN nm.data.toList)=true):=ab (IM (uh HM) (by rw[uh HE,hb3]));rw[hb3]at HI2;clear hb0 hb3 hxe hy hyok hyv hpl1 hwv3 hN hys;go_wp2_with (first|(go_at_call 89;refine hIs.mono ?_;clear hIs;rintro ev w2⟨rfl,hb2⟩;obtain⟨k0,k1,k2⟩:=uh HH w2 hb2)|(go_at_call 118;refine(uh HI2 _ hb2).mono ?_;rintro ev w3⟨rfl,hb3⟩))
     go_ret;exact⟨ag (uh HR).symm,((uh HB1).trans (hb2.mono (uh HB1).size)).trans (hb3.mono (nT (uh HB1).size hb2.size))⟩
    |false=>
     have A2:Hid (∀(i:Nat) a,i<k+1->s.ins[i]?=some a->vN nm.data.toList a=false):=ab (λi a hi ha=>by
      by_cases hik:i=k
      .subst hik;rw[uh HM]at ha;cases ha;rw[uh HE,hb3]
      exact uh A i a (by omega) ha)
     rw[hb3]at HI2;clear hb0 hb3 hxe hy hyok hyv hpl1 hwv3 hN hys;go_wp2_with (first|(go_at_call 89;refine hIs.mono ?_;clear hIs;rintro ev w2⟨rfl,hb2⟩;obtain⟨k0,k1,k2⟩:=uh HH w2 hb2)|(go_at_call 118;refine(uh HI2 _ hb2).mono ?_;rintro ev w3⟨rfl,hb3⟩))
     go_roundw;case rel=>
      first
       |exact⟨k+1,by omega,by go_num,((uh HB1).trans (hb2.mono (uh HB1).size)).trans (hb3.mono (nT (uh HB1).size hb2.size)),uh A2⟩
       |((repeat apply Exists.intro);exact⟨⟨k+1,by omega,by go_num,((uh HB1).trans (hb2.mono (uh HB1).size)).trans (hb3.mono (nT (uh HB1).size hb2.size)),uh A2⟩,rfl⟩)
     case measure=>simp[intOf];omega
  have HR:Hid (s.ins.any (vN nm.data.toList)=false):=ab (Jw (λi a hi=>uh A i a (by
   have:=(gL hi)
   rw[<-uh HN]at this;omega) hi))
  go_wp2_with fail
  go_ret;exact⟨ag (uh HR).symm,hb⟩
def D1(set:LU->Bool)(p:dC):Bool:=!p.isVar||set p.text.data.toList
def dt(set:LU->Bool):List dC->Option Int
 |[]=>none
 |p::r=>if D1 set p=true then dt set r else some p.place
theorem jO(set:LU->Bool)(a b:List dC):dt set (a++b)=(dt set a).or (dt set b):=by
 induction a with
 |nil=>simp[dt]
 |cons p r ih=>
  simp only[List.cons_append,dt];split
  .exact ih
  rfl
theorem Aq(set:LU->Bool)(a b:List bM):bj set (a++b)=(bj set a).or (bj set b):=by
 induction a with
 |nil=>simp[bj]
 |cons x r ih=>
  cases x with
  |inl c=>simp only[List.cons_append,bj];exact ih
  |inr pA=>
   obtain⟨n,k⟩:=pA
   simp only[List.cons_append,bj];split
   .exact ih
   rfl
theorem pE(set:LU->Bool)(xs:List bM):dt set (parts xs)=(bj set xs).map λk=>(k:Int):=by
 induction xs using lS with
 |h0=>rfl
 |h1 xs a ih=>
  rw[dJ,Aq];cases a with
  |inr pA=>
   obtain⟨n,k⟩:=pA
   show dt set (parts xs++[⟨bt n,true,(k:Int)⟩])=_;rw[jO,ih];cases bj set xs with
   |some _=>rfl
   |none=>simp only[Option.none_or,dt,bj,D1,Bool.not_true,Bool.false_or,aK];split<;>rfl
  |inl c=>
   have e:(bj set xs).or (bj set [.inl c])=bj set xs:=by cases bj set xs<;>rfl
   rw[e,<-ih];show dt set (lU (parts xs) (bt [c]))=_;rcases eR (parts xs)with hc|⟨qs,q,he,hq⟩
   .rw[iC (by
     rintro q hq;rcases hc with h|⟨qs,p,h,hp⟩
     .rw[h]at hq;cases hq
     rw[h]at hq;simp at hq;subst hq;exact hp),jO]
    cases dt set (parts xs)<;>simp[dt,D1]
   rw[he,jb hq,jO,jO];congr 1;simp[dt,D1,hq]
theorem uK{set:LU->Bool}{l:List dC}{k:Nat}{p:dC}(hk:l[k]?=some p)(hp:D1 set p=false)(h:∀(i:Nat) q,i<k->l[i]?=some q->D1 set q=true):dt set l=some p.place:=by
 induction l generalizing k with
 |nil=>simp at hk
 |cons a r ih=>
  cases k with
  |zero=>simp at hk;subst hk;simp[dt,hp]
  |succ k=>have ha:=h 0 a (by omega) rfl;simp only[dt,ha,if_true];exact ih (by simpa using hk) (λi q hi hq=>h (i+1) q (by omega) (by simpa using hq))
theorem y7{set:LU->Bool}{l:List dC}(h:∀(i:Nat) q,l[i]?=some q->D1 set q=true):dt set l=none:=by
 induction l with
 |nil=>rfl
 |cons a r ih=>simp only[dt,h 0 a rfl,if_true];exact ih (λi q hq=>h (i+1) q (by simpa using hq))
def pw(ss:List ax):Prop:=∀(i:Nat) (s:ax),ss[i]?=some s->∃m:cA,s.ins[0]?=some m/\-1<=m.stage/\m.stage<(i:Int)
theorem wM{s:ax}{m:cA}(h:s.ins[0]?=some m):j5 s.stg=m.stage:=by
 unfold j5 ax.stg;cases hi:s.ins with
 |nil=>rw[hi]at h;cases h
 |cons a r=>rw[hi]at h;simp at h;subst h;rfl
theorem xN{st:List aU}{nm:LU}:∀(f:Nat) (j:Int) (f':Nat),(∀(i:Nat) s,st[i]?=some s->-1<=j5 s/\j5 s<i)->-1<=j->j+1<=f->j+1<=f'->eM st f j nm=eM st f' j nm:=by
 intro f;induction f with
 |zero=>
  intro j f' hg h0 h1 h2;have hj:j=-1:=by omega
  subst hj;cases f' with
  |zero=>rfl
  |succ f'=>rfl
 |succ f ih=>
  intro j f' hg h0 h1 h2;by_cases hj:j=-1
  .subst hj;cases f'<;>rfl
  cases f' with
  |zero=>omega
  |succ f'=>
   simp only[eM,if_neg hj];cases hs:st[j.toNat]? with
   |none=>rfl
   |some s=>simp only;have:=hg j.toNat s hs;rw[ih (j5 s) f' hg this.1 (by omega) (by omega)]
theorem Am{ss:List ax}(h:pw ss):∀(i:Nat) s,(ss.map ax.stg)[i]?=some s->-1<=j5 s/\j5 s<i:=λi s hs=>by
 rw[List.getElem?_map]at hs;cases hx:ss[i]? with
 |none=>rw[hx]at hs;cases hs
 |some x=>rw[hx]at hs;cases hs;obtain⟨m,hm,h1,h2⟩:=h i x hx;rw[wM hm];exact⟨h1,h2⟩
theorem Ch(B fb:Nat)(sv:Value)(ss:List ax)(nm:BA)(w:World)(h:aQ w B fb sv ss)(hg:pw ss): Cl 90 #[.pointer (some ⟨fb,0,none⟩),.string nm] w λev w'=>ev=.returned (.bool (dg (ss.map ax.stg) nm.data.toList))/\Bw w w':=by
 have c0:=h.c0;have hsh:=h.short;obtain⟨ao,cap,hv⟩:∃ao cap,sv=.slice ao ss.length cap:=by
  rcases h.row.2 with⟨e,h0⟩|⟨g,cap,cur,e,_⟩
  .exact⟨none,0,by rw[e,h0]⟩
  exact⟨_,_,e⟩
 have hv':=hv;obtain⟨n,hn⟩:=aq ss.length;have HF:=ab h;have HG:=ab hg;have HN:=ab hn;have HV:=ab hv';subst hv;rw[<-hn]at c0 hsh;clear h hv' hn hg;have e3:IntKind.i64.wrap ((n:Int)-1)=(n:Int)-1:=by simp[IntKind.wrap,IntKind.bits,IntKind.signed];omega
 go_enter func90,ntmps90;go_wp2_with fail;go_loopw [5] (λi wr=>∃j:Int,-1<=j/\j<n/\i=.int .i64 j/\Bw w wr/\dg (ss.map ax.stg) nm.data.toList=eM (ss.map ax.stg) n j nm.data.toList) (λi _=>(intOf i+1).toNat);case atStart=>exact⟨(n:Int)-1,by omega,by omega,rfl,bR _ _,by unfold dg;rw[List.length_map,<-uh HN]⟩
 case round=>
  obtain⟨j,hj0,hj1,rfl,hb,he⟩:=hrel;have HE:=ab he;clear he;by_cases hj:j=-1
  .subst hj;have HR:Hid (dg (ss.map ax.stg) nm.data.toList=false):=ab (by rw[uh HE];cases n<;>rfl);go_wp2_with fail;go_ret;exact⟨ag (uh HR).symm,hb⟩
  obtain⟨q,hq⟩:∃q:Nat,j=q:=⟨j.toNat,by omega⟩
  subst hq;have hlt:q<ss.length:=by rw[<-uh HN];omega
  obtain⟨s,hs⟩:∃s,ss[q]?=some s:=⟨_,gG hlt⟩
  have hFr:=(uh HF).below hb;have hok:=hFr.all s (mG hs);have hrow:=hFr.row;obtain⟨g,cap',hsv,_,_⟩:=World.ownsRow.form hrow (by omega);injection hsv with e1 e2 e4;subst e1 e4;obtain⟨q0,q1⟩:=rJ hrow q s hs;obtain⟨ao2,n2,cap2,hiv,-⟩:=lQ hok;have c0':=hFr.c0;rw[<-uh HN]at c0';obtain⟨m,hm,hm1,hm2⟩:=uh HG q s hs;have hS:=Fx s nm B wr hok;have hBa:=λw' (hb':Bw wr w')=>EZ s m B w' (hok.below hb') hm;have HS1:Hid (eM (ss.map ax.stg) n (q:Int) nm.data.toList=(l9 s.stg nm.data.toList||eM (ss.map ax.stg) n m.stage nm.data.toList)):=ab (by
   cases n with
   |zero=>omega
   |succ n=>
    have h1:eM (ss.map ax.stg) (n+1) (q:Int) nm.data.toList=(l9 s.stg nm.data.toList||eM (ss.map ax.stg) n (j5 s.stg) nm.data.toList):=by simp only[eM,if_neg hj,Int.toNat_natCast,List.getElem?_map,hs,Option.map_some]
    rw[h1,wM hm,xN n m.stage (n+1) (Am (uh HG)) hm1 (by omega) (by omega)])
  rw[hiv]at q1 hS hBa;have g1:((q:Int) != -1)=true:=by rw[bne_iff_ne];omega
  have g2:¬(q:Int)=-1:=by omega
  have i1:(q:Int)<(n:Int):=by omega
  have i0:(0:Int)<=(q:Int):=by omega
  have HHC:Hid (∀w',Bw wr w'->w'.cell? ⟨fb,0,none⟩=some (.slice (some ⟨g,0,none⟩) n cap)/\w'.cell? ⟨g,q*2,none⟩=some (.string s.name)/\w'.cell? ⟨g,q*2+1,none⟩=some (.slice ao2 n2 cap2)):=ab (λw' hb'=>⟨cL hb' c0',cL hb' q0,cL hb' q1⟩);clear hFr hok hrow hiv hm hs hj;cases hb1:l9 s.stg nm.data.toList with
  |true=>
   have HR:Hid (dg (ss.map ax.stg) nm.data.toList=true):=ab (by rw[uh HE,uh HS1,hb1];rfl);rw[hb1]at hS;clear hb1;go_wp2_with (go_at_call 120;refine hS.mono ?_;clear hS;rintro ev w2⟨rfl,hb2⟩)
   go_ret;exact⟨ag (uh HR).symm,hb.trans (hb2.mono hb.size)⟩
  |false=>
   have HR:Hid (dg (ss.map ax.stg) nm.data.toList=eM (ss.map ax.stg) n m.stage nm.data.toList):=ab (by rw[uh HE,uh HS1,hb1];rfl);rw[hb1]at hS;clear hb1;go_wp2_with (first|(go_at_call 120;refine hS.mono ?_;clear hS;rintro ev w2⟨rfl,hb2⟩;obtain⟨k0,k1,k2⟩:=uh HHC w2 hb2)|(go_at_call 119;refine(hBa _ hb2).mono ?_;clear hBa;rintro ev w3⟨rfl,hb3⟩))
   go_roundw;case rel=>
    first
     |exact⟨m.stage,hm1,by omega,rfl,(hb.trans (hb2.mono hb.size)).trans (hb3.mono (nT hb.size hb2.size)),uh HR⟩
     |((repeat apply Exists.intro);exact⟨⟨m.stage,hm1,by omega,rfl,(hb.trans (hb2.mono hb.size)).trans (hb3.mono (nT hb.size hb2.size)),uh HR⟩,rfl⟩)
   case measure=>simp[intOf];omega
theorem vG{set:LU->Bool}{l:List Wd}{k p:Nat}{x:Wd}(hk:l[k]?=some x)(hp:bj set x.atoms=some p)(h:∀(i:Nat) y,i<k->l[i]?=some y->bj set y.atoms=none):cS set l=some p:=by
 induction l generalizing k with
 |nil=>simp at hk
 |cons a r ih=>
  cases k with
  |zero=>simp at hk;subst hk;simp[cS,hp]
  |succ k=>have ha:=h 0 a (by omega) rfl;simp only[cS,ha];exact ih (by simpa using hk) (λi q hi hq=>h (i+1) q (by omega) (by simpa using hq))
theorem xt{set:LU->Bool}{l:List Wd}(h:∀(i:Nat) y,l[i]?=some y->bj set y.atoms=none):cS set l=none:=by
 induction l with
 |nil=>rfl
 |cons a r ih=>simp only[cS,h 0 a rfl];exact ih (λi q hq=>h (i+1) q (by simpa using hq))
theorem vK:∀(l:List dC) (i:Nat) (m:dC),l[i]?=some m->(tf l)[i*3]?=some (.string m.text)/\(tf l)[i*3+1]?=some (.bool m.isVar)/\(tf l)[i*3+2]?=some (.int .i64 m.place):=by
 intro l;induction l with
 |nil=>intro i m h;simp at h
 |cons a r ih=>
  intro i m h;cases i with
  |zero=>simp at h;subst h;exact⟨rfl,rfl,rfl⟩
  |succ i=>have:=ih i m (by simpa using h);rw[show (i+1)*3=i*3+3 by omega];exact⟨this.1,this.2.1,this.2.2⟩
def uN(w:World)(ev:Ending)(set:LU->Bool)(ws:List Wd):Prop:=match cS set ws with
 |some p=>jm w ev 7 p
 |none=>ev=.returned (.tuple #[])
structure ol(w:World)(B ib:Nat)(wv:Value)(ws:List aw)(st a b:Int)(f g:Value):Prop where
 cells:w.heap[ib]?=some (.cells #[wv,.int .i64 st,.int .i64 a,.int .i64 b,f,g] 86 (0,0))
 wsm:mU w B wv ws
 base:B<=ib
 short:ws.length<=1500
 small:∀x∈ws,(parts x.xs).length<=1500/\∀t,an x.xs=some t->t.length<=1500
theorem ol.lt{w:World}{B ib:Nat}{wv:Value}{ws:List aw}{st a b:Int}{f g:Value}(h:ol w B ib wv ws st a b f g):ib<w.heap.size:=(eA.1 h.cells).1
theorem ol.below{w w':World}{B ib:Nat}{wv:Value}{ws:List aw}{st a b:Int}{f g:Value}(h:ol w B ib wv ws st a b f g)(hb:Bw w w'):ol w' B ib wv ws st a b f g:= ⟨(hb.block ib h.lt).trans h.cells,h.wsm.below hb,h.base,h.short,h.small⟩
theorem AZ{w:World}{B:Nat}{wv:Value}{ws:List aw}(h:mU w B wv ws):∃ao cap,wv=.slice ao ws.length cap:=by
 rcases h.row.2 with⟨e,h0⟩|⟨g,cap,cur,e,_⟩
 .exact⟨none,0,by rw[e,h0]⟩
 exact⟨_,_,e⟩
theorem DE(B fb ib:Nat)(sv wv:Value)(ss:List ax)(ws:List aw)(st a b:Int)(f g:Value)(w:World)(h:aQ w B fb sv ss)(hi:ol w B ib wv ws st a b f g)(hset:pw ss\/∀x∈ws,∀p∈parts x.xs,p.isVar=false): Cl 59 #[.pointer (some ⟨fb,0,none⟩),.pointer (some ⟨ib,0,none⟩)] w λev w'=>uN w' ev (dg (ss.map ax.stg)) (ws.map aw.wd)/\Bw w w':=by
 have c0:=cq 0 hi.cells;obtain⟨ao,cap,hv⟩:=AZ hi.wsm;have hsh:=hi.short;obtain⟨n,hn⟩:=aq ws.length;obtain⟨set,hse⟩:=aq (dg (ss.map ax.stg));have HSE:=ab hse;have HF:=ab h;have HI:=ab hi;have HN:=ab hn;have HV:=ab hv;have HSET:=ab hset;rw[<-hse];rw[hv,<-hn]at c0;rw[<-hn]at hsh;clear h hi hv hn hset hse;go_enter func59,ntmps59;go_wp2_with fail;go_loopw [13] (λi wr=>∃k:Nat,k<=n/\i=.int .i64 k/\Bw w wr/\(∀(i:Nat) y,i<k->ws[i]?=some y->bj set y.xs=none)) (λi _=>n-(intOf i).toNat);case atStart=>exact⟨0,Nat.zero_le _,rfl,bR _ _,λi s hi=>by omega⟩
 case round=>
  obtain⟨k,hk,rfl,hb,ha⟩:=hrel;have A:=ab ha;clear ha;by_cases hlt:k<n
  .have hlt':k<ws.length:=by rw[<-uh HN];exact hlt
   obtain⟨x,hx⟩:∃x,ws[k]?=some x:=⟨_,gG hlt'⟩
   have hWr:=(uh HI).wsm.below hb;have hok:=hWr.all x (mG hx);obtain⟨gw,capw,hwv,q0,q1,hgl⟩:=kg hWr k x hx;have hwv2:=uh HV;rw[hwv,<-uh HN]at hwv2;injection hwv2 with e1 e2 e3;subst e1 e3;obtain⟨aox,nx,capx,hxv⟩:=ar hok;have hnx:nx=(parts x.xs).length:=by
    rcases hok.2 with⟨e,h0⟩|⟨gg,cc,cur,e,_⟩
    .rw[e]at hxv;injection hxv with _ h1 _;rw[<-h1,h0]
    rw[e]at hxv;injection hxv with _ h1 _;exact h1.symm
   have hns:=((uh HI).small x (mG hx)).1;rw[hxv]at q1;have n0:=World.new_ne wr ⟨gw,k*2,none⟩ q0;have HX:=ab hx;have HOK:=ab hok;have HXV:=ab hxv;have HNX:=ab hnx;rw[<-hnx]at hns;have HB:=ab hb;obtain⟨W1,hW1⟩:=aq (wr.alloc (.cells #[.int .i64 (x.place:Int),.slice aox nx capx] 148));have HB1:Hid (Bw w W1):=ab (by rw[hW1];exact hb.alloc hb.size _);have hc1:=em hW1;have p1:=cq 1 hc1;clear hx hok hxv hnx hWr hwv hb hc1;go_upto_region 3 with fail;rw[<-hW1];clear hW1 q0 q1 n0;go_wp2_with fail;go_loopw [20] (λi w2=>∃j:Nat,j<=nx/\i=.int .i64 j/\Bw w w2/\(∀(i:Nat) q,i<j->(parts x.xs)[i]?=some q->D1 set q=true)) (λi _=>nx-(intOf i).toNat);case atStart=>exact⟨0,Nat.zero_le _,rfl,uh HB1,λi s hi=>by omega⟩
   case round=>
    obtain⟨j,hj,rfl,hb2,ha2⟩:=hrel;have A2:=ab ha2;clear ha2 p1;by_cases hlt2:j<nx
    .obtain⟨p,hp⟩:∃p,(parts x.xs)[j]?=some p:=⟨_,gG (by rw[<-uh HNX];exact hlt2)⟩
     have hok2:x.Ok w B:=(uh HI).wsm.all x (mG (uh HX));have hrow3:=ap hok2 (w':=wr) (λi hi=>hb2.block i (World.ownsRow.lt hok2 i hi).2);obtain⟨gp,capp,hpv,_,hgpl⟩:=World.ownsRow.form hrow3 (by rw[<-uh HNX];omega);have hpv2:=uh HXV;rw[hpv]at hpv2;injection hpv2 with e1 e2 e3;subst e1 e3;rw[hpv]at hrow3;obtain⟨t0,t1,t2⟩:=vK _ j p hp;have hjl:j<(parts x.xs).length:=by rw[<-uh HNX];exact hlt2
     have u0:wr.cell? ⟨gp,j*3,none⟩=some (.string p.text):=by rw[World.ownsRow.cellAt hrow3 _ (by omega)];exact t0
     have u1:wr.cell? ⟨gp,j*3+1,none⟩=some (.bool p.isVar):=by rw[World.ownsRow.cellAt hrow3 _ (by omega)];exact t1
     have u2:wr.cell? ⟨gp,j*3+2,none⟩=some (.int .i64 p.place):=by rw[World.ownsRow.cellAt hrow3 _ (by omega)];exact t2
     have n1:=World.new_ne wr ⟨gp,j*3,none⟩ u0;obtain⟨W3,hW3⟩:=aq (wr.alloc (.cells #[.string p.text,.bool p.isVar,.int .i64 p.place] 192));have hb3:Bw w W3:=by rw[hW3];exact hb2.alloc hb2.size _
     have hc3:=em hW3;have v0:=cq 0 hc3;have v1:=cq 1 hc3;have v2:=cq 2 hc3;have HP:=ab hp;have HB3:=ab hb3;have hFr:=(uh HF).below hb3;have HFr:=ab hFr;clear hok2 hrow3 hpv hp t0 t1 t2 hc3 hb2 hb3 hjl hFr;go_upto_region 6 with fail;rw[<-hW3];clear hW3 u0 u1 u2 n1;cases hvar:p.isVar with
     |false=>
      have A3:Hid (∀(i:Nat) q,i<j+1->(parts x.xs)[i]?=some q->D1 set q=true):=ab (λi q hi hq=>by
       by_cases hij:i=j
       .subst hij;rw[uh HP]at hq;cases hq;simp[D1,hvar]
       exact uh A2 i q (by omega) hq)
      rw[hvar]at v1;clear hvar;go_wp2_with fail;go_roundw;case rel=>
       first
        |exact⟨j+1,by omega,by go_num,uh HB3,uh A3⟩
        |((repeat apply Exists.intro);exact⟨⟨j+1,by omega,by go_num,uh HB3,uh A3⟩,rfl⟩)
      case measure=>simp[intOf];omega
     |true=>
      have hbeg:pw ss:=by
       rcases uh HSET with h|h
       .exact h
       have:=h x (mG (uh HX)) p (mG (uh HP));rw[hvar]at this;cases this
      have hS:=Ch B fb sv ss p.text W3 (uh HFr) hbeg;rw[<-uh HSE]at hS;rw[hvar]at v1;cases hst:set p.text.data.toList with
      |true=>
       have A3:Hid (∀(i:Nat) q,i<j+1->(parts x.xs)[i]?=some q->D1 set q=true):=ab (λi q hi hq=>by
        by_cases hij:i=j
        .subst hij;rw[uh HP]at hq;cases hq;simp[D1,hst]
        exact uh A2 i q (by omega) hq)
       rw[hst]at hS;clear hvar hst;go_wp2_with (go_at_call 90;refine hS.mono ?_;clear hS;rintro ev w5⟨rfl,hb5⟩)
       go_roundw;case rel=>
        first
         |exact⟨j+1,by omega,by go_num,(uh HB3).trans (hb5.mono (uh HB3).size),uh A3⟩
         |((repeat apply Exists.intro);exact⟨⟨j+1,by omega,by go_num,(uh HB3).trans (hb5.mono (uh HB3).size),uh A3⟩,rfl⟩)
       case measure=>simp[intOf];omega
      |false=>
       have hup:=uK (uh HP) (by simp[D1,hst,hvar]) (uh A2);rw[pE]at hup;obtain⟨pp,hpp,hpl⟩:∃pp,bj set x.xs=some pp/\(pp:Int)=p.place:=by
        cases hu:bj set x.xs with
        |none=>rw[hu]at hup;cases hup
        |some pp=>rw[hu]at hup;injection hup with hup;exact⟨pp,rfl,hup⟩
       have HU:Hid (cS set (ws.map aw.wd)=some pp):=ab (vG (k:=k) (x:=x.wd) (by rw[List.getElem?_map,uh HX];rfl) hpp (λi y hi hy=>by
        rw[List.getElem?_map]at hy;cases hw:ws[i]? with
        |none=>rw[hw]at hy;cases hy
        |some z=>rw[hw]at hy;cases hy;exact uh A i z hi hw))
       rw[<-hpl]at v2;rw[hst]at hS;have hFl:=λw'=>aZ 7 pp w';have HV2:Hid (∀w',Bw W3 w'->w'.cell? ⟨wr.heap.size,2,none⟩=some (.int .i64 (pp:Int))):=ab (λw' hb'=>cL hb' v2);clear hvar hst hup hpp hpl v2;go_wp2_with (first|(go_at_call 90;refine hS.mono ?_;clear hS;rintro ev w5⟨rfl,hb5⟩;have v2:=uh HV2 w5 hb5)|(go_at_call 35;refine(hFl _).mono ?_;clear hFl;rintro ev w8⟨bb,rfl,hc,hb8⟩))
       refine⟨rfl,?_,((uh HB3).trans (hb5.mono (uh HB3).size)).trans (hb8.mono (nT (uh HB3).size hb5.size))⟩;unfold uN;rw[uh HU];exact⟨bb,rfl,hc⟩
    have A3:Hid (∀(i:Nat) y,i<k+1->ws[i]?=some y->bj set y.xs=none):=ab (λi y hi hy=>by
     by_cases hik:i=k
     .subst hik;rw[uh HX]at hy;cases hy;have:=y7 (set:=set) (l:=parts x.xs) (λi q hq=>uh A2 i q (by
       have:=(gL hq)
       rw[<-uh HNX]at this;omega) hq)
      rw[pE]at this;cases hu:bj set x.xs with
      |none=>rfl
      |some _=>rw[hu]at this;cases this
     exact uh A i y (by omega) hy)
    go_wp2_with fail
    go_roundw;case rel=>
     first
      |exact⟨k+1,by omega,by go_num,hb2,uh A3⟩
      |((repeat apply Exists.intro);exact⟨⟨k+1,by omega,by go_num,hb2,uh A3⟩,rfl⟩)
    case measure=>simp[intOf];omega
  have HU:Hid (cS set (ws.map aw.wd)=none):=ab (xt (λi y hy=>by
   rw[List.getElem?_map]at hy;cases hw:ws[i]? with
   |none=>rw[hw]at hy;cases hy
   |some z=>rw[hw]at hy;cases hy;exact uh A i z (by have:=(gL hw);rw[<-uh HN]at this;omega) hw))
  go_wp2_with fail
  go_end0;refine⟨?_,hb⟩;unfold uN;rw[uh HU]
end Go.Proofs.YtjhobnjdfhkohaaGreatDoor
