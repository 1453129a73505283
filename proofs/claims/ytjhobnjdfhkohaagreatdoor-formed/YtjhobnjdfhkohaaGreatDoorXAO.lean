import Derived.Test.YtjhobnjdfhkohaaGreatDoorXAN
set_option linter.all false
set_option maxHeartbeats 2000000
set_option maxRecDepth 10000
namespace Go.Proofs.YtjhobnjdfhkohaaGreatDoor
open Go.Proofs.Tryz
open Go.RowKit Go.Maps
theorem A6(sb:Nat)(cv:OA)(w:World)(h:w.cell? ⟨sb,0,none⟩=some (.pointer cv)):Cl 103 #[.pointer (some ⟨sb,0,none⟩)] w λe w'=>e=.returned (.pointer cv)/\w'=w:=by go_enter func103,ntmps103;go_wp2;go_ret;exact⟨rfl,rfl⟩
theorem DX(m:cA)(x:aw)(mb gs N i sk:Nat)(cv:OA)(B:Nat)(w:World)(hcs:w.cell? ⟨mb,1,none⟩=some (.slice (some ⟨gs,0,none⟩) N N))(hci:w.cell? ⟨gs,i,none⟩=some (.pointer (some ⟨sk,0,none⟩)))(hcv:w.cell? ⟨sk,0,none⟩=some (.pointer cv))(hiN:i<N)(h:m.Ok w B)(h0:m.ws[0]?=some x)(hst:m.stage=(i:Int)): Cl 73 #[.pointer (some ⟨mb,0,none⟩),m.val] w λev w'=>ev=.returned (.pointer (if jg x.xs=true then cv else none))/\Bw w w':=by
 obtain⟨W0,hW0⟩:=aq (w.alloc (.cells #[m.wv,.int .i64 m.stage,.int .i64 (af m.rule).1,.int .i64 (af m.rule).2.1,aN (af m.rule).2.2.1,aN (af m.rule).2.2.2] 86));have hb0:=dw hW0;have hc0:=em hW0;have hok:=h.below hb0;have hsm:=(h.small x (mG h0)).1;obtain⟨g,cap,hcp,_,_⟩:=ic h.ws.row (by have:=(gL h0);omega);have hIs:∀(t:BA) W,Bw W0 W->Cl 89 #[m.val,.string t] W λev w'=>ev=.returned (.bool (an x.xs==some t.data.toList))/\Bw W w':=λt W hB=>xo m x t B W (hok.below hB).ws h0 hsm;have hI1:=hIs ⟨#[67,79,80,89]⟩ W0 (bR _ _);have hI2:=λW hB=>hIs ⟨#[65,68,68]⟩ W hB;rw[show (⟨#[67,79,80,89]⟩:BA).data.toList=iV from rfl]at hI1;rw[show (⟨#[65,68,68]⟩:BA).data.toList=Dz from rfl]at hI2;obtain⟨b1,hb1e⟩:=aq ((an x.xs==some iV));obtain⟨b2,hb2e⟩:=aq ((an x.xs==some Dz));have ht:jg x.xs=(b1||b2):=by unfold jg;rw[hb1e,hb2e]
 rw[<-hb1e]at hI1;rw[<-hb2e]at hI2;rw[ht];have HK:Hid (∀W,Bw W0 W->W.heap[w.heap.size]?=some (.cells #[m.wv,.int .i64 m.stage,.int .i64 (af m.rule).1,.int .i64 (af m.rule).2.1,aN (af m.rule).2.2.1,aN (af m.rule).2.2.2] 86 (0,0))/\(W.cell? ⟨sk,0,none⟩=some (.pointer cv)/\W.cell? ⟨mb,1,none⟩=some (.slice (some ⟨gs,0,none⟩) N N)/\W.cell? ⟨gs,i,none⟩=some (.pointer (some ⟨sk,0,none⟩)))):=ab (λW hB=>⟨(hB.block w.heap.size (gA hc0)).trans hc0,⟨cL hB (cL hb0 hcv),cL hB (cL hb0 hcs),cL hB (cL hb0 hci)⟩⟩);obtain⟨wv,ws,stage,rule⟩:=m;simp only at hcp hst hW0 HK hc0;subst hcp hst;unfold cA.val at hI1 hI2⊢;simp only at hI1 hI2⊢;obtain⟨n,hn⟩:=aq ws.length;rw[<-hn]at hI1 hI2 hW0 HK hc0⊢;have r0:=cq 0 hc0;have r1:=cq 1 hc0;have r2:=cq 2 hc0;have r3:=cq 3 hc0;have r4:=cq 4 hc0;have r5:=cq 5 hc0;clear h h0 hok hIs hb1e hb2e ht hn hsm hc0 hcv hcs hci;cases b1 with
 |true=>
  simp only[Bool.true_or,if_true];go_enter func73,ntmps73;go_upto_region 1 with fail;rw[<-hW0];clear hW0;go_upto_region 3 with(go_at_call 89;refine hI1.mono ?_;clear hI1;rintro e1 w1⟨rfl,hb1⟩)
  obtain⟨hh,hcv,hcs1,hci1⟩:=uh HK w1 hb1;have s1:=cq 1 hh;clear hh r0 r1 r2 r3 r4 r5;go_upto_region 4 with fail;go_quiet ((go_at_call 103;exact Calls.quiet_of_same (A6 sk cv _ (cL (below_drewN (bR _ _) _) hcv))));go_wp2_with fail;go_ret;exact⟨rfl,below_drewN (hb0.trans (hb1.mono hb0.size)) _⟩
 |false=>
  have HK2:Hid (∀W,Bw W0 W->W.cell? ⟨w.heap.size,0,none⟩=some (.slice (some ⟨g,0,none⟩) n cap)/\W.cell? ⟨w.heap.size,1,none⟩=some (.int .i64 (i:Int))/\W.cell? ⟨w.heap.size,2,none⟩=some (.int .i64 (af rule).1)/\W.cell? ⟨w.heap.size,3,none⟩=some (.int .i64 (af rule).2.1)/\W.cell? ⟨w.heap.size,4,none⟩=some (aN (af rule).2.2.1)/\W.cell? ⟨w.heap.size,5,none⟩=some (aN (af rule).2.2.2)/\(W.cell? ⟨sk,0,none⟩=some (.pointer cv)/\W.cell? ⟨mb,1,none⟩=some (.slice (some ⟨gs,0,none⟩) N N)/\W.cell? ⟨gs,i,none⟩=some (.pointer (some ⟨sk,0,none⟩)))):=ab (λW hB=>by obtain⟨hh,hcv⟩:=uh HK W hB;exact⟨cq 0 hh,cq 1 hh,cq 2 hh,cq 3 hh,cq 4 hh,cq 5 hh,hcv⟩);have HI2:=ab hI2;clear hI2;cases b2 with
  |true=>
   simp only[Bool.false_or,if_true];go_enter func73,ntmps73;go_upto_region 1 with fail;rw[<-hW0];clear hW0;go_upto_region 4 with(first|(go_at_call_of 89 (Value.string ⟨#[67,79,80,89]⟩);refine hI1.mono ?_;clear hI1;rintro e1 w1⟨rfl,hb1⟩;obtain⟨s0,s1,s2,s3,s4,s5,hcv,hcs1,hci1⟩:=uh HK2 w1 hb1;clear r0 r1 r2 r3 r4 r5)|(go_at_call_of 89 (Value.string ⟨#[65,68,68]⟩);refine(uh HI2 _ hb1).mono ?_;rintro e2 w2⟨rfl,hb2⟩;obtain⟨_,v1,_,_,_,_,hcv2,hcs2,hci2⟩:=uh HK2 w2 (hb1.trans (hb2.mono hb1.size));clear s0 s1 s2 s3 s4 s5 hcv hcs1 hci1))
   go_quiet ((go_at_call 103;exact Calls.quiet_of_same (A6 sk cv _ (cL (below_drewN (bR _ _) _) hcv2))))
   go_wp2_with fail
   go_ret;exact⟨rfl,below_drewN (hb0.trans ((hb1.trans (hb2.mono hb1.size)).mono hb0.size)) _⟩
  |false=>
   simp only[Bool.false_or,Bool.false_eq_true,if_false];go_enter func73,ntmps73;go_upto_region 1 with fail;rw[<-hW0];clear hW0;go_wp2_with (first|(go_at_call_of 89 (Value.string ⟨#[67,79,80,89]⟩);refine hI1.mono ?_;clear hI1;rintro e1 w1⟨rfl,hb1⟩;obtain⟨s0,s1,s2,s3,s4,s5,hcv,hcs1,hci1⟩:=uh HK2 w1 hb1;clear r0 r1 r2 r3 r4 r5)|(go_at_call_of 89 (Value.string ⟨#[65,68,68]⟩);refine(uh HI2 _ hb1).mono ?_;rintro e2 w2⟨rfl,hb2⟩))
   go_ret;exact⟨rfl,hb0.trans ((hb1.trans (hb2.mono hb1.size)).mono hb0.size)⟩
def ja(st:List aU)(i k:Nat):Bool:=match st[i]? with
 |some s=>s.ins.any λx=>x.stage==(k:Int)
 |none=>false
def mo(st:List aU)(n:Nat):Prop:=∀P:Nat->Prop,P (st.length-1)->(∀i k,P i->ja st i k=true->P k)->P n
theorem mo.last{st:List aU}:mo st (st.length-1):=λ_ h _=>h
theorem mo.more{st:List aU}{i k:Nat}(h:mo st i)(w:ja st i k=true):mo st k:=λP a b=>b i k (h P a b) w
structure fp(st:List aU)(bs:List Bool):Prop where
 len:bs.length=st.length
 iff:∀k,bs[k]?=some true↔mo st k
theorem fp.one{st:List aU}{a b:List Bool}(ha:fp st a)(hb:fp st b):a=b:=by
 apply List.ext_getElem?;intro k;have h:=(ha.iff k).trans (hb.iff k).symm;by_cases hk:k<st.length
 .have h1:=gG (l:=a) (by rw[ha.len];exact hk);have h2:=gG (l:=b) (by rw[hb.len];exact hk);rw[h1,h2]at h⊢;simp only[Option.some.injEq]at h⊢;rw[Bool.eq_iff_iff];exact h
 rw[List.getElem?_eq_none_iff.2 (by rw[ha.len];omega),List.getElem?_eq_none_iff.2 (by rw[hb.len];omega)]
theorem fp.of{st:List aU}{bs:List Bool}(hl:bs.length=st.length)(hs:∀k,bs[k]?=some true->mo st k)(h0:bs[st.length-1]?=some true)(hc:∀i k,bs[i]?=some true->ja st i k=true->bs[k]?=some true):fp st bs:= ⟨hl,λk=>⟨hs k,λh=>h (λk=>bs[k]?=some true) h0 hc⟩⟩
def fq(bs:List Bool)(n:Nat):List Nat:=(List.range n).filter λk=>bs[k]?==some true
theorem Ei{bs:List Bool}{n:Nat}(h:bs[n]?=some true):fq bs (n+1)=fq bs n++[n]:=by unfold fq;rw[List.range_succ,List.filter_append];simp[h]
theorem CT{bs:List Bool}{n:Nat}(h:¬bs[n]?=some true):fq bs (n+1)=fq bs n:=by unfold fq;rw[List.range_succ,List.filter_append];simp[h]
theorem yP(bs:List Bool)(n:Nat):(fq bs n).length<=n:=by have:=List.length_filter_le (λk=>bs[k]?==some true) (List.range n);rw[List.length_range]at this;exact this
theorem yE{bs:List Bool}{k i:Nat}(h:(bs.set k true)[i]?=some true):i=k\/bs[i]?=some true:=by
 rw[List.getElem?_set]at h;split at h
 .rename_i e;exact .inl e.symm
 exact .inr h
theorem rq{bs:List Bool}{k i:Nat}(h:bs[i]?=some true):(bs.set k true)[i]?=some true:=by
 rw[List.getElem?_set];split
 .rename_i e;subst e;rw[if_pos (gL h)]
 exact h
theorem wP{bs:List Bool}{k:Nat}(h:k<bs.length):(bs.set k true)[k]?=some true:=by rw[List.getElem?_set_self h]
theorem yj{st:List aU}{i k:Nat}{s:aU}{x:ki}(hs:st[i]?=some s)(hx:x∈s.ins)(he:x.stage=(k:Int)):ja st i k=true:=by unfold ja;rw[hs];exact List.any_eq_true.2 ⟨x,hx,by simp[he]⟩
theorem tL{st:List aU}{i k:Nat}(h:ja st i k=true):∃s x,st[i]?=some s/\x∈s.ins/\x.stage=(k:Int):=by
 unfold ja at h;cases hs:st[i]? with
 |none=>rw[hs]at h;cases h
 |some s=>rw[hs]at h;obtain⟨x,hx,he⟩:=List.any_eq_true.1 h;exact⟨s,x,rfl,hx,by simpa using he⟩
def uO(st:List aU):Prop:=∀(i:Nat) (s:aU),st[i]?=some s->∀x∈s.ins,-1<=x.stage/\x.stage<(i:Int)
theorem uO.snoc{st:List aU}{nm:LU}(h:uO st):uO (st++[⟨nm,[]⟩]):=λi s hi x hx=>by
 rw[List.getElem?_append]at hi;split at hi
 .exact h i s hi x hx
 have:=mG hi;rw[List.mem_singleton]at this;subst this;cases hx
theorem B4(st:List aU)(nm:LU):-1<=bf st nm/\bf st nm<(st.length:Int):=by
 unfold bf;cases h:st.findIdx? (λs=>s.name==nm)with
 |none=>simp only;omega
 |some i=>obtain⟨hlt,_⟩:=List.findIdx?_eq_some_iff_getElem.1 h;simp only;omega
theorem uO.add{st:List aU}(h:uO st)(i:ki)(h1:-1<=i.stage)(h2:i.stage<(st.length:Int)-1\/i.stage=-1):uO (di st i):=by
 unfold di;cases hl:st.getLast? with
 |none=>exact h
 |some s=>
  have hne:st≠[]:=by rintro rfl;cases hl
  have hst:st=st.dropLast++[s]:=by have h1:=List.dropLast_concat_getLast hne;rw[List.getLast?_eq_some_getLast hne]at hl;injection hl with hl;rw[hl]at h1;exact h1.symm
  have hlen:=List.length_pos_iff.2 hne;intro k a hk x hx;simp only at hk;rw[List.getElem?_append]at hk;split at hk
  .exact h k a (by rw[hst,List.getElem?_append_left (by assumption)];exact hk) x hx
  have hka:=(gL hk)
  have hm:=mG hk;rw[List.mem_singleton]at hm;subst hm;rw[List.length_dropLast]at *;simp only[lC,lN]at hka;have hkk:k=st.length-1:=by omega
  rcases mA.1 hx with hx|hx
  .refine h k s ?_ x hx;rw[hst,List.getElem?_append_right (by rw[List.length_dropLast];omega),List.length_dropLast,hkk];simp
  rw[List.mem_singleton]at hx;subst hx;exact⟨h1,by omega⟩
theorem GQ{op:Nat}{st st':List aU}{ws:List Wd}{k:Int}(h:uO st)(hr:br op st ws=.ok (st',k)):uO st'/\-1<=k/\(k<(st'.length:Int)-1\/k=-1):=by
 have hf:∀b n,uO (st++[⟨n,[]⟩])/\-1<=(if b=a6 then (-1:Int) else bf st b)/\((if b=a6 then (-1:Int) else bf st b)<((st++[(⟨n,[]⟩:aU)]).length:Int)-1\/(if b=a6 then (-1:Int) else bf st b)=-1):=λb n=>by
  have:=B4 st b;refine⟨h.snoc,?_,?_⟩
  .split<;>omega
  rw[lA,List.length_singleton];split
  .exact .inr rfl
  exact .inl (by omega)
 unfold br at hr;split at hr
 .unfold ba at hr;split at hr
  .cases hr
  rename_i b n _;split at hr
  .cases hr
  split at hr
  .cases hr
  split at hr
  .cases hr
  injection hr with hr;injection hr with e1 e2;rw[<-e1,<-e2];exact hf b n
 .unfold bC at hr;split at hr
  .split at hr
   .cases hr
   injection hr with hr;injection hr with e1 e2;rw[<-e1,<-e2];exact⟨h,by omega,.inr rfl⟩
  rename_i n _;split at hr
  .cases hr
  split at hr
  .cases hr
  split at hr
  .cases hr
  rename_i hno;injection hr with hr;injection hr with e1 e2;rw[<-e1,<-e2];have:=B4 st n;exact⟨h,by omega,.inl (by omega)⟩
 .split at hr
  .injection hr with hr;injection hr with e1 e2;rw[<-e1,<-e2];exact⟨h,by omega,.inr rfl⟩
  split at hr
  .split at hr
   .injection hr with hr;injection hr with e1 e2;rw[<-e1,<-e2];exact⟨h,by omega,.inr rfl⟩
   cases hr
  cases hr
 .split at hr
  .split at hr
   .injection hr with hr;injection hr with e1 e2;rw[<-e1,<-e2];exact⟨h,by omega,.inr rfl⟩
   cases hr
  cases hr
 injection hr with hr;injection hr with e1 e2;rw[<-e1,<-e2];exact⟨h,by omega,.inr rfl⟩
theorem Hx{st st':List aU}{ws:List Wd}(hf:uO st)(h:bB st ws=.ok st'):uO st':=by
 unfold bB at h;split at h
 .cases h
 split at h
 .cases h
 split at h
 .cases h
 rename_i st1 k hr;split at h
 .cases h
 split at h
 .cases h
 injection h with h;obtain⟨h1,h2,h3⟩:=GQ hf hr;rw[<-h];exact h1.add _ h2 h3
theorem Gk(l:LU)(n:Nat):∀(k:Nat) (st st':List aU),l.length-k<=n->uO st->bU l st k=.ok st'->uO st'/\st'≠[]:=by
 induction n with
 |zero=>
  intro k st st' hn hf h;rw[eG (by omega)]at h;split at h
  .cases h
  injection h with h;subst h;exact⟨hf,by assumption⟩
 |succ n ih=>
  intro k st st' hn hf h;by_cases hk:k<l.length
  .cases hl:bE l [] k with
   |error e=>rw[kZ hk hl]at h;cases h
   |ok x=>
    obtain⟨ws,t⟩:=x;by_cases ht:k<t
    .by_cases hw:ws=[]
     .subst hw;rw[jE hk hl ht]at h;exact ih _ _ _ (by omega) hf h
     rw[gX hk hl ht hw]at h;cases htk:bB st ws with
     |error e=>rw[htk]at h;cases h
     |ok st1=>rw[htk]at h;exact ih _ _ _ (by omega) (Hx hf htk) h
    rw[bU,if_pos hk,hl]at h;simp only at h;rw[dif_neg ht]at h;cases h
  rw[eG hk]at h;split at h
  .cases h
  injection h with h;subst h;exact⟨hf,by assumption⟩
theorem lO{l:LU}{st:List aU}(h:aI l=.ok st):uO st/\st≠[]:=by
 unfold aI at h;split at h
 .cases h
 split at h
 .cases h
 exact Gk l _ _ _ _ (nR _) (λi s hi=>by simp at hi) h
theorem JY{st:List aU}(h:uO st){i k:Nat}(hw:ja st i k=true):k<i:=by obtain⟨s,x,hs,hx,he⟩:=tL hw;have:=(h i s hs x hx).2;omega
theorem I5{st:List aU}(h:uO st)(hne:st≠[]){k:Nat}(hn:mo st k):k<st.length:=hn (λk=>k<st.length) (by have:=List.length_pos_iff.2 hne;omega) (λi k ih hw=>by have:=JY h hw;omega)
def DD(x:ki):Prop:=∃op:Nat,(match x.ws[0]? with|some y=>lX y.atoms|none=>none)=some op/\(af op).1<=(x.ws.length:Int)-1/\(x.ws.length:Int)-1<=(af op).2.1/\
 (op=1->(x.stage≠-1↔x.ws.length=4))/\(op≠0->op≠1->x.stage=-1)/\(op=4->x.ws.length=3->∃t,pln x.ws 2=some t/\fU t=true)
structure Gd(st:List aU):Prop where
 ins:∀s∈st,∀x∈s.ins,DD x
 size:ea st<=24
 len:st.length<=5
theorem I7{op:Nat}{st st':List aU}{ws:List Wd}{k:Int}(hg:Gd st)(hr:br op st ws=.ok (st',k)): Gd st'/\(op=1->(k≠-1↔ws.length=4))/\(op≠0->op≠1->k=-1)/\(op=4->ws.length=3->∃t,pln ws 2=some t/\fU t=true):=by
 unfold br at hr;split at hr
 .unfold ba at hr;split at hr
  .cases hr
  rename_i b n _;split at hr
  .cases hr
  split at hr
  .cases hr
  split at hr
  .cases hr
  injection hr with hr;injection hr with e1 e2;rw[<-e1];refine⟨⟨λs hs x hx=>?_,?_,?_⟩,λe=>(by cases e),λe=>absurd rfl e,λe=>(by cases e)⟩
  .rcases mA.1 hs with hs|hs
   .exact hg.ins s hs x hx
   rw[List.mem_singleton]at hs;subst hs;cases hx
  .have:=hg.size;simpa[ea]using this
  simp;omega
 .unfold bC at hr;split at hr
  .split at hr
   .cases hr
   injection hr with hr;injection hr with e1 e2;rw[<-e1,<-e2];exact⟨hg,λ_=>⟨λh=>absurd rfl h,λh=>absurd h (by assumption)⟩,λ_ e=>absurd rfl e,λe=>(by cases e)⟩
  rename_i n _;split at hr
  .cases hr
  split at hr
  .cases hr
  split at hr
  .cases hr
  rename_i h4 _ hno;injection hr with hr;injection hr with e1 e2;rw[<-e1,<-e2];exact⟨hg,λ_=>⟨λ_=>Decidable.not_not.1 h4,λ_ e=>hno (.inl e)⟩,λ_ e=>absurd rfl e,λe=>(by cases e)⟩
 .split at hr
  .injection hr with hr;injection hr with e1 e2;rw[<-e1,<-e2];exact⟨hg,λe=>(by cases e),λ_ _=>rfl,λ_ e=>by omega⟩
  split at hr
  .rename_i t ht;split at hr
   .rename_i hm;injection hr with hr;injection hr with e1 e2;rw[<-e1,<-e2];exact⟨hg,λe=>(by cases e),λ_ _=>rfl,λ_ _=>⟨t,ht,hm⟩⟩
   cases hr
  cases hr
 .split at hr
  .split at hr
   .injection hr with hr;injection hr with e1 e2;rw[<-e1,<-e2];exact⟨hg,λe=>(by cases e),λ_ _=>rfl,λe=>(by cases e)⟩
   cases hr
  cases hr
 rename_i h0 h1 h4 h6;injection hr with hr;injection hr with e1 e2;rw[<-e1,<-e2];exact⟨hg,λe=>absurd e h1,λ_ _=>rfl,λe=>absurd e h4⟩
theorem LM{st:List aU}{i:ki}(hg:Gd st)(hi:DD i)(hs:ea st<24):Gd (di st i):=by
 unfold di;cases hl:st.getLast? with
 |none=>exact hg
 |some s=>
  have hne:st≠[]:=by rintro rfl;cases hl
  have hst:st=st.dropLast++[s]:=by have h1:=List.dropLast_concat_getLast hne;rw[List.getLast?_eq_some_getLast hne]at hl;injection hl with hl;rw[hl]at h1;exact h1.symm
  have hms:s∈st:=by rw[hst];simp
  refine⟨λa ha x hx=>?_,?_,?_⟩
  .rcases mA.1 ha with ha|ha
   .exact hg.ins a (by rw[hst];exact List.mem_append_left _ ha) x hx
   rw[List.mem_singleton]at ha;subst ha;rcases mA.1 hx with hx|hx
   .exact hg.ins s hms x hx
   rw[List.mem_singleton]at hx;subst hx;exact hi
  .rw[hst]at hs;simp only[ea,List.map_append,List.sum_append,List.map_cons,List.map_nil,List.sum_cons,List.sum_nil,lA,lC,lN]at hs⊢;omega
  have:=hg.len;rw[hst]at this;simpa using this
theorem Ki{st st':List aU}{ws:List Wd}(hg:Gd st)(h:bB st ws=.ok st'):Gd st':=by
 unfold bB at h;split at h
 .cases h
 rename_i op hop;split at h
 .cases h
 rename_i hc;split at h
 .cases h
 rename_i st1 k hr;split at h
 .cases h
 split at h
 .cases h
 rename_i hz;injection h with h;obtain⟨h1,h2,h3,h4⟩:=I7 hg hr;rw[<-h];exact LM h1 ⟨op,hop,(by show (af op).1<=(ws.length:Int)-1;omega),(by show (ws.length:Int)-1<=(af op).2.1;omega),h2,h3,h4⟩ (by omega)
theorem Gh:∀(wss:List (List Wd)) (st s:List aU),Gd st->oz wss st=some s->Gd s
 |[],st,s,hg,h=>by simp only[oz]at h;injection h with h;subst h;exact hg
 |ws::r,st,s,hg,h=>by
  simp only[oz]at h;cases ht:bB st ws with
  |error e=>rw[ht]at h;cases h
  |ok st1=>rw[ht]at h;exact Gh r st1 s (Ki hg ht) h
theorem FI{l:LU}{st:List aU}(h:aI l=.ok st):Gd st:=by
 unfold aI at h;split at h
 .cases h
 split at h
 .cases h
 rename_i hm;obtain⟨wss,hr,_⟩:=wZ (vO.1 hm) _ _ _ _ (nR _) h;exact Gh wss [] st ⟨λs hs=>(by cases hs),by simp[ea],by simp⟩ hr
end Go.Proofs.YtjhobnjdfhkohaaGreatDoor
namespace Go.Proofs.YtjhobnjdfhkohaaGreatDoor.T
open Go.Proofs.Tryz
open Go.RowKit Go.Maps
structure zf(W:World)(B mb g N:Nat)(cp:OA)(cx:List aj)(sts:List (Option SN))(c:Nat):Prop where
 mkr:W.heap[mb]?=some (.cells #[.pointer cp,.slice (some ⟨g,0,none⟩) N N] 126 (0,0))
 mbB:mb<B
 gB:g<B
 len:sts.length=N
 row:∃cs:Array Value,W.heap[g]?=some (.cells cs 73 (0,0))/\cs.size=N/\∀(i:Nat) (s:SN),sts[i]?=some (some s)->∃B2 sb2:Nat,cs[i]?=some (.pointer (some ⟨sb2,0,none⟩))/\mt W B B2 sb2 s c/\s.t.length<=40
 ctx:kj W B cp cx
theorem zf.below{W W':World}{B mb g N c:Nat}{cp:OA}{cx:List aj}{sts:List (Option SN)}(h:zf W B mb g N cp cx sts c)(hb:Below B W W'):zf W' B mb g N cp cx sts c:=by obtain⟨cs,h1,h2,h3⟩:=h.row;refine⟨(hb.block _ h.mbB).trans h.mkr,h.mbB,h.gB,h.len,⟨cs,(hb.block _ h.gB).trans h1,h2,λi s hs=>?_⟩,h.ctx.below hb⟩;obtain⟨B2,sb2,k1,k2,k3⟩:=h3 i s hs;exact⟨B2,sb2,k1,k2.below hb (bH _),k3⟩
theorem B5{xs:List bM}{r:Nat}(h:lX xs=some r):(an xs==some iV)=decide (r=1):=by
 unfold lX at h;cases hp:an xs with
 |none=>rw[hp]at h;cases h
 |some t=>
  rw[hp]at h;simp only[Option.bind_some]at h;unfold wh at h;cases hf:CM.find? (λp=>p.1==t)with
  |none=>rw[hf]at h;cases h
  |some p=>
   rw[hf]at h;injection h with h;dsimp only at h;have hm:=List.mem_of_find?_eq_some hf;have he:p.1=t:=by have:=List.find?_some hf;simpa using this
   have hall:∀p∈CM,(some p.1==some iV)=decide (p.2=1):=by decide
   have:=hall p hm;rw[he,h]at this;exact this
theorem uj(env:List (LU×LU)):∀(xs:List bM) (t:LU),an xs=some t->my env xs=t
 |[],t,h=>by simp only[an]at h;injection h
 |.inl c::r,t,h=>by
  simp only[an]at h;cases hr:an r with
  |none=>rw[hr]at h;cases h
  |some u=>rw[hr]at h;injection h with h;have:=uj env r u hr;rw[<-h,<-this];simp[my,CK]
 |.inr (_,_)::_,t,h=>by cases h
theorem na{m:cA}{w:World}{B:Nat}{y:aw}(h:m.Ok w B)(hy:m.ws[0]?=some y):ri m.ins=m.rule/\lX y.xs=some m.rule:=by have ho:=h.op;rw[hy]at ho;refine⟨?_,ho⟩;unfold ri cA.ins;simp only[List.getElem?_map,hy,Option.map_some];have ho':lX y.xs=some m.rule:=ho;show (lX y.xs).getD 0=_;rw[ho'];rfl
def iU(m:cA):Nat:=if m.rule=1/\m.stage≠-1 then 2 else 1
theorem FR{m:cA}{w:World}{B:Nat}{y:aw}(h:m.Ok w B)(hy:m.ws[0]?=some y)(es:eU):sc es (iU m) m.ws=eZ (cC es) m.ins:=by unfold sc eZ iU;rw[(na h hy).1];show _=List.map _ ((m.ws.map aw.wd).drop _);rw[<-List.map_drop,List.map_map];rfl
theorem tx{m:cA}{w:World}{B:Nat}(h:m.Ok w B):2<=m.ws.length:=by have h1:=h.least;have h2:=qz m.rule;omega
theorem yr{m:cA}{w:World}{B:Nat}{y:aw}(h:m.Ok w B)(hy:m.ws[0]?=some y)(hG:DD m.ins):m.rule<8/\(m.rule=1->m.stage≠-1->4<=m.ws.length)/\∀(env:List (LU×LU)) (us:List BA),us.map (λu=>u.data.toList)=eZ env m.ins->zW m.rule us:=by
 obtain⟨op,g0,g1,g2,g3,g4,g5⟩:=hG;obtain⟨hr,ho⟩:=na h hy;have he:op=m.rule:=by unfold cA.ins at g0;simp only[List.getElem?_map,hy,Option.map_some]at g0;have g0':lX y.xs=some op:=g0;rw[ho]at g0';exact(Option.some.inj g0').symm
 subst he;have hl:m.ins.ws.length=m.ws.length:=by simp[cA.ins]
 rw[hl]at g1 g2 g3 g5;have hst:m.ins.stage=m.stage:=rfl;rw[hst]at g3 g4;have h8:m.rule<8:=by
  unfold lX at ho;cases hp:an y.xs with
  |none=>rw[hp]at ho;cases ho
  |some t=>rw[hp]at ho;exact GY ho
 refine⟨h8,λe1 e2=>by have:=(g3 e1).1 e2;omega,λenv us hu=>?_⟩;have hul:us.length=m.ws.length-(if m.rule=1/\m.stage≠-1 then 2 else 1):=by have:=congrArg List.length hu;rw[List.length_map]at this;rw[this];unfold eZ;rw[hr,List.length_map,List.length_drop,hl];rfl
 unfold zW;obtain e|e|e|e|e|e|e|e:m.rule=0\/m.rule=1\/m.rule=2\/m.rule=3\/m.rule=4\/m.rule=5\/m.rule=6\/m.rule=7:=by omega
 all_goals rw[e]at g1 g2 hul⊢
 all_goals simp only[af]at g1 g2⊢
 .have g3':=g3 e;by_cases hs:m.stage=-1
  .rw[if_neg (by simp[hs])]at hul;have:m.ws.length≠4:=λe4=>g3'.2 e4 hs;omega
  rw[if_pos ⟨rfl,hs⟩]at hul;have:=g3'.1 hs;omega
 .simp at hul;omega
 .simp at hul;omega
 .simp at hul;by_cases h3:m.ws.length=3
  .refine .inr ⟨by omega,λmd hmd=>?_⟩;obtain⟨t,ht,hmo⟩:=g5 e h3;have e1:(us.map λu=>u.data.toList)[1]?=some md.data.toList:=by rw[List.getElem?_map,hmd];rfl
   rw[hu]at e1;unfold eZ at e1;rw[hr,if_neg (by rw[e];simp),List.getElem?_map,List.getElem?_drop]at e1;unfold pln at ht;cases h2:m.ins.ws[2]? with
   |none=>rw[h2]at ht;cases ht
   |some z=>rw[h2]at ht;rw[h2]at e1;simp only[Option.map_some]at e1;rw[<-Option.some.inj e1,uj env z.atoms t ht];exact hmo
  exact .inl (by omega)
 .simp at hul;omega
 .simp at hul;omega
 simp at hul;omega
theorem C5(m:cA)(y:aw)(mb sb B g N c Bf:Nat)(cp:OA)(cx:List aj)(sts:List (Option SN))(s:SN)(w:World)(hok:m.Ok w Bf)(hy:m.ws[0]?=some y)(hG:DD m.ins)(hz:∀y∈m.ws,kA (parts y.xs)<=13500)(hM:zf w B mb g N cp cx sts c)(hS:sR w B sb s c)(hc:c<=900)(hstg:m.stage=-1\/∃(k:Nat) (b:SN),m.stage=(k:Int)/\sts[k]?=some (some b)): ∃(stv so:OA),uy w B c stv (ld sts m.ins)/\(m.rule=1\/m.rule=2->kj w B so (xH cx sts m.ins))/\∀W,Bw w W->Cl 46 #[.pointer (some ⟨mb,0,none⟩),.pointer (some ⟨sb,0,none⟩),m.val] W λev w'=>pV W w' sb m stv so (eZ s.env m.ins) ev/\Bw W w':=by
 obtain⟨r,ns,work,ev,es,h1,h2,h3,h4,h5,h6,h7,h8,h9,h10,h11⟩:=hS;obtain⟨hr8,hr4,_⟩:=yr hok hy hG;obtain⟨hri,hop⟩:=na hok hy;have hl2:=tx hok;have hst:m.ins.stage=m.stage:=rfl;have hcs1:=cq 1 hM.mkr;have hcs0:=cq 0 hM.mkr;have hval:∀W,Bw w W->∀(W':World) (t:BA),Bw W W'->Cl 76 #[.pointer (some ⟨sb,0,none⟩),.string t] W' λe w'=>(∃u:BA,e=.returned (.string u)/\Hid (u.data.toList=rD (cC es) t.data.toList))/\Bw W' w':=λW hb W' t hb'=>by have hB:=hb.trans (hb'.mono hb.size);exact Dw sb ev es t B W' (aM hB (cq 2 h1.cells)) (h2.below hB) (by omega) h3
 rw[<-h9,<-FR hok hy];rcases hstg with hs|⟨k,b,hs,hb⟩
 .refine⟨none,(if jg y.xs=true then cp else none),?_,λhr=>?_,λW hbW=>?_⟩
  .unfold ld;rw[hst,if_pos hs];exact rfl
  .rw[yR hok hy hr];unfold xH;rw[hst,if_pos hs];exact hM.ctx
  refine xF m mb sb (iU m) _ none es Bf W (hok.below hbW) (by unfold iU;split<;>omega) (by unfold iU;split<;>omega) (.inl ⟨hs,rfl⟩) h4 (λy hy=>by have:=hz y hy;omega) (ab λW' hb'=>?_) (ab λW' hb'=>?_) (ab (hval W hbW))
  .have hB:=hbW.trans (hb'.mono hbW.size);exact xB m y mb cp Bf W' (aM hB hcs0) (hok.below hB) hy hs
  have hB:=hbW.trans (hb'.mono hbW.size);refine(lZ m y Bf W' (hok.below hB) hy (.inl hs)).mono ?_;rintro ev w'⟨⟨g',cap',e1,e2⟩,e3⟩;have hd:iU m=1:=by unfold iU;rw[if_neg (λh=>h.2 hs)]
  exact⟨⟨g',cap',e1,by rw[hd];exact e2⟩,e3⟩
 have hne:m.stage≠-1:=by omega
 obtain⟨cs,k1,k2,k3⟩:=hM.row;obtain⟨B2,sb2,k4,k5,k6⟩:=k3 k b hb;obtain⟨tp,k7,k8⟩:=k5.src k6;have hkN:k<N:=by rw[<-hM.len];exact(sI hb)
 have hci:=(cq k k1).trans k4;have hbn:ld sts m.ins=some b:=by unfold ld;rw[hst,if_neg hne,hs];simp[hb]
 refine⟨some ⟨sb2,0,none⟩,(if jg y.xs=true then tp else none),?_,λhr=>?_,λW hbW=>?_⟩
 .rw[hbn];have hst5:=k5.st;obtain⟨_,_,_,_,_,_,_,_,_,_,_,_,_,_,_,_,hlt,_⟩:=k5;exact⟨B2,sb2,rfl,hlt,hst5⟩
 .rw[yR hok hy hr];unfold xH;rw[hst,if_neg hne,hbn];exact k8
 refine xF m mb sb (iU m) _ (some ⟨sb2,0,none⟩) es Bf W (hok.below hbW) (by unfold iU;split<;>omega) (by unfold iU;split<;>omega) (.inr ⟨k,g,N,hs,hkN,aM hbW hcs1,aM hbW hci⟩) h4 (λy hy=>by have:=hz y hy;omega) (ab λW' hb'=>?_) (ab λW' hb'=>?_) (ab (hval W hbW))
 .have hB:=hbW.trans (hb'.mono hbW.size);exact DX m y mb g N k sb2 tp Bf W' (aM hB hcs1) (aM hB hci) (aM hB k7) hkN (hok.below hB) hy hs
 have hB:=hbW.trans (hb'.mono hbW.size);by_cases h1:m.rule=1
 .refine(yT m y Bf W' (hok.below hB) hy hne (by have:=hr4 h1 hne;omega)).mono ?_;rintro ev w'⟨⟨g',cap',e1,e2⟩,e3⟩;have hd:iU m=2:=by unfold iU;rw[if_pos ⟨h1,hne⟩]
  rw[B5 hop,EV h1,if_pos rfl]at e2;exact⟨⟨g',cap',e1,by rw[hd];exact e2⟩,e3⟩
 refine(lZ m y Bf W' (hok.below hB) hy (.inr (by rw[B5 hop];exact EJ h1))).mono ?_;rintro ev w'⟨⟨g',cap',e1,e2⟩,e3⟩;have hd:iU m=1:=by unfold iU;rw[if_neg (λh=>h1 h.1)]
 exact⟨⟨g',cap',e1,by rw[hd];exact e2⟩,e3⟩
theorem Gx(r:Nat)(h:r<8):pU (af r).2.2.2:=by
 obtain rfl|rfl|rfl|rfl|rfl|rfl|rfl|rfl:r=0\/r=1\/r=2\/r=3\/r=4\/r=5\/r=6\/r=7:=by omega
 .exact Jr
 .exact JI
 .exact J1
 .exact N0
 .exact JK
 .exact Je
 .exact Jo
 exact IQ
theorem IG[Inhabited Ch](m:cA)(y:aw)(sb B c Bm Bx:Nat)(cx:List aj)(sts:List (Option SN))(s:SN)(stv so:OA)(mx:Int)(v:Value)(us:List BA)(w0 w W:World)(hm:m.Ok w0 Bm)(hy:m.ws[0]?=some y)(hG:DD m.ins)(hz:∀y∈m.ws,kA (parts y.xs)<=13500)(hw0:Bw w0 w)(hB0:w0.heap.size<=B)(hg:w0.cell? ⟨0,0,none⟩=some (.iface 157 (.agg #[.pointer (some ⟨22,45,none⟩)])))(hmx:w0.cell? ⟨1,0,none⟩=some (.int .i64 mx))(hR:Rd w0)(hS:sR w B sb s c)(hsb:B<=sb)(h40:s.t.length<=40)(hc:c<=900)(hBs:uy w B c stv (ld sts m.ins))(hSr:m.rule=1\/m.rule=2->kj w B so (xH cx sts m.ins))(hb:Bw w W)(hT:pr W Bx v us)(hu:us.map (λu=>u.data.toList)=eZ s.env m.ins): Cl 27 #[.agg #[.pointer (some ⟨sb,0,none⟩),v,.pointer stv,.pointer so,m.wv,.int .i64 m.stage,.int .i64 (af m.rule).1,.int .i64 (af m.rule).2.1,aN (af m.rule).2.2.1,aN (af m.rule).2.2.2]] W λe w'=>GT w' B sb (c+1) y.place e (Eo cx sts s m.ins)/\Below B W w'/\eB W w':=by
 obtain⟨ao,n,cap,rfl⟩:=ar hT;have hlen:n=us.length:=by
  rcases hT.2 with⟨e,h0⟩|⟨g,c,cur,e,h0,_⟩
  .injection e with _ e _;omega
  injection e with _ e _
 obtain⟨h8,_,hwo⟩:=yr hm hy hG;obtain⟨hri,_⟩:=na hm hy;have hul:us.length<=1500:=by have e:=congrArg List.length hu;rw[List.length_map]at e;rw[e];unfold eZ;rw[List.length_map,List.length_drop];have:=hm.short;simp[cA.ins];omega
 have hv:∃es:eU,wK es/\cC es=s.env:=by obtain⟨_,_,_,_,es,_,_,_,h4,_,_,_,_,h9,_⟩:=hS;exact⟨es,h4,h9⟩
 obtain⟨es,hv,hes⟩:=hv;have hsm:∀u∈us,u.size<=1048576:=λu hu'=>by
  have h1:u.data.toList∈eZ s.env m.ins:=by rw[<-hu];exact List.mem_map.2 ⟨u,hu',rfl⟩
  unfold eZ at h1;obtain⟨z,hz',h2⟩:=List.mem_map.1 h1;have hz2:=List.mem_of_mem_drop hz';obtain⟨q,hq,rfl⟩:=List.mem_map.1 hz2;have h3:=kI hv (parts q.xs);rw[sS,hes]at h3;have h4:=hz q hq;have h5:=(hm.small q hq).1;rw[im,<-h2];show (my s.env q.xs).length<=_;omega
 have hWr:jD W ao n cap us:=⟨⟨_,hT⟩,hlen,hsm⟩
 have hbW:=hw0.trans (hb.mono hw0.size);have hBw:B<=w.heap.size:=by obtain⟨_,_,_,_,_,h1,_⟩:=hS;exact h1.base
 have:=NE m y sb B Bm n cap (c+1) ao stv so us (J2 (xH cx sts m.ins) (ld sts m.ins) s m.rule (eZ s.env m.ins)) w0 W (dz hBw hb.size) hWr (by omega) hm hy hbW hB0 hg (ab λhl W' hb'=>?_) (Gx _ h8)
 .rw[hu]at this;rw[show Eo cx sts s m.ins=sP (eZ s.env m.ins) (J2 (xH cx sts m.ins) (ld sts m.ins) s m.rule (eZ s.env m.ins)) by unfold Eo sP;rw[hri];rfl];exact this
 have hb2:Bw w W':=hb.trans (hb'.mono hb.size);have hb3:=hbW.trans (hb'.mono hbW.size);rw[<-hu];refine Iq m.rule h8 us s (xH cx sts m.ins) (ld sts m.ins) sb B c n cap ao stv so mx W' (hS.below hb2) hsb h40 hc (hWr.below hb') hl (aM hb3 hmx) (hR.below hb3) (hwo s.env us hu) (λhr=>(hSr hr).below (hb2.mono hBw)) (λ_=>?_);cases hbn:ld sts m.ins with
 |none=>rw[hbn]at hBs;exact hBs
 |some b=>rw[hbn]at hBs;obtain⟨B2,sb2,e1,e2,e3⟩:=hBs;exact⟨B2,sb2,e1,e2,e3.below hb2⟩
end Go.Proofs.YtjhobnjdfhkohaaGreatDoor.T
namespace Go.Proofs.YtjhobnjdfhkohaaGreatDoor
open Go.Proofs.Tryz
open Go.RowKit Go.Maps
def M6(st:List aU)(bs:List Bool):Prop:=(∀k,bs[k]?=some true->mo st k)/\bs[st.length-1]?=some true
def NN(st:List aU)(bs:List Bool):Prop:=∀i k,bs[i]?=some true->ja st i k=true->bs[k]?=some true
theorem fp.clo{st:List aU}{bs:List Bool}(hl:bs.length=st.length)(hs:M6 st bs)(hc:NN st bs):fp st bs:=fp.of hl hs.1 hs.2 hc
structure Mk(w:World)(B:Nat)(wr:World)(g:Nat)(bs:List Bool):Prop where
 cells:∃c:Array Value,wr.heap[g]?=some (.cells c 4 (0,0))/\c.toList=bs.map Value.bool
 below:Below B w wr
 base:B<=g
theorem Mk.get{w wr:World}{B g:Nat}{bs:List Bool}(h:Mk w B wr g bs){k:Nat}{b:Bool}(hk:bs[k]?=some b):wr.cell? ⟨g,k,none⟩=some (.bool b):=by obtain⟨c,hc,e⟩:=h.cells;rw[cq k hc,<-Array.getElem?_toList,e,List.getElem?_map,hk];rfl
theorem Mk.frz{w wr:World}{B g:Nat}{bs:List Bool}(h:Mk w B wr g bs)(k:Nat):wr.frozen? ⟨g,k,none⟩=false:=by obtain⟨c,hc,_⟩:=h.cells;exact frozen_of_row wr g k c 4 hc
theorem Mk.lt{w wr:World}{B g:Nat}{bs:List Bool}(h:Mk w B wr g bs):g<wr.heap.size:=by obtain⟨c,hc,_⟩:=h.cells;exact(gA hc)
theorem Mk.set{w wr:World}{B g:Nat}{bs:List Bool}(h:Mk w B wr g bs)(k:Nat):Mk w B (wr.setCell ⟨g,k,none⟩ (.bool true)) g (bs.set k true):=by obtain⟨c,hc,e⟩:=h.cells;refine⟨⟨c.setIfInBounds k (.bool true),hS wr g k c 4 _ hc,?_⟩,h.below.setCell h.base _,h.base⟩;rw[Array.toList_setIfInBounds,e,List.map_set]
theorem Mk.later{w wr w2:World}{B g:Nat}{bs:List Bool}(h:Mk w B wr g bs)(hb:Bw wr w2):Mk w B w2 g bs:=by obtain⟨c,hc,e⟩:=h.cells;exact⟨⟨c,(hb.block g h.lt).trans hc,e⟩,h.below.trans (hb.mono (Nat.le_of_lt (Nat.lt_of_le_of_lt h.base h.lt))),h.base⟩
theorem Mk.grown{w wr w2:World}{B g:Nat}{bs:List Bool}{r:Option Nat}(h:Mk w B wr g bs)(hb:wr.grownBy w2 r)(hr:r≠some g)(hB:∀q,r=some q->B<=q):Mk w B w2 g bs:=by obtain⟨c,hc,e⟩:=h.cells;exact⟨⟨c,(hb.block g h.lt (λe=>hr e.symm)).trans hc,e⟩,h.below.grown hb (Nat.le_of_lt (Nat.lt_of_le_of_lt h.base h.lt)) hB,h.base⟩
theorem Mk.ofMade{w wr:World}{g n:Nat}(hr:wr.ownsRow w.heap.size 4 1 (.slice (some ⟨g,0,none⟩) n n) n (madeCells (Value.bool false).cells (n*1)).toList)(hg:w.grownBy wr none):Mk w w.heap.size wr g (List.replicate n false):=by
 rcases hr.2 with⟨h',_⟩|⟨g',cap',cur,h',hb,hc,_,_,hsz,ht⟩
 .simp at h'
 simp only[Value.slice.injEq,Option.some.injEq,Addr.mk.injEq,and_true,true_and]at h';obtain⟨rfl,rfl⟩:=h';refine⟨⟨cur,hc,?_⟩,(bR _ w).grown hg (nR _) (λq hq=>by cases hq),hb⟩;rw[List.take_of_length_le (by rw[Array.length_toList];omega)]at ht;rw[ht,show (Value.bool false).cells=#[Value.bool false] from rfl,toList_madeCells_one,Nat.mul_one,List.map_replicate]
theorem M8:(prog.info? 4).map (λi=>(i.zero,i.size,i.bytes))=some (some (.bool false),1,1):=by kernel_rfl
theorem M4:(prog.info? 3).map (λi=>(i.zero,i.size,i.bytes))=some (some (.int .i64 0),1,8):=by kernel_rfl
abbrev LH(w:World)(B:Nat)(v:Value)(l:List Nat):Prop:=w.ownsRow B 3 1 v l.length (l.map λ(k:Nat)=>Value.int .i64 (k:Int))
theorem iG{w:World}{B e z n:Nat}{v:Value}{xs:List Value}(h:w.ownsRow B e z v n xs)(hn:0<n):∃g cap,v=.slice (some ⟨g,0,none⟩) n cap/\n<=cap/\cap<=maxLen:=by
 rcases h.2 with⟨_,h0⟩|⟨g,cap,cur,hv,_,_,h1,h2,_⟩
 .omega
 exact⟨g,cap,hv,h1,h2⟩
theorem BZ{w:World}{B e z n:Nat}{v:Value}{xs:List Value}(h:w.ownsRow B e z v n xs):∀g,v.ownBlock=some g->∃c fz,w.heap[g]?=some (.cells c e fz):=λg hg=>by
 rcases h.2 with⟨rfl,_⟩|⟨g',cap,cur,rfl,_,hg',_⟩
 .cases hg
 have:g'=g:=by simpa[Value.ownBlock]using hg
 subst this;exact⟨cur,(0,0),hg'⟩
def uu(st:List aU)(B:Nat)(w':World)(ev:Ending):Prop:=∃rv bs,fp st bs/\ev=.returned rv/\LH w' B rv (fq bs st.length)
theorem DL{st:List aU}(hne:st≠[]):M6 st ((List.replicate st.length false).set (st.length-1) true):=by
 have:=List.length_pos_iff.2 hne;refine⟨λk hk=>?_,wP (by rw[List.length_replicate];omega)⟩;rcases yE hk with rfl|hk
 .exact .last
 rw[List.getElem?_replicate]at hk;split at hk<;>cases hk
theorem oP{bs:List Bool}{n k:Nat}(hl:bs.length=n)(hk:k<n):∃b,bs[k]?=some b:=⟨_,gG (by omega)⟩
structure Nq(w:World)(B:Nat)(wr:World)(g:Nat)(bs:List Bool)(ov:Value)(k:Nat):Prop where
 mks:Mk w B wr g bs
 row:LH wr B ov (fq bs k)
theorem Nq.apart{w wr:World}{B g k:Nat}{bs:List Bool}{ov:Value}(h:Nq w B wr g bs ov k):ov.ownBlock≠some g:=λe=>by obtain⟨c,fz,hc⟩:=BZ h.row g e;obtain⟨c',hc',_⟩:=h.mks.cells;rw[hc]at hc';injection hc' with hc';injection hc' with _ hc' _;cases hc'
end Go.Proofs.YtjhobnjdfhkohaaGreatDoor
