import Derived.Test.YtjhobnjdfhkohaaGreatDoorXAR
set_option linter.all false
set_option maxHeartbeats 4000000
set_option maxRecDepth 10000
namespace Go.Proofs.YtjhobnjdfhkohaaGreatDoor.T
open Go.Proofs.Tryz
open Go.RowKit Go.Maps
def Dv(l:LU)(r:Int):lW (List aU):=match aI l with
 |.error e=>.error e
 |.ok st=>if r=-1 then .ok st else .error (2,r.toNat)
def Ey(w':World)(e:Ending)(es:List aj)(r:lW (List aU)):Prop:=match r with
 |.error (k,p)=>∃a:Nat,e=.returned (.tuple #[.pointer none,.pointer none,.iface 64 (.pointer (some ⟨a,0,none⟩))])/\w'.cell? ⟨a,0,none⟩=some (.int .i64 (k:Int))/\w'.cell? ⟨a,1,none⟩=some (.int .i64 (p:Int))
 |.ok st=>∃(B fb:Nat) (sv:Value) (ss:List ax) (Bs:Nat) (r:Nd) (ns:List Nd),e=.returned (.tuple #[.pointer (some ⟨fb,0,none⟩),.pointer (some ⟨r.nb,0,none⟩),.nilIface])/\aQ w' B fb sv ss/\ss.map ax.stg=st/\cw w' Bs r ns/\ac ns=es
theorem l8(s:BA)(ao:OA)(n cap:Nat)(es:List aj)(m:Int)(w:World)(hr:fB w ao es)(HN:Hid (n=es.length))(hn:n<=4294967280)(HS:Hid (ix es))(r0:Int)(hok:cG es r0)(hm:w.cell? ⟨1,0,none⟩=some (.int .i64 m))(hg:w.cell? ⟨0,0,none⟩=some (.iface 157 (.agg #[.pointer (some ⟨22,45,none⟩)]))): Cl 25 #[.string s,.slice ao n cap] w λe w'=>Ey w' e es (Dv s.data.toList r0)/\Bw w w':=by
 have hR:=Go.Proofs.YtjhobnjdfhkohaaGreatDoor.read_any s m w hm hg;have hes:=cB;have hen:=eQ;have hea:=sx
 unfold Dv;cases hp:aI s.data.toList with
 |error ep=>
  obtain⟨e,p⟩:=ep;rw[hp]at hR;unfold nF at hR;dsimp only at hR;clear hp hm hg hr;go_enter func25,ntmps25;go_wp2_with (go_at_call 21;refine hR.mono ?_;clear hR;rintro ev w2⟨⟨a,rfl,hc⟩,hb2⟩)
  refine bodyPost_ret (v:=.tuple #[.pointer none,.pointer none,.iface 64 (.pointer (some ⟨a,0,none⟩))]) (by simp[results,results25,go_sem]) rfl ⟨⟨a,rfl,aL 0 hc,aL 1 hc⟩,hb2⟩
 |ok st=>
  rw[hp]at hR;unfold nF at hR;dsimp only at hR;simp only;by_cases hr0:r0=-1
  .subst hr0;rw[if_pos rfl];have HOF:Hid (∀W,Bw w W->Cl 43 #[.slice ao n cap] W λev w'=>(∃(r:Nd) (ns:List Nd),ev=.returned (.tuple #[.pointer (some ⟨r.nb,0,none⟩),.nilIface])/\Hid (ac ns=es/\cw w' W.heap.size r ns))/\Bw W w'):=ab (λW hb=>
    (A5 ao cap n es m W (hr.below hb) HN hn HS (aM hb hm)).mono λev w' ⟨v,er,h1,h2,h3⟩=>by
     rcases uh h2 with⟨r,ns,rfl,rfl,h4,h5,_⟩|⟨i,q,_,_,_,_,h6⟩
     .exact⟨⟨r,ns,h1,ab ⟨h4,h5⟩⟩,h3⟩
     have:=jY hok h6;omega)
   clear hp hm hg hr;go_enter func25,ntmps25;go_wp2_with (first|(go_at_call 21;refine hR.mono ?_;clear hR;rintro ev w2⟨⟨B,fb,sv,ss,rfl,hFM,hst⟩,hb2⟩;have HFM:=ab hFM;have HST:=ab hst;clear hFM hst)|(go_at_call 43;refine(uh HOF _ hb2).mono ?_;rintro ev w3⟨⟨r,ns,rfl,HM⟩,hb3⟩))
   refine bodyPost_ret (v:=.tuple #[.pointer (some ⟨fb,0,none⟩),.pointer (some ⟨r.nb,0,none⟩),.nilIface]) (by simp[results,results25,go_sem]) rfl ⟨⟨B,fb,sv,ss,_,r,ns,rfl,(uh HFM).below hb3,uh HST,(uh HM).2,(uh HM).1⟩,hb2.trans (hb3.mono hb2.size)⟩
  rw[if_neg hr0];have HOF:Hid (∀W,Bw w W->Cl 43 #[.slice ao n cap] W λev w'=>(∃q:Nat,ev=.returned (.tuple #[.pointer none,.iface 64 (.pointer (some ⟨q,0,none⟩))])/\Hid (w'.cell? ⟨q,0,none⟩=some (.int .i64 2)/\w'.cell? ⟨q,1,none⟩=some (.int .i64 ((r0.toNat:Nat):Int))))/\Bw W w'):=ab (λW hb=>
   (A5 ao cap n es m W (hr.below hb) HN hn HS (aM hb hm)).mono λev w' ⟨v,er,h1,h2,h3⟩=>by
    rcases uh h2 with⟨r,ns,rfl,rfl,h4,h5,h6⟩|⟨i,q,rfl,rfl,h4,h5,h6⟩
    .exact absurd (jY hok h6) hr0
    have:=jY hok h6;subst this;exact⟨⟨q,h1,ab ⟨h4,h5⟩⟩,h3⟩)
  clear hp hm hg hr;go_enter func25,ntmps25;go_wp2_with (first|(go_at_call 21;refine hR.mono ?_;clear hR;rintro ev w2⟨⟨B,fb,sv,ss,rfl,hFM,hst⟩,hb2⟩;clear hFM hst)|(go_at_call 43;refine(uh HOF _ hb2).mono ?_;rintro ev w3⟨⟨q,rfl,HM⟩,hb3⟩))
  refine bodyPost_ret (v:=.tuple #[.pointer none,.pointer none,.iface 64 (.pointer (some ⟨q,0,none⟩))]) (by simp[results,results25,go_sem]) rfl ⟨⟨q,rfl,(uh HM).1,(uh HM).2⟩,hb2.trans (hb3.mono hb2.size)⟩
abbrev Lx:Value:=.agg #[.slice none 0 0,.string ⟨#[]⟩,.slice none 0 0]
def NH(w':World)(e:Ending):Except (Nat×Nat) SN->Prop
 |.error (k,pl)=>∃q:Nat,e=.returned (.tuple #[Lx,.iface 64 (.pointer (some ⟨q,0,none⟩))])/\w'.cell? ⟨q,0,none⟩=some (.int .i64 (k:Int))/\w'.cell? ⟨q,1,none⟩=some (.int .i64 (pl:Int))
 |.ok s=>∃v,e=.returned (.tuple #[v,.nilIface])/\MQ w' v s
def nj[Inhabited Ch](l:LU)(es:List aj)(r0:Int)(x:Except (Nat×Nat) SN):Prop:=match Dv l r0 with
 |.error e=>x=.error e
 |.ok st=>∃bs,fp st bs/\x=rH (st.length-1) (bi es st (fq bs st.length) (List.replicate st.length none))
theorem Ky{W:World}{b q:Nat}{v0 v1 v2:Value}{k p:Int}(hb:W.heap[b]?=some (.cells #[.slice none 0 0,.string ⟨#[]⟩,.slice none 0 0] 32 (0,0)))(h0:W.cell? ⟨q,0,none⟩=some (.int .i64 k))(h1:W.cell? ⟨q,1,none⟩=some (.int .i64 p)): (((W.setCell ⟨b,0,none⟩ v0).setCell ⟨b,1,none⟩ v1).setCell ⟨b,2,none⟩ v2).cell? ⟨q,0,none⟩=some (.int .i64 k)/\(((W.setCell ⟨b,0,none⟩ v0).setCell ⟨b,1,none⟩ v1).setCell ⟨b,2,none⟩ v2).cell? ⟨q,1,none⟩=some (.int .i64 p):=by
 have hne:q≠b:=λe=>by subst e;have h2:=aL 0 hb;rw[h0]at h2;simp at h2
 have hh:(((W.setCell ⟨b,0,none⟩ v0).setCell ⟨b,1,none⟩ v1).setCell ⟨b,2,none⟩ v2).heap[q]?=W.heap[q]?:=by rw[heap_setCell_other _ ⟨b,2,none⟩ q _ hne,heap_setCell_other _ ⟨b,1,none⟩ q _ hne,heap_setCell_other _ ⟨b,0,none⟩ q _ hne]
 exact⟨(b8 (a:=⟨q,0,none⟩) hh).trans h0,(b8 (a:=⟨q,1,none⟩) hh).trans h1⟩
theorem vI{W:World}{b B:Nat}{v v0 v1 v2:Value}{us:List BA}{cs:Array Value}(h:pr W B v us)(hb:W.heap[b]?=some (.cells cs 32 (0,0))):pr (((W.setCell ⟨b,0,none⟩ v0).setCell ⟨b,1,none⟩ v1).setCell ⟨b,2,none⟩ v2) B v us:=by
 refine ap h λq hq=>?_;obtain⟨c,fz,hc⟩:=BZ h q hq;have hne:q≠b:=λe=>by subst e;have hh:=hb.symm.trans hc;injection hh with hh;injection hh with _ hh _;cases hh
 rw[heap_setCell_other _ ⟨b,2,none⟩ q _ hne,heap_setCell_other _ ⟨b,1,none⟩ q _ hne,heap_setCell_other _ ⟨b,0,none⟩ q _ hne]
theorem Dc(s:BA)(ao:OA)(n cap:Nat)(es:List aj)(m:Int)(w:World)(k p:Nat)(hr:fB w ao es)(HN:Hid (n=es.length))(hn:n<=4294967280)(HS:Hid (ix es))(r0:Int)(hok:cG es r0)(hm:w.cell? ⟨1,0,none⟩=some (.int .i64 m))(hg:w.cell? ⟨0,0,none⟩=some (.iface 157 (.agg #[.pointer (some ⟨22,45,none⟩)])))(hp:Dv s.data.toList r0=.error (k,p)): Cl 14 #[.string s,.slice ao n cap] w λe w'=>NH w' e (.error (k,p))/\Bw w w':=by
 obtain⟨W0,hW0⟩:=aq (w.alloc (.cells #[.slice none 0 0,.string ⟨#[]⟩,.slice none 0 0] 32));have hb0:=dw hW0;have hc0:=em hW0;have hR:=l8 s ao n cap es m W0 (hr.below hb0) HN hn HS r0 hok (aM hb0 hm) (aM hb0 hg);rw[hp]at hR;unfold Ey at hR;dsimp only at hR;have hes:=cB;have hen:=eQ;have hea:=sx
 have HC:=ab hc0;clear hp hr hm hg hc0;go_enter func14,ntmps14;go_upto_region 1 with fail;rw[<-hW0];clear hW0;go_upto_region 2 with(go_at_call 25;refine hR.mono ?_;clear hR;rintro e1 w1⟨⟨q,rfl,hqa,hqb⟩,hb1⟩)
 have hc1:=(hb1.block _ (bY (uh HC))).trans (uh HC);have f0:=frozen_of_row w1 w.heap.size 0 _ _ hc1;have f1:=frozen_of_row w1 w.heap.size 1 _ _ hc1;have f2:=frozen_of_row w1 w.heap.size 2 _ _ hc1;have r0:=aL 0 hc1;have r1:=aL 1 hc1;have r2:=aL 2 hc1;have HC1:=ab hc1;have HQ:=ab (And.intro hqa hqb);clear hc1 hqa hqb;go_wp2_with fail;obtain⟨W9,hW9⟩:=aq (((w1.setCell ⟨w.heap.size,0,none⟩ (.slice none 0 0)).setCell ⟨w.heap.size,1,none⟩ (.string ⟨#[]⟩)).setCell ⟨w.heap.size,2,none⟩ (.slice none 0 0));rw[<-hW9];have hr9:W9.heap[w.heap.size]?=some (.cells #[.slice none 0 0,.string ⟨#[]⟩,.slice none 0 0] 32 (0,0)):=by rw[hW9];exact rP _ _ _ (uh HC1)
 have d0:=aL 0 hr9;have d1:=aL 1 hr9;have d2:=aL 2 hr9;have hb9:Bw w W9:=by rw[hW9];exact(((hb0.trans (hb1.mono hb0.size)).setCell (bH _) _).setCell (bH _) _).setCell (bH _) _
 have hq9:W9.cell? ⟨q,0,none⟩=some (.int .i64 (k:Int))/\W9.cell? ⟨q,1,none⟩=some (.int .i64 (p:Int)):=by rw[hW9];exact Ky (uh HC1) (uh HQ).1 (uh HQ).2
 refine bodyPost_ret (v:=.tuple #[Lx,.iface 64 (.pointer (some ⟨q,0,none⟩))]) (by simp[results,results14,go_sem,d0,d1,d2]) rfl ⟨⟨q,rfl,hq9⟩,hb9⟩
theorem Ml{l:LU}{st:List aU}{ss:List ax}(h:aI l=.ok st)(hs:ss.map ax.stg=st):Kk ss:=by
 refine⟨by rw[hs];exact(lO h).1,by rw[hs];exact FI h,λs hs' m hm y hy=>?_⟩;have h1:=ym h;unfold sC at h1;have h2:=uU (l:=st.map λs=>(s.ins.map λi=>pD (i.ws.map Wd.atoms)+1).sum) (List.mem_map.2 ⟨s.stg,by rw[<-hs];exact List.mem_map.2 ⟨s,hs',rfl⟩,rfl⟩);have h3:=uU (l:=s.stg.ins.map λi=>pD (i.ws.map Wd.atoms)+1) (List.mem_map.2 ⟨m.ins,List.mem_map.2 ⟨m,hm,rfl⟩,rfl⟩);have h4:kA (parts y.xs)+3<=pD (m.ins.ws.map Wd.atoms):=by unfold pD;exact uU (List.mem_map.2 ⟨y.xs,List.mem_map.2 ⟨y.wd,List.mem_map.2 ⟨y,hy,rfl⟩,rfl⟩,rfl⟩)
 omega
theorem GI[Inhabited Ch](s:BA)(ao:OA)(n cap:Nat)(es:List aj)(m:Int)(w:World)(st:List aU)(hr:fB w ao es)(HN:Hid (n=es.length))(hn:n<=4294967280)(HS:Hid (ix es))(r0:Int)(hok:cG es r0)(hm:w.cell? ⟨1,0,none⟩=some (.int .i64 m))(hg:w.cell? ⟨0,0,none⟩=some (.iface 157 (.agg #[.pointer (some ⟨22,45,none⟩)])))(hR:Rd w)(h21:21<w.heap.size)(hp:Dv s.data.toList r0=.ok st): Cl 14 #[.string s,.slice ao n cap] w λe w'=>(∃bs,fp st bs/\NH w' e (rH (st.length-1) (bi es st (fq bs st.length) (List.replicate st.length none))))/\Bw w w':=by
 have hpr:aI s.data.toList=.ok st/\r0=-1:=by
  unfold Dv at hp;cases hq:aI s.data.toList with
  |error e=>rw[hq]at hp;cases hp
  |ok st'=>
   rw[hq]at hp;simp only at hp;split at hp
   .injection hp with hp;subst hp;exact⟨rfl,by assumption⟩
   cases hp
 obtain⟨hpa,rfl⟩:=hpr;have hTr:=IX hok (uh HS);obtain⟨W0,hW0⟩:=aq (w.alloc (.cells #[.slice none 0 0,.string ⟨#[]⟩,.slice none 0 0] 32));have hb0:=dw hW0;have hc0:=em hW0;have hRb:=l8 s ao n cap es m W0 (hr.below hb0) HN hn HS (-1) hok (aM hb0 hm) (aM hb0 hg);rw[hp]at hRb;unfold Ey at hRb;dsimp only at hRb;have hne:=(lO hpa).2;obtain⟨p,hpl⟩:∃p,st.length=p+1:=⟨st.length-1,by have:=List.length_pos_iff.2 hne;omega⟩
 have HMK:Hid (∀(W:World) (B fb:Nat) (sv:Value) (ss:List ax) (Bs:Nat) (r:Nd) (ns:List Nd),Bw w W->aQ W B fb sv ss->ss.map ax.stg=st->cw W Bs r ns->ac ns=es->Cl 26 #[.pointer (some ⟨fb,0,none⟩),.pointer (some ⟨r.nb,0,none⟩),aN 27] W λe w'=>(∃lp er,e=.returned (.tuple #[lp,er])/\Hid (∃bs,fp st bs/\AR w' (.returned (.tuple #[lp,er])) (rH (st.length-1) (bi es st (fq bs st.length) (List.replicate st.length none)))))/\Bw W w'):=ab (λW B fb sv ss Bs r ns hb hF hst hM hen=>by
  have hsl:ss.length=p+1:=by rw[<-hpl,<-hst,List.length_map]
  refine(GE fb B p sv ss (some ⟨r.nb,0,none⟩) es m W hF (Ml hpa hst) hsl ⟨Bs,r,ns,rfl,hM,hen,wO hTr.ok,by have:=hTr.len;omega,λx hx=>?_⟩ (aM hb hm) (aM hb hg) (hR.below hb) (Nat.lt_of_lt_of_le h21 hb.size)).mono ?_
  .obtain⟨_,_,g1,es',clock,g2,_⟩:=hM.all x hx;exact⟨(bY g1),(bY g2)⟩
  rintro e w'⟨⟨bs,h1,h2⟩,h3⟩;rw[hst]at h1 h2;have e1:st.length-1=p:=by omega
  refine⟨?_,h3⟩;rw[hpl,Nat.add_sub_cancel];cases hx:rH p (bi es st (fq bs (p+1)) (List.replicate (p+1) none))with
  |error kp=>rw[hx]at h2;obtain⟨k,pl⟩:=kp;obtain⟨q,rfl,hq⟩:=h2;exact⟨_,_,rfl,ab ⟨bs,h1,by rw[hx];exact⟨q,rfl,hq⟩⟩⟩
  |ok sn=>rw[hx]at h2;obtain⟨B2,sb,rfl,hq⟩:=h2;exact⟨_,_,rfl,ab ⟨bs,h1,by rw[hx];exact⟨B2,sb,rfl,hq⟩⟩⟩)
 have hes:=cB;have hen:=eQ;have hea:=sx
 have HC:=ab hc0;clear hp hr hm hg hc0 hR hpa hok hTr hne hpl;go_enter func14,ntmps14;go_upto_region 1 with fail;rw[<-hW0];clear hW0;go_upto_region 5 with(first|(go_at_call 25;refine hRb.mono ?_;clear hRb;rintro e0 w0⟨⟨Bf,fb,sv,ss,Bs,r,ns,rfl,hF,hst,hM,hen2⟩,hb00⟩;have hMk:=uh HMK w0 Bf fb sv ss Bs r ns (hb0.trans (hb00.mono hb0.size)) hF hst hM hen2;clear hF hst hM hen2)|(go_at_call 26;refine hMk.mono ?_;clear hMk;rintro e1 w01⟨⟨lp,er,rfl,HMD⟩,hb01⟩))
 obtain⟨bs,hMO,hMD⟩:=uh HMD;have HMO:=ab hMO;clear hMO HMD;cases hx:rH (st.length-1) (bi es st (fq bs st.length) (List.replicate st.length none))with
 |error kp=>
  rw[hx]at hMD;obtain⟨k,pl⟩:=kp;obtain⟨q,hq',hq⟩:=hMD;have HXE:=ab hx;cases hq';clear hx;obtain⟨w1,hw1⟩:=aq w01;rw[<-hw1]at hq hb01⊢;clear hw1;have hb1:=hb00.trans (hb01.mono hb00.size);have hc1:=(hb1.block _ (bY (uh HC))).trans (uh HC);have f0:=frozen_of_row w1 w.heap.size 0 _ _ hc1;have f1:=frozen_of_row w1 w.heap.size 1 _ _ hc1;have f2:=frozen_of_row w1 w.heap.size 2 _ _ hc1;have r0:=aL 0 hc1;have r1:=aL 1 hc1;have r2:=aL 2 hc1;have HC1:=ab hc1;have HQ:=ab (And.intro (aL 0 hq) (aL 1 hq));clear hc1 hq;go_wp2_with fail;obtain⟨W9,hW9⟩:=aq (((w1.setCell ⟨w.heap.size,0,none⟩ (.slice none 0 0)).setCell ⟨w.heap.size,1,none⟩ (.string ⟨#[]⟩)).setCell ⟨w.heap.size,2,none⟩ (.slice none 0 0));rw[<-hW9];have hr9:W9.heap[w.heap.size]?=some (.cells #[.slice none 0 0,.string ⟨#[]⟩,.slice none 0 0] 32 (0,0)):=by rw[hW9];exact rP _ _ _ (uh HC1)
  have d0:=aL 0 hr9;have d1:=aL 1 hr9;have d2:=aL 2 hr9;have hb9:Bw w W9:=by rw[hW9];exact(((hb0.trans (hb1.mono hb0.size)).setCell (bH _) _).setCell (bH _) _).setCell (bH _) _
  have hq9:W9.cell? ⟨q,0,none⟩=some (.int .i64 (k:Int))/\W9.cell? ⟨q,1,none⟩=some (.int .i64 (pl:Int)):=by rw[hW9];exact Ky (uh HC1) (uh HQ).1 (uh HQ).2
  refine bodyPost_ret (v:=.tuple #[Lx,.iface 64 (.pointer (some ⟨q,0,none⟩))]) (by simp[results,results14,go_sem,d0,d1,d2]) rfl ⟨⟨_,uh HMO,by rw[uh HXE];exact⟨q,rfl,hq9⟩⟩,hb9⟩
 |ok sn=>
  rw[hx]at hMD;obtain⟨B1,sb,hq',hq,_⟩:=hMD;have HXE:=ab hx;cases hq';clear hx;have hb001:=hb00.trans (hb01.mono hb00.size);have hIm:=KY sb B1 sn w01 hq;clear hq;have HFC:Hid (∀W,Bw w01 W->W.heap[w.heap.size]?=some (.cells #[.slice none 0 0,.string ⟨#[]⟩,.slice none 0 0] 32 (0,0))):=ab (λW hb=>by have hb2:=hb001.trans (hb.mono hb001.size);exact(hb2.block _ (bY (uh HC))).trans (uh HC));go_wp2_with (go_at_call 28;refine hIm.mono ?_;clear hIm;rintro e2 w1⟨⟨v,rfl,eo,en,ec,us,s2,ao2,n2,c2,rfl,hTX,hus,h47,hnn,hER,hsm1,hsm2⟩,hb2⟩;have hc1:=uh HFC w1 hb2;have f0:=frozen_of_row w1 w.heap.size 0 _ _ hc1;have f1:=frozen_of_row w1 w.heap.size 1 _ _ hc1;have f2:=frozen_of_row w1 w.heap.size 2 _ _ hc1;have r0:w1.cell? ⟨w.heap.size,0,none⟩=some (.slice none 0 0):=aL 0 hc1;have r1:w1.cell? ⟨w.heap.size,1,none⟩=some (.string ⟨#[]⟩):=aL 1 hc1;have r2:w1.cell? ⟨w.heap.size,2,none⟩=some (.slice none 0 0):=aL 2 hc1;have HC1:=ab hc1;have HNN:=ab hnn;have HER:=ab hER;have HSM:=ab (And.intro hsm1 hsm2);clear hsm1 hsm2;have HTX:=ab hTX;have HUS:=ab hus;clear hc1 hnn hER hTX hus)
  obtain⟨W9,hW9⟩:=aq (((w1.setCell ⟨w.heap.size,0,none⟩ (.slice eo en ec)).setCell ⟨w.heap.size,1,none⟩ (.string s2)).setCell ⟨w.heap.size,2,none⟩ (.slice ao2 n2 c2));rw[<-hW9];have hr9:W9.heap[w.heap.size]?=some (.cells #[.slice eo en ec,.string s2,.slice ao2 n2 c2] 32 (0,0)):=by rw[hW9];exact rP _ _ _ (uh HC1)
  have d0:=aL 0 hr9;have d1:=aL 1 hr9;have d2:=aL 2 hr9;have hb1:=hb001.trans (hb2.mono hb001.size);have hb9:Bw w W9:=by rw[hW9];exact(((hb0.trans (hb1.mono hb0.size)).setCell (bH _) _).setCell (bH _) _).setCell (bH _) _
  have hE9:fB W9 ao2 sn.t:=by rw[hW9];exact kS (uh HER) (uh HC1)
  have hT9:∃B,pr W9 B (.slice eo en ec) us:=by obtain⟨B,hB⟩:=uh HTX;exact⟨B,by rw[hW9];exact vI hB (uh HC1)⟩
  refine bodyPost_ret (v:=.tuple #[.agg #[.slice eo en ec,.string s2,.slice ao2 n2 c2],.nilIface]) (by simp[results,results14,go_sem,d0,d1,d2]) rfl ⟨⟨_,uh HMO,by rw[uh HXE];exact⟨_,rfl,eo,en,ec,us,s2,ao2,n2,c2,rfl,hT9,uh HUS,h47,uh HNN,hE9,uh HSM⟩⟩,hb9⟩
theorem LY[Inhabited Ch](s:BA)(ao:OA)(n cap:Nat)(es:List aj)(m:Int)(w:World)(hr:fB w ao es)(HN:Hid (n=es.length))(hn:n<=4294967280)(HS:Hid (ix es))(r0:Int)(hok:cG es r0)(hm:w.cell? ⟨1,0,none⟩=some (.int .i64 m))(hg:w.cell? ⟨0,0,none⟩=some (.iface 157 (.agg #[.pointer (some ⟨22,45,none⟩)])))(hR:Rd w)(h21:21<w.heap.size): Cl 14 #[.string s,.slice ao n cap] w λe w'=>(∃x,nj s.data.toList es r0 x/\NH w' e x)/\Bw w w':=by
 unfold nj;cases hp:Dv s.data.toList r0 with
 |error kp=>obtain⟨k,p⟩:=kp;exact(Dc s ao n cap es m w k p hr HN hn HS r0 hok hm hg hp).mono λ_ _ h=>⟨⟨_,rfl,h.1⟩,h.2⟩
 |ok st=>exact(GI s ao n cap es m w st hr HN hn HS r0 hok hm hg hR h21 hp).mono λ_ _ ⟨⟨bs,h1,h2⟩,h3⟩=>⟨⟨_,⟨bs,h1,rfl⟩,h2⟩,h3⟩
def kV(w':World)(v:Value)(E:List LU)(wk:LU)(t:List aj):Prop:=∃(eo:OA) (en ec:Nat) (us:List BA) (s2:BA) (ao:OA) (n cap:Nat),v=.agg #[.slice eo en ec,.string s2,.slice ao n cap]/\(∃B,pr w' B (.slice eo en ec) us)/\us.map (λu=>u.data.toList)=E/\s2.data.toList=wk/\n=t.length/\fB w' ao t/\E.length<=120/\t.length<=500
theorem zS(s:BA)(ao:OA)(n cap:Nat)(k pl:Int)(E:List LU)(wk:LU)(t:List aj)(w:World)(hL0:∀W,W=w.alloc (.cells #[.slice none 0 0,.string ⟨#[]⟩,.slice none 0 0] 32)->Cl 14 #[.string s,.slice ao n cap] W λe w'=>(∃(v er:Value),e=.returned (.tuple #[v,er])/\Hid (kV w' v E wk t)/\Hid (∀W2,Bw w' W2->Cl 13 #[er] W2 λe w''=>e=.returned (.tuple #[.int .i64 k,.int .i64 pl])/\Bw W2 w''))/\Bw W w'): Cl 7 #[.string s,.slice ao n cap] w λe w'=>(∃v,e=.returned (.tuple #[v,.int .i64 k,.int .i64 pl])/\kV w' v E wk t)/\Bw w w':=by
 obtain⟨W0,hW0⟩:=aq (w.alloc (.cells #[.slice none 0 0,.string ⟨#[]⟩,.slice none 0 0] 32));have hb0:=dw hW0;have hc0:=em hW0;have hL:=hL0 W0 hW0;have HC:=ab hc0;clear hc0 hL0;go_enter func7,ntmps7;go_upto_region 1 with fail;rw[<-hW0];clear hW0;go_upto_region 2 with(go_at_call 14;refine hL.mono ?_;clear hL;rintro e1 w1⟨⟨v,er,rfl,HG,HT⟩,hb1⟩;obtain⟨eo,en,ec,us,s2,ao2,n2,c2,rfl,hG⟩:=uh HG;have HG2:=ab hG;clear hG HG)
 obtain⟨W2,hW2⟩:=aq (w1.alloc (.cells #[.slice eo en ec,.string s2,.slice ao2 n2 c2] 32));have hb2:=dw hW2;have hc2:=em hW2;have hT:=uh HT W2 hb2;have hb02:=hb1.trans (hb2.mono hb1.size);have HC2:=ab hc2;clear hc2 HT;rw[<-hW2];clear hW2;go_upto_region 3 with(go_at_call 13;refine hT.mono ?_;clear hT;rintro e2 w3⟨rfl,hb3⟩)
 have hb03:=hb02.trans (hb3.mono hb02.size);have hc3:=(hb03.block _ (bY (uh HC))).trans (uh HC);have hd3:=(hb3.block _ (bY (uh HC2))).trans (uh HC2);have f0:=frozen_of_row w3 w.heap.size 0 _ _ hc3;have f1:=frozen_of_row w3 w.heap.size 1 _ _ hc3;have f2:=frozen_of_row w3 w.heap.size 2 _ _ hc3;have r0:=aL 0 hc3;have r1:=aL 1 hc3;have r2:=aL 2 hc3;have q0:=aL 0 hd3;have q1:=aL 1 hd3;have q2:=aL 2 hd3;have HC3:=ab hc3;clear hc3 hd3;go_wp2_with fail;obtain⟨W9,hW9⟩:=aq (((w3.setCell ⟨w.heap.size,0,none⟩ (.slice eo en ec)).setCell ⟨w.heap.size,1,none⟩ (.string s2)).setCell ⟨w.heap.size,2,none⟩ (.slice ao2 n2 c2));rw[<-hW9];have hr9:W9.heap[w.heap.size]?=some (.cells #[.slice eo en ec,.string s2,.slice ao2 n2 c2] 32 (0,0)):=by rw[hW9];exact rP _ _ _ (uh HC3)
 have d0:=aL 0 hr9;have d1:=aL 1 hr9;have d2:=aL 2 hr9;have hb9:Bw w W9:=by rw[hW9];exact(((hb0.trans (hb03.mono hb0.size)).setCell (bH _) _).setCell (bH _) _).setCell (bH _) _
 have hG9:kV W9 (.agg #[.slice eo en ec,.string s2,.slice ao2 n2 c2]) E wk t:=by
  obtain⟨⟨B,h1⟩,h2,h3,h4,h5,h6⟩:=uh HG2;have hb13:=hb2.trans (hb3.mono hb2.size);refine⟨eo,en,ec,us,s2,ao2,n2,c2,rfl,⟨B,?_⟩,h2,h3,h4,?_,h6⟩
  .rw[hW9];exact vI (ap h1 λq hq=>hb13.block q (World.ownsRow.lt h1 q hq).2) (uh HC3)
  rw[hW9];exact kS (h5.below hb13) (uh HC3)
 refine bodyPost_ret (v:=.tuple #[.agg #[.slice eo en ec,.string s2,.slice ao2 n2 c2],.int .i64 k,.int .i64 pl]) (by simp[results,results7,go_sem,d0,d1,d2]) rfl ⟨⟨_,rfl,hG9⟩,hb9⟩
open Classical in
theorem wF{st:List aU}(h:uO st)(hne:st≠[]):∃bs,fp st bs:=by
 refine⟨(List.range st.length).map λk=>decide (mo st k),by simp,λk=>?_⟩;rw[List.getElem?_map];by_cases hk:k<st.length
 .rw[List.getElem?_range hk];simp
 rw[List.getElem?_eq_none (by simpa using hk)];constructor
 .intro e;cases e
 intro e;exact absurd (I5 h hne e) hk
theorem MT{l:LU}{r0:Int}{st:List aU}(h:Dv l r0=.ok st):aI l=.ok st/\r0=-1:=by
 unfold Dv at h;cases hq:aI l with
 |error e=>rw[hq]at h;cases h
 |ok st'=>
  rw[hq]at h;simp only at h;split at h
  .injection h with h;subst h;exact⟨rfl,by assumption⟩
  cases h
theorem KD[Inhabited Ch](l:LU)(es:List aj)(r0:Int):∃x,nj l es r0 x:=by
 unfold nj;cases h:Dv l r0 with
 |error e=>exact⟨_,rfl⟩
 |ok st=>obtain⟨h1,h2⟩:=lO (MT h).1;obtain⟨bs,hb⟩:=wF h1 h2;exact⟨_,bs,hb,rfl⟩
theorem K2[Inhabited Ch]{l:LU}{es:List aj}{r0:Int}{x y:Except (Nat×Nat) SN}(hx:nj l es r0 x)(hy:nj l es r0 y):x=y:=by
 unfold nj at hx hy;cases h:Dv l r0 with
 |error e=>rw[h]at hx hy;rw[hx,hy]
 |ok st=>rw[h]at hx hy;obtain⟨bs,h1,rfl⟩:=hx;obtain⟨bs',h2,rfl⟩:=hy;rw[h1.one h2]
def yt:Except (Nat×Nat) SN->Int
 |.error (k,_)=>k
 |.ok _=>0
def Nk:Except (Nat×Nat) SN->Int
 |.error (_,p)=>p
 |.ok _=>-1
def pO:Except (Nat×Nat) SN->List LU
 |.error _=>[]
 |.ok s=>FM s.env
def rL:Except (Nat×Nat) SN->LU
 |.error _=>[]
 |.ok s=>47::s.work
def qW:Except (Nat×Nat) SN->List aj
 |.error _=>[]
 |.ok s=>s.t
theorem ES[Inhabited Ch](s:BA)(ao:OA)(n cap:Nat)(es:List aj)(m:Int)(x:Except (Nat×Nat) SN)(w:World)(hr:fB w ao es)(HN:Hid (n=es.length))(hn:n<=4294967280)(HS:Hid (ix es))(r0:Int)(hok:cG es r0)(hm:w.cell? ⟨1,0,none⟩=some (.int .i64 m))(hg:w.cell? ⟨0,0,none⟩=some (.iface 157 (.agg #[.pointer (some ⟨22,45,none⟩)])))(hR:Rd w)(h21:21<w.heap.size)(hx:nj s.data.toList es r0 x): Cl 7 #[.string s,.slice ao n cap] w λe w'=>(∃v,e=.returned (.tuple #[v,.int .i64 (yt x),.int .i64 (Nk x)])/\kV w' v (pO x) (rL x) (qW x))/\Bw w w':=by
 refine zS s ao n cap (yt x) (Nk x) (pO x) (rL x) (qW x) w λW hW=>?_;have hb:Bw w W:=by rw[hW];exact eD
 refine(LY s ao n cap es m W (hr.below hb) HN hn HS r0 hok (aM hb hm) (aM hb hg) (hR.below hb) (Nat.lt_of_lt_of_le h21 hb.size)).mono ?_;rintro e w'⟨⟨y,hy,h⟩,hb'⟩;obtain rfl:=K2 hx hy;have hgw:=aM hb' (aM hb hg);refine⟨?_,hb'⟩;match x,h with
 |.error (k,pl),⟨q,he,hq0,hq1⟩=>refine⟨_,_,he,ab ⟨none,0,0,[],⟨#[]⟩,none,0,0,rfl,⟨0,World.ownsRow_nil _ _ _ _⟩,rfl,rfl,rfl,λk e hk=>(by cases hk),Nat.zero_le _,Nat.zero_le _⟩,ab λW2 hb2=>?_⟩;exact uD q _ _ W2 (aM hb2 hgw) (aM hb2 hq0) (aM hb2 hq1)
 |.ok sn,⟨v,he,eo,en,ec,us,wk,ao',n',cap',h1,h2,h3,h4,h5,h6,h7,h8⟩=>exact⟨_,_,he,ab ⟨eo,en,ec,us,wk,ao',n',cap',h1,h2,h3,h4,h5,h6,by simpa[pO,FM]using h7,h8⟩,ab λW2 _=>yB W2⟩
theorem IW[Inhabited Ch]{l:LU}{es:List aj}{r0:Int}{st:List aU}{x y:Except (Nat×Nat) SN}(h:aI l=.ok st)(hz:(fv st).length<=1500)(hx:nj l es r0 x)(hy:nj (fv st) es r0 y):yt x=yt y/\pO x=pO y/\rL x=rL y/\qW x=qW y:=by
 obtain⟨st',h1,h2,_⟩:=qD h hz;have key:L7 x=L7 y:=by
  unfold nj Dv at hx hy;rw[h]at hx;rw[h1]at hy;simp only at hx hy;by_cases hr:r0=-1
  .rw[if_pos hr]at hx hy;obtain⟨bs,hb,rfl⟩:=hx;obtain⟨bs',hb',rfl⟩:=hy;have hl:st'.length=st.length:=by have:=congrArg List.length h2;simpa using this
   have hw:∀i k,ja st' i k=ja st i k:=λi k=>by
    have e:∀s:List aU,ja (s.map bw) i k=ja s i k:=λs=>by
     unfold ja;rw[List.getElem?_map];cases s[i]? with
     |none=>rfl
     |some g=>simp only[Option.map_some];show (g.ins.map l5).any _=_;rw[List.any_map];rfl
    rw[<-e st',h2,e]
   have hn:∀k,mo st' k->mo st k:=λk hk=>hk _ (by rw[hl];exact .last) (λ_ _ ih hq=>.more ih (by rw[<-hw];exact hq))
   have hn':∀k,mo st k->mo st' k:=λk hk=>hk _ (by rw[<-hl];exact .last) (λ_ _ ih hq=>.more ih (by rw[hw];exact hq))
   have hbb:bs'=bs:=fp.one (st:=st) ⟨by rw[hb'.len,hl],λk=>⟨λe=>hn k ((hb'.iff k).1 e),λe=>(hb'.iff k).2 (hn' k e)⟩⟩ hb;subst hbb;rw[hl];have hs:=iS es st' (fq bs' st.length) (List.replicate st.length none);rw[h2,iS es st]at hs;unfold rH;cases e1:bi es st (fq bs' st.length) (List.replicate st.length none)with
   |error a=>
    rw[e1]at hs;cases e2:bi es st' (fq bs' st.length) (List.replicate st.length none)with
    |error b=>rw[e2]at hs;obtain⟨k1,p1⟩:=a;obtain⟨k2,p2⟩:=b;exact congrArg (λz:Except Nat (List (Option SN))=>(match z with|.error k=>.error k|.ok _=>.error 0:Except Nat SN)) hs
    |ok b=>rw[e2]at hs;cases hs
   |ok a=>
    rw[e1]at hs;cases e2:bi es st' (fq bs' st.length) (List.replicate st.length none)with
    |error b=>rw[e2]at hs;cases hs
    |ok b=>
     rw[e2]at hs;have:a=b:=by have h3:=hs;injection h3
     subst this;rfl
  rw[if_neg hr]at hx hy;rw[hx,hy]
 match x,y,key with
 |.error (k,p),.error (k',p'),e=>have h3:=e;injection h3 with h3;subst h3;exact⟨rfl,rfl,rfl,rfl⟩
 |.error (k,p),.ok b,e=>cases e
 |.ok a,.error (k,p),e=>cases e
 |.ok a,.ok b,e=>have h3:=e;injection h3 with h3;subst h3;exact⟨rfl,rfl,rfl,rfl⟩
theorem Cg(ao bo:OA)(ca cb n:Nat)(ks:List aj)(w:World)(ha:fB w ao ks)(hb:fB w bo ks)(HN:Hid (n=ks.length))(hn:n<=1000000): Cl 19 #[.slice ao n ca,.slice bo n cb] w λev w'=>ev=.returned (.bool true)/\Bw w w':=by
 go_enter func19,ntmps19;go_upto_region 4 with fail
 go_loopw [5] (λi wr=>∃k d:Nat,k<=n/\i=.int .i64 k/\wr=w.drewN d) (λi _=>n-(intOf i).toNat);case atStart=>exact⟨0,0,by omega,rfl,rfl⟩
 case round=>
  obtain⟨k,d,hk,rfl,rfl⟩:=hrel;by_cases hlt:k<n
  .obtain⟨e,he⟩:∃e,ks[k]?=some e:=⟨ks[k]'(by have:=uh HN;omega),pS (by have:=uh HN;omega)⟩
   obtain⟨g,o,rfl,c0,c1,c2,c3⟩:=ha k e he;obtain⟨g',o',rfl,d0,d1,d2,d3⟩:=hb k e he;have i1:(0:Int)<=(k:Int):=by omega
   have i2:(k:Int)<(n:Int):=by omega
   have hq:=Ni e e;rw[show Em e e=true from BM.2 rfl]at hq;clear he;go_upto_region 6 with fail;go_quiet (fail);go_wp2_with fail;go_roundw;case rel=>
    first
     |exact⟨k+1,_,by omega,by go_num,rfl⟩
     |((repeat apply Exists.intro);exact⟨⟨k+1,_,by omega,by go_num,rfl⟩,rfl⟩)
   case measure=>simp[intOf];omega
  go_wp2_with fail
  go_ret;exact⟨rfl,⟨rfl,rfl,rfl,bH _,λ_ _=>rfl⟩⟩
theorem Dp(ao bo:OA)(ca cb n:Nat)(us:List BA)(w:World)(ha:∃B,pr w B (.slice ao n ca) us)(hb:∃B,pr w B (.slice bo n cb) us)(HN:Hid (n=us.length))(hn:n<=1000000): Cl 18 #[.slice ao n ca,.slice bo n cb] w λev w'=>ev=.returned (.bool true)/\Bw w w':=by
 have HC:Hid (∀k u,us[k]?=some u->∃g g',ao=some ⟨g,0,none⟩/\bo=some ⟨g',0,none⟩/\w.cell? ⟨g,k,none⟩=some (.string u)/\w.cell? ⟨g',k,none⟩=some (.string u)):=ab (λk u hu=>by
  have hk:=(sI hu)
  obtain⟨B,h1⟩:=ha;obtain⟨B',h2⟩:=hb;obtain⟨g,c,e1,_,_⟩:=iG h1 (by omega);obtain⟨g',c',e2,_,_⟩:=iG h2 (by omega);injection e1 with e1 e1n e1c;injection e2 with e2 e2n e2c;subst e1 e2;rw[e1n]at h1 h2;refine⟨g,g',rfl,rfl,?_,?_⟩
  .rw[World.ownsRow.cellAt h1 k (by omega),List.getElem?_map,hu];rfl
  rw[World.ownsRow.cellAt h2 k (by omega),List.getElem?_map,hu];rfl)
 clear ha hb;go_enter func18,ntmps18;go_upto_region 4 with fail;go_loopw [5] (λi wr=>∃k d:Nat,k<=n/\i=.int .i64 k/\wr=w.drewN d) (λi _=>n-(intOf i).toNat);case atStart=>exact⟨0,0,by omega,rfl,rfl⟩
 case round=>
  obtain⟨k,d,hk,rfl,rfl⟩:=hrel;by_cases hlt:k<n
  .obtain⟨u,hu⟩:∃u,us[k]?=some u:=⟨us[k]'(by have:=uh HN;omega),pS (by have:=uh HN;omega)⟩
   obtain⟨g,g',rfl,rfl,c0,d0⟩:=uh HC k u hu;have i1:(0:Int)<=(k:Int):=by omega
   have i2:(k:Int)<(n:Int):=by omega
   clear hu HC;go_upto_region 6 with fail;go_quiet (fail);go_wp2_with fail;go_roundw;case rel=>
    first
     |exact⟨k+1,_,by omega,by go_num,rfl⟩
     |((repeat apply Exists.intro);exact⟨⟨k+1,_,by omega,by go_num,rfl⟩,rfl⟩)
   case measure=>simp[intOf];omega
  go_wp2_with fail
  go_ret;exact⟨rfl,⟨rfl,rfl,rfl,bH _,λ_ _=>rfl⟩⟩
theorem G7{us vs:List BA}(h:us.map (λu=>u.data.toList)=vs.map (λu=>u.data.toList)):us=vs:=by
 refine List.map_inj_right (f:=λu:BA=>u.data.toList) (λx y e=>?_) |>.1 h
 apply ByteArray.ext;exact Array.toList_inj.1 e
theorem sO(v1 v2:Value)(E:List LU)(wk:LU)(t:List aj)(w:World)(h1:kV w v1 E wk t)(h2:kV w v2 E wk t): Cl 9 #[v1,v2] w λev w'=>ev=.returned (.bool true)/\Bw w w':=by
 obtain⟨eo,en,ec,us,s1,ao,n,cap,rfl,a1,a2,a3,a4,a5,hE,ht⟩:=h1;obtain⟨fo,fn,fc,vs,s2,bo,m,cap2,rfl,b1,b2,b3,b4,b5,_,_⟩:=h2;obtain rfl:us=vs:=G7 (a2.trans b2.symm);obtain rfl:s1=s2:=by apply ByteArray.ext;exact Array.toList_inj.1 (a3.trans b3.symm)
 obtain⟨B1,a1⟩:=a1;obtain⟨B2,b1⟩:=b1;have e1:=dL a1;have e2:=dL b1;have hul:us.length<=1000000:=by have:=congrArg List.length a2;rw[List.length_map]at this;omega
 obtain rfl:en=fn:=by omega
 obtain rfl:n=m:=by omega
 obtain⟨W0,hW0⟩:=aq ((w.alloc (.cells #[.slice eo en ec,.string s1,.slice ao n cap] 32)).alloc (.cells #[.slice fo en fc,.string s1,.slice bo n cap2] 32));have hb0:Bw w W0:=by rw[hW0];exact(eD).alloc (by simp) _
 have hc0:W0.heap[w.heap.size]?=some (.cells #[.slice eo en ec,.string s1,.slice ao n cap] 32 (0,0)):=by rw[hW0];exact(Below.heap_alloc _ _ _ (by simp)).trans (ft _ _)
 have hc1:W0.heap[w.heap.size+1]?=some (.cells #[.slice fo en fc,.string s1,.slice bo n cap2] 32 (0,0)):=by have:=ft (w.alloc (.cells #[.slice eo en ec,.string s1,.slice ao n cap] 32)) (.cells #[.slice fo en fc,.string s1,.slice bo n cap2] 32);rw[World.size_alloc]at this;rw[hW0];exact this
 have up:∀{B:Nat}{v:Value},pr w B v us->pr W0 B v us:=λh=>ap h λq hq=>hb0.block q (World.ownsRow.lt h q hq).2;have hT:=Dp eo fo ec fc en us W0 ⟨B1,up a1⟩ ⟨B2,up b1⟩ (ab e1) (by omega);have HS:Hid (∀W,Bw W0 W->Cl 19 #[.slice ao n cap,.slice bo n cap2] W λev w'=>ev=.returned (.bool true)/\Bw W w'):=ab (λW hb=>Cg ao bo cap cap2 n t W ((a5.below hb0).below hb) ((b5.below hb0).below hb) (ab a4) (by omega));have HC:Hid (∀W,Bw W0 W->(W.cell? ⟨w.heap.size,1,none⟩=some (.string s1)/\W.cell? ⟨w.heap.size,2,none⟩=some (.slice ao n cap))/\(W.cell? ⟨w.heap.size+1,1,none⟩=some (.string s1)/\W.cell? ⟨w.heap.size+1,2,none⟩=some (.slice bo n cap2))):=ab (λW hb=>⟨⟨aM hb (aL 1 hc0),aM hb (aL 2 hc0)⟩,⟨aM hb (aL 1 hc1),aM hb (aL 2 hc1)⟩⟩);have r0:=aL 0 hc0;have r1:=aL 0 hc1;clear a1 a2 a3 a4 a5 b1 b2 b3 b4 b5 e1 e2 up hc0 hc1;go_enter func9,ntmps9;go_upto_region 1 with fail;rw[<-hW0];clear hW0;go_upto_region 2 with(go_at_call 18;refine hT.mono ?_;clear hT;rintro e1 w1⟨rfl,hb1⟩)
 obtain⟨⟨c1,c2⟩,d1,d2⟩:=uh HC w1 hb1;clear r0 r1;go_upto_region 3 with(go_at_call 19;refine(uh HS _ hb1).mono ?_;rintro e2 w2⟨rfl,hb2⟩)
 have hb12:=hb1.trans (hb2.mono hb1.size);clear c1 c2 d1 d2;obtain⟨⟨c1,_⟩,d1,_⟩:=uh HC w2 hb12;go_wp2_with fail;go_ret;exact⟨rfl,hb0.trans (hb12.mono hb0.size)⟩
def Nn:BA:=⟨#[70,82,79,77,32,115,99,114,97,116,99,104,10,77,75,68,73,82,32,97,47,98,10]⟩
def Nl:List aU:=match aI Nn.data.toList with
 |.ok st=>st
 |.error _=>[]
def KT:aj:=⟨⟨#[97,47,98]⟩,1,493,⟨#[]⟩⟩
def Nz:SN:=⟨[⟨⟨#[97]⟩,1,493,⟨#[]⟩⟩,KT],[],[]⟩
theorem pM:aI Nn.data.toList=.ok Nl:=by kernel_rfl
theorem lM:Nl.length=1:=by kernel_rfl
theorem fM[Inhabited Ch]:rH 0 (bi [] Nl [0] [none])=.ok Nz:=by kernel_rfl
theorem mM[Inhabited Ch]:nj Nn.data.toList [] (-1) (.ok Nz):=by
 unfold nj Dv;rw[pM];simp only;rw[if_pos trivial];obtain⟨h1,h2⟩:=lO pM;obtain⟨bs,hb⟩:=wF h1 h2;refine⟨bs,hb,?_⟩;have hl:=hb.len;rw[lM]at hl;have h0:=(hb.iff 0).2 (by have:=mo.last (st:=Nl);rw[lM]at this;exact this);have hbs:bs=[true]:=by
  match bs,hl,h0 with
  |[b],_,h0=>simp at h0;rw[h0]
 rw[hbs,lM];exact fM.symm
theorem NI:cG [] (-1):=.inl ⟨rfl,λi hi=>absurd hi (Nat.not_lt_zero _)⟩
theorem Dd[Inhabited Ch](m:Int)(w:World)(hm:w.cell? ⟨1,0,none⟩=some (.int .i64 m))(hg:w.cell? ⟨0,0,none⟩=some (.iface 157 (.agg #[.pointer (some ⟨22,45,none⟩)])))(hR:Rd w)(h21:21<w.heap.size): Cl 4 #[] w λe w'=>e=.returned (.bool true)/\Bw w w':=by
 have hP:=ES Nn none 0 0 [] m (.ok Nz) w (λk e hk=>(by cases hk)) (ab rfl) (by decide) (ab λe he=>(by cases he)) (-1) NI hm hg hR h21 mM;have hP2:Cl 7 #[.string ⟨#[70,82,79,77,32,115,99,114,97,116,99,104,10,77,75,68,73,82,32,97,47,98,10]⟩,.slice none 0 0] w λe w'=>(∃(eo:OA) (en ec g o cap:Nat),e=.returned (.tuple #[.agg #[.slice eo en ec,.string ⟨#[47]⟩,.slice (some ⟨g,o,none⟩) 2 cap],.int .i64 0,.int .i64 (-1)])/\w'.cell? ⟨g,o+4,none⟩=some (.string ⟨#[97,47,98]⟩)/\w'.cell? ⟨g,o+5,none⟩=some (.int .i64 1)/\w'.cell? ⟨g,o+6,none⟩=some (.int .i64 493)/\w'.cell? ⟨g,o+7,none⟩=some (.string ⟨#[]⟩))/\Bw w w':=by
  refine hP.mono ?_;rintro e w'⟨⟨v,rfl,eo,en,ec,us,s2,ao,n,cap,rfl,_,_,h3,h4,h5,_⟩,hb⟩;have e2:s2=⟨#[47]⟩:=by apply ByteArray.ext;exact Array.toList_inj.1 h3
  subst e2;obtain rfl:n=2:=h4;obtain⟨g,o,rfl,k0,k1,k2,k3⟩:=h5 1 KT rfl;exact⟨⟨eo,en,ec,g,o,cap,rfl,k0,k1,k2,k3⟩,hb⟩
 have hq:=M5 KT KT;rw[show Em KT KT=true from BM.2 rfl]at hq;unfold KT at hq;simp only at hq;clear hP hm hg hR;go_enter func4,ntmps4;go_upto_region 2 with(go_at_call 7;refine hP2.mono ?_;clear hP2;rintro e1 w1⟨⟨eo,en,ec,g,o,cap,rfl,c0,c1,c2,c3⟩,hb1⟩)
 obtain⟨W2,hW2⟩:=aq (w1.alloc (.cells #[.slice eo en ec,.string ⟨#[47]⟩,.slice (some ⟨g,o,none⟩) 2 cap] 32));have hb2:=dw hW2;have hc2:=em hW2;rw[<-hW2];have r1:=aL 1 hc2;have r2:=aL 2 hc2;have d0:=aM hb2 c0;have d1:=aM hb2 c1;have d2:=aM hb2 c2;have d3:=aM hb2 c3;clear hW2 hc2 c0 c1 c2 c3;go_wp2_with fail;go_ret;exact⟨rfl,hb1.trans (hb2.mono hb1.size)⟩
end Go.Proofs.YtjhobnjdfhkohaaGreatDoor.T
namespace Go.Proofs.YtjhobnjdfhkohaaGreatDoor
open Go.Proofs.Tryz
open Go.RowKit Go.Maps
theorem Mh(l:LU)(i n:Nat):∀(k:Nat) (acc:List bM) (e p:Nat),l.length-k<=n->dU l i acc k=.error (e,p)->e≠0:=by
 have c5:∀{α:Type}{q e p:Nat},(Except.error (5,q):lW α)=.error (e,p)->e≠0:=λh=>by injection h with h;injection h with h _;omega
 induction n with
 |zero=>intro k acc e p hn h;rw[ff (List.getElem?_eq_none_iff.2 (by omega))]at h;exact c5 h
 |succ n ih=>
  intro k acc e p hn h;cases hc:l[k]? with
  |none=>rw[ff hc]at h;exact c5 h
  |some c=>
   have hlt:=(gL hc)
   rw[jH hc]at h;split at h
   .exact c5 h
   split at h
   .cases h
   split at h
   .split at h
    .exact c5 h
    split at h
    .exact ih _ _ _ _ (by omega) h
    exact c5 h
   split at h
   .split at h
    .exact c5 h
    split at h
    .exact ih _ _ _ _ (by omega) h
    exact c5 h
   exact ih _ _ _ _ (by omega) h
theorem KK(l:LU)(n:Nat):∀(k:Nat) (acc:List bM) (e p:Nat),l.length-k<=n->cP l acc k=.error (e,p)->e≠0:=by
 have c5:∀{α:Type}{q e p:Nat},(Except.error (5,q):lW α)=.error (e,p)->e≠0:=λh=>by injection h with h;injection h with h _;omega
 induction n with
 |zero=>intro k acc e p hn h;rw[eK (dk (List.getElem?_eq_none_iff.2 (by omega)))]at h;cases h
 |succ n ih=>
  intro k acc e p hn h;cases he:iJ l k with
  |true=>rw[eK he]at h;cases h
  |false=>
   cases hc:l[k]? with
   |none=>rw[dk hc]at he;cases he
   |some c=>
    have hlt:=(gL hc)
    rw[dN hc he]at h;split at h
    .split at h
     .rename_i a hq;obtain⟨a,b⟩:=a;injection h with h;injection h with h1 h2;subst h1;exact Mh l k _ _ _ _ _ (nR _) hq
     split at h
     .exact ih _ _ _ _ (by omega) h
     exact c5 h
    split at h
    .split at h
     .exact c5 h
     split at h
     .exact ih _ _ _ _ (by omega) h
     exact c5 h
    split at h
    .split at h
     .exact c5 h
     exact ih _ _ _ _ (by omega) h
    exact ih _ _ _ _ (by omega) h
theorem Lm(l:LU)(n:Nat):∀(k:Nat) (ws:List Wd) (e p:Nat),l.length-k<=n->bE l ws k=.error (e,p)->e≠0:=by
 have c5:∀{α:Type}{q e p:Nat},(Except.error (5,q):lW α)=.error (e,p)->e≠0:=λh=>by injection h with h;injection h with h _;omega
 induction n with
 |zero=>intro k ws e p hn h;rw[ez (List.getElem?_eq_none_iff.2 (by omega))]at h;cases h
 |succ n ih=>
  intro k ws e p hn h;cases hc:l[k]? with
  |none=>rw[ez hc]at h;cases h
  |some c=>
   have hlt:=(gL hc)
   unfold bE at h;split at h
   .cases h
   rename_i c' hc';rw[hc]at hc';injection hc' with hc';subst hc';split at h
   .cases h
   split at h
   .exact ih _ _ _ _ (by omega) h
   split at h
   .exact ih _ _ _ _ (by omega) h
   split at h
   .rename_i h35;have:=qK (l:=l) (k:=k) (by rw[hc,h35.1]);exact ih _ _ _ _ (by omega) h
   split at h
   .rename_i a hq;obtain⟨a,b⟩:=a;injection h with h;injection h with h1 h2;subst h1;exact KK l _ _ _ _ _ (nR _) hq
   split at h
   .exact ih _ _ _ _ (by omega) h
   exact c5 h
theorem JP{op:Nat}{st:List aU}{ws:List Wd}{e p:Nat}(h:br op st ws=.error (e,p)):e≠0:=by
 have cN:∀{α:Type}{q c e p:Nat},c≠0->(Except.error (c,q):lW α)=.error (e,p)->e≠0:=λhc h=>by injection h with h;injection h with h _;omega
 unfold br at h;split at h
 .unfold ba at h;split at h
  .rename_i a hn;obtain⟨a,b⟩:=a;injection h with h;injection h with h1 h2;subst h1;unfold bp at hn;split at hn
   .exact cN (by decide) hn
   split at hn
   .exact cN (by decide) hn
   split at hn
   .split at hn
    .exact cN (by decide) hn
    split at hn
    .exact cN (by decide) hn
    cases hn
   split at hn
   .exact cN (by decide) hn
   cases hn
  split at h
  .exact cN (by decide) h
  split at h
  .exact cN (by decide) h
  split at h
  .exact cN (by decide) h
  cases h
 .unfold bC at h;split at h
  .split at h
   .exact cN (by decide) h
   cases h
  split at h
  .exact cN (by decide) h
  split at h
  .exact cN (by decide) h
  split at h
  .exact cN (by decide) h
  cases h
 .split at h
  .cases h
  split at h
  .split at h
   .cases h
   exact cN (by decide) h
  exact cN (by decide) h
 .split at h
  .split at h
   .cases h
   exact cN (by decide) h
  exact cN (by decide) h
 cases h
theorem Io{st:List aU}{ws:List Wd}{e p:Nat}(h:bB st ws=.error (e,p)):e≠0:=by
 have cN:∀{α:Type}{q c e p:Nat},c≠0->(Except.error (c,q):lW α)=.error (e,p)->e≠0:=λhc h=>by injection h with h;injection h with h _;omega
 unfold bB at h;split at h
 .exact cN (by decide) h
 split at h
 .exact cN (by decide) h
 split at h
 .rename_i a hr;obtain⟨a,b⟩:=a;injection h with h;injection h with h1 h2;subst h1;exact JP hr
 split at h
 .exact cN (by decide) h
 split at h
 .exact cN (by decide) h
 cases h
theorem IY(l:LU)(n:Nat):∀(k:Nat) (st:List aU) (e p:Nat),l.length-k<=n->bU l st k=.error (e,p)->e≠0:=by
 have c5:∀{α:Type}{q e p:Nat},(Except.error (5,q):lW α)=.error (e,p)->e≠0:=λh=>by injection h with h;injection h with h _;omega
 induction n with
 |zero=>
  intro k st e p hn h;rw[eG (by omega)]at h;split at h
  .exact c5 h
  cases h
 |succ n ih=>
  intro k st e p hn h;by_cases hk:k<l.length
  .cases hl:bE l [] k with
   |error a=>rw[kZ hk hl]at h;obtain⟨a,b⟩:=a;injection h with h;injection h with h1 h2;subst h1;exact Lm l _ _ _ _ _ (nR _) hl
   |ok x=>
    obtain⟨ws,t⟩:=x;by_cases ht:k<t
    .by_cases hw:ws=[]
     .subst hw;rw[jE hk hl ht]at h;exact ih _ _ _ _ (by omega) h
     rw[gX hk hl ht hw]at h;cases htk:bB st ws with
     |error a=>rw[htk]at h;obtain⟨a,b⟩:=a;injection h with h;injection h with h1 h2;subst h1;exact Io htk
     |ok st1=>rw[htk]at h;exact ih _ _ _ _ (by omega) h
    rw[bU,if_pos hk,hl]at h;simp only at h;rw[dif_neg ht]at h;exact c5 h
  rw[eG hk]at h;split at h
  .exact c5 h
  cases h
theorem NZ{l:LU}{e p:Nat}(h:aI l=.error (e,p)):e≠0:=by
 have cN:∀{α:Type}{q c e p:Nat},c≠0->(Except.error (c,q):lW α)=.error (e,p)->e≠0:=λhc h=>by injection h with h;injection h with h _;omega
 unfold aI at h;split at h
 .exact cN (by decide) h
 split at h
 .exact cN (by decide) h
 exact IY l _ _ _ _ _ (nR _) h
end Go.Proofs.YtjhobnjdfhkohaaGreatDoor
