import Derived.Test.YtjhobnjdfhkohaaGreatDoorXY
import Derived.LoopIn
import Derived.LoopNIn
import Derived.OwnWalkIn
import Derived.RangeFuncBound
import Derived.RangeFuncNested
import Derived.Shelf.RegionOpen
set_option linter.all false
set_option maxHeartbeats 4000000
set_option maxRecDepth 10000
namespace Go.Proofs.YtjhobnjdfhkohaaGreatDoor
open Go.Proofs.Tryz
open Go.RowKit
def ey(st:List aU):List (List Wd):=(st.map λs=>s.ins.map ki.ws).flatten
theorem sq(a b:List aU):ey (a++b)=ey a++ey b:=by simp[ey]
theorem Cw{op:Nat}{st s:List aU}{ws:List Wd}{k:Int}(h:br op st ws=.ok (s,k)):ey s=ey st/\(st≠[]\/op=0->s≠[]):=by
 have same:∀{s:List aU}{k:Int}{x:List aU}{j:Int},(Except.ok (x,j):lW (List aU×Int))=.ok (s,k)->s=x:=λh=>by injection h with h;injection h with h _;exact h.symm
 unfold br at h;split at h
 .unfold ba at h;split at h
  .cases h
  split at h
  .cases h
  split at h
  .cases h
  split at h
  .cases h
  have e:=same h;subst e;exact⟨by rw[sq];simp[ey],λ_=>by simp⟩
 .rename_i hne;have e:s=st:=by
   unfold bC at h;split at h
   .split at h
    .cases h
    exact same h
   split at h
   .cases h
   split at h
   .cases h
   split at h
   .cases h
   exact same h
  subst e;exact⟨rfl,λh=>h.elim id (λe=>by cases e)⟩
 .have e:s=st:=by
   split at h
   .exact same h
   split at h
   .split at h
    .exact same h
    cases h
   cases h
  subst e;exact⟨rfl,λh=>h.elim id (λe=>by cases e)⟩
 .have e:s=st:=by
   split at h
   .split at h
    .exact same h
    cases h
   cases h
  subst e;exact⟨rfl,λh=>h.elim id (λe=>by cases e)⟩
 rename_i h0 _ _ _;have e:=same h;subst e;exact⟨rfl,λh=>h.elim id (λe=>absurd e h0)⟩
theorem yU{st:List aU}{i:ki}(h:st≠[]):ey (di st i)=ey st++[i.ws]:=by
 obtain⟨a,s,rfl⟩:∃a s,st=a++[s]:=⟨st.dropLast,st.getLast h,(List.dropLast_concat_getLast h).symm⟩
 unfold di;simp only[List.getLast?_append,List.getLast?_singleton,Option.some_or,List.dropLast_concat];rw[sq,sq];simp[ey]
theorem tn{st s:List aU}{ws:List Wd}(h:bB st ws=.ok s):ey s=ey st++[ws]/\s≠[]:=by
 unfold bB at h;split at h
 .cases h
 rename_i op _;split at h
 .cases h
 rename_i hb;split at h
 .cases h
 rename_i s1 k hr;split at h
 .cases h
 split at h
 .cases h
 injection h with h;obtain⟨h1,h2⟩:=Cw hr;have hne:s1≠[]:=h2 (by
  by_cases h0:op=0
  .exact .inr h0
  exact .inl λe=>hb (.inr (.inr ⟨e,h0⟩)))
 subst h;refine⟨by rw[yU hne,h1],?_⟩;intro e;have:=yU (i:=⟨ws,k⟩) hne;rw[e]at this;simp[ey]at this
def oz:List (List Wd)->List aU->Option (List aU)
 |[],st=>some st
 |ws::r,st=>(xe (bB st ws)).bind (oz r)
theorem xL:∀(wss:List (List Wd)) (st:List aU),oz (wss.map (·.map cD)) (st.map bw)=(oz wss st).map (·.map bw)
 |[],_=>rfl
 |ws::r,st=>by
  simp only[List.map_cons,oz];rw[uk];cases xe (bB st ws)with
  |none=>rfl
  |some s=>exact xL r s
theorem Gc{α:Type}{x:lW α}{a:α}(h:xe x=some a):x=.ok a:=by
 cases x with
 |error e=>cases h
 |ok b=>exact congrArg _ (Option.some.inj h)
theorem wZ{l:LU}(hm:∀c∈l,iK c=true)(n:Nat):∀(k:Nat) (st s:List aU),l.length-k<=n->bU l st k=.ok s->∃wss,oz wss st=some s/\ey s=ey st++wss/\(∀ws∈wss,ws≠[]/\∀x∈ws,Np x)/\s≠[]:=by
 induction n with
 |zero=>
  intro k st s hn h;rw[eG (by omega)]at h;split at h
  .cases h
  rename_i h0;injection h with h;subst h;exact⟨[],rfl,by simp,⟨λws hw=>(by cases hw),h0⟩⟩
 |succ n ih=>
  intro k st s hn h;by_cases hk:k<l.length
  .cases hl:bE l [] k with
   |error e=>rw[kZ hk hl]at h;cases h
   |ok p=>
    obtain⟨ws,t⟩:=p;by_cases ht:k<t
    .by_cases hw:ws=[]
     .subst hw;rw[jE hk hl ht]at h;exact ih t st s (by omega) h
     rw[gX hk hl ht hw]at h;cases hg:bB st ws with
     |error e=>rw[hg]at h;cases h
     |ok s1=>
      rw[hg]at h;obtain⟨wss,h1,h2,h3,h4⟩:=ih t s1 s (by omega) h;refine⟨ws::wss,by simp only[oz,hg,xe,Option.bind_some];exact h1,by rw[h2,(tn hg).1];simp,λx hx=>?_,h4⟩;rcases mC.1 hx with rfl|hx
      .exact⟨hw,Lw hm _ _ _ _ _ (nR _) (λx hx=>by cases hx) hl⟩
      exact h3 x hx
    rw[bU,if_pos hk,hl]at h;simp only at h;rw[dif_neg ht]at h;cases h
  rw[eG hk]at h;split at h
  .cases h
  rename_i h0;injection h with h;subst h;exact⟨[],rfl,by simp,⟨λws hw=>(by cases hw),h0⟩⟩
theorem IB(ws:List (List bM)):0<(fk ws).length:=by
 match ws with
 |[]=>simp[fk]
 |[x]=>simp[fk]
 |x::y::t=>simp[fk];omega
theorem Dy:∀(wss:List (List Wd)) (l:LU) (st:List aU) (k:Nat) (b:List aU),(∀ws∈wss,ws≠[]/\∀x∈ws,Np x)->k<=l.length->l.drop k=(wss.map λws=>fk (ws.map Wd.atoms)).flatten->oz (wss.map (·.map cD)) (st.map bw)=some b->(wss≠[]\/st≠[])->∃s,bU l st k=.ok s/\s.map bw=b:=by
 intro wss;induction wss with
 |nil=>
  intro l st k b _ hk hl hr hne;have hkl:¬k<l.length:=λh=>by rw[List.drop_eq_getElem_cons h]at hl;cases hl
  refine⟨st,?_,Option.some.inj hr⟩;rw[eG hkl,if_neg (hne.elim (λh=>absurd rfl h) id)]
 |cons ws r ih=>
  intro l st k b hok hk hl hr _;obtain⟨hw0,hwok⟩:=hok ws (List.mem_cons_self ..);have hl2:l.drop k=fk (ws.map Wd.atoms)++(r.map λws=>fk (ws.map Wd.atoms)).flatten:=hl;have hpos:=IB (ws.map Wd.atoms);have hkl:k<l.length:=by
   by_cases h:k<l.length
   .exact h
   rw[List.drop_eq_nil_of_le (by omega)]at hl2;have:=congrArg List.length hl2;simp at this;omega
  obtain⟨ws',h1,h2⟩:=FY (ws.map Wd.atoms) l [] k _ (λx hx a ha=>by obtain⟨y,hy,rfl⟩:=List.mem_map.1 hx;exact hwok y hy a ha) hl2;rw[List.nil_append]at h1;have hb:ws'.map cD=ws.map cD:=by
   have e:∀u:List Wd,u.map cD=(u.map λw=>w.atoms.map bare).map (λa=>(⟨a,0⟩:Wd)):=λu=>by rw[List.map_map];rfl
   rw[e,e,h2,List.map_map,List.map_map,List.map_map];rfl
  have hw1:ws'≠[]:=λe=>by rw[e]at hb;exact hw0 (List.map_eq_nil_iff.1 hb.symm)
  simp only[List.map_cons,oz]at hr;rw[<-hb,uk]at hr;cases hg:xe (bB st ws')with
  |none=>rw[hg]at hr;cases hr
  |some s1=>
   rw[hg]at hr;have hr2:oz (r.map (·.map cD)) (s1.map bw)=some b:=hr;have hg2:=Gc hg;have hd:=lE hl2;have hle:k+(fk (ws.map Wd.atoms)).length<=l.length:=by have:=congrArg List.length hl2;rw[List.length_drop,lA]at this;omega
   obtain⟨s,h3,h4⟩:=ih l s1 (k+(fk (ws.map Wd.atoms)).length) b (λx hx=>hok x (List.mem_cons_of_mem _ hx)) hle hd hr2 (.inr (tn hg2).2);refine⟨s,?_,h4⟩;rw[gX hkl h1 (by omega) hw1,hg2];exact h3
theorem lw(st:List aU):fv st=((ey st).map λws=>fk (ws.map Wd.atoms)).flatten:=by
 unfold fv ey;induction st with
 |nil=>rfl
 |cons s r ih=>simp only[List.map_cons,List.flatten_cons,List.map_append,List.flatten_append];rw[ih];congr 1;rw[List.map_map];exact congrArg List.flatten (List.map_congr_left λi _=>Ed i)
theorem Ig{a:bM}(h:js a):∀c∈wg a,iK c=true:=by
 cases a with
 |inl c=>
  intro x hx;have hx':x∈fa c:=hx;unfold fa at hx';split at hx'
  .rw[List.mem_singleton.1 hx'];exact h.2
  rcases mC.1 hx' with rfl|hx'
  .rfl
  rw[List.mem_singleton.1 hx'];exact h.2
 |inr pA=>
  obtain⟨n,k⟩:=pA
  obtain⟨h1,h2,_⟩:=h;have hall:=Kt h1 h2;intro x hx;have hx':x∈[36,123]++n++[125]:=hx;simp only[mA,mC,List.not_mem_nil,or_false]at hx';rcases hx' with((rfl|rfl)|hx')|rfl
  .rfl
  .rfl
  .have:=hall x hx';unfold c9 iF oJ at this;unfold iK;simp only[bO,decide_eq_true_eq,beq_iff_eq]at this⊢;rcases this with(h|h)|rfl
   .omega
   .omega
   decide
  rfl
theorem tP{xs:List bM}(h:∀a∈xs,js a):∀c∈dI xs,iK c=true:=by
 unfold dI;split
 .intro c hc;simp only[mC,List.not_mem_nil,or_false]at hc;rcases hc with rfl|rfl<;>rfl
 intro c hc;unfold gq at hc;obtain⟨y,hy,hc⟩:=List.mem_flatten.1 hc;obtain⟨a,ha,rfl⟩:=List.mem_map.1 hy;exact Ig (h a ha) c hc
theorem wu:∀{ws:List (List bM)},(∀x∈ws,∀a∈x,js a)->∀c∈fk ws,iK c=true
 |[],_,c,hc=>by rw[List.mem_singleton.1 hc];rfl
 |[x],h,c,hc=>by
  rcases mA.1 hc with hc|hc
  .exact tP (h x (by simp)) c hc
  rw[List.mem_singleton.1 hc];rfl
 |x::y::t,h,c,hc=>by
  rcases mA.1 hc with hc|hc
  .exact tP (h x (by simp)) c hc
  rcases mC.1 hc with rfl|hc
  .rfl
  exact wu (λz hz=>h z (List.mem_cons_of_mem _ hz)) c hc
theorem vO{l:LU}:¬qo l<l.length↔∀c∈l,iK c=true:=by
 unfold qo;constructor
 .intro h c hc;have h2:l.takeWhile iK=l:=(List.takeWhile_prefix iK).eq_of_length (by have:=(List.takeWhile_prefix (p:=iK) (l:=l)).length_le;omega);have h3:(l.takeWhile iK).all iK=true:=List.all_takeWhile;rw[h2]at h3;exact List.all_eq_true.1 h3 c hc
 intro h;have h5:=List.takeWhile_append_of_pos (l₂:=[]) h;rw[List.append_nil,List.takeWhile_nil,List.append_nil]at h5;rw[h5];omega
theorem ue(st:List aU):fv (st.map bw)=fv st:=by
 rw[lw,lw];have h1:ey (st.map bw)=(ey st).map (·.map cD):=by unfold ey;rw[List.map_map,List.map_flatten,List.map_map];refine congrArg List.flatten (List.map_congr_left λs _=>?_);simp only[Function.comp,bw,List.map_map];exact List.map_congr_left λi _=>rfl
 have h2:∀xs:List bM,dI (xs.map bare)=dI xs:=λxs=>by
  unfold dI;have h3:gq (xs.map bare)=gq xs:=by unfold gq;rw[List.map_map];refine congrArg List.flatten (List.map_congr_left λa _=>?_);cases a<;>rfl
  rw[h3];simp only[List.map_eq_nil_iff]
 rw[h1,List.map_map];refine congrArg List.flatten (List.map_congr_left λws _=>?_);show fk ((ws.map cD).map Wd.atoms)=fk (ws.map Wd.atoms);rw[lG,lG,List.map_map,List.map_map,List.map_map];congr 2;exact List.map_congr_left λx _=>h2 x.atoms
theorem qD{l:LU}{st:List aU}(h:aI l=.ok st)(hz:(fv st).length<=1500):∃st',aI (fv st)=.ok st'/\st'.map bw=st.map bw/\fv st'=fv st:=by
 unfold aI at h;split at h
 .cases h
 split at h
 .cases h
 rename_i hm;have hmay:=vO.1 hm;obtain⟨wss,h1,h2,h3,h4⟩:=wZ hmay _ 0 [] st (nR _) h;have hfl:ey st=wss:=by rw[h2];rfl
 have hwne:wss≠[]:=λe=>by rw[e]at h1;exact h4 (Option.some.inj h1).symm
 have hr:oz (wss.map (·.map cD)) (([]:List aU).map bw)=some (st.map bw):=by rw[xL,h1];rfl
 obtain⟨s,h5,h6⟩:=Dy wss (fv st) [] 0 (st.map bw) h3 (Nat.zero_le _) (by rw[List.drop_zero,lw,hfl]) hr (.inl hwne);refine⟨s,?_,h6,by rw[<-ue s,h6,ue]⟩;unfold aI;rw[if_neg (by omega),if_neg,h5];refine vO.2 λc hc=>?_;rw[lw,hfl]at hc;obtain⟨y,hy,hc⟩:=List.mem_flatten.1 hc;obtain⟨ws,hws,rfl⟩:=List.mem_map.1 hy;refine wu (λx hx a ha=>?_) c hc;obtain⟨z,hzz,rfl⟩:=List.mem_map.1 hx;exact(h3 ws hws).2 z hzz a ha
end Go.Proofs.YtjhobnjdfhkohaaGreatDoor
namespace Go.Proofs.YtjhobnjdfhkohaaGreatDoor.T
open Go.Proofs.Tryz
open Go.RowKit Go.Maps
theorem cB(v:Value)(w:World):(binOp BinOp.neq 45 (.iface 27 v) .nilIface).run prog w=.ok (.bool true) w:=by kernel_rfl
theorem eQ(w:World):(binOp BinOp.neq 45 .nilIface .nilIface).run prog w=.ok (.bool false) w:=by kernel_rfl
theorem BC{w w':World}{B:Nat}{m:Int}(hm:w.cell? ⟨1,0,none⟩=some (.int .i64 m))(hl:21<B)(hb:Below B w w'):w'.cell? ⟨1,0,none⟩=some (.int .i64 m):=(hb.cell (p:=⟨1,0,none⟩) (by show 1<B;omega)).trans hm
theorem dq(sb:Nat)(r:Nd)(ns:List Nd)(work:BA)(ev:Value)(e:aj)(B:Nat)(m:Int)(w:World)(h:ed w B sb r ns work ev)(hn:ns.length<=900)(hp:e.path.size<=1048576)(HG:Hid (bc e=true))(HP:Hid (e.path.data.toList≠[]))(hm:w.cell? ⟨1,0,none⟩=some (.int .i64 m)): Cl 175 #[.pointer (some ⟨sb,0,none⟩),.agg #[.string e.path,.int .i64 e.kind,.int .i64 e.mode,.string e.data]] w λv w'=>bx w w' B sb r ns work ev 13 v (aS (ac ns) e)/\Below B w w'/\bm w w':=by
 obtain⟨W0,hW0⟩:=aq (w.alloc (.cells #[.string e.path,.int .i64 e.kind,.int .i64 e.mode,.string e.data] 39));have hb0:=dw hW0;have hc0:=em hW0;have hst0:=h.below hb0;have hm0:=cL hb0 hm;have hBw:=h.base;have hlim:=h.lim;have q0:=cq 0 hc0;have HST:=ab hst0;have HM:=ab hm0;have HC:=ab hc0;have HB0:=ab hb0;have hes:=cB;have hen:=eQ;clear h hm hst0 hm0 hc0 hb0;go_enter func175,ntmps175;go_upto_region 1 with fail;rw[<-hW0];clear hW0;go_upto_region 2 with(go_at_call 100;refine(eE e.path _ (by omega)).mono ?_;rintro v1 w1⟨dd,nn,rfl,HD,_,hb1⟩)
 have hb01:=(uh HB0).trans (hb1.mono (uh HB0).size);have hst1:=(uh HST).below hb1;have hc1:=(hb1.block w.heap.size (gA (uh HC))).trans (uh HC);have hdd:dd.size<=1048576:=by rw[zE,uh HD];exact nT (mN _) (by rw[<-zE];exact hp)
 have hMk:=dO sb r ns work dd ev B m w1 hst1 hn hdd (cL hb1 (uh HM));have HM1:=ab (cL hb1 (uh HM));have HC1:=ab hc1;have HST1:=ab hst1;have hB1:=hst1.base;rw[uh HD]at hMk;clear hb1 HST HM HC HB0 q0 hst1 hc1;cases hg:cK (ac ns) (al e.path.data.toList)with
 |error k=>
  have HR:Hid (aS (ac ns) e=.error k):=ab (by unfold aS;rw[hg]);rw[hg]at hMk;unfold bx at hMk;clear hg;go_wp2_with (go_at_call 178;refine hMk.mono ?_;clear hMk;rintro v2 w2⟨rfl,hb2,hx2⟩)
  go_ret;rw[uh HR];exact⟨rfl,(hb01.mono hBw).trans hb2,(ak hb01).trans hx2⟩
 |ok t=>
  have HR:Hid (aS (ac ns) e=eT t e):=ab (by unfold aS;rw[hg]);rw[hg]at hMk;unfold bx at hMk;clear hg;go_upto_region 5 with(go_at_call 178;refine hMk.mono ?_;clear hMk;rintro v2 w2⟨⟨rfl,ns',hst2,he2,hs2,hl2⟩,hb2,hx2⟩)
  have hc2:=fL (uh HST1).mem hs2.foot (uh HC1) (by decide);have hL:=Bi sb r ns' work ev e B m w2 hst2 (by omega) hp HG HP (BC (uh HM1) hlim hb2);have y0:=cq 0 hc2;have y1:=cq 1 hc2;have y2:=cq 2 hc2;have y3:=cq 3 hc2;have hw2:=(hb01.mono hBw).trans hb2;have HS2:Hid (eh w w2 B r ns ns'):=ab ((eh.of_below hb01 hBw).trans hs2);rw[he2]at hL;cases hg:eT t e with
  |error k=>
   rw[hg]at hL;unfold bx at hL;rw[hg]at HR;clear hg hst2 he2 hs2 hc2;go_wp2_with (go_at_call 183;refine hL.mono ?_;clear hL;rintro v3 w3⟨rfl,hb3,hx3⟩)
   go_ret;rw[uh HR];exact⟨rfl,hw2.trans hb3,((ak hb01).trans hx2).trans hx3⟩
  |ok t2=>
   rw[hg]at hL;unfold bx at hL;rw[hg]at HR;clear hg hst2 he2 hs2 hc2;go_wp2_with (go_at_call 183;refine hL.mono ?_;clear hL;rintro v3 w3⟨⟨rfl,ns3,hst3,he3,hs3,hl3⟩,hb3,hx3⟩)
   go_ret;rw[uh HR];exact⟨⟨rfl,ns3,hst3,he3,(uh HS2).trans hs3,by omega⟩,hw2.trans hb3,((ak hb01).trans hx2).trans hx3⟩
structure jD(w:World)(ao:OA)(n cap:Nat)(ps:List BA):Prop where
 row:∃B,Own w B (.slice ao n cap) ps
 len:n=ps.length
 small:∀p∈ps,p.size<=1048576
theorem jD.at{w:World}{ao:OA}{n cap:Nat}{ps:List BA}(h:jD w ao n cap ps){k:Nat}{y:BA}(hk:ps[k]?=some y):∃g,ao=some ⟨g,0,none⟩/\w.cell? ⟨g,k,none⟩=some (.string y)/\k<n/\y.size<=1048576:=by obtain⟨B,hO⟩:=h.row;obtain⟨g,cp,hv⟩:=own_form hO (λe=>by rw[e]at hk;simp at hk);injection hv with e1 e2 e3;subst e1 e3;rw[e2]at hO;exact⟨g,rfl,own_cell hO hk,by rw[e2];exact(gL hk),h.small y (mG hk)⟩
theorem jD.below{w w':World}{ao:OA}{n cap:Nat}{ps:List BA}(h:jD w ao n cap ps)(hb:Bw w w'):jD w' ao n cap ps:=by
 obtain⟨B,hO⟩:=h.row;refine⟨⟨B,hO.1,?_⟩,h.len,h.small⟩;rcases hO.2 with h2|⟨g,c,cur,e,h3,hg,h4⟩
 .exact .inl h2
 exact .inr ⟨g,c,cur,e,h3,(hb.block g (gA hg)).trans hg,h4⟩
def gv(src:List aj)(work a b:LU):Except Nat (LU×LU):=match R.resP [] a with
 |none=>.error 1
 |some p=>match R.resP work b with
  |none=>.error 1
  |some d=>if p=[] then .ok (p,d) else match nC src p with
   |none=>.error 8
   |some _=>.ok (p,d)
def nP(rs:Nd)(nss:List Nd)(e:Ending)(x:Except Nat (LU×LU)):Prop:=match x with
 |.error k=>e=.returned (.tuple #[.pointer none,.string ⟨#[]⟩,.iface 27 (.int .i64 (k:Int))])
 |.ok (p,d)=>∃y∈rs::nss,y.p=p/\e=.returned (.tuple #[.pointer (some ⟨y.nb,0,none⟩),.string (bs d),.nilIface])
theorem mQ:bs []=⟨#[]⟩:=rfl
theorem jl{work t p:LU}(h:R.resP work t=some p):p.length<=170:=by
 unfold R.resP at h;split at h
 .unfold R.fin at h;split at h
  .cases h
  split at h
  .rename_i hp;injection h with h;subst h;exact(cR hp).1
  cases h
 cases h
theorem nO(sb:Nat)(work a b:BA)(ao:OA)(n cap:Nat)(ps:List BA)(stv:OA)(rs:Nd)(nss:List Nd)(Bs:Nat)(m:Int)(w:World)(hc:w.cell? ⟨sb,1,none⟩=some (.string work))(hws:work.size<=1048576)(hW:jD w ao n cap ps)(ha:ps[0]?=some a)(hb:ps[1]?=some b)(hS:cw w Bs rs nss)(HT:Hid (aO (ac nss)))(hm:w.cell? ⟨1,0,none⟩=some (.int .i64 m)): Cl 171 #[.pointer (some ⟨sb,0,none⟩),.agg #[.slice ao n cap,.pointer stv,.pointer (some ⟨rs.nb,0,none⟩)]] w λe w'=>nP rs nss e (gv (ac nss) work.data.toList a.data.toList b.data.toList)/\Bw w w':=by
 obtain⟨g,rfl,ca,hn0,hal⟩:=hW.at ha;obtain⟨g',e1,cb,hn1,hbl⟩:=hW.at hb;injection e1 with e1;injection e1 with e1;subst e1;obtain⟨W0,hW0⟩:=aq (w.alloc (.cells #[.slice (some ⟨g,0,none⟩) n cap,.pointer stv,.pointer (some ⟨rs.nb,0,none⟩)] 79));have hb0:=dw hW0;have hc0:=em hW0;have t0:=cq 0 hc0;have a0:=cL hb0 ca;have hR1:=pC ⟨#[]⟩ a m W0 (by decide) (by omega) (cL hb0 hm);rw[show (⟨#[]⟩:BA).data.toList=[] from rfl]at hR1;have HK:Hid (∀W,Bw W0 W->W.cell? ⟨w.heap.size,0,none⟩=some (.slice (some ⟨g,0,none⟩) n cap)/\W.cell? ⟨w.heap.size,2,none⟩=some (.pointer (some ⟨rs.nb,0,none⟩))/\W.cell? ⟨g,1,none⟩=some (.string b)/\W.cell? ⟨sb,1,none⟩=some (.string work)/\W.cell? ⟨1,0,none⟩=some (.int .i64 m)/\cw W Bs rs nss):=ab (λW hB=>⟨cL hB (cq 0 hc0),cL hB (cq 2 hc0),cL hB (cL hb0 cb),cL hB (cL hb0 hc),cL hB (cL hb0 hm),(hS.below hb0).below hB⟩);have hes:=cB;have hen:=eQ;have i1:(1:Int)<(n:Int):=by omega
 have i0:(0:Int)<(n:Int):=by omega
 clear hc0 ca cb hc hS hm hW ha hb hn0 hn1;cases hr1:R.resP [] a.data.toList with
 |none=>
  have HR:Hid (gv (ac nss) work.data.toList a.data.toList b.data.toList=.error 1):=ab (by unfold gv;rw[hr1]);rw[hr1]at hR1;simp only[Option.getD_none,R.errV,mQ]at hR1;clear hr1;go_enter func171,ntmps171;go_upto_region 1 with fail;rw[<-hW0];clear hW0;go_wp2_with (go_at_call 199;refine hR1.mono ?_;clear hR1;rintro e1 w1⟨rfl,hb1⟩)
  go_ret3;rw[uh HR];exact⟨rfl,hb0.trans (hb1.mono hb0.size)⟩
 |some p=>
  rw[hr1]at hR1;simp only[Option.getD_some,R.errV]at hR1;obtain⟨pb,hpb⟩:=aq (bs p);rw[<-hpb]at hR1;have HPB:Hid (pb.data.toList=p):=ab (by rw[hpb,dh]);have hpl:pb.size<=170:=by rw[zE,uh HPB];exact jl hr1
  have HR1:=ab hr1;clear hr1 hpb;go_enter func171,ntmps171;go_upto_region 1 with fail;rw[<-hW0];clear hW0;go_upto_region 4 with(go_at_call 199;refine hR1.mono ?_;clear hR1;rintro e1 w1⟨rfl,hb1⟩)
  obtain⟨k0,k2,kb,kw,km,kM⟩:=uh HK w1 hb1;have hR2:=dS sb work b m w1 kw (by omega) (by omega) km;have hB1:=hb0.trans (hb1.mono hb0.size);clear t0 a0;cases hr2:R.resP work.data.toList b.data.toList with
  |none=>
   have HR:Hid (gv (ac nss) work.data.toList a.data.toList b.data.toList=.error 1):=ab (by unfold gv;rw[uh HR1];simp only;rw[hr2]);rw[hr2]at hR2;simp only[Option.getD_none,R.errV,mQ]at hR2;clear hr2;go_wp2_with (go_at_call 180;refine hR2.mono ?_;clear hR2;rintro e2 w2⟨rfl,hb2⟩)
   go_ret3;rw[uh HR];exact⟨rfl,hB1.trans (hb2.mono hB1.size)⟩
  |some d=>
   rw[hr2]at hR2;simp only[Option.getD_some,R.errV]at hR2;obtain⟨db,hdb⟩:=aq (bs d);rw[<-hdb]at hR2;have HDB:=ab hdb;have HE:Hid (gv (ac nss) work.data.toList a.data.toList b.data.toList=if p=[] then .ok (p,d) else match nC (ac nss) p with|none=>.error 8|some _=>.ok (p,d)):=ab (by unfold gv;rw[uh HR1];simp only;rw[hr2]);clear hr2 hdb;go_upto_region 7 with(go_at_call 180;refine hR2.mono ?_;clear hR2;rintro e2 w2⟨rfl,hb2⟩)
   obtain⟨l0,l2,_,_,lm,lM⟩:=uh HK w2 (hb1.trans (hb2.mono hb1.size));have hB2:=hB1.trans (hb2.mono hB1.size);have HO:Hid (cX (ac nss) nss.length):=ab (by have:=(uh HT).ok;rwa [show (ac nss).length=nss.length from by simp[ac]]at this);have hF:=cY rs nss Bs pb m w2 lM HO (by omega) lm;have HLM:=ab lM;clear k0 k2 kb kw km kM lm lM;go_upto_region 8 with(go_at_call 101;refine hF.mono ?_;clear hF;rintro e3 w3⟨v,rfl,HF,hb3⟩)
   have hB3:=hB2.trans (hb3.mono hB2.size);have hF2:=uh HF;rw[uh HPB]at hF2;by_cases hp0:p=[]
   .have HR:Hid (gv (ac nss) work.data.toList a.data.toList b.data.toList=.ok (p,d)):=ab (by rw[uh HE,if_pos hp0]);have hroot:=(uh HLM).root;rcases hF2 with⟨_,hno⟩|⟨y,hy,rfl,hyp⟩
    .exact absurd (by rw[Nd.p,hroot,hp0];rfl) (hno rs (by simp))
    have HY:=ab hy;have HYP:=ab hyp;clear HF hy hyp hroot hp0 l0 l2;go_wp2_with fail;go_ret3;rw[uh HR];exact⟨⟨y,uh HY,uh HYP,(by obtain rfl:=uh HDB;rfl)⟩,hB3⟩
   rcases kP (uh HT) (uh HLM).root hp0 hF2 with⟨rfl,hat⟩|⟨y,hy,rfl,hyp,hat⟩
   .have HR:Hid (gv (ac nss) work.data.toList a.data.toList b.data.toList=.error 8):=ab (by rw[uh HE,if_neg hp0,hat]);clear HF hF2 hat hp0 l0 l2;go_wp2_with fail;go_ret3;rw[uh HR];exact⟨rfl,hB3⟩
   have HR:Hid (gv (ac nss) work.data.toList a.data.toList b.data.toList=.ok (p,d)):=ab (by rw[uh HE,if_neg hp0,hat]);have HY:=ab hy;have HYP:=ab hyp;clear HF hF2 hat hp0 l0 l2 hy hyp;go_wp2_with fail;go_ret3;rw[uh HR];exact⟨⟨y,List.mem_cons_of_mem _ (uh HY),uh HYP,(by obtain rfl:=uh HDB;rfl)⟩,hB3⟩
def ma(w':World)(B sb:Nat)(ev:Value)(e:Ending)(x:Except Nat (List aj×LU)):Prop:=match x with
 |.error k=>e=.returned (.iface 27 (.int .i64 (k:Int)))
 |.ok (t,wk)=>e=.returned .nilIface/\∃(r:Nd) (ns:List Nd) (work:BA),ed w' B sb r ns work ev/\ac ns=t/\work.data.toList=wk/\work.size<=1048576/\ns.length<=500
def lu(t:List aj)(work a:LU):Except Nat (List aj×LU):=match R.resP work a with
 |none=>.error 1
 |some p=>match cK t p with
  |.error k=>.error k
  |.ok t'=>.ok (t',p)
def lq(t:List aj)(work a:LU):Except Nat (List aj×LU):=match R.resP work a with
 |none=>.error 1
 |some p=>match cK t p with
  |.error k=>.error k
  |.ok t'=>.ok (t',work)
theorem ed.enter{w:World}{B sb:Nat}{r:Nd}{ns:List Nd}{work p:BA}{ev:Value}(h:ed w B sb r ns work ev)(hsb:B<=sb):ed (w.setCell ⟨sb,1,none⟩ (.string p)) B sb r ns p ev/\Below B w (w.setCell ⟨sb,1,none⟩ (.string p))/\bm w (w.setCell ⟨sb,1,none⟩ (.string p)):=by
 have hc:=hS w sb 1 _ _ (.string p) h.cells;have ho:∀k,k≠sb->(w.setCell ⟨sb,1,none⟩ (.string p)).heap[k]?=w.heap[k]?:=λk hk=>heap_setCell_other _ _ _ _ hk;have hne:∀x∈r::ns,x.nb≠sb/\x.mb≠sb:=λx hx=>by have:=h.mem.out h.cells (by decide) x hx;exact⟨λe=>this.1 e.symm,λe=>this.2 e.symm⟩
 refine⟨⟨hc,⟨h.mem.root,λx hx=>?_,h.mem.apart⟩,h.tree,h.lim,by simpa using h.base⟩,(bR _ _).setCell hsb _,λg cs t f hg _ h112=>?_⟩
 .obtain⟨h1,h2,h3,h4⟩:=h.mem.all x hx;refine⟨h1,h2,(ho _ (hne x hx).1).trans h3,?_⟩;exact World.ownsMap.kept h4 ⟨rfl,rfl,rfl,by simp,λk _ hk=>ho k (λe=>hk (by rw[e]))⟩ (λe=>(hne x hx).2 (by simpa using e))
 by_cases e:g=sb
 .subst e;rw[h.cells]at hg;injection hg with hg;injection hg with _ hg _;exact absurd hg.symm h112
 rw[ho g e];exact hg
theorem CS(sb:Nat)(r:Nd)(ns:List Nd)(work a:BA)(ev:Value)(ao:OA)(n cap:Nat)(ps:List BA)(sv sr:OA)(B:Nat)(m:Int)(w:World)(h:ed w B sb r ns work ev)(hn:ns.length<=400)(hws:work.size<=1048576)(hW:jD w ao n cap ps)(ha:ps[0]?=some a)(hm:w.cell? ⟨1,0,none⟩=some (.int .i64 m))(hsb:B<=sb): Cl 149 #[.pointer (some ⟨sb,0,none⟩),.agg #[.slice ao n cap,.pointer sv,.pointer sr]] w λe w'=>(ma w' B sb ev e (lu (ac ns) work.data.toList a.data.toList))/\Below B w w'/\bm w w':=by
 obtain⟨g,rfl,ca,hn0,hal⟩:=hW.at ha;obtain⟨W0,hW0⟩:=aq (w.alloc (.cells #[.slice (some ⟨g,0,none⟩) n cap,.pointer sv,.pointer sr] 79));have hb0:=dw hW0;have hc0:=em hW0;have t0:=cq 0 hc0;have a0:=cL hb0 ca;have hst0:=h.below hb0;have hR:=dS sb work a m W0 hst0.c1 (by omega) (by omega) (cL hb0 hm);have hBw:=h.base;have hlim:=h.lim;have HST:=ab hst0;have HM:=ab (cL hb0 hm);have HC:=ab hc0;have hes:=cB;have hen:=eQ;have i0:(0:Int)<(n:Int):=by omega
 clear h hm ha hW ca hst0 hc0;cases hr:R.resP work.data.toList a.data.toList with
 |none=>
  rw[hr]at hR;simp only[Option.getD_none,R.errV,mQ]at hR;have HR:Hid (lu (ac ns) work.data.toList a.data.toList=.error 1):=ab (by unfold lu;rw[hr]);clear hr;go_enter func149,ntmps149;go_upto_region 1 with fail;rw[<-hW0];clear hW0;go_wp2_with (go_at_call 180;refine hR.mono ?_;clear hR;rintro e1 w1⟨rfl,hb1⟩)
  go_ret;have hb01:=hb0.trans (hb1.mono hb0.size);rw[uh HR];exact⟨rfl,hb01.mono hBw,ak hb01⟩
 |some p=>
  rw[hr]at hR;simp only[Option.getD_some,R.errV]at hR;obtain⟨pb,hpb⟩:=aq (bs p);rw[<-hpb]at hR;have HPB:Hid (pb.data.toList=p):=ab (by rw[hpb,dh]);have hpl:pb.size<=170:=by rw[zE,uh HPB];exact jl hr
  have HR0:=ab hr;clear hr hpb;go_enter func149,ntmps149;go_upto_region 1 with fail;rw[<-hW0];clear hW0;go_upto_region 4 with(go_at_call 180;refine hR.mono ?_;clear hR;rintro e1 w1⟨rfl,hb1⟩)
  have hb01:=hb0.trans (hb1.mono hb0.size);have hst1:=(uh HST).below hb1;have hm1:=cL hb1 (uh HM);clear a0 t0;have hMk:=dO sb r ns work pb ev B m w1 hst1 (by omega) (by omega) hm1;rw[uh HPB]at hMk;have HST1:=ab hst1;clear hst1 hm1;cases hg:cK (ac ns) p with
  |error k=>
   rw[hg]at hMk;unfold bx at hMk;have HR:Hid (lu (ac ns) work.data.toList a.data.toList=.error k):=ab (by unfold lu;rw[uh HR0];simp only;rw[hg]);clear hg;go_wp2_with (go_at_call 178;refine hMk.mono ?_;clear hMk;rintro e2 w2⟨rfl,hb2,hx2⟩)
   go_ret;rw[uh HR];exact⟨rfl,(hb01.mono hBw).trans hb2,(ak hb01).trans hx2⟩
  |ok t=>
   rw[hg]at hMk;unfold bx at hMk;have HR:Hid (lu (ac ns) work.data.toList a.data.toList=.ok (t,p)):=ab (by unfold lu;rw[uh HR0];simp only;rw[hg]);clear hg;go_upto_region 7 with(go_at_call 178;refine hMk.mono ?_;clear hMk;rintro e2 w2⟨⟨rfl,ns',hst2,he2,hs2,hl2⟩,hb2,hx2⟩)
   have c1:=hst2.c1;have f1:=frozen_of_row w2 sb 1 _ _ hst2.cells;have HST2:=ab hst2;have HE2:=ab he2;clear hst2 he2 hs2;go_wp2_with fail;go_ret;rw[uh HR];obtain⟨e1,e2,e3⟩:=(uh HST2).enter (p:=pb) hsb;exact⟨⟨rfl,r,ns',pb,e1,uh HE2,uh HPB,by omega,by omega⟩,((hb01.mono hBw).trans hb2).trans e2,((ak hb01).trans hx2).trans e3⟩
theorem Cy(sb:Nat)(r:Nd)(ns:List Nd)(work a:BA)(ev:Value)(ao:OA)(cap:Nat)(ps:List BA)(sv sr:OA)(B:Nat)(m:Int)(w:World)(h:ed w B sb r ns work ev)(hn:ns.length<=400)(hws:work.size<=1048576)(hW:jD w ao 1 cap ps)(ha:ps[0]?=some a)(hm:w.cell? ⟨1,0,none⟩=some (.int .i64 m)): Cl 145 #[.pointer (some ⟨sb,0,none⟩),.agg #[.slice ao 1 cap,.pointer sv,.pointer sr]] w λe w'=>(ma w' B sb ev e (lq (ac ns) work.data.toList a.data.toList))/\Below B w w'/\bm w w':=by
 obtain⟨g,rfl,ca,hn0,hal⟩:=hW.at ha;obtain⟨W0,hW0⟩:=aq (w.alloc (.cells #[.slice (some ⟨g,0,none⟩) 1 cap,.pointer sv,.pointer sr] 79));have hb0:=dw hW0;have hc0:=em hW0;have t0:=cq 0 hc0;have a0:=cL hb0 ca;have hst0:=h.below hb0;have hR:=dS sb work a m W0 hst0.c1 (by omega) (by omega) (cL hb0 hm);have hBw:=h.base;have hlim:=h.lim;have HST:=ab hst0;have HM:=ab (cL hb0 hm);have HC:=ab hc0;have hes:=cB;have hen:=eQ;clear h hm ha hW ca hst0 hc0;cases hr:R.resP work.data.toList a.data.toList with
 |none=>
  rw[hr]at hR;simp only[Option.getD_none,R.errV,mQ]at hR;have HR:Hid (lq (ac ns) work.data.toList a.data.toList=.error 1):=ab (by unfold lq;rw[hr]);clear hr;go_enter func145,ntmps145;go_upto_region 1 with fail;rw[<-hW0];clear hW0;go_wp2_with (go_at_call 180;refine hR.mono ?_;clear hR;rintro e1 w1⟨rfl,hb1⟩)
  go_ret;have hb01:=hb0.trans (hb1.mono hb0.size);rw[uh HR];exact⟨rfl,hb01.mono hBw,ak hb01⟩
 |some p=>
  rw[hr]at hR;simp only[Option.getD_some,R.errV]at hR;obtain⟨pb,hpb⟩:=aq (bs p);rw[<-hpb]at hR;have HPB:Hid (pb.data.toList=p):=ab (by rw[hpb,dh]);have hpl:pb.size<=170:=by rw[zE,uh HPB];exact jl hr
  have HR0:=ab hr;clear hr hpb;go_enter func145,ntmps145;go_upto_region 1 with fail;rw[<-hW0];clear hW0;go_upto_region 4 with(go_at_call 180;refine hR.mono ?_;clear hR;rintro e1 w1⟨rfl,hb1⟩)
  have hb01:=hb0.trans (hb1.mono hb0.size);have hst1:=(uh HST).below hb1;have hm1:=cL hb1 (uh HM);clear a0 t0;have hMk:=dO sb r ns work pb ev B m w1 hst1 (by omega) (by omega) hm1;rw[uh HPB]at hMk;have HST1:=ab hst1;have t1:=cL hb1 (cq 0 (uh HC));have HC1:=ab ((hb1.block w.heap.size (gA (uh HC))).trans (uh HC));clear hst1 hm1;cases hg:cK (ac ns) p with
  |error k=>
   rw[hg]at hMk;unfold bx at hMk;have HR:Hid (lq (ac ns) work.data.toList a.data.toList=.error k):=ab (by unfold lq;rw[uh HR0];simp only;rw[hg]);clear hg;go_wp2_with (go_at_call 178;refine hMk.mono ?_;clear hMk;rintro e2 w2⟨rfl,hb2,hx2⟩)
   go_ret;rw[uh HR];exact⟨rfl,(hb01.mono hBw).trans hb2,(ak hb01).trans hx2⟩
  |ok t=>
   rw[hg]at hMk;unfold bx at hMk;have HR:Hid (lq (ac ns) work.data.toList a.data.toList=.ok (t,work.data.toList)):=ab (by unfold lq;rw[uh HR0];simp only;rw[hg]);clear hg;go_upto_region 5 with(go_at_call 178;refine hMk.mono ?_;clear hMk;rintro e2 w2⟨⟨rfl,ns',hst2,he2,hs2,hl2⟩,hb2,hx2⟩)
   have t2:=cq 0 (fL (uh HST1).mem hs2.foot (uh HC1) (by decide));have HST2:=ab hst2;have HE2:=ab he2;clear hst2 he2 hs2 t1;go_wp2_with fail;go_ret;rw[uh HR];exact⟨⟨rfl,r,ns',work,uh HST2,uh HE2,rfl,hws,by omega⟩,(hb01.mono hBw).trans hb2,(ak hb01).trans hx2⟩
theorem CQ(sb:Nat)(ao:OA)(n cap:Nat)(sr:OA)(w:World): Cl 138 #[.pointer (some ⟨sb,0,none⟩),.agg #[.slice ao n cap,.pointer none,.pointer sr]] w λe w'=>e=.returned .nilIface/\Bw w w':=by go_enter func138,ntmps138;go_wp2;go_ret;exact⟨rfl,eD⟩
end Go.Proofs.YtjhobnjdfhkohaaGreatDoor.T
namespace Go.Proofs.YtjhobnjdfhkohaaGreatDoor.T
open Go.Proofs.Tryz
open Go.RowKit
theorem qm{m m':Nat}{P:Program}{l:Nat}{args:Array Value}{W:World}{R:Ending->World->Prop}(h:YieldAt Fence.wide m P l args W R):YieldAt Fence.wide m' P l args W R:=by obtain⟨fn,tmps,assign,body,hy,hF,hR⟩:=h;exact⟨fn,tmps,assign,body,hy,hF,λc cs _=>hR c cs (room_wide _)⟩
def il(W:World)(Bb k:Nat):Prop:=∃o s n cap,W.cell? ⟨Bb,0,none⟩=some (.slice (some ⟨k,o,s⟩) n cap)
structure Kc(Bb:Nat)(W W':World):Prop where
 size:W.heap.size<=W'.heap.size
 keep:∀k o,W.heap[k]?=some o->(o.isCells=true\/o.isWalk=true)->k≠Bb->¬il W Bb k->W'.heap[k]?=some o
 row:∀k,il W' Bb k->il W Bb k\/(W.heap.size<=k/\k<W'.heap.size)
theorem Kc.refl(Bb:Nat)(W:World):Kc Bb W W:=⟨nR _,λ_ _ h _ _ _=>h,λ_ h=>.inl h⟩
theorem Kc.trans{Bb:Nat}{A B C:World}(h:Kc Bb A B)(k:Kc Bb B C):Kc Bb A C:=by
 refine⟨nT h.size k.size,λi o h1 h2 h3 h4=>k.keep i o (h.keep i o h1 h2 h3 h4) h2 h3 λhr=>?_,λi hi=>?_⟩
 .have hi:=(gA h1)
  rcases h.row i hr with h5|h5
  .exact h4 h5
  omega
 rcases k.row i hi with h1|h1
 .rcases h.row i h1 with h2|h2
  .exact .inl h2
  exact .inr ⟨h2.1,Nat.lt_of_lt_of_le h2.2 k.size⟩
 exact .inr ⟨nT h.size h1.1,h1.2⟩
theorem ik{W:World}{l:Nat}(o':Obj){a:Addr}(h:a.block≠l):(W.putObj l o').cell? a=W.cell? a:=by unfold World.cell?;rw[World.putObj_heap_other h]
theorem b8{W W':World}{a:Addr}(h:W'.heap[a.block]?=W.heap[a.block]?):W'.cell? a=W.cell? a:=by unfold World.cell?;rw[h]
theorem Kc.put{Bb:Nat}(W:World)(l:Nat)(o o':Obj)(hl:Bb<l)(h:W.heap[l]?=some o)(h1:o.isCells=false)(h2:o.isWalk=false):Kc Bb W (W.putObj l o'):=by
 refine⟨by simp,λk x hk hx _ _=>?_,λk hk=>.inl ?_⟩
 .have e:k≠l:=by rintro rfl;rw[h]at hk;cases hk;rw[h1,h2]at hx;rcases hx with hx|hx<;>cases hx
  rw[World.putObj_heap_other e];exact hk
 obtain⟨a,s,n,c,e⟩:=hk;rw[ik o' (by show Bb≠l;omega)]at e;exact⟨a,s,n,c,e⟩
theorem Kc.below{Bb:Nat}{W W':World}(hb:Bw W W')(h:Bb<W.heap.size):Kc Bb W W':=by refine⟨hb.size,λk o hk _ _ _=>(hb.block k (gA hk)).trans hk,λk hk=>.inl ?_⟩;obtain⟨a,s,n,c,e⟩:=hk;rw[b8 (W:=W) (hb.block Bb h)]at e;exact⟨a,s,n,c,e⟩
theorem kO{W W':World}(hb:Bw W W'):KeepsOthers W W':=⟨hb.size,λk _ hk _=>(hb.block k (gA hk)).trans hk⟩
def oS(Bb:Nat)(W:World)(k:Nat):Prop:=k<W.heap.size/\k≠Bb/\¬il W Bb k
theorem Kc.away{Bb:Nat}{W W':World}{k:Nat}(h:Kc Bb W W')(ha:oS Bb W k):oS Bb W' k:= ⟨Nat.lt_of_lt_of_le ha.1 h.size,ha.2.1,λhr=>by
 rcases h.row k hr with h1|h1
 .exact ha.2.2 h1
 have:=ha.1;omega⟩
theorem Kc.at{Bb:Nat}{W W':World}{k:Nat}{o:Obj}(h:Kc Bb W W')(ha:oS Bb W k)(hk:W.heap[k]?=some o)(ho:o.isCells=true\/o.isWalk=true):W'.heap[k]?=some o:=h.keep k o hk ho ha.2.1 ha.2.2
def xi(Bb:Nat)(W:World):Prop:=Bb<W.heap.size/\∀k,il W Bb k->k<W.heap.size
theorem Kc.rowIn{Bb:Nat}{W W':World}(h:Kc Bb W W')(hr:xi Bb W):xi Bb W':= ⟨Nat.lt_of_lt_of_le hr.1 h.size,λk hk=>by
 rcases h.row k hk with h1|h1
 .exact Nat.lt_of_lt_of_le (hr.2 k h1) h.size
 exact h1.2⟩
theorem nH{Bb:Nat}{W W':World}{g:Nat}(hr:xi Bb W)(hb:Bw W W')(hg:W.heap.size<=g)(hg2:g<W'.heap.size):oS Bb W' g:= ⟨hg2,by have:=hr.1;omega,λhk=>by obtain⟨a,s,n,c,e⟩:=hk;rw[b8 (W:=W) (hb.block Bb hr.1)]at e;have:=hr.2 g ⟨a,s,n,c,e⟩;omega⟩
structure jV(Bb B0:Nat)(W W':World):Prop where
 os:W'.os=W.os
 tape:W'.tape=W.tape
 output:W'.output=W.output
 size:W.heap.size<=W'.heap.size
 block:∀k,k<W.heap.size->(k<B0\/k=Bb\/il W Bb k)->W'.heap[k]?=W.heap[k]?
theorem jV.below{Bb B0:Nat}{W W':World}(h:Bw W W'):jV Bb B0 W W':=⟨h.os,h.tape,h.output,h.size,λk hk _=>h.block k hk⟩
theorem jV.mono{Bb B0 B1:Nat}{W W':World}(h:jV Bb B1 W W')(hb:B0<=B1):jV Bb B0 W W':=⟨h.os,h.tape,h.output,h.size,λk hk hc=>h.block k hk (by
 rcases hc with hc|hc
 .exact .inl (by omega)
 exact .inr hc)⟩
theorem jV.put{Bb B0 l:Nat}{W:World}(o':Obj)(h1:B0<=l)(h2:l≠Bb)(h3:¬il W Bb l):jV Bb B0 W (W.putObj l o'):= ⟨rfl,rfl,rfl,by simp,λk _ hc=>World.putObj_heap_other (λe=>by
 subst e;rcases hc with hc|hc|hc
 .omega
 .exact h2 hc
 exact h3 hc)⟩
theorem jV.set{Bb B0:Nat}{W:World}{p:Addr}(v:Value)(h1:B0<=p.block)(h2:p.block≠Bb)(h3:¬il W Bb p.block):jV Bb B0 W (W.setCell p v):= ⟨rfl,rfl,rfl,(KeepsWalks.setCell W p v).size,λk _ hc=>Below.heap_setCell _ _ _ k (λe=>by
 subst e;rcases hc with hc|hc|hc
 .omega
 .exact h2 hc
 exact h3 hc)⟩
def NC(Bb:Nat)(W:World):Prop:=∀k,il W Bb k->∃o:Obj,W.heap[k]?=some o/\o.isCells=true
structure vC{β:Type}(Bb B0:Nat)(J:β->World->Prop):Prop where
 go:∀s W W',J s W->jV Bb B0 W W'->J s W'
 row:∀s W,J s W->NC Bb W
theorem vC.mono{β:Type}{Bb B0 B1:Nat}{J:β->World->Prop}(h:vC Bb B0 J)(hb:B0<=B1):vC Bb B1 J:=⟨λs W W' hs hk=>h.go s W W' hs (hk.mono hb),h.row⟩
def zD{α:Type}(Bb:Nat)(F:Fence)(n:Nat)(P:Program)(g:Nat)(lb:Array Value)(encs:α->Array Value)(xs:List α)(w:World):Prop:=
 ∀(l:Nat) (J:List α->World->Prop) (W:World),Bw w W->vC Bb W.heap.size J->(∀pre x W1,J pre W1->pre++[x] <+: xs->YieldAt F (n-1) P l (encs x) W1 λe W'=>e=.returned (.bool true)/\J (pre++[x]) W'/\KeepsOthers W1 W'/\Kc Bb W1 W')->J [] W->CallsIn F n P g (#[.func (.yield l) #[] #[]]++lb) W λe W'=>(∃v,e=.returned v)/\J xs W'
theorem oH{F:Fence}{n:Nat}{P:Program}{α:Type}{g:Operand}{ps:Array Tmp}{assign body:Code}{Q:Exit->Act->World->Prop}{a:Act}{w:World}{Bb:Nat}(hro:F.round=none)(h1:1<=n){gf:Nat}{lb:Array Value}(hg:a.eval g=.func (.func gf) #[] lb)(hFg:F.fn gf)(eg:∀args w,(callFunc gf args).run P w=.ok (.enter gf args) w){encs:α->Array Value}{xs:List α}{w0:World}(hseq:zD Bb F (n-1) P gf lb encs xs w0)(hBb:Bb<w.heap.size)(hb0:Bw w0 w)(hps:∀x,(encs x).size=ps.size)(I:List α->World->Prop)(hI:vC Bb w.heap.size I)(h0:I [] w)(f:Array Value->α->Array Value)(hassign:∀(l:Nat) (x:α) (W:World) (K:Act->World->Prop),K { tmps:=f a.tmps x,defers:=[] } W->
 assign.wpIn (F.inRound l) (n-1-1) P (Exit.then K (λ_ _ _=>False)) { tmps:=(ps.zip (encs x)).foldl (λt (p,v)=>t.setIfInBounds p v) a.tmps,defers:=[] } W)
 (hbody:∀(l:Nat) (pre:List α) (x:α) (W:World),I pre W->pre++[x] <+: xs->body.wpIn (F.inRound l) (n-1-1) P (ownPostK (Kc Bb) I (λ_ _ _=>False) (pre++[x]) W) { tmps:=f a.tmps x,defers:=[] } W)
 (hdone:∀(D:Nat) (W:World),w.heap.size<=D->I xs W->W.heap[D]?=some (.deferred (some []))->Q .normal { a with defers:={ target:=.collected D,args:=#[] }::a.defers } W) :
 (Code.rangeFunc g ps assign body).wpIn F n P Q a w:=by
 refine wpIn_rangeFunc λfn hfn=>?_;rw[hro];obtain⟨D,hD⟩:∃D,w.heap.size=D:=⟨_,rfl⟩
 obtain⟨R,hR⟩:∃R:LoopState->Loop,∀st,R st={ state:=st,pending:=none,fn,tmps:=a.tmps,params:=ps,assign,body,defers:=D }:=⟨_,λ_=>rfl⟩
 obtain⟨V,hV⟩:=aq ((w.alloc (.deferred (some []))).alloc (.loop (R .ready)));have sV:V.heap.size=D+2:=by rw[hV];simp[hD]
 have vL:V.heap[D+1]?=some (.loop (R .ready)):=by have:=World.alloc_heap_new (w.alloc (.deferred (some []))) (.loop (R .ready));rw[World.size_alloc,hD]at this;rw[hV];exact this
 have vD:V.heap[D]?=some (.deferred (some [])):=by have:=World.alloc_heap_new w (.deferred (some []));rw[hD]at this;rw[hV];exact(Below.heap_alloc _ _ _ (by simp[hD])).trans this
 have wV:Bw w V:=by rw[hV];exact((bR _ w).alloc (nR _) _).alloc (by simp) _
 have bV:Bw w0 V:=hb0.trans (wV.mono hb0.size);have hIV:I [] V:=hI.go _ _ _ h0 (jV.below wV);rw[hD]at hI hBb;have nor:∀{s W l o},I s W->W.heap[l]?=some o->o.isCells=false->¬il W Bb l:=fun {s W l o} hs hl hc hr=>by obtain⟨o',h2,h3⟩:=hI.row s W hs l hr;rw[hl]at h2;cases h2;rw[hc]at h3;cases h3
 have put:∀{s W o}(o':Obj),I s W->W.heap[D+1]?=some o->o.isCells=false->I s (W.putObj (D+1) o'):=fun {s W o} o' hs hl hc=>
  hI.go s W _ hs (jV.put o' (by omega) (by omega) (nor hs hl hc))
 have hJ:vC Bb V.heap.size (λpre W=>I pre W/\W.heap[D+1]?=some (.loop (R .ready))/\W.heap[D]?=some (.deferred (some []))):=by refine⟨λs A B hs hk=>?_,λs W hs=>hI.row s W hs.1⟩;rw[sV]at hk;exact⟨hI.go s A B hs.1 (hk.mono (by omega)),(hk.block _ (gA hs.2.1) (.inl (by omega))).trans hs.2.1,(hk.block _ (gA hs.2.2) (.inl (by omega))).trans hs.2.2⟩
 have hcall:=hseq (D+1) _ V bV hJ ?round ⟨hIV,vL,vD⟩;case round=>
  rintro pre x W⟨hi,hl,hk⟩ hlen;have hlt:D+1<W.heap.size:=(gA hl)
  have hy:=run_yield (P:=P) (args:=encs x) hl (by rw[hR];exact hps x);rw[hR]at hy;have bL:(W.putObj (D+1) (.loop { R .ready with state:=.busy })).heap[D+1]?=some (.loop { R .ready with state:=.busy }):=World.putObj_heap_same hlt;have bD:(W.putObj (D+1) (.loop { R .ready with state:=.busy })).heap[D]?=some (.deferred (some [])):=(World.putObj_heap_other (by omega)).trans hk;refine⟨fn,_,assign,body,hy,roundIn_of_wpIn hfn (hassign _ x W _ ⟨_,run_beginRound hl (by rw[hR]),?_⟩)⟩;refine wpIn_mono (hbody _ pre x _ (put _ hi hl rfl) hlen) ?_;rintro e a3 W3 hp;cases e with
  |normal=>
   obtain⟨hk3,hkp3,hi3⟩:=hp;have cL:=hk3.same _ _ bL rfl;have cE:=run_endRound (P:=P) none cL;rw[hR]at cE cL;have c3:D+1<W3.heap.size:=(gA cL)
   refine⟨_,_,cE,rfl,⟨put _ hi3 cL rfl,?_,(World.putObj_heap_other (by omega)).trans (hk3.same _ _ bD rfl)⟩,⟨?_,λk o hko hoc=>?_⟩,?_⟩
   .rw[hR];exact World.putObj_heap_same c3
   .exact nT (by simp) (nT hk3.size (by simp))
   .by_cases hkl:k=D+1
    .subst hkl;rw[hl]at hko;cases hko;rw[hR];exact World.putObj_heap_same c3
    exact(World.putObj_heap_other hkl).trans (hk3.same _ _ ((World.putObj_heap_other hkl).trans hko) hoc)
   exact((Kc.put W _ _ _ (by omega) hl rfl rfl).trans hkp3).trans (Kc.put _ _ _ _ (by omega) cL rfl rfl)
  |ret=>exact hp.2.elim
  |exit id=>exact hp.2.elim
  |goto t=>exact hp.2.elim
  |panic ch=>exact hp.elim
  |outgrown=>exact hp.elim
 refine⟨D+1,[{ target:=.collected D,args:=#[] }],V,{ target:=.fn (.func gf) lb,args:=#[.func (.yield (D+1)) #[] #[]] },V,gf,
  #[.func (.yield (D+1)) #[] #[]]++lb,V,?_,?_,?_,?_,λ_=>h1,?_⟩
 .have e:V=(w.alloc (.deferred (some []))).alloc (.loop { state:=.ready,pending:=none,fn,tmps:=a.tmps,params:=ps,assign,body,defers:=w.heap.size }):=by rw[hV,hR,hD]
  rw[e,<-hD];exact run_enterLoop_outer _ _ _ _ _
 .simp only[resolve,hg];simp[go_sem]
 .intro f' hf';simp[Target.leads]at hf';subst hf';exact hFg
 .simp[invoke,go_sem,eg]
 refine hcall.mono ?_;rintro e W2⟨⟨v,rfl⟩,hi,hl,hk⟩;have cE:=run_endLoop (P:=P) hl (by rw[hR];simp);rw[hR]at cE;exact⟨none,_,cE,hdone _ _ (by omega) (put _ hi hl rfl) ((World.putObj_heap_other (by omega)).trans hk)⟩
theorem Kc.setNew{Bb:Nat}{w W:World}{p:Addr}(h:Kc Bb w W)(v:Value)(hB:Bb<w.heap.size)(hp:w.heap.size<=p.block):Kc Bb w (W.setCell p v):=by
 have hs:=(KeepsWalks.setCell W p v).size;have hne:∀k,k<w.heap.size->(W.setCell p v).heap[k]?=W.heap[k]?:=λk hk=>Below.heap_setCell _ _ _ k (λe=>by omega);refine⟨nT h.size hs,λk o h1 h2 h3 h4=>(hne k (gA h1)).trans (h.keep k o h1 h2 h3 h4),λk hk=>?_⟩;obtain⟨a,s,n,c,e⟩:=hk;rw[b8 (W:=W) (hne Bb hB)]at e;rcases h.row k ⟨a,s,n,c,e⟩with h5|h5
 .exact .inl h5
 exact .inr ⟨h5.1,Nat.lt_of_lt_of_le h5.2 hs⟩
theorem Kc.putNew{Bb:Nat}{w W:World}{l:Nat}(h:Kc Bb w W)(o:Obj)(hB:Bb<w.heap.size)(hp:w.heap.size<=l):Kc Bb w (W.putObj l o):=by
 have hne:∀k,k<w.heap.size->(W.putObj l o).heap[k]?=W.heap[k]?:=λk hk=>World.putObj_heap_other (by omega);refine⟨nT h.size (by simp),λk o h1 h2 h3 h4=>(hne k (gA h1)).trans (h.keep k o h1 h2 h3 h4),λk hk=>?_⟩;obtain⟨a,s,n,c,e⟩:=hk;rw[b8 (W:=W) (hne Bb hB)]at e;rcases h.row k ⟨a,s,n,c,e⟩with h5|h5
 .exact .inl h5
 exact .inr ⟨h5.1,by simpa using h5.2⟩
theorem vM{w W:World}{l:Nat}(h:KeepsOthers w W)(o:Obj)(hp:w.heap.size<=l):KeepsOthers w (W.putObj l o):= ⟨nT h.size (by simp),λk o' h1 h2=>(World.putObj_heap_other (by have:=(gA h1);omega)).trans (h.same k o' h1 h2)⟩
theorem Kc.kept{Bb B0:Nat}{w W W':World}(h:Kc Bb w W)(hB:Bb<w.heap.size)(hk:jV Bb B0 W W')(h0:w.heap.size<=B0):Kc Bb w W':=by
 have hne:∀k,k<w.heap.size->W'.heap[k]?=W.heap[k]?:=λk hk'=>hk.block k (Nat.lt_of_lt_of_le hk' h.size) (.inl (by omega));refine⟨nT h.size hk.size,λk o h1 h2 h3 h4=>(hne k (gA h1)).trans (h.keep k o h1 h2 h3 h4),λk hr=>?_⟩;obtain⟨a,s,n,c,e⟩:=hr;rw[b8 (W:=W) (hne Bb hB)]at e;rcases h.row k ⟨a,s,n,c,e⟩with h5|h5
 .exact .inl h5
 exact .inr ⟨h5.1,Nat.lt_of_lt_of_le h5.2 hk.size⟩
theorem zv{Bb B0:Nat}{w W W':World}(h:KeepsOthers w W)(hk:jV Bb B0 W W')(h0:w.heap.size<=B0):KeepsOthers w W':= ⟨nT h.size hk.size,λk o h1 h2=>(hk.block k (Nat.lt_of_lt_of_le (gA h1) h.size) (.inl (by have:=(gA h1);omega))).trans (h.same k o h1 h2)⟩
end Go.Proofs.YtjhobnjdfhkohaaGreatDoor.T
