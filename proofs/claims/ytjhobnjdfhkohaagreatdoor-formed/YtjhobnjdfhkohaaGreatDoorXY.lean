import Derived.Test.YtjhobnjdfhkohaaGreatDoorXW
import Derived.Test.YtjhobnjdfhkohaaGreatDoorXX
set_option linter.all false
set_option maxHeartbeats 2000000
set_option maxRecDepth 100000
namespace Go.Proofs.YtjhobnjdfhkohaaGreatDoor
open Go.Proofs.Tryz
open Go.RowKit Go.Maps
theorem FG(q t:Addr)(old:Value)(B:Nat)(w:World)(hg:w.cell? ⟨0,0,none⟩=some (.iface 157 (.agg #[.pointer (some ⟨22,45,none⟩)])))(ht0:w.cell? t=some old)(hf0:w.frozen? t=false)(hB:B<=t.block): Cl 24 #[.iface 64 (.pointer (some q)),.iface 66 (.pointer (some t))] w λev w'=>ev=.returned (.bool true)/\w'.cell? t=some (.pointer (some q))/\Below B w w':=by have htl:=World.block_lt_of_cell? _ _ ht0;refine(L6 q t old w hg ht0 hf0).mono ?_;rintro e w'⟨rfl,rfl⟩;refine⟨rfl,?_,(((((bR _ _).alloc (by omega) _).alloc (by simp;omega) _).alloc (by simp;omega) _).alloc (by simp;omega) _).setCell hB _⟩;refine World.cell?_setCell_same _ _ _ (u:=old) (by rw[World.cell?_alloc_lt _ _ t (by simp;omega),World.cell?_alloc_lt _ _ t (by simp;omega),World.cell?_alloc_lt _ _ t (by simp;omega),World.cell?_alloc_lt _ _ t htl];exact ht0)
theorem uD(q:Nat)(e n:Int)(w:World)(hg:w.cell? ⟨0,0,none⟩=some (.iface 157 (.agg #[.pointer (some ⟨22,45,none⟩)])))(h0:w.cell? ⟨q,0,none⟩=some (.int .i64 e))(h1:w.cell? ⟨q,1,none⟩=some (.int .i64 n)): Cl 13 #[.iface 64 (.pointer (some ⟨q,0,none⟩))] w λev w'=>ev=.returned (.tuple #[.int .i64 e,.int .i64 n])/\Bw w w':=by
 have hlt:=World.block_lt_of_cell? _ _ hg;have hq:=World.block_lt_of_cell? _ _ h0;go_enter func13,ntmps13;go_wp2_with fail;refine(FG ⟨q,0,none⟩ ⟨w.heap.size,0,none⟩ (.pointer none) w.heap.size _ ?hgA ?htA ?hfA (nR _)).mono ?_;case hgA=>rw[World.cell?_alloc_lt _ _ ⟨0,0,none⟩ (by simp),World.cell?_alloc_lt _ _ ⟨0,0,none⟩ hlt];exact hg
 case htA=>rw[World.cell?_alloc_lt _ _ ⟨w.heap.size,0,none⟩ (by simp)];simp
 case hfA=>rw[World.frozen?_alloc_old _ _ ⟨w.heap.size,0,none⟩ (by simp)];simp
 rintro ev w1⟨rfl,hc1,hb1⟩;have hbw:=((eD).alloc (by simp) _).trans hb1;have d0:=cL hbw h0;have d1:=cL hbw h1;clear hb1;go_upto_region 6 with fail;go_quiet (fail);go_wp2;go_ret2;exact⟨rfl,hbw.os,hbw.tape,hbw.output,hbw.size,hbw.block⟩
def Cc(i:ki):LU:=l7 (i.ws.map Wd.atoms)++[10]
def fv(st:List aU):LU:=(st.map λs=>(s.ins.map Cc).flatten).flatten
def sC(st:List aU):Nat:=(st.map λs=>(s.ins.map λi=>pD (i.ws.map Wd.atoms)+1).sum).sum
theorem yX(l:List aw):(l.map aw.wd).map Wd.atoms=l.map aw.xs:=by rw[List.map_map];rfl
theorem CR(ss:List ax):eb ss=fv (ss.map ax.stg):=by
 unfold eb fv;rw[List.map_map];congr 1;refine List.map_congr_left λs _=>?_;show pR s.ins=((s.ins.map cA.ins).map Cc).flatten;unfold pR;rw[List.map_map];congr 1;refine List.map_congr_left λm _=>?_;show l7 _++[10]=l7 ((m.ws.map aw.wd).map Wd.atoms)++[10]
 rw[yX]
theorem Et(ss:List ax):Mu ss=sC (ss.map ax.stg):=by unfold Mu sC;rw[List.map_map];congr 1;refine List.map_congr_left λs _=>?_;show LT s.ins=((s.ins.map cA.ins).map λi=>pD (i.ws.map Wd.atoms)+1).sum;unfold LT;rw[List.map_map];congr 1;refine List.map_congr_left λm _=>?_;show pD _+1=pD ((m.ws.map aw.wd).map Wd.atoms)+1;rw[yX]
theorem JM(w:World):(binOp BinOp.neq 45 .nilIface .nilIface).run prog w=.ok (.bool false) w:=by kernel_rfl
theorem Hu(v:Value)(w:World):(binOp BinOp.neq 45 (.iface 64 v) .nilIface).run prog w=.ok (.bool true) w:=by kernel_rfl
def rt(w':World)(ev:Ending)(r:lW (List aU)):Prop:=match r with
 |.error (e,p)=>∃a:Nat,ev=.returned (.tuple #[.string ⟨#[]⟩,.iface 64 (.pointer (some ⟨a,0,none⟩))])/\w'.heap[a]?=some (.cells #[.int .i64 (e:Int),.int .i64 (p:Int)] 68 (0,0))
 |.ok st=>∃u:BA,ev=.returned (.tuple #[.string u,.nilIface])/\u.data.toList=fv st
theorem Cu(s:BA)(m:Int)(w:World)(hm:w.cell? ⟨1,0,none⟩=some (.int .i64 m))(hg:w.cell? ⟨0,0,none⟩=some (.iface 157 (.agg #[.pointer (some ⟨22,45,none⟩)])))(hz:∀st,aI s.data.toList=.ok st->sC st<=268435456): Cl 12 #[.string s] w λev w'=>rt w' ev (aI s.data.toList)/\Bw w w':=by
 have hR:=read_any s m w hm hg;cases hp:aI s.data.toList with
 |error ep=>
  obtain⟨e,p⟩:=ep;rw[hp]at hR;unfold nF at hR;have hn:=λv=>Hu v;clear hz hp hm hg;go_enter func12,ntmps12;go_wp2_with (go_at_call 21;refine hR.mono ?_;clear hR;rintro ev w2⟨⟨a,rfl,hc⟩,hb2⟩)
  go_ret2;exact⟨⟨a,rfl,hc⟩,hb2⟩
 |ok st=>
  have hzs:=hz st hp;rw[hp]at hR;unfold nF at hR;have hn:=JM;have hF:=λB fb sv ss w' (h:aQ w' B fb sv ss) (he:ss.map ax.stg=st)=>Dr B fb sv ss w' h (by rw[Et,he];exact hzs);clear hz hp hm hg;go_enter func12,ntmps12;go_wp2_with (first|(go_at_call 21;refine hR.mono ?_;clear hR;rintro ev w2⟨⟨B,fb,sv,ss,rfl,hFM,hst⟩,hb2⟩;have HFM:=ab hFM;have HST:=ab hst;clear hFM hst)|(go_at_call 23;refine(hF _ _ _ _ _ (uh HFM) (uh HST)).mono ?_;clear hF;rintro ev w3⟨⟨u,rfl,hu⟩,hb3⟩))
  go_ret2;exact⟨⟨u,rfl,by rw[hu,CR,uh HST]⟩,hb2.trans (hb3.mono hb2.size)⟩
def oB(ev:Ending)(r:lW (List aU)):Prop:=match r with
 |.error (e,p)=>ev=.returned (.tuple #[.string ⟨#[]⟩,.int .i64 (e:Int),.int .i64 (p:Int)])
 |.ok st=>∃u:BA,ev=.returned (.tuple #[.string u,.int .i64 0,.int .i64 (-1)])/\u.data.toList=fv st
theorem yz(s:BA)(m:Int)(w:World)(hm:w.cell? ⟨1,0,none⟩=some (.int .i64 m))(hg:w.cell? ⟨0,0,none⟩=some (.iface 157 (.agg #[.pointer (some ⟨22,45,none⟩)])))(hz:∀st,aI s.data.toList=.ok st->sC st<=268435456): Cl 6 #[.string s] w λev w'=>oB ev (aI s.data.toList)/\Bw w w':=by
 have hR:=Cu s m w hm hg hz;have HG:=ab hg;cases hp:aI s.data.toList with
 |error ep=>
  obtain⟨e,p⟩:=ep;rw[hp]at hR;unfold rt at hR;clear hz hp hm hg;go_enter func6,ntmps6;go_wp2_with (first|(go_at_call 12;refine hR.mono ?_;clear hR;rintro ev w2⟨⟨a,rfl,hc⟩,hb2⟩;have HC:=ab hc;clear hc)|(go_at_call 13;refine(uD a (e:Int) (p:Int) _ (cL hb2 (uh HG)) (cq 0 (uh HC)) (cq 1 (uh HC))).mono ?_;rintro ev w3⟨rfl,hb3⟩))
  go_ret3;exact⟨rfl,hb2.trans (hb3.mono hb2.size)⟩
 |ok st=>
  rw[hp]at hR;unfold rt at hR;clear hz hp hm hg;go_enter func6,ntmps6;go_wp2_with (first|(go_at_call 12;refine hR.mono ?_;clear hR;rintro ev w2⟨⟨u,rfl,hu⟩,hb2⟩;have HU:=ab hu;clear hu)|(go_at_call 13;refine(yB _).mono ?_;rintro ev w3⟨rfl,hb3⟩))
  go_ret3;exact⟨⟨u,rfl,uh HU⟩,hb2.trans (hb3.mono hb2.size)⟩
def Ko:bM->Nat
 |.inl _=>5
 |.inr (n,_)=>2*n.length+3
def Ag(xs:List bM):Nat:=(xs.map Ko).sum
theorem iB(xs:List bM)(a:bM):Ag (xs++[a])=Ag xs+Ko a:=by simp[Ag]
theorem vP(p:dC):kA [p]=2*p.text.size+3:=by simp[kA]
theorem Eb(xs:List bM):kA (parts xs)<=Ag xs:=by
 induction xs using lS with
 |h0=>simp[parts,kA,Ag]
 |h1 xs a ih=>
  rw[dJ,iB];cases a with
  |inr pA=>
   obtain⟨n,k⟩:=pA
   show kA (parts xs++[⟨bt n,true,(k:Int)⟩])<=Ag xs+(2*n.length+3)
   rw[m9,vP,bF];omega
  |inl c=>
   show kA (lU (parts xs) (bt [c]))<=Ag xs+5;have hb:(bt [c]).size=1:=bF [c];rcases eR (parts xs)with hc|⟨qs,q,he,hq⟩
   .rw[iC (by
     rintro q hq;rcases hc with h|⟨qs,r,h,hr⟩
     .rw[h]at hq;cases hq
     rw[h]at hq;simp at hq;subst hq;exact hr),m9,vP]
    simp only;omega
   rw[he]at ih⊢;rw[jb hq];rw[m9,vP]at ih⊢;simp only[ByteArray.size_append];omega
theorem Ht{l:LU}{k t:Nat}{n:LU}(h:ie l k=some (n,t))(_:k<t):2*n.length+3<=5*(t-k):=by
 unfold ie at h;simp only at h;split at h
 .split at h
  .cases h
  injection h with h;injection h with h1 h2;have hl:n.length<=aC (l.drop (k+2)):=by rw[<-h1,List.length_take];omega
  omega
 split at h
 .cases h
 injection h with h;injection h with h1 h2;have hl:n.length<=aC (l.drop (k+1)):=by rw[<-h1,List.length_take];omega
 omega
theorem Mo(l:LU)(i n:Nat):∀(k:Nat) (acc a:List bM) (t:Nat),l.length-k<=n->dU l i acc k=.ok (a,t)->k<t/\Ag a<=Ag acc+5*(t-k):=by
 induction n with
 |zero=>intro k acc a t hn h;rw[ff (List.getElem?_eq_none_iff.2 (by omega))]at h;cases h
 |succ n ih=>
  intro k acc a t hn h;cases hc:l[k]? with
  |none=>rw[ff hc]at h;cases h
  |some c=>
   have hlt:=(gL hc)
   rw[jH hc]at h;split at h
   .cases h
   split at h
   .injection h with h;injection h with h1 h2;subst h1 h2;exact⟨by omega,by omega⟩
   split at h
   .split at h
    .cases h
    rename_i m u hv;split at h
    .rename_i hu;have:=ih _ _ _ _ (by omega) h;have hw:=Ht hv hu;rw[iB]at this;have hA:Ko (.inr (m,k))=2*m.length+3:=rfl;exact⟨by omega,by omega⟩
    cases h
   split at h
   .split at h
    .cases h
    split at h
    .have:=ih _ _ _ _ (by omega) h;rw[iB]at this;rename_i d _ _;have hA:Ko (.inl d)=5:=rfl;exact⟨by omega,by omega⟩
    cases h
   have:=ih _ _ _ _ (by omega) h;rw[iB]at this;have hA:Ko (.inl c)=5:=rfl;exact⟨by omega,by omega⟩
theorem Li(l:LU)(n:Nat):∀(k:Nat) (acc a:List bM) (t:Nat),l.length-k<=n->cP l acc k=.ok (a,t)->k<=t/\Ag a<=Ag acc+5*(t-k):=by
 induction n with
 |zero=>intro k acc a t hn h;rw[eK (dk (List.getElem?_eq_none_iff.2 (by omega)))]at h;injection h with h;injection h with h1 h2;subst h1 h2;exact⟨by omega,by omega⟩
 |succ n ih=>
  intro k acc a t hn h;cases he:iJ l k with
  |true=>rw[eK he]at h;injection h with h;injection h with h1 h2;subst h1 h2;exact⟨by omega,by omega⟩
  |false=>
   cases hc:l[k]? with
   |none=>rw[dk hc]at he;cases he
   |some c=>
    have hlt:=(gL hc)
    rw[dN hc he]at h;split at h
    .split at h
     .cases h
     rename_i b u hq;have hqw:=Mo l k _ _ _ _ _ (nR _) hq;split at h
     .have:=ih _ _ _ _ (by omega) h;exact⟨by omega,by omega⟩
     cases h
    split at h
    .split at h
     .cases h
     rename_i m u hv;split at h
     .rename_i hu;have:=ih _ _ _ _ (by omega) h;have hw:=Ht hv hu;rw[iB]at this;have hA:Ko (.inr (m,k))=2*m.length+3:=rfl;exact⟨by omega,by omega⟩
     cases h
    split at h
    .split at h
     .cases h
     rename_i d _;have:=ih _ _ _ _ (by omega) h;rw[iB]at this;have hA:Ko (.inl d)=5:=rfl;exact⟨by omega,by omega⟩
    have:=ih _ _ _ _ (by omega) h;rw[iB]at this;have hA:Ko (.inl c)=5:=rfl;exact⟨by omega,by omega⟩
def En(ws:List Wd):Nat:=(ws.map λx=>Ag x.atoms+3).sum
theorem Fl(ws:List Wd)(x:Wd):En (ws++[x])=En ws+(Ag x.atoms+3):=by simp[En]
theorem Lc(ws:List Wd):pD (ws.map Wd.atoms)<=En ws:=by
 induction ws with
 |nil=>simp[pD,En]
 |cons a r ih=>
  have h1:pD ((a::r).map Wd.atoms)=kA (parts a.atoms)+3+pD (r.map Wd.atoms):=by simp[pD]
  have h2:En (a::r)=Ag a.atoms+3+En r:=by simp[En]
  rw[h1,h2];have:=Eb a.atoms;omega
theorem KS(l:LU)(n:Nat):∀(k:Nat) (ws ws':List Wd) (t:Nat),l.length-k<=n->bE l ws k=.ok (ws',t)->k<=t/\En ws'<=En ws+8*(t-k):=by
 induction n with
 |zero=>intro k ws ws' t hn h;rw[ez (List.getElem?_eq_none_iff.2 (by omega))]at h;injection h with h;injection h with h1 h2;subst h1 h2;exact⟨by omega,by omega⟩
 |succ n ih=>
  intro k ws ws' t hn h;cases hc:l[k]? with
  |none=>rw[ez hc]at h;injection h with h;injection h with h1 h2;subst h1 h2;exact⟨by omega,by omega⟩
  |some c=>
   have hlt:=(gL hc)
   rw[iA hc]at h;split at h
   .injection h with h;injection h with h1 h2;subst h1 h2;exact⟨by omega,by omega⟩
   split at h
   .have:=ih _ _ _ _ (by omega) h;exact⟨by omega,by omega⟩
   split at h
   .have:=ih _ _ _ _ (by omega) h;exact⟨by omega,by omega⟩
   split at h
   .rename_i h35;have hcm:k<kr l k:=qK (by rw[hc,h35.1]);have:=ih _ _ _ _ (by omega) h;exact⟨by omega,by omega⟩
   split at h
   .cases h
   rename_i a u hw;have hww:=Li l _ _ _ _ _ (nR _) hw;split at h
   .have:=ih _ _ _ _ (by omega) h;rw[Fl]at this;have h0:Ag ([]:List bM)=0:=rfl;simp only at this;exact⟨by omega,by omega⟩
   cases h
theorem qG(st:List aU)(s:aU):sC (st++[s])=sC st+(s.ins.map λi=>pD (i.ws.map Wd.atoms)+1).sum:=by simp[sC]
theorem IP{st st':List aU}{ws:List Wd}{k:Int}(h:ba st ws=.ok (st',k)):sC st'=sC st:=by
 unfold ba at h;split at h
 .cases h
 split at h
 .cases h
 split at h
 .cases h
 split at h
 .cases h
 injection h with h;injection h with h _;rw[<-h,qG];simp
theorem Ka{st st':List aU}{ws:List Wd}{k:Int}(h:bC st ws=.ok (st',k)):st'=st:=by
 unfold bC at h;split at h
 .split at h
  .cases h
  injection h with h;injection h with h _;exact h.symm
 split at h
 .cases h
 split at h
 .cases h
 split at h
 .cases h
 injection h with h;injection h with h _;exact h.symm
theorem JW{op:Nat}{st st':List aU}{ws:List Wd}{k:Int}(h:br op st ws=.ok (st',k)):sC st'=sC st:=by
 unfold br at h;split at h
 .exact IP h
 .rw[Ka h]
 .split at h
  .injection h with h;injection h with h _;rw[h]
  split at h
  .split at h
   .injection h with h;injection h with h _;rw[h]
   cases h
  cases h
 .split at h
  .split at h
   .injection h with h;injection h with h _;rw[h]
   cases h
  cases h
 injection h with h;injection h with h _;rw[h]
theorem LW(st:List aU)(i:ki):sC (di st i)<=sC st+(pD (i.ws.map Wd.atoms)+1):=by
 unfold di;cases hl:st.getLast? with
 |none=>simp only;omega
 |some s=>
  have hst:st=st.dropLast++[s]:=by
   have hne:st≠[]:=by rintro rfl;cases hl
   have h1:=List.dropLast_concat_getLast hne;rw[List.getLast?_eq_some_getLast hne]at hl;injection hl with hl;rw[hl]at h1;exact h1.symm
  simp only;have h2:sC st=sC st.dropLast+(s.ins.map λi=>pD (i.ws.map Wd.atoms)+1).sum:=by
   conv=>lhs;rw[hst]
   exact qG _ _
  rw[qG,h2];simp;omega
theorem Jd{st st':List aU}{ws:List Wd}(h:bB st ws=.ok st'):sC st'<=sC st+(En ws+1):=by
 unfold bB at h;split at h
 .cases h
 split at h
 .cases h
 split at h
 .cases h
 rename_i st1 k hr;split at h
 .cases h
 split at h
 .cases h
 injection h with h;have h1:=LW st1 ⟨ws,k⟩;rw[h]at h1;have h2:=JW hr;have h3:=Lc ws;simp only at h1;omega
theorem Lp{l:LU}{k t:Nat}{n:LU}(h:ie l k=some (n,t)):t<=l.length:=by
 unfold ie at h;simp only at h;split at h
 .rename_i hb;split at h
  .cases h
  rename_i hn;injection h with h;injection h with h1 h2;have h3:=nL (l.drop (k+2));rw[List.length_drop]at h3;have h4:l[k+2+aC (l.drop (k+2))]?=some 125:=by refine Classical.byContradiction λhc=>hn (.inr (.inr ⟨hb,hc⟩))
  have h5:=(gL h4)
  omega
 split at h
 .cases h
 rename_i hn;injection h with h;injection h with h1 h2;have h3:=nL (l.drop (k+1));rw[List.length_drop]at h3;omega
theorem LR(l:LU)(i n:Nat):∀(k:Nat) (acc a:List bM) (t:Nat),l.length-k<=n->dU l i acc k=.ok (a,t)->t<=l.length:=by
 induction n with
 |zero=>intro k acc a t hn h;rw[ff (List.getElem?_eq_none_iff.2 (by omega))]at h;cases h
 |succ n ih=>
  intro k acc a t hn h;cases hc:l[k]? with
  |none=>rw[ff hc]at h;cases h
  |some c=>
   have hlt:=(gL hc)
   rw[jH hc]at h;split at h
   .cases h
   split at h
   .injection h with h;injection h with h1 h2;subst h1 h2;omega
   split at h
   .split at h
    .cases h
    rename_i m u hv;split at h
    .rename_i hu;exact ih _ _ _ _ (by omega) h
    cases h
   split at h
   .split at h
    .cases h
    split at h
    .exact ih _ _ _ _ (by omega) h
    cases h
   exact ih _ _ _ _ (by omega) h
theorem Mm(l:LU)(n:Nat):∀(k:Nat) (acc a:List bM) (t:Nat),k<=l.length->l.length-k<=n->cP l acc k=.ok (a,t)->t<=l.length:=by
 induction n with
 |zero=>intro k acc a t hkl hn h;rw[eK (dk (List.getElem?_eq_none_iff.2 (by omega)))]at h;injection h with h;injection h with h1 h2;subst h1 h2;exact hkl
 |succ n ih=>
  intro k acc a t hkl hn h;cases he:iJ l k with
  |true=>rw[eK he]at h;injection h with h;injection h with h1 h2;subst h1 h2;exact hkl
  |false=>
   cases hc:l[k]? with
   |none=>rw[dk hc]at he;cases he
   |some c=>
    have hlt:=(gL hc)
    rw[dN hc he]at h;split at h
    .split at h
     .cases h
     rename_i b u hq;have hql:=LR l k _ _ _ _ _ (nR _) hq;split at h
     .exact ih _ _ _ _ hql (by omega) h
     cases h
    split at h
    .split at h
     .cases h
     rename_i m u hv;split at h
     .exact ih _ _ _ _ (Lp hv) (by omega) h
     cases h
    split at h
    .split at h
     .cases h
     rename_i d hd;have hd2:=(gL hd)
     exact ih _ _ _ _ (by omega) (by omega) h
    exact ih _ _ _ _ (by omega) (by omega) h
theorem KU(l:LU)(n:Nat):∀(k:Nat) (ws ws':List Wd) (t:Nat),k<=l.length->l.length-k<=n->bE l ws k=.ok (ws',t)->t<=l.length:=by
 induction n with
 |zero=>intro k ws ws' t hkl hn h;rw[ez (List.getElem?_eq_none_iff.2 (by omega))]at h;injection h with h;injection h with h1 h2;subst h1 h2;exact hkl
 |succ n ih=>
  intro k ws ws' t hkl hn h;cases hc:l[k]? with
  |none=>rw[ez hc]at h;injection h with h;injection h with h1 h2;subst h1 h2;exact hkl
  |some c=>
   have hlt:=(gL hc)
   rw[iA hc]at h;split at h
   .injection h with h;injection h with h1 h2;subst h1 h2;omega
   split at h
   .rename_i hg;have hg2:k+1<l.length:=by unfold ct at hg;simp only[bA,beq_iff_eq]at hg;exact(gL hg.2)
    exact ih _ _ _ _ (by omega) (by omega) h
   split at h
   .exact ih _ _ _ _ (by omega) (by omega) h
   split at h
   .rename_i h35;have hcm:=qK (by rw[hc,h35.1]);exact ih _ _ _ _ (vT hkl) (by omega) h
   split at h
   .cases h
   rename_i a u hw;have hwl:=Mm l _ _ _ _ _ hkl (nR _) hw;split at h
   .exact ih _ _ _ _ hwl (by omega) h
   cases h
theorem IU(l:LU)(n:Nat):∀(k:Nat) (st st':List aU),l.length-k<=n->bU l st k=.ok st'->sC st'<=sC st+9*(l.length-k):=by
 induction n with
 |zero=>
  intro k st st' hn h;rw[eG (by omega)]at h;split at h
  .cases h
  injection h with h;subst h;omega
 |succ n ih=>
  intro k st st' hn h;by_cases hk:k<l.length
  .cases hl:bE l [] k with
   |error e=>rw[kZ hk hl]at h;cases h
   |ok x=>
    obtain⟨ws,t⟩:=x;have h1:=KS l _ _ _ _ _ (nR _) hl;have h2:=KU l _ _ _ _ _ (Nat.le_of_lt hk) (nR _) hl;have h0:En []=0:=rfl;by_cases ht:k<t
    .by_cases hw:ws=[]
     .subst hw;rw[jE hk hl ht]at h;have:=ih _ _ _ (by omega) h;omega
     rw[gX hk hl ht hw]at h;cases htk:bB st ws with
     |error e=>rw[htk]at h;cases h
     |ok st1=>rw[htk]at h;have h3:=Jd htk;have:=ih _ _ _ (by omega) h;omega
    rw[bU,if_pos hk,hl]at h;simp only at h;rw[dif_neg ht]at h;cases h
  rw[eG hk]at h;split at h
  .cases h
  injection h with h;subst h;omega
theorem ym{l:LU}{st:List aU}(h:aI l=.ok st):sC st<=13500:=by
 unfold aI at h;split at h
 .cases h
 split at h
 .cases h
 have:=IU l _ _ _ _ (nR _) h;have h0:sC []=0:=rfl;omega
theorem pK(s:BA)(m:Int)(w:World)(hm:w.cell? ⟨1,0,none⟩=some (.int .i64 m))(hg:w.cell? ⟨0,0,none⟩=some (.iface 157 (.agg #[.pointer (some ⟨22,45,none⟩)]))): Cl 6 #[.string s] w λev w'=>oB ev (aI s.data.toList)/\Bw w w':= yz s m w hm hg λ_ h=>nT (ym h) (by decide)
end Go.Proofs.YtjhobnjdfhkohaaGreatDoor
namespace Go.Proofs.YtjhobnjdfhkohaaGreatDoor
open Go.Proofs.Tryz
open Go.RowKit
def wg:bM->LU
 |.inl c=>fa c
 |.inr (n,_)=>[36,123]++n++[125]
def gq(xs:List bM):LU:=(xs.map wg).flatten
def dI(xs:List bM):LU:=if xs=[] then [34,34] else gq xs
theorem KG(a:bM):wg a≠[]:=by
 cases a with
 |inl c=>show fa c≠[];unfold fa;split<;>simp
 |inr pA=>obtain⟨n,k⟩:=pA;show [36,123]++n++[125]≠[];simp
theorem G4{xs:List bM}:gq xs=[]↔xs=[]:=by
 constructor
 .intro h;cases xs with
  |nil=>rfl
  |cons a r=>have h2:=h;exact absurd (List.append_eq_nil_iff.1 h2).1 (KG a)
 intro h;rw[h];rfl
theorem zy(a b:LU):bQ (a++b)=bQ a++bQ b:=by simp[bQ]
theorem jR(a b:List dC):bP (a++b)=bP a++bP b:=by simp[bP]
def LF(l:List dC):Prop:=∀p∈l,p.isVar=false->p.text.data.toList≠[]
theorem sl(xs:List bM):LF (parts xs)/\bP (parts xs)=gq xs:=by
 induction xs using lS with
 |h0=>exact⟨λp hp=>by simp[parts]at hp,rfl⟩
 |h1 xs a ih=>
  obtain⟨hf,he⟩:=ih;rw[dJ];have hat:gq (xs++[a])=gq xs++wg a:=by simp[gq]
  rw[hat,<-he];cases a with
  |inr pA=>
   obtain⟨n,k⟩:=pA
   show LF (parts xs++[⟨bt n,true,(k:Int)⟩])/\bP (parts xs++[⟨bt n,true,(k:Int)⟩])=_;refine⟨λp hp=>?_,?_⟩
   .rcases mA.1 hp with hp|hp
    .exact hf p hp
    rw[List.mem_singleton]at hp;subst hp;intro h;cases h
   rw[jR];congr 1;simp[bP,jK,wg,aK]
  |inl c=>
   show LF (lU (parts xs) (bt [c]))/\bP (lU (parts xs) (bt [c]))=_;rcases eR (parts xs)with hc|⟨qs,q,hq,hv⟩
   .rw[iC (by
     rintro q hq;rcases hc with h|⟨qs,r,h,hr⟩
     .rw[h]at hq;cases hq
     rw[h]at hq;simp at hq;subst hq;exact hr)]
    refine⟨λp hp=>?_,?_⟩
    .rcases mA.1 hp with hp|hp
     .exact hf p hp
     rw[List.mem_singleton]at hp;subst hp;intro _;rw[aK];simp
    rw[jR];congr 1;simp[bP,jK,kh,bQ,aK,wg]
   rw[hq]at hf⊢;rw[jb hv];have hqn:=hf q (by simp) hv;refine⟨λp hp=>?_,?_⟩
   .rcases mA.1 hp with hp|hp
    .exact hf p (by simp[hp])
    rw[List.mem_singleton]at hp;subst hp;intro _;simp[hqn]
   rw[jR,jR,aA];congr 1;simp only[bP,List.map_cons,List.map_nil,List.flatten_cons,List.flatten_nil,List.append_nil];unfold jK;simp only[hv];have h1:(q.text++bt [c]).data.toList=q.text.data.toList++[c]:=by simp[bt]
   rw[h1];simp only[Bool.false_eq_true,if_false];unfold kh;rw[if_neg hqn,if_neg (by simp[hqn]),zy];congr 1;simp[bQ,wg]
theorem tN{xs:List bM}:parts xs=[]↔xs=[]:=by
 constructor
 .intro h;have:=(sl xs).2;rw[h]at this;exact G4.1 this.symm
 intro h;rw[h];rfl
theorem Kf(xs:List bM):gx (parts xs)=dI xs:=by
 unfold gx dI;by_cases h:xs=[]
 .rw[if_pos (tN.2 h),if_pos h]
 rw[if_neg (λe=>h (tN.1 e)),if_neg h,(sl xs).2]
def js:bM->Prop
 |.inl c=>c≠10/\iK c=true
 |.inr (n,_)=>aC n=n.length/\n≠[]/\n.length<=10
def bare:bM->bM
 |.inl c=>.inl c
 |.inr (n,_)=>.inr (n,0)
theorem bh{l p r:LU}{k:Nat}(h:l.drop k=p++r)(i:Nat)(hi:i<p.length):l[k+i]?=p[i]?:=by rw[<-List.getElem?_drop,h,List.getElem?_append_left hi]
theorem lE{l p r:LU}{k:Nat}(h:l.drop k=p++r):l.drop (k+p.length)=r:=by rw[<-List.drop_drop,h,List.drop_left]
theorem Kt{n:LU}(h:aC n=n.length)(h0:n≠[]):∀c∈n,c9 c=true:=by
 cases n with
 |nil=>exact absurd rfl h0
 |cons a r=>
  unfold aC at h;simp only at h;split at h
  .have h2:(a::r).takeWhile c9=a::r:=(List.takeWhile_prefix c9).eq_of_length h;intro c hc;have h3:((a::r).takeWhile c9).all c9=true:=List.all_takeWhile;rw[h2]at h3;exact List.all_eq_true.1 h3 c hc
  simp at h
theorem Km{n r:LU}(h:aC n=n.length)(h0:n≠[]):aC (n++125::r)=n.length:=by
 have hall:=Kt h h0;cases n with
 |nil=>exact absurd rfl h0
 |cons a t=>
  unfold aC at h⊢;simp only[List.cons_append]at h⊢;split at h
  .rename_i ha;rw[if_pos ha,show a::(t++125::r)=(a::t)++125::r from rfl,List.takeWhile_append_of_pos hall,List.takeWhile_cons_of_neg (by decide)];simp
  simp at h
theorem EM{l n r:LU}{k:Nat}(h:l.drop k=[36,123]++n++[125]++r)(h1:aC n=n.length)(h2:n≠[])(h3:n.length<=10):ie l k=some (n,k+(n.length+3)):=by
 have e1:l[k+1]?=some 123:=by have:=bh (p:=[36,123]) (r:=n++[125]++r) (by rw[h];simp) 1 (by simp);simpa using this
 have e2:l.drop (k+2)=n++125::r:=by have:=lE (p:=[36,123]) (r:=n++[125]++r) (by rw[h];simp);simpa using this
 have e3:l[k+2+n.length]?=some 125:=by rw[<-List.getElem?_drop,e2,List.getElem?_append_right (nR _)];simp
 have hn:=List.length_pos_iff.2 h2;unfold ie;simp only[e1,beq_self_eq_true,if_true,e2,Km h1 h2,e3,ne_eq,not_true_eq_false,and_false,or_false];rw[if_neg (by omega),List.take_left']
 .simp;omega
 rfl
theorem BV:∀n:Nat,n<256->oc n=true->n≠10/\n≠32/\n≠34/\n≠35/\n≠36/\n≠92:=by decide
theorem sj{c:UInt8}{d:Nat}(hd:d<256)(h:c.toNat≠d):c≠UInt8.ofNat d:=λe=>h (by rw[e];simp;omega)
theorem uw{l:LU}{k:Nat}{c:UInt8}(h:l[k]?=some c)(h1:c≠10)(h2:c≠32)(h3:c≠92\/l[k+1]?≠some 10):iJ l k=false:=by
 rw[jJ h];refine dF ?_;rintro(e|e|e)
 .exact h1 e
 .exact h2 e
 unfold ct at e;simp only[bA,beq_iff_eq]at e;rcases h3 with h3|h3
 .rw[h]at e;exact h3 (Option.some.inj e.1)
 exact h3 e.2
def zr(r:LU):Prop:=r=[]\/∃c t,r=c::t/\(c=10\/c=32)
theorem yG:∀(xs:List bM) (l:LU) (acc:List bM) (k:Nat) (r:LU),(∀a∈xs,js a)->l.drop k=gq xs++r->zr r->∃ys,cP l acc k=.ok (acc++ys,k+(gq xs).length)/\ys.map bare=xs.map bare:=by
 intro xs;induction xs with
 |nil=>
  intro l acc k r _ hl hr;have hl':=hl;refine⟨[],?_,rfl⟩;rw[eK,List.append_nil]
  .rfl
  rcases hr with rfl|⟨c,t,rfl,hc⟩
  .unfold iJ;have:¬k<l.length:=λh=>by rw[List.drop_eq_getElem_cons h]at hl';cases hl'
   simp[this]
  have hk:l[k]?=some c:=by have:=bh (p:=[c]) (r:=t) hl' 0 (by simp);simpa using this
  rw[jJ hk];refine dT ?_;rcases hc with rfl|rfl
  .exact .inl rfl
  exact .inr (.inl rfl)
 |cons a xs ih=>
  intro l acc k r hok hl hr;have hl2:l.drop k=wg a++(gq xs++r):=by rw[hl];simp[gq]
  have hx:∀b∈xs,js b:=λb hb=>hok b (List.mem_cons_of_mem _ hb);have ha:=hok a (List.mem_cons_self ..);have hlen:(gq (a::xs)).length=(wg a).length+(gq xs).length:=by simp[gq]
  have hrest:=lE hl2;cases a with
  |inr pA=>
   obtain⟨n,j⟩:=pA
   obtain⟨h1,h2,h3⟩:=ha;have hv:=EM (r:=gq xs++r) (by rw[hl2];rfl) h1 h2 h3;have hk:l[k]?=some 36:=by have:=bh hl2 0 (by simp[wg]);simpa[wg]using this
   have hz:(wg (.inr (n,j))).length=n.length+3:=by simp[wg]
   rw[hz]at hrest hlen;obtain⟨ys,hy,hb⟩:=ih l (acc++[.inr (n,k)]) (k+(n.length+3)) r hx hrest hr;refine⟨.inr (n,k)::ys,?_,?_⟩
   .rw[dN hk (uw hk (by decide) (by decide) (.inl (by decide))),if_neg (by decide),if_pos rfl,hv];simp only;rw[if_pos (by omega),hy,hlen];simp[Nat.add_assoc]
   simp[hb,bare]
  |inl c=>
   have hc10:c≠10:=ha.1;by_cases hu:oc c.toNat=true
   .have hF:wg (.inl c)=[c]:=by show fa c=[c];unfold fa;rw[if_pos hu]
    obtain⟨n1,n2,n3,n4,n5,n6⟩:=BV c.toNat c.toNat_lt hu;rw[hF]at hl2 hrest hlen;have hk:l[k]?=some c:=by have:=bh hl2 0 (by simp);simpa using this
    have q2:c≠32:=sj (d:=32) (by decide) n2;have q3:c≠34:=sj (d:=34) (by decide) n3;have q5:c≠36:=sj (d:=36) (by decide) n5;have q6:c≠92:=sj (d:=92) (by decide) n6;obtain⟨ys,hy,hb⟩:=ih l (acc++[.inl c]) (k+1) r hx hrest hr;refine⟨.inl c::ys,?_,?_⟩
    .rw[dN hk (uw hk hc10 q2 (.inl q6)),if_neg q3,if_neg q5,if_neg q6,hy,hlen];simp[Nat.add_assoc]
    simp[hb,bare]
   have hF:wg (.inl c)=[92,c]:=by show fa c=[92,c];unfold fa;rw[if_neg hu]
   rw[hF]at hl2 hrest hlen;have hk:l[k]?=some 92:=by have:=bh hl2 0 (by simp);simpa using this
   have hk1:l[k+1]?=some c:=by have:=bh hl2 1 (by simp);simpa using this
   obtain⟨ys,hy,hb⟩:=ih l (acc++[.inl c]) (k+2) r hx hrest hr;refine⟨.inl c::ys,?_,?_⟩
   .rw[dN hk (uw hk (by decide) (by decide) (.inr (by rw[hk1];intro e;exact hc10 (Option.some.inj e)))),if_neg (by decide),if_neg (by decide),if_pos rfl,hk1];simp only;rw[hy,hlen];simp[Nat.add_assoc]
   simp[hb,bare]
theorem qf{d:LU}(hn0:aC d≠0)(hn1:aC d<=10):aC (d.take (aC d))=(d.take (aC d)).length/\d.take (aC d)≠[]/\(d.take (aC d)).length<=10:=by
 cases d with
 |nil=>exact absurd rfl hn0
 |cons a r=>
  have hcap:iF a=true:=by
   by_cases hc:iF a=true
   .exact hc
   unfold aC at hn0;simp only at hn0;rw[if_neg hc]at hn0;exact absurd rfl hn0
  have hN:aC (a::r)=((a::r).takeWhile c9).length:=by unfold aC;simp only;rw[if_pos hcap]
  have hT:(a::r).take (aC (a::r))=(a::r).takeWhile c9:=by rw[hN];exact(List.prefix_iff_eq_take.1 (List.takeWhile_prefix _)).symm
  have ha:c9 a=true:=by unfold c9;rw[hcap];rfl
  rw[hT];have hall:∀c∈(a::r).takeWhile c9,c9 c=true:=List.all_eq_true.1 List.all_takeWhile;refine⟨?_,by rw[List.takeWhile_cons_of_pos ha];simp,by rw[<-hN];exact hn1⟩;rw[List.takeWhile_cons_of_pos ha]at hall⊢;unfold aC;simp only;rw[if_pos hcap];have h5:=List.takeWhile_append_of_pos (l₂:=[]) hall;rw[List.append_nil,List.takeWhile_nil,List.append_nil]at h5;rw[h5]
theorem K6{l n:LU}{k t:Nat}(h:ie l k=some (n,t)):aC n=n.length/\n≠[]/\n.length<=10:=by
 unfold ie at h;generalize (l[k+1]?==some 123)=b at h;cases b
 .simp only[Bool.false_eq_true,if_false]at h;split at h
  .cases h
  rename_i hn;injection h with h;injection h with h _;subst h;exact qf (λe=>hn (.inl e)) (Nat.not_lt.1 λe=>hn (.inr (.inl e)))
 simp only[if_true]at h;split at h
 .cases h
 rename_i hn;injection h with h;injection h with h _;subst h;exact qf (λe=>hn (.inl e)) (Nat.not_lt.1 λe=>hn (.inr (.inl e)))
theorem uC{l:LU}(hm:∀c∈l,iK c=true){k:Nat}{c:UInt8}(h:l[k]?=some c):iK c=true:=hm c (mG h)
theorem BU{acc:List bM}{a:bM}(h:∀x∈acc,js x)(ha:js a):∀x∈acc++[a],js x:=λx hx=>by
 rcases mA.1 hx with hx|hx
 .exact h x hx
 rw[List.mem_singleton.1 hx];exact ha
theorem pW{acc:List bM}{c:UInt8}(h:∀x∈acc,js x)(h1:c≠10)(h2:iK c=true):∀x∈acc++[.inl c],js x:=BU (a:=.inl c) h ⟨h1,h2⟩
theorem F4{acc:List bM}{n l:LU}{k t:Nat}(h:∀x∈acc,js x)(hv:ie l k=some (n,t)):∀x∈acc++[.inr (n,k)],js x:=BU (a:=.inr (n,k)) h (K6 hv)
theorem LA{l:LU}(hm:∀c∈l,iK c=true)(i n:Nat):∀(k:Nat) (acc a:List bM) (t:Nat),l.length-k<=n->(∀x∈acc,js x)->dU l i acc k=.ok (a,t)->∀x∈a,js x:=by
 induction n with
 |zero=>intro k acc a t hn _ h;rw[ff (List.getElem?_eq_none_iff.2 (by omega))]at h;cases h
 |succ n ih=>
  intro k acc a t hn hacc h;cases hc:l[k]? with
  |none=>rw[ff hc]at h;cases h
  |some c=>
   have hlt:=(gL hc)
   rw[jH hc]at h;split at h
   .cases h
   rename_i h10;split at h
   .injection h with h;injection h with h _;subst h;exact hacc
   split at h
   .split at h
    .cases h
    rename_i nm tt hv;split at h
    .exact ih _ _ _ _ (by omega) (F4 hacc hv) h
    cases h
   split at h
   .split at h
    .cases h
    rename_i d hd;split at h
    .rename_i he;exact ih _ _ _ _ (by omega) (pW hacc (λe=>by subst e;exact absurd he (by decide)) (uC hm hd)) h
    cases h
   exact ih _ _ _ _ (by omega) (pW hacc h10 (uC hm hc)) h
theorem LS{l:LU}(hm:∀c∈l,iK c=true)(n:Nat):∀(k:Nat) (acc a:List bM) (t:Nat),l.length-k<=n->(∀x∈acc,js x)->cP l acc k=.ok (a,t)->∀x∈a,js x:=by
 induction n with
 |zero=>intro k acc a t hn hacc h;rw[eK (dk (List.getElem?_eq_none_iff.2 (by omega)))]at h;injection h with h;injection h with h _;subst h;exact hacc
 |succ n ih=>
  intro k acc a t hn hacc h;cases he:iJ l k with
  |true=>rw[eK he]at h;injection h with h;injection h with h _;subst h;exact hacc
  |false=>
   cases hc:l[k]? with
   |none=>rw[dk hc]at he;cases he
   |some c=>
    have hlt:=(gL hc)
    have he2:=he;rw[jJ hc]at he2;have hno:=of_decide_eq_false he2;rw[dN hc he]at h;split at h
    .split at h
     .cases h
     rename_i aa tt hq;split at h
     .exact ih _ _ _ _ (by omega) (LA hm _ _ _ _ _ _ (nR _) hacc hq) h
     cases h
    split at h
    .split at h
     .cases h
     rename_i nm tt hv;split at h
     .exact ih _ _ _ _ (by omega) (F4 hacc hv) h
     cases h
    split at h
    .rename_i h92;split at h
     .cases h
     rename_i d hd;refine ih _ _ _ _ (by omega) (pW hacc (λe=>?_) (uC hm hd)) h;subst e;refine hno (.inr (.inr ?_));unfold ct;rw[hc,h92,hd];rfl
    exact ih _ _ _ _ (by omega) (pW hacc (λe=>hno (.inl e)) (uC hm hc)) h
def Np(x:Wd):Prop:=∀a∈x.atoms,js a
theorem Lw{l:LU}(hm:∀c∈l,iK c=true)(n:Nat):∀(k:Nat) (ws ws':List Wd) (t:Nat),l.length-k<=n->(∀x∈ws,Np x)->bE l ws k=.ok (ws',t)->∀x∈ws',Np x:=by
 induction n with
 |zero=>intro k ws ws' t hn hw h;rw[ez (List.getElem?_eq_none_iff.2 (by omega))]at h;injection h with h;injection h with h _;subst h;exact hw
 |succ n ih=>
  intro k ws ws' t hn hw h;cases hc:l[k]? with
  |none=>rw[ez hc]at h;injection h with h;injection h with h _;subst h;exact hw
  |some c=>
   have hlt:=(gL hc)
   rw[iA hc]at h;split at h
   .injection h with h;injection h with h _;subst h;exact hw
   split at h
   .exact ih _ _ _ _ (by omega) hw h
   split at h
   .exact ih _ _ _ _ (by omega) hw h
   split at h
   .rename_i h35;have:=qK (l:=l) (k:=k) (by rw[hc,h35.1]);exact ih _ _ _ _ (by omega) hw h
   split at h
   .cases h
   rename_i a tt hwd;split at h
   .refine ih _ _ _ _ (by omega) (λx hx=>?_) h;rcases mA.1 hx with hx|hx
    .exact hw x hx
    rw[List.mem_singleton.1 hx];exact LS hm _ _ _ _ _ (nR _) (λx hx=>by cases hx) hwd
   cases h
theorem CO(xs:List bM)(l:LU)(k:Nat)(r:LU)(hx:∀a∈xs,js a)(hl:l.drop k=dI xs++r)(hr:zr r):∃ys,cP l [] k=.ok (ys,k+(dI xs).length)/\ys.map bare=xs.map bare:=by
 unfold dI at hl⊢;split at hl
 .rename_i h0;subst h0;have h1:l[k]?=some 34:=by have:=bh hl 0 (by simp);simpa using this
  have h2:l[k+1]?=some 34:=by have:=bh hl 1 (by simp);simpa using this
  have h3:=lE hl;obtain⟨ys,hy,hb⟩:=yG [] l [] (k+2) r (λa ha=>by cases ha) h3 hr;refine⟨ys,?_,hb⟩;rw[dN h1 (uw h1 (by decide) (by decide) (.inl (by decide))),if_pos rfl,jH h2,if_neg (by decide),if_pos rfl];simp only;rw[if_pos (by omega),hy];simp[gq]
 rename_i h0;rw[if_neg h0];obtain⟨ys,hy,hb⟩:=yG xs l [] k r hx hl hr;exact⟨ys,by rw[hy];simp,hb⟩
theorem Az(xs:List bM)(hx:∀a∈xs,js a):∃c t,dI xs=c::t/\c≠10/\c≠32/\c≠35/\(c=92->∃d u,t=d::u/\d≠10):=by
 unfold dI;split
 .exact⟨34,[34],rfl,by decide,by decide,by decide,λe=>absurd e (by decide)⟩
 cases xs with
 |nil=>rename_i h;exact absurd rfl h
 |cons a r=>
  have ha:=hx a (List.mem_cons_self ..);cases a with
  |inr pA=>obtain⟨n,j⟩:=pA;exact⟨36,_,by simp[gq,wg];rfl,by decide,by decide,by decide,λe=>absurd e (by decide)⟩
  |inl c=>
   by_cases hu:oc c.toNat=true
   .obtain⟨n1,n2,n3,n4,n5,n6⟩:=BV c.toNat c.toNat_lt hu;refine⟨c,gq r,by simp[gq,wg,fa,hu],ha.1,sj (d:=32) (by decide) n2,sj (d:=35) (by decide) n4,λe=>absurd e (sj (d:=92) (by decide) n6)⟩
   exact⟨92,c::gq r,by simp[gq,wg,fa,hu],by decide,by decide,by decide,λ_=>⟨c,gq r,rfl,ha.1⟩⟩
def fk:List (List bM)->LU
 |[]=>[10]
 |[x]=>dI x++[10]
 |x::y::t=>dI x++32::fk (y::t)
theorem FY:∀(ws:List (List bM)) (l:LU) (acc:List Wd) (k:Nat) (r:LU),(∀x∈ws,∀a∈x,js a)->l.drop k=fk ws++r->∃ws',bE l acc k=.ok (acc++ws',k+(fk ws).length)/\ws'.map (λw=>w.atoms.map bare)=ws.map (·.map bare):=by
 intro ws;induction ws with
 |nil=>
  intro l acc k r _ hl;have h1:l[k]?=some 10:=by have:=bh hl 0 (by simp[fk]);simpa[fk]using this
  exact⟨[],by rw[vf h1];simp[fk],rfl⟩
 |cons x t ih=>
  intro l acc k r hok hl;have hx:=hok x (List.mem_cons_self ..);have key:∀rest,l.drop k=dI x++rest->zr rest->rest≠[]->∃ys,bE l acc k=bE l (acc++[⟨ys,k⟩]) (k+(dI x).length)/\ys.map bare=x.map bare/\l.drop (k+(dI x).length)=rest:=λrest h hr _=>by
   obtain⟨c,u,hc,h10,h32,h35,h92⟩:=Az x hx;obtain⟨ys,hy,hb⟩:=CO x l k rest hx h hr;have hk:l[k]?=some c:=by have:=bh h 0 (by rw[hc];simp);rw[hc]at this;simpa using this
   have hg:ct l k=false:=by
    unfold ct;by_cases e:c=92
    .obtain⟨d,v,rfl,hd⟩:=h92 e;have h1:l[k+1]?=some d:=by have:=bh h 1 (by rw[hc];simp);rw[hc]at this;simpa using this
     rw[h1];simp[hd]
    rw[hk];simp[e]
   refine⟨ys,?_,hb,lE h⟩;rw[rM hk h10 ⟨by rw[hk];intro e;exact h32 (Option.some.inj e),hg,λe=>h35 (by have:=e.1;rw[hk]at this;exact Option.some.inj this)⟩,hy];simp only;rw[if_pos (by rw[hc];simp)]
  cases t with
  |nil=>
   obtain⟨ys,h1,h2,h3⟩:=key (10::r) (by rw[hl];simp[fk]) (.inr ⟨10,r,rfl,.inl rfl⟩) (by simp);have h4:l[k+(dI x).length]?=some 10:=by have:=bh (p:=[10]) h3 0 (by simp);simpa using this
   refine⟨[⟨ys,k⟩],?_,by simp[h2]⟩;rw[h1,vf h4];simp[fk,Nat.add_assoc]
  |cons y t=>
   obtain⟨ys,h1,h2,h3⟩:=key (32::(fk (y::t)++r)) (by rw[hl];simp[fk]) (.inr ⟨32,_,rfl,.inr rfl⟩) (by simp);have h4:l[k+(dI x).length]?=some 32:=by have:=bh (p:=[32]) h3 0 (by simp);simpa using this
   have h5:l.drop (k+(dI x).length+1)=fk (y::t)++r:=by have:=lE (p:=[32]) h3;simpa using this
   obtain⟨ws',h6,h7⟩:=ih l (acc++[⟨ys,k⟩]) (k+(dI x).length+1) r (λz hz=>hok z (List.mem_cons_of_mem _ hz)) h5;refine⟨⟨ys,k⟩::ws',?_,by simp[h2,h7]⟩;rw[h1,iA h4,if_neg (by decide),if_neg (by unfold ct;rw[h4];simp),if_pos rfl,h6];simp[fk,Nat.add_assoc];omega
theorem lG:∀ws:List (List bM),fk ws=Lib.join (ws.map dI) [32]++[10]
 |[]=>rfl
 |[x]=>by simp[fk,Lib.join,List.intercalate]
 |x::y::t=>by rw[fk,lG (y::t)];simp[Lib.join,List.intercalate]
theorem Ed(i:ki):Cc i=fk (i.ws.map Wd.atoms):=by rw[lG];unfold Cc l7;rw[show (λx=>gx (parts x))=dI from funext Kf]
def cD(x:Wd):Wd:=⟨x.atoms.map bare,0⟩
def l5(i:ki):ki:=⟨i.ws.map cD,i.stage⟩
def bw(s:aU):aU:=⟨s.name,s.ins.map l5⟩
def xe{α:Type}:lW α->Option α
 |.ok a=>some a
 |.error _=>none
theorem fI:∀xs:List bM,an (xs.map bare)=an xs
 |[]=>rfl
 |.inl c::r=>by simp[an,bare,fI r]
 |.inr (n,k)::r=>rfl
theorem kK(ws:List Wd)(i:Nat):pln (ws.map cD) i=pln ws i:=by
 unfold pln;rw[List.getElem?_map];cases ws[i]? with
 |none=>rfl
 |some x=>exact fI x.atoms
theorem G3(ws:List Wd)(i:Nat):zK (ws.map cD) i=zK ws i:=by
 unfold zK;rw[List.getElem?_map];cases ws[i]? with
 |none=>rfl
 |some x=>show cH (x.atoms.map bare)=cH x.atoms;unfold cH;rw[fI]
theorem CJ(s:aU)(nm:LU):l9 (bw s) nm=l9 s nm:=by unfold l9 bw;simp only[List.any_map];congr 1;funext i;show (pln (i.ws.map cD) 0==some vq&&pln (i.ws.map cD) 1==some nm)=_;rw[kK,kK]
theorem CY(s:aU):j5 (bw s)=j5 s:=by
 unfold j5 bw;cases s.ins with
 |nil=>rfl
 |cons i r=>rfl
theorem rh(st:List aU)(nm:LU):∀(f:Nat) (i:Int),eM (st.map bw) f i nm=eM st f i nm
 |0,_=>rfl
 |f+1,i=>by
  unfold eM;split
  .rfl
  rw[List.getElem?_map];cases st[i.toNat]? with
  |none=>rfl
  |some s=>simp only[Option.map_some];rw[CJ,CY,rh st nm f]
theorem tH(st:List aU)(nm:LU):bf (st.map bw) nm=bf st nm:=by unfold bf;rw[List.findIdx?_map];rfl
theorem Ek(st:List aU):ea (st.map bw)=ea st:=by unfold ea;rw[List.map_map];congr 1;exact List.map_congr_left λs _=>by simp[bw]
theorem lg(set:LU->Bool):∀xs:List bM,(bj set (xs.map bare)).isNone=(bj set xs).isNone
 |[]=>rfl
 |.inl c::r=>by simp only[List.map_cons,bare,bj];exact lg set r
 |.inr (n,k)::r=>by
  simp only[List.map_cons,bare,bj];split
  .exact lg set r
  rfl
theorem py(set:LU->Bool):∀ws:List Wd,(cS set (ws.map cD)).isNone=(cS set ws).isNone
 |[]=>rfl
 |x::r=>by
  have h:=lg set x.atoms;simp only[List.map_cons,cS];show (match bj set (x.atoms.map bare)with|some k=>some k|none=>cS set (r.map cD)).isNone=_;cases h1:bj set (x.atoms.map bare)<;>cases h2:bj set x.atoms<;>rw[h1,h2]at h
  .exact py set r
  .cases h
  .cases h
  rfl
theorem F5(st:List aU)(i:ki):(di st i).map bw=di (st.map bw) (l5 i):=by
 unfold di;rw[List.getLast?_map];cases st.getLast? with
 |none=>rfl
 |some s=>simp only[Option.map_some,List.map_append,List.map_cons,List.map_nil,List.map_dropLast];simp[bw]
theorem Au(ws:List Wd):xe (bp (ws.map cD))=xe (bp ws):=by
 unfold bp;simp only[List.length_map,kK,G3];split
 .rfl
 split
 .rfl
 split
 .cases zK ws 3 with
  |none=>rfl
  |some n=>cases zK ws 1<;>rfl
 cases zK ws 1<;>rfl
theorem Dm(st:List aU)(ws:List Wd):xe (ba (st.map bw) (ws.map cD))=(xe (ba st ws)).map λp=>(p.1.map bw,p.2):=by
 have h:=Au ws;unfold ba;cases h1:bp ws with
 |error e=>
  rw[h1]at h;cases h2:bp (ws.map cD)with
  |error e'=>rfl
  |ok x=>rw[h2]at h;cases h
 |ok x=>
  rw[h1]at h;cases h2:bp (ws.map cD)with
  |error e'=>rw[h2]at h;cases h
  |ok y=>
   rw[h2]at h;have e:y=x:=Option.some.inj h;subst e;obtain⟨b,n⟩:=y;simp only[tH,List.length_map];split
   .rfl
   split
   .rfl
   split
   .rfl
   simp[xe,bw]
theorem Dj(st:List aU)(ws:List Wd):xe (bC (st.map bw) (ws.map cD))=(xe (bC st ws)).map λp=>(p.1.map bw,p.2):=by
 unfold bC;rw[List.getElem?_map];cases ws[1]? with
 |none=>simp only[Option.map_none,List.length_map];split<;>rfl
 |some x=>
  have e:eW (cD x).atoms=eW x.atoms:=by show eW (x.atoms.map bare)=eW x.atoms;unfold eW;rw[fI]
  simp only[Option.map_some,e];cases eW x.atoms with
  |none=>simp only[List.length_map];split<;>rfl
  |some n=>
   simp only[List.length_map,tH];split
   .rfl
   split
   .rfl
   split<;>rfl
theorem Db(op:Nat)(st:List aU)(ws:List Wd):xe (br op (st.map bw) (ws.map cD))=(xe (br op st ws)).map λp=>(p.1.map bw,p.2):=by
 unfold br;split
 .exact Dm st ws
 .exact Dj st ws
 .simp only[List.length_map,kK];split
  .rfl
  cases pln ws 2 with
  |none=>rfl
  |some t=>simp only;split<;>rfl
 .simp only[kK];cases pln ws 1 with
  |none=>rfl
  |some t=>simp only;split<;>rfl
 rfl
theorem uk(st:List aU)(ws:List Wd):xe (bB (st.map bw) (ws.map cD))=(xe (bB st ws)).map (·.map bw):=by
 unfold bB;rw[List.getElem?_map];cases ws[0]? with
 |none=>rfl
 |some x0=>
  have e0:lX (cD x0).atoms=lX x0.atoms:=by show lX (x0.atoms.map bare)=lX x0.atoms;unfold lX;rw[fI]
  simp only[Option.map_some,e0];cases lX x0.atoms with
  |none=>rfl
  |some op=>
   simp only[List.length_map,List.map_eq_nil_iff];split
   .rfl
   have hr:=Db op st ws;cases h1:br op st ws with
   |error e=>
    rw[h1]at hr;cases h2:br op (st.map bw) (ws.map cD)with
    |error e'=>rfl
    |ok x=>rw[h2]at hr;cases hr
   |ok x=>
    rw[h1]at hr;cases h2:br op (st.map bw) (ws.map cD)with
    |error e'=>rw[h2]at hr;cases hr
    |ok y=>
     rw[h2]at hr;have e:=Option.some.inj hr;subst e;obtain⟨s1,k⟩:=x;simp only;have hs:dg (s1.map bw)=dg s1:=by funext nm;unfold dg;rw[List.length_map];exact rh s1 nm _ _
     rw[hs];have hu:=py (dg s1) ws;cases h3:cS (dg s1) (ws.map cD)<;>cases h4:cS (dg s1) ws<;>rw[h3,h4]at hu
     .simp only[Ek];split
      .rfl
      simp only[xe,Option.map_some];rw[F5];rfl
     .cases hu
     .cases hu
     rfl
end Go.Proofs.YtjhobnjdfhkohaaGreatDoor
