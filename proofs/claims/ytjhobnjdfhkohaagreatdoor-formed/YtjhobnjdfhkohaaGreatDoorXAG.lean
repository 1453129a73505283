import Derived.Test.YtjhobnjdfhkohaaGreatDoorXAF
set_option linter.all false
set_option maxHeartbeats 8000000
set_option maxRecDepth 10000
namespace Go.Proofs.YtjhobnjdfhkohaaGreatDoor.T
open Go.Proofs.Tryz
open Go.RowKit Go.Maps
theorem nG{es:List aj}(h:aO es){e:aj}(he:e∈es):bc e=true/\e.path.data.toList≠[]/\isP e.path.data.toList=true:=by have:=h.ent e he;unfold bK at this;simp only[bA,bne_iff_ne,ne_eq]at this;exact⟨this.2,this.1.1,this.1.2⟩
def GO(w:World)(B sb Bs:Nat)(r rs:Nd)(ns nss:List Nd)(work:BA)(ev:Value):Prop:=∀(y:Nd) (d:BA) (W:World),y∈rs::nss->y.ent.kind=1->d.size<=170->ed W B sb r ns work ev->cw W Bs rs nss->Bw w W->
 Cl 172 #[.pointer (some ⟨sb,0,none⟩),.pointer (some ⟨y.nb,0,none⟩),.string d] W λe w'=>bx W w' B sb r ns work ev 100 e (kN (ac ns) (ac nss) y.p d.data.toList)/\Below B W w'/\bm W w'
theorem Ce(sb:Nat)(r:Nd)(ns:List Nd)(work a b:BA)(ev:Value)(ao:OA)(n cap:Nat)(ps:List BA)(stv:OA)(rs:Nd)(nss:List Nd)(B Bs:Nat)(m:Int)(w:World)(h:ed w B sb r ns work ev)(hn:ns.length<=400)(hws:work.size<=1048576)(hW:jD w ao n cap ps)(ha:ps[0]?=some a)(hb:ps[1]?=some b)(hS:cw w Bs rs nss)(HT:Hid (aO (ac nss)))(hm:w.cell? ⟨1,0,none⟩=some (.int .i64 m))(HCB:Hid (GO w B sb Bs r rs ns nss work ev)): Cl 140 #[.pointer (some ⟨sb,0,none⟩),.agg #[.slice ao n cap,.pointer stv,.pointer (some ⟨rs.nb,0,none⟩)]] w λe w'=>ma w' B sb ev e (bC (ac ns) (ac nss) work.data.toList a.data.toList b.data.toList)/\Below B w w'/\bm w w':=by
 obtain⟨g,rfl,cb,hn1,hbl⟩:=hW.at hb;obtain⟨W0,hW0⟩:=aq (w.alloc (.cells #[.slice (some ⟨g,0,none⟩) n cap,.pointer stv,.pointer (some ⟨rs.nb,0,none⟩)] 79));have hb0:=dw hW0;have hc0:=em hW0;have t0:W0.cell? ⟨w.heap.size,0,none⟩=some (.slice (some ⟨g,0,none⟩) n cap):=cq 0 hc0;have t1:W0.cell? ⟨w.heap.size,1,none⟩=some (.pointer stv):=cq 1 hc0;have t2:W0.cell? ⟨w.heap.size,2,none⟩=some (.pointer (some ⟨rs.nb,0,none⟩)):=cq 2 hc0;have hEn:=nO sb work a b (some ⟨g,0,none⟩) n cap ps stv rs nss Bs m W0 (h.below hb0).c1 hws (hW.below hb0) ha hb (hS.below hb0) HT (cL hb0 hm);have hBw:=h.base;have HK:Hid (∀W,Bw W0 W->ed W B sb r ns work ev/\W.cell? ⟨w.heap.size,0,none⟩=some (.slice (some ⟨g,0,none⟩) n cap)/\W.cell? ⟨g,1,none⟩=some (.string b)/\W.cell? ⟨1,0,none⟩=some (.int .i64 m)/\cw W Bs rs nss/\Bw w W):=ab (λW hB=>⟨(h.below hb0).below hB,cL hB (cq 0 hc0),cL hB (cL hb0 cb),cL hB (cL hb0 hm),(hS.below hb0).below hB,hb0.trans (hB.mono hb0.size)⟩);have hes:=cB;have hen:=eQ;have i1:(1:Int)<(n:Int):=by omega
 clear hc0 cb h hS hm hW ha hb hn1;cases hg:gv (ac nss) work.data.toList a.data.toList b.data.toList with
 |error k=>
  rw[hg]at hEn;unfold nP at hEn;have HCG:Hid (bC (ac ns) (ac nss) work.data.toList a.data.toList b.data.toList=.error k):=ab (by unfold bC;rw[hg]);clear hg;go_enter func140,ntmps140;go_upto_region 1 with fail;rw[<-hW0];clear hW0;go_wp2_with (go_at_call 171;refine hEn.mono ?_;clear hEn;rintro e1 w1⟨rfl,hb1⟩)
  go_ret;rw[uh HCG];have hbw:=(uh HK w1 hb1).2.2.2.2.2;exact⟨rfl,hbw.mono hBw,ak hbw⟩
 |ok pd=>
  obtain⟨p,d⟩:=pd;rw[hg]at hEn;unfold nP at hEn;dsimp only at hEn;obtain⟨db,hdb⟩:=aq (bs d);have HDB:Hid (db.data.toList=d):=ab (by rw[hdb,dh]);have hdl:db.size<=170:=by
   rw[zE,uh HDB];unfold gv at hg;split at hg
   .cases hg
   split at hg
   .cases hg
   rename_i d' hd';split at hg
   .injection hg with hg;injection hg with _ hg;subst hg;exact jl hd'
   split at hg
   .cases hg
   injection hg with hg;injection hg with _ hg;subst hg;exact jl hd'
  rw[<-hdb]at hEn;have HG0:=ab hg;clear hg hdb;go_enter func140,ntmps140;go_upto_region 1 with fail;rw[<-hW0];clear hW0;go_upto_region 4 with(go_at_call 171;refine hEn.mono ?_;clear hEn;rintro e1 w1⟨⟨y,hy,hyp,rfl⟩,hb1⟩)
  obtain⟨hst1,u0,ub,um,uM,hbw1⟩:=uh HK w1 hb1;obtain⟨_,_,hy3,_⟩:=uM.all y hy;have z1:w1.cell? ⟨y.nb,1,none⟩=some (.int .i64 y.ent.kind):=cell_of_row w1 y.nb 1 _ _ _ hy3;have HFE:Hid ((if p=[] then some de else nC (ac nss) p)=some y.ent):=ab (by
   split
   .rename_i hp0;rcases mC.1 hy with rfl|hy
    .rw[uM.root]
    exact absurd (hyp.trans hp0) (nG (uh HT) (List.mem_map.2 ⟨y,hy,rfl⟩)).2.1
   rename_i hp0;rcases mC.1 hy with rfl|hy
   .exact absurd (hyp.symm.trans (by rw[Nd.p,uM.root];rfl)) hp0
   rw[<-hyp];exact(uh HT).at (List.mem_map.2 ⟨y,hy,rfl⟩))
  have hD:=cd _ _ _ z1;clear t0 t1 t2;by_cases hk1:y.ent.kind=1
  .have HCG:Hid (bC (ac ns) (ac nss) work.data.toList a.data.toList b.data.toList=iY work.data.toList (kN (ac ns) (ac nss) p d)):=ab (by unfold bC;rw[uh HG0];simp only;rw[uh HFE];simp only;rw[if_pos hk1]);have hC:=uh HCB y db w1 hy hk1 hdl hst1 uM hbw1;rw[dT hk1]at hD;rw[hyp,uh HDB]at hC;clear hst1 u0 ub um uM hy3 z1 hy hyp hk1;cases hq:kN (ac ns) (ac nss) p d with
   |error k=>
    rw[hq]at hC HCG;unfold bx at hC;dsimp only at hC;clear hq;go_wp2_with (first|(go_at_call 102;refine hD.mono ?_;clear hD;rintro e2 w2⟨rfl,hw⟩;obtain rfl:=hw.symm)|(go_at_call 172;refine hC.mono ?_;clear hC;rintro e3 w3⟨rfl,hb3,hx3⟩))
    go_ret;rw[uh HCG];exact⟨rfl,(hbw1.mono hBw).trans hb3,(ak hbw1).trans hx3⟩
   |ok t=>
    rw[hq]at hC HCG;unfold bx at hC;dsimp only at hC;clear hq;go_wp2_with (first|(go_at_call 102;refine hD.mono ?_;clear hD;rintro e2 w2⟨rfl,hw⟩;obtain rfl:=hw.symm)|(go_at_call 172;refine hC.mono ?_;clear hC;rintro e3 w3⟨⟨rfl,ns',h2,h3,h4,h5⟩,hb3,hx3⟩))
    go_ret;rw[uh HCG];exact⟨⟨rfl,r,ns',work,h2,h3,rfl,hws,by omega⟩,(hbw1.mono hBw).trans hb3,(ak hbw1).trans hx3⟩
  have hyn:y∈nss:=by
   rcases mC.1 hy with rfl|hy
   .exact absurd (by rw[uM.root];rfl) hk1
   exact hy
  obtain⟨gg,gp,gi⟩:=nG (uh HT) (List.mem_map.2 ⟨y,hyn,rfl⟩);have HGY:=ab gg;have HYP:=ab hyp;have hyz:y.ent.path.size<=170:=by rw[zE];exact(cR gi).1
  have HNN:Hid (ai p≠[]):=ab (by
   rw[<-hyp];have h1:b9 y.p:=dp (uh HT) hyn;have h2:ai y.p∈prt y.p:=by rw[show prt y.p=prt (al y.p)++[ai y.p] from h1];simp
   exact(je ((cR gi).2.2 _ h2)).2)
  rw[dF hk1]at hD;have HCG0:Hid (bC (ac ns) (ac nss) work.data.toList a.data.toList b.data.toList=iY work.data.toList (aS (ac ns) (fd y.ent (if nz b.data.toList=true\/bd (ac ns) d=1 then gj d (ai p) else d)))):=ab (by unfold bC;rw[uh HG0];simp only;rw[uh HFE];simp only;rw[if_neg hk1]);clear gg gp gi hyp hk1 hyn;have hSf:=IH b w1 (by omega);cases hsl:nz b.data.toList with
  |true=>
   rw[hsl]at hSf;have HSL:=ab hsl;have HSW0:=ab hst1;have HMW0:=ab um;have HBW0:=ab hbw1;have HY3:=ab hy3;clear hsl hst1 um uM hy3 z1 hy;go_upto_region 7 with(first|(go_at_call 102;refine hD.mono ?_;clear hD;rintro e2 w2⟨rfl,hw⟩;obtain rfl:=hw.symm)|(go_at_call 173;refine hSf.mono ?_;clear hSf;rintro e3 w3⟨rfl,hw3⟩;obtain rfl:=hw3.symm))
   have HCG:Hid (bC (ac ns) (ac nss) work.data.toList a.data.toList b.data.toList=iY work.data.toList (aS (ac ns) (fd y.ent (gj d (ai p))))):=ab (by rw[uh HCG0,if_pos (.inl (uh HSL))]);have y0:w1.cell? ⟨y.nb,0,none⟩=some (.string y.ent.path):=cell_of_row w1 y.nb 0 _ _ _ (uh HY3);have y1:w1.cell? ⟨y.nb,1,none⟩=some (.int .i64 y.ent.kind):=cell_of_row w1 y.nb 1 _ _ _ (uh HY3);have y2:w1.cell? ⟨y.nb,2,none⟩=some (.int .i64 y.ent.mode):=cell_of_row w1 y.nb 2 _ _ _ (uh HY3);have y3:w1.cell? ⟨y.nb,3,none⟩=some (.string y.ent.data):=cell_of_row w1 y.nb 3 _ _ _ (uh HY3);go_upto_region 8 with(go_at_call 100;refine(eE y.ent.path _ (by omega)).mono ?_;rintro e7 w7⟨dd,nn,rfl,_,HNm,hb7⟩)
   have hnn:nn.size<=170:=by rw[zE,uh HNm];exact nT (fQ _) (by rw[<-zE];exact hyz)
   have HSX:=ab ((uh HSW0).below hb7);have HMX:=ab (cL hb7 (uh HMW0));have HYX:=ab ((hb7.block y.nb (gA (uh HY3))).trans (uh HY3));have HBX:=ab ((uh HBW0).trans (hb7.mono (uh HBW0).size));clear y0 y1 y2 y3 HY3 hb7;go_upto_region 9 with(go_at_call 174;refine(gT db nn _ (by omega) (by omega)).mono ?_;rintro e8 w8⟨s2,rfl,hs2,hw8⟩;obtain rfl:=hw8.symm)
   have HDQ:Hid (s2.data.toList=gj d (ai p)):=ab (by rw[hs2,uh HDB,uh HNm,<-uh HYP];rfl);have HDN:Hid (gj d (ai p)≠[]):=ab (by
    unfold gj;split
    .exact uh HNN
    simp)
   have h2l:s2.size<=1048576:=by
    rw[zE,hs2,gj];rw[zE]at hdl hnn;split
    .omega
    rw[lA,lC];omega
   have HSW:=HSX;have HMW:=HMX;have HBW:=HBX;have HY3:=HYX;clear hs2;have y0:w7.cell? ⟨y.nb,0,none⟩=some (.string y.ent.path):=cell_of_row w7 y.nb 0 _ _ _ (uh HY3);have y1:w7.cell? ⟨y.nb,1,none⟩=some (.int .i64 y.ent.kind):=cell_of_row w7 y.nb 1 _ _ _ (uh HY3);have y2:w7.cell? ⟨y.nb,2,none⟩=some (.int .i64 y.ent.mode):=cell_of_row w7 y.nb 2 _ _ _ (uh HY3);have y3:w7.cell? ⟨y.nb,3,none⟩=some (.string y.ent.data):=cell_of_row w7 y.nb 3 _ _ _ (uh HY3);have e0:(⟨s2,y.ent.kind,y.ent.mode,y.ent.data⟩:aj)=fd y.ent (gj d (ai p)):=by unfold fd;rw[<-uh HDQ];rfl
   have hL:=λW (hs:ed W B sb r ns work ev) (hmW:W.cell? ⟨1,0,none⟩=some (.int .i64 m))=>dq sb r ns work ev ⟨s2,y.ent.kind,y.ent.mode,y.ent.data⟩ B m W hs (by omega) (by simp only;omega) (ab (by have:=uh HGY;unfold bc at this⊢;exact this)) (ab (by simp only;rw[uh HDQ];exact uh HDN)) hmW;rw[<-e0]at HCG;cases hq:aS (ac ns) ⟨s2,y.ent.kind,y.ent.mode,y.ent.data⟩with
   |error k=>
    rw[hq]at hL HCG;unfold bx at hL;dsimp only at hL;clear hq e0;go_wp2_with (first|(go_at_call 176;refine(cV y.ent s2 _).mono ?_;rintro e5 w5⟨rfl,hb5⟩)|(go_at_call 175;refine(hL _ ((uh HSW).below hb5) (cL hb5 (uh HMW))).mono ?_;clear hL;rintro e6 w6⟨rfl,hb6,hx6⟩))
    go_ret;have hBw5:=(uh HBW).trans (hb5.mono (uh HBW).size);rw[uh HCG];exact⟨rfl,(hBw5.mono hBw).trans hb6,(ak hBw5).trans hx6⟩
   |ok t=>
    rw[hq]at hL HCG;unfold bx at hL;dsimp only at hL;clear hq e0;go_wp2_with (first|(go_at_call 176;refine(cV y.ent s2 _).mono ?_;rintro e5 w5⟨rfl,hb5⟩)|(go_at_call 175;refine(hL _ ((uh HSW).below hb5) (cL hb5 (uh HMW))).mono ?_;clear hL;rintro e6 w6⟨⟨rfl,ns',h2,h3,h4,h5⟩,hb6,hx6⟩))
    go_ret;have hBw5:=(uh HBW).trans (hb5.mono (uh HBW).size);rw[uh HCG];exact⟨⟨rfl,r,ns',work,h2,h3,rfl,hws,by omega⟩,(hBw5.mono hBw).trans hb6,(ak hBw5).trans hx6⟩
  |false=>
   rw[hsl]at hSf;have HSL:=ab hsl;have hF:=cY r ns B db m w1 hst1.mem (ab hst1.ok) (by omega) um;have s0:=hst1.c0;have HST1:=ab hst1;have HM1:=ab um;have HY1:=ab hy3;clear hsl hst1 um uM hy3 z1 hy;have HBW1:=ab hbw1;by_cases hx:∃x∈r::ns,x.p=d
   .obtain⟨x,hxm,hxp⟩:=hx;have hF2:Cl 101 #[.pointer (some ⟨r.nb,0,none⟩),.string db] w1 λe w'=>e=.returned (.pointer (some ⟨x.nb,0,none⟩))/\Bw w1 w':=hF.mono (by
     rintro e w'⟨v,rfl,HF,hb⟩;have hv:=uh HF;rw[uh HDB]at hv;rcases hv with⟨_,hno⟩|⟨z,hz,rfl,hzp⟩
     .exact absurd hxp (hno x hxm)
     rw[vR (uh HST1).tree (uh HST1).mem.root hz hxm (hzp.trans hxp.symm)];exact⟨rfl,hb⟩)
    have HKD:Hid (bd (ac ns) d=x.ent.kind):=ab (by
     rcases mi (uh HST1).tree (uh HST1).mem.root (show mH r ns d (.pointer (some ⟨x.nb,0,none⟩)) from .inr ⟨x,hxm,rfl,hxp⟩)with⟨e,_⟩|⟨z,hz,_,hzp,hk⟩
     .cases e
     rw[hk,vR (uh HST1).tree (uh HST1).mem.root hz hxm (hzp.trans hxp.symm)])
    obtain⟨_,_,hx3,_⟩:=(uh HST1).mem.all x hxm;have HX3:=ab hx3;have hDx:∀W,Bw w1 W->Cl 102 #[.pointer (some ⟨x.nb,0,none⟩)] W λe w'=>e=.returned (.bool (decide (x.ent.kind=1)))/\w'=W:=λW hb=>cd _ _ _ (cL hb (cell_of_row w1 x.nb 1 _ _ _ hx3));clear hF hxm hx3;by_cases hkx:x.ent.kind=1
    .rw[dT hkx]at hDx;have HK1:Hid (bd (ac ns) d=1):=ab ((uh HKD).trans hkx);clear hkx hxp;go_upto_region 7 with(first|(go_at_call 102;refine hD.mono ?_;clear hD;rintro e2 w2⟨rfl,hw⟩;obtain rfl:=hw.symm)|(go_at_call 173;refine hSf.mono ?_;clear hSf;rintro e3 w3⟨rfl,hw3⟩;obtain rfl:=hw3.symm)|(go_at_call 101;refine hF2.mono ?_;clear hF2;rintro e4 w4⟨rfl,hb4⟩)|(go_at_call 102;refine(hDx _ hb4).mono ?_;clear hDx;rintro e5 w5⟨rfl,hw5⟩;obtain rfl:=hw5.symm))
     have HSW0:=ab ((uh HST1).below hb4);have HMW0:=ab (cL hb4 (uh HM1));have HBW0:=ab ((uh HBW1).trans (hb4.mono (uh HBW1).size));have HY3:=ab ((hb4.block y.nb (gA (uh HY1))).trans (uh HY1));clear s0 u0 ub;have HCG:Hid (bC (ac ns) (ac nss) work.data.toList a.data.toList b.data.toList=iY work.data.toList (aS (ac ns) (fd y.ent (gj d (ai p))))):=ab (by rw[uh HCG0,if_pos (.inr (uh HK1))]);have y0:w4.cell? ⟨y.nb,0,none⟩=some (.string y.ent.path):=cell_of_row w4 y.nb 0 _ _ _ (uh HY3);have y1:w4.cell? ⟨y.nb,1,none⟩=some (.int .i64 y.ent.kind):=cell_of_row w4 y.nb 1 _ _ _ (uh HY3);have y2:w4.cell? ⟨y.nb,2,none⟩=some (.int .i64 y.ent.mode):=cell_of_row w4 y.nb 2 _ _ _ (uh HY3);have y3:w4.cell? ⟨y.nb,3,none⟩=some (.string y.ent.data):=cell_of_row w4 y.nb 3 _ _ _ (uh HY3);go_upto_region 8 with(go_at_call 100;refine(eE y.ent.path _ (by omega)).mono ?_;rintro e7 w7⟨dd,nn,rfl,_,HNm,hb7⟩)
     have hnn:nn.size<=170:=by rw[zE,uh HNm];exact nT (fQ _) (by rw[<-zE];exact hyz)
     have HSX:=ab ((uh HSW0).below hb7);have HMX:=ab (cL hb7 (uh HMW0));have HYX:=ab ((hb7.block y.nb (gA (uh HY3))).trans (uh HY3));have HBX:=ab ((uh HBW0).trans (hb7.mono (uh HBW0).size));clear y0 y1 y2 y3 HY3 hb7;go_upto_region 9 with(go_at_call 174;refine(gT db nn _ (by omega) (by omega)).mono ?_;rintro e8 w8⟨s2,rfl,hs2,hw8⟩;obtain rfl:=hw8.symm)
     have HDQ:Hid (s2.data.toList=gj d (ai p)):=ab (by rw[hs2,uh HDB,uh HNm,<-uh HYP];rfl);have HDN:Hid (gj d (ai p)≠[]):=ab (by
      unfold gj;split
      .exact uh HNN
      simp)
     have h2l:s2.size<=1048576:=by
      rw[zE,hs2,gj];rw[zE]at hdl hnn;split
      .omega
      rw[lA,lC];omega
     have HSW:=HSX;have HMW:=HMX;have HBW:=HBX;have HY3:=HYX;clear hs2;have y0:w7.cell? ⟨y.nb,0,none⟩=some (.string y.ent.path):=cell_of_row w7 y.nb 0 _ _ _ (uh HY3);have y1:w7.cell? ⟨y.nb,1,none⟩=some (.int .i64 y.ent.kind):=cell_of_row w7 y.nb 1 _ _ _ (uh HY3);have y2:w7.cell? ⟨y.nb,2,none⟩=some (.int .i64 y.ent.mode):=cell_of_row w7 y.nb 2 _ _ _ (uh HY3);have y3:w7.cell? ⟨y.nb,3,none⟩=some (.string y.ent.data):=cell_of_row w7 y.nb 3 _ _ _ (uh HY3);have e0:(⟨s2,y.ent.kind,y.ent.mode,y.ent.data⟩:aj)=fd y.ent (gj d (ai p)):=by unfold fd;rw[<-uh HDQ];rfl
     have hL:=λW (hs:ed W B sb r ns work ev) (hmW:W.cell? ⟨1,0,none⟩=some (.int .i64 m))=>dq sb r ns work ev ⟨s2,y.ent.kind,y.ent.mode,y.ent.data⟩ B m W hs (by omega) (by simp only;omega) (ab (by have:=uh HGY;unfold bc at this⊢;exact this)) (ab (by simp only;rw[uh HDQ];exact uh HDN)) hmW;rw[<-e0]at HCG;cases hq:aS (ac ns) ⟨s2,y.ent.kind,y.ent.mode,y.ent.data⟩with
     |error k=>
      rw[hq]at hL HCG;unfold bx at hL;dsimp only at hL;clear hq e0;go_wp2_with (first|(go_at_call 176;refine(cV y.ent s2 _).mono ?_;rintro e5 w5⟨rfl,hb5⟩)|(go_at_call 175;refine(hL _ ((uh HSW).below hb5) (cL hb5 (uh HMW))).mono ?_;clear hL;rintro e6 w6⟨rfl,hb6,hx6⟩))
      go_ret;have hBw5:=(uh HBW).trans (hb5.mono (uh HBW).size);rw[uh HCG];exact⟨rfl,(hBw5.mono hBw).trans hb6,(ak hBw5).trans hx6⟩
     |ok t=>
      rw[hq]at hL HCG;unfold bx at hL;dsimp only at hL;clear hq e0;go_wp2_with (first|(go_at_call 176;refine(cV y.ent s2 _).mono ?_;rintro e5 w5⟨rfl,hb5⟩)|(go_at_call 175;refine(hL _ ((uh HSW).below hb5) (cL hb5 (uh HMW))).mono ?_;clear hL;rintro e6 w6⟨⟨rfl,ns',h2,h3,h4,h5⟩,hb6,hx6⟩))
      go_ret;have hBw5:=(uh HBW).trans (hb5.mono (uh HBW).size);rw[uh HCG];exact⟨⟨rfl,r,ns',work,h2,h3,rfl,hws,by omega⟩,(hBw5.mono hBw).trans hb6,(ak hBw5).trans hx6⟩
    rw[dF hkx]at hDx;have HK1:Hid (¬bd (ac ns) d=1):=ab (by rw[uh HKD];exact hkx);have HDN:Hid (d≠[]):=ab (λe=>uh HK1 (by rw[e];rfl));clear hkx hxp;go_upto_region 9 with(first|(go_at_call 102;refine hD.mono ?_;clear hD;rintro e2 w2⟨rfl,hw⟩;obtain rfl:=hw.symm)|(go_at_call 173;refine hSf.mono ?_;clear hSf;rintro e3 w3⟨rfl,hw3⟩;obtain rfl:=hw3.symm)|(go_at_call 101;refine hF2.mono ?_;clear hF2;rintro e4 w4⟨rfl,hb4⟩)|(go_at_call 102;refine(hDx _ hb4).mono ?_;clear hDx;rintro e5 w5⟨rfl,hw5⟩;obtain rfl:=hw5.symm))
    have HSW:=ab ((uh HST1).below hb4);have HMW:=ab (cL hb4 (uh HM1));have HBW:=ab ((uh HBW1).trans (hb4.mono (uh HBW1).size));have HY3:=ab ((hb4.block y.nb (gA (uh HY1))).trans (uh HY1));have HCG:Hid (bC (ac ns) (ac nss) work.data.toList a.data.toList b.data.toList=iY work.data.toList (aS (ac ns) (fd y.ent d))):=ab (by rw[uh HCG0,if_neg (by rw[uh HSL];simpa using uh HK1)]);have HDQ:=HDB;clear s0 u0 ub;have y0:w4.cell? ⟨y.nb,0,none⟩=some (.string y.ent.path):=cell_of_row w4 y.nb 0 _ _ _ (uh HY3);have y1:w4.cell? ⟨y.nb,1,none⟩=some (.int .i64 y.ent.kind):=cell_of_row w4 y.nb 1 _ _ _ (uh HY3);have y2:w4.cell? ⟨y.nb,2,none⟩=some (.int .i64 y.ent.mode):=cell_of_row w4 y.nb 2 _ _ _ (uh HY3);have y3:w4.cell? ⟨y.nb,3,none⟩=some (.string y.ent.data):=cell_of_row w4 y.nb 3 _ _ _ (uh HY3);have e0:(⟨db,y.ent.kind,y.ent.mode,y.ent.data⟩:aj)=fd y.ent (d):=by unfold fd;rw[<-uh HDQ];rfl
    have hL:=λW (hs:ed W B sb r ns work ev) (hmW:W.cell? ⟨1,0,none⟩=some (.int .i64 m))=>dq sb r ns work ev ⟨db,y.ent.kind,y.ent.mode,y.ent.data⟩ B m W hs (by omega) (by simp only;omega) (ab (by have:=uh HGY;unfold bc at this⊢;exact this)) (ab (by simp only;rw[uh HDQ];exact uh HDN)) hmW;rw[<-e0]at HCG;cases hq:aS (ac ns) ⟨db,y.ent.kind,y.ent.mode,y.ent.data⟩with
    |error k=>
     rw[hq]at hL HCG;unfold bx at hL;dsimp only at hL;clear hq e0;go_wp2_with (first|(go_at_call 176;refine(cV y.ent db _).mono ?_;rintro e5 w5⟨rfl,hb5⟩)|(go_at_call 175;refine(hL _ ((uh HSW).below hb5) (cL hb5 (uh HMW))).mono ?_;clear hL;rintro e6 w6⟨rfl,hb6,hx6⟩))
     go_ret;have hBw5:=(uh HBW).trans (hb5.mono (uh HBW).size);rw[uh HCG];exact⟨rfl,(hBw5.mono hBw).trans hb6,(ak hBw5).trans hx6⟩
    |ok t=>
     rw[hq]at hL HCG;unfold bx at hL;dsimp only at hL;clear hq e0;go_wp2_with (first|(go_at_call 176;refine(cV y.ent db _).mono ?_;rintro e5 w5⟨rfl,hb5⟩)|(go_at_call 175;refine(hL _ ((uh HSW).below hb5) (cL hb5 (uh HMW))).mono ?_;clear hL;rintro e6 w6⟨⟨rfl,ns',h2,h3,h4,h5⟩,hb6,hx6⟩))
     go_ret;have hBw5:=(uh HBW).trans (hb5.mono (uh HBW).size);rw[uh HCG];exact⟨⟨rfl,r,ns',work,h2,h3,rfl,hws,by omega⟩,(hBw5.mono hBw).trans hb6,(ak hBw5).trans hx6⟩
   have hF2:Cl 101 #[.pointer (some ⟨r.nb,0,none⟩),.string db] w1 λe w'=>e=.returned (.pointer none)/\Bw w1 w':=hF.mono (by
    rintro e w'⟨v,rfl,HF,hb⟩;have hv:=uh HF;rw[uh HDB]at hv;rcases hv with⟨rfl,_⟩|⟨z,hz,_,hzp⟩
    .exact⟨rfl,hb⟩
    exact absurd ⟨z,hz,hzp⟩ hx)
   have HK1:Hid (¬bd (ac ns) d=1):=ab (by
    rcases mi (uh HST1).tree (uh HST1).mem.root (show mH r ns d (.pointer none) from .inl ⟨rfl,λz hz e=>hx ⟨z,hz,e⟩⟩)with⟨_,h⟩|⟨z,_,e,_⟩
    .exact h
    cases e)
   have HDN:Hid (d≠[]):=ab (λe=>uh HK1 (by rw[e];rfl));clear hF hx;go_upto_region 9 with(first|(go_at_call 102;refine hD.mono ?_;clear hD;rintro e2 w2⟨rfl,hw⟩;obtain rfl:=hw.symm)|(go_at_call 173;refine hSf.mono ?_;clear hSf;rintro e3 w3⟨rfl,hw3⟩;obtain rfl:=hw3.symm)|(go_at_call 101;refine hF2.mono ?_;clear hF2;rintro e4 w4⟨rfl,hb4⟩)|(go_at_call 102;refine(jt _).mono ?_;rintro e5 w5⟨rfl,hw5⟩;obtain rfl:=hw5.symm))
   have HSW:=ab ((uh HST1).below hb4);have HMW:=ab (cL hb4 (uh HM1));have HBW:=ab ((uh HBW1).trans (hb4.mono (uh HBW1).size));have HY3:=ab ((hb4.block y.nb (gA (uh HY1))).trans (uh HY1));have HCG:Hid (bC (ac ns) (ac nss) work.data.toList a.data.toList b.data.toList=iY work.data.toList (aS (ac ns) (fd y.ent d))):=ab (by rw[uh HCG0,if_neg (by rw[uh HSL];simpa using uh HK1)]);have HDQ:=HDB;clear s0 u0 ub;have y0:w4.cell? ⟨y.nb,0,none⟩=some (.string y.ent.path):=cell_of_row w4 y.nb 0 _ _ _ (uh HY3);have y1:w4.cell? ⟨y.nb,1,none⟩=some (.int .i64 y.ent.kind):=cell_of_row w4 y.nb 1 _ _ _ (uh HY3);have y2:w4.cell? ⟨y.nb,2,none⟩=some (.int .i64 y.ent.mode):=cell_of_row w4 y.nb 2 _ _ _ (uh HY3);have y3:w4.cell? ⟨y.nb,3,none⟩=some (.string y.ent.data):=cell_of_row w4 y.nb 3 _ _ _ (uh HY3);have e0:(⟨db,y.ent.kind,y.ent.mode,y.ent.data⟩:aj)=fd y.ent (d):=by unfold fd;rw[<-uh HDQ];rfl
   have hL:=λW (hs:ed W B sb r ns work ev) (hmW:W.cell? ⟨1,0,none⟩=some (.int .i64 m))=>dq sb r ns work ev ⟨db,y.ent.kind,y.ent.mode,y.ent.data⟩ B m W hs (by omega) (by simp only;omega) (ab (by have:=uh HGY;unfold bc at this⊢;exact this)) (ab (by simp only;rw[uh HDQ];exact uh HDN)) hmW;rw[<-e0]at HCG;cases hq:aS (ac ns) ⟨db,y.ent.kind,y.ent.mode,y.ent.data⟩with
   |error k=>
    rw[hq]at hL HCG;unfold bx at hL;dsimp only at hL;clear hq e0;go_wp2_with (first|(go_at_call 176;refine(cV y.ent db _).mono ?_;rintro e5 w5⟨rfl,hb5⟩)|(go_at_call 175;refine(hL _ ((uh HSW).below hb5) (cL hb5 (uh HMW))).mono ?_;clear hL;rintro e6 w6⟨rfl,hb6,hx6⟩))
    go_ret;have hBw5:=(uh HBW).trans (hb5.mono (uh HBW).size);rw[uh HCG];exact⟨rfl,(hBw5.mono hBw).trans hb6,(ak hBw5).trans hx6⟩
   |ok t=>
    rw[hq]at hL HCG;unfold bx at hL;dsimp only at hL;clear hq e0;go_wp2_with (first|(go_at_call 176;refine(cV y.ent db _).mono ?_;rintro e5 w5⟨rfl,hb5⟩)|(go_at_call 175;refine(hL _ ((uh HSW).below hb5) (cL hb5 (uh HMW))).mono ?_;clear hL;rintro e6 w6⟨⟨rfl,ns',h2,h3,h4,h5⟩,hb6,hx6⟩))
    go_ret;have hBw5:=(uh HBW).trans (hb5.mono (uh HBW).size);rw[uh HCG];exact⟨⟨rfl,r,ns',work,h2,h3,rfl,hws,by omega⟩,(hBw5.mono hBw).trans hb6,(ak hBw5).trans hx6⟩
def ux(w:World)(v:Value)(k:Nat):Prop:=v=.iface 27 (.int .i64 (k:Int))\/∃(q:Nat) (n:Int),v=.iface 64 (.pointer (some ⟨q,0,none⟩))/\w.cell? ⟨q,0,none⟩=some (.int .i64 (k:Int))/\w.cell? ⟨q,1,none⟩=some (.int .i64 n)
theorem sx(v:Value)(w:World):(binOp BinOp.neq 45 (.iface 64 v) .nilIface).run prog w=.ok (.bool true) w:=by kernel_rfl
end Go.Proofs.YtjhobnjdfhkohaaGreatDoor.T
namespace Go.Proofs.YtjhobnjdfhkohaaGreatDoor
open Go.Proofs.Tryz
open Go.RowKit Go.Maps
theorem Hp(v:Value)(k:Nat)(w:World)(hg:w.cell? ⟨0,0,none⟩=some (.iface 157 (.agg #[.pointer (some ⟨22,45,none⟩)])))(h:T.ux w v k): Cl 13 #[v] w λev w'=>(∃n:Int,ev=.returned (.tuple #[.int .i64 (k:Int),.int .i64 n]))/\Bw w w':=by
 rcases h with rfl|⟨q,n,rfl,hq⟩
 .exact(zF _ w hg).mono λ_ _ ⟨h1,h2⟩=>⟨⟨_,h1⟩,h2⟩
 exact(uD q _ n w hg hq.1 hq.2).mono λ_ _ ⟨h1,h2⟩=>⟨⟨_,h1⟩,h2⟩
theorem AD(v:Value)(k:Nat)(m:cA)(x:aw)(B:Nat)(w:World)(hg:w.cell? ⟨0,0,none⟩=some (.iface 157 (.agg #[.pointer (some ⟨22,45,none⟩)])))(h:m.Ok w B)(h0:m.ws[0]?=some x)(he:T.ux w v k): Cl 48 #[v,m.val] w λev w'=>(∃q:Nat,ev=.returned (.iface 64 (.pointer (some ⟨q,0,none⟩)))/\w'.heap[q]?=some (.cells #[.int .i64 (k:Int),.int .i64 (x.place:Int)] 68 (0,0)))/\Bw w w':=by
 obtain⟨W0,hW0⟩:=aq (w.alloc (.cells #[m.wv,.int .i64 m.stage,.int .i64 (af m.rule).1,.int .i64 (af m.rule).2.1,aN (af m.rule).2.2.1,aN (af m.rule).2.2.2] 86));have hb0:=dw hW0;have hc0:=em hW0;have heW:T.ux W0 v k:=by
  rcases he with h|⟨q,n,h1,hq⟩
  .exact .inl h
  exact .inr ⟨q,n,h1,cL hb0 hq.1,cL hb0 hq.2⟩
 have hT:=Hp v k W0 (cL hb0 hg) heW;have HP:Hid (∀W,Bw W0 W->Cl 61 #[m.val] W λev w'=>ev=.returned (.int .i64 (x.place:Int))/\Bw W w'):=ab (λW hB=>CV m x B W ((h.below hb0).below hB).ws h0);obtain⟨g,cap,hwv,_,_⟩:=ic h.ws.row (by have:=(gL h0);omega);obtain⟨wv,ws,stage,rule⟩:=m;simp only at hwv hc0 hW0;subst hwv;obtain⟨n,hn⟩:=aq ws.length;unfold cA.val at HP⊢;simp only at HP⊢;rw[<-hn]at HP hc0 hW0⊢;have HC:=ab hc0;clear h h0 he heW hn hc0 hg;go_enter func48,ntmps48;go_upto_region 1 with fail;rw[<-hW0];clear hW0;go_upto_region 2 with(go_at_call 13;refine hT.mono ?_;clear hT;rintro e1 w1⟨⟨nn,rfl⟩,hb1⟩)
 have hh:=(hb1.block w.heap.size (gA (uh HC))).trans (uh HC);have s0:=cq 0 hh;have s1:=cq 1 hh;have s2:=cq 2 hh;have s3:=cq 3 hh;have s4:=cq 4 hh;have s5:=cq 5 hh;clear hh;go_wp2_with (go_at_call 61;refine(uh HP _ hb1).mono ?_;rintro e2 w2⟨rfl,hb2⟩)
 go_ret;have hB:=hb0.trans ((hb1.trans (hb2.mono hb1.size)).mono hb0.size);exact⟨⟨w2.heap.size,rfl,hN _ _⟩,hB.alloc hB.size _⟩
end Go.Proofs.YtjhobnjdfhkohaaGreatDoor
namespace Go.Proofs.YtjhobnjdfhkohaaGreatDoor.T
open Go.Proofs.Tryz
open Go.RowKit Go.Maps
def M9(w':World)(B sb:Nat)(ev v:Value)(x:Except Nat (List aj×LU)):Prop:=match x with
 |.error k=>ux w' v k
 |.ok (t,wk)=>v=.nilIface/\∃(r:Nd) (ns:List Nd) (work:BA),ed w' B sb r ns work ev/\ac ns=t/\work.data.toList=wk/\work.size<=1048576/\ns.length<=500
def ll(w':World)(B sb:Nat)(ev:Value)(e:Ending)(x:Except Nat (List aj×LU)):Prop:=∃v,e=.returned v/\M9 w' B sb ev v x
theorem ux.below{w w':World}{v:Value}{k:Nat}(h:ux w v k)(hb:Bw w w'):ux w' v k:=by
 rcases h with h|⟨q,n,h1,hq⟩
 .exact .inl h
 exact .inr ⟨q,n,h1,cL hb hq.1,cL hb hq.2⟩
theorem ma.act{w':World}{B sb:Nat}{ev:Value}{e:Ending}{x:Except Nat (List aj×LU)}(h:ma w' B sb ev e x):ll w' B sb ev e x:=by
 unfold ma at h;unfold ll M9;cases x with
 |error k=>exact⟨_,h,.inl rfl⟩
 |ok p=>obtain⟨h1,h2⟩:=h;exact⟨_,h1,rfl,h2⟩
def pU(F:Nat):Prop:=∀(args:Array Value) (w:World),(callFunc F args).run prog w=.ok (.enter F args) w
theorem Jr:pU 138:=λ_ _=>by kernel_rfl
theorem JI:pU 140:=λ_ _=>by kernel_rfl
theorem J1:pU 142:=λ_ _=>by kernel_rfl
theorem N0:pU 143:=λ_ _=>by kernel_rfl
theorem JK:pU 145:=λ_ _=>by kernel_rfl
theorem IQ:pU 149:=λ_ _=>by kernel_rfl
theorem Je:pU 146:=λ_ _=>by kernel_rfl
theorem Jo:pU 148:=λ_ _=>by kernel_rfl
theorem GO.below{w W:World}{B sb Bs:Nat}{r rs:Nd}{ns nss:List Nd}{work:BA}{ev:Value}(h:GO w B sb Bs r rs ns nss work ev)(hb:Bw w W):GO W B sb Bs r rs ns nss work ev:= λy d W' h1 h2 h3 h4 h5 h6=>h y d W' h1 h2 h3 h4 h5 (hb.trans (h6.mono hb.size))
theorem vE(w:World)(h14:21<w.heap.size): Cl 45 #[] w λe w'=>(∃(sb:Nat) (r:Nd),e=.returned (.pointer (some ⟨sb,0,none⟩))/\w.heap.size<=sb/\Hid (ed w' w.heap.size sb r [] ⟨#[]⟩ (.slice none 0 0)))/\Bw w w':=by
 go_enter func45,ntmps45;go_wp2_with (go_at_call 69;refine(qc _).mono ?_;rintro ev w1⟨rb,rm,rfl,hnb,hmb,HN1,hb1⟩)
 go_ret;have hS:Bw w1 (w1.alloc (.cells #[.pointer (some ⟨rb,0,none⟩),.string ⟨#[]⟩,.slice none 0 0,.slice none 0 0] 134)):=eD;have hM:cw w1 w.heap.size ⟨de,rb,rm⟩ []:=⟨rfl,λx hx=>by rw[List.mem_singleton]at hx;subst hx;exact⟨hnb,hmb,(uh HN1).1,(uh HN1).2⟩,by simp⟩
 refine⟨⟨w1.heap.size,⟨de,rb,rm⟩,rfl,hb1.size,ab ⟨hN _ _,hM.below hS,?_,h14,?_⟩⟩,hb1.alloc hb1.size _⟩
 .exact⟨.nil,λe he=>(by cases he),λe he=>(by cases he)⟩
 exact nT hb1.size hS.size
end Go.Proofs.YtjhobnjdfhkohaaGreatDoor.T
namespace Go.Proofs.YtjhobnjdfhkohaaGreatDoor
open Go.Proofs.Tryz
open Go.RowKit Go.Maps
theorem yR{m:cA}{w:World}{B:Nat}{y:aw}(h:m.Ok w B)(hy:m.ws[0]?=some y)(hr:m.rule=1\/m.rule=2):jg y.xs=true:=by
 have ho:=h.op;rw[hy]at ho;simp only at ho;unfold lX at ho;cases hp:an y.xs with
 |none=>rw[hp]at ho;cases ho
 |some t=>
  rw[hp]at ho;simp only[Option.bind_some]at ho;unfold wh at ho;cases hf:CM.find? (λp=>p.1==t)with
  |none=>rw[hf]at ho;cases ho
  |some p=>
   rw[hf]at ho;injection ho with ho;dsimp only at ho;have hm:=List.mem_of_find?_eq_some hf;have he:p.1=t:=by have:=List.find?_some hf;simpa using this
   have hall:∀p∈CM,(p.2=1\/p.2=2)->(p.1=iV\/p.1=Dz):=by decide
   have:=hall p hm (by rw[ho];exact hr);unfold jg;rw[hp,<-he];rcases this with e|e<;>rw[e]<;>simp
end Go.Proofs.YtjhobnjdfhkohaaGreatDoor
namespace Go.Proofs.YtjhobnjdfhkohaaGreatDoor.T
open Go.RowKit Go.Maps
def M7(Bs:Nat)(rs:Nd)(nss:List Nd):Prop:=∀(w:World) (B sb:Nat) (r:Nd) (ns:List Nd) (work:BA) (ev:Value) (m:Int),w.cell? ⟨1,0,none⟩=some (.int .i64 m)->ns.length<=400->(∀x∈rs::nss,x.nb<B/\x.mb<B)->GO w B sb Bs r rs ns nss work ev
end Go.Proofs.YtjhobnjdfhkohaaGreatDoor.T
namespace Go.Proofs.YtjhobnjdfhkohaaGreatDoor.T
open Go.Proofs.Tryz
open Go.RowKit
def ri(x:ki):Nat:=match x.ws[0]? with
 |some y=>(lX y.atoms).getD 0
 |none=>0
def vd(x:ki):Nat:=match x.ws[0]? with
 |some y=>y.place
 |none=>0
structure SN where
 t:List aj
 work:LU
 env:List (LU×LU)
def rD(env:List (LU×LU))(n:LU):LU:=match env.find? (λp=>p.1==n)with
 |some p=>p.2
 |none=>[]
def DJ(n v:LU):List (LU×LU)->List (LU×LU)
 |[]=>[(n,v)]
 |(m,u)::r=>if m=n then (n,v)::r else if Op.bytesLess n m=true then (n,v)::(m,u)::r else (m,u)::DJ n v r
def CK(env:List (LU×LU)):bM->LU
 |.inl c=>[c]
 |.inr (n,_)=>rD env n
def my(env:List (LU×LU))(xs:List bM):LU:=(xs.map (CK env)).flatten
def Ic(s:SN):Except Nat (List aj×LU)->Except Nat SN
 |.error k=>.error k
 |.ok (t,wk)=>.ok ⟨t,wk,s.env⟩
def Ax(d:LU):List aj->List aj->Except Nat (List aj)
 |[],t=>.ok t
 |c::r,t=>if c.kind=4\/c.kind=5 then .error 4 else match aS t (fd c (gj d c.path.data.toList))with
  |.error k=>.error k
  |.ok t'=>Ax d r t'
structure Ch where
 f:LU->Option (List aj)
 ok:∀s cs,f s=some cs↔pm s cs
def oA[Inhabited Ch](t src:List aj)(work a b:LU):Except Nat (List aj×LU):=match gv src work a b with
 |.error k=>.error k
 |.ok (p,d)=>match (if p=[] then some de else nC src p)with
   |none=>.error 8
   |some f=>if f.kind≠2 then .error 9 else
     match (default:Ch).f f.data.data.toList with
     |none=>.error 4
     |some cs=>match cK t d with
      |.error k=>.error k
      |.ok t'=>iY work (Ax d cs t')
def J2[Inhabited Ch](src:List aj)(base:Option SN)(s:SN)(rule:Nat)(us:List LU):Except Nat SN:=match rule,us with
 |0,_=>.ok (base.getD s)
 |1,[a,b]=>Ic s (bC s.t src s.work a b)
 |2,[a,b]=>Ic s (oA s.t src s.work a b)
 |3,[a]=>Ic s (fS s.t s.work a)
 |4,[a]=>Ic s (lq s.t s.work a)
 |4,[a,md]=>Ic s (fR s.t s.work a md)
 |5,[a,b]=>Ic s (l6 s.t s.work a b)
 |6,[n,v]=>.ok ⟨s.t,s.work,DJ n v s.env⟩
 |7,[a]=>Ic s (lu s.t s.work a)
 |_,_=>.ok s
def eZ(env:List (LU×LU))(x:ki):List LU:=(x.ws.drop (if ri x=1/\x.stage≠-1 then 2 else 1)).map λy=>my env y.atoms
def ld(sts:List (Option SN))(x:ki):Option SN:=if x.stage=-1 then none else (sts[x.stage.toNat]?).join
def xH(cx:List aj)(sts:List (Option SN))(x:ki):List aj:=if x.stage=-1 then cx else match ld sts x with
 |some b=>b.t
 |none=>[]
def Eo[Inhabited Ch](cx:List aj)(sts:List (Option SN))(s:SN)(x:ki):Except Nat SN:=
 if (eZ s.env x).any (λu=>decide (180<u.length))=true then .error 10
 else match J2 (xH cx sts x) (ld sts x) s (ri x) (eZ s.env x)with
  |.error k=>.error k
  |.ok s'=>if 40<s'.t.length then .error 10 else .ok s'
def mS[Inhabited Ch](cx:List aj)(sts:List (Option SN)):List ki->SN->Except (Nat×Nat) SN
 |[],s=>.ok s
 |x::l,s=>match Eo cx sts s x with
   |.error k=>.error (k,vd x)
   |.ok s'=>mS cx sts l s'
def bi[Inhabited Ch](cx:List aj)(st:List aU):List Nat->List (Option SN)->Except (Nat×Nat) (List (Option SN))
 |[],sts=>.ok sts
 |i::r,sts=>match st[i]? with
   |none=>bi cx st r sts
   |some g=>match mS cx sts g.ins ⟨[],[],[]⟩with
     |.error e=>.error e
     |.ok s=>bi cx st r (sts.set i (some s))
def L7{α:Type}:Except (Nat×Nat) α->Except Nat α
 |.error (k,_)=>.error k
 |.ok a=>.ok a
theorem Hr(env:List (LU×LU))(xs:List bM):my env (xs.map bare)=my env xs:=by unfold my;rw[List.map_map];refine congrArg List.flatten (List.map_congr_left λa _=>?_);cases a<;>rfl
theorem tA(x:ki):ri (l5 x)=ri x:=by
 unfold ri l5;simp only[List.getElem?_map];cases x.ws[0]? with
 |none=>rfl
 |some y=>show (lX (y.atoms.map bare)).getD 0=_;unfold lX;rw[fI]
theorem DN(env:List (LU×LU))(x:ki):eZ env (l5 x)=eZ env x:=by unfold eZ;rw[tA];show ((x.ws.map cD).drop _).map _=_;rw[<-List.map_drop,List.map_map];exact List.map_congr_left λy _=>Hr env y.atoms
theorem Kj[Inhabited Ch](cx:List aj)(sts:List (Option SN))(s:SN)(x:ki):Eo cx sts s (l5 x)=Eo cx sts s x:=by unfold Eo;rw[DN,tA];rfl
theorem tj[Inhabited Ch](cx:List aj)(sts:List (Option SN)):∀(l:List ki) (s:SN),L7 (mS cx sts (l.map l5) s)=L7 (mS cx sts l s)
 |[],_=>rfl
 |x::l,s=>by
  simp only[List.map_cons,mS];rw[Kj];cases Eo cx sts s x with
  |error k=>rfl
  |ok s'=>exact tj cx sts l s'
theorem iS[Inhabited Ch](cx:List aj)(st:List aU):∀(nd:List Nat) (sts:List (Option SN)),L7 (bi cx (st.map bw) nd sts)=L7 (bi cx st nd sts)
 |[],_=>rfl
 |i::r,sts=>by
  simp only[bi,List.getElem?_map];cases st[i]? with
  |none=>exact iS cx st r sts
  |some g=>
   simp only[Option.map_some];have h:=tj cx sts g.ins ⟨[],[],[]⟩;show L7 (match mS cx sts (g.ins.map l5) ⟨[],[],[]⟩with|.error e=>.error e|.ok s=>bi cx (st.map bw) r (sts.set i (some s)))=_;cases h1:mS cx sts (g.ins.map l5) ⟨[],[],[]⟩with
   |error e1=>
    rw[h1]at h;cases h2:mS cx sts g.ins ⟨[],[],[]⟩with
    |error e2=>rw[h2]at h;obtain⟨k1,p1⟩:=e1;obtain⟨k2,p2⟩:=e2;have h3:=h;injection h3 with h3;subst h3;rfl
    |ok s2=>rw[h2]at h;cases h
   |ok s1=>
    rw[h1]at h;cases h2:mS cx sts g.ins ⟨[],[],[]⟩with
    |error e2=>rw[h2]at h;cases h
    |ok s2=>
     rw[h2]at h;have e:s1=s2:=by have h3:=h;injection h3
     subst e;exact iS cx st r _
end Go.Proofs.YtjhobnjdfhkohaaGreatDoor.T
namespace Go.Proofs.YtjhobnjdfhkohaaGreatDoor.T
open Go.Proofs.Tryz
open Go.RowKit Go.Maps
def cC(es:eU):List (LU×LU):=es.map λp=>(p.1.data.toList,p.2.data.toList)
theorem lx(a:BA×BA)(r:eU)(t:LU):iw (a::r) t=if fV t a=true then iw r t+1 else 0:=by unfold iw;rw[List.takeWhile_cons];split<;>simp
theorem oF(a:BA×BA)(r:eU)(t:LU):ku (a::r) t=if fV t a=true then ku r t else a.1.data.toList==t:=by
 unfold ku;rw[lx];by_cases h:fV t a=true
 .simp[h]
 simp[h]
theorem NP{t:LU}:∀(r:eU),(∀p∈r,Op.bytesLess t p.1.data.toList=true)->(cC r).find? (λp=>p.1==t)=none
 |[],_=>rfl
 |a::r,h=>by
  have h1:=h a (List.mem_cons_self ..);have h2:(a.1.data.toList==t)=false:=by have:=xV h1;simp only[beq_eq_false_iff_ne,ne_eq]at this⊢;exact λe=>this e.symm
  show ((a.1.data.toList,a.2.data.toList)::cC r).find? _=none;rw[List.find?_cons];simp only[h2];exact NP r λp hp=>h p (List.mem_cons_of_mem _ hp)
theorem FW(t:LU):∀(es:eU),FJ es->rD (cC es) t=if ku es t=true then (match es[iw es t]? with|some m=>m.2.data.toList|none=>[]) else []
 |[],_=>rfl
 |a::r,h=>by
  have hr:=(List.pairwise_cons.1 h).2;have ha:=(List.pairwise_cons.1 h).1;have ih:=FW t r hr;unfold rD at ih⊢;rw[oF,lx];show (match ((a.1.data.toList,a.2.data.toList)::cC r).find? _ with|some p=>p.2|none=>[])=_;rw[List.find?_cons];by_cases hl:fV t a=true
  .have h2:(a.1.data.toList==t)=false:=xV hl;simp only[hl,h2,if_true,List.getElem?_cons_succ];exact ih
  simp only[hl,if_false,Bool.false_eq_true];by_cases he:a.1.data.toList=t
  .simp[he]
  have h2:(a.1.data.toList==t)=false:=by simpa using he
  simp only[h2,Bool.false_eq_true,if_false];have hg:Op.bytesLess t a.1.data.toList=true:=by
   cases hc:Op.bytesLess t a.1.data.toList with
   |true=>rfl
   |false=>exact absurd (kG (by simpa[fV]using hl) hc) he
  rw[NP r λp hp=>ga hg (ha p hp)]
def jf(es:eU)(n v:BA):eU:=if ku es n.data.toList=true then es.set (iw es n.data.toList) (n,v) else es.take (iw es n.data.toList)++(n,v)::es.drop (iw es n.data.toList)
theorem Fm(n v:BA):∀(es:eU),DJ n.data.toList v.data.toList (cC es)=cC (jf es n v)
 |[]=>by simp[cC,DJ,jf,ku,iw]
 |a::r=>by
  have ih:=Fm n v r;show DJ _ _ ((a.1.data.toList,a.2.data.toList)::cC r)=_;unfold DJ;unfold jf at ih⊢;rw[oF,lx];by_cases hl:fV n.data.toList a=true
  .have h2:¬a.1.data.toList=n.data.toList:=by have:=xV hl;simpa using this
   have h3:¬Op.bytesLess n.data.toList a.1.data.toList=true:=by rw[m8 hl];simp
   rw[if_neg h2,if_neg h3,ih];simp only[hl,if_true];split
   .simp[cC]
   simp[cC]
  simp only[hl,if_false,Bool.false_eq_true];by_cases he:a.1.data.toList=n.data.toList
  .rw[if_pos he];simp[he,cC]
  rw[if_neg he];have hg:Op.bytesLess n.data.toList a.1.data.toList=true:=by
   cases hc:Op.bytesLess n.data.toList a.1.data.toList with
   |true=>rfl
   |false=>exact absurd (kG (by simpa[fV]using hl) hc) he
  have h2:(a.1.data.toList==n.data.toList)=false:=by simpa using he
  rw[if_pos hg];simp only[h2,Bool.false_eq_true,if_false,List.take_zero,List.drop_zero,List.nil_append];rfl
theorem C9{es:eU}{n v:BA}(h:FJ es):FJ (jf es n v):=by
 induction es with
 |nil=>simp[jf,ku,iw,FJ]
 |cons a r ih=>
  have hr:=(List.pairwise_cons.1 h).2;have ha:=(List.pairwise_cons.1 h).1;have ih:=ih hr;unfold jf at ih⊢;rw[oF,lx];by_cases hl:fV n.data.toList a=true
  .simp only[hl,if_true];have key:∀p∈jf r n v,Op.bytesLess a.1.data.toList p.1.data.toList=true:=by
    intro p hp;unfold jf at hp;split at hp
    .rcases List.mem_or_eq_of_mem_set hp with hp|hp
     .exact ha p hp
     subst hp;exact hl
    rcases mA.1 hp with hp|hp
    .exact ha p (List.mem_of_mem_take hp)
    rcases mC.1 hp with hp|hp
    .subst hp;exact hl
    exact ha p (List.mem_of_mem_drop hp)
   unfold jf at key;split
   .rename_i hc;rw[if_pos hc]at ih key;exact List.pairwise_cons.2 ⟨key,ih⟩
   rename_i hc;rw[if_neg hc]at ih key;exact List.pairwise_cons.2 ⟨key,ih⟩
  simp only[hl,if_false,Bool.false_eq_true];by_cases he:a.1.data.toList=n.data.toList
  .simp only[he,beq_self_eq_true,if_true,List.set_cons_zero];exact List.pairwise_cons.2 ⟨λp hp=>by rw[<-he];exact ha p hp,hr⟩
  have h2:(a.1.data.toList==n.data.toList)=false:=by simpa using he
  have hg:Op.bytesLess n.data.toList a.1.data.toList=true:=by
   cases hc:Op.bytesLess n.data.toList a.1.data.toList with
   |true=>rfl
   |false=>exact absurd (kG (by simpa[fV]using hl) hc) he
  simp only[h2,Bool.false_eq_true,if_false,List.take_zero,List.drop_zero,List.nil_append];refine List.pairwise_cons.2 ⟨λp hp=>?_,h⟩;rcases mC.1 hp with hp|hp
  .subst hp;exact hg
  exact ga hg (ha p hp)
theorem Hs(es:eU)(n v:BA):(jf es n v).length<=es.length+1:=by
 unfold jf;split
 .simp
 have:=vk es n.data.toList;simp;omega
theorem pB(sb:Nat)(ev:Value)(es:eU)(t:BA)(B:Nat)(w:World)(hc:w.cell? ⟨sb,2,none⟩=some ev)(h:fZ w B ev es)(hn:es.length<=1500)(hs:FJ es): Cl 104 #[.pointer (some ⟨sb,0,none⟩),.string t] w λe w'=>e=.returned (.tuple #[.int .i64 (iw es t.data.toList:Nat),.bool (ku es t.data.toList)])/\Bw w w':=by
 have hB:=Jp ev es t B w h hn hs;obtain⟨ao,n,cap,rfl⟩:=ar h;obtain⟨k,hk⟩:=aq (iw es t.data.toList);obtain⟨b,hb⟩:=aq (ku es t.data.toList);rw[<-hk,<-hb]at hB⊢;clear hk hb h;go_enter func104,ntmps104;go_wp2_with (go_at_call 128;refine hB.mono ?_;clear hB;rintro e1 w1⟨rfl,hb1⟩)
 refine bodyPost_ret (v:=.tuple #[.int .i64 (k:Int),.bool b]) (by simp[results,results104,go_sem]) rfl ⟨rfl,hb1⟩
theorem Dw(sb:Nat)(ev:Value)(es:eU)(t:BA)(B:Nat)(w:World)(hc:w.cell? ⟨sb,2,none⟩=some ev)(h:fZ w B ev es)(hn:es.length<=1500)(hs:FJ es): Cl 76 #[.pointer (some ⟨sb,0,none⟩),.string t] w λe w'=>(∃u:BA,e=.returned (.string u)/\Hid (u.data.toList=rD (cC es) t.data.toList))/\Bw w w':=by
 have hF:=pB sb ev es t B w hc h hn hs;have hv:=FW t.data.toList es hs;have hp:=vk es t.data.toList;obtain⟨ao,n,cap,rfl⟩:=ar h;have hnl:=dL h;cases hb:ku es t.data.toList with
 |false=>
  rw[hb]at hF hv;have HV:=ab hv;clear h hb hp hv;go_enter func76,ntmps76;go_wp2_with (go_at_call 104;refine hF.mono ?_;clear hF;rintro e1 w1⟨rfl,hb1⟩)
  go_ret;exact⟨⟨_,rfl,ab (uh HV).symm⟩,hb1⟩
 |true=>
  rw[hb]at hF hv;obtain⟨m,hm⟩:∃m,es[iw es t.data.toList]?=some m:=by
   unfold ku at hb;cases hx:es[iw es t.data.toList]? with
   |none=>rw[hx]at hb;cases hb
   |some m=>exact⟨m,rfl⟩
  rw[hm]at hv;have hlt:=(gL hm)
  obtain⟨k,hk⟩:=aq (iw es t.data.toList);rw[<-hk]at hF hm hlt;have HR:Hid (∀W,Bw w W->∃g,ao=some ⟨g,0,none⟩/\W.cell? ⟨g,k*2+1,none⟩=some (.string m.2)/\W.cell? ⟨sb,2,none⟩=some (.slice ao n cap)):=ab (λW hW=>by obtain⟨g,cp,hv,_,c1⟩:=(h.below hW).at hm;injection hv with e1;exact⟨g,e1,c1,cL hW hc⟩);have HV:=ab hv;have hkn:k<n:=by omega
  clear h hb hp hv hm hk hlt hc;go_enter func76,ntmps76;go_upto_region 4 with(go_at_call 104;refine hF.mono ?_;clear hF;rintro e1 w1⟨rfl,hb1⟩)
  obtain⟨g,rfl,c1,c2⟩:=uh HR w1 hb1;go_wp2_with fail;go_ret;exact⟨⟨_,rfl,ab (uh HV).symm⟩,hb1⟩
end Go.Proofs.YtjhobnjdfhkohaaGreatDoor.T
