import Derived.Test.YtjhobnjdfhkohaaGreatDoorXAC
import Derived.Lib.IfaceNeq
set_option linter.all false
set_option maxHeartbeats 32000000
set_option maxRecDepth 100000
namespace Go.Proofs.YtjhobnjdfhkohaaGreatDoor.T
open Go.Proofs.Tryz
open Go.RowKit Go.Maps
def l6(t:List aj)(work a b:LU):Except Nat (List aj×LU):=if wm a=false then .error 1 else match R.resP work b with
 |none=>.error 1
 |some p=>if p=[] then .error 9 else iY work (aS t ⟨bs p,3,0,bs a⟩)
theorem Gv(sb:Nat)(r:Nd)(ns:List Nd)(work a b:BA)(ev:Value)(ao:OA)(n cap:Nat)(ps:List BA)(sv sr:OA)(B:Nat)(m:Int)(w:World)(h:ed w B sb r ns work ev)(hn:ns.length<=400)(hws:work.size<=1048576)(hW:jD w ao n cap ps)(ha:ps[0]?=some a)(hb:ps[1]?=some b)(hm:w.cell? ⟨1,0,none⟩=some (.int .i64 m)): Cl 146 #[.pointer (some ⟨sb,0,none⟩),.agg #[.slice ao n cap,.pointer sv,.pointer sr]] w λe w'=>ma w' B sb ev e (l6 (ac ns) work.data.toList a.data.toList b.data.toList)/\Below B w w'/\bm w w':=by
 obtain⟨g,rfl,ca,hn0,hal⟩:=hW.at ha;obtain⟨g',hg',cb,hn1,hbl⟩:=hW.at hb;cases hg';obtain⟨W0,hW0⟩:=aq (w.alloc (.cells #[.slice (some ⟨g,0,none⟩) n cap,.pointer sv,.pointer sr] 79));have hb0:=dw hW0;have hc0:=em hW0;have t0:=cq 0 hc0;have a0:=cL hb0 ca;have b0:=cL hb0 cb;have hst0:=h.below hb0;have hT:=yd a W0;have hR:=dS sb work b m W0 hst0.c1 (by omega) (by omega) (cL hb0 hm);have hBw:=h.base;have HST:=ab hst0;have HM:=ab (cL hb0 hm);have hes:=cB;have hen:=eQ;have i0:(0:Int)<(n:Int):=by omega
 have i1:(1:Int)<(n:Int):=by omega
 clear h hm ha hb hW ca cb hst0 hc0;cases htg:wm a.data.toList with
 |false=>
  rw[htg]at hT;have HR:Hid (l6 (ac ns) work.data.toList a.data.toList b.data.toList=.error 1):=ab (by unfold l6;rw[if_pos htg]);clear htg;go_enter func146,ntmps146;go_upto_region 1 with fail;rw[<-hW0];clear hW0;go_wp2_with (go_at_call 97;refine hT.mono ?_;clear hT;rintro e1 w1⟨rfl,hw⟩;obtain rfl:=hw.symm)
  go_ret;rw[uh HR];exact⟨rfl,hb0.mono hBw,ak hb0⟩
 |true=>
  rw[htg]at hT;cases hr:R.resP work.data.toList b.data.toList with
  |none=>
   rw[hr]at hR;simp only[Option.getD_none,R.errV,mQ]at hR;have HR:Hid (l6 (ac ns) work.data.toList a.data.toList b.data.toList=.error 1):=ab (by unfold l6;rw[if_neg (by rw[htg];decide),hr]);clear hr htg;go_enter func146,ntmps146;go_upto_region 1 with fail;rw[<-hW0];clear hW0;go_wp2_with (first|(go_at_call 97;refine hT.mono ?_;clear hT;rintro e1 w1⟨rfl,hw⟩;obtain rfl:=hw.symm)|(go_at_call 180;refine hR.mono ?_;clear hR;rintro e1 w1⟨rfl,hb1⟩))
   go_ret;have hb01:=hb0.trans (hb1.mono hb0.size);rw[uh HR];exact⟨rfl,hb01.mono hBw,ak hb01⟩
  |some p=>
   rw[hr]at hR;simp only[Option.getD_some,R.errV]at hR;obtain⟨pb,hpb⟩:=aq (bs p);rw[<-hpb]at hR;have HPB:Hid (pb.data.toList=p):=ab (by rw[hpb,dh]);have HPX:=ab hpb;have hpl:pb.size<=170:=by rw[zE,uh HPB];exact jl hr
   have HR0:=ab hr;have HTG:=ab htg;clear hr hpb htg;by_cases hp0:p=[]
   .have HR:Hid (l6 (ac ns) work.data.toList a.data.toList b.data.toList=.error 9):=ab (by unfold l6;rw[if_neg (by rw[uh HTG];decide),uh HR0];simp only;rw[if_pos hp0]);have gp:(pb.toList==[])=true:=by rw[tD,uh HPB,hp0];rfl
    clear hp0;go_enter func146,ntmps146;go_upto_region 1 with fail;rw[<-hW0];clear hW0;go_wp2_with (first|(go_at_call 97;refine hT.mono ?_;clear hT;rintro e1 w1⟨rfl,hw⟩;obtain rfl:=hw.symm)|(go_at_call 180;refine hR.mono ?_;clear hR;rintro e1 w1⟨rfl,hb1⟩))
    go_ret;have hb01:=hb0.trans (hb1.mono hb0.size);rw[uh HR];exact⟨rfl,hb01.mono hBw,ak hb01⟩
   have gp:(pb.toList==[])=false:=by rw[tD,uh HPB];simpa using hp0
   have HP0:=ab hp0;clear hp0;go_enter func146,ntmps146;go_upto_region 1 with fail;rw[<-hW0];clear hW0;go_upto_region 8 with(first|(go_at_call 97;refine hT.mono ?_;clear hT;rintro e1 w1⟨rfl,hw⟩;obtain rfl:=hw.symm)|(go_at_call 180;refine hR.mono ?_;clear hR;rintro e1 w1⟨rfl,hb1⟩))
   have hb01:=hb0.trans (hb1.mono hb0.size);have hst1:=(uh HST).below hb1;have hm1:=cL hb1 (uh HM);have t1:=cL hb1 t0;have a1:=cL hb1 a0;have hLy:=dq sb r ns work ev ⟨pb,3,0,a⟩ B m w1 hst1 (by omega) (by exact nT hpl (by decide)) (ab (by unfold bc;simp[uh HTG])) (ab (by show pb.data.toList≠[];rw[uh HPB];exact uh HP0)) hm1;have HR:Hid (l6 (ac ns) work.data.toList a.data.toList b.data.toList=iY work.data.toList (aS (ac ns) ⟨pb,3,0,a⟩)):=ab (by unfold l6;rw[if_neg (by rw[uh HTG];decide),uh HR0];simp only;rw[if_neg (uh HP0),<-uh HPX,show bs a.data.toList=a by simp[bs]]);clear t0 a0 b0 hst1 hm1;cases hg:aS (ac ns) ⟨pb,3,0,a⟩with
   |error k=>
    rw[hg]at hLy HR;unfold bx at hLy;clear hg;go_wp2_with (go_at_call 175;refine hLy.mono ?_;clear hLy;rintro e2 w2⟨rfl,hb2,hx2⟩)
    go_ret;rw[uh HR];exact⟨rfl,(hb01.mono hBw).trans hb2,(ak hb01).trans hx2⟩
   |ok t=>
    rw[hg]at hLy HR;unfold bx at hLy;clear hg;go_wp2_with (go_at_call 175;refine hLy.mono ?_;clear hLy;rintro e2 w2⟨⟨rfl,ns',hst2,he2,hs2,hl2⟩,hb2,hx2⟩)
    go_ret;rw[uh HR];exact⟨⟨rfl,r,ns',work,hst2,he2,rfl,hws,by omega⟩,(hb01.mono hBw).trans hb2,(ak hb01).trans hx2⟩
theorem wD(r:Nd)(ns:List Nd)(B:Nat)(s:BA)(m:Int)(w:World)(hM:cw w B r ns)(HT:Hid (aO (ac ns)))(HP:Hid (b9 s.data.toList))(hB:B<=w.heap.size)(hs:s.size<=1048576)(hm:w.cell? ⟨1,0,none⟩=some (.int .i64 m)): Cl 181 #[.pointer (some ⟨r.nb,0,none⟩),.string s] w λev w'=>ev=.returned (.tuple #[])/\Hid (∃ns',cw w' B r ns'/\ac ns'=wo (ac ns) s.data.toList true/\eh w w' B r ns ns'/\ns'.length<=ns.length)/\Below B w w':=by
 have HM:=ab hm;have HMem:=ab hM;have HB:=ab hB;have HO:Hid (cX (ac ns) ns.length):=ab (by have:=(uh HT).ok;rwa [show (ac ns).length=ns.length from by simp[ac]]at this);clear hm hM hB;go_enter func181,ntmps181;go_upto_region 1 with(go_at_call 100;refine(eE s _ (by omega)).mono ?_;rintro ev w1⟨dd,nn,rfl,HD,HNm,hb1⟩)
 have hdd:dd.size<=1048576:=by rw[zE,uh HD];exact nT (mN _) (by rw[<-zE];exact hs)
 have hnn:nn.size<=1048576:=by rw[zE,uh HNm];exact nT (fQ _) (by rw[<-zE];exact hs)
 go_upto_region 2 with(go_at_call 101;refine(cY r ns B dd m _ ((uh HMem).below hb1) HO hdd (cL hb1 (uh HM))).mono ?_;rintro ev w2⟨v,rfl,HF,hb2⟩)
 have hB2:Bw w w2:=hb1.trans (hb2.mono hb1.size);have hM2:=(uh HMem).below hB2;have hBz:=uh HB;rcases uh HF with⟨rfl,hno⟩|⟨x,hx,rfl,hxp⟩
 .have R:Hid (wo (ac ns) s.data.toList true=ac ns):=ab (Jf (uh HT) hM2.root (uh HP) (λx hx=>by rw[<-uh HD];exact hno x hx));have HM2:=ab hM2;clear HF hno hM2;go_wp2_with fail;go_end0;exact⟨rfl,ab ⟨ns,uh HM2,(uh R).symm,eh.of_below hB2 hBz,nR _⟩,hB2.mono hBz⟩
 obtain⟨hx1,hx2,hx3,hx4⟩:=hM2.all x hx;have c4:w2.cell? ⟨x.nb,4,none⟩=some (.map (some x.mb)):=cell_of_row w2 x.nb 4 _ _ _ hx3;have HX:=ab hx;have HXp:=ab hxp;have HX4:=ab hx4;have HM2:=ab hM2;have HX2:=ab hx2;clear HF hM2 hx hxp hx3 hx4 hx1 hx2;go_wp2_with (at_delete;refine wpList_delete_own _ rfl _ _ 170 9 rfl 70 (Maps.string_keyed underlying9) underlying170 RK x.mb ns.length (DK (aB ns x.p)) rfl (uh HX4) (.string nn) (.string nn.data.toList) rfl (WideMaps.keyOf_string_mk underlying9 (s:=nn) (by unfold maxLen;omega)) ?_;intro w3 hown3 hturn3)
 go_end0;have hT:=uh HT;have hP:=uh HP;have hxd:x.p=al s.data.toList:=(uh HXp).trans (uh HD);have hkx:x∈r::Do Nd.p ns s.data.toList true:=by
  rcases mC.1 (uh HX)with e|e
  .rw[e];simp
  refine List.mem_cons_of_mem _ (List.mem_filter.2 ⟨e,dQ.2 ⟨λhu=>?_,λ_ he=>?_⟩⟩)
  .rw[hxd]at hu;exact bS _ (fX hP.under hu)
  have:=hP.under;rw[<-hxd,he]at this;exact bS _ this
 have hk3:KM w3 x.mb ns.length (aB (Do Nd.p ns s.data.toList true) x.p):=by have h:=hown3;rw[KX,uh HNm,hxd,<-yQ hT hP,<-hxd]at h;exact h
 refine⟨rfl,ab ⟨_,cw.turn (uh HM2) hkx (λz hz=>(List.mem_filter.1 hz).1) (vJ (uh HM2).apart _) hturn3.grown hk3 (λz hz hne=>?_),Hk _ _ _,⟨(hB2.mono hBz).grown hturn3.grown (nT hBz hB2.size) (λq hq=>by cases hq;exact uh HX2),λg hg ho=>(hturn3.grown.block g (Nat.lt_of_lt_of_le hg hB2.size) (by simpa using(ho x (uh HX)).2)).trans (hB2.block g hg),λy hy=>.inl ⟨y,(List.mem_filter.1 hy).1,rfl,rfl⟩⟩,List.length_filter_le _ _⟩,(hB2.mono hBz).grown hturn3.grown (nT hBz hB2.size) (λq hq=>by cases hq;exact uh HX2)⟩;refine vY hT ?_ (λ_ e=>hne (vR hT (uh HM2).root ?_ (uh HX) (e.trans hxd.symm))) (λh=>by cases h)
 .rcases mC.1 hz with e|e
  .have h0:z.p=[]:=by rw[e,Nd.p,(uh HM2).root];rfl
   rw[h0];refine dQ.2 ⟨λ⟨a,u,e1⟩=>by simp[prt]at e1,λ_ e1=>?_⟩;rw[<-e1]at hP;have h5:=congrArg List.length (show prt ([]:LU)=_ from hP);simp[prt]at h5
  exact(List.mem_filter.1 e).2
 rcases mC.1 hz with e|e
 .rw[e];simp
 exact List.mem_cons_of_mem _ (List.mem_filter.1 e).1
def fS(t:List aj)(work a:LU):Except Nat (List aj×LU):=match R.resP work a with
 |none=>.error 1
 |some p=>if p=[] then .error 9 else match nC t p with
  |none=>.error 8
  |some _=>.ok (wo t p true,work)
theorem Im(w:World)(a:Addr):(binOp BinOp.eql 70 (.pointer (some a)) (.pointer none)).run prog w=.ok (.bool false) w:=by kernel_rfl
theorem AH(sb:Nat)(r:Nd)(ns:List Nd)(work a:BA)(ev:Value)(ao:OA)(n cap:Nat)(ps:List BA)(sv sr:OA)(B:Nat)(m:Int)(w:World)(h:ed w B sb r ns work ev)(hn:ns.length<=400)(hws:work.size<=1048576)(hW:jD w ao n cap ps)(ha:ps[0]?=some a)(hm:w.cell? ⟨1,0,none⟩=some (.int .i64 m)): Cl 143 #[.pointer (some ⟨sb,0,none⟩),.agg #[.slice ao n cap,.pointer sv,.pointer sr]] w λe w'=>ma w' B sb ev e (fS (ac ns) work.data.toList a.data.toList)/\Below B w w'/\bm w w':=by
 obtain⟨g,rfl,ca,hn0,hal⟩:=hW.at ha;obtain⟨W0,hW0⟩:=aq (w.alloc (.cells #[.slice (some ⟨g,0,none⟩) n cap,.pointer sv,.pointer sr] 79));have hb0:=dw hW0;have hc0:=em hW0;have t0:=cq 0 hc0;have a0:=cL hb0 ca;have hst0:=h.below hb0;have hR:=dS sb work a m W0 hst0.c1 (by omega) (by omega) (cL hb0 hm);have hBw:=h.base;have hlim:=h.lim;have HST:=ab hst0;have HM:=ab (cL hb0 hm);have HC:=ab hc0;have hes:=cB;have hen:=eQ;have i0:(0:Int)<(n:Int):=by omega
 clear h hm ha hW ca hst0 hc0;cases hr:R.resP work.data.toList a.data.toList with
 |none=>
  rw[hr]at hR;simp only[Option.getD_none,R.errV,mQ]at hR;have HR:Hid (fS (ac ns) work.data.toList a.data.toList=.error 1):=ab (by unfold fS;rw[hr]);clear hr;go_enter func143,ntmps143;go_upto_region 1 with fail;rw[<-hW0];clear hW0;go_wp2_with (go_at_call 180;refine hR.mono ?_;clear hR;rintro e1 w1⟨rfl,hb1⟩)
  go_ret;have hb01:=hb0.trans (hb1.mono hb0.size);rw[uh HR];exact⟨rfl,hb01.mono hBw,ak hb01⟩
 |some p=>
  rw[hr]at hR;simp only[Option.getD_some,R.errV]at hR;obtain⟨pb,hpb⟩:=aq (bs p);rw[<-hpb]at hR;have HPB:Hid (pb.data.toList=p):=ab (by rw[hpb,dh]);have hpl:pb.size<=170:=by rw[zE,uh HPB];exact jl hr
  have HR0:=ab hr;clear hr hpb;go_enter func143,ntmps143;go_upto_region 1 with fail;rw[<-hW0];clear hW0;go_upto_region 4 with(go_at_call 180;refine hR.mono ?_;clear hR;rintro e1 w1⟨rfl,hb1⟩)
  have hb01:=hb0.trans (hb1.mono hb0.size);have hst1:=(uh HST).below hb1;have hm1:=cL hb1 (uh HM);clear a0 t0;by_cases hp0:p=[]
  .have HR:Hid (fS (ac ns) work.data.toList a.data.toList=.error 9):=ab (by unfold fS;rw[uh HR0];simp only;rw[if_pos hp0]);have g1:(pb.toList==[])=true:=by rw[tD,uh HPB,hp0];rfl
   clear hp0;go_wp2_with fail;go_ret;rw[uh HR];exact⟨rfl,hb01.mono hBw,ak hb01⟩
  have g1:(pb.toList==[])=false:=by rw[tD,uh HPB];simpa using hp0
  have hF:=cY r ns B pb m w1 hst1.mem (ab hst1.ok) (by omega) hm1;have s0:=hst1.c0;have HST1:=ab hst1;have HP0:=ab hp0;clear hst1 hm1 hp0;have HM1:=ab (cL hb1 (uh HM));cases hat:nC (ac ns) p with
  |none=>
   have hF2:Cl 101 #[.pointer (some ⟨r.nb,0,none⟩),.string pb] w1 λe w'=>e=.returned (.pointer none)/\Bw w1 w':=hF.mono (by
    rintro e w'⟨v,rfl,HF,hb⟩;refine⟨?_,hb⟩;have h2:=uh HF;rw[uh HPB]at h2;rcases kP (uh HST1).tree (uh HST1).mem.root (uh HP0) h2 with⟨rfl,_⟩|⟨x,_,_,_,e2⟩
    .rfl
    rw[hat]at e2;cases e2)
   have HR:Hid (fS (ac ns) work.data.toList a.data.toList=.error 8):=ab (by unfold fS;rw[uh HR0];simp only;rw[if_neg (uh HP0),hat]);have hpn:=Ii;clear hF hat
   go_wp2_with (go_at_call 101;refine hF2.mono ?_;clear hF2;rintro e2 w2⟨rfl,hb2⟩)
   go_ret;rw[uh HR];exact⟨rfl,(hb01.trans (hb2.mono hb01.size)).mono hBw,ak (hb01.trans (hb2.mono hb01.size))⟩
  |some e0=>
   have hF2:Cl 101 #[.pointer (some ⟨r.nb,0,none⟩),.string pb] w1 λe w'=>(∃x:Nd,x∈ns/\x.p=p/\e=.returned (.pointer (some ⟨x.nb,0,none⟩)))/\Bw w1 w':=hF.mono (by
    rintro e w'⟨v,rfl,HF,hb⟩;refine⟨?_,hb⟩;have h2:=uh HF;rw[uh HPB]at h2;rcases kP (uh HST1).tree (uh HST1).mem.root (uh HP0) h2 with⟨_,e2⟩|⟨x,hx,rfl,hxp,_⟩
    .rw[hat]at e2;cases e2
    exact⟨x,hx,hxp,rfl⟩)
   have HR:Hid (fS (ac ns) work.data.toList a.data.toList=.ok (wo (ac ns) p true,work.data.toList)):=ab (by unfold fS;rw[uh HR0];simp only;rw[if_neg (uh HP0),hat]);have hpo:=Im;clear hF hat
   go_upto_region 8 with(go_at_call 101;refine hF2.mono ?_;clear hF2;rintro e2 w2⟨⟨x,hx,hxp,rfl⟩,hb2⟩)
   have hst2:=(uh HST1).below hb2;have s2:=hst2.c0;have hb02:=hb01.trans (hb2.mono hb01.size);have hPt:b9 pb.data.toList:=by rw[uh HPB,<-hxp];exact dp hst2.tree hx
   have hRm:=wD r ns B pb m w2 hst2.mem (ab hst2.tree) (ab hPt) hst2.base (by omega) (cL hb2 (uh HM1));have HST2:=ab hst2;clear hst2 hPt s0 hx hxp;go_wp2_with (go_at_call 181;refine hRm.mono ?_;clear hRm;rintro e3 w3⟨rfl,HQ,hb3⟩)
   go_ret;obtain⟨ns',hM3,he3,hs3,hl3⟩:=uh HQ;rw[uh HPB]at he3;rw[uh HR];exact⟨⟨rfl,r,ns',work,(uh HST2).go hs3 hM3 (by rw[he3];exact IF (uh HST2).tree _ _),he3,rfl,hws,by omega⟩,(hb02.mono hBw).trans hb3,(ak hb02).trans (fJ (uh HST2).mem hs3.foot)⟩
end Go.Proofs.YtjhobnjdfhkohaaGreatDoor.T
namespace Go.Proofs.YtjhobnjdfhkohaaGreatDoor.T
open Go.Proofs.Tryz
open Go.RowKit
def fm(b:UInt8):Bool:=decide (48<=b.toNat/\b.toNat<=55)
def iM(l:LU):Nat:=l.foldl (λt b=>t*8+(b.toNat-48)) 0
def wz(acc:Nat):LU->Option Nat
 |[]=>some acc
 |b::l=>if 48<=b.toNat/\b.toNat<=55 then wz (acc*8+(b.toNat-48)) l else none
theorem uT:∀(l:LU) (acc:Nat),l.all fm=true->wz acc l=some (l.foldl (λt b=>t*8+(b.toNat-48)) acc)
 |[],_,_=>rfl
 |b::l,acc,h=>by rw[List.all_cons,bA]at h;have hb:=of_decide_eq_true h.1;rw[wz,if_pos hb,List.foldl_cons];exact uT l _ h.2
theorem DM(c:Int)(w:World):Cl 266 #[.int .u8 c] w λe w'=>e=.returned (.int .u8 (bits .or .u8 c 32))/\w'=w:=by go_enter func266,ntmps266;go_wp2;go_ret;exact⟨rfl,rfl⟩
def Ij:Option Nat->Value
 |some n=>.tuple #[.int .u64 n,.nilIface]
 |none=>.tuple #[.int .u64 0,.iface 290 (.int .i64 2)]
theorem ru(t:BA)(hne:t.size≠0)(hmax:t.size<=12)(w:World): Cl 243 #[.string t,.int .i64 8,.int .i64 0] w λe w'=>e=.returned (Ij (wz 0 t.data.toList))/\w'=Lib.bytesWorld w 5 t:=by
 have hemp:t.toList.isEmpty=false:=by rw[<-decide_eq_emptyBytes];exact dF (λh=>hne (by rw[h];rfl))
 have hcv:=Lib.run_convert_string_bytes (P:=prog) w 9 101 5 t underlying9 underlying101 underlying5;have hB:∀j,j<t.size->(Lib.bytesWorld w 5 t).cell? ⟨w.heap.size,j,none⟩=some (.int .u8 (t.data.toList.getD j 0).toNat):=λj hj=>Lib.bytesWorld_cell w 5 t j hj;obtain⟨W1,hW1⟩:=aq (Lib.bytesWorld w 5 t);rw[<-hW1]at hcv hB⊢;clear hW1;obtain⟨bs,hL⟩:=aq t.data.toList;have hLn:bs.length=t.size:=by rw[hL,zE]
 rw[<-hL]at hB⊢;clear hL;have hmv:IntKind.u64.wrap (IntKind.u64.wrap 18446744073709551616-1)=18446744073709551615:=by rw[IntKind.wrap_u64,IntKind.wrap_u64];decide
 go_enter func243,ntmps243;go_wp2;go_loop [12,13,101] (λvu vn vi=>∃(k acc:Nat) (a:Int),vu=.bool false/\vn=.int .u64 a/\vi=.int .i64 k/\k<=t.size/\Hid (a=(acc:Int)/\acc<8 ^ k/\wz 0 bs=wz acc (bs.drop k))) (λ_ _ vi=>t.size-(intOf vi).toNat);case atStart=>exact⟨0,0,0,rfl,rfl,rfl,by omega,rfl,by decide,rfl⟩
 case round=>
  obtain⟨k,acc,a,rfl,rfl,rfl,hk,hh⟩:=hrel;obtain⟨ha,hacc,hdec⟩:=hh.out;clear hh;have h8:(8:Nat) ^ k<=8 ^ 12:=Nat.pow_le_pow_right (by omega) (by omega);have h12:(8:Nat) ^ 12=68719476736:=by decide
  rw[h12]at h8;have a0:0<=a:=by omega
  have a1:a<68719476736:=by omega
  clear h12;by_cases hkn:k<t.size
  .have hc:=hB k hkn;have hdrop:bs.drop k=bs[k]'(by omega)::bs.drop (k+1):=List.drop_eq_getElem_cons (by omega);have hget:bs.getD k 0=bs[k]'(by omega):=by simp[List.getD,gG (show k<bs.length by omega)]
   rw[hdrop]at hdec;rw[hget]at hc;generalize bs[k]'(by omega)=c at hc hdec;have hc256:c.toNat<256:=c.toNat_lt;clear hB hdrop hget;by_cases hdig:48<=c.toNat/\c.toNat<=55
   .have hF:wz acc (c::bs.drop (k+1))=wz (acc*8+(c.toNat-48)) (bs.drop (k+1)):=by rw[wz,if_pos hdig]
    obtain⟨hd0,hd1⟩:=hdig;have HN:Hid (a*8+((c.toNat:Int)-48)=((acc*8+(c.toNat-48):Nat):Int)/\acc*8+(c.toNat-48)<8 ^ (k+1)/\wz 0 bs=wz (acc*8+(c.toNat-48)) (bs.drop (k+1))):=ab ⟨by omega,by rw[Nat.pow_succ];omega,hdec.trans hF⟩;have i57:c.toNat<=57:=by omega
    have i8:(c.toNat:Int)-48<8:=by omega
    have icut:a<2305843009213693952:=by omega
    have iov:a*8+((c.toNat:Int)-48)<18446744073709551616:=by omega
    clear hacc hF hdec ha h8;go_wp2;refine⟨⟨k+1,acc*8+(c.toNat-48),a*8+((c.toNat:Int)-48),rfl,(by first|rfl|(congr 1;omega)),(by first|rfl|(congr 1;omega)),by omega,HN⟩,by simp[intOf];omega⟩
   have hF:wz acc (c::bs.drop (k+1))=none:=by rw[wz,if_neg hdig]
   rw[hF]at hdec;clear hacc hF ha h8;have hv0:=bits_lo_u8 .or (c.toNat:Int) 32;have hv1:=bits_hi_u8 .or (c.toNat:Int) 32;have hu0:=bits_lo_u8 .or 95 32;have hu1:=bits_hi_u8 .or 95 32;go_wp2_with (go_at_call 266;refine(DM _ _).mono ?_;rintro e w'⟨rfl,rfl⟩)
   all_goals go_ret2
   all_goals first|exact⟨rfl,rfl⟩|exact⟨by rw[hdec];rfl,rfl⟩
  have hkk:k=t.size:=by omega
  subst hkk;have hF:wz acc (bs.drop t.size)=some acc:=by rw[List.drop_eq_nil_of_le (by omega)];rfl
  rw[hF]at hdec;subst ha;clear hacc hF a0 a1 h8;go_wp2;go_ret2;first|exact⟨rfl,rfl⟩|exact⟨by rw[hdec];rfl,rfl⟩
theorem rz(w:World):Cl 243 #[.string ⟨#[]⟩,.int .i64 8,.int .i64 0] w λe w'=>e=.returned (Ij none)/\w'=w:=by go_enter func243,ntmps243;go_wp2;go_ret2;exact⟨rfl,rfl⟩
theorem EE:∀(l:LU) (acc k n:Nat),acc<8 ^ k->wz acc l=some n->n<8 ^ (k+l.length)
 |[],acc,k,n,h,e=>by cases e;exact h
 |b::l,acc,k,n,h,e=>by
  rw[wz]at e;split at e
  .rename_i hb;have:=EE l _ (k+1) n (by rw[Nat.pow_succ];omega) e;rw[lC,show k+(l.length+1)=k+1+l.length by omega];exact this
  cases e
def Jb(l:LU):Option Nat:=if l=[] then none else wz 0 l
theorem AG{l:LU}{n:Nat}(hl:l.length<=12)(h:Jb l=some n):n<68719476736:=by
 unfold Jb at h;split at h
 .cases h
 have:=EE l 0 0 n (by decide) h;have h8:(8:Nat) ^ (0+l.length)<=8 ^ 12:=Nat.pow_le_pow_right (by omega) (by omega);have h12:(8:Nat) ^ 12=68719476736:=by decide
 omega
theorem xJ(w:World)(t:BA):Bw w (Lib.bytesWorld w 5 t):= ⟨rfl,rfl,rfl,by rw[Lib.bytesWorld_size];omega,λk hk=>Lib.bytesWorld_at_old w 5 t k hk⟩
theorem jd(t:BA)(hmax:t.size<=12)(w:World): Cl 243 #[.string t,.int .i64 8,.int .i64 0] w λe w'=>e=.returned (Ij (Jb t.data.toList))/\Bw w w':=by
 by_cases h0:t.size=0
 .have ht:t=⟨#[]⟩:=by apply ByteArray.ext;exact Array.eq_empty_of_size_eq_zero h0
  subst ht;exact(rz w).mono λe w' ⟨he,hw⟩=>⟨he,by rw[hw];exact bR _ _⟩
 have hne:t.data.toList≠[]:=λh=>h0 (by rw[zE,h];rfl);refine(ru t h0 hmax w).mono λe w' ⟨he,hw⟩=>⟨?_,by rw[hw];exact xJ w t⟩
 rw[he,Jb,if_neg hne]
def NW(l:LU)(v er:Value):Prop:=(∃x:Int,v=.int .i64 x)/\(er=.nilIface\/er=.iface 290 (.int .i64 2))/\(l≠[]->l.all fm=true->er=.nilIface/\v=.int .i64 (iM l))
theorem Bh{s:BA}(h0:0<s.size)(h:¬(48<=s[0].toNat/\s[0].toNat<=55)):s.data.toList.all fm=false:=by rw[List.all_eq_false];refine⟨s[0],?_,by simpa[fm]using h⟩;rw[show s[0]=s.data[0] from rfl];simp
theorem sL(s:BA)(w:World)(hs:s.size<=12): Cl 219 #[.string s,.int .i64 8,.int .i64 0] w λev w'=>∃v er,ev=.returned (.tuple #[v,er])/\Hid (NW s.data.toList v er)/\Bw w w':=by
 have hmv:IntKind.u64.wrap 9223372036854775808=9223372036854775808:=by rw[IntKind.wrap_u64];decide
 have hq2:∀W,(binOp .neq 45 (.iface 290 (.int .i64 2)) (.iface 290 (.int .i64 1))).run prog W=.ok (.bool true) W:=λW=>Lib.run_neq_iface_int W 2 1 underlying45 (by kernel_rfl) underlying290;by_cases h0:s.size=0
 .have ht:s=⟨#[]⟩:=by apply ByteArray.ext;exact Array.eq_empty_of_size_eq_zero h0
  subst ht;go_enter func219,ntmps219;go_wp2;go_ret2;exact⟨_,_,rfl,ab ⟨⟨_,rfl⟩,.inr rfl,λh=>absurd rfl h⟩,bR _ _⟩
 have h1:0<s.size:=by omega
 have hemp:s.toList.isEmpty=false:=by rw[<-decide_eq_emptyBytes];exact dF (λh=>h0 (by rw[h];rfl))
 by_cases hp:s[0].toNat=43
 .have HO:Hid (s.data.toList.all fm=false):=ab (Bh h1 (by omega));have hU:=jd (s.extract 1 s.size) (by rw[ByteArray.size_extract];omega) w;cases hr:Jb (s.extract 1 s.size).data.toList with
  |none=>
   rw[hr,Ij]at hU;clear hr;go_enter func219,ntmps219;go_wp2_with (go_at_call 243;refine hU.mono ?_;clear hU;rintro ev w1⟨rfl,hb1⟩)
   go_ret2;exact⟨_,_,rfl,ab ⟨⟨_,rfl⟩,.inr rfl,λ_ h=>by rw[uh HO]at h;cases h⟩,hb1⟩
  |some n=>
   have hn:=AG (by rw[<-zE,ByteArray.size_extract];omega) hr;obtain⟨a,ha⟩:∃a:Int,a=(n:Int):=⟨_,rfl⟩
   rw[hr,Ij,<-ha]at hU;have a0:0<=a:=by omega
   have a1:a<9223372036854775808:=by omega
   clear hr hn ha;go_enter func219,ntmps219;go_wp2_with (go_at_call 243;refine hU.mono ?_;clear hU;rintro ev w1⟨rfl,hb1⟩)
   go_ret2;exact⟨_,_,rfl,ab ⟨⟨_,rfl⟩,.inl rfl,λ_ h=>by rw[uh HO]at h;cases h⟩,hb1⟩
 by_cases hq:s[0].toNat=45
 .have HO:Hid (s.data.toList.all fm=false):=ab (Bh h1 (by omega));have hU:=jd (s.extract 1 s.size) (by rw[ByteArray.size_extract];omega) w;cases hr:Jb (s.extract 1 s.size).data.toList with
  |none=>
   rw[hr,Ij]at hU;clear hr;go_enter func219,ntmps219;go_wp2_with (go_at_call 243;refine hU.mono ?_;clear hU;rintro ev w1⟨rfl,hb1⟩)
   go_ret2;exact⟨_,_,rfl,ab ⟨⟨_,rfl⟩,.inr rfl,λ_ h=>by rw[uh HO]at h;cases h⟩,hb1⟩
  |some n=>
   have hn:=AG (by rw[<-zE,ByteArray.size_extract];omega) hr;obtain⟨a,ha⟩:∃a:Int,a=(n:Int):=⟨_,rfl⟩
   rw[hr,Ij,<-ha]at hU;have a0:0<=a:=by omega
   have a1:a<9223372036854775808:=by omega
   clear hr hn ha;go_enter func219,ntmps219;go_wp2_with (go_at_call 243;refine hU.mono ?_;clear hU;rintro ev w1⟨rfl,hb1⟩)
   go_ret2;exact⟨_,_,rfl,ab ⟨⟨_,rfl⟩,.inl rfl,λ_ h=>by rw[uh HO]at h;cases h⟩,hb1⟩
 have hU:=jd s hs w;have hne:s.data.toList≠[]:=λh=>h0 (by rw[zE,h];rfl);cases hr:Jb s.data.toList with
 |none=>
  have HO:Hid (s.data.toList.all fm=false):=ab (by
   cases h:s.data.toList.all fm with
   |false=>rfl
   |true=>rw[Jb,if_neg hne,uT _ _ h]at hr;cases hr)
  rw[hr,Ij]at hU;clear hr hne;go_enter func219,ntmps219;go_wp2_with (go_at_call 243;refine hU.mono ?_;clear hU;rintro ev w1⟨rfl,hb1⟩)
  go_ret2;exact⟨_,_,rfl,ab ⟨⟨_,rfl⟩,.inr rfl,λ_ h=>by rw[uh HO]at h;cases h⟩,hb1⟩
 |some n=>
  have hn:=AG (by rw[<-zE];omega) hr;obtain⟨a,ha⟩:∃a:Int,a=(n:Int):=⟨_,rfl⟩
  have HO:Hid (s.data.toList.all fm=true->a=(iM s.data.toList:Nat)):=ab (λh=>by rw[Jb,if_neg hne,uT _ _ h]at hr;rw[ha];exact congrArg Int.ofNat (Option.some.inj hr).symm);rw[hr,Ij,<-ha]at hU;have a0:0<=a:=by omega
  have a1:a<9223372036854775808:=by omega
  clear hr hne hn ha;go_enter func219,ntmps219;go_wp2_with (go_at_call 243;refine hU.mono ?_;clear hU;rintro ev w1⟨rfl,hb1⟩)
  go_ret2;exact⟨_,_,rfl,ab ⟨⟨_,rfl⟩,.inl rfl,λ_ h=>⟨rfl,by rw[uh HO h];rfl⟩⟩,hb1⟩
theorem pP(fn s:BA)(te:Nat)(pe:Value)(w:World)(hlim:s.size<=281474976710656)(hv:w.cell? ⟨16,0,none⟩=some (.iface te pe)): Cl 244 #[.string fn,.string s] w λe w'=>∃N,e=.returned (.pointer (some ⟨N,0,none⟩))/\Bw w w':=by
 have hG:=World.block_lt_of_cell? _ _ hv;have mixed:prog.follows Departure.mixedOrders=true:=by kernel_rfl
 have hvd:=hv;go_enter func244,ntmps244;go_wp2;go_region_with_o (
  go_at_call 132
  refine(Tryz.stringslite_Clone s _ hlim).mono ?_
  rintro e w2⟨rfl,hbel⟩
  have hv2:=(hbel.cell (show (⟨16,0,none⟩:Addr).block<w.drew.heap.size from hG)).trans hvd)
 all_goals (
  go_wp2
  go_ret
  have hs2:=hbel.size
  exact⟨_,rfl,((Below.drew (bR _ w)).trans hbel).alloc hs2 _⟩)
theorem ya(fn s:BA)(base bits:Int)(te:Nat)(pe:Value)(w:World)(hlim:s.size<=281474976710656)(hv:w.cell? ⟨16,0,none⟩=some (.iface te pe)): Cl 220 #[.string fn,.string s,.int .i64 base,.int .i64 bits,.iface 290 (.int .i64 2)] w λe w'=>∃N,e=.returned (.iface 293 (.pointer (some ⟨N,0,none⟩)))/\Bw w w':=by
 have heq:∀W,(binOp .eql 45 (.iface 290 (.int .i64 2)) (.iface 290 (.int .i64 2))).run prog W=.ok (.bool true) W:=λW=>Lib.run_eql_iface_int W 2 2 underlying45 (by kernel_rfl) underlying290;have h:=pP fn s te pe w hlim hv;clear hv;go_enter func220,ntmps220;go_wp2_with (go_at_call 244;refine h.mono ?_;clear h;rintro ev w1⟨N,rfl,hb1⟩)
 go_ret;exact⟨N,rfl,hb1⟩
def Nu(l:LU)(v er:Value):Prop:=(∃x:Int,v=.int .i64 x)/\(er=.nilIface\/∃N,er=.iface 293 (.pointer (some ⟨N,0,none⟩)))/\(l≠[]->l.all fm=true->er=.nilIface/\v=.int .i64 (iM l))
theorem nS(s:BA)(te:Nat)(pe:Value)(w:World)(hs:s.size<=12)(hv:w.cell? ⟨16,0,none⟩=some (.iface te pe)): Cl 204 #[.string s,.int .i64 8,.int .i64 0] w λev w'=>∃v er,ev=.returned (.tuple #[v,er])/\Hid (Nu s.data.toList v er)/\Bw w w':=by
 have h:=sL s w hs;have HV:=ab hv;clear hv;go_enter func204,ntmps204;go_upto_region 2 with(go_at_call 219;refine h.mono ?_;clear h;rintro ev w1⟨v,er,rfl,HO,hb1⟩)
 obtain⟨⟨x,rfl⟩,he,ho⟩:=uh HO;have HP:=ab ho;clear HO ho;rcases he with rfl|rfl
 .have HQ:Hid (s.data.toList≠[]->s.data.toList.all fm=true->x=(iM s.data.toList:Nat)):=ab (λa b=>by have:=(uh HP a b).2;injection this);clear HP;go_wp2_with fail;go_ret2;exact⟨_,_,rfl,ab ⟨⟨_,rfl⟩,.inl rfl,λa b=>⟨rfl,by rw[uh HQ a b];rfl⟩⟩,hb1⟩
 have h3:=ya ⟨#[80,97,114,115,101,73,110,116]⟩ s 8 0 te pe w1 (by omega) (cL hb1 (uh HV));have HQ:Hid (s.data.toList≠[]->s.data.toList.all fm=true->False):=ab (λa b=>by have:=(uh HP a b).1;cases this);clear HP;go_wp2_with (go_at_call 220;refine h3.mono ?_;clear h3;rintro ev w2⟨N,rfl,hb2⟩)
 go_ret2;exact⟨_,_,rfl,ab ⟨⟨_,rfl⟩,.inr ⟨N,rfl⟩,λa b=>(uh HQ a b).elim⟩,hb1.trans (hb2.mono hb1.size)⟩
end Go.Proofs.YtjhobnjdfhkohaaGreatDoor.T
namespace Go.Proofs.YtjhobnjdfhkohaaGreatDoor.T
open Go.Proofs.Tryz
open Go.RowKit Go.Maps
theorem DH(s:BA)(te:Nat)(pe:Value)(w:World)(hm:fU s.data.toList=true)(hv:w.cell? ⟨16,0,none⟩=some (.iface te pe)): Cl 184 #[.string s] w λe w'=>e=.returned (.int .i64 ((iM s.data.toList:Nat):Int))/\Bw w w':=by
 unfold fU at hm;simp only[bA,decide_eq_true_eq]at hm;have hs:s.size=3:=by rw[zE];exact hm.1
 have hne:s.data.toList≠[]:=λe=>by rw[e]at hm;simp at hm
 have hall:=hm.2;have hP:=nS s te pe w (by omega) hv;have hP2:Cl 204 #[.string s,.int .i64 8,.int .i64 0] w λev w'=>ev=.returned (.tuple #[.int .i64 ((iM s.data.toList:Nat):Int),.nilIface])/\Bw w w':=hP.mono (by rintro ev w'⟨v,er,rfl,H,hb⟩;obtain⟨_,_,h3⟩:=uh H;obtain⟨rfl,rfl⟩:=h3 hne hall;exact⟨rfl,hb⟩);obtain⟨x,hx⟩:∃x:Int,x=((iM s.data.toList:Nat):Int):=⟨_,rfl⟩
 rw[<-hx]at hP2⊢;clear hP hx hall hne hm hv hs;go_enter func184,ntmps184;go_wp2_with (go_at_call 204;refine hP2.mono ?_;clear hP2;rintro e1 w1⟨rfl,hb1⟩)
 go_ret;exact⟨rfl,hb1⟩
theorem JR{l:LU}(h:fU l=true):iM l<=511:=by
 unfold fU at h;simp only[bA,decide_eq_true_eq]at h;match l,h with
 |[a,b,c],h=>have h2:=h.2;simp only[List.all_cons,List.all_nil,Bool.and_true,bA,wn,decide_eq_true_eq]at h2;simp only[iM,List.foldl];omega
def fR(t:List aj)(work a md:LU):Except Nat (List aj×LU):=match R.resP work a with
 |none=>.error 1
 |some p=>match cK t p with
  |.error k=>.error k
  |.ok t'=>if p=[] then .error 9 else iY work (eT t' ⟨bs p,1,(iM md:Nat),⟨#[]⟩⟩)
theorem jD.obj{w:World}{g n cap:Nat}{ps:List BA}{y:BA}{k:Nat}(h:jD w (some ⟨g,0,none⟩) n cap ps)(hk:ps[k]?=some y):∃cur:Array Value,w.heap[g]?=some (.cells cur 9 (0,0)):=by
 obtain⟨B,hO⟩:=h.row;have h1:=hO;unfold Own at h1;rcases h1.2 with⟨hv,h0⟩|⟨g',cap',cur,e,_,hg,_⟩
 .cases hv
 injection e with e _ _;injection e with e;injection e with e _ _;subst e;exact⟨cur,hg⟩
theorem Ap(sb:Nat)(r:Nd)(ns:List Nd)(work a md:BA)(ev:Value)(ao:OA)(cap:Nat)(ps:List BA)(sv sr:OA)(B te:Nat)(pe:Value)(m:Int)(w:World)(h:ed w B sb r ns work ev)(hn:ns.length<=400)(hws:work.size<=1048576)(hW:jD w ao 2 cap ps)(ha:ps[0]?=some a)(hb:ps[1]?=some md)(hmd:fU md.data.toList=true)(h20:20<B)(hv:w.cell? ⟨16,0,none⟩=some (.iface te pe))(hm:w.cell? ⟨1,0,none⟩=some (.int .i64 m)): Cl 145 #[.pointer (some ⟨sb,0,none⟩),.agg #[.slice ao 2 cap,.pointer sv,.pointer sr]] w λe w'=>ma w' B sb ev e (fR (ac ns) work.data.toList a.data.toList md.data.toList)/\Below B w w'/\bm w w':=by
 obtain⟨g,rfl,ca,hn0,hal⟩:=hW.at ha;obtain⟨g',hg',cb,hn1,hbl⟩:=hW.at hb;cases hg';obtain⟨cur,hcur⟩:=hW.obj ha;obtain⟨W0,hW0⟩:=aq (w.alloc (.cells #[.slice (some ⟨g,0,none⟩) 2 cap,.pointer sv,.pointer sr] 79));have hb0:=dw hW0;have hc0:=em hW0;have t0:=cq 0 hc0;have a0:=cL hb0 ca;have hst0:=h.below hb0;have hR:=dS sb work a m W0 hst0.c1 (by omega) (by omega) (cL hb0 hm);have hBw:=h.base;have hlim:=h.lim;have HST:=ab hst0;have HM:=ab (cL hb0 hm);have HV:=ab (cL hb0 hv);have HC:=ab hc0;have HCU:=ab ((hb0.block g (gA hcur)).trans hcur);have HCB:=ab (cL hb0 cb);have hes:=cB;have hen:=eQ;clear h hm ha hb hW ca cb hst0 hc0 hcur hv;cases hr:R.resP work.data.toList a.data.toList with
 |none=>
  rw[hr]at hR;simp only[Option.getD_none,R.errV,mQ]at hR;have HR:Hid (fR (ac ns) work.data.toList a.data.toList md.data.toList=.error 1):=ab (by unfold fR;rw[hr]);clear hr;go_enter func145,ntmps145;go_upto_region 1 with fail;rw[<-hW0];clear hW0;go_wp2_with (go_at_call 180;refine hR.mono ?_;clear hR;rintro e1 w1⟨rfl,hb1⟩)
  go_ret;have hb01:=hb0.trans (hb1.mono hb0.size);rw[uh HR];exact⟨rfl,hb01.mono hBw,ak hb01⟩
 |some p=>
  rw[hr]at hR;simp only[Option.getD_some,R.errV]at hR;obtain⟨pb,hpb⟩:=aq (bs p);rw[<-hpb]at hR;have HPB:Hid (pb.data.toList=p):=ab (by rw[hpb,dh]);have HPX:=ab hpb;have hpl:pb.size<=170:=by rw[zE,uh HPB];exact jl hr
  have HR0:=ab hr;clear hr hpb;go_enter func145,ntmps145;go_upto_region 1 with fail;rw[<-hW0];clear hW0;go_upto_region 4 with(go_at_call 180;refine hR.mono ?_;clear hR;rintro e1 w1⟨rfl,hb1⟩)
  have hb01:=hb0.trans (hb1.mono hb0.size);have hst1:=(uh HST).below hb1;have hm1:=cL hb1 (uh HM);clear a0 t0;have hMk:=dO sb r ns work pb ev B m w1 hst1 (by omega) (by omega) hm1;rw[uh HPB]at hMk;have HST1:=ab hst1;have HM1:=ab hm1;have t1:=cL hb1 (cq 0 (uh HC));have HC1:=ab ((hb1.block w.heap.size (gA (uh HC))).trans (uh HC));have HCU1:=ab ((hb1.block g (gA (uh HCU))).trans (uh HCU));have HCB1:=ab (cL hb1 (uh HCB));have HV1:=ab (cL hb1 (uh HV));clear hst1 hm1;cases hg:cK (ac ns) p with
  |error k=>
   rw[hg]at hMk;unfold bx at hMk;have HR:Hid (fR (ac ns) work.data.toList a.data.toList md.data.toList=.error k):=ab (by unfold fR;rw[uh HR0];simp only;rw[hg]);clear hg;go_wp2_with (go_at_call 178;refine hMk.mono ?_;clear hMk;rintro e2 w2⟨rfl,hb2,hx2⟩)
   go_ret;rw[uh HR];exact⟨rfl,(hb01.mono hBw).trans hb2,(ak hb01).trans hx2⟩
  |ok t=>
   rw[hg]at hMk;unfold bx at hMk;go_upto_region 5 with(go_at_call 178;refine hMk.mono ?_;clear hMk;rintro e2 w2⟨⟨rfl,ns',hst2,he2,hs2,hl2⟩,hb2,hx2⟩)
   have t2:=cq 0 (hx2 _ _ _ _ (uh HC1) (by decide) (by decide));have b2:=(b8 (W:=w1) (a:=⟨g,1,none⟩) ((hx2 _ _ _ _ (uh HCU1) (by decide) (by decide)).trans (uh HCU1).symm)).trans (uh HCB1);have hm2:=BC (uh HM1) hlim hb2;have hv2:=(hb2.cell (p:=⟨16,0,none⟩) (by show 16<B;omega)).trans (uh HV1);have hB2:=(hb01.mono hBw).trans hb2;have hX2:=(ak hb01).trans hx2;have hBz:=hst2.base;clear hs2 t1;by_cases hp0:p=[]
   .have HR:Hid (fR (ac ns) work.data.toList a.data.toList md.data.toList=.error 9):=ab (by unfold fR;rw[uh HR0];simp only;rw[hg];simp only;rw[if_pos hp0]);have gp:(pb.toList==[])=true:=by rw[tD,uh HPB,hp0];rfl
    clear hp0 hg;go_wp2_with fail;go_ret;rw[uh HR];exact⟨rfl,hB2,hX2⟩
   have gp:(pb.toList==[])=false:=by rw[tD,uh HPB];simpa using hp0
   have HP0:=ab hp0;have HR:Hid (fR (ac ns) work.data.toList a.data.toList md.data.toList=iY work.data.toList (eT (ac ns') ⟨pb,1,((iM md.data.toList:Nat):Int),⟨#[]⟩⟩)):=ab (by unfold fR;rw[uh HR0];simp only;rw[hg];simp only;rw[if_neg hp0,he2,<-uh HPX]);have hO:=DH md te pe w2 hmd hv2;obtain⟨x,hx⟩:∃x:Int,x=((iM md.data.toList:Nat):Int):=⟨_,rfl⟩
   have hx9:0<=x/\x<=511:=by have:=JR hmd;omega
   rw[<-hx]at hO HR;have hLy:∀W,Bw w2 W->Cl 183 #[.pointer (some ⟨sb,0,none⟩),.agg #[.string pb,.int .i64 1,.int .i64 x,.string ⟨#[]⟩]] W λv w'=>bx W w' B sb r ns' work ev 1 v (eT (ac ns') ⟨pb,1,x,⟨#[]⟩⟩)/\Below B W w'/\bm W w':=λW hbW=>Bi sb r ns' work ev ⟨pb,1,x,⟨#[]⟩⟩ B m W (hst2.below hbW) (by omega) (by exact nT hpl (by decide)) (ab (by unfold bc;simp[ci,hx9])) (ab (by show pb.data.toList≠[];rw[uh HPB];exact uh HP0)) (cL hbW hm2);clear hp0 hg hx hst2 hm2 hv2 he2;cases hgg:eT (ac ns') ⟨pb,1,x,⟨#[]⟩⟩with
   |error k=>
    rw[hgg]at HR;simp only[hgg,bx]at hLy;clear hgg;go_wp2_with (first|(go_at_call 184;refine hO.mono ?_;clear hO;rintro e3 w3⟨rfl,hb3⟩)|(go_at_call 183;refine(hLy _ hb3).mono ?_;clear hLy;rintro e4 w4⟨rfl,hb4,hx4⟩))
    go_ret;rw[uh HR];exact⟨rfl,(hB2.trans (hb3.mono hBz)).trans hb4,(hX2.trans (ak hb3)).trans hx4⟩
   |ok t4=>
    rw[hgg]at HR;simp only[hgg,bx]at hLy;clear hgg;go_wp2_with (first|(go_at_call 184;refine hO.mono ?_;clear hO;rintro e3 w3⟨rfl,hb3⟩)|(go_at_call 183;refine(hLy _ hb3).mono ?_;clear hLy;rintro e4 w4⟨⟨rfl,ns4,hst4,he4,hs4,hl4⟩,hb4,hx4⟩))
    go_ret;rw[uh HR];exact⟨⟨rfl,r,ns4,work,hst4,he4,rfl,hws,by omega⟩,(hB2.trans (hb3.mono hBz)).trans hb4,(hX2.trans (ak hb3)).trans hx4⟩
end Go.Proofs.YtjhobnjdfhkohaaGreatDoor.T
namespace Go.Proofs.YtjhobnjdfhkohaaGreatDoor.T
open Go.Proofs.Tryz
open Go.RowKit
theorem El{c:aj}{m:Nat}(h:C0 c m):(az c).length<=6000:=by have h1:=aW 5 (fH c) (by have:=qr h;simp;omega);have h2:=h.file;have h3:ox (cu c).length<512:=Nat.mod_lt _ (by omega);simp only[az,lA,mV h,oe h,bg h1,List.length_replicate,lC,lN];omega
structure St where
 a:Nat
 b:Nat
 c:Nat
 d:Nat
 e:Nat
 f:Nat
 g:Nat
 q:Nat
def St.list(v:St):List Nat:=[v.a,v.b,v.c,v.d,v.e,v.f,v.g,v.q]
def St.ok(v:St):Prop:=v.a<4294967296/\v.b<4294967296/\v.c<4294967296/\v.d<4294967296/\v.e<4294967296/\v.f<4294967296/\v.g<4294967296/\v.q<4294967296
def Ks:List Nat:=[1116352408,1899447441,3049323471,3921009573,961987163,1508970993,2453635748,2870763221,3624381080,310598401,607225278,1426881987,1925078388,2162078206,2614888103,3248222580,3835390401,4022224774,264347078,604807628,770255983,1249150122,1555081692,1996064986,2554220882,2821834349,2952996808,3210313671,3336571891,3584528711,113926993,338241895,666307205,773529912,1294757372,1396182291,1695183700,1986661051,2177026350,2456956037,2730485921,2820302411,3259730800,3345764771,3516065817,3600352804,4094571909,275423344,430227734,506948616,659060556,883997877,958139571,1322822218,1537002063,1747873779,1955562222,2024104815,2227730452,2361852424,2428436474,2756734187,3204031479,3329325298]
def FT(w:World):Prop:=∀i,i<64->w.cell? ⟨9,i,none⟩=some (.int .u32 ((Ks.getD i 0:Nat):Int))
theorem FT.below{w w':World}(h:FT w)(hb:Bw w w'):FT w':=λi hi=>cL hb (h i hi)
attribute [local go_sem] cJ dP
attribute [local go_sem] Go.wp_at_zero Go.wp_at_succ
def pl(v y:St)(k:Nat):List Nat:=(List.range 8).map λi=>if i<k then (v.list.getD i 0+y.list.getD i 0)%4294967296 else v.list.getD i 0
def St.add(v y:St):St:={ a:=(v.a+y.a)%4294967296,b:=(v.b+y.b)%4294967296,c:=(v.c+y.c)%4294967296,d:=(v.d+y.d)%4294967296,e:=(v.e+y.e)%4294967296,f:=(v.f+y.f)%4294967296,g:=(v.g+y.g)%4294967296,q:=(v.q+y.q)%4294967296 }
end Go.Proofs.YtjhobnjdfhkohaaGreatDoor.T
namespace Go.Proofs.YtjhobnjdfhkohaaGreatDoor.T
open Go.Proofs.Tryz
open Go.RowKit
attribute [local go_sem] cJ dP
attribute [local go_sem] Go.wp_at_zero Go.wp_at_succ
def H0:St:=⟨1779033703,3144134277,1013904242,2773480762,1359893119,2600822924,528734635,1541459225⟩
end Go.Proofs.YtjhobnjdfhkohaaGreatDoor.T
namespace Go.Proofs.YtjhobnjdfhkohaaGreatDoor.T
open Go.Proofs.Tryz
open Go.RowKit
theorem eF{T e:TypeId}{B b:Nat}{p:Value}{bs:List Value}{w w':World}(h:Lib.BuilderAt T e B b p bs w)(hb:Bw w w'):Lib.BuilderAt T e B b p bs w':=by obtain⟨h1,v,h2,h3,h4⟩:=h;refine⟨h1,v,(hb.block b (gA h2)).trans h2,h3.kept (lj hb) ?_,h4⟩;cases hv:v.ownBlock<;>simp
def mj(B b:Nat)(l:LU)(w:World):Prop:=Lib.IsBuilder 103 5 B b (Lib.byteCells l) w/\B<=w.heap.size
theorem mj.later{B b:Nat}{l:LU}{w w':World}(h:mj B b l w)(hb:Bw w w'):mj B b l w':=by
 refine⟨?_,nT h.2 hb.size⟩;rcases h.1 with h1|h1
 .exact .inl (eF h1 hb)
 exact .inr (eF h1 hb)
theorem nB(w:World):mj w.heap.size w.heap.size [] (w.alloc (.cells #[.pointer none,.slice none 0 0] 103)):= ⟨.inl ⟨nR _,.slice none 0 0,hN _ _,World.ownsRow_nil _ _ _ _,by simp[Value.ownBlock]⟩,by simp⟩
theorem eH(l:LU):(Lib.byteCells l).length=l.length:=by simp[Lib.byteCells]
theorem wb(B b:Nat)(l:LU)(c:Int)(x:UInt8)(w:World)(h:mj B b l w)(hc:c=(x.toNat:Int))(hl:l.length<=4294967296): Cl 122 #[.pointer (some ⟨b,0,none⟩),.int .u8 c] w λe w'=>e=.returned .nilIface/\mj B b (l++[x]) w'/\Below B w w':=by subst hc;refine(Tryz.Builder_WriteByte B b _ _ w h.1 (by rw[eH];omega) h.2).mono ?_;rintro e w'⟨rfl,hb,hbl⟩;refine⟨rfl,⟨.inr ?_,nT h.2 hbl.size⟩,hbl⟩;simpa[Lib.byteCells]using hb
theorem ws(B b:Nat)(l:LU)(s:BA)(w:World)(h:mj B b l w)(hl:l.length+s.size<=4294967296): Cl 36 #[.pointer (some ⟨b,0,none⟩),.string s] w λe w'=>e=.returned (.tuple #[.int .i64 s.size,.nilIface])/\mj B b (l++s.data.toList) w'/\Below B w w':=by refine(Tryz.Builder_WriteString B b _ _ w h.1 (by rw[eH];omega) h.2).mono ?_;rintro e w'⟨rfl,hb,hbl⟩;refine⟨rfl,⟨.inr ?_,nT h.2 hbl.size⟩,hbl⟩;simpa[Lib.byteCells,Lib.strCells]using hb
theorem E0(B b:Nat)(l:LU)(w:World)(h:mj B b l w): Cl 38 #[.pointer (some ⟨b,0,none⟩)] w λe w'=>e=.returned (.string ⟨l.toArray⟩)/\Below B w w':= Tryz.Builder_String_any B b l w h.1 h.2
structure NO(c:aj):Prop where
 pkc:∃m,C0 c m
 kind:c.kind=1\/c.kind=2\/c.kind=3\/c.kind=4\/c.kind=5
 part:(aD c).length<=100\/∃i,cT (aD c) ((aD c).length-101)=some i
end Go.Proofs.YtjhobnjdfhkohaaGreatDoor.T
