import Derived.Test.YtjhobnjdfhkohaaGreatDoorXAE
set_option linter.all false
set_option maxHeartbeats 2000000
set_option maxRecDepth 10000
namespace Go.Proofs.YtjhobnjdfhkohaaGreatDoor.T
open Go.Proofs.Tryz
open Go.RowKit
def kq(b:LU):LU×Int×LU:=
 if iz (bz b 156 1)=[53] then (Lib.trimSuffix (vZ b) [47],1,[])
 else if iz (bz b 156 1)=[50] then (vZ b,3,iz (bz b 157 100))
 else if iz (bz b 156 1)=[48] then ((jF (vZ b)).1,(jF (vZ b)).2,[])
 else ([],0,[])
structure ul(xs:LU)(c:aj):Prop where
 path:c.path=bt (kq xs).1
 kind:c.kind=(kq xs).2.1
 data:c.data=bt (kq xs).2.2
 mode:lr (iz (bz xs 100 8)) c.mode
structure Rd(w:World):Prop where
 pk:Pk w
 syn:∃(te:Nat) (pe:Value),w.cell? ⟨16,0,none⟩=some (.iface te pe)
theorem Rd.below{w w':World}(h:Rd w)(hb:Bw w w'):Rd w':=by obtain⟨te,pe,hv⟩:=h.syn;exact⟨h.pk.below hb,te,pe,cL hb hv⟩
theorem Rd.f{w:World}(h:Rd w){b o n:Nat}(ht:(b,o,n)∈fieldTab):w.cell? ⟨b,0,none⟩=some (.int .i64 (o:Nat))/\w.cell? ⟨b,1,none⟩=some (.int .i64 (n:Nat)):=h.pk.f ht
theorem qh(b o n:Nat)(xs:LU)(w:World)(hk:fe w b xs)(hR:Rd w)(h:o+n<=512)(h0:0<n): Cl 257 #[.pointer (some ⟨b,0,none⟩),.agg #[.int .i64 (o:Nat),.int .i64 (n:Nat)]] w λev w'=>∃s:BA,ev=.returned (.string s)/\Hid (s=bt (iz (bz xs o n))/\s.size<=n)/\Bw w w':=by obtain⟨m,hm⟩:=hR.pk.max;refine(kR b o n xs m w hk h h0 hm).mono ?_;rintro e w'⟨s,rfl,HS,hb⟩;exact⟨s,rfl,ab ⟨uh HS,by rw[uh HS,bF];exact nT (qd _) (uL _ _ _)⟩,hb⟩
theorem ud(b o n:Nat)(xs:LU)(w:World)(hk:fe w b xs)(hR:Rd w)(h:o+n<=512)(h0:0<n)(h12:n<=12): Cl 237 #[.pointer (some ⟨b,0,none⟩),.agg #[.int .i64 (o:Nat),.int .i64 (n:Nat)]] w λev w'=>∃v:Int,ev=.returned (.int .i64 v)/\Hid (lr (iz (bz xs o n)) v)/\Bw w w':=by obtain⟨m,hm⟩:=hR.pk.max;obtain⟨te,pe,hv⟩:=hR.syn;exact AA b o n xs m te pe w hk h h0 h12 hm hv
theorem fe.drew{w:World}{b:Nat}{xs:LU}(h:fe w b xs):fe w.drew b xs:=h
theorem Rd.drew{w:World}(h:Rd w):Rd w.drew:=h.below ⟨rfl,rfl,rfl,nR _,λ_ _=>rfl⟩
theorem F2{sa sn s:BA}(ha:sa.size<=155)(hn:sn.size<=100)(h:s=bt (iI sa.data.toList sn.data.toList)):s.size<=256:=by
 rw[zE]at ha hn;rw[h,bF,iI];split
 .omega
 rw[lA,lC];omega
theorem dE{w w5:World}{v0 v1 v2 v3:Value}(h:Bw w w5):Bw w ((((w5.setCell ⟨w.heap.size,0,none⟩ v0).setCell ⟨w.heap.size,1,none⟩ v1).setCell ⟨w.heap.size,2,none⟩ v2).setCell ⟨w.heap.size,3,none⟩ v3):= (((h.setCell (p:=⟨w.heap.size,0,none⟩) (nR _) _).setCell (p:=⟨w.heap.size,1,none⟩) (nR _) _).setCell (p:=⟨w.heap.size,2,none⟩) (nR _) _).setCell (p:=⟨w.heap.size,3,none⟩) (nR _) _
theorem gO{w w5:World}{g k:Nat}{v0:Value}(h:Bw w w5)(hg:w.heap.size<g):Bw w (w5.setCell ⟨g,k,none⟩ v0):= h.setCell (p:=⟨g,k,none⟩) (Nat.le_of_lt hg) _
theorem AP(b:Nat)(xs:LU)(w:World)(hk:fe w b xs)(hR:Rd w): Cl 236 #[.pointer (some ⟨b,0,none⟩)] w λev w'=>∃c:aj,ev=.returned (.agg #[.string c.path,.int .i64 c.kind,.int .i64 c.mode,.string c.data])/\Hid (ul xs c)/\Bw w w':=by
 obtain⟨W0,hW0⟩:=aq (w.alloc (.cells #[.string ⟨#[]⟩,.int .i64 0,.int .i64 0,.string ⟨#[]⟩] 246));have hB0:=dw hW0;have hq0:=em hW0;have hR0:=hR.below hB0;obtain⟨a0,a1⟩:=hR0.f (b:=5) (o:=345) (n:=155) (by decide);obtain⟨n0,n1⟩:=hR0.f (b:=6) (o:=0) (n:=100) (by decide);have HK0:=ab (hk.below hB0);have HR0:=ab hR0;have HQ0:=ab hq0;clear hk hR hR0 hq0;go_enter func236,ntmps236;go_upto_region 1 with fail;rw[<-hW0];clear hW0;go_region_held3 (λw'=>w'.cell? ⟨5,0,none⟩=some (.int .i64 345)/\w'.cell? ⟨5,1,none⟩=some (.int .i64 155)/\w'.cell? ⟨6,0,none⟩=some (.int .i64 0)/\w'.cell? ⟨6,1,none⟩=some (.int .i64 100)) (first|exact⟨a0,a1,n0,n1⟩|exact⟨c0,c1,m0,m1⟩|exact⟨d0,d1,e0,e1⟩|go_keep) (first|(go_at_call_of 257 (Value.int IntKind.i64 345);refine(qh b 345 155 xs _ ?_ ?_ ?_ ?_).mono ?_;(exact(uh HK0).drew);(exact(uh HR0).drew);omega;omega;rintro ev w1⟨sa,rfl,HSA,hb1⟩;have c0:=cL (am hb1) a0;have c1:=cL (am hb1) a1;have m0:=cL (am hb1) n0;have m1:=cL (am hb1) n1)|(go_at_call_of 257 (Value.int IntKind.i64 0);refine(qh b 0 100 xs _ ?_ ?_ ?_ ?_).mono ?_;(exact(uh HK0).below (am hb1));(exact(uh HR0).below (am hb1));omega;omega;rintro ev w2⟨sn,rfl,HSN,hb2⟩;have d0:=cL hb2 c0;have d1:=cL hb2 c1;have e0:=cL hb2 m0;have e1:=cL hb2 m1)|(go_at_call 256;refine(xU sa sn _ ?_ ?_).mono ?_;(have:=(uh HSA).2;omega);(have:=(uh HSN).2;omega);rintro ev w3⟨s,rfl,HS,hw⟩;obtain rfl:=hw.symm));have hB2:=hB0.trans (((am hb1).trans (hb2.mono (am hb1).size)).mono hB0.size);have hB02:=(am hb1).trans (hb2.mono (am hb1).size);have HNm:Hid (s=bt (vZ xs)):=ab (by rw[uh HS,(uh HSA).1,(uh HSN).1,aK,aK];rfl);have hsz:=F2 (uh HSA).2 (uh HSN).2 (uh HS);have HK2:=ab ((uh HK0).below hB02);have hR2:=(uh HR0).below hB02;have HQ2:=ab (au hB02 _ _ _ _ (uh HQ0));have p0:=(hR2.f (b:=7) (o:=100) (n:=8) (by decide)).1;have p1:=(hR2.f (b:=7) (o:=100) (n:=8) (by decide)).2;have HR2:=ab hR2;clear hR2 HK0 HR0 HQ0 HSA HSN HS hb1 hb2 hB02 a0 a1 n0 n1 c0 c1 m0 m1 d0 d1 e0 e1 hB0;go_upto_region 3 with(go_at_call 237;refine(ud b 100 8 xs w2 (uh HK2) (uh HR2) (by omega) (by omega) (by omega)).mono ?_;rintro ev w3⟨v,rfl,HV,hb3⟩)
 obtain⟨W3,hW3⟩:=aq (w3.alloc (.cells #[.string ⟨#[]⟩,.int .i64 0,.int .i64 v,.string ⟨#[]⟩] 246));rw[<-hW3];have hB3:=dw hW3;have hB23:=hb3.trans (hB3.mono hb3.size);have hq3:=em hW3;have HQ3:=ab hq3;have HK3:=ab ((uh HK2).below hB23);have hR3:=(uh HR2).below hB23;have HZ3:=ab (au hB23 _ _ _ _ (uh HQ2));have p0:=(hR3.f (b:=8) (o:=156) (n:=1) (by decide)).1;have p1:=(hR3.f (b:=8) (o:=156) (n:=1) (by decide)).2;have HR3:=ab hR3;have hB3w:=hB2.trans (hB23.mono hB2.size);have hlt0:=Nat.lt_of_lt_of_le (gA (uh HQ2)) hb3.size;clear hR3 HK2 HR2 HQ2 hb3 hB23 hq3 hW3 hB3 hB2;go_upto_region 4 with(go_at_call 257;refine(qh b 156 1 xs W3 (uh HK3) (uh HR3) (by omega) (by omega)).mono ?_;rintro ev w4⟨kt,rfl,HKT,hb4⟩)
 have hkl:kt.data.toList=iz (bz xs 156 1):=by rw[(uh HKT).1,aK]
 have hq:=au hb4 _ _ _ _ (uh HQ3);have hz:=au hb4 _ _ _ _ (uh HZ3);have q0:=cq 0 hq;have q1:=cq 1 hq;have q2:=cq 2 hq;have q3:=cq 3 hq;have f0:=frz hq 0;have f1:=frz hq 1;have f2:=frz hq 2;have f3:=frz hq 3;have z0:=cq 0 hz;have z1:=cq 1 hz;have z2:=cq 2 hz;have z3:=cq 3 hz;have y0:=frz hz 0;have y1:=frz hz 1;have y2:=frz hz 2;have y3:=frz hz 3;have hB4:=hB3w.trans (hb4.mono hB3w.size);have hne:w3.heap.size≠w.heap.size:=by omega
 have hne2:w.heap.size≠w3.heap.size:=by omega
 have HKL:=ab hkl;have HHq:=ab hq;have HHz:=ab hz;clear hkl hq hz HQ3 HZ3 p0 p1;by_cases k5:iz (bz xs 156 1)=[53]
 .have g1:(kt.toList==[53])=true:=by rw[tD,uh HKL,k5];decide
  have HC:Hid (kq xs=(Lib.trimSuffix (vZ xs) [47],1,[])):=ab (by rw[kq,if_pos k5]);clear k5;go_wp2_with (go_at_call 258;refine(xZ s w4 (by omega)).mono ?_;rintro ev w5⟨t,rfl,HT,hw⟩;obtain rfl:=hw.symm)
  refine bodyPost_ret (v:=.agg #[.string t,.int .i64 1,.int .i64 v,.string ⟨#[]⟩]) (by simp[results,results236,go_sem,z0,z1,z2,z3]) rfl ⟨⟨t,1,v,⟨#[]⟩⟩,rfl,ab ⟨?_,?_,?_,uh HV⟩,dE (gO (gO hB4 hlt0) hlt0)⟩
  .rw[uh HC];show t=_;rw[uh HT,uh HNm,aK]
  .rw[uh HC]
  rw[uh HC];rfl
 have g1:(kt.toList==[53])=false:=by rw[tD,uh HKL];simpa using k5
 by_cases k2:iz (bz xs 156 1)=[50]
 .have g2:(kt.toList==[50])=true:=by rw[tD,uh HKL,k2];decide
  have HC:Hid (kq xs=(vZ xs,3,iz (bz xs 157 100))):=ab (by rw[kq,if_neg k5,if_pos k2]);have hR4:=(uh HR3).below hb4;have p0:=(hR4.f (b:=9) (o:=157) (n:=100) (by decide)).1;have p1:=(hR4.f (b:=9) (o:=157) (n:=100) (by decide)).2;have HT4:=ab (qh b 157 100 xs w4 ((uh HK3).below hb4) hR4 (by omega) (by omega));clear k5 k2 hR4;go_wp2_with (go_at_call 257;refine(uh HT4).mono ?_;rintro ev w5⟨t,rfl,HT,hb5⟩;have hq:=au hb5 _ _ _ _ (uh HHq);have hz:=au hb5 _ _ _ _ (uh HHz);have q0:w5.cell? ⟨w3.heap.size,0,none⟩=some (.string ⟨#[]⟩):=cq 0 hq;have q1:w5.cell? ⟨w3.heap.size,1,none⟩=some (.int .i64 0):=cq 1 hq;have q2:w5.cell? ⟨w3.heap.size,2,none⟩=some (.int .i64 v):=cq 2 hq;have q3:w5.cell? ⟨w3.heap.size,3,none⟩=some (.string ⟨#[]⟩):=cq 3 hq;have f0:=frz hq 0;have f1:=frz hq 1;have f2:=frz hq 2;have f3:=frz hq 3;have z0:w5.cell? ⟨w.heap.size,0,none⟩=some (.string ⟨#[]⟩):=cq 0 hz;have z1:w5.cell? ⟨w.heap.size,1,none⟩=some (.int .i64 0):=cq 1 hz;have z2:w5.cell? ⟨w.heap.size,2,none⟩=some (.int .i64 0):=cq 2 hz;have z3:w5.cell? ⟨w.heap.size,3,none⟩=some (.string ⟨#[]⟩):=cq 3 hz;have y0:=frz hz 0;have y1:=frz hz 1;have y2:=frz hz 2;have y3:=frz hz 3;have hB5:=hB4.trans (hb5.mono hB4.size);clear hq hz)
  refine bodyPost_ret (v:=.agg #[.string s,.int .i64 3,.int .i64 v,.string t]) (by simp[results,results236,go_sem,z0,z1,z2,z3]) rfl ⟨⟨s,3,v,t⟩,rfl,ab ⟨?_,?_,?_,uh HV⟩,dE (gO (gO (gO hB5 hlt0) hlt0) hlt0)⟩
  .rw[uh HC];exact uh HNm
  .rw[uh HC]
  rw[uh HC];exact(uh HT).1
 have g2:(kt.toList==[50])=false:=by rw[tD,uh HKL];simpa using k2
 by_cases k0:iz (bz xs 156 1)=[48]
 .have g3:(kt.toList==[48])=true:=by rw[tD,uh HKL,k0];decide
  have HC:Hid (kq xs=((jF (vZ xs)).1,(jF (vZ xs)).2,[])):=ab (by rw[kq,if_neg k5,if_neg k2,if_pos k0]);have HU:=ab (we s w4 (by omega));clear k5 k2 k0;go_wp2_with (go_at_call 259;refine(uh HU).mono ?_;rintro ev w5⟨t,k,rfl,HT,hb5⟩;have hq:=au hb5 _ _ _ _ (uh HHq);have hz:=au hb5 _ _ _ _ (uh HHz);have q0:w5.cell? ⟨w3.heap.size,0,none⟩=some (.string ⟨#[]⟩):=cq 0 hq;have q1:w5.cell? ⟨w3.heap.size,1,none⟩=some (.int .i64 0):=cq 1 hq;have q2:w5.cell? ⟨w3.heap.size,2,none⟩=some (.int .i64 v):=cq 2 hq;have q3:w5.cell? ⟨w3.heap.size,3,none⟩=some (.string ⟨#[]⟩):=cq 3 hq;have f0:=frz hq 0;have f1:=frz hq 1;have f2:=frz hq 2;have f3:=frz hq 3;have z0:w5.cell? ⟨w.heap.size,0,none⟩=some (.string ⟨#[]⟩):=cq 0 hz;have z1:w5.cell? ⟨w.heap.size,1,none⟩=some (.int .i64 0):=cq 1 hz;have z2:w5.cell? ⟨w.heap.size,2,none⟩=some (.int .i64 0):=cq 2 hz;have z3:w5.cell? ⟨w.heap.size,3,none⟩=some (.string ⟨#[]⟩):=cq 3 hz;have y0:=frz hz 0;have y1:=frz hz 1;have y2:=frz hz 2;have y3:=frz hz 3;have hB5:=hB4.trans (hb5.mono hB4.size);clear hq hz)
  refine bodyPost_ret (v:=.agg #[.string t,.int .i64 k,.int .i64 v,.string ⟨#[]⟩]) (by simp[results,results236,go_sem,z0,z1,z2,z3]) rfl ⟨⟨t,k,v,⟨#[]⟩⟩,rfl,ab ⟨?_,?_,?_,uh HV⟩,dE (gO (gO hB5 hlt0) hlt0)⟩
  .rw[uh HC];show t=_;rw[(uh HT).1,uh HNm,aK]
  .rw[uh HC];show k=_;rw[(uh HT).2,uh HNm,aK]
  rw[uh HC];rfl
 have g3:(kt.toList==[48])=false:=by rw[tD,uh HKL];simpa using k0
 have HC:Hid (kq xs=([],0,[])):=ab (by rw[kq,if_neg k5,if_neg k2,if_neg k0]);clear k5 k2 k0;go_wp2_with fail;refine bodyPost_ret (v:=.agg #[.string ⟨#[]⟩,.int .i64 0,.int .i64 v,.string ⟨#[]⟩]) (by simp[results,results236,go_sem,z0,z1,z2,z3]) rfl ⟨⟨⟨#[]⟩,0,v,⟨#[]⟩⟩,rfl,ab ⟨?_,?_,?_,uh HV⟩,dE hB4⟩
 .rw[uh HC];rfl
 .rw[uh HC]
 rw[uh HC];rfl
theorem xW(c:aj):gu c≠0:=by
 unfold gu;split
 .decide
 split<;>decide
theorem IZ{x:UInt8}(h:x≠0):iz [x]=[x]:=by simp[iz,h]
theorem AC(l:LU):Lib.trimSuffix (l++[47]) [47]=l:=by
 have:Lib.hasSuffix (l++[47]) [47]=true:=by rw[Lib.hasSuffix,List.isSuffixOf_iff_suffix];exact List.suffix_append _ _
 rw[Lib.trimSuffix,this];simp
theorem rU{c:aj}(h:bT c=true)(r:LU):kq (az c++r)=(c.path.data.toList,c.kind,eY c):=by
 have hf:=fO (fG h) r;have hk:=(lI h).1;have hn:=I0 h r;have hkd:iz (bz (az c++r) 156 1)=[gu c]:=by rw[hf.kind,IZ (xW c)]
 unfold kq;rw[hkd,hn];by_cases h1:c.kind=1
 .have e:gu c=53:=by simp[gu,h1]
  have en:aD c=c.path.data.toList++[47]:=by simp[aD,h1]
  have el:eY c=[]:=by simp[eY,h1]
  rw[e,if_pos rfl,en,AC,el,h1]
 by_cases h3:c.kind=3
 .have e:gu c=50:=by simp[gu,h3]
  have en:aD c=c.path.data.toList:=by simp[aD,h3]
  rw[e,if_neg (by decide),if_pos rfl,en,hf.link,qj (Fc h),h3]
 have e:gu c=48:=by simp[gu,h1,h3]
 have el:eY c=[]:=by simp[eY,h3]
 have hu:=GD h (by omega);rw[e,if_neg (by decide),if_neg (by decide),if_pos rfl,hu,el]
theorem Bp{v n:Nat}(h:(cW v).length<=n)(hn:0<n):qY v n≠[]:=λe=>by have:=G6 h;rw[e]at this;simp at this;omega
theorem tZ{c:aj}(h:bT c=true)(r:LU){v:Int}(hv:lr (iz (bz (az c++r) 100 8)) v):v=c.mode:=by
 have hm:=(lI h).2.1;have o1:(cW c.mode.toNat).length<=7:=by
  have:=aW 2 c.mode.toNat (by simp;omega)
  omega
 rw[(fO (fG h) r).mode,pZ]at hv;have:=hv (Bp o1 (by omega)) (su _ _);rw[m7]at this;omega
theorem ug{c:aj}(h:bT c=true)(r:LU){v:Int}(hv:lr (iz (bz (az c++r) 124 12)) v):v=((cu c).length:Nat):=by
 obtain⟨m,hm⟩:=(fG h).pkc;have o2:(cW (cu c).length).length<=11:=by have:=aW 4 (cu c).length (by have:=hm.file;simp;omega);omega
 rw[(fO (fG h) r).size,pZ]at hv;have:=hv (Bp o2 (by omega)) (su _ _);rw[m7]at this;exact this
theorem BN{c:aj}(h:bT c=true)(hk:c.kind≠2):c.data.data.toList=eY c:=by
 unfold eY;split
 .rfl
 rename_i h3;unfold bT at h;by_cases hk4:c.kind=4\/c.kind=5
 .rw[if_pos hk4]at h;simp only[bA,beq_iff_eq]at h;exact h.2
 rw[if_neg hk4]at h;have hg:=(aP h).2.2;have:=tR hg;unfold bc at hg;rw[if_pos (by omega)]at hg;simp only[bA,beq_iff_eq]at hg;exact hg.2
theorem fg{s:LU}{o n:Nat}(h:o+n<=512):bz (s.take 512) o n=bz s o n:=by rw[bz,bz,List.drop_take,List.take_take,Nat.min_eq_left (by omega)]
theorem qf(s:LU):vZ (s.take 512)=vZ s:=by rw[vZ,vZ,fg (by omega),fg (by omega)]
theorem gb(s:LU):kq (s.take 512)=kq s:=by unfold kq;rw[fg (by omega),qf,fg (by omega)]
structure kU(s:LU)(c:aj):Prop where
 back:∀c' r,bT c'=true->s=az c'++r->c=c'
 path:c.path.size<=1048576
theorem rI{c:aj}(h:bT c=true)(r:LU):512<=(az c++r).length:=by have:=(fO (fG h) r).len;omega
theorem FB{c d:aj}(h1:c.path=d.path)(h2:c.kind=d.kind)(h3:c.mode=d.mode)(h4:c.data=d.data):c=d:=by cases c;cases d;simp_all
theorem Iu(n:LU):(jF n).1.length<=n.length+1:=by
 have h1:=mN n;have h2:=fQ n;unfold jF;split
 .exact Nat.le_succ_of_le h1
 split
 .by_cases hs:47∈n
  .obtain⟨a,b,rfl,hb⟩:=dG hs;rw[(eV hb).1,(eV hb).2];simp only[iI];split<;>simp<;>omega
  rw[(eN hs).1,(eN hs).2];simp[iI];omega
 exact Nat.le_succ _
theorem Lg(s:LU):(vZ s).length<=255+1:=by
 have h1:=nT (qd (bz s 345 155)) (uL s 345 155);have h2:=nT (qd (bz s 0 100)) (uL s 0 100);unfold vZ iI;split
 .omega
 rw[lA,lC];omega
theorem sG{w:World}(b:Nat)(s:BA)(cur:Array Value)(hg:w.heap[b]?=some (.cells cur 284 (0,0)))(hc:cur.size=512)(hs:512<=s.size): (Builtin.copy_ #[101,9] 3 #[.slice (some ⟨b,0,none⟩) 512 512,.string s]).run prog w=.ok (goInt 512) (w.setRow b (Lib.byteCells (s.data.toList.take 512)).toArray):=by
 have hl:(Lib.byteCells (s.data.toList.take 512)).length=512:=by rw[Lib.byteCells_length,List.length_take,<-zE];omega
 have hst:=run_storeCells_at prog b 0 284 (Lib.byteCells (s.data.toList.take 512)) 0 cur w hg (by rw[hl,hc];omega) (Lib.byteCells_one _);have hmin:=Nat.min_eq_right hs;have htk:List.take 512 (List.map (λb:UInt8=>Value.int IntKind.u8 (b.toNat:Int)) s.data.toList)=Lib.byteCells (s.data.toList.take 512):=by rw[<-List.map_take];rfl
 rw[hl]at hst;simp only[Nat.add_zero]at hst;have hz:=Kw;cases hq:prog.info? 5 with
 |none=>simp[hq]at hz
 |some i=>simp[Builtin.copy_,run_underlying underlying101,Builtin.lenOf,Builtin.firstCells,sizeOf,typeInfo,hq,hmin];rw[htk,hst];simp[Result.andThen,hc,List.drop_eq_nil_of_le]
theorem m6(s:LU):(kq s).1.length<=257:=by
 have h:=Lg s;have hu:=Iu (vZ s);unfold kq;split
 .show (Lib.trimSuffix (vZ s) [47]).length<=257;unfold Lib.trimSuffix;split
  .rw[List.length_take];omega
  omega
 split
 .exact Nat.le_succ_of_le h
 split
 .exact nT hu (by omega)
 simp
theorem Ds{s:BA}(hs:s.size<512):kU s.data.toList ⟨⟨#[]⟩,0,0,⟨#[]⟩⟩:= ⟨λc' r h e=>by have:=rI h r;rw[<-e,<-zE]at this;omega,by decide⟩
theorem yD{s:LU}{c:aj}(hc:ul (s.take 512) c)(hk:c.kind≠2):kU s c:=by
 have h1:=hc.path;have h2:=hc.kind;have h3:=hc.data;have h4:=hc.mode;rw[gb]at h1 h2 h3;rw[fg (by omega)]at h4;refine⟨λc' r h e=>?_,?_⟩
 .have hb:=rU h r;rw[<-e]at hb;rw[hb]at h1 h2 h3;rw[e]at h4;refine FB (by rw[h1,cF]) h2 (tZ h r h4) ?_;have hk':c'.kind≠2:=λx=>hk (h2.trans x);rw[h3];show bt (eY c')=_;rw[<-BN h hk',cF]
 rw[h1,bF];exact nT (m6 s) (by omega)
theorem lJ{s:LU}{c:aj}{v:Nat}{d:BA}(hc:ul (s.take 512) c)(hk:c.kind=2)(hv:lr (iz (bz (s.take 512) 124 12)) (v:Int))(hd:d=bt ((s.drop 512).take v)):kU s { c with data:=d }:=by
 have h1:=hc.path;have h2:=hc.kind;have h4:=hc.mode;rw[gb]at h1 h2;rw[fg (by omega)]at h4 hv;refine⟨λc' r h e=>?_,?_⟩
 .have hb:=rU h r;rw[<-e]at hb;rw[hb]at h1 h2;rw[e]at h4 hv;have hk':c'.kind=2:=h2.symm.trans hk;have hz:=ug h r hv;have hdl:cu c'=c'.data.data.toList:=by simp[cu,hk']
  refine FB (by show c.path=_;rw[h1,cF]) h2 (tZ h r h4) ?_;show d=_;have he:=(fO (fG h) r).data;rw[<-e]at he;unfold bz at he;rw[hd,show v=(cu c').length by omega,he,hdl,cF]
 show c.path.size<=_;rw[h1,bF];exact nT (m6 s) (by omega)
theorem uf{s:LU}{c:aj}{v:Int}(_:ul (s.take 512) c)(_:c.kind=2)(hv:lr (iz (bz (s.take 512) 124 12)) v)(hb:v<0\/(s.length:Int)-512<v):kU s ⟨⟨#[]⟩,0,0,⟨#[]⟩⟩:=by refine⟨λc' r h e=>?_,by decide⟩;rw[fg (by omega),e]at hv;have hz:=ug h r hv;have hl:=(fO (fG h) r).len;rw[<-e]at hl;omega
theorem read_any(s:BA)(w:World)(hR:Rd w)(hs:s.size<=1073741824): Cl 216 #[.string s] w λev w'=>∃c:aj,ev=.returned (.agg #[.string c.path,.int .i64 c.kind,.int .i64 c.mode,.string c.data])/\Hid (kU s.data.toList c)/\Bw w w':=by
 obtain⟨W0,hW0⟩:=aq (w.alloc (.cells #[.string ⟨#[]⟩,.int .i64 0,.int .i64 0,.string ⟨#[]⟩] 246));have hB0:=dw hW0;have hq0:=em hW0;have hs0:W0.heap.size=w.heap.size+1:=by rw[hW0,World.size_alloc]
 by_cases hl:s.size<512
 .have HF:=ab (Ds hl);have i1:(s.size:Int)<512:=by omega
  have z0:=cq 0 hq0;have z1:=cq 1 hq0;have z2:=cq 2 hq0;have z3:=cq 3 hq0;have y0:=frz hq0 0;have y1:=frz hq0 1;have y2:=frz hq0 2;have y3:=frz hq0 3;clear hq0 hl hR hs0;go_enter func216,ntmps216;go_upto_region 1 with fail;rw[<-hW0];clear hW0;go_wp2_with fail;exact bodyPost_ret (v:=.agg #[.string ⟨#[]⟩,.int .i64 0,.int .i64 0,.string ⟨#[]⟩]) (by simp[results,results216,go_sem,z0,z1,z2,z3]) rfl ⟨⟨⟨#[]⟩,0,0,⟨#[]⟩⟩,rfl,HF,dE hB0⟩
 have i1:¬(s.size:Int)<512:=by omega
 obtain⟨W1,hW1⟩:=aq (W0.alloc (.cells Tryz.zeroCells284 284));obtain⟨bb,hbb⟩:=aq W0.heap.size;have hz1:W1.heap[bb]?=some (.cells Tryz.zeroCells284 284 (0,0)):=by rw[hW1,hbb];exact hN _ _
 have hrun:=sG bb s _ hz1 (by rw[pY];simp[Lib.byteCells]) (by omega);obtain⟨V,hV⟩:=aq (W1.setRow bb (Lib.byteCells (s.data.toList.take 512)).toArray);rw[<-hV]at hrun;have hK:fe V bb (s.data.toList.take 512):=⟨by rw[hV];exact setRow_heap _ _ _ _ _ _ hz1,by rw[List.length_take,<-zE];omega⟩
 have hB01:=dw hW1;have hB1V:Bw W0 V:=by rw[hV];exact⟨hB01.os,hB01.tape,hB01.output,by simpa using hB01.size,λk hk=>(setRow_other _ _ _ _ (by omega)).trans (hB01.block k hk)⟩
 have hBV:=hB0.trans (hB1V.mono hB0.size);have HQ:=ab (au hB1V _ _ _ _ hq0);have HRV:=ab (hR.below hBV);have HKV:=ab hK;have hbw:w.heap.size<bb:=by omega
 have HW0:=ab hW0;have HW1:=ab hW1;have HBB:Hid (bb=w.heap.size+1):=ab (by omega);clear hq0 hl hR hz1 hK hV hB01 hB1V hB0 hW0 hW1 hbb hs0;go_enter func216,ntmps216;go_upto_region 4 with fail;rw[<-uh HW0,<-uh HW1,<-uh HBB];clear HW0 HW1 HBB;go_upto_region 5 with(at_builtin;refine Lib.wpList_copy_run _ rfl _ _ 46 9 rfl _ _ rfl rfl hrun ?_)
 clear hrun;go_upto_region 6 with(go_at_call 236;refine(AP bb (s.data.toList.take 512) V (uh HKV) (uh HRV)).mono ?_;rintro ev w5⟨c,rfl,HC,hb5⟩)
 obtain⟨W5,hW5⟩:=aq (w5.alloc (.cells #[.string c.path,.int .i64 c.kind,.int .i64 c.mode,.string c.data] 246));rw[<-hW5];have hb5':=dw hW5;have hBV5:=hb5.trans (hb5'.mono hb5.size);have hq:=(by rw[hW5];exact hN _ _:W5.heap[w5.heap.size]?=some (.cells #[.string c.path,.int .i64 c.kind,.int .i64 c.mode,.string c.data] 246 (0,0)))
 have hz:=au hBV5 _ _ _ _ (uh HQ);have hlt0:=Nat.lt_of_lt_of_le (gA (uh HQ)) hb5.size;have hB5:=hBV.trans (hBV5.mono hBV.size);have q0:=cq 0 hq;have q1:=cq 1 hq;have q2:=cq 2 hq;have q3:=cq 3 hq;have z0:=cq 0 hz;have z1:=cq 1 hz;have z2:=cq 2 hz;have z3:=cq 3 hz;have y0:=frz hz 0;have y1:=frz hz 1;have y2:=frz hz 2;have y3:=frz hz 3;have HHq:=ab hq;have HHz:=ab hz;have HK5:=ab ((uh HKV).below hBV5);have HR5:=ab ((uh HRV).below hBV5);clear hW5 hb5' hb5 hBV5 hq hz HQ HKV HRV hBV;by_cases hk:c.kind=2
 .have hR5:=uh HR5;have p0:=(hR5.f (b:=2) (o:=124) (n:=12) (by decide)).1;have p1:=(hR5.f (b:=2) (o:=124) (n:=12) (by decide)).2;have HKd:=ab hk;have i2:(512:Int)<=(s.size:Int):=by omega
  have k1:=q1;rw[hk]at k1;clear hR5 hk q1;go_upto_region 8 with fail;go_region_held3 (λw'=>w'.cell? ⟨2,0,none⟩=some (.int .i64 124)/\w'.cell? ⟨2,1,none⟩=some (.int .i64 12)) (first|exact⟨p0,p1⟩|exact⟨cL (am hb6) p0,cL (am hb6) p1⟩|go_keep) (first|(go_at_call 237;refine(ud bb 124 12 (s.data.toList.take 512) _ ?_ ?_ ?_ ?_ ?_).mono ?_;(exact(uh HK5).drew);(exact(uh HR5).drew);omega;omega;omega;rintro ev w6⟨v,rfl,HV,hb6⟩));have hB6:=hB5.trans (Below.mono (B':=w.heap.size) (am hb6) hB5.size);have hq:=au (am hb6) _ _ _ _ (uh HHq);have hz:=au (am hb6) _ _ _ _ (uh HHz);clear q0 k1 q2 q3 z0 z1 z2 z3 y0 y1 y2 y3 hb6 p0 p1 HHq HHz HK5 HR5 hB5;have q0:=cq 0 hq;have q1:=cq 1 hq;have q2:=cq 2 hq;have q3:=cq 3 hq;have f3:=frz hq 3;have z0:=cq 0 hz;have z1:=cq 1 hz;have z2:=cq 2 hz;have z3:=cq 3 hz;have y0:=frz hz 0;have y1:=frz hz 1;have y2:=frz hz 2;have y3:=frz hz 3;have hne:w5.heap.size≠w.heap.size:=by omega
  have hne2:w.heap.size≠w5.heap.size:=by omega
  obtain⟨D,hD⟩:=aq (s.extract 512 s.size);have hDz:(D.size:Int)=(s.size:Int)-512:=by rw[hD,ByteArray.size_extract];omega
  have HD:Hid (D.data.toList=s.data.toList.drop 512):=ab (by rw[hD,nu,aK]);have HSz:=ab (zE s);have HDZ:=ab hDz;rw[<-hD];clear hq hz hD;by_cases hv0:v<0
  .have HF:=ab (uf (uh HC) (uh HKd) (uh HV) (.inl hv0));clear hDz;go_wp2_with fail;exact bodyPost_ret (v:=.agg #[.string ⟨#[]⟩,.int .i64 0,.int .i64 0,.string ⟨#[]⟩]) (by simp[results,results216,go_sem,z0,z1,z2,z3]) rfl ⟨⟨⟨#[]⟩,0,0,⟨#[]⟩⟩,rfl,HF,dE hB6⟩
  by_cases hv1:(D.size:Int)<v
  .have HF:=ab (uf (uh HC) (uh HKd) (uh HV) (.inr (by rw[<-uh HSz];omega)));clear hDz;go_wp2_with fail;exact bodyPost_ret (v:=.agg #[.string ⟨#[]⟩,.int .i64 0,.int .i64 0,.string ⟨#[]⟩]) (by simp[results,results216,go_sem,z0,z1,z2,z3]) rfl ⟨⟨⟨#[]⟩,0,0,⟨#[]⟩⟩,rfl,HF,dE hB6⟩
  obtain⟨k,rfl⟩:=Int.eq_ofNat_of_zero_le (by omega:0<=v);have i3:(0:Int)<=(k:Int):=by omega
  have i4:(k:Int)<=(D.size:Int):=by omega
  have i5:¬(k:Int)<0:=by omega
  obtain⟨d,hd⟩:=aq (D.extract 0 k);have HF:=ab (lJ (d:=d) (uh HC) (uh HKd) (uh HV) (by rw[hd,wj,uh HD]));have HDd:=ab hd;clear hDz hv0 hd;go_wp2_with fail;rw[<-uh HDd];exact bodyPost_ret (v:=.agg #[.string c.path,.int .i64 c.kind,.int .i64 c.mode,.string d]) (by simp[results,results216,go_sem,z0,z1,z2,z3]) rfl ⟨⟨c.path,c.kind,c.mode,d⟩,rfl,HF,dE (gO hB6 hlt0)⟩
 have HF:=ab (yD (uh HC) hk);have hk':(c.kind==2)=false:=by simp[hk]
 clear hk;go_wp2_with fail;exact bodyPost_ret (v:=.agg #[.string c.path,.int .i64 c.kind,.int .i64 c.mode,.string c.data]) (by simp[results,results216,go_sem,z0,z1,z2,z3]) rfl ⟨c,rfl,HF,dE hB5⟩
def oK(cs:List aj)(s:LU)(c:aj)(behind:LU)(ok:Bool):Prop:=
 (ok=true/\ej cs c=true/\s=az c++behind)\/(ok=false/\∀c',ej cs c'=true->¬az c' <+: s)
theorem oa{cs:List aj}{c:aj}(h:ej cs c=true):bT c=true:=by unfold ej at h;simp only[bA]at h;exact h.1.2
theorem Ie{cs:List aj}{s:LU}{c:aj}(hr:kU s c)(hm:ej cs c=false)(b:LU)(d:aj):oK cs s d b false:= .inr ⟨rfl,λc' h ⟨r,e⟩=>by have:=hr.back c' r (oa h) e.symm;rw[this,h]at hm;cases hm⟩
theorem DA{cs:List aj}{s:LU}{c:aj}(hr:kU s c)(hp:Lib.hasPrefix s (az c)=false)(b:LU)(d:aj):oK cs s d b false:= .inr ⟨rfl,λc' h ⟨r,e⟩=>by
 have:=hr.back c' r (oa h) e.symm;rw[this,Lib.hasPrefix,<-e]at hp;have h2:(az c').isPrefixOf (az c'++r)=true:=by rw[List.isPrefixOf_iff_prefix];exact List.prefix_append _ _
 rw[h2]at hp;cases hp⟩
theorem Er{cs:List aj}{s:LU}{c:aj}(hm:ej cs c=true)(hp:Lib.hasPrefix s (az c)=true):oK cs s c (Lib.trimPrefix s (az c)) true:=by refine .inl ⟨rfl,hm,?_⟩;rw[Lib.trimPrefix,hp];rw[Lib.hasPrefix,List.isPrefixOf_iff_prefix]at hp;obtain⟨r,e⟩:=hp;rw[<-e];simp
def KO(cs:List aj)(s:LU)(v:Value):Prop:=∃(c:aj) (b:BA) (ok:Bool),v=.tuple #[.agg #[.string c.path,.int .i64 c.kind,.int .i64 c.mode,.string c.data],.string b,.bool ok]/\oK cs s c b.data.toList ok
theorem ET(ao:OA)(cap k:Nat)(cs:List aj)(s:BA)(w:World)(hr:fB w ao cs)(HN:Hid (k=cs.length))(hk:k<=1048576)(HS:Hid (ix cs))(hR:Rd w)(hs:s.size<=1073741824): Cl 203 #[.slice ao k cap,.string s] w λev w'=>∃v,ev=.returned v/\Hid (KO cs s.data.toList v)/\Bw w w':=by
 obtain⟨W0,hW0⟩:=aq (w.alloc (.cells #[.string ⟨#[]⟩,.int .i64 0,.int .i64 0,.string ⟨#[]⟩] 246));have hB0:=dw hW0;have hq0:=em hW0;have HRd:=ab (read_any s W0 (hR.below hB0) hs);have HR0:=ab (hR.below hB0);have HE0:=ab (hr.below hB0);have HQ0:=ab hq0;have HW0:=ab hW0;clear hr hR hq0 hW0;go_enter func203,ntmps203;go_upto_region 1 with fail;rw[<-uh HW0];clear HW0;go_upto_region 2 with(go_at_call 216;refine(uh HRd).mono ?_;rintro ev w1⟨c,rfl,HC,hb1⟩)
 obtain⟨W1,hW1⟩:=aq (w1.alloc (.cells #[.string c.path,.int .i64 c.kind,.int .i64 c.mode,.string c.data] 246));rw[<-hW1];have hb1':=dw hW1;have hB01:=hb1.trans (hb1'.mono hb1.size);have hq:=(by rw[hW1];exact hN _ _:W1.heap[w1.heap.size]?=some (.cells #[.string c.path,.int .i64 c.kind,.int .i64 c.mode,.string c.data] 246 (0,0)))
 have hz:=au hB01 _ _ _ _ (uh HQ0);have hlt0:=Nat.lt_of_lt_of_le (gA (uh HQ0)) hb1.size;have hB1:=hB0.trans (hB01.mono hB0.size);have hR1:=(uh HR0).below hB01;obtain⟨m,hm⟩:=hR1.pk.max;have HMF:=ab (sM ao cap k cs c m W1 ((uh HE0).below hB01) HN hk HS (uh HC).path hm);have q0:=cq 0 hq;have q1:=cq 1 hq;have q2:=cq 2 hq;have q3:=cq 3 hq;have HHq:=ab hq;have HHz:=ab hz;have HR1:=ab hR1;clear hW1 hb1' hB01 hb1 hq hz hm hR1 HR0 HE0 HQ0 HRd hB0;cases hF:ej cs c with
 |false=>
  rw[hF]at HMF;have HF:Hid (oK cs s.data.toList ⟨⟨#[]⟩,0,0,⟨#[]⟩⟩ (⟨#[]⟩:BA).data.toList false):=ab (Ie (uh HC) hF _ _);clear hF;go_wp2_with (go_at_call 217;refine(uh HMF).mono ?_;rintro ev w2⟨rfl,hb2⟩;have hB2:Bw w w2:=(hB1.trans (hb2.mono hB1.size));have hz:=au hb2 _ _ _ _ (uh HHz);have z0:w2.cell? ⟨w.heap.size,0,none⟩=some (.string ⟨#[]⟩):=cq 0 hz;have z1:w2.cell? ⟨w.heap.size,1,none⟩=some (.int .i64 0):=cq 1 hz;have z2:w2.cell? ⟨w.heap.size,2,none⟩=some (.int .i64 0):=cq 2 hz;have z3:w2.cell? ⟨w.heap.size,3,none⟩=some (.string ⟨#[]⟩):=cq 3 hz;have y0:=frz hz 0;have y1:=frz hz 1;have y2:=frz hz 2;have y3:=frz hz 3;clear hz)
  exact bodyPost_ret (v:=.tuple #[.agg #[.string ⟨#[]⟩,.int .i64 0,.int .i64 0,.string ⟨#[]⟩],.string ⟨#[]⟩,.bool false]) (by simp[results,results203,go_sem,z0,z1,z2,z3]) rfl ⟨_,rfl,ab ⟨⟨⟨#[]⟩,0,0,⟨#[]⟩⟩,⟨#[]⟩,false,rfl,uh HF⟩,dE hB2⟩
 |true=>
  rw[hF]at HMF;have hch:=oa hF;have hG:=fG hch;obtain⟨m,hm⟩:=hG.pkc;have HWr:Hid (∀w2:World,Rd w2->Cl 218 #[.agg #[.string c.path,.int .i64 c.kind,.int .i64 c.mode,.string c.data]] w2 λev w'=>ev=.returned (.string (bt (az c)))/\Bw w2 w'):=ab (λw2 hR2=>wU c m w2 (ab hm) hR2.pk hG.kind hG.part);have HEl:=ab (El hm);have HMy:=ab hF;have HDs:Hid (c.data.size<=1048576):=ab (by have:=hm.data;omega);obtain⟨T,hT⟩:=aq (bt (az c));have HT:=ab hT;rw[<-hT]at HWr;clear hF hch hG hm hT;go_upto_region 5 with(first|(go_at_call 217;refine(uh HMF).mono ?_;rintro ev w2⟨rfl,hb2⟩;have hB2:Bw w w2:=(hB1.trans (hb2.mono hB1.size));have hq:=au hb2 _ _ _ _ (uh HHq);have q0:w2.cell? ⟨w1.heap.size,0,none⟩=some (.string c.path):=cq 0 hq;have q1:w2.cell? ⟨w1.heap.size,1,none⟩=some (.int .i64 c.kind):=cq 1 hq;have q2:w2.cell? ⟨w1.heap.size,2,none⟩=some (.int .i64 c.mode):=cq 2 hq;have q3:w2.cell? ⟨w1.heap.size,3,none⟩=some (.string c.data):=cq 3 hq;have HHq:=ab hq;have HHz:=ab (au hb2 _ _ _ _ (uh HHz));have HR2:=ab ((uh HR1).below hb2);clear hq)|(go_at_call 218;refine(uh HWr w2 (uh HR2)).mono ?_;rintro ev w3⟨rfl,hb3⟩)|(go_at_call 197;refine(jW s T w3).mono ?_;rintro ev w4⟨b,rfl,HB,hw⟩;obtain rfl:=hw.symm))
  have hB3:=hB2.trans (hb3.mono hB2.size);have hq:=au hb3 _ _ _ _ (uh HHq);have hz:=au hb3 _ _ _ _ (uh HHz);have q3:=cq 3 hq;have HHq:=ab hq;have HHz:=ab hz;have HF:Hid (∃ok,ok=Lib.hasPrefix s.data.toList T.data.toList/\oK cs s.data.toList c b.data.toList ok):=ab (by
   refine⟨_,rfl,?_⟩;rw[uh HB,uh HT,aK,aK];cases hp:Lib.hasPrefix s.data.toList (az c)with
   |true=>exact Er (uh HMy) hp
   |false=>exact DA (uh HC) hp _ _)
  obtain⟨ok,hok,hN⟩:=uh HF;have HNx:=ab hN;rw[<-hok];clear HF hok hN q0 q1 q2 hq hz hb3 hB2;go_upto_region 6 with(go_at_call 108;refine(fF c.data w3 (by have:=uh HDs;omega)).mono ?_;rintro ev w5⟨rfl,hb5⟩;have hq:=au hb5 _ _ _ _ (uh HHq);have hz:=au hb5 _ _ _ _ (uh HHz);have q0:w5.cell? ⟨w1.heap.size,0,none⟩=some (.string c.path):=cq 0 hq;have q1:w5.cell? ⟨w1.heap.size,1,none⟩=some (.int .i64 c.kind):=cq 1 hq;have q2:w5.cell? ⟨w1.heap.size,2,none⟩=some (.int .i64 c.mode):=cq 2 hq;have q3:w5.cell? ⟨w1.heap.size,3,none⟩=some (.string c.data):=cq 3 hq;have f3:=frz hq 3;have z0:w5.cell? ⟨w.heap.size,0,none⟩=some (.string ⟨#[]⟩):=cq 0 hz;have z1:w5.cell? ⟨w.heap.size,1,none⟩=some (.int .i64 0):=cq 1 hz;have z2:w5.cell? ⟨w.heap.size,2,none⟩=some (.int .i64 0):=cq 2 hz;have z3:w5.cell? ⟨w.heap.size,3,none⟩=some (.string ⟨#[]⟩):=cq 3 hz;have y0:=frz hz 0;have y1:=frz hz 1;have y2:=frz hz 2;have y3:=frz hz 3;have hB5:=hB3.trans (hb5.mono hB3.size);have hne:w1.heap.size≠w.heap.size:=(by omega);have hne2:w.heap.size≠w1.heap.size:=(by omega);clear hq hz)
  go_wp2_with fail
  exact bodyPost_ret (v:=.tuple #[.agg #[.string c.path,.int .i64 c.kind,.int .i64 c.mode,.string c.data],.string b,.bool ok]) (by simp[results,results203,go_sem,z0,z1,z2,z3]) rfl ⟨_,rfl,ab ⟨c,b,ok,rfl,uh HNx⟩,dE (gO hB5 hlt0)⟩
def iu(cs:List aj):Prop:=∀i,i<cs.length->vt cs i=true
def c7(cs:List aj):LU:=(cs.map az).flatten
theorem DC:iu []:=λi hi=>by simp at hi
theorem Ff{cs:List aj}(h:iu cs){i:Nat}{c:aj}(hc:cs[i]?=some c):ej (cs.take i) c=true:=by rw[qb hc];exact h i (gL hc)
theorem AB{cs:List aj}{c:aj}(h:iu cs)(hc:ej cs c=true):iu (cs++[c]):=by
 intro i hi;rw[lA,List.length_singleton]at hi;by_cases hl:i<cs.length
 .have e:(cs++[c])[i]?=some cs[i]:=by rw[List.getElem?_append_left hl,gG hl]
  rw[<-qb e,List.take_append_of_le_length (by omega),qb (gG hl)];exact h i hl
 have hi':i=cs.length:=by omega
 subst hi';have e:(cs++[c])[cs.length]?=some c:=by simp
 rw[<-qb e,List.take_left];exact hc
theorem rx{cs:List aj}(h:iu cs){c:aj}(hc:c∈cs):bT c=true:=by obtain⟨i,hi,rfl⟩:=List.getElem_of_mem hc;exact(zi (gG hi) (h i hi)).1
theorem Cz{cs:List aj}(h:iu cs):cs.length<=80:=EQ h
theorem xm{cs:List aj}(h:iu cs):ix cs:=λe he=>by obtain⟨m,hm⟩:=(fG (rx h he)).pkc;exact⟨hm.path,hm.data⟩
theorem zc(cs:List aj)(c:aj):c7 (cs++[c])=c7 cs++az c:=by simp[c7]
theorem ml(cs:List aj)(c:aj):c7 (c::cs)=az c++c7 cs:=by simp[c7]
theorem Cf(cs ds:List aj):c7 (cs++ds)=c7 cs++c7 ds:=by simp[c7]
theorem CG{c:aj}(h:bT c=true)(r:LU):kU (az c++r) c:=by
 obtain⟨s,hs⟩:=aq (az c++r);have hb:=rU h r;have hf:=fO (fG h) r;rw[<-hs]at hb hf⊢;have hm:=(lI h).2.1;have hmode:lr (iz (bz (s.take 512) 100 8)) c.mode:=by rw[fg (by omega),hf.mode,pZ];intro _ _;rw[m7];omega
 by_cases hk:c.kind=2
 .have h1:ul (s.take 512) ⟨c.path,c.kind,c.mode,bt (eY c)⟩:=⟨by rw[gb,hb,cF],by rw[gb,hb],by rw[gb,hb],hmode⟩
  have hv:lr (iz (bz (s.take 512) 124 12)) ((cu c).length:Nat):=by rw[fg (by omega),hf.size,pZ];intro _ _;rw[m7]
  have hd:c.data=bt ((s.drop 512).take (cu c).length):=by have:=hf.data;unfold bz at this;rw[this];rw[cu,if_pos hk,cF]
  exact lJ (c:=⟨c.path,c.kind,c.mode,bt (eY c)⟩) h1 hk hv hd
 have h1:ul (s.take 512) c:=⟨by rw[gb,hb,cF],by rw[gb,hb],by rw[gb,hb,<-BN h hk,cF],hmode⟩
 exact yD h1 hk
theorem D2{c d:aj}{r t:LU}(hc:bT c=true)(hd:bT d=true)(h:az c++r=az d++t):c=d/\r=t:=by have e:=(CG hc r).back d t hd h;subst e;exact⟨rfl,List.append_cancel_left h⟩
theorem y8{c:aj}(hc:bT c=true)(r:LU)(n:Nat):az c++r≠List.replicate n 0:=λe=>by
 have hk:=(fO (fG hc) r).kind;rw[e]at hk;have hm:gu c∈bz (List.replicate n 0) 156 1:=by rw[hk];simp
 have:=(List.mem_replicate.1 (List.mem_of_mem_drop (List.mem_of_mem_take hm))).2;exact xW c this
theorem Eh(cs:List aj):∀(ds:List aj) (r t:LU),(∀c∈cs,bT c=true)->(∀c∈ds,bT c=true)->c7 cs++r=c7 ds++t->(∃u,ds=cs++u)\/∃u,cs=ds++u:=by
 induction cs with
 |nil=>exact λds _ _ _ _ _=>.inl ⟨ds,rfl⟩
 |cons c cs ih=>
  intro ds r t hc hd h;cases ds with
  |nil=>exact .inr ⟨c::cs,rfl⟩
  |cons d ds=>
   rw[ml,ml,aA,aA]at h;obtain⟨e,h2⟩:=D2 (hc c (by simp)) (hd d (by simp)) h;subst e;rcases ih ds r t (λx hx=>hc x (List.mem_cons_of_mem _ hx)) (λx hx=>hd x (List.mem_cons_of_mem _ hx)) h2 with⟨u,e⟩|⟨u,e⟩
   .exact .inl ⟨u,by rw[e];rfl⟩
   exact .inr ⟨u,by rw[e];rfl⟩
def Fq:LU:=List.replicate 1024 0
def zr(cs:List aj)(r:LU):Prop:=r=Fq\/∀c,ej cs c=true->¬az c <+: r
theorem tg{cs:List aj}{u:List aj}{r t:LU}(hr:zr cs r)(hd:iu (cs++u))(h:c7 cs++r=c7 (cs++u)++t):u=[]/\r=t:=by
 rw[Cf,aA]at h;have h2:=List.append_cancel_left h;cases u with
 |nil=>exact⟨rfl,by simpa[c7]using h2⟩
 |cons c u=>
  rw[ml,aA]at h2;have hm:ej cs c=true:=by have:=Ff hd (i:=cs.length) (c:=c) (by simp);rwa [List.take_left]at this
  rcases hr with rfl|hr
  .exact absurd h2.symm (y8 (oa hm) _ _)
  exact absurd ⟨_,h2.symm⟩ (hr c hm)
theorem sY{cs ds:List aj}{r t:LU}(hc:iu cs)(hd:iu ds)(hr:zr cs r)(ht:zr ds t)(h:c7 cs++r=c7 ds++t):cs=ds/\r=t:=by
 rcases Eh cs ds r t (λc=>rx hc) (λc=>rx hd) h with⟨u,rfl⟩|⟨u,rfl⟩
 .obtain⟨rfl,e⟩:=tg hr hd h;exact⟨by simp,e⟩
 obtain⟨rfl,e⟩:=tg ht hc h.symm;exact⟨by simp,e.symm⟩
def pm(s:LU)(cs:List aj):Prop:=iu cs/\s=c7 cs++Fq
def vB(s:LU)(i:Nat):Prop:=∃cs r,iu cs/\s=c7 cs++r/\i=(c7 cs).length/\r≠Fq/\∀c,ej cs c=true->¬az c <+: r
theorem KV{s:LU}{cs ds:List aj}(h:pm s cs)(h2:pm s ds):cs=ds:= (sY h.1 h2.1 (.inl rfl) (.inl rfl) (h.2.symm.trans h2.2)).1
theorem Mf{s:LU}{cs:List aj}{i:Nat}(h:pm s cs)(h2:vB s i):False:=by obtain⟨ds,r,hd,e,_,hn,hb⟩:=h2;exact hn (sY h.1 hd (.inl rfl) (.inr hb) (h.2.symm.trans e)).2.symm
end Go.Proofs.YtjhobnjdfhkohaaGreatDoor.T
namespace Go.Proofs.YtjhobnjdfhkohaaGreatDoor.T
open Go.Proofs.Tryz
open Go.RowKit Go.Maps
theorem Tryz.info246:(prog.info? 246).map (λi=>(i.zero,i.size,i.bytes))=some (some (.agg #[.string ByteArray.empty,.int .i64 0,.int .i64 0,.string ByteArray.empty]),4,48):=by kernel_rfl
def jQ(w:World)(B:Nat)(v:Value)(ks:List aj):Prop:=w.ownsRow B 246 4 v ks.length (kn ks)
theorem G1{w:World}{B:Nat}{v:Value}{ks:List aj}(h:jQ w B v ks):∃ao cap n,v=.slice ao n cap/\Hid (n=ks.length)/\fB w ao ks/\n<=cap:=by
 rcases h.2 with⟨rfl,h0⟩|⟨g,cap,cur,rfl,hb,hg,hnc,_⟩
 .have:ks=[]:=List.length_eq_zero_iff.1 h0;subst this;exact⟨none,0,0,rfl,ab rfl,λk e hk=>by simp at hk,nR _⟩
 refine⟨some ⟨g,0,none⟩,cap,ks.length,rfl,ab rfl,λk e hk=>?_,hnc⟩;have hk':=(gL hk)
 obtain⟨h1,h2,h3,h4⟩:=nt hk;refine⟨g,0,rfl,?_,?_,?_,?_⟩
 .rw[Nat.zero_add,World.ownsRow.cellAt h _ (by omega),h1]
 .rw[Nat.zero_add,World.ownsRow.cellAt h _ (by omega),h2]
 .rw[Nat.zero_add,World.ownsRow.cellAt h _ (by omega),h3]
 rw[Nat.zero_add,World.ownsRow.cellAt h _ (by omega),h4]
theorem jQ.later{w w':World}{B:Nat}{v:Value}{ks:List aj}(h:jQ w B v ks)(hb:Bw w w'):jQ w' B v ks:= World.ownsRow.kept (row:=none) h ⟨hb.os,hb.tape,hb.output,hb.size,λk hk _=>hb.block k hk⟩ (by cases v.ownBlock<;>simp)
theorem CZ{w:World}{B:Nat}{v:Value}{ks:List aj}{e:aj}(h:w.ownsRow B 246 4 v (ks.length+1) (kn ks++ec e)):jQ w B v (ks++[e]):=by unfold jQ;rw[lA,show kn (ks++[e])=kn ks++ec e from by simp[kn]];exact h
theorem I2(e:aj):∀y∈ec e,y.oneCell'=true:=λy hy=>by simp[ec]at hy;rcases hy with rfl|rfl|rfl|rfl<;>rfl
theorem zh{w W w1:World}{v:Value}{ks:List aj}{o:Obj}(h:jQ W w.heap.size v ks)(hb:Bw w W)(hg:(W.alloc o).grownBy w1 v.ownBlock):Bw w w1:= (hb.alloc hb.size o).grown hg (by have:=hb.size;simp;omega) (λq hq=>(World.ownsRow.lt h q hq).1)
theorem jQ.base{w:World}{B B':Nat}{v:Value}{ks:List aj}(h:jQ w B v ks)(hb:B'<=B):jQ w B' v ks:=by
 refine⟨h.1,?_⟩;rcases h.2 with h1|⟨g,cap,cur,h1,h2,h3⟩
 .exact .inl h1
 exact .inr ⟨g,cap,cur,h1,nT hb h2,h3⟩
end Go.Proofs.YtjhobnjdfhkohaaGreatDoor.T
namespace Go.Proofs.YtjhobnjdfhkohaaGreatDoor.T
open Go.Proofs.Tryz
open Go.RowKit
def Mi(w:World)(B:Nat)(s:LU)(v er:Value):Prop:=
 (∃cs,jQ w B v cs/\er=.nilIface/\pm s cs)\/(∃i:Nat,v=.slice none 0 0/\NG w er 4 i/\vB s i)
theorem tS{s b:BA}{c:aj}(h:bT c=true)(e:s.data.toList=az c++b.data.toList):b.size+512<=s.size:=by have h1:=(fO (fG h) b.data.toList).len;have h2:=congrArg List.length e;rw[lA,<-zE,<-zE]at h2;have h3:=rI h [];rw[List.append_nil]at h3;omega
theorem xD(s:BA)(w:World)(hR:Rd w)(hs:s.size<=1073741824): Cl 177 #[.string s] w λev w'=>∃v er,ev=.returned (.tuple #[v,er])/\Hid (Mi w' w.heap.size s.data.toList v er)/\Bw w w':=by
 obtain⟨i0,hi,hz0,hz1,hz2⟩:=info_parts Tryz.info246;have HR:=ab hR;clear hR;go_enter func177,ntmps177;go_wp2_with fail;go_loopw [4,5] (λv r wr=>∃(cs:List aj) (x:BA),r=.string x/\jQ wr w.heap.size v cs/\Hid (iu cs)/\Hid (s.data.toList=c7 cs++x.data.toList)/\Bw w wr/\x.size<=s.size) (λ_ r _=>match r with|.string x=>x.size|_=>0);case atStart=>exact⟨[],s,rfl,World.ownsRow_nil _ _ _ _,ab DC,ab (by simp[c7]),bR _ _,nR _⟩
 case round=>
  obtain⟨cs,x,rfl,hO,HC,HX,hb,hxs⟩:=hrel;obtain⟨T,hT⟩:=aq (bt (List.replicate 1024 0));have hEn:=zI wr;rw[<-hT]at hEn;by_cases hx:x=T
  .have HU:Hid (pm s.data.toList cs):=ab ⟨uh HC,by rw[uh HX,hx,hT,aK];rfl⟩;subst hx;clear hT HX HC;go_wp2_with (go_at_call 202;refine hEn.mono ?_;clear hEn;rintro ev w2⟨rfl,hb2⟩)
   go_ret2;exact⟨_,_,rfl,ab (.inl ⟨cs,hO.later hb2,rfl,uh HU⟩),hb.trans (hb2.mono hb.size)⟩
  have hx2:(x.toList==T.toList)=false:=by rw[tD,tD];simp only[beq_eq_false_iff_ne,ne_eq];exact λe=>hx (by rw[<-cF x,e,cF])
  obtain⟨ao,cap,n,rfl,HN,hrow,hcap⟩:=G1 hO;have hn:n<=80:=by rw[uh HN];exact Cz (uh HC)
  have HO:=ab hO;have HRow:=ab hrow;have HNe:Hid (x.data.toList≠Fq):=ab (λe=>hx (by rw[hT,<-cF x,e];rfl));clear hT hO hrow;go_upto_region 4 with(go_at_call 202;refine hEn.mono ?_;clear hEn;rintro ev w2⟨rfl,hb2⟩)
  have hB2:=hb.trans (hb2.mono hb.size);have HNx:=ab (ET ao cap n cs x w2 ((uh HRow).below hb2) HN (by omega) (ab (xm (uh HC))) ((uh HR).below hB2) (by omega));have HO2:=ab ((uh HO).later hb2);clear HRow HO hb2 hx hx2;go_upto_region 5 with(go_at_call 203;refine(uh HNx).mono ?_;rintro ev w3⟨v3,rfl,HV,hb3⟩;obtain⟨c,b,ok,rfl,hN⟩:=uh HV;have HNI:=ab hN;clear HV hN)
  obtain⟨W3,hW3⟩:=aq (w3.alloc (.cells #[.string c.path,.int .i64 c.kind,.int .i64 c.mode,.string c.data] 246));rw[<-hW3];have hb3':=dw hW3;have hB23:=hb3.trans (hb3'.mono hb3.size);have hB3:=hB2.trans (hB23.mono hB2.size);have HO3:=ab ((uh HO2).later hB23);have hq:=(by rw[hW3];exact hN _ _:W3.heap[w3.heap.size]?=some (.cells #[.string c.path,.int .i64 c.kind,.int .i64 c.mode,.string c.data] 246 (0,0)))
  have q0:=cq 0 hq;have q1:=cq 1 hq;have q2:=cq 2 hq;have q3:=cq 3 hq;clear hW3 hb3' hB23 hb3 hq HO2 HNx hB2;cases ok with
  |false=>
   have HB:Hid (vB s.data.toList (s.size-x.size)):=ab (by
    rcases uh HNI with⟨h,_⟩|⟨_,h⟩
    .cases h
    refine⟨cs,x.data.toList,uh HC,uh HX,?_,uh HNe,h⟩;have:=congrArg List.length (uh HX);rw[lA,<-zE,<-zE]at this;omega)
   obtain⟨i,hi2⟩:∃i:Nat,i=s.size-x.size:=⟨_,rfl⟩
   rw[<-hi2]at HB;have i1:(s.size:Int)-(x.size:Int)=(i:Int):=by omega
   clear hi2 HNI HX HC;go_wp2_with fail;go_ret2;refine⟨_,_,rfl,ab (.inr ⟨i,rfl,⟨W3.heap.size,rfl,?_,?_⟩,uh HB⟩),hB3.alloc hB3.size _⟩
   .exact cq 0 (hN W3 _)
   exact cq 1 (hN W3 _)
  |true=>
   have HA:Hid (ej cs c=true/\x.data.toList=az c++b.data.toList):=ab (by
    rcases uh HNI with⟨_,h1,h2⟩|⟨h,_⟩
    .exact⟨h1,h2⟩
    cases h)
   have hbx:=tS (oa (uh HA).1) (uh HA).2;have HC2:Hid (iu (cs++[c])):=ab (AB (uh HC) (uh HA).1);have HX2:Hid (s.data.toList=c7 (cs++[c])++b.data.toList):=ab (by rw[zc,uh HX,(uh HA).2,aA]);clear HNI HX HC HA;have hks:cs.length<=80:=by rw[<-uh HN];exact hn
   go_wp2_with (at_builtin;refine wpList_append_own _ rfl _ _ 242 rfl w.heap.size 246 i0 _ 4 48 underlying242 hi hz0 hz1 hz2 rfl (by decide) _ _ _ rfl (World.ownsRow.alloc (uh HO3) _) ⟨W3.heap.size,0,none⟩ 1 1 (ec c) rfl rfl (World.news_of_block (cs:=#[.string c.path,.int .i64 c.kind,.int .i64 c.mode,.string c.data]) (t:=246) (fr:=(0,0)) (hN _ _)) (I2 _) (by unfold maxLen;omega) (by omega) (by have:=hB3.size;simp;omega) ?_;intro v6 w6 hown6 hgrow6 _;have HO6:=ab (CZ hown6);have hB6:=zh (uh HO3) hB3 hgrow6;clear hown6 hgrow6)
   go_roundw;case rel=>
    first
     |exact⟨cs++[c],b,rfl,uh HO6,HC2,HX2,hB6,by omega⟩
     |((repeat apply Exists.intro);exact⟨⟨cs++[c],b,rfl,uh HO6,HC2,HX2,hB6,by omega⟩,rfl⟩)
   case measure=>simp;omega
end Go.Proofs.YtjhobnjdfhkohaaGreatDoor.T
