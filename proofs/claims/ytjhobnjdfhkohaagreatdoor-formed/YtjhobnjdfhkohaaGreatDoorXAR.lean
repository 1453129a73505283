import Derived.Test.YtjhobnjdfhkohaaGreatDoorXAP
import Derived.Test.YtjhobnjdfhkohaaGreatDoorXAQ
set_option linter.all false
set_option maxHeartbeats 4000000
set_option maxRecDepth 10000
namespace Go.Proofs.YtjhobnjdfhkohaaGreatDoor.T
open Go.Proofs.Tryz
open Go.RowKit Go.Maps
def FM(env:List (LU×LU)):List LU:=env.map λp=>p.1++[61]++p.2
theorem MO(es:eU):uW es=FM (cC es):=by unfold uW FM cC;rw[List.map_map];rfl
theorem Nv{W:World}{b sb:Nat}{v0 v1 v2 u:Value}(h:sb≠b)(hc:W.cell? ⟨sb,0,none⟩=some u):(((W.setCell ⟨b,0,none⟩ v0).setCell ⟨b,1,none⟩ v1).setCell ⟨b,2,none⟩ v2).cell? ⟨sb,0,none⟩=some u:=by rw[World.cell?_setCell_other _ _ _ _ (λe=>h (by injection e with e;exact e.symm)),World.cell?_setCell_other _ _ _ _ (λe=>h (by injection e with e;exact e.symm)),World.cell?_setCell_other _ _ _ _ (λe=>h (by injection e with e;exact e.symm))];exact hc
theorem rP{W:World}{b:Nat}{a0 a1 a2:Value}(v0 v1 v2:Value)(h:W.heap[b]?=some (.cells #[a0,a1,a2] 32 (0,0))):(((W.setCell ⟨b,0,none⟩ v0).setCell ⟨b,1,none⟩ v1).setCell ⟨b,2,none⟩ v2).heap[b]?=some (.cells #[v0,v1,v2] 32 (0,0)):= oX _ _ 2 _ _ _ (oX _ _ 1 _ _ _ (oX _ _ 0 _ _ _ h))
theorem kS{W:World}{b:Nat}{ao:OA}{t:List aj}{v0 v1 v2:Value}(h:fB W ao t)(hb:W.heap[b]?=some (.cells #[.slice none 0 0,.string ⟨#[]⟩,.slice none 0 0] 32 (0,0))):fB (((W.setCell ⟨b,0,none⟩ v0).setCell ⟨b,1,none⟩ v1).setCell ⟨b,2,none⟩ v2) ao t:=λk e hk=>by
 obtain⟨g,o,h1,h2,h3,h4,h5⟩:=h k e hk;have hg:g≠b:=λeq=>by
  subst eq;rw[cell_of_row _ _ _ _ _ _ hb]at h3;match hi:o+k*4+1,h3 with
  |0,h3=>simp at h3
  |1,h3=>simp at h3
  |2,h3=>simp at h3
  |n+3,h3=>simp at h3
 have ho:∀i u,W.cell? ⟨g,i,none⟩=some u->(((W.setCell ⟨b,0,none⟩ v0).setCell ⟨b,1,none⟩ v1).setCell ⟨b,2,none⟩ v2).cell? ⟨g,i,none⟩=some u:=λi u hu=>by rw[World.cell?_setCell_other _ _ _ _ (λe=>hg (by injection e with e;exact e.symm)),World.cell?_setCell_other _ _ _ _ (λe=>hg (by injection e with e;exact e.symm)),World.cell?_setCell_other _ _ _ _ (λe=>hg (by injection e with e;exact e.symm))];exact hu
 exact⟨g,o,h1,ho _ _ h2,ho _ _ h3,ho _ _ h4,ho _ _ h5⟩
def MQ(w':World)(v:Value)(s:SN):Prop:=∃(eo:OA) (en ec:Nat) (us:List BA) (wk:BA) (ao:OA) (n cap:Nat),v=.agg #[.slice eo en ec,.string wk,.slice ao n cap]/\(∃B,pr w' B (.slice eo en ec) us)/\us.map (λu=>u.data.toList)=FM s.env/\wk.data.toList=47::s.work/\n=s.t.length/\fB w' ao s.t/\s.env.length<=120/\s.t.length<=500
theorem KY(sb B:Nat)(sn:SN)(w:World)(h:sR w B sb sn 120): Cl 28 #[.pointer (some ⟨sb,0,none⟩)] w λe w'=>(∃v,e=.returned v/\MQ w' v sn)/\Bw w w':=by
 obtain⟨r,ns,work,ev,es,hS,h2,h3,h4,h5,hen,hwk,hws,h9,h10,hn5⟩:=h;obtain⟨t,wk,env⟩:=sn;simp only at hen hwk h9;obtain⟨W0,hW0⟩:=aq (w.alloc (.cells #[.slice none 0 0,.string ⟨#[]⟩,.slice none 0 0] 32));have hb0:=dw hW0;have hc0:=em hW0;have hS0:=hS.below hb0;have k0:=hS0.c0;have hsw:sb≠w.heap.size:=by have:=hS.lt;omega
 have HEV:Hid (∀W,Bw W0 W->Cl 49 #[.pointer (some ⟨sb,0,none⟩)] W λe w'=>(∃eo en ec us,e=.returned (.slice eo en ec)/\pr w' W.heap.size (.slice eo en ec) us/\us.map (λu=>u.data.toList)=uW es)/\Bw W w'):=ab (λW hb=>
  (FQ sb ev es B W (aL 2 (hS0.below hb).cells) ((h2.below hb0).below hb) (by omega) (λp hp=>⟨by have:=h5 p hp;omega,by have:=h4 p hp;omega⟩)).mono λe w' ⟨⟨v,us,e1,e2,e3⟩,e4⟩=>by obtain⟨eo,en,ec,rfl⟩:=ar e2;exact⟨⟨eo,en,ec,us,e1,e2,e3⟩,e4⟩)
 have HWK:Hid (∀W,Bw W0 W->Cl 50 #[.pointer (some ⟨sb,0,none⟩)] W λe w'=>∃s:BA,e=.returned (.string s)/\s.data.toList=47::wk/\w'=W):=ab (λW hb=>by have:=Fy sb work W (hS0.below hb).c1 (by omega);rw[hwk]at this;exact this);have HLI:Hid (∀W,Bw W0 W->Cl 51 #[.pointer (some ⟨r.nb,0,none⟩)] W λev w'=>∃ao cap n,ev=.returned (.slice ao n cap)/\Hid (n=t.length)/\fB w' ao t/\Bw W w'):=ab (λW hb=>
  Fe W (hS0.below hb).mem (ab hen) (ab (by have:=ut hS0.tree (by simpa[ac]using(by omega:ns.length<=600));rw[hen]at this;exact this)))
 have HC:=ab hc0;have HSM:Hid (env.length<=120/\t.length<=500):=ab ⟨by rw[<-h9];simpa[cC]using h10,by rw[<-hen];simpa[ac]using hn5⟩;have HZ0:Hid (W0.heap.size=w.heap.size+1):=ab (by rw[hW0];simp);clear hS hen hwk hws hn5 h2 h3 h4 h5 h10 hc0 hS0;go_enter func28,ntmps28;go_upto_region 1 with fail;rw[<-hW0];clear hW0;go_region_held3 (λw'=>w'.cell? ⟨sb,0,none⟩=some (.pointer (some ⟨r.nb,0,none⟩))) (first|exact Nv hsw x3|exact x3|exact x2|exact x1|exact k0|go_keep) (first|(go_at_call 49;refine(uh HEV _ (by exact cU _)).mono ?_;rintro e1 w1⟨⟨eo,en,ec,us,rfl,hT1,hu1⟩,hb1⟩;have hs1:=hb1.size;have x1:=aM (am hb1) k0)|(go_at_call 50;refine(uh HWK _ (by exact(am hb1))).mono ?_;rintro e2 w2⟨s,rfl,hs2,rfl⟩;have x2:=x1)|(go_at_call 51;refine(uh HLI _ (by exact(am hb1))).mono ?_;rintro e3 w3⟨ao,cap,n,rfl,HN,HR,hb3⟩;have hB3:Bw W0 w3:=(am hb1).trans (hb3.mono (am hb1).size);have x3:=aM hB3 k0;have hc3:=(hB3.block _ (bY (uh HC))).trans (uh HC);have f0:=frozen_of_row w3 w.heap.size 0 _ _ hc3;have f1:=frozen_of_row w3 w.heap.size 1 _ _ hc3;have f2:=frozen_of_row w3 w.heap.size 2 _ _ hc3;have r0:w3.cell? ⟨w.heap.size,0,none⟩=some (.slice none 0 0):=aL 0 hc3;have r1:w3.cell? ⟨w.heap.size,1,none⟩=some (.string ⟨#[]⟩):=aL 1 hc3;have r2:w3.cell? ⟨w.heap.size,2,none⟩=some (.slice none 0 0):=aL 2 hc3));obtain⟨W9,hW9⟩:=aq (((w3.setCell ⟨w.heap.size,0,none⟩ (.slice eo en ec)).setCell ⟨w.heap.size,1,none⟩ (.string s)).setCell ⟨w.heap.size,2,none⟩ (.slice ao n cap));rw[<-hW9];have hr9:W9.heap[w.heap.size]?=some (.cells #[.slice eo en ec,.string s,.slice ao n cap] 32 (0,0)):=by rw[hW9];exact rP _ _ _ hc3
 have d0:W9.cell? ⟨w.heap.size,0,none⟩=some (.slice eo en ec):=aL 0 hr9;have d1:W9.cell? ⟨w.heap.size,1,none⟩=some (.string s):=aL 1 hr9;have d2:W9.cell? ⟨w.heap.size,2,none⟩=some (.slice ao n cap):=aL 2 hr9;have hb9:Bw w W9:=by rw[hW9];exact(((hb0.trans (hB3.mono hb0.size)).setCell (bH _) _).setCell (bH _) _).setCell (bH _) _
 have HR9:fB W9 ao t:=by rw[hW9];exact kS HR hc3
 have hT9:pr W9 (w.heap.size+1) (.slice eo en ec) us:=by
  have hT1':pr w2 (w.heap.size+1) (.slice eo en ec) us:=by have:=hT1;rw[show w.heap.size+1=W0.heap.size from(uh HZ0).symm];exact this
  refine ap hT1' λq hq=>?_;obtain⟨hq1,hq2⟩:=World.ownsRow.lt hT1' q hq;have hne:q≠w.heap.size:=by omega
  rw[hW9,heap_setCell_other _ ⟨w.heap.size,2,none⟩ q _ hne,heap_setCell_other _ ⟨w.heap.size,1,none⟩ q _ hne,heap_setCell_other _ ⟨w.heap.size,0,none⟩ q _ hne];exact hb3.block q (by omega)
 clear x1 x2 x3 f0 f1 f2 r0 r1 r2;go_wp2_with fail;refine bodyPost_ret (v:=.agg #[.slice eo en ec,.string s,.slice ao n cap]) (by simp[results,results28,go_sem,d0,d1,d2]) rfl ⟨⟨_,rfl,eo,en,ec,us,s,ao,n,cap,rfl,⟨_,hT9⟩,by rw[hu1,MO,h9],hs2,uh HN,HR9,uh HSM⟩,hb9⟩
end Go.Proofs.YtjhobnjdfhkohaaGreatDoor.T
