import Derived.Test.YtjhobnjdfhkohaaGreatDoorXM
set_option linter.all false
set_option maxHeartbeats 4000000
set_option maxRecDepth 10000
namespace Go.Proofs.YtjhobnjdfhkohaaGreatDoor
open Go.Proofs.Tryz
open Go.RowKit Go.Maps
theorem Gb{t:LU}(h:wh t=some 0):t=yF:=by
 unfold wh at h;cases hf:CM.find? (λp=>p.1==t)with
 |none=>rw[hf]at h;cases h
 |some p=>
  rw[hf]at h;injection h with h;have hm:=List.mem_of_find?_eq_some hf;have hk:p.1=t:=by simpa using List.find?_some hf
  have:∀p∈CM,p.2=0->p.1=yF:=by decide
  rw[<-hk];exact this p hm h
theorem I4{xs:List bM}{i:Nat}(h:lX xs=some i):(an xs==some yF)=decide (i=0):=by
 unfold lX at h;cases hx:an xs with
 |none=>rw[hx]at h;cases h
 |some t=>
  rw[hx]at h;have h':wh t=some i:=h;by_cases hi:i=0
  .subst hi;rw[Gb h'];decide
  rw[dF hi];simp only[beq_eq_false_iff_ne,ne_eq,Option.some.injEq];intro e;rw[e]at h';have:wh yF=some 0:=by decide
  rw[this]at h';injection h' with h';exact hi h'.symm
theorem qu{xs:List bM}{i:Nat}(h:lX xs=some i):∃t,an xs=some t/\wh t=some i:=by
 unfold lX at h;cases hx:an xs with
 |none=>rw[hx]at h;cases h
 |some t=>rw[hx]at h;exact⟨t,rfl,h⟩
def sJ(op:Nat)(n:Nat)(first:Bool):Bool:=decide (¬((n:Int)-1<(af op).1)/\¬((af op).2.1<(n:Int)-1)/\¬(first=true/\op≠0))
theorem gU(wv:Value)(ws:List aw)(m0:aw)(st a b:Int)(f g0:Value)(B:Nat)(w:World)(h:mU w B wv ws)(h0:ws[0]?=some m0): Cl 61 #[.agg #[wv,.int .i64 st,.int .i64 a,.int .i64 b,f,g0]] w λev w'=>ev=.returned (.int .i64 (m0.place:Int))/\Bw w w':=by
 obtain⟨g,cap,hv,q0,q1,hg⟩:=kg h 0 m0 h0;have hl:=(gL h0)
 subst hv;have n0:=World.new_ne w ⟨g,0,none⟩ q0;obtain⟨n,hn⟩:=aq ws.length;have i1:(0:Int)<(n:Int):=by omega
 rw[<-hn];clear h h0 hl hn;go_enter func61,ntmps61;go_wp2_with fail;go_ret;exact⟨rfl,eD⟩
theorem La(wv:Value)(ws:List aw)(x:aw)(t:BA)(st a b:Int)(f g0:Value)(B:Nat)(w:World)(h:mU w B wv ws)(h0:ws[0]?=some x)(hl:(parts x.xs).length<=1500): Cl 89 #[.agg #[wv,.int .i64 st,.int .i64 a,.int .i64 b,f,g0],.string t] w λev w'=>ev=.returned (.bool (an x.xs==some t.data.toList))/\Bw w w':=by
 obtain⟨g,cap,hv,q0,q1,hg⟩:=kg h 0 x h0;have hok:=h.all x (mG h0);have hl0:0<ws.length:=(gL h0)
 have hb0:Bw w (w.alloc (.cells #[wv,.int .i64 st,.int .i64 a,.int .i64 b,f,g0] 86)):=eD;have hI:=qg x t B _ (ap hok (w':=w.alloc (.cells #[wv,.int .i64 st,.int .i64 a,.int .i64 b,f,g0] 86)) λk hk=>hb0.block k (World.ownsRow.lt hok k hk).2) hl;obtain⟨ao,n',cap',hxv⟩:=ar hok;rw[hxv]at q1;obtain⟨bb,hbb⟩:=aq ((an x.xs==some t.data.toList));rw[<-hbb]at hI⊢;obtain⟨pl,vv,xx⟩:=x;simp only at hxv q0 hI;subst hxv;subst hv;have n0:=World.new_ne w ⟨g,0,none⟩ q0;have i1:(0:Int)<(ws.length:Int):=by omega
 obtain⟨n,hn⟩:=aq ws.length;rw[<-hn]at hI hb0 i1⊢;clear h h0 hok hl0 hn hbb hl;go_enter func89,ntmps89;go_wp2_with (go_at_call 118;refine hI.mono ?_;clear hI;rintro ev w1⟨rfl,hb1⟩)
 go_ret;exact⟨rfl,hb0.trans (hb1.mono hb0.size)⟩
theorem vS(B fb ib:Nat)(sv wv:Value)(ss:List ax)(ws:List aw)(x:aw)(st a b:Int)(w:World)(h:aQ w B fb sv ss)(hi:ol w B ib wv ws st a b .nilFunc .nilFunc)(h0:ws[0]?=some x)(ho:lX x.xs=none): Cl 58 #[.pointer (some ⟨fb,0,none⟩),.pointer (some ⟨ib,0,none⟩)] w λev w'=>jm w' ev 5 x.place/\Bw w w':=by
 obtain⟨g,cap,hv,q0,q1,hg⟩:=kg hi.wsm 0 x h0;have hok:=hi.wsm.all x (mG h0);have hsm:=hi.small x (mG h0);have hl0:=(gL h0)
 have hsh:=hi.short;have hci:=hi.cells;obtain⟨ao,n',cap',hxv⟩:=ar hok;obtain⟨n,hn⟩:=aq ws.length;rw[hxv]at q1;rw[hv,<-hn]at hci;obtain⟨W0,hW0⟩:=aq (w.alloc (.cells #[.int .i64 0,.int .i64 0,.nilFunc,.nilFunc] 84));have hb0:=dw hW0;have hr0:=em hW0;have hz0:w.heap.size<W0.heap.size:=by rw[hW0];simp
 have q0':=cL hb0 q0;have q1':=cL hb0 q1;have c0:=cL hb0 (cq 0 hci);have i1:(0:Int)<(n:Int):=by omega
 have e1:IntKind.i64.wrap ((n:Int)-1)=(n:Int)-1:=by simp[IntKind.wrap,IntKind.bits,IntKind.signed];omega
 have HI:=ab hi;have HF:=ab h;have HN:=ab hn;have HV:=ab hv;have HR0:=ab hr0;have HB0:=ab hb0;have HC:=ab (λw1 (hb1:Bw w w1)=>(hb1.block ib hi.lt).trans hci);have hRu:=xS x B W0 (ap hok λj hj=>hb0.block j (World.ownsRow.lt hok j hj).2) hsm.1 hsm.2 ho;unfold aw.val at hRu;rw[hxv]at hRu;have hPl:=λw1 (hb1:Bw w w1)=>gU wv ws x st a b .nilFunc .nilFunc B w1 (hi.wsm.below hb1) h0;rw[hv,<-hn]at hPl;have hFl:=λw'=>aZ 5 x.place w';clear hi h hok h0 hsm hn hci hr0 hb0 hxv q0 q1 hl0 hv ho;go_enter func58,ntmps58;go_upto_region 1 with fail;rw[<-hW0];clear hW0;go_upto_region 2 with(go_at_call 88;refine hRu.mono ?_;clear hRu;rintro ev w1⟨rfl,hb1⟩)
 obtain⟨W2,hW2⟩:=aq (w1.alloc (.cells #[.int .i64 0,.int .i64 0,.nilFunc,.nilFunc] 84));have hb01:=(uh HB0).trans (hb1.mono (uh HB0).size);have hb2:Bw w W2:=by rw[hW2];exact hb01.alloc hb01.size _
 have hl2:=em hW2;have hc2:=uh HC W2 hb2;have d0:=cq 0 hc2;have d1:=cq 1 hc2;have d2:=cq 2 hc2;have d3:=cq 3 hc2;have d4:=cq 4 hc2;have d5:=cq 5 hc2;have HB2:=ab hb2;rw[<-hW2];clear hW2 hl2 hc2 hb2 q0' q1' c0;go_wp2_with (first|(go_at_call 61;refine(hPl _ (uh HB2)).mono ?_;clear hPl;rintro ev w3⟨rfl,hb3⟩)|(go_at_call 35;refine(hFl _).mono ?_;clear hFl;rintro ev w8⟨bb,rfl,hc,hb8⟩))
 exact⟨rfl,⟨bb,rfl,hc⟩,((uh HB2).trans (hb3.mono (uh HB2).size)).trans (hb8.mono (nT (uh HB2).size hb3.size))⟩
theorem ve(B fb ib:Nat)(sv wv:Value)(ss:List ax)(ws:List aw)(x:aw)(st a b:Int)(op:Nat)(w:World)(h:aQ w B fb sv ss)(hi:ol w B ib wv ws st a b .nilFunc .nilFunc)(h0:ws[0]?=some x)(ho:lX x.xs=some op): Cl 58 #[.pointer (some ⟨fb,0,none⟩),.pointer (some ⟨ib,0,none⟩)] w λev w'=>(sJ op ws.length ss.isEmpty=false/\jm w' ev 5 x.place\/sJ op ws.length ss.isEmpty=true/\ev=.returned (gz op))/\Bw w w':=by
 obtain⟨g,cap,hv,q0,q1,hg⟩:=kg hi.wsm 0 x h0;have hok:=hi.wsm.all x (mG h0);have hsm:=hi.small x (mG h0);have hl0:=(gL h0)
 have hsh:=hi.short;have hci:=hi.cells;obtain⟨ao,n',cap',hxv⟩:=ar hok;obtain⟨n,hn⟩:=aq ws.length;rw[hxv]at q1;rw[hv,<-hn]at hci;obtain⟨W0,hW0⟩:=aq (w.alloc (.cells #[.int .i64 0,.int .i64 0,.nilFunc,.nilFunc] 84));have hb0:=dw hW0;have hr0:=em hW0;have hz0:w.heap.size<W0.heap.size:=by rw[hW0];simp
 have q0':=cL hb0 q0;have q1':=cL hb0 q1;have c0:=cL hb0 (cq 0 hci);have i1:(0:Int)<(n:Int):=by omega
 have e1:IntKind.i64.wrap ((n:Int)-1)=(n:Int)-1:=by simp[IntKind.wrap,IntKind.bits,IntKind.signed];omega
 have HI:=ab hi;have HF:=ab h;have HN:=ab hn;have HV:=ab hv;have HR0:=ab hr0;have HB0:=ab hb0;have HC:=ab (λw1 (hb1:Bw w w1)=>(hb1.block ib hi.lt).trans hci);obtain⟨t,hxt,hot⟩:=qu ho;have hRu:=xh x B W0 (ap hok λj hj=>hb0.block j (World.ownsRow.lt hok j hj).2) hsm.1 hsm.2 t op hxt hot;unfold aw.val at hRu;rw[hxv]at hRu;have hPl:=λw1 (hb1:Bw w w1)=>gU wv ws x st a b .nilFunc .nilFunc B w1 (hi.wsm.below hb1) h0;rw[hv,<-hn]at hPl;have hFl:=λw'=>aZ 5 x.place w';have hIs:=λw1 (hb1:Bw w w1)=>La wv ws x ⟨#[70,82,79,77]⟩ st a b .nilFunc .nilFunc B w1 (hi.wsm.below hb1) h0 hsm.1;rw[show (⟨#[70,82,79,77]⟩:BA).data.toList=yF from rfl,I4 ho,hv,<-hn]at hIs;obtain⟨ra,rbb,rf,rg,hrv⟩:∃ra rbb rf rg,ra=(af op).1/\rbb=(af op).2.1/\rf=(af op).2.2.1/\rg=(af op).2.2.2:=⟨_,_,_,_,rfl,rfl,rfl,rfl⟩
 have hrl:gz op=.agg #[.int .i64 ra,.int .i64 rbb,aN rf,aN rg]:=by rw[hrv.1,hrv.2.1,hrv.2.2.1,hrv.2.2.2];rfl
 rw[hrl]at hRu;have HFit:Hid (sJ op ws.length ss.isEmpty=decide (¬((n:Int)-1<ra)/\¬(rbb<(n:Int)-1)/\¬(ss.isEmpty=true/\op≠0))):=ab (by unfold sJ;rw[hrv.1,hrv.2.1,hn]);obtain⟨ao2,cap2,hsv⟩:∃ao cap,sv=.slice ao ss.length cap:=by
  rcases h.row.2 with⟨e,h0⟩|⟨g,cap,cur,e,_⟩
  .exact⟨none,0,by rw[e,h0]⟩
  exact⟨_,_,e⟩
 have HSV:Hid (∀w1,Bw w w1->w1.cell? ⟨fb,0,none⟩=some (.slice ao2 ss.length cap2)):=ab (λw1 hb1=>by rw[<-hsv];exact(h.below hb1).c0);have hse:ss.isEmpty=decide (ss.length=0):=by cases ss<;>rfl
 have HRL:=ab hrl;obtain⟨N,hN⟩:=aq ss.length;rw[hse,<-hN]at HFit⊢;rw[<-hN]at HSV;have hN5:N<=5:=by rw[hN];exact h.short
 obtain⟨F,hF⟩:=aq (sJ op ws.length (decide (N=0)));rw[<-hF]at HFit⊢;rw[hrl];clear hi h hok h0 hsm hn hci hr0 hb0 hxv q0 q1 hl0 hv ho hxt hot hrv hrl hsv hse hN hF;have fwd:∀w3 w8 ev bb,F=false->Bw w w3->Bw w3 w8->ev=.panicked [{ v:=.iface 137 (.pointer (some ⟨bb,0,none⟩)),recovered:=false }]->w8.heap[bb]?=some (.cells #[.int .i64 (5:Nat),.int .i64 (x.place:Int)] 140 (0,0))->(F=false/\jm w8 ev 5 x.place\/F=true/\ev=.returned (.agg #[.int .i64 ra,.int .i64 rbb,aN rf,aN rg]))/\Bw w w8:=by intro w3 w8 ev bb hF hb3 hb8 he hc;exact⟨.inl ⟨hF,⟨bb,he,hc⟩⟩,hb3.trans (hb8.mono hb3.size)⟩
 have FWD:=ab fwd;clear fwd;go_enter func58,ntmps58;go_upto_region 1 with fail;rw[<-hW0];clear hW0;go_upto_region 2 with(go_at_call 88;refine hRu.mono ?_;clear hRu;rintro ev w1⟨rfl,hb1⟩)
 obtain⟨W2,hW2⟩:=aq (w1.alloc (.cells #[.int .i64 ra,.int .i64 rbb,aN rf,aN rg] 84));have hb01:=(uh HB0).trans (hb1.mono (uh HB0).size);have hb2:Bw w W2:=by rw[hW2];exact hb01.alloc hb01.size _
 have hl2:=em hW2;have hc2:=uh HC W2 hb2;have d0:=cq 0 hc2;have d1:=cq 1 hc2;have d2:=cq 2 hc2;have d3:=cq 3 hc2;have d4:=cq 4 hc2;have d5:=cq 5 hc2;have HB2:=ab hb2;have s0:=uh HSV W2 hb2;have l0:=cq 0 hl2;have l1:=cq 1 hl2;have HL2:=ab hl2;have HWL:Hid (w.heap.size<w1.heap.size/\w1.heap.size<W2.heap.size):=ab ⟨by have:=hb1.size;omega,(gA hl2)⟩;have HR2:Hid (W2.heap[w.heap.size]?=some (.cells #[.int .i64 0,.int .i64 0,.nilFunc,.nilFunc] 84 (0,0))):=ab (by rw[hW2,Below.heap_alloc _ _ _ (by have:=hb1.size;omega)];exact(hb1.block _ hz0).trans (uh HR0));rw[<-hW2];clear hW2 hl2 hc2 hb2 q0' q1' c0;by_cases g1:(n:Int)-1<ra
 .have HFF:Hid (F=false):=ab (by rw[uh HFit];exact dF (λh=>by have:=h.1;omega));go_wp2_with (first|(go_at_call 61;refine(hPl _ (uh HB2)).mono ?_;clear hPl;rintro ev w3⟨rfl,hb3⟩)|(go_at_call 35;refine(hFl _).mono ?_;clear hFl;rintro ev w8⟨bb,rfl,hc,hb8⟩))
  exact⟨rfl,uh FWD w3 w8 _ bb (uh HFF) ((uh HB2).trans (hb3.mono (uh HB2).size)) hb8 rfl hc⟩
 by_cases g2:rbb<(n:Int)-1
 .have HFF:Hid (F=false):=ab (by rw[uh HFit];exact dF (λh=>by have:=h.2.1;omega));go_wp2_with (first|(go_at_call 61;refine(hPl _ (uh HB2)).mono ?_;clear hPl;rintro ev w3⟨rfl,hb3⟩)|(go_at_call 35;refine(hFl _).mono ?_;clear hFl;rintro ev w8⟨bb,rfl,hc,hb8⟩))
  exact⟨rfl,uh FWD w3 w8 _ bb (uh HFF) ((uh HB2).trans (hb3.mono (uh HB2).size)) hb8 rfl hc⟩
 by_cases g3:N=0
 .have g4:((N:Int)==0)=true:=by simp[g3]
  by_cases g5:op=0
  .have HFF:Hid (F=true):=ab (by rw[uh HFit];exact dT ⟨by omega,by omega,λh=>h.2 g5⟩);rw[dT g5]at hIs;clear g3 g5;go_upto_region 5 with(go_at_call 89;refine(hIs _ (uh HB2)).mono ?_;clear hIs;rintro ev w3⟨rfl,hb3⟩)
   have hr1:=(hb3.block _ (by have:=(uh HWL);omega)).trans (uh HR2);have r0:=cq 0 hr1;have r1:=cq 1 hr1;have r2:=cq 2 hr1;have r3:=cq 3 hr1;have fz:∀i,w3.frozen? ⟨w.heap.size,i,none⟩=false:=λi=>by simp[World.frozen?,hr1]
   have f0:=fz 0;have f1:=fz 1;have f2:=fz 2;have f3:=fz 3;have p0:=cq 0 ((hb3.block _ (uh HWL).2).trans (uh HL2));have p1:=cq 1 ((hb3.block _ (uh HWL).2).trans (uh HL2));have p2:=cq 2 ((hb3.block _ (uh HWL).2).trans (uh HL2));have p3:=cq 3 ((hb3.block _ (uh HWL).2).trans (uh HL2));have hne:w.heap.size≠w1.heap.size:=by have:=(uh HWL).1;omega
   have HR1:=ab hr1;clear hr1 fz;go_wp2_with fail;obtain⟨W9,hW9⟩:=aq ((((w3.setCell ⟨w.heap.size,0,none⟩ (.int .i64 ra)).setCell ⟨w.heap.size,1,none⟩ (.int .i64 rbb)).setCell ⟨w.heap.size,2,none⟩ (aN rf)).setCell ⟨w.heap.size,3,none⟩ (aN rg));rw[<-hW9];have hr9:W9.heap[w.heap.size]?=some (.cells #[.int .i64 ra,.int .i64 rbb,aN rf,aN rg] 84 (0,0)):=by rw[hW9];exact yA _ _ _ _ (uh HR1)
   have e0:=cq 0 hr9;have e1:=cq 1 hr9;have e2:=cq 2 hr9;have e3:=cq 3 hr9;refine bodyPost_ret (v:=.agg #[.int .i64 ra,.int .i64 rbb,aN rf,aN rg]) (by simp[results,results58,go_sem,e0,e1,e2,e3]) rfl ⟨.inr ⟨uh HFF,rfl⟩,?_⟩;rw[hW9];exact ij _ _ _ _ ((uh HB2).trans (hb3.mono (uh HB2).size)) (nR _)
  have HFF:Hid (F=false):=ab (by rw[uh HFit];exact dF (λh=>h.2.2 ⟨by rw[g3];rfl,g5⟩));rw[dF g5]at hIs;clear g3 g5;go_upto_region 4 with(go_at_call 89;refine(hIs _ (uh HB2)).mono ?_;clear hIs;rintro ev w3⟨rfl,hb3⟩)
  have hbw3:=(uh HB2).trans (hb3.mono (uh HB2).size);have hc3:=uh HC w3 hbw3;have t0:=cq 0 hc3;have t1:=cq 1 hc3;have t2:=cq 2 hc3;have t3:=cq 3 hc3;have t4:=cq 4 hc3;have t5:=cq 5 hc3;have HB3:=ab hbw3;clear hc3 hbw3;go_wp2_with (first|(go_at_call 61;refine(hPl _ (uh HB3)).mono ?_;clear hPl;rintro ev w4⟨rfl,hb4⟩)|(go_at_call 35;refine(hFl _).mono ?_;clear hFl;rintro ev w8⟨bb,rfl,hc,hb8⟩))
  exact⟨rfl,uh FWD w4 w8 _ bb (uh HFF) ((uh HB3).trans (hb4.mono (uh HB3).size)) hb8 rfl hc⟩
 have g4:((N:Int)==0)=false:=by simp;omega
 have HFF:Hid (F=true):=ab (by rw[uh HFit];exact dT ⟨by omega,by omega,λh=>g3 (of_decide_eq_true h.1)⟩);clear g3;go_upto_region 5 with fail;have hr1:=uh HR2;have r0:=cq 0 hr1;have r1:=cq 1 hr1;have r2:=cq 2 hr1;have r3:=cq 3 hr1;have fz:∀i,W2.frozen? ⟨w.heap.size,i,none⟩=false:=λi=>by simp[World.frozen?,hr1]
 have f0:=fz 0;have f1:=fz 1;have f2:=fz 2;have f3:=fz 3;have p0:=cq 0 (uh HL2);have p1:=cq 1 (uh HL2);have p2:=cq 2 (uh HL2);have p3:=cq 3 (uh HL2);have hne:w.heap.size≠w1.heap.size:=by have:=(uh HWL).1;omega
 have HR1:=ab hr1;clear hr1 fz;go_wp2_with fail;obtain⟨W9,hW9⟩:=aq ((((W2.setCell ⟨w.heap.size,0,none⟩ (.int .i64 ra)).setCell ⟨w.heap.size,1,none⟩ (.int .i64 rbb)).setCell ⟨w.heap.size,2,none⟩ (aN rf)).setCell ⟨w.heap.size,3,none⟩ (aN rg));rw[<-hW9];have hr9:W9.heap[w.heap.size]?=some (.cells #[.int .i64 ra,.int .i64 rbb,aN rf,aN rg] 84 (0,0)):=by rw[hW9];exact yA _ _ _ _ (uh HR1)
 have e0:=cq 0 hr9;have e1:=cq 1 hr9;have e2:=cq 2 hr9;have e3:=cq 3 hr9;refine bodyPost_ret (v:=.agg #[.int .i64 ra,.int .i64 rbb,aN rf,aN rg]) (by simp[results,results58,go_sem,e0,e1,e2,e3]) rfl ⟨.inr ⟨uh HFF,rfl⟩,?_⟩;rw[hW9];exact ij _ _ _ _ (uh HB2) (nR _)
structure sB(w:World)(B g:Nat)(ws:List aw)(i:Nat)(x:aw)(ao:OA)(n' cap':Nat):Prop where
 get:ws[i]?=some x
 c0:w.cell? ⟨g,i*2,none⟩=some (.int .i64 (x.place:Int))
 c1:w.cell? ⟨g,i*2+1,none⟩=some (.slice ao n' cap')
 v:x.v=.slice ao n' cap'
 ok:x.Ok w B
 small:(parts x.xs).length<=1500
 text:∀t,an x.xs=some t->t.length<=1500
theorem DY{w:World}{B g cap:Nat}{ws:List aw}(h:mU w B (.slice (some ⟨g,0,none⟩) ws.length cap) ws)(hs:∀x∈ws,(parts x.xs).length<=1500/\∀t,an x.xs=some t->t.length<=1500)(i:Nat)(hi:i<ws.length):∃x ao n' cap',sB w B g ws i x ao n' cap':=by
 obtain⟨x,hx⟩:∃x,ws[i]?=some x:=⟨_,gG hi⟩
 obtain⟨g',cap',hv,q0,q1,_⟩:=kg h i x hx;injection hv with e1 e2 e3;injection e1 with e1;injection e1 with e1;subst e1;have hok:=h.all x (mG hx);obtain⟨ao,n',cap2,hxv⟩:=ar hok;rw[hxv]at q1;exact⟨x,ao,n',cap2,hx,q0,q1,hxv,hok,(hs x (mG hx)).1,(hs x (mG hx)).2⟩
theorem sB.later{w w':World}{B g:Nat}{ws:List aw}{i:Nat}{x:aw}{ao:OA}{n' cap':Nat}(h:sB w B g ws i x ao n' cap')(hb:Bw w w'):sB w' B g ws i x ao n' cap':= ⟨h.get,cL hb h.c0,cL hb h.c1,h.v,ap h.ok λj hj=>hb.block j (World.ownsRow.lt h.ok j hj).2,h.small,h.text⟩
theorem sB.pln{w:World}{B g:Nat}{ws:List aw}{i:Nat}{x:aw}{ao:OA}{n' cap':Nat}(h:sB w B g ws i x ao n' cap'):pln (ws.map aw.wd) i=an x.xs:=by rw[vU,h.get]
theorem sB.plc{w:World}{B g:Nat}{ws:List aw}{i:Nat}{x:aw}{ao:OA}{n' cap':Nat}(h:sB w B g ws i x ao n' cap'):plc (ws.map aw.wd) i=x.place:=F1 h.get
theorem sB.nm{w:World}{B g:Nat}{ws:List aw}{i:Nat}{x:aw}{ao:OA}{n' cap':Nat}(h:sB w B g ws i x ao n' cap'):zK (ws.map aw.wd) i=cH x.xs:=by unfold zK;rw[List.getElem?_map,h.get];rfl
theorem sB.isM{w:World}{B g:Nat}{ws:List aw}{i:Nat}{x:aw}{ao:OA}{n' cap':Nat}(h:sB w B g ws i x ao n' cap')(t:BA): Cl 118 #[.agg #[.int .i64 (x.place:Int),.slice ao n' cap'],.string t] w λev w'=>ev=.returned (.bool (an x.xs==some t.data.toList))/\Bw w w':=by have:=qg x t B w h.ok h.small;unfold aw.val at this;rw[h.v]at this;exact this
theorem sB.plain{w:World}{B g:Nat}{ws:List aw}{i:Nat}{x:aw}{ao:OA}{n' cap':Nat}(h:sB w B g ws i x ao n' cap'): Cl 116 #[.agg #[.int .i64 (x.place:Int),.slice ao n' cap']] w λev w'=>∃t:BA,ev=.returned (.tuple #[.string t,.bool (an x.xs).isSome])/\Hid (t.data.toList=(an x.xs).getD [])/\Bw w w':=by have:=fC x B w h.ok h.small;unfold aw.val at this;rw[h.v]at this;exact this
theorem sB.name{w:World}{B g:Nat}{ws:List aw}{i:Nat}{x:aw}{ao:OA}{n' cap':Nat}(h:sB w B g ws i x ao n' cap'): Cl 196 #[.agg #[.int .i64 (x.place:Int),.slice ao n' cap']] w λev w'=>(cH x.xs=none/\jm w' ev 5 x.place\/∃u:BA,cH x.xs=some u.data.toList/\ev=.returned (.string u))/\Bw w w':=by have:=sQ x B w h.ok h.small h.text;unfold aw.val at this;rw[h.v]at this;exact this
theorem sB.name_none{w:World}{B g:Nat}{ws:List aw}{i:Nat}{x:aw}{ao:OA}{n' cap':Nat}(h:sB w B g ws i x ao n' cap')(hn:cH x.xs=none): Cl 196 #[.agg #[.int .i64 (x.place:Int),.slice ao n' cap']] w λev w'=>∃b:Nat,ev=.panicked [{ v:=.iface 137 (.pointer (some ⟨b,0,none⟩)),recovered:=false }]/\w'.heap[b]?=some (.cells #[.int .i64 ((5:Nat):Int),.int .i64 (x.place:Int)] 140 (0,0))/\Bw w w':=by
 refine h.name.mono ?_;rintro ev w'⟨⟨_,b,he,hc⟩|⟨u,hu,_⟩,hb⟩
 .exact⟨b,he,hc,hb⟩
 rw[hn]at hu;cases hu
theorem sB.name_some{w:World}{B g:Nat}{ws:List aw}{i:Nat}{x:aw}{ao:OA}{n' cap':Nat}(h:sB w B g ws i x ao n' cap'){t:LU}(hn:cH x.xs=some t): Cl 196 #[.agg #[.int .i64 (x.place:Int),.slice ao n' cap']] w λev w'=>∃u:BA,ev=.returned (.string u)/\Hid (u.data.toList=t)/\Bw w w':=by
 refine h.name.mono ?_;rintro ev w'⟨⟨h0,_⟩|⟨u,hu,he⟩,hb⟩
 .rw[hn]at h0;cases h0
 rw[hn]at hu;injection hu with hu;exact⟨u,he,ab hu.symm,hb⟩
def fi(w:World)(ev:Ending)(ws:List Wd):Prop:=match bp ws with
 |.error (e,p)=>jm w ev e p
 |.ok (b,n)=>∃ub un:BA,ev=.returned (.tuple #[.string ub,.string un])/\ub.data.toList=b/\un.data.toList=n
theorem Cs(B:Nat)(wv:Value)(ws:List aw)(w:World)(h:mU w B wv ws)(hs:∀x∈ws,(parts x.xs).length<=1500/\∀t,an x.xs=some t->t.length<=1500)(h2:2<=ws.length)(h4:ws.length<=4): Cl 164 #[wv] w λev w'=>fi w' ev (ws.map aw.wd)/\Bw w w':=by
 obtain⟨g,cap,rfl,_,_⟩:=World.ownsRow.form h.row (by omega);have hlen:(ws.map aw.wd).length=ws.length:=List.length_map _;obtain⟨x1,ao1,n1,cap1,X1⟩:=DY h hs 1 (by omega);by_cases e2:ws.length=2
 .have HG:Hid (bp (ws.map aw.wd)=match cH x1.xs with|none=>.error (5,x1.place)|some b=>.ok (b,[])):=ab (by unfold bp;rw[hlen,if_neg (by omega),if_neg (by omega),if_neg (by omega),X1.nm,X1.plc];rfl);have HX1:=ab X1;have c0:=X1.c0;have c1:=X1.c1;rw[e2];clear h hs h2 h4 e2 hlen X1;cases hn:cH x1.xs with
  |none=>
   have hN:=(uh HX1).name_none hn;have HG2:Hid (bp (ws.map aw.wd)=.error (5,x1.place)):=ab (by rw[uh HG,hn]);clear HG hn;go_enter func164,ntmps164;go_wp2_with (go_at_call 196;refine hN.mono ?_;clear hN;rintro ev w8⟨bb,rfl,hc,hb8⟩)
   refine⟨rfl,?_,hb8⟩;unfold fi;rw[uh HG2];exact⟨bb,rfl,hc⟩
  |some t=>
   have hN:=(uh HX1).name_some hn;have HG2:Hid (bp (ws.map aw.wd)=.ok (t,[])):=ab (by rw[uh HG,hn]);clear HG hn;go_enter func164,ntmps164;go_wp2_with (go_at_call 196;refine hN.mono ?_;clear hN;rintro ev w8⟨u,rfl,HU,hb8⟩)
   go_ret2;refine⟨?_,hb8⟩;unfold fi;rw[uh HG2];exact⟨u,⟨#[]⟩,rfl,uh HU,rfl⟩
 obtain⟨x2,ao2,n2,cap2,X2⟩:=DY h hs 2 (by omega);have hI:=X2.isM ⟨#[65,83]⟩;rw[show (⟨#[65,83]⟩:BA).data.toList=L8 from rfl]at hI;have hF2:=λw'=>aZ 5 x2.place w';have HX1:=ab X1;have HX2:=ab X2;have d0:=X2.c0;have d1:=X2.c1;cases hb:(an x2.xs==some L8)with
 |false=>
  have HG2:Hid (bp (ws.map aw.wd)=.error (5,x2.place)):=ab (by unfold bp;rw[hlen,if_pos ⟨by omega,by rw[X2.pln];simpa using hb⟩,X2.plc]);rw[hb]at hI;obtain⟨n,hn⟩:=aq ws.length;have g1:(2:Int)<(n:Int):=by omega
  have HD:Hid (∀w',Bw w w'->w'.cell? ⟨g,2*2,none⟩=some (.int .i64 (x2.place:Int))):=ab (λw' hb'=>cL hb' d0);rw[<-hn];clear h hs h2 h4 e2 hlen X1 X2 hn hb;go_enter func164,ntmps164;go_wp2_with (first|(go_at_call 118;refine hI.mono ?_;clear hI;rintro ev w2⟨rfl,hb2⟩;have d2:=uh HD w2 hb2)|(go_at_call 35;refine(hF2 _).mono ?_;clear hF2;rintro ev w8⟨bb,rfl,hc,hb8⟩))
  refine⟨rfl,?_,hb2.trans (hb8.mono hb2.size)⟩;unfold fi;rw[uh HG2];exact⟨bb,rfl,hc⟩
 |true=>
  have hbp:pln (ws.map aw.wd) 2=some L8:=by rw[X2.pln];simpa using hb
  rw[hb]at hI;by_cases e3:ws.length=3
  .obtain⟨x0,ao0,n0,cap0,X0⟩:=DY h hs 0 (by omega);have HG2:Hid (bp (ws.map aw.wd)=.error (5,x0.place)):=ab (by unfold bp;rw[hlen,if_neg (λhh=>hh.2 hbp),if_pos e3,X0.plc]);have hF0:=λw'=>aZ 5 x0.place w';have HD:Hid (∀w',Bw w w'->w'.cell? ⟨g,0*2,none⟩=some (.int .i64 (x0.place:Int))):=ab (λw' hb'=>cL hb' X0.c0);rw[e3];clear h hs h2 h4 e2 e3 hlen X1 X2 X0 hb hbp;go_enter func164,ntmps164;go_wp2_with (first|(go_at_call 118;refine hI.mono ?_;clear hI;rintro ev w2⟨rfl,hb2⟩;have d2:=uh HD w2 hb2)|(go_at_call 35;refine(hF0 _).mono ?_;clear hF0;rintro ev w8⟨bb,rfl,hc,hb8⟩))
   refine⟨rfl,?_,hb2.trans (hb8.mono hb2.size)⟩;unfold fi;rw[uh HG2];exact⟨bb,rfl,hc⟩
  have e4:ws.length=4:=by omega
  obtain⟨x3,ao3,n3,cap3,X3⟩:=DY h hs 3 (by omega);have HG:Hid (bp (ws.map aw.wd)=match cH x3.xs with
   |none=>.error (5,x3.place)
   |some n=>match cH x1.xs with
    |none=>.error (5,x1.place)
    |some b=>.ok (b,n)):=ab (by
   unfold bp;rw[hlen,if_neg (λhh=>hh.2 hbp),if_neg e3,if_pos e4,X3.nm,X3.plc,X1.nm,X1.plc];rfl)
  have HX3:=ab X3;have HD:Hid (∀w',Bw w w'->sB w' B g ws 3 x3 ao3 n3 cap3/\sB w' B g ws 1 x1 ao1 n1 cap1):=ab (λw' hb'=>⟨X3.later hb',X1.later hb'⟩);rw[e4];clear h hs h2 h4 e2 e3 e4 hlen X1 X2 X3 hb hbp;cases hn3:cH x3.xs with
  |none=>
   have HG2:Hid (bp (ws.map aw.wd)=.error (5,x3.place)):=ab (by rw[uh HG,hn3]);have HN:Hid (cH x3.xs=none):=ab hn3;clear HG hn3;go_enter func164,ntmps164;go_wp2_with (first|(go_at_call 118;refine hI.mono ?_;clear hI;rintro ev w2⟨rfl,hb2⟩;have HY:=ab (uh HD w2 hb2);have f0:=(uh HY).1.c0;have f1:=(uh HY).1.c1)|(go_at_call_of 196 (Value.slice ao3 n3 cap3);refine((uh HY).1.name_none (uh HN)).mono ?_;rintro ev w8⟨bb,rfl,hc,hb8⟩))
   refine⟨rfl,?_,hb2.trans (hb8.mono hb2.size)⟩;unfold fi;rw[uh HG2];exact⟨bb,rfl,hc⟩
  |some t3=>
   have HN:Hid (cH x3.xs=some t3):=ab hn3;cases hn1:cH x1.xs with
   |none=>
    have HG2:Hid (bp (ws.map aw.wd)=.error (5,x1.place)):=ab (by rw[uh HG,hn3];simp only;rw[hn1]);have HN1:Hid (cH x1.xs=none):=ab hn1;clear HG hn3 hn1;go_enter func164,ntmps164;go_wp2_with (first|(go_at_call 118;refine hI.mono ?_;clear hI;rintro ev w2⟨rfl,hb2⟩;have HY:=ab (uh HD w2 hb2);have f0:=(uh HY).1.c0;have f1:=(uh HY).1.c1)|(go_at_call_of 196 (Value.slice ao3 n3 cap3);refine((uh HY).1.name_some (uh HN)).mono ?_;rintro ev w3⟨u3,rfl,HU3,hb3⟩;have HZ:=ab (uh HD w3 (hb2.trans (hb3.mono hb2.size)));have h0:=(uh HZ).2.c0;have h1:=(uh HZ).2.c1)|(go_at_call_of 196 (Value.slice ao1 n1 cap1);refine((uh HZ).2.name_none (uh HN1)).mono ?_;rintro ev w8⟨bb,rfl,hc,hb8⟩))
    refine⟨rfl,?_,(hb2.trans (hb3.mono hb2.size)).trans (hb8.mono (nT hb2.size hb3.size))⟩;unfold fi;rw[uh HG2];exact⟨bb,rfl,hc⟩
   |some t1=>
    have HG2:Hid (bp (ws.map aw.wd)=.ok (t1,t3)):=ab (by rw[uh HG,hn3];simp only;rw[hn1]);have HN1:Hid (cH x1.xs=some t1):=ab hn1;clear HG hn3 hn1;go_enter func164,ntmps164;go_wp2_with (first|(go_at_call 118;refine hI.mono ?_;clear hI;rintro ev w2⟨rfl,hb2⟩;have HY:=ab (uh HD w2 hb2);have f0:=(uh HY).1.c0;have f1:=(uh HY).1.c1)|(go_at_call_of 196 (Value.slice ao3 n3 cap3);refine((uh HY).1.name_some (uh HN)).mono ?_;rintro ev w3⟨u3,rfl,HU3,hb3⟩;have HZ:=ab (uh HD w3 (hb2.trans (hb3.mono hb2.size)));have h0:=(uh HZ).2.c0;have h1:=(uh HZ).2.c1)|(go_at_call_of 196 (Value.slice ao1 n1 cap1);refine((uh HZ).2.name_some (uh HN1)).mono ?_;rintro ev w8⟨u1,rfl,HU1,hb8⟩))
    go_ret2;refine⟨?_,(hb2.trans (hb3.mono hb2.size)).trans (hb8.mono (nT hb2.size hb3.size))⟩;unfold fi;rw[uh HG2];exact⟨u1,u3,rfl,uh HU1,uh HU3⟩
theorem EK(fb ib:Nat)(w:World):Cl 141 #[.pointer (some ⟨fb,0,none⟩),.pointer (some ⟨ib,0,none⟩)] w λev w'=>ev=.returned (.tuple #[])/\w'=w:=by go_enter func141,ntmps141;go_wp2_with fail;go_end0;exact⟨rfl,rfl⟩
def dH(w:World)(ev:Ending)(r:lW (List aU×Int)):Prop:=match r with
 |.error (e,p)=>jm w ev e p
 |.ok _=>ev=.returned (.tuple #[])
theorem ol.form{w:World}{B ib:Nat}{wv:Value}{ws:List aw}{st a b:Int}{f g:Value}(h:ol w B ib wv ws st a b f g)(h0:0<ws.length):∃gw cap,wv=.slice (some ⟨gw,0,none⟩) ws.length cap:=by obtain⟨gw,cap,e,_,_⟩:=World.ownsRow.form h.wsm.row h0;exact⟨gw,cap,e⟩
theorem FN(B fb ib:Nat)(wv:Value)(ws:List aw)(sts:List aU)(st a b:Int)(f g:Value)(w:World)(hi:ol w B ib wv ws st a b f g)(h2:1<ws.length): Cl 147 #[.pointer (some ⟨fb,0,none⟩),.pointer (some ⟨ib,0,none⟩)] w λev w'=>dH w' ev (br 6 sts (ws.map aw.wd))/\Bw w w':=by
 obtain⟨gw,cap,hv⟩:=hi.form (by omega);have hws:=hi.wsm;rw[hv]at hws;obtain⟨x1,ao1,n1,cap1,X1⟩:=DY hws hi.small 1 h2;have c0:=cq 0 hi.cells;rw[hv]at c0;have q0:=X1.c0;have q1:=X1.c1;have hP:=X1.plain;have hx1:=X1.text;have HG:Hid (br 6 sts (ws.map aw.wd)=match an x1.xs with
  |some t=>if fN t=true then .ok (sts,-1) else .error (5,x1.place)
  |none=>.error (5,x1.place)):=ab (by unfold br;simp only;rw[X1.pln,X1.plc];rfl)
 have hF:=λw'=>aZ 5 x1.place w';obtain⟨n,hn⟩:=aq ws.length;rw[<-hn]at c0;have i1:(1:Int)<(n:Int):=by omega
 have HD:Hid (∀w',Bw w w'->w'.cell? ⟨ib,0,none⟩=some (.slice (some ⟨gw,0,none⟩) n cap)/\w'.cell? ⟨gw,1*2,none⟩=some (.int .i64 (x1.place:Int))):=ab (λw' hb'=>⟨cL hb' c0,cL hb' q0⟩);clear hi hws X1 hv hn h2;cases hx:an x1.xs with
 |none=>
  have HG2:Hid (br 6 sts (ws.map aw.wd)=.error (5,x1.place)):=ab (by rw[uh HG,hx]);rw[hx]at hP;simp only[Option.isSome_none,Option.getD_none]at hP;clear HG hx;go_enter func147,ntmps147;go_wp2_with (first|(go_at_call 116;refine hP.mono ?_;clear hP;rintro ev w2⟨u,rfl,HU,hb2⟩;obtain⟨k0,k1⟩:=uh HD w2 hb2)|(go_at_call 35;refine(hF _).mono ?_;clear hF;rintro ev w8⟨bb,rfl,hc,hb8⟩))
  refine⟨rfl,?_,hb2.trans (hb8.mono hb2.size)⟩;unfold dH;rw[uh HG2];exact⟨bb,rfl,hc⟩
 |some t=>
  have htl:=hx1 t hx;rw[hx]at hP;simp only[Option.isSome_some,Option.getD_some]at hP;have hV:∀(u:BA),u.data.toList=t->∀w',Cl 113 #[.string u] w' λe w''=>e=.returned (.bool (fN t))/\w''=w':=λu hu w'=>by have:=tK u w' (by rw[zE,hu];omega);rw[hu]at this;exact this
  have HV:=ab hV;clear hV;cases hb:fN t with
  |false=>
   have HG2:Hid (br 6 sts (ws.map aw.wd)=.error (5,x1.place)):=ab (by rw[uh HG,hx];simp[hb]);rw[hb]at HV;clear HG hx hb hx1;go_enter func147,ntmps147;go_wp2_with (first|(go_at_call 116;refine hP.mono ?_;clear hP;rintro ev w2⟨u,rfl,HU,hb2⟩;obtain⟨k0,k1⟩:=uh HD w2 hb2)|(go_at_call 113;refine(uh HV u (uh HU) _).mono ?_;rintro ev w3⟨rfl,hw⟩;obtain rfl:=hw.symm)|(go_at_call 35;refine(hF _).mono ?_;clear hF;rintro ev w8⟨bb,rfl,hc,hb8⟩))
   refine⟨rfl,?_,hb2.trans (hb8.mono hb2.size)⟩;unfold dH;rw[uh HG2];exact⟨bb,rfl,hc⟩
  |true=>
   have HG2:Hid (br 6 sts (ws.map aw.wd)=.ok (sts,-1)):=ab (by rw[uh HG,hx];simp[hb]);rw[hb]at HV;clear HG hx hb hx1;go_enter func147,ntmps147;go_wp2_with (first|(go_at_call 116;refine hP.mono ?_;clear hP;rintro ev w2⟨u,rfl,HU,hb2⟩)|(go_at_call 113;refine(uh HV u (uh HU) _).mono ?_;rintro ev w3⟨rfl,hw⟩;obtain rfl:=hw.symm))
   go_end0;refine⟨?_,hb2⟩;unfold dH;rw[uh HG2]
theorem AF(B fb ib:Nat)(wv:Value)(ws:List aw)(sts:List aU)(st a b:Int)(f g:Value)(w:World)(hi:ol w B ib wv ws st a b f g)(h2:0<ws.length): Cl 144 #[.pointer (some ⟨fb,0,none⟩),.pointer (some ⟨ib,0,none⟩)] w λev w'=>dH w' ev (br 4 sts (ws.map aw.wd))/\Bw w w':=by
 obtain⟨gw,cap,hv⟩:=hi.form (by omega);have hws:=hi.wsm;rw[hv]at hws;have hsh:=hi.short;have c0:=cq 0 hi.cells;rw[hv]at c0;by_cases h3:ws.length<3
 .have HG2:Hid (br 4 sts (ws.map aw.wd)=.ok (sts,-1)):=ab (by unfold br;simp only;rw[List.length_map,if_pos h3]);obtain⟨n,hn⟩:=aq ws.length;rw[<-hn]at c0;have g1:(n:Int)<3:=by omega
  clear hi hws hv hn h2 h3;go_enter func144,ntmps144;go_wp2_with fail;refine bodyPost_ret (results_none rfl _ _ _) rfl ?_;refine⟨?_,bR _ _⟩;unfold dH;rw[uh HG2]
 obtain⟨x1,ao1,n1,cap1,X1⟩:=DY hws hi.small 2 (by omega);have q0:=X1.c0;have q1:=X1.c1;have hP:=X1.plain;have hx1:=X1.text;have HG:Hid (br 4 sts (ws.map aw.wd)=match an x1.xs with
  |some t=>if fU t=true then .ok (sts,-1) else .error (5,x1.place)
  |none=>.error (5,x1.place)):=ab (by unfold br;simp only;rw[List.length_map,if_neg h3,X1.pln,X1.plc];rfl)
 have hF:=λw'=>aZ 5 x1.place w';obtain⟨n,hn⟩:=aq ws.length;rw[<-hn]at c0;have g1:¬(n:Int)<3:=by omega
 have i1:(2:Int)<(n:Int):=by omega
 have HD:Hid (∀w',Bw w w'->w'.cell? ⟨ib,0,none⟩=some (.slice (some ⟨gw,0,none⟩) n cap)/\w'.cell? ⟨gw,2*2,none⟩=some (.int .i64 (x1.place:Int))):=ab (λw' hb'=>⟨cL hb' c0,cL hb' q0⟩);clear hi hws X1 hv hn h2 h3;cases hx:an x1.xs with
 |none=>
  have HG2:Hid (br 4 sts (ws.map aw.wd)=.error (5,x1.place)):=ab (by rw[uh HG,hx]);rw[hx]at hP;simp only[Option.isSome_none,Option.getD_none]at hP;clear HG hx;go_enter func144,ntmps144;go_wp2_with (first|(go_at_call 116;refine hP.mono ?_;clear hP;rintro ev w2⟨u,rfl,HU,hb2⟩;obtain⟨k0,k1⟩:=uh HD w2 hb2)|(go_at_call 35;refine(hF _).mono ?_;clear hF;rintro ev w8⟨bb,rfl,hc,hb8⟩))
  refine⟨rfl,?_,hb2.trans (hb8.mono hb2.size)⟩;unfold dH;rw[uh HG2];exact⟨bb,rfl,hc⟩
 |some t=>
  rw[hx]at hP;simp only[Option.isSome_some,Option.getD_some]at hP;have hV:∀(u:BA),u.data.toList=t->∀w',Cl 182 #[.string u] w' λe w''=>e=.returned (.bool (fU t))/\w''=w':=λu hu w'=>by have:=EN u w';rw[hu]at this;exact this
  have HV:=ab hV;clear hV;cases hb:fU t with
  |false=>
   have HG2:Hid (br 4 sts (ws.map aw.wd)=.error (5,x1.place)):=ab (by rw[uh HG,hx];simp[hb]);rw[hb]at HV;clear HG hx hb hx1;go_enter func144,ntmps144;go_wp2_with (first|(go_at_call 116;refine hP.mono ?_;clear hP;rintro ev w2⟨u,rfl,HU,hb2⟩;obtain⟨k0,k1⟩:=uh HD w2 hb2)|(go_at_call 182;refine(uh HV u (uh HU) _).mono ?_;rintro ev w3⟨rfl,hw⟩;obtain rfl:=hw.symm)|(go_at_call 35;refine(hF _).mono ?_;clear hF;rintro ev w8⟨bb,rfl,hc,hb8⟩))
   refine⟨rfl,?_,hb2.trans (hb8.mono hb2.size)⟩;unfold dH;rw[uh HG2];exact⟨bb,rfl,hc⟩
  |true=>
   have HG2:Hid (br 4 sts (ws.map aw.wd)=.ok (sts,-1)):=ab (by rw[uh HG,hx];simp[hb]);rw[hb]at HV;clear HG hx hb hx1;go_enter func144,ntmps144;go_wp2_with (first|(go_at_call 116;refine hP.mono ?_;clear hP;rintro ev w2⟨u,rfl,HU,hb2⟩)|(go_at_call 182;refine(uh HV u (uh HU) _).mono ?_;rintro ev w3⟨rfl,hw⟩;obtain rfl:=hw.symm))
   go_end0;refine⟨?_,hb2⟩;unfold dH;rw[uh HG2]
end Go.Proofs.YtjhobnjdfhkohaaGreatDoor
