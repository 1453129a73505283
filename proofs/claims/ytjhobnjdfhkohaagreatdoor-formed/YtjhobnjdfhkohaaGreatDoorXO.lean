import Derived.Test.YtjhobnjdfhkohaaGreatDoorXN
set_option linter.all false
set_option maxHeartbeats 4000000
set_option maxRecDepth 10000
namespace Go.Proofs.YtjhobnjdfhkohaaGreatDoor
open Go.Proofs.Tryz
open Go.RowKit Go.Maps
theorem bZ{w:World}{B e z n q:Nat}{v:Value}{xs:List Value}{c:Array Value}{t:TypeId}(h:w.ownsRow B e z v n xs)(hq:w.heap[q]?=some (.cells c t (0,0)))(hne:e≠t):v.ownBlock≠some q:=by
 intro e';rcases h.2 with⟨rfl,_⟩|⟨a,cap,cur,rfl,_,ha,_⟩
 .cases e'
 obtain rfl:a=q:=by simpa[Value.ownBlock]using e'
 rw[ha]at hq;injection hq with hq;injection hq with _ hq;exact hne hq
theorem iX{w w':World}{B e z n q:Nat}{v:Value}{xs:List Value}(h:w.ownsRow B e z v n xs)(ht:Tb w.heap.size q w w')(hne:v.ownBlock≠some q):w'.ownsRow B e z v n xs:= ap h λk hk=>ht.block k (World.ownsRow.lt h k hk).2 (λe=>hne (by rw[<-e];exact hk))
theorem mU.off{w w':World}{B q:Nat}{v:Value}{ms:List aw}{c:Array Value}{t:TypeId}(h:mU w B v ms)(hq:w.heap[q]?=some (.cells c t (0,0)))(h1:t≠148)(h2:t≠192)(ht:Tb w.heap.size q w w'):mU w' B v ms:= ⟨iX h.row ht (bZ h.row hq h1.symm),λm hm=>iX (h.all m hm) ht (bZ (h.all m hm) hq h2.symm)⟩
theorem cA.Ok.off{m:cA}{w w':World}{B q:Nat}{c:Array Value}{t:TypeId}(h:m.Ok w B)(hq:w.heap[q]?=some (.cells c t (0,0)))(h1:t≠148)(h2:t≠192)(ht:Tb w.heap.size q w w'):m.Ok w' B:= ⟨h.ws.off hq h1 h2 ht,h.op,h.least,h.small,h.short⟩
theorem aQ.off{w w':World}{B fb ib:Nat}{sv:Value}{ss:List ax}{c:Array Value}(h:aQ w B fb sv ss)(hq:w.heap[ib]?=some (.cells c 86 (0,0)))(hap:∀s∈ss,s.iv.ownBlock≠some ib)(ht:Tb w.heap.size ib w w'):aQ w' B fb sv ss:=by
 have hne:fb≠ib:=by rintro rfl;have:=h.cells;rw[hq]at this;injection this with this;injection this with _ this;cases this
 refine⟨(ht.block fb h.lt hne).trans h.cells,h.base,iX h.row ht (bZ h.row hq (by decide)),λs hs=>⟨iX (h.all s hs).row ht (hap s hs),λm hm=>((h.all s hs).all m hm).off hq (by decide) (by decide) ht,(h.all s hs).short⟩,h.short⟩
theorem ol.to{w:World}{B ib:Nat}{wv:Value}{ws:List aw}{st a b:Int}{f g:Value}(h:ol w B ib wv ws st a b f g)(k:Int):ol (w.setCell ⟨ib,1,none⟩ (.int .i64 k)) B ib wv ws k a b f g:= ⟨hS _ _ 1 _ _ _ h.cells,h.wsm.off h.cells (by decide) (by decide) (Tb.to _ _ _ _ _),h.base,h.short,h.small⟩
theorem dW{w w1:World}{n:Nat}(h:Below (w.drewN n).heap.size (w.drewN n) w1):Bw w w1:=⟨h.os,h.tape,h.output,h.size,h.block⟩
def gS(w:World)(ev:Ending)(B ib:Nat)(wv:Value)(ws:List aw)(a b:Int)(f g:Value)(r:lW (List aU×Int)):Prop:=match r with
 |.error (e,p)=>jm w ev e p
 |.ok (_,k)=>ev=.returned (.tuple #[])/\ol w B ib wv ws k a b f g
theorem si(st:List aU)(nm:LU):-1<=bf st nm/\bf st nm<st.length:=by
 unfold bf;cases h:st.findIdx? (λs=>s.name==nm)with
 |none=>simp;omega
 |some i=>have:=(List.findIdx?_eq_some_iff_getElem.1 h).1;simp only;omega
theorem Cx(B fb ib:Nat)(sv wv:Value)(ss:List ax)(ws:List aw)(a b:Int)(f g:Value)(w:World)(h:aQ w B fb sv ss)(hi:ol w B ib wv ws (-1) a b f g)(h3:3<=ws.length)(h4:ws.length<=4)(hss:0<ss.length)(hfg:∃f' g':Nat,f=aN f'/\g=aN g'): Cl 139 #[.pointer (some ⟨fb,0,none⟩),.pointer (some ⟨ib,0,none⟩)] w λev w'=>gS w' ev B ib wv ws a b f g (bC (ss.map ax.stg) (ws.map aw.wd))/\Tb w.heap.size ib w w':=by
 obtain⟨f',g',hf,hg⟩:=hfg;obtain⟨gw,cap,hv⟩:=hi.form (by omega);have hws:=hi.wsm;rw[hv]at hws;obtain⟨x1,ao1,n1,cap1,X1⟩:=DY hws hi.small 1 (by omega);obtain⟨x0,ao0,n0,cap0,X0⟩:=DY hws hi.small 0 (by omega);have hci:=hi.cells;rw[hv,hf,hg]at hci;obtain⟨n,hn⟩:=aq ws.length;rw[<-hn]at hci;have c0:=cq 0 hci;have q0:=X1.c0;have q1:=X1.c1;have nn:=World.new_ne w ⟨gw,1*2,none⟩ q0;have n2:=World.new_ne w ⟨ib,0,none⟩ c0;obtain⟨W1,hW1⟩:=aq (w.alloc (.cells #[.int .i64 (x1.place:Int),.slice ao1 n1 cap1] 148));have hb1:=dw hW1;have hc1:=em hW1;have hz1:w.heap.size<W1.heap.size:=by rw[hW1];simp
 have p0:=cq 0 hc1;have p1:=cq 1 hc1;have hSO:=yc x1 B W1 (X1.later hb1).ok X1.small;unfold aw.val at hSO;rw[X1.v]at hSO;have HG:Hid (bC (ss.map ax.stg) (ws.map aw.wd)=match eW x1.xs with
  |none=>if n=4 then .error (5,x0.place) else .ok (ss.map ax.stg,-1)
  |some m=>
   if n≠4 then .error (5,x0.place)
   else if dy m=false then .error (5,x1.place)
   else if bf (ss.map ax.stg) m=-1\/bf (ss.map ax.stg) m=(ss.length:Int)-1 then .error (6,x1.place)
   else .ok (ss.map ax.stg,bf (ss.map ax.stg) m)):=ab (by
  unfold bC
  rw[List.getElem?_map,X1.get,X0.plc,X1.plc,List.length_map,List.length_map,<-hn]
  rfl)
 have hF5:=λw'=>aZ 5 x0.place w';have hF1:=λw'=>aZ 5 x1.place w';have hF6:=λw'=>aZ 6 x1.place w';have HF:=ab h;have HI:=ab hi;have HCI:Hid (∀w',Bw w w'->w'.heap[ib]?=some (.cells #[.slice (some ⟨gw,0,none⟩) n cap,.int .i64 (-1),.int .i64 a,.int .i64 b,aN f',aN g'] 86 (0,0))):=ab (λw' hb'=>(hb'.block ib hi.lt).trans hci);have HC1:Hid (∀w',Bw W1 w'->w'.cell? ⟨w.heap.size,0,none⟩=some (.int .i64 (x1.place:Int))):=ab (λw' hb'=>cL hb' p0);have HPL:Hid (∀w',Bw w w'->Cl 61 #[.agg #[.slice (some ⟨gw,0,none⟩) n cap,.int .i64 (-1),.int .i64 a,.int .i64 b,aN f',aN g']] w' λev w''=>ev=.returned (.int .i64 (x0.place:Int))/\Bw w' w''):=ab (λw' hb'=>by have:=gU wv ws x0 (-1) a b (aN f') (aN g') B w' (hi.wsm.below hb') X0.get;rw[hv,<-hn]at this;exact this);have HB1:=ab hb1;have HWV:Hid (wv=.slice (some ⟨gw,0,none⟩) n cap):=ab (by rw[hv,hn]);have hn4:n<=4:=by omega
 have i1:(1:Int)<(n:Int):=by omega
 have HTX:=ab X1.text;clear h hi hws hci hc1 X0 X1 hv hn h3 h4 hb1;cases hfr:eW x1.xs with
 |none=>
  rw[hfr]at hSO;simp only[Option.isSome_none]at hSO;by_cases e4:n=4
  .have HG2:Hid (bC (ss.map ax.stg) (ws.map aw.wd)=.error (5,x0.place)):=ab (by rw[uh HG,hfr];simp only;rw[if_pos e4]);have g4:((n:Int)==4)=true:=by simp;omega
   clear HG hfr e4;go_enter func139,ntmps139;go_upto_region 1 with fail;rw[<-hW1];clear hW1;go_upto_region 2 with(go_at_call 169;refine hSO.mono ?_;clear hSO;rintro ev w2⟨u,rfl,HU,hb2⟩)
   have hbw2:=(uh HB1).trans (hb2.mono (uh HB1).size);have hc2:=uh HCI w2 hbw2;have d0:=cq 0 hc2;have d1:=cq 1 hc2;have d2:=cq 2 hc2;have d3:=cq 3 hc2;have d4:=cq 4 hc2;have d5:=cq 5 hc2;have HBW2:=ab hbw2;clear hc2 hbw2 c0 q0 q1;go_wp2_with (first|(go_at_call 61;refine(uh HPL _ (uh HBW2)).mono ?_;rintro ev w3⟨rfl,hb3⟩)|(go_at_call 35;refine(hF5 _).mono ?_;clear hF5;rintro ev w8⟨bb,rfl,hc,hb8⟩))
   refine⟨rfl,?_,Tb.of_below (((uh HBW2).trans (hb3.mono (uh HBW2).size)).trans (hb8.mono (nT (uh HBW2).size hb3.size)))⟩;unfold gS;rw[uh HG2];exact⟨bb,rfl,hc⟩
  have HG2:Hid (bC (ss.map ax.stg) (ws.map aw.wd)=.ok (ss.map ax.stg,-1)):=ab (by rw[uh HG,hfr];simp only;rw[if_neg e4]);have g4:((n:Int)==4)=false:=by simp;omega
  clear HG hfr e4;go_enter func139,ntmps139;go_upto_region 1 with fail;rw[<-hW1];clear hW1;go_upto_region 2 with(go_at_call 169;refine hSO.mono ?_;clear hSO;rintro ev w2⟨u,rfl,HU,hb2⟩)
  have hbw2:=(uh HB1).trans (hb2.mono (uh HB1).size);have hc2:=uh HCI w2 hbw2;have d0:=cq 0 hc2;have HBW2:=ab hbw2;clear hc2 hbw2 c0 q0 q1;go_wp2_with fail;refine bodyPost_ret (results_none rfl _ _ _) rfl ?_;refine⟨?_,Tb.of_below (uh HBW2)⟩;unfold gS;rw[uh HG2];exact⟨rfl,(uh HI).below (uh HBW2)⟩
 |some m=>
  rw[hfr]at hSO;simp only[Option.isSome_some]at hSO;have hml:m.length<=1500:=by
   unfold eW at hfr;cases hp:an x1.xs with
   |none=>rw[hp]at hfr;cases hfr
   |some t=>
    rw[hp]at hfr;simp only at hfr;split at hfr
    .injection hfr with hfr;rw[<-hfr,List.length_drop];have:=uh HTX t hp;omega
    cases hfr
  by_cases e4:n=4
  .have g4:((n:Int)==4)=true:=by simp;omega
   have hSN:∀(u:BA),u.data.toList=m->∀w',Cl 170 #[.string u] w' λe w''=>e=.returned (.bool (dy m))/\w''=w':=λu hu w'=>by have:=pq u w' (by rw[zE,hu];omega);rw[hu]at this;exact this
   have HSN:=ab hSN;clear hSN;cases hs:dy m with
   |false=>
    have HG2:Hid (bC (ss.map ax.stg) (ws.map aw.wd)=.error (5,x1.place)):=ab (by rw[uh HG,hfr];simp only;rw[if_neg (by simpa using e4),if_pos hs]);rw[hs]at HSN;clear HG hfr e4 hs;go_enter func139,ntmps139;go_upto_region 1 with fail;rw[<-hW1];clear hW1;go_upto_region 2 with(go_at_call 169;refine hSO.mono ?_;clear hSO;rintro ev w2⟨u,rfl,HU,hb2⟩)
    have hbw2:=(uh HB1).trans (hb2.mono (uh HB1).size);have hc2:=uh HCI w2 hbw2;have d0:=cq 0 hc2;have d1:=cq 1 hc2;have d2:=cq 2 hc2;have d3:=cq 3 hc2;have d4:=cq 4 hc2;have d5:=cq 5 hc2;have HBW2:=ab hbw2;have HU2:Hid (u.data.toList=m):=ab (uh HU m rfl);have w0:=uh HC1 w2 hb2;clear hc2 hbw2 c0 q0 q1 HU;go_wp2_with (first|(go_at_call 170;refine(uh HSN u (uh HU2) _).mono ?_;rintro ev w3⟨rfl,hw⟩;obtain rfl:=hw.symm)|(go_at_call 35;refine(hF1 _).mono ?_;clear hF1;rintro ev w8⟨bb,rfl,hc,hb8⟩))
    refine⟨rfl,?_,Tb.of_below ((uh HBW2).trans (hb8.mono (uh HBW2).size))⟩;unfold gS;rw[uh HG2];exact⟨bb,rfl,hc⟩
   |true=>
    have HG1:Hid (bC (ss.map ax.stg) (ws.map aw.wd)=if bf (ss.map ax.stg) m=-1\/bf (ss.map ax.stg) m=(ss.length:Int)-1 then .error (6,x1.place) else .ok (ss.map ax.stg,bf (ss.map ax.stg) m)):=ab (by rw[uh HG,hfr];simp only;rw[if_neg (by simpa using e4),if_neg (by simp[hs])]);rw[hs]at HSN;clear HG hfr e4 hs;go_enter func139,ntmps139;go_upto_region 1 with fail;rw[<-hW1];clear hW1;go_upto_region 2 with(go_at_call 169;refine hSO.mono ?_;clear hSO;rintro ev w2⟨u,rfl,HU,hb2⟩)
    have hbw2:=(uh HB1).trans (hb2.mono (uh HB1).size);have hc2:=uh HCI w2 hbw2;have d0:=cq 0 hc2;have d1:=cq 1 hc2;have d2:=cq 2 hc2;have d3:=cq 3 hc2;have d4:=cq 4 hc2;have d5:=cq 5 hc2;have HBW2:=ab hbw2;have HU2:Hid (u.data.toList=m):=ab (uh HU m rfl);have w0:=uh HC1 w2 hb2;clear hc2 hbw2 c0 q0 q1 HU;have hFd:=cY B fb sv ss u w2 ((uh HF).below (uh HBW2));rw[uh HU2]at hFd;obtain⟨K,hK⟩:=aq (bf (ss.map ax.stg) m);have hKl:=si (ss.map ax.stg) m;rw[List.length_map,<-hK]at hKl;rw[<-hK]at HG1 hFd;clear hK;have z1:w2.frozen? ⟨ib,1,none⟩=false:=by have:=uh HCI w2 (uh HBW2);simp[World.frozen?,this]
    have HHC:Hid (∀w',Bw w w'->w'.cell? ⟨ib,1,none⟩=some (.int .i64 (-1))/\w'.frozen? ⟨ib,1,none⟩=false):=ab (λw' hb'=>⟨cq 1 (uh HCI w' hb'),by simp[World.frozen?,uh HCI w' hb']⟩);go_upto_region 8 with(first|(go_at_call 170;refine(uh HSN u (uh HU2) _).mono ?_;rintro ev w3⟨rfl,hw⟩;obtain rfl:=hw.symm)|(go_at_call 165;refine hFd.mono ?_;clear hFd;rintro ev w4⟨rfl,hb4⟩;obtain⟨k1,k2⟩:=uh HHC w4 ((uh HBW2).trans (hb4.mono (uh HBW2).size))))
    have hbw4:=(uh HBW2).trans (hb4.mono (uh HBW2).size);obtain⟨W5,hW5⟩:=aq (w4.setCell ⟨ib,1,none⟩ (.int .i64 K));rw[<-hW5];have hI5:ol W5 B ib wv ws K a b f g:=by rw[hW5];exact((uh HI).below hbw4).to K
    have hT5:Tb w4.heap.size ib w4 W5:=by rw[hW5];exact Tb.to _ _ _ _ _
    have hT:=(Tb.of_below hbw4).trans (hT5.mono hbw4.size);have hF4:=(uh HF).below hbw4;have hfne:fb≠ib:=by rintro rfl;have h1:=(uh HF).cells;have h2:=(uh HI).cells;rw[h1]at h2;injection h2 with h2;injection h2 with _ h2;cases h2
    obtain⟨ao2,cap2,hsv⟩:∃ao cap,sv=.slice ao ss.length cap:=by
     rcases(uh HF).row.2 with⟨e,h0⟩|⟨g,cap,cur,e,_⟩
     .exact⟨none,0,by rw[e,h0]⟩
     exact⟨_,_,e⟩
    have s0:W5.cell? ⟨fb,0,none⟩=some (.slice ao2 ss.length cap2):=by rw[World.cell?_of_block (hT5.block fb hF4.lt hfne),<-hsv];exact hF4.c0
    have s1:=cq 1 hI5.cells;have HI5:=ab hI5;have HT:=ab hT;have hZ5:=Nat.lt_of_lt_of_le hz1 (nT hb2.size (nT hb4.size hT5.size));have t0:W5.cell? ⟨w.heap.size,0,none⟩=some (.int .i64 (x1.place:Int)):=by have h4:=cL hb4 w0;rw[World.cell?_of_block (hT5.block w.heap.size (World.block_lt_of_cell? _ _ h4) (by have:=(uh HI).lt;omega))];exact h4
    obtain⟨N,hN⟩:=aq ss.length;rw[<-hN]at s0 HG1 hKl;have hN5:N<=5:=by rw[hN];exact(uh HF).short
    have hN0:0<N:=by rw[hN];exact hss
    have e5:IntKind.i64.wrap ((N:Int)-1)=(N:Int)-1:=by simp[IntKind.wrap,IntKind.bits,IntKind.signed];omega
    clear hW5 hI5 hT5 hT hF4 hfne hsv hN hbw4 k1 k2 hss;by_cases kk:K=-1
    .have gk:(K==-1)=true:=by simpa using kk
     have HG2:Hid (bC (ss.map ax.stg) (ws.map aw.wd)=.error (6,x1.place)):=ab (by rw[uh HG1,if_pos (.inl kk)]);clear HG1 kk;go_quiet (fail);go_wp2_with (go_at_call 35;refine(hF6 _).mono ?_;clear hF6;rintro ev w8⟨bb,rfl,hc,hb8⟩)
     refine⟨rfl,?_,(uh HT).trans (Tb.of_below (Below.mono (B':=w.heap.size) (dW hb8) (by show _<=W5.heap.size;omega)))⟩;unfold gS;rw[uh HG2];exact⟨bb,rfl,hc⟩
    have gk:(K==-1)=false:=by simpa using kk
    by_cases kl:K=(N:Int)-1
    .have gl:(K==(N:Int)-1)=true:=by simpa using kl
     have HG2:Hid (bC (ss.map ax.stg) (ws.map aw.wd)=.error (6,x1.place)):=ab (by rw[uh HG1,if_pos (.inr kl)]);clear HG1 kk kl;go_quiet (fail);go_wp2_with (go_at_call 35;refine(hF6 _).mono ?_;clear hF6;rintro ev w8⟨bb,rfl,hc,hb8⟩)
     refine⟨rfl,?_,(uh HT).trans (Tb.of_below (Below.mono (B':=w.heap.size) (dW hb8) (by show _<=W5.heap.size;omega)))⟩;unfold gS;rw[uh HG2];exact⟨bb,rfl,hc⟩
    have gl:(K==(N:Int)-1)=false:=by simpa using kl
    have HG2:Hid (bC (ss.map ax.stg) (ws.map aw.wd)=.ok (ss.map ax.stg,K)):=ab (by rw[uh HG1,if_neg (by rintro(h|h);exact kk h;exact kl h)]);clear HG1 kk kl;go_quiet (fail);go_wp2_with fail;go_end0;refine⟨?_,(uh HT).trans (Tb.of_below (below_drewN (bR _ _) _))⟩;unfold gS;rw[uh HG2];exact⟨rfl,(uh HI5).below (below_drewN (bR _ _) _)⟩
  have HG2:Hid (bC (ss.map ax.stg) (ws.map aw.wd)=.error (5,x0.place)):=ab (by rw[uh HG,hfr];simp only;rw[if_pos e4]);have g4:((n:Int)==4)=false:=by simp;omega
  clear HG hfr e4;go_enter func139,ntmps139;go_upto_region 1 with fail;rw[<-hW1];clear hW1;go_upto_region 2 with(go_at_call 169;refine hSO.mono ?_;clear hSO;rintro ev w2⟨u,rfl,HU,hb2⟩)
  have hbw2:=(uh HB1).trans (hb2.mono (uh HB1).size);have hc2:=uh HCI w2 hbw2;have d0:=cq 0 hc2;have d1:=cq 1 hc2;have d2:=cq 2 hc2;have d3:=cq 3 hc2;have d4:=cq 4 hc2;have d5:=cq 5 hc2;have HBW2:=ab hbw2;have HU2:Hid (u.data.toList=m):=ab (uh HU m rfl);have w0:=uh HC1 w2 hb2;clear hc2 hbw2 c0 q0 q1 HU;go_wp2_with (first|(go_at_call 61;refine(uh HPL _ (uh HBW2)).mono ?_;rintro ev w3⟨rfl,hb3⟩)|(go_at_call 35;refine(hF5 _).mono ?_;clear hF5;rintro ev w8⟨bb,rfl,hc,hb8⟩))
  refine⟨rfl,?_,Tb.of_below (((uh HBW2).trans (hb3.mono (uh HBW2).size)).trans (hb8.mono (nT (uh HBW2).size hb3.size)))⟩;unfold gS;rw[uh HG2];exact⟨bb,rfl,hc⟩
structure Fr(B:Nat)(w w':World):Prop where
 below:Below B w w'
 keep:∀(k:Nat) (c:Array Value) (fr:Nat×Nat),w.heap[k]?=some (Obj.cells c 144 fr)->w'.heap[k]?=some (.cells c 144 fr)
theorem Fr.size{B:Nat}{w w':World}(h:Fr B w w'):w.heap.size<=w'.heap.size:=h.below.size
theorem Fr.trans{B:Nat}{a b c:World}(h:Fr B a b)(k:Fr B b c):Fr B a c:=⟨h.below.trans k.below,λi x fr hx=>k.keep i x fr (h.keep i x fr hx)⟩
theorem Fr.of_below{B:Nat}{w w':World}(h:Bw w w')(hB:B<=w.heap.size):Fr B w w':= ⟨h.mono hB,λk _ _ hk=>(h.block k (gA hk)).trans hk⟩
theorem Fr.next{B:Nat}{w w1 w2:World}(h:Fr B w w1)(hb:Bw w1 w2)(hB:B<=w1.heap.size):Fr B w w2:=h.trans (Fr.of_below hb hB)
theorem Fr.of_tb{B q:Nat}{w w':World}{c:Array Value}{t:TypeId}{fr:Nat×Nat}(h:Tb w.heap.size q w w')(hq:w.heap[q]?=some (.cells c t fr))(ht:t≠144)(hB:B<=q):Fr B w w':=by
 have hlt:=(gA hq)
 refine⟨⟨h.os,h.tape,h.output,h.size,λk hk=>h.block k (by omega) (by omega)⟩,λk c' fr' hk=>(h.block k (gA hk) (λe=>?_)).trans hk⟩;rw[e,hq]at hk;injection hk with hk;injection hk with _ hk;exact ht hk
theorem Fr.set{B q:Nat}{w w1:World}{c:Array Value}{t:TypeId}{fr:Nat×Nat}(h:Fr B w w1)(hq:w1.heap[q]?=some (.cells c t fr))(ht:t≠144)(hB:B<=q)(i:Nat)(v:Value):Fr B w (w1.setCell ⟨q,i,none⟩ v):= h.trans (Fr.of_tb (Tb.to _ _ _ _ _) hq ht hB)
theorem Fr.grown{B e z n:Nat}{w w1 w2:World}{v:Value}{xs:List Value}(h:Fr B w w1)(hr:w1.ownsRow B e z v n xs)(hg:w1.grownBy w2 v.ownBlock)(he:e≠144)(hB:B<=w1.heap.size):Fr B w w2:=by
 refine h.trans ⟨⟨hg.os,hg.tape,hg.output,hg.size,λk hk=>hg.block k (by omega) (λe'=>by have:=(World.ownsRow.lt hr k e'.symm).1;omega)⟩,λk c fr hk=>(hg.block k (gA hk) (λe'=>?_)).trans hk⟩;rcases hr.2 with⟨rfl,_⟩|⟨a,cap,cur,rfl,_,ha,_⟩
 .cases e'
 obtain rfl:k=a:=by simpa[Value.ownBlock]using e'
 rw[ha]at hk;injection hk with hk;injection hk with _ hk;exact he hk
end Go.Proofs.YtjhobnjdfhkohaaGreatDoor
