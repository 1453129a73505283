import Derived.Test.YtjhobnjdfhkohaaGreatDoorXP
set_option linter.all false
set_option maxHeartbeats 4000000
set_option maxRecDepth 10000
namespace Go.Proofs.YtjhobnjdfhkohaaGreatDoor
open Go.Proofs.Tryz
open Go.RowKit Go.Maps
def jN(ss:List ax):Prop:=ss.Pairwise λs t=>∀g,s.iv.ownBlock=some g->t.iv.ownBlock≠some g
def gF(w:World)(ev:Ending)(B fb:Nat)(r:lW (List aU)):Prop:=match r with
 |.error (e,p)=>jm w ev e p
 |.ok st=>ev=.returned (.tuple #[])/\∃(sv:Value) (ss:List ax),aQ w B fb sv ss/\ss.map ax.stg=st/\pw ss/\jN ss
theorem Nc{w:World}{b:Nat}{t:TypeId}{a0 a1 a2 a3 a4 a5:Value}(b0 b1 b2 b3:Value)(h:w.heap[b]?=some (.cells #[a0,a1,a2,a3,a4,a5] t (0,0))): ((((w.setCell ⟨b,2,none⟩ b0).setCell ⟨b,3,none⟩ b1).setCell ⟨b,4,none⟩ b2).setCell ⟨b,5,none⟩ b3).heap[b]?=some (.cells #[a0,a1,b0,b1,b2,b3] t (0,0)):= hS _ _ 5 _ _ _ (hS _ _ 4 _ _ _ (hS _ _ 3 _ _ _ (hS _ _ 2 _ _ _ h)))
theorem Gu(B q:Nat)(w:World)(b0 b1 b2 b3:Value):Tb B q w ((((w.setCell ⟨q,2,none⟩ b0).setCell ⟨q,3,none⟩ b1).setCell ⟨q,4,none⟩ b2).setCell ⟨q,5,none⟩ b3):= (((Tb.to B q w 2 b0).trans (Tb.to B q _ 3 b1)).trans (Tb.to B q _ 4 b2)).trans (Tb.to B q _ 5 b3)
theorem tu{op n:Nat}{b:Bool}(h:sJ op n b=true):(af op).1<=(n:Int)-1/\(n:Int)-1<=(af op).2.1/\(b=true->op=0):=by
 have:=of_decide_eq_true h;exact⟨by omega,by omega,λhb=>by
  by_cases h0:op=0
  .exact h0
  exact absurd ⟨hb,h0⟩ this.2.2⟩
theorem F7{ws:List Wd}{b n:LU}(h:bp ws=.ok (b,n)):zK ws 1=some b/\(2<ws.length->pln ws 2=some L8)/\(ws.length=4->zK ws 3=some n):=by
 unfold bp at h;split at h
 .cases h
 rename_i h2;have h2':2<ws.length->pln ws 2=some L8:=λhl=>by
  by_cases he:pln ws 2=some L8
  .exact he
  exact absurd ⟨hl,he⟩ h2
 split at h
 .cases h
 split at h
 .split at h
  .cases h
  rename_i n' hn';split at h
  .cases h
  rename_i b' hb';injection h with h;injection h with h3 h4;subst h3 h4;exact⟨hb',h2',λ_=>hn'⟩
 rename_i h4;split at h
 .cases h
 rename_i b' hb';injection h with h;injection h with h3 _;subst h3;exact⟨hb',h2',λe=>absurd e h4⟩
theorem iP{xs:List bM}{l:LU}(h:an xs=some l):∀p∈parts xs,p.isVar=false:=by
 rcases(pF xs).1 l h with⟨_,e⟩|⟨_,e⟩
 .rw[e];simp
 rw[e];intro p hp;rw[List.mem_singleton]at hp;rw[hp]
theorem qx{xs:List bM}{l:LU}(h:cH xs=some l):an xs=some l:=by
 unfold cH at h;split at h
 .split at h
  .rename_i t ht _;injection h with h;rw[<-h];exact ht
  cases h
 cases h
theorem zu{ws:List aw}{b n:LU}(h:bp (ws.map aw.wd)=.ok (b,n)){x:aw}(h0:ws[0]?=some x)(hop:lX x.xs=some 0)(h4:ws.length<=4):∀y∈ws,∀p∈parts y.xs,p.isVar=false:=by
 intro y hy;obtain⟨i,hi,rfl⟩:=List.mem_iff_getElem.1 hy;have hgi:=gG hi;obtain⟨h1,h2,h3⟩:=F7 h;rw[List.length_map]at h2 h3;match i,hi,hgi with
 |0,_,hgi=>rw[h0]at hgi;injection hgi with hgi;obtain⟨t,ht,_⟩:=qu hop;rw[<-hgi];exact iP ht
 |1,_,hgi=>unfold zK at h1;rw[List.getElem?_map,hgi]at h1;exact iP (qx h1)
 |2,hi,hgi=>have:=h2 hi;rw[vU,hgi]at this;exact iP this
 |3,hi,hgi=>have:=h3 (by omega);unfold zK at this;rw[List.getElem?_map,hgi]at this;exact iP (qx this)
 |i+4,hi,_=>omega
theorem JH(qs:List ax)(s:ax)(v:Value):(sD (qs++[s])).set (qs.length*2+1) v=sD (qs++[⟨s.name,v,s.ins⟩]):=by rw[kE,kE,<-J6,List.set_append_right _ _ (by omega)];simp[ax.cells]
theorem JE(qs:List ax)(nm:BA)(v:Value)(i j:List cA):sD (qs++[⟨nm,v,i⟩])=sD (qs++[⟨nm,v,j⟩]):=by rw[kE,kE];rfl
theorem Gi{w W w6:World}{B fb g cap g6 cp6:Nat}{qs:List ax}{s:ax}{m:cA}(h:aQ w B fb (.slice (some ⟨g,0,none⟩) (qs.length+1) cap) (qs++[s]))(hm:m.Ok w B)(hap:jN (qs++[s]))(hW:Bw w W)(hown:w6.ownsRow B 86 6 (.slice (some ⟨g6,0,none⟩) (s.ins.length+1) cp6) (s.ins.length+1) (Ib s.ins++m.cells))(hg:W.grownBy w6 s.iv.ownBlock)(hl:s.iv.ownBlock=some g6\/w.heap.size<=g6)(hlen:s.ins.length<1500): aQ (w6.setCell ⟨g,qs.length*2+1,none⟩ (.slice (some ⟨g6,0,none⟩) (s.ins.length+1) cp6)) B fb (.slice (some ⟨g,0,none⟩) (qs.length+1) cap) (qs++[⟨s.name,.slice (some ⟨g6,0,none⟩) (s.ins.length+1) cp6,s.ins++[m]⟩])/\jN (qs++[⟨s.name,.slice (some ⟨g6,0,none⟩) (s.ins.length+1) cp6,s.ins++[m]⟩])/\Fr B w (w6.setCell ⟨g,qs.length*2+1,none⟩ (.slice (some ⟨g6,0,none⟩) (s.ins.length+1) cp6)):=by
 have hls:(qs++[s]).length=qs.length+1:=by simp
 have hrow:=h.row;rw[hls]at hrow;obtain⟨cur,hgb⟩:∃cur,w.heap[g]?=some (.cells cur 106 (0,0)):=by
  rcases hrow.2 with⟨e,_⟩|⟨a,c,cur,e,_,ha,_⟩
  .cases e
  injection e with e1 _ _;injection e1 with e1;injection e1 with e1;subst e1;exact⟨cur,ha⟩
 have hgl:=(gA hgb)
 have hs:=h.all s (by simp);have keep6:∀k,k<w.heap.size->s.iv.ownBlock≠some k->w6.heap[k]?=w.heap[k]?:=λk hk hne=>(hg.block k (Nat.lt_of_lt_of_le hk hW.size) (λe=>hne e.symm)).trans (hW.block k hk);have keep:∀k,k<w.heap.size->s.iv.ownBlock≠some k->k≠g->(w6.setCell ⟨g,qs.length*2+1,none⟩ (.slice (some ⟨g6,0,none⟩) (s.ins.length+1) cp6)).heap[k]?=w.heap[k]?:=λk hk hne hkg=>(Below.heap_setCell _ _ _ _ hkg).trans (keep6 k hk hne);have hgs:=bZ hs.row hgb (by decide);have hfb:fb≠g:=by rintro rfl;have:=h.cells;rw[hgb]at this;injection this with this;injection this with _ this;cases this
 have rowK:∀{B2 e z n:Nat}{v:Value}{xs:List Value},w.ownsRow B2 e z v n xs->e≠86->e≠106->(w6.setCell ⟨g,qs.length*2+1,none⟩ (.slice (some ⟨g6,0,none⟩) (s.ins.length+1) cp6)).ownsRow B2 e z v n xs:=by intro B2 e z n v xs hr h1 h2;refine ap hr λk hk=>keep k (World.ownsRow.lt hr k hk).2 (λe'=>oq hr hs.row h1 k hk e') (λe'=>?_);rw[e']at hk;exact bZ hr hgb h2 hk
 have wsK:∀{v:Value}{ms:List aw},mU w B v ms->mU (w6.setCell ⟨g,qs.length*2+1,none⟩ (.slice (some ⟨g6,0,none⟩) (s.ins.length+1) cp6)) B v ms:=λhw=>⟨rowK hw.row (by decide) (by decide),λm hm=>rowK (hw.all m hm) (by decide) (by decide)⟩
 have inK:∀{m:cA},m.Ok w B->m.Ok (w6.setCell ⟨g,qs.length*2+1,none⟩ (.slice (some ⟨g6,0,none⟩) (s.ins.length+1) cp6)) B:=λhk=>⟨wsK hk.ws,hk.op,hk.least,hk.small,hk.short⟩
 have hg6g:g6≠g:=by
  rcases hl with e|e
  .rintro rfl;exact hgs e
  omega
 unfold jN at hap;rw[List.pairwise_append]at hap;obtain⟨hap1,_,hap2⟩:=hap;refine⟨⟨?_,h.base,?_,λq hq=>?_,?_⟩,?_,?_⟩
 .exact(keep fb h.lt (bZ hs.row h.cells (by decide)) hfb).trans h.cells
 .rw[lA,List.length_singleton];have hrow6:=ap hrow λk hk=>keep6 k (World.ownsRow.lt hrow k hk).2 (λe'=>oq hrow hs.row (by decide) k hk e');have:=(World.ownsRow.stored hrow6 (qs.length*2+1) (.slice (some ⟨g6,0,none⟩) (s.ins.length+1) cp6)).1;rw[JH,JE qs s.name _ s.ins (s.ins++[m])]at this;exact this
 .rcases mA.1 hq with h'|h'
  .have hk:=h.all q (by simp[h']);refine⟨ap hk.row λk hk'=>keep k (World.ownsRow.lt hk.row k hk').2 (hap2 q h' s (by simp) k hk') (λe'=>?_),λm' hm'=>inK (hk.all m' hm'),hk.short⟩;rw[e']at hk';exact bZ hk.row hgb (by decide) hk'
  rw[List.mem_singleton]at h';subst h';refine⟨?_,λm' hm'=>?_,by simp;omega⟩
  .rw[GU,lA];refine ap hown λk hk=>Below.heap_setCell _ _ _ _ (λe=>?_);obtain rfl:g6=k:=by simpa[Value.ownBlock]using hk
   exact hg6g e
  rcases mA.1 hm' with h''|h''
  .exact inK (hs.all m' h'')
  rw[List.mem_singleton]at h'';rw[h''];exact inK hm
 .have:=h.short;simp at this⊢;omega
 .unfold jN;rw[List.pairwise_append];refine⟨hap1,by simp,λq hq t ht g' hg'=>?_⟩;rw[List.mem_singleton]at ht;subst ht;intro e;obtain rfl:g6=g':=by simpa[Value.ownBlock]using e
  rcases hl with e'|e'
  .exact hap2 q hq s (by simp) g6 hg' e'
  have:=(World.ownsRow.lt (h.all q (by simp[hq])).row g6 hg').2;omega
 have hBw:B<=w.heap.size:=nT h.base (Nat.le_of_lt h.lt);have hb6:=(Fr.of_below hW hBw).grown (ap hs.row λk hk=>hW.block k (World.ownsRow.lt hs.row k hk).2) hg (by decide) (nT hBw hW.size);exact hb6.set ((keep6 g hgl hgs).trans hgb) (by decide) (World.ownsRow.lt hrow g rfl).1 _ _
theorem zO{st st':List aU}{ws:List Wd}{k:Int}(h:ba st ws=.ok (st',k)):∃b n,bp ws=.ok (b,n):=by
 unfold ba at h;cases hn:bp ws with
 |error e=>rw[hn]at h;cases h
 |ok x=>exact⟨x.1,x.2,rfl⟩
theorem JN(w:World)(o:Obj):(w.alloc o).drew.heap[w.heap.size]?=some o:=hN w o
theorem J9(qs:List ax)(s:ax)(v:Value)(m:cA):(qs++[(⟨s.name,v,s.ins++[m]⟩:ax)]).map ax.stg=di ((qs++[s]).map ax.stg) m.ins:=by unfold di;simp[ax.stg]
theorem Ay(op:Nat)(hop:op<8)(args:Array Value)(W:World):(callFunc (af op).2.2.1 args).run prog W=.ok (.enter (af op).2.2.1 args) W:=by
 match op,hop with
 |0,_=>exact(show (callFunc 137 args).run prog W=.ok (.enter 137 args) W by kernel_rfl)
 |1,_=>exact(show (callFunc 139 args).run prog W=.ok (.enter 139 args) W by kernel_rfl)
 |2,_=>exact(show (callFunc 141 args).run prog W=.ok (.enter 141 args) W by kernel_rfl)
 |3,_=>exact(show (callFunc 141 args).run prog W=.ok (.enter 141 args) W by kernel_rfl)
 |4,_=>exact(show (callFunc 144 args).run prog W=.ok (.enter 144 args) W by kernel_rfl)
 |5,_=>exact(show (callFunc 141 args).run prog W=.ok (.enter 141 args) W by kernel_rfl)
 |6,_=>exact(show (callFunc 147 args).run prog W=.ok (.enter 147 args) W by kernel_rfl)
 |7,_=>exact(show (callFunc 141 args).run prog W=.ok (.enter 141 args) W by kernel_rfl)
theorem DP(B fb ib:Nat)(sv wv:Value)(ss:List ax)(ws:List aw)(x:aw)(w:World)(h:aQ w B fb sv ss)(hi:ol w B ib wv ws (-1) 0 0 .nilFunc .nilFunc)(hap:∀s∈ss,s.iv.ownBlock≠some ib)(hbeg:pw ss)(hapS:jN ss)(h0:ws[0]?=some x): Cl 34 #[.pointer (some ⟨fb,0,none⟩),.pointer (some ⟨ib,0,none⟩)] w λev w'=>gF w' ev B fb (bB (ss.map ax.stg) (ws.map aw.wd))/\Fr B w w':=by
 have hBw:B<=w.heap.size:=nT h.base (Nat.le_of_lt h.lt);have hwd0:(ws.map aw.wd)[0]?=some x.wd:=by rw[List.getElem?_map,h0];rfl
 have hplc:plc (ws.map aw.wd) 0=x.place:=F1 h0;cases ho:lX x.xs with
 |none=>
  have HG:Hid (bB (ss.map ax.stg) (ws.map aw.wd)=.error (5,x.place)):=ab (by unfold bB;rw[hwd0];simp only[aw.wd];rw[ho];simp only;rw[hplc]);have hR:=vS B fb ib sv wv ss ws x (-1) 0 0 w h hi h0 ho;unfold jm at hR;clear h hi hap hbeg hapS h0 hwd0 hplc ho;go_enter func34,ntmps34;go_wp2_with (go_at_call 58;refine hR.mono ?_;clear hR;rintro ev w8⟨⟨bb,rfl,hc⟩,hb8⟩)
  refine⟨rfl,?_,Fr.of_below hb8 hBw⟩;unfold gF;rw[uh HG];exact⟨bb,rfl,hc⟩
 |some op=>
  obtain⟨t,hxt,hot⟩:=qu ho;have hop:=GY hot;have hR:=ve B fb ib sv wv ss ws x (-1) 0 0 op w h hi h0 ho;have hlenE:(ss.map ax.stg=[])↔ss.isEmpty=true:=by cases ss<;>simp
  have HG0:Hid (bB (ss.map ax.stg) (ws.map aw.wd)=if sJ op ws.length ss.isEmpty=false then .error (5,x.place) else match br op (ss.map ax.stg) (ws.map aw.wd)with
   |.error e=>.error e
   |.ok (st',k)=>match cS (dg st') (ws.map aw.wd)with
    |some p=>.error (7,p)
    |none=>if 24<=ea st' then .error (10,x.place) else .ok (di st' ⟨ws.map aw.wd,k⟩)):=ab (by
   unfold bB
   rw[hwd0]
   simp only[aw.wd]
   rw[ho]
   simp only
   rw[hplc,List.length_map]
   by_cases hf:sJ op ws.length ss.isEmpty=false
   .rw[if_pos hf,if_pos (by
     have:=of_decide_eq_false hf;by_cases c1:(ws.length:Int)-1<(af op).1
     .exact .inl c1
     by_cases c2:(af op).2.1<(ws.length:Int)-1
     .exact .inr (.inl c2)
     refine .inr (.inr ?_);by_cases c3:ss.isEmpty=true/\op≠0
     .exact⟨hlenE.2 c3.1,c3.2⟩
     exact absurd ⟨c1,c2,c3⟩ this)]
   .rw[if_neg hf,if_neg (by
     have hf':sJ op ws.length ss.isEmpty=true:=by simpa using hf
     obtain⟨a1,a2,a3⟩:=tu hf';rintro(c|c|c)
     .omega
     .omega
     exact c.2 (a3 (hlenE.1 c.1)))]
    rfl)
  cases hfit:sJ op ws.length ss.isEmpty with
  |false=>
   have HG:Hid (bB (ss.map ax.stg) (ws.map aw.wd)=.error (5,x.place)):=ab (by rw[uh HG0,if_pos hfit]);have hR2:Cl 58 #[.pointer (some ⟨fb,0,none⟩),.pointer (some ⟨ib,0,none⟩)] w λev w'=>(∃b:Nat,ev=.panicked [{ v:=.iface 137 (.pointer (some ⟨b,0,none⟩)),recovered:=false }]/\w'.heap[b]?=some (.cells #[.int .i64 ((5:Nat):Int),.int .i64 (x.place:Int)] 140 (0,0)))/\Bw w w':=by
    refine hR.mono ?_;rintro ev w'⟨⟨_,hw⟩|⟨hc,_⟩,hb⟩
    .exact⟨hw,hb⟩
    rw[hfit]at hc;cases hc
   clear h hi hap hbeg hapS h0 hwd0 hplc ho hR HG0 hfit hxt hot hlenE;go_enter func34,ntmps34;go_wp2_with (go_at_call 58;refine hR2.mono ?_;clear hR2;rintro ev w8⟨⟨bb,rfl,hc⟩,hb8⟩)
   refine⟨rfl,?_,Fr.of_below hb8 hBw⟩;unfold gF;rw[uh HG];exact⟨bb,rfl,hc⟩
  |true=>
   have hR2:Cl 58 #[.pointer (some ⟨fb,0,none⟩),.pointer (some ⟨ib,0,none⟩)] w λev w'=>ev=.returned (gz op)/\Bw w w':=by
    refine hR.mono ?_;rintro ev w'⟨⟨hc,_⟩|⟨_,hw⟩,hb⟩
    .rw[hfit]at hc;cases hc
    exact⟨hw,hb⟩
   have HG1:Hid (bB (ss.map ax.stg) (ws.map aw.wd)=match br op (ss.map ax.stg) (ws.map aw.wd)with
    |.error e=>.error e
    |.ok (st',k)=>match cS (dg st') (ws.map aw.wd)with
     |some p=>.error (7,p)
     |none=>if 24<=ea st' then .error (10,x.place) else .ok (di st' ⟨ws.map aw.wd,k⟩)):=ab (by rw[uh HG0,if_neg (by simp[hfit])])
   obtain⟨hf1,hf2,hf3⟩:=tu hfit;unfold gz at hR2;obtain⟨ra,hra⟩:=aq ((af op).1);obtain⟨rb,hrb⟩:=aq ((af op).2.1);obtain⟨rf,hrf⟩:=aq ((af op).2.2.1);obtain⟨rg,hrg⟩:=aq ((af op).2.2.2);rw[<-hra,<-hrb,<-hrf,<-hrg]at hR2;have HRR:=ab (And.intro hra (And.intro hrb (And.intro hrf hrg)));have HF:=ab h;have HI:=ab hi;have HAP:=ab hap;have HBEG:=ab hbeg;have HAPS:=ab hapS;have H0:=ab h0;have HO:=ab ho;have HFIT:=ab (And.intro hf1 (And.intro hf2 hf3));have HOP:=ab hop;have HZ:Hid (∀w',Bw w w'->(w'.cell? ⟨ib,2,none⟩=some (.int .i64 0)/\w'.cell? ⟨ib,3,none⟩=some (.int .i64 0)/\w'.cell? ⟨ib,4,none⟩=some .nilFunc/\w'.cell? ⟨ib,5,none⟩=some .nilFunc)/\∀i,w'.frozen? ⟨ib,i,none⟩=false):=ab (λw' hb'=>by have hc:=(hi.below hb').cells;exact⟨⟨cq 2 hc,cq 3 hc,cq 4 hc,cq 5 hc⟩,λi=>by simp[World.frozen?,hc]⟩);clear h hi hap hbeg hapS h0 hwd0 hplc ho hR HG0 hfit hxt hot hlenE hra hrb hrf hrg hf1 hf2 hf3 hop;go_enter func34,ntmps34;go_upto_region 1 with(go_at_call 58;refine hR2.mono ?_;clear hR2;rintro ev w1⟨rfl,hb1⟩;obtain⟨⟨z2,z3,z4,z5⟩,hfz⟩:=uh HZ w1 hb1;have y2:=hfz 2;have y3:=hfz 3;have y4:=hfz 4;have y5:=hfz 5;clear hfz)
   obtain⟨W1,hW1⟩:=aq ((((w1.setCell ⟨ib,2,none⟩ (.int .i64 ra)).setCell ⟨ib,3,none⟩ (.int .i64 rb)).setCell ⟨ib,4,none⟩ (aN rf)).setCell ⟨ib,5,none⟩ (aN rg));rw[<-hW1];have hI1:=(uh HI).below hb1;have hF1:=(uh HF).below hb1;have hT1:Tb w1.heap.size ib w1 W1:=by rw[hW1];exact Gu _ _ _ _ _ _ _
   have hIW:ol W1 B ib wv ws (-1) ra rb (aN rf) (aN rg):=⟨by rw[hW1];exact Nc _ _ _ _ hI1.cells,hI1.wsm.off hI1.cells (by decide) (by decide) hT1,hI1.base,hI1.short,hI1.small⟩
   have hFW:aQ W1 B fb sv ss:=hF1.off hI1.cells (uh HAP) hT1;have hBW:Fr B w W1:=(Fr.of_below hb1 hBw).trans (Fr.of_tb hT1 hI1.cells (by decide) hI1.base);obtain⟨r1,r2,r3,r4⟩:=uh HRR;have hRd:=LN op (uh HOP) B fb ib sv wv ss ws W1 hFW (by rw[<-r1,<-r2,<-r3,<-r4];exact hIW) (uh HAP) (uh HFIT).1 (uh HFIT).2.1 (λhne=>by
    cases hs:ss with
    |nil=>exact absurd ((uh HFIT).2.2 (by rw[hs];rfl)) hne
    |cons _ _=>simp)
   rw[<-r1,<-r2,<-r3,<-r4]at hRd;have u4:=cq 4 hIW.cells;have hcf:∀(args:Array Value) (W:World),(callFunc rf args).run prog W=.ok (.enter rf args) W:=λargs W=>by rw[r3];exact Ay op (uh HOP) args W
   have HBW:=ab hBW;clear hW1 hI1 hF1 hT1 hIW hFW hBW r1 r2 r3 r4 z2 z3 z4 z5 y2 y3 y4 y5 hb1;unfold rW at hRd;cases hrd:br op (ss.map ax.stg) (ws.map aw.wd)with
   |error e=>
    obtain⟨e,p⟩:=e;rw[hrd]at hRd;have HG:Hid (bB (ss.map ax.stg) (ws.map aw.wd)=.error (e,p)):=ab (by rw[uh HG1,hrd]);unfold jm at hRd;clear HG1 hrd;go_wp2_with (refine hRd.mono ?_;clear hRd;rintro ev w8⟨⟨bb,rfl,hc⟩,hb8⟩)
    refine⟨rfl,?_,(uh HBW).trans hb8⟩;unfold gF;rw[uh HG];exact⟨bb,rfl,hc⟩
   |ok y=>
    obtain⟨st',k⟩:=y;rw[hrd]at hRd;have HG2:Hid (bB (ss.map ax.stg) (ws.map aw.wd)=match cS (dg st') (ws.map aw.wd)with
     |some p=>.error (7,p)
     |none=>if 24<=ea st' then .error (10,x.place) else .ok (di st' ⟨ws.map aw.wd,k⟩)):=ab (by rw[uh HG1,hrd])
    have HRD:=ab hrd;clear HG1 hrd;go_upto_region 2 with(refine hRd.mono ?_;clear hRd;rintro ev w2⟨⟨rfl,sv2,ss2,hF2,hI2,hst,hk1,hk2,hcase⟩,hb2⟩;have HF2:=ab hF2;have HI2:=ab hI2;have HST:=ab hst;have HCS:=ab hcase;clear hF2 hI2 hst hcase)
    have hset:pw ss2\/∀y∈ws,∀p∈parts y.xs,p.isVar=false:=by
     rcases uh HCS with⟨_,e,_⟩|⟨e,_⟩
     .rw[e];exact .inl (uh HBEG)
     right;have hrd:=uh HRD;rw[e]at hrd;obtain⟨bn,nn,hnn⟩:=zO (st:=ss.map ax.stg) (ws:=ws.map aw.wd) hrd;have hfit:=(uh HFIT).2.1;rw[e]at hfit;have hfit':(ws.length:Int)-1<=3:=hfit;exact zu hnn (uh H0) (by rw[<-e];exact uh HO) (by omega)
    have hCk:=DE B fb ib sv2 wv ss2 ws k ra rb (aN rf) (aN rg) w2 (uh HF2) (uh HI2) hset;rw[<-uh HST]at hCk;unfold uN at hCk;have HB2:Hid (Fr B w w2):=ab ((uh HBW).trans hb2);have hBw2:B<=w2.heap.size:=nT hBw (uh HB2).size;clear hset hb2 u4 hcf;cases hu:cS (dg st') (ws.map aw.wd)with
    |some p=>
     rw[hu]at hCk;unfold jm at hCk;have HG:Hid (bB (ss.map ax.stg) (ws.map aw.wd)=.error (7,p)):=ab (by rw[uh HG2,hu]);clear HG2 hu;go_wp2_with (go_at_call 59;refine hCk.mono ?_;clear hCk;rintro ev w8⟨⟨bb,rfl,hc⟩,hb8⟩)
     refine⟨rfl,?_,(uh HB2).next hb8 hBw2⟩;unfold gF;rw[uh HG];exact⟨bb,rfl,hc⟩
    |none=>
     rw[hu]at hCk;have HG3:Hid (bB (ss.map ax.stg) (ws.map aw.wd)=if 24<=ea st' then .error (10,x.place) else .ok (di st' ⟨ws.map aw.wd,k⟩)):=ab (by rw[uh HG2,hu]);have hSz:=λw3 (hb3:Bw w2 w3)=>Gl B fb sv2 ss2 w3 ((uh HF2).below hb3);rw[<-uh HST]at hSz;clear HG2 hu;obtain⟨gw,capw,hwv⟩:=(uh HI2).form (by have:=(gL (uh H0));omega);obtain⟨n,hn⟩:=aq ws.length;have HWV:Hid (wv=.slice (some ⟨gw,0,none⟩) n capw):=ab (by rw[hwv,hn]);have HINC:Hid (∀w',Bw w2 w'->w'.heap[ib]?=some (.cells #[.slice (some ⟨gw,0,none⟩) n capw,.int .i64 k,.int .i64 ra,.int .i64 rb,aN rf,aN rg] 86 (0,0))):=ab (λw' hb'=>by have:=((uh HI2).below hb').cells;rw[uh HWV]at this;exact this);clear hwv hn;by_cases h24:24<=ea st'
     .have HG:Hid (bB (ss.map ax.stg) (ws.map aw.wd)=.error (10,x.place)):=ab (by rw[uh HG3,if_pos h24]);have g1:(24:Int)<=(ea st':Int):=by omega
      have hFl:=λw'=>aZ 10 x.place w';have HPL:Hid (∀w',Bw w2 w'->Cl 61 #[.agg #[.slice (some ⟨gw,0,none⟩) n capw,.int .i64 k,.int .i64 ra,.int .i64 rb,aN rf,aN rg]] w' λev w''=>ev=.returned (.int .i64 (x.place:Int))/\Bw w' w''):=ab (λw' hb'=>by have:=gU wv ws x k ra rb (aN rf) (aN rg) B w' ((uh HI2).wsm.below hb') (uh H0);rw[uh HWV]at this;exact this);clear HG3 h24;go_upto_region 4 with(first|(go_at_call 59;refine hCk.mono ?_;clear hCk;rintro ev w3⟨rfl,hb3⟩)|(go_at_call 60;refine(hSz _ hb3).mono ?_;clear hSz;rintro ev w4⟨rfl,hb4⟩))
      have hb24:Bw w2 w4:=hb3.trans (hb4.mono hb3.size);have hc4:=uh HINC w4 hb24;have d0:=cq 0 hc4;have d1:=cq 1 hc4;have d2:=cq 2 hc4;have d3:=cq 3 hc4;have d4:=cq 4 hc4;have d5:=cq 5 hc4;have HB24:=ab hb24;clear hc4 hb24;go_wp2_with (first|(go_at_call 61;refine(uh HPL _ (uh HB24)).mono ?_;rintro ev w5⟨rfl,hb5⟩)|(go_at_call 35;refine(hFl _).mono ?_;clear hFl;rintro ev w8⟨bb,rfl,hc,hb8⟩))
      refine⟨rfl,?_,(((uh HB2).next (uh HB24) hBw2).next hb5 (nT hBw2 (uh HB24).size)).next hb8 (nT hBw2 (nT (uh HB24).size hb5.size))⟩;unfold gF;rw[uh HG];exact⟨bb,rfl,hc⟩
     have HG:Hid (bB (ss.map ax.stg) (ws.map aw.wd)=.ok (di st' ⟨ws.map aw.wd,k⟩)):=ab (by rw[uh HG3,if_neg h24]);have g1:¬(24:Int)<=(ea st':Int):=by omega
     have hss2:ss2≠[]:=by
      rcases uh HCS with⟨e0,e,_⟩|⟨_,un,e⟩
      .rw[e];intro e';exact e0 ((uh HFIT).2.2 (by rw[e'];rfl))
      rw[e];simp
     obtain⟨qs,s,hqs⟩:∃qs s,ss2=qs++[s]:=by
      rcases List.eq_nil_or_concat ss2 with e|⟨qs,s,e⟩
      .exact absurd e hss2
      exact⟨qs,s,by rw[e,List.concat_eq_append]⟩
     have hlen:ss2.length=qs.length+1:=by rw[hqs];simp
     obtain⟨g,cap,hsv,_,_⟩:=World.ownsRow.form (uh HF2).row (by omega);have HSZ:Hid (s.ins.length<1500):=ab (by
      have h1:ea st'<24:=by omega
      rw[uh HST,hqs]at h1;unfold ea at h1;simp[ax.stg]at h1;omega)
     have HL2:Hid (∀w',Bw w2 w'->Cl 62 #[.pointer (some ⟨fb,0,none⟩)] w' λev w''=>ev=.returned (.pointer (some ⟨g,qs.length*2,none⟩))/\Bw w' w''):=ab (λw' hb'=>by have hF':=(uh HF2).below hb';rw[hsv]at hF';have:=eE B fb g cap ss2 w' hF' (by omega);rw[hlen,Nat.add_sub_cancel]at this;exact this);have HFQ:Hid (∀w',Bw w2 w'->aQ w' B fb (.slice (some ⟨g,0,none⟩) (qs.length+1) cap) (qs++[s])):=ab (λw' hb'=>by have hF':=(uh HF2).below hb';rw[hsv,hlen,hqs]at hF';exact hF');clear HG3 h24 hss2 hsv hlen;go_upto_region 6 with(first|(go_at_call 59;refine hCk.mono ?_;clear hCk;rintro ev w3⟨rfl,hb3⟩)|(go_at_call 60;refine(hSz _ hb3).mono ?_;clear hSz;rintro ev w4⟨rfl,hb4⟩)|(go_at_call 62;refine(uh HL2 _ (hb3.trans (hb4.mono hb3.size))).mono ?_;rintro ev w5⟨rfl,hb5⟩))
     have hb25:Bw w2 w5:=(hb3.trans (hb4.mono hb3.size)).trans (hb5.mono (nT hb3.size hb4.size));have HB5:Hid (Fr B w w5):=ab ((uh HB2).next hb25 hBw2);have hB5:B<=w5.heap.size:=nT hBw2 hb25.size;have hF5:=uh HFQ w5 hb25;have hI5:=(uh HI2).below hb25;have hs5:=hF5.all s (by simp);obtain⟨i0,hi0,hz0,hz1,hz2⟩:=info_parts LK;obtain⟨ao2,n2,cap2,hiv,hn2⟩:=lQ hs5;have hrow5:=hs5.row;have hst5:=rJ (ss:=qs++[s]) (by have:=hF5.row;rw[show (qs++[s]).length=qs.length+1 by simp]at this⊢;exact this) qs.length s (by simp);have e1:=hst5.2;rw[hiv]at e1;have hc5:=uh HINC w5 hb25;have d0:=cq 0 hc5;have d1:=cq 1 hc5;have d2:=cq 2 hc5;have d3:=cq 3 hc5;have d4:=cq 4 hc5;have d5:=cq 5 hc5;have hgl:g<w5.heap.size:=World.block_lt_of_cell? _ _ e1;have hil:=hI5.lt;have HK6:Hid (∀w6,((w5.alloc (.cells #[.slice (some ⟨gw,0,none⟩) n capw,.int .i64 k,.int .i64 ra,.int .i64 rb,aN rf,aN rg] 86)).drew).grownBy w6 (Value.slice ao2 n2 cap2).ownBlock->w6.cell? ⟨g,qs.length*2+1,none⟩=some (.slice ao2 n2 cap2)/\w6.frozen? ⟨g,qs.length*2+1,none⟩=false):=ab (λw6 hgr=>by
      have hrowS:=hF5.row;rw[show (qs++[s]).length=qs.length+1 by simp]at hrowS;obtain⟨cur,hgb⟩:∃cur,w5.heap[g]?=some (.cells cur 106 (0,0)):=by
       rcases hrowS.2 with⟨e,_⟩|⟨a,c,cur,e,_,ha,_⟩
       .cases e
       injection e with e1 _ _;injection e1 with e1;injection e1 with e1;subst e1;exact⟨cur,ha⟩
      have hne:(Value.slice ao2 n2 cap2).ownBlock≠some g:=by rw[<-hiv];exact bZ hrow5 hgb (by decide)
      have hk:w6.heap[g]?=w5.heap[g]?:=(hgr.block g (by show _<(w5.alloc _).heap.size;simp;omega) (λe'=>hne e'.symm)).trans (Below.heap_alloc _ _ _ hgl);refine⟨by rw[World.cell?_of_block hk];exact e1,?_⟩;rw[World.frozen?_of_block hk];simp[World.frozen?,hgb])
     rw[hiv,<-hn2]at hrow5;have HROW:=ab (hrow5.alloc (.cells #[.slice (some ⟨gw,0,none⟩) n capw,.int .i64 k,.int .i64 ra,.int .i64 rb,aN rf,aN rg] 86));have HN2:=ab hn2;have HIV:=ab hiv;have HF5:=ab hF5;have HI5:=ab hI5;have hn2l:n2<1500:=by rw[hn2];exact uh HSZ
     have fin:∀gg cp1 w6,w6.ownsRow B 86 6 (.slice (some ⟨gg,0,none⟩) (n2+1) cp1) (n2+1) (Ib s.ins++[.slice (some ⟨gw,0,none⟩) n capw,.int .i64 k,.int .i64 ra,.int .i64 rb,aN rf,aN rg])->((w5.alloc (.cells #[.slice (some ⟨gw,0,none⟩) n capw,.int .i64 k,.int .i64 ra,.int .i64 rb,aN rf,aN rg] 86)).drew).grownBy w6 (Value.slice ao2 n2 cap2).ownBlock->((Value.slice ao2 n2 cap2).ownBlock=some gg\/gg=w5.heap.size+1)->gF (w6.setCell ⟨g,qs.length*2+1,none⟩ (.slice (some ⟨gg,0,none⟩) (n2+1) cp1)) (.returned (.tuple #[])) B fb (bB (ss.map ax.stg) (ws.map aw.wd))/\Fr B w (w6.setCell ⟨g,qs.length*2+1,none⟩ (.slice (some ⟨gg,0,none⟩) (n2+1) cp1)):=by
      intro gg cp1 w6 hown hgr hli;obtain⟨r1,r2,r3,r4⟩:=uh HRR;have hmok:cA.Ok ⟨wv,ws,k,op⟩ w5 B:=⟨(uh HI5).wsm,by simp only;rw[uh H0];exact uh HO,(uh HFIT).1,(uh HI5).small,(uh HI5).short⟩
      have hapq:jN (qs++[s]):=by
       rw[<-hqs];rcases uh HCS with⟨_,e,_⟩|⟨_,un,e⟩
       .rw[e];exact uh HAPS
       rw[e];unfold jN;rw[List.pairwise_append];exact⟨uh HAPS,by simp,λq _ t' ht' g' _=>by rw[List.mem_singleton]at ht';subst ht';simp[Value.ownBlock]⟩
      have hcells:(⟨wv,ws,k,op⟩:cA).cells=[.slice (some ⟨gw,0,none⟩) n capw,.int .i64 k,.int .i64 ra,.int .i64 rb,aN rf,aN rg]:=by unfold cA.cells;rw[r1,r2,r3,r4,uh HWV]
      rw[<-hcells,uh HN2]at hown;rw[uh HN2];have hli':s.iv.ownBlock=some gg\/w5.heap.size<=gg:=by
       rw[uh HIV];rcases hli with e|e
       .exact .inl e
       exact .inr (by omega)
      obtain⟨hF7,hA7,hb7⟩:=Gi (uh HF5) hmok hapq ((bR _ w5).alloc (nR _) _).drew hown (by rw[uh HIV];exact hgr) hli' (uh HSZ);refine⟨?_,(uh HB5).trans hb7⟩;unfold gF;rw[uh HG];refine⟨rfl,_,_,hF7,?_,?_,hA7⟩
      .rw[J9,<-hqs,<-uh HST];rfl
      intro i s' hs';by_cases hil:i<qs.length
      .rw[List.getElem?_append_left hil]at hs';rcases uh HCS with⟨_,e,_⟩|⟨_,un,e⟩
       .exact uh HBEG i s' (by rw[<-e,hqs,List.getElem?_append_left hil];exact hs')
       have e2:qs=ss:=by rw[hqs]at e;exact(List.append_inj' e rfl).1
       rw[e2]at hs';exact uh HBEG i s' hs'
      have hi':i=qs.length:=by
       have:=(gL hs')
       simp at this;omega
      subst hi';rw[List.getElem?_append_right (nR _)]at hs';simp at hs';subst hs';rcases uh HCS with⟨_,e,_⟩|⟨_,un,e⟩
      .obtain⟨m0,hm0,hm1,hm2⟩:=uh HBEG qs.length s (by rw[<-e,hqs];simp);exact⟨m0,by simp only;rw[List.getElem?_append_left (gL hm0)];exact hm0,hm1,hm2⟩
      have e2:qs=ss/\s=⟨un,.slice none 0 0,[]⟩:=by rw[hqs]at e;have:=List.append_inj' e rfl;exact⟨this.1,by simpa using this.2⟩
      refine⟨⟨wv,ws,k,op⟩,by rw[e2.2];rfl,hk1,?_⟩;rw[e2.1];exact hk2
     have FIN:=ab fin;clear fin hF5 hI5 hs5 hc5 hiv hn2 hrow5 hst5 hqs hb25 hb3 hb4 hb5 hil;go_region_law ((refine step_append_lies _ (by rfl) _ _ _ (by rfl) B 86 i0 _ 6 64 underlying104 hi0 hz0 hz1 hz2 rfl (by decide) (.slice ao2 n2 cap2) n2 (Ib s.ins) (by rfl) (by exact uh HROW) ⟨w5.heap.size,0,none⟩ 1 1 [.slice (some ⟨gw,0,none⟩) n capw,.int .i64 k,.int .i64 ra,.int .i64 rb,aN rf,aN rg] (by rfl) (by rfl) (by exact World.news_of_block (cs:=#[.slice (some ⟨gw,0,none⟩) n capw,.int .i64 k,.int .i64 ra,.int .i64 rb,aN rf,aN rg]) (t:=86) (fr:=(0,0)) (JN _ _)) (by intro u hu;simp only[mC,List.not_mem_nil,or_false]at hu;rcases hu with rfl|rfl|rfl|rfl|rfl|rfl<;>rfl) (by omega) (by unfold maxLen;omega) (by omega) (by show B<=(w5.alloc _).heap.size;simp;omega) (w5.heap.size+1) (by simp) ?_;intro gg cp1 w6 hown6 hgrow hlies hgl6;obtain⟨kk1,kk2⟩:=uh HK6 w6 hgrow));all_goals
      try go_wp2_with fail
      go_end0;exact uh FIN gg cp1 w6 hown6 hgrow hlies
theorem eG{l:LU}{st:List aU}{k:Nat}(h:¬k<l.length):bU l st k=if st=[] then .error (5,l.length) else .ok st:=by rw[bU,if_neg h]
theorem kZ{l:LU}{st:List aU}{k:Nat}{e:Nat×Nat}(h:k<l.length)(hl:bE l [] k=.error e):bU l st k=.error e:=by rw[bU,if_pos h,hl]
theorem jE{l:LU}{st:List aU}{k t:Nat}(h:k<l.length)(hl:bE l [] k=.ok ([],t))(ht:k<t):bU l st k=bU l st t:=by rw[bU,if_pos h,hl];simp only;rw[dif_pos ht];simp
theorem gX{l:LU}{st:List aU}{k t:Nat}{ws:List Wd}(h:k<l.length)(hl:bE l [] k=.ok (ws,t))(ht:k<t)(hw:ws≠[]):bU l st k=match bB st ws with
 |.error e=>.error e
 |.ok st'=>bU l st' t:=by
 rw[bU,if_pos h,hl];simp only;rw[dif_pos ht,if_neg hw];rfl
theorem Co{xs:List bM}{t:LU}(h:an xs=some t):t.length<=xs.length:=by
 induction xs generalizing t with
 |nil=>cases h;simp
 |cons a r ih=>
  cases a with
  |inr pA=>obtain⟨n,k⟩:=pA;cases h
  |inl c=>
   simp only[an]at h;cases hr:an r with
   |none=>rw[hr]at h;cases h
   |some u=>rw[hr]at h;injection h with h;have:=ih hr;rw[<-h];simp;omega
theorem aQ.rd{w w':World}{B fb q:Nat}{sv:Value}{ss:List ax}{c:Array Value}(h:aQ w B fb sv ss)(hq:w.heap[q]?=some (.cells c 144 (0,0)))(ht:Tb w.heap.size q w w'):aQ w' B fb sv ss:=by
 have hne:fb≠q:=by rintro rfl;have:=h.cells;rw[hq]at this;injection this with this;injection this with _ this;cases this
 exact⟨(ht.block fb h.lt hne).trans h.cells,h.base,iX h.row ht (bZ h.row hq (by decide)),λs hs=>⟨iX (h.all s hs).row ht (bZ (h.all s hs).row hq (by decide)),λm hm=>((h.all s hs).all m hm).off hq (by decide) (by decide) ht,(h.all s hs).short⟩,h.short⟩
def gK(w w':World)(ev:Ending)(r:lW (List aU)):Prop:=match r with
 |.error (e,p)=>jm w' ev e p
 |.ok st=>∃fb sv ss,ev=.returned (.pointer (some ⟨fb,0,none⟩))/\aQ w' w.heap.size fb sv ss/\ss.map ax.stg=st
theorem lJ(s:BA)(m:Int)(w:World)(hm:w.cell? ⟨1,0,none⟩=some (.int .i64 m)): Cl 22 #[.string s] w λev w'=>gK w w' ev (aI s.data.toList)/\Bw w w':=by
 have hml:(1:Nat)<w.heap.size:=World.block_lt_of_cell? _ _ hm;have HM:=ab hm;obtain⟨W0,hW0⟩:=aq (w.alloc (.cells #[.slice none 0 0] 93));have hb0:=dw hW0;have hF0:aQ W0 w.heap.size w.heap.size (.slice none 0 0) []:=⟨by rw[hW0];exact hN _ _,nR _,World.ownsRow_nil _ _ _ _,by simp,by simp⟩
 have hN:=qc s W0;unfold pf at hN;have HB0:=ab hb0;have HF0:=ab hF0;clear hm hb0 hF0;by_cases h15:1500<s.size
 .simp only[if_pos h15]at hN;unfold jm at hN;have HG:Hid (aI s.data.toList=.error (10,1500)):=ab (by unfold aI;rw[<-zE,if_pos h15]);clear h15;go_enter func22,ntmps22;go_upto_region 2 with fail;rw[<-hW0];clear hW0;go_wp2_with (go_at_call 31;refine hN.mono ?_;clear hN;rintro ev w8⟨⟨bb,rfl,hc⟩,hb8⟩)
  refine⟨rfl,?_,(uh HB0).trans (hb8.mono (uh HB0).size)⟩;unfold gK;rw[uh HG];exact⟨bb,rfl,hc⟩
 simp only[if_neg h15]at hN;by_cases hmay:qo s.data.toList<s.size
 .simp only[if_pos hmay]at hN;unfold jm at hN;have HG:Hid (aI s.data.toList=.error (5,qo s.data.toList)):=ab (by unfold aI;rw[<-zE,if_neg h15,if_pos hmay]);clear h15 hmay;go_enter func22,ntmps22;go_upto_region 2 with fail;rw[<-hW0];clear hW0;go_wp2_with (go_at_call 31;refine hN.mono ?_;clear hN;rintro ev w8⟨⟨bb,rfl,hc⟩,hb8⟩)
  refine⟨rfl,?_,(uh HB0).trans (hb8.mono (uh HB0).size)⟩;unfold gK;rw[uh HG];exact⟨bb,rfl,hc⟩
 simp only[if_neg hmay]at hN;have HG:Hid (aI s.data.toList=bU s.data.toList [] 0):=ab (by unfold aI;rw[<-zE,if_neg h15,if_neg hmay]);have hs:s.size<=1500:=by omega
 clear h15 hmay;go_enter func22,ntmps22;go_upto_region 2 with fail;rw[<-hW0];clear hW0;go_wp2_with (go_at_call 31;refine hN.mono ?_;clear hN;rintro ev w1⟨⟨rb,rfl,hrb,hR1⟩,hb1⟩)
 have hB1:Bw w w1:=(uh HB0).trans (hb1.mono (uh HB0).size);have hF1:=(uh HF0).below hb1;have hrw:w.heap.size<=rb:=nT (uh HB0).size hrb;have HF1:=ab hF1;have HR1:=ab hR1;have HB1:=ab hB1;clear hF1 hR1 hB1 hb1 hrb;go_loopw [10] (λ_ wr=>∃(j:Nat) (sv:Value) (ss:List ax),dB wr rb s j/\j<=s.size/\aQ wr w.heap.size w.heap.size sv ss/\pw ss/\jN ss/\bU s.data.toList [] 0=bU s.data.toList (ss.map ax.stg) j/\Bw w wr) (λ_ wr=>s.size-xM wr rb);case atStart=>exact⟨0,_,[],uh HR1,Nat.zero_le _,uh HF1,λi s hs=>by simp at hs,List.Pairwise.nil,rfl,uh HB1⟩
 case round=>
  obtain⟨j,sv,ss,hR,hj,hF,hBeg,hAp,hG,hB⟩:=hrel;have HA:=ab hR.at
  have HR:=ab hR;have HF:=ab hF;have HBeg:=ab hBeg;have HAp:=ab hAp;have HGf:=ab hG;have HB:=ab hB;have hBw:w.heap.size<=wr.heap.size:=hB.size;have HMr:Hid (∀w',Bw w w'->w'.cell? ⟨1,0,none⟩=some (.int .i64 m)):=ab (λw' hb'=>by rw[World.cell?_of_block (hb'.block 1 hml)];exact uh HM);clear hR hF hBeg hAp hG hB;by_cases hlt:j<s.size
  .have hlt':j<s.data.toList.length:=by rw[<-zE];exact hlt
   have mM:=yM rb s j true wr (uh HR) (dT hlt);have mL:=λw2 (hb2:Bw wr w2)=>sm rb s j m w2 ((uh HR).tb hb2) hj hs (uh HMr w2 ((uh HB).trans (hb2.mono hBw))) (by omega);unfold iR at mL;cases hln:bE s.data.toList [] j with
   |error e=>
    obtain⟨e,p⟩:=e;rw[hln]at mL;unfold jm at mL;have HE:Hid (bU s.data.toList [] 0=.error (e,p)):=ab (by rw[uh HGf];exact kZ hlt' hln);clear hln;go_wp2_with (first|(go_at_call 32;refine mM.mono ?_;clear mM;rintro ev w2⟨rfl,hR2,hb2⟩)|(go_at_call 33;refine(mL _ hb2).mono ?_;clear mL;rintro ev w8⟨⟨bb,rfl,hc⟩,hT8⟩))
    refine⟨rfl,?_,((uh HB).trans (hb2.mono hBw)).trans ((hT8.mono (nT hBw hb2.size)).below hrw)⟩;unfold gK;rw[uh HG,uh HE];exact⟨bb,rfl,hc⟩
   |ok y=>
    obtain⟨ws,t⟩:=y;rw[hln]at mL;have HLN:=ab hln;clear hln;go_upto_region 5 with(first|(go_at_call 32;refine mM.mono ?_;clear mM;rintro ev w2⟨rfl,hR2,hb2⟩)|(go_at_call 33;refine(mL _ hb2).mono ?_;clear mL;rintro ev w3⟨⟨v,ms,rfl,hMS,hmap,hR3,hjt,hjt2,hts,hml3,hxl⟩,hT3⟩))
    have hB2:Bw w w2:=(uh HB).trans (hb2.mono hBw);have hB3:Bw w w3:=hB2.trans ((hT3.mono hB2.size).below hrw);have hF3:aQ w3 w.heap.size w.heap.size sv ss:=((uh HF).below hb2).rd hR2 hT3;have hjt':=hjt2 hlt;have hMS3:mU w3 w.heap.size v ms:=⟨od hMS.row hB2.size,λx hx=>od (hMS.all x hx) hB2.size⟩
    obtain⟨aov,capv,hv⟩:=AZ hMS3;have HR3:=ab hR3;have HF3:=ab hF3;have HB3:=ab hB3;have HMS3:=ab hMS3;have HMAP:=ab hmap;have HXL:=ab hxl;have HVV:=ab hv;subst hv;clear hR3 hF3 hB3 hMS3 hmap hxl hMS hR2 hT3 hjt hjt2 hb2 hB2;by_cases hms:ms=[]
    .subst hms;have HE:Hid (bU s.data.toList [] 0=bU s.data.toList (ss.map ax.stg) t):=ab (by rw[uh HGf];have hl:=uh HLN;rw[<-uh HMAP]at hl;exact jE hlt' hl hjt');go_wp2_with fail;go_roundw;case rel=>
      first
       |exact⟨t,sv,ss,uh HR3,hts,uh HF3,uh HBeg,uh HAp,uh HE,uh HB3⟩
       |((repeat apply Exists.intro);exact⟨⟨t,sv,ss,uh HR3,hts,uh HF3,uh HBeg,uh HAp,uh HE,uh HB3⟩,rfl⟩)
     case measure=>rw[uh HA,(uh HR3).at];omega
    have hml0:0<ms.length:=List.length_pos_iff.2 hms;obtain⟨x0,hx0⟩:∃x0,ms[0]?=some x0:=⟨_,gG hml0⟩
    obtain⟨n,hn⟩:=aq ms.length;obtain⟨W4,hW4⟩:=aq (w3.alloc (.cells #[.slice aov n capv,.int .i64 (-1),.int .i64 0,.int .i64 0,.nilFunc,.nilFunc] 86));have hb4:=dw hW4;have hI4:ol W4 w.heap.size w3.heap.size (.slice aov n capv) ms (-1) 0 0 .nilFunc .nilFunc:=⟨by rw[hW4];exact hN _ _,by rw[hn];exact(uh HMS3).below hb4,(uh HB3).size,by omega,λx hx=>by have h1:=uh HXL x hx;have h2:=(rK x.xs).1;exact⟨by omega,λt ht=>by have:=Co ht;omega⟩⟩
    have hF4:=(uh HF3).below hb4;have hTk:=DP w.heap.size w.heap.size w3.heap.size sv (.slice aov n capv) ss ms x0 W4 hF4 hI4 (λs' hs' e=>by have:=(World.ownsRow.lt ((uh HF3).all s' hs').row _ e).2;omega) (uh HBeg) (uh HAp) hx0;unfold gF at hTk;have hB4:w.heap.size<=w3.heap.size:=(uh HB3).size;have HB4:Hid (Bw w W4):=ab ((uh HB3).trans (hb4.mono hB4));have HR4:Hid (dB W4 rb s t):=ab ((uh HR3).tb hb4);have hws:ws≠[]:=by rw[<-uh HMAP];simpa using hms
    have HFS:=ab (gX (st:=ss.map ax.stg) hlt' (uh HLN) hjt' hws);rw[<-uh HMAP]at HFS;have g0:(0:Int)<(n:Int):=by omega
    rw[<-hn];clear hms hx0 hn hb4 hI4 hF4 hws hml0;cases htk:bB (ss.map ax.stg) (ms.map aw.wd)with
    |error e=>
     obtain⟨e,p⟩:=e;rw[htk]at hTk;unfold jm at hTk;have HE:Hid (bU s.data.toList [] 0=.error (e,p)):=ab (by rw[uh HGf,uh HFS,htk]);clear htk;go_upto_region 6 with fail;go_wp2_with (go_at_call 34;rw[<-hW4];refine hTk.mono ?_;clear hTk;rintro ev w8⟨⟨bb,rfl,hc⟩,hb8⟩)
     refine⟨rfl,?_,(uh HB4).trans hb8.below⟩;unfold gK;rw[uh HG,uh HE];exact⟨bb,rfl,hc⟩
    |ok st'=>
     rw[htk]at hTk;have HE:Hid (bU s.data.toList [] 0=bU s.data.toList st' t):=ab (by rw[uh HGf,uh HFS,htk]);clear htk;go_upto_region 6 with fail;go_wp2_with (go_at_call 34;rw[<-hW4];refine hTk.mono ?_;clear hTk;rintro ev w5⟨⟨rfl,sv5,ss5,hF5,hst5,hBg5,hAp5⟩,hb5⟩)
     have hR5:dB w5 rb s t:=hb5.keep _ _ _ (uh HR4);go_roundw;case rel=>
      first
       |exact⟨t,sv5,ss5,hR5,hts,hF5,hBg5,hAp5,by rw[hst5];exact uh HE,(uh HB4).trans hb5.below⟩
       |((repeat apply Exists.intro);exact⟨⟨t,sv5,ss5,hR5,hts,hF5,hBg5,hAp5,by rw[hst5];exact uh HE,(uh HB4).trans hb5.below⟩,rfl⟩)
     case measure=>rw[uh HA,hR5.at];omega
  have mM:=yM rb s j false wr (uh HR) (dF hlt);have HGE:Hid (bU s.data.toList [] 0=if ss.map ax.stg=[] then .error (5,s.size) else .ok (ss.map ax.stg)):=ab (by rw[uh HGf,eG (by rw[<-zE];exact hlt),<-zE]);obtain⟨ao,cap,hsv⟩:∃ao cap,sv=.slice ao ss.length cap:=by
   rcases(uh HF).row.2 with⟨e,h0⟩|⟨g,cap,cur,e,_⟩
   .exact⟨none,0,by rw[e,h0]⟩
   exact⟨_,_,e⟩
  have HC:Hid (∀w2,Bw wr w2->w2.cell? ⟨w.heap.size,0,none⟩=some (.slice ao ss.length cap)):=ab (λw2 hb2=>by rw[<-hsv];exact((uh HF).below hb2).c0);clear hsv;cases hss:ss with
  |nil=>
   have HE:Hid (bU s.data.toList [] 0=.error (5,s.size)):=ab (by rw[uh HGE,hss];rfl);have hFl:=λw'=>aZ 5 s.size w';rw[hss]at HC;clear hss;go_wp2_with (first|(go_at_call 32;refine mM.mono ?_;clear mM;rintro ev w2⟨rfl,hR2,hb2⟩;have c0:=uh HC w2 hb2)|(go_at_call 35;refine(hFl _).mono ?_;clear hFl;rintro ev w8⟨bb,rfl,hc,hb8⟩))
   refine⟨rfl,?_,((uh HB).trans (hb2.mono hBw)).trans (hb8.mono (nT hBw hb2.size))⟩;unfold gK;rw[uh HG,uh HE];exact⟨bb,rfl,hc⟩
  |cons s0 sr=>
   have HE:Hid (bU s.data.toList [] 0=.ok (ss.map ax.stg)):=ab (by rw[uh HGE,if_neg (by rw[hss];simp)]);obtain⟨N,hN⟩:=aq ss.length;rw[<-hN]at HC;have g0:((N:Int)==0)=false:=by rw[hN,hss];simp;omega
   clear hss hN;go_wp2_with (go_at_call 32;refine mM.mono ?_;clear mM;rintro ev w2⟨rfl,hR2,hb2⟩;have c0:=uh HC w2 hb2)
   go_ret;refine⟨?_,(uh HB).trans (hb2.mono hBw)⟩;unfold gK;rw[uh HG,uh HE];exact⟨_,sv,ss,rfl,(uh HF).below hb2,rfl⟩
theorem zj(v:Value)(w:World):(Instr.typeAssert (.iface 137 v) 20 45 true).run prog w=.ok (.tuple #[.iface 137 v,.bool true]) w:=by kernel_rfl
theorem Dg(b:Nat)(e p:Nat)(w:World)(hb:w.heap[b]?=some (.cells #[.int .i64 (e:Int),.int .i64 (p:Int)] 140 (0,0)))(hg:w.cell? ⟨0,0,none⟩=some (.iface 157 (.agg #[.pointer (some ⟨22,45,none⟩)]))): Cl 30 #[.iface 137 (.pointer (some ⟨b,0,none⟩))] w λev w'=>∃a:Nat,ev=.returned (.iface 64 (.pointer (some ⟨a,0,none⟩)))/\w'.heap[a]?=some (.cells #[.int .i64 (e:Int),.int .i64 (p:Int)] 68 (0,0))/\Bw w w':=by
 have hA:=zj (.pointer (some ⟨b,0,none⟩));obtain⟨W0,hW0⟩:=aq ((w.alloc (.cells #[.pointer none] 137)).alloc (.cells #[.pointer none] 138));have hb0:Bw w W0:=by rw[hW0];exact(eD).alloc (by simp) _
 have hc0:W0.heap[w.heap.size]?=some (.cells #[.pointer none] 137 (0,0)):=by rw[hW0,Below.heap_alloc _ _ _ (by simp)];exact hN _ _
 have hH:=IL ⟨b,0,none⟩ ⟨w.heap.size,0,none⟩ (.pointer none) W0 (cL hb0 hg) (cq 0 hc0) (by simp[World.frozen?,hc0]);have hz0:w.heap.size<W0.heap.size:=by rw[hW0];simp;omega
 have hH2:Cl 24 #[.iface 137 (.pointer (some ⟨b,0,none⟩)),.iface 139 (.pointer (some ⟨w.heap.size,0,none⟩))] W0 λev w'=>ev=.returned (.bool true)/\w'.cell? ⟨w.heap.size,0,none⟩=some (.pointer (some ⟨b,0,none⟩))/\Below w.heap.size W0 w':=by
  refine hH.mono ?_;rintro ev w'⟨rfl,rfl⟩;refine⟨rfl,?_,?_⟩
  .refine cq 0 (hS _ _ 0 #[.pointer none] 137 _ ?_);rw[Below.heap_alloc _ _ _ (by simp;omega),Below.heap_alloc _ _ _ (by simp;omega),Below.heap_alloc _ _ _ (by simp;omega),Below.heap_alloc _ _ _ hz0];exact hc0
  exact((((bR _ W0).alloc (Nat.le_of_lt hz0) _).alloc (by simp;omega) _).alloc (by simp;omega) _ |>.alloc (by simp;omega) _).setCell (p:=⟨w.heap.size,0,none⟩) (nR _) _
 clear hH;have HB0:=ab hb0;have HC0:=ab hc0;have HB:=ab hb;clear hb hb0 hc0 hg;go_enter func30,ntmps30;go_upto_region 5 with fail;rw[<-hW0];clear hW0;go_upto_region 6 with(go_at_call 24;refine hH2.mono ?_;clear hH2;rintro ev w2⟨rfl,k0,hb2⟩)
 have hB2:=(uh HB0).trans hb2;have hbl:=(gA (uh HB))
 have hc2:=(hB2.block b hbl).trans (uh HB);have q0:=cq 0 hc2;have q1:=cq 1 hc2;have HB2:=ab hB2;clear hb2 hB2 hc2;go_region;all_goals
  try go_wp2_with fail
  go_ret;exact⟨_,rfl,hN _ _,((uh HB2).alloc (uh HB2).size _).drew⟩
end Go.Proofs.YtjhobnjdfhkohaaGreatDoor
