import Derived.Test.YtjhobnjdfhkohaaGreatDoorXO
set_option linter.all false
set_option maxHeartbeats 4000000
set_option maxRecDepth 10000
namespace Go.Proofs.YtjhobnjdfhkohaaGreatDoor
open Go.Proofs.Tryz
open Go.RowKit Go.Maps
theorem Av{ws:List Wd}{b n:LU}(h:bp ws=.ok (b,n))(hn:n≠[]):ws.length=4:=by
 unfold bp at h;split at h
 .cases h
 split at h
 .cases h
 split at h
 .rename_i h4;exact h4
 split at h
 .cases h
 injection h with h;injection h with _ h;exact absurd h.symm hn
theorem kW{w w6:World}{o:Obj}{v:Value}{B e z n q fb:Nat}{xs:List Value}{c:Array Value}{t:TypeId}{x:Value}(hrow:w.ownsRow B e z v n xs)(hg:(w.alloc o).grownBy w6 v.ownBlock)(hq:w.heap[q]?=some (.cells c t (0,0)))(hne:e≠t)(hf:q≠fb):(w6.setCell ⟨fb,0,none⟩ x).heap[q]?=w.heap[q]?:=by
 have hlt:=(gA hq)
 rw[Below.heap_setCell _ _ _ _ hf];exact(hg.block q (by simp;omega) (λe'=>bZ hrow hq hne e'.symm)).trans (Below.heap_alloc _ _ _ hlt)
theorem ou{w w6:World}{o:Obj}{v v2:Value}{B B2 e e2 z z2 n n2 fb:Nat}{xs xs2:List Value}{c:Array Value}{t:TypeId}{x:Value}(hrow:w.ownsRow B e z v n xs)(hg:(w.alloc o).grownBy w6 v.ownBlock)(hfb:w.heap[fb]?=some (.cells c t (0,0)))(h2:w.ownsRow B2 e2 z2 v2 n2 xs2)(hne:e≠e2)(hne2:e2≠t):(w6.setCell ⟨fb,0,none⟩ x).ownsRow B2 e2 z2 v2 n2 xs2:=by
 refine ap h2 λk hk=>?_;rcases h2.2 with⟨rfl,_⟩|⟨a,cap,cur,rfl,_,ha,_⟩
 .cases hk
 obtain rfl:a=k:=by simpa[Value.ownBlock]using hk
 exact kW hrow hg ha hne (λe'=>by rw[e',hfb]at ha;injection ha with ha;injection ha with _ ha;exact hne2 ha.symm)
theorem se{w w6:World}{o:Obj}{v:Value}{B e z n fb:Nat}{xs:List Value}{c:Array Value}{t:TypeId}{x:Value}(hrow:w.ownsRow B e z v n xs)(hg:(w.alloc o).grownBy w6 v.ownBlock)(hfb:w.heap[fb]?=some (.cells c t (0,0)))(h1:e≠148)(h2:e≠192)(t1:t≠148)(t2:t≠192){B2:Nat}{wv:Value}{ws:List aw}(h:mU w B2 wv ws):mU (w6.setCell ⟨fb,0,none⟩ x) B2 wv ws:= ⟨ou hrow hg hfb h.row h1 t1.symm,λm hm=>ou hrow hg hfb (h.all m hm) h2 t2.symm⟩
theorem ti{w w6:World}{o:Obj}{B fb:Nat}{sv v6:Value}{ss:List ax}{un:BA}(h:aQ w B fb sv ss)(hl:ss.length<5)(hB:B<=w.heap.size)(hown:w6.ownsRow B 106 2 v6 (ss.length+1) (sD ss++[.string un,.slice none 0 0]))(hg:(w.alloc o).grownBy w6 sv.ownBlock): aQ (w6.setCell ⟨fb,0,none⟩ v6) B fb v6 (ss++[⟨un,.slice none 0 0,[]⟩])/\Fr B w (w6.setCell ⟨fb,0,none⟩ v6):=by
 have hfb6:w6.heap[fb]?=some (.cells #[sv] 93 (0,0)):=by have hlt:=h.lt;exact((hg.block fb (by simp;omega) (λe'=>bZ h.row h.cells (by decide) e'.symm)).trans (Below.heap_alloc _ _ _ hlt)).trans h.cells
 refine⟨⟨hS _ _ 0 _ _ _ hfb6,h.base,?_,λs hs=>?_,by simp;omega⟩,?_⟩
 .rw[kE,lA];refine ap hown λk hk=>Below.heap_setCell _ _ _ _ (λe=>?_);obtain rfl:k=fb:=e;exact bZ hown hfb6 (by decide) hk
 .rcases mA.1 hs with h'|h'
  .have hk:=h.all s h';exact⟨ou h.row hg h.cells hk.row (by decide) (by decide),λm hm=>⟨se h.row hg h.cells (by decide) (by decide) (by decide) (by decide) (hk.all m hm).ws,(hk.all m hm).op,(hk.all m hm).least,(hk.all m hm).small,(hk.all m hm).short⟩,hk.short⟩
  rw[List.mem_singleton]at h';subst h';exact⟨World.ownsRow_nil _ _ _ _,by simp,by simp⟩
 exact(((Fr.of_below ((bR _ w).alloc (nR _) o) hB).grown (h.row.alloc o) hg (by decide) (by simp;omega)).set hfb6 (by decide) h.base 0 _)
def cQ(w:World)(ev:Ending)(B fb ib:Nat)(wv:Value)(ss:List ax)(ws:List aw)(a b:Int)(f g:Value)(r:lW (List aU×Int)):Prop:=match r with
 |.error (e,p)=>jm w ev e p
 |.ok (st,k)=>ev=.returned (.tuple #[])/\∃(sv':Value) (un:BA),aQ w B fb sv' (ss++[(⟨un,.slice none 0 0,[]⟩:ax)])/\ol w B ib wv ws k a b f g/\st=(ss++[(⟨un,.slice none 0 0,[]⟩:ax)]).map ax.stg
theorem DO(B fb ib:Nat)(sv wv:Value)(ss:List ax)(ws:List aw)(a b:Int)(f g:Value)(w:World)(h:aQ w B fb sv ss)(hi:ol w B ib wv ws (-1) a b f g)(hap:∀s∈ss,s.iv.ownBlock≠some ib)(h2:2<=ws.length)(h4:ws.length<=4)(hfg:∃f' g':Nat,f=aN f'/\g=aN g'): Cl 137 #[.pointer (some ⟨fb,0,none⟩),.pointer (some ⟨ib,0,none⟩)] w λev w'=>cQ w' ev B fb ib wv ss ws a b f g (ba (ss.map ax.stg) (ws.map aw.wd))/\Fr B w w':=by
 obtain⟨i0,hi0,hz0,hz1,hz2⟩:=info_parts IJ;obtain⟨f',g',hf,hg⟩:=hfg;obtain⟨gw,cap,hv⟩:=hi.form (by omega);have hBw:=nT h.base (Nat.le_of_lt h.lt);have hN:=Cs B wv ws w hi.wsm hi.small h2 h4;unfold fi at hN;obtain⟨n,hn⟩:=aq ws.length;have c0:w.cell? ⟨ib,0,none⟩=some (.slice (some ⟨gw,0,none⟩) n cap):=by have:=cq 0 hi.cells;rw[hv,<-hn]at this;exact this
 have HWV:Hid (wv=.slice (some ⟨gw,0,none⟩) n cap):=ab (by rw[hv,hn]);rw[uh HWV]at hN;have HF:=ab h;have HI:=ab hi;have HAP:=ab hap;have HNL:=ab hn;have HFG:=ab (And.intro hf hg);cases hnm:bp (ws.map aw.wd)with
 |error x=>
  obtain⟨e,p⟩:=x;rw[hnm]at hN;unfold jm at hN;have HG:Hid (ba (ss.map ax.stg) (ws.map aw.wd)=.error (e,p)):=ab (by unfold ba;rw[hnm]);clear h hi hap hv hn hnm hf hg h2 h4;go_enter func137,ntmps137;go_wp2_with (go_at_call 164;refine hN.mono ?_;clear hN;rintro ev w8⟨⟨bb,rfl,hc⟩,hb8⟩)
  refine⟨rfl,?_,Fr.of_below hb8 hBw⟩;unfold cQ;rw[uh HG];exact⟨bb,rfl,hc⟩
 |ok x=>
  obtain⟨bs,nm⟩:=x;rw[hnm]at hN;have hn1:1<n:=by omega
  have hnmL:nm≠[]->n=4:=λhne=>by have:=Av hnm hne;rw[List.length_map,<-hn]at this;exact this
  obtain⟨x1,ao1,n1,cap1,X1⟩:=DY (cap:=cap) (g:=gw) (by have:=hi.wsm;rw[hv]at this;exact this) hi.small 1 (by omega);obtain⟨x0,ao0,n0,cap0,X0⟩:=DY (cap:=cap) (g:=gw) (by have:=hi.wsm;rw[hv]at this;exact this) hi.small 0 (by omega);have HG:Hid (ba (ss.map ax.stg) (ws.map aw.wd)=if bs≠a6/\bf (ss.map ax.stg) bs=-1 then .error (6,x1.place)
   else if nm=a6\/(nm≠[]/\bf (ss.map ax.stg) nm≠-1) then .error (6,plc (ws.map aw.wd) 3)
   else if 5<=ss.length then .error (10,x0.place)
   else .ok (ss.map ax.stg++[⟨nm,[]⟩],if bs=a6 then -1 else bf (ss.map ax.stg) bs)):=ab (by unfold ba;rw[hnm];simp only;rw[X1.plc,X0.plc,List.length_map])
  have HX1:=ab X1;have HX0:=ab X0;have hsh:=h.short;obtain⟨ao2,cap2,hsv⟩:∃ao cap,sv=.slice ao ss.length cap:=by
   rcases h.row.2 with⟨e,h0⟩|⟨g,cap,cur,e,_⟩
   .exact⟨none,0,by rw[e,h0]⟩
   exact⟨_,_,e⟩
  have HSV:=ab hsv;have hfne:fb≠ib:=by rintro rfl;have h1:=h.cells;have h2:=hi.cells;rw[h1]at h2;injection h2 with h2;injection h2 with _ h2;cases h2
  have hF61:=λw'=>aZ 6 x1.place w';have hF63:=λw'=>aZ 6 (plc (ws.map aw.wd) 3) w';have hF10:=λw'=>aZ 10 x0.place w';obtain⟨N,hNN⟩:=aq ss.length;have HNN:=ab hNN;rw[<-hNN]at HG hsh;have i1:(1:Int)<(n:Int):=by omega
  clear h hi hap hv hn hnm hf hg h2 h4 X1 X0 hsv hNN;by_cases hsc:bs=a6
  .have HG1:Hid (ba (ss.map ax.stg) (ws.map aw.wd)=if nm=a6\/(nm≠[]/\bf (ss.map ax.stg) nm≠-1) then .error (6,plc (ws.map aw.wd) 3)
    else if 5<=N then .error (10,x0.place)
    else .ok (ss.map ax.stg++[⟨nm,[]⟩],-1)):=ab (by rw[uh HG,if_neg (λhh=>hh.1 hsc),if_pos hsc])
   go_enter func137,ntmps137;go_upto_region 5 with(go_at_call 164;refine hN.mono ?_;clear hN;rintro ev W⟨⟨ub,un,rfl,hub,hun⟩,hbW⟩;have HUN:=ab hun;have g1:(ub.toList==[115,99,114,97,116,99,104])=true:=(by rw[tD,hub,hsc];decide);clear hun hub)
   have hWI:=(uh HI).below hbW;have hWF:=(uh HF).below hbW;have hWB:Fr B w W:=Fr.of_below hbW hBw;clear HG hsc g1 hbW;have HWI:=ab hWI;have HWF:=ab hWF;have HWB:=ab hWB;have hcs:=hWI.cells;rw[uh HWV,(uh HFG).1,(uh HFG).2]at hcs;have d0:=cq 0 hcs;have HCS:=ab hcs;have s0:W.cell? ⟨fb,0,none⟩=some (.slice ao2 N cap2):=by rw[uh HNN,<-uh HSV];exact hWF.c0
   have hB6:=nT hBw hWB.size;clear hWI hWF hWB hcs;have bad6:∀w4 ev w8 bb,Bw W w4->Bw w4 w8->ev=.panicked [{ v:=.iface 137 (.pointer (some ⟨bb,0,none⟩)),recovered:=false }]->w8.heap[bb]?=some (.cells #[.int .i64 (6:Nat),.int .i64 (plc (ws.map aw.wd) 3:Nat)] 140 (0,0))->(nm=a6\/(nm≠[]/\bf (ss.map ax.stg) nm≠-1))->cQ w8 ev B fb ib wv ss ws a b f g (ba (ss.map ax.stg) (ws.map aw.wd))/\Fr B w w8:=by intro w4 ev w8 bb hb4 hb8 he hc hcond;refine⟨?_,((uh HWB).next hb4 hB6).next hb8 (nT hB6 hb4.size)⟩;unfold cQ;rw[uh HG1,if_pos hcond];exact⟨bb,he,hc⟩
   have BAD6:=ab bad6;clear bad6;have H3:Hid (nm≠[]->∀w4,Bw W w4->n=4/\w4.cell? ⟨ib,0,none⟩=some (.slice (some ⟨gw,0,none⟩) n cap)/\w4.cell? ⟨gw,3*2,none⟩=some (.int .i64 (plc (ws.map aw.wd) 3:Nat))):=ab (λhne w4 hb4=>by have h4:=hnmL hne;have hws:=((uh HWI).wsm).below hb4;rw[uh HWV,uh HNL]at hws;obtain⟨x3,ao3,n3,cap3,X3⟩:=DY hws (uh HI).small 3 (by rw[<-uh HNL];omega);exact⟨h4,cL hb4 d0,by rw[X3.plc];exact X3.c0⟩);have hFn:=cY B fb sv ss un W (uh HWF);rw[uh HUN]at hFn;obtain⟨M,hM⟩:=aq (bf (ss.map ax.stg) nm);rw[<-hM]at hFn HG1 BAD6;clear hM;have FIN:Hid (∀W6,Bw W W6->N<5->ba (ss.map ax.stg) (ws.map aw.wd)=.ok (ss.map ax.stg++[⟨nm,[]⟩],-1)->W6.cell? ⟨fb,0,none⟩=some (.slice ao2 N cap2)/\W6.ownsRow B 106 2 (.slice ao2 N cap2) N (sD ss)/\aQ W6 B fb (.slice ao2 N cap2) ss/\ol W6 B ib wv ws (-1) a b f g):=ab (λW6 hb6 _ _=>by have h1:=(uh HWF).below hb6;rw[uh HSV,<-uh HNN]at h1;have h3:=h1.row;rw[<-uh HNN]at h3;exact⟨h1.c0,h3,h1,(uh HWI).below hb6⟩);have done:∀(W6:World),Bw W W6->N<5->ba (ss.map ax.stg) (ws.map aw.wd)=.ok (ss.map ax.stg++[⟨nm,[]⟩],-1)->∀v6 w6,w6.ownsRow B 106 2 v6 (N+1) (sD ss++[.string un,.slice none 0 0])->(W6.alloc (.cells #[.string un,.slice none 0 0] 106)).grownBy w6 (Value.slice ao2 N cap2).ownBlock->cQ (w6.setCell ⟨fb,0,none⟩ v6) (.returned (.tuple #[])) B fb ib wv ss ws a b f g (ba (ss.map ax.stg) (ws.map aw.wd))/\Fr B w (w6.setCell ⟨fb,0,none⟩ v6):=by
    intro W6 hb6 hN5 hG v6 w6 hown hgr;obtain⟨_,_,hF6,hI6⟩:=uh FIN W6 hb6 hN5 hG;have hB66:=nT hB6 hb6.size;obtain⟨hF7,hb7⟩:=ti hF6 (by rw[<-uh HNN];exact hN5) hB66 (by rw[<-uh HNN];exact hown) hgr;refine⟨?_,((uh HWB).next hb6 hB6).trans hb7⟩;unfold cQ;rw[hG];refine⟨rfl,v6,un,hF7,?_,?_⟩
    .have hrow6:=hF6.row;exact⟨(kW hrow6 hgr hI6.cells (by decide) (Ne.symm hfne)).trans hI6.cells,se hrow6 hgr hF6.cells (by decide) (by decide) (by decide) (by decide) hI6.wsm,hI6.base,hI6.short,hI6.small⟩
    rw[List.map_append];simp[ax.stg,uh HUN]
   have DONE:=ab done;clear done;have bad10:∀w4 ev w8 bb,Bw W w4->Bw w4 w8->ev=.panicked [{ v:=.iface 137 (.pointer (some ⟨bb,0,none⟩)),recovered:=false }]->w8.heap[bb]?=some (.cells #[.int .i64 (10:Nat),.int .i64 (x0.place:Int)] 140 (0,0))->ba (ss.map ax.stg) (ws.map aw.wd)=.error (10,x0.place)->cQ w8 ev B fb ib wv ss ws a b f g (ba (ss.map ax.stg) (ws.map aw.wd))/\Fr B w w8:=by intro w4 ev w8 bb hb4 hb8 he hc hcond;refine⟨?_,((uh HWB).next hb4 hB6).next hb8 (nT hB6 hb4.size)⟩;unfold cQ;rw[hcond];exact⟨bb,he,hc⟩
   have BAD10:=ab bad10;clear bad10;have HPL:Hid (∀w',Bw W w'->(w'.cell? ⟨ib,0,none⟩=some (.slice (some ⟨gw,0,none⟩) n cap)/\w'.cell? ⟨ib,1,none⟩=some (.int .i64 (-1))/\w'.cell? ⟨ib,2,none⟩=some (.int .i64 a)/\w'.cell? ⟨ib,3,none⟩=some (.int .i64 b)/\w'.cell? ⟨ib,4,none⟩=some (aN f')/\w'.cell? ⟨ib,5,none⟩=some (aN g'))/\Cl 61 #[.agg #[.slice (some ⟨gw,0,none⟩) n cap,.int .i64 (-1),.int .i64 a,.int .i64 b,aN f',aN g']] w' λev w''=>ev=.returned (.int .i64 (x0.place:Int))/\Bw w' w''):=ab (λw' hb'=>by have hcw:=(hb'.block ib (uh HWI).lt).trans (uh HCS);refine⟨⟨cq 0 hcw,cq 1 hcw,cq 2 hcw,cq 3 hcw,cq 4 hcw,cq 5 hcw⟩,?_⟩;have:=gU wv ws x0 (-1) a b (aN f') (aN g') B w' ((uh HWI).wsm.below hb') (uh HX0).get;rw[uh HWV]at this;exact this);by_cases hns:nm=a6
   .have hne:nm≠[]:=by rw[hns];decide
    have g2:(un.toList==[115,99,114,97,116,99,104])=true:=by rw[tD,uh HUN,hns];decide
    obtain⟨h4,k0,k1⟩:=uh H3 hne W (bR _ _);have i3:(3:Int)<(n:Int):=by omega
    have HNS:=ab hns;clear h4 hns hne;go_wp2_with (go_at_call 35;refine(hF63 _).mono ?_;clear hF63;rintro ev w8⟨bb,rfl,hc,hb8⟩)
    exact⟨rfl,uh BAD6 W _ w8 bb (bR _ _) hb8 rfl hc (.inl (uh HNS))⟩
   have g2:(un.toList==[115,99,114,97,116,99,104])=false:=by rw[tD,uh HUN];simpa using hns
   by_cases hne:nm=[]
   .have g3:un.toList.isEmpty=true:=by rw[tD,uh HUN,hne];rfl
    have hcond:¬(nm=a6\/(nm≠[]/\M≠-1)):=by rintro(h|h);exact hns h;exact h.1 hne
    clear hns hne;by_cases h5:5<=N
    .have g5:(5:Int)<=(N:Int):=by omega
     have HGe:Hid (ba (ss.map ax.stg) (ws.map aw.wd)=.error (10,x0.place)):=ab (by rw[uh HG1,if_neg hcond,if_pos h5]);obtain⟨⟨t0,t1,t2,t3,t4,t5⟩,hPl⟩:=uh HPL W (bR W.heap.size W);have S0:=(cL (bR W.heap.size W) s0)
     clear h5 HG1 hcond;go_wp2_with (first|(go_at_call 61;refine hPl.mono ?_;clear hPl;rintro ev w7⟨rfl,hb7⟩)|(go_at_call 35;refine(hF10 _).mono ?_;clear hF10;rintro ev w8⟨bb,rfl,hc,hb8⟩))
     exact⟨rfl,uh BAD10 w7 _ w8 bb (((bR W.heap.size W)).trans (hb7.mono ((bR W.heap.size W)).size)) hb8 rfl hc (uh HGe)⟩
    have g5:¬(5:Int)<=(N:Int):=by omega
    have HGe:Hid (ba (ss.map ax.stg) (ws.map aw.wd)=.ok (ss.map ax.stg++[⟨nm,[]⟩],-1)):=ab (by rw[uh HG1,if_neg hcond,if_neg h5]);obtain⟨S0,S1,S2,S3⟩:=uh FIN W (bR W.heap.size W) (by omega) (uh HGe);have HS1:=ab (S1.alloc (.cells #[.string un,.slice none 0 0] 106));have HS2:Hid (∀w6,(W.alloc (.cells #[.string un,.slice none 0 0] 106)).grownBy w6 (Value.slice ao2 N cap2).ownBlock->w6.heap[fb]?=some (.cells #[.slice ao2 N cap2] 93 (0,0))):=ab (λw6 hgr=>by have hlt:=S2.lt;exact((hgr.block fb (by simp;omega) (λe'=>bZ S2.row S2.cells (by decide) e'.symm)).trans (Below.heap_alloc _ _ _ hlt)).trans S2.cells);have hBX:=nT hB6 ((bR W.heap.size W)).size;have HB:=ab (bR W.heap.size W);clear HG1 hcond S1 S2 S3;go_wp2_with (at_builtin;refine wpList_append_own _ rfl _ _ 91 rfl B 106 i0 _ 2 40 underlying91 hi0 hz0 hz1 hz2 rfl (by decide) (.slice ao2 N cap2) N (sD ss) rfl (uh HS1) ⟨W.heap.size,0,none⟩ 1 1 [.string un,.slice none 0 0] rfl rfl (World.news_of_block (cs:=#[.string un,.slice none 0 0]) (t:=106) (fr:=(0,0)) (hN _ _)) (by intro u hu;simp only[mC,List.not_mem_nil,or_false]at hu;rcases hu with rfl|rfl<;>rfl) (by unfold maxLen;omega) (by omega) (by simp;omega) ?_;intro v6 w6 hown6 hgrow6 _;obtain⟨g6,cp6,rfl,_,_⟩:=World.ownsRow.form hown6 (by omega);have hs1:=uh HS2 w6 hgrow6;have k2:w6.cell? ⟨fb,0,none⟩=some (.slice ao2 N cap2):=cq 0 hs1;have f2:w6.frozen? ⟨fb,0,none⟩=false:=(by simp[World.frozen?,hs1]);have HO:=ab hown6;clear hown6 hs1)
    go_end0;exact uh DONE W (uh HB) (by omega) (uh HGe) _ w6 (uh HO) hgrow6
   have g3:un.toList.isEmpty=false:=by rw[tD,uh HUN];simpa using hne
   by_cases hM1:M=-1
   .have hcond:¬(nm=a6\/(nm≠[]/\M≠-1)):=by rintro(h|h);exact hns h;exact h.2 hM1
    have g4:(M != -1)=false:=by simpa using hM1
    clear hns hne hM1;go_upto_region 7 with(go_at_call 165;refine hFn.mono ?_;clear hFn;rintro ev w4⟨rfl,hb4⟩)
    by_cases h5:5<=N
    .have g5:(5:Int)<=(N:Int):=by omega
     have HGe:Hid (ba (ss.map ax.stg) (ws.map aw.wd)=.error (10,x0.place)):=ab (by rw[uh HG1,if_neg hcond,if_pos h5]);obtain⟨⟨t0,t1,t2,t3,t4,t5⟩,hPl⟩:=uh HPL w4 hb4;have S0:=(cL hb4 s0)
     clear h5 HG1 hcond;go_wp2_with (first|(go_at_call 61;refine hPl.mono ?_;clear hPl;rintro ev w7⟨rfl,hb7⟩)|(go_at_call 35;refine(hF10 _).mono ?_;clear hF10;rintro ev w8⟨bb,rfl,hc,hb8⟩))
     exact⟨rfl,uh BAD10 w7 _ w8 bb ((hb4).trans (hb7.mono (hb4).size)) hb8 rfl hc (uh HGe)⟩
    have g5:¬(5:Int)<=(N:Int):=by omega
    have HGe:Hid (ba (ss.map ax.stg) (ws.map aw.wd)=.ok (ss.map ax.stg++[⟨nm,[]⟩],-1)):=ab (by rw[uh HG1,if_neg hcond,if_neg h5]);obtain⟨S0,S1,S2,S3⟩:=uh FIN w4 hb4 (by omega) (uh HGe);have HS1:=ab (S1.alloc (.cells #[.string un,.slice none 0 0] 106));have HS2:Hid (∀w6,(w4.alloc (.cells #[.string un,.slice none 0 0] 106)).grownBy w6 (Value.slice ao2 N cap2).ownBlock->w6.heap[fb]?=some (.cells #[.slice ao2 N cap2] 93 (0,0))):=ab (λw6 hgr=>by have hlt:=S2.lt;exact((hgr.block fb (by simp;omega) (λe'=>bZ S2.row S2.cells (by decide) e'.symm)).trans (Below.heap_alloc _ _ _ hlt)).trans S2.cells);have hBX:=nT hB6 (hb4).size;have HB:=ab hb4;clear HG1 hcond S1 S2 S3;go_wp2_with (at_builtin;refine wpList_append_own _ rfl _ _ 91 rfl B 106 i0 _ 2 40 underlying91 hi0 hz0 hz1 hz2 rfl (by decide) (.slice ao2 N cap2) N (sD ss) rfl (uh HS1) ⟨w4.heap.size,0,none⟩ 1 1 [.string un,.slice none 0 0] rfl rfl (World.news_of_block (cs:=#[.string un,.slice none 0 0]) (t:=106) (fr:=(0,0)) (hN _ _)) (by intro u hu;simp only[mC,List.not_mem_nil,or_false]at hu;rcases hu with rfl|rfl<;>rfl) (by unfold maxLen;omega) (by omega) (by simp;omega) ?_;intro v6 w6 hown6 hgrow6 _;obtain⟨g6,cp6,rfl,_,_⟩:=World.ownsRow.form hown6 (by omega);have hs1:=uh HS2 w6 hgrow6;have k2:w6.cell? ⟨fb,0,none⟩=some (.slice ao2 N cap2):=cq 0 hs1;have f2:w6.frozen? ⟨fb,0,none⟩=false:=(by simp[World.frozen?,hs1]);have HO:=ab hown6;clear hown6 hs1)
    go_end0;exact uh DONE w4 (uh HB) (by omega) (uh HGe) _ w6 (uh HO) hgrow6
   have g4:(M != -1)=true:=by simpa using hM1
   have HCD:Hid (nm=a6\/(nm≠[]/\M≠-1)):=ab (.inr ⟨hne,hM1⟩);have HNE:=ab hne;clear hns hne hM1;go_wp2_with (first|(go_at_call 165;refine hFn.mono ?_;clear hFn;rintro ev w4⟨rfl,hb4⟩;obtain⟨h4,k0,k1⟩:=uh H3 (uh HNE) w4 hb4;have i3:(3:Int)<(n:Int):=(by omega);clear h4)|(go_at_call 35;refine(hF63 _).mono ?_;clear hF63;rintro ev w8⟨bb,rfl,hc,hb8⟩))
   exact⟨rfl,uh BAD6 w4 _ w8 bb hb4 hb8 rfl hc (uh HCD)⟩
  obtain⟨K,hK⟩:=aq (bf (ss.map ax.stg) bs);have hFb:=λ(ub:BA) (hub:ub.data.toList=bs) (w1:World) (hb1:Bw w w1)=>cY B fb sv ss ub w1 ((uh HF).below hb1);have HFb:Hid (∀(ub:BA),ub.data.toList=bs->∀w1,Bw w w1->Cl 165 #[.pointer (some ⟨fb,0,none⟩),.string ub] w1 λev w'=>ev=.returned (.int .i64 K)/\Bw w1 w'):=ab (λub hub w1 hb1=>by have:=hFb ub hub w1 hb1;rw[hub,<-hK]at this;exact this);clear hFb;rw[<-hK]at HG;clear hK;have HZ:Hid (∀w',Bw w w'->w'.cell? ⟨ib,1,none⟩=some (.int .i64 (-1))/\w'.frozen? ⟨ib,1,none⟩=false):=ab (λw' hb'=>⟨cq 1 ((uh HI).below hb').cells,by simp[World.frozen?,((uh HI).below hb').cells]⟩);go_enter func137,ntmps137;go_upto_region 3 with(first|(go_at_call 164;refine hN.mono ?_;clear hN;rintro ev w1⟨⟨ub,un,rfl,hub,hun⟩,hb1⟩;have HUN:=ab hun;have HUB:=ab hub;have g1:(ub.toList==[115,99,114,97,116,99,104])=false:=(by rw[tD,hub];simpa using hsc);clear hun hub)|(go_at_call 165;refine(uh HFb ub (uh HUB) _ hb1).mono ?_;rintro ev w2⟨rfl,hb2⟩;obtain⟨z0,z1⟩:=uh HZ w2 (hb1.trans (hb2.mono hb1.size))))
  have hbw:=hb1.trans (hb2.mono hb1.size);obtain⟨W,hW⟩:=aq (w2.setCell ⟨ib,1,none⟩ (.int .i64 K));rw[<-hW];have hWI:ol W B ib wv ws K a b f g:=by rw[hW];exact((uh HI).below hbw).to K
  have hWF:aQ W B fb sv ss:=by rw[hW];exact((uh HF).below hbw).off ((uh HI).below hbw).cells (uh HAP) (Tb.to _ _ _ _ _)
  have hWB:Fr B w W:=by rw[hW];exact(Fr.of_below hbw hBw).set ((uh HI).below hbw).cells (by decide) (uh HI).base 1 _
  have y0:=cq 1 hWI.cells;clear hW z0 z1 g1 hb1 hb2 hbw;by_cases hKm:K=-1
  .have HGe:Hid (ba (ss.map ax.stg) (ws.map aw.wd)=.error (6,x1.place)):=ab (by rw[uh HG,if_pos ⟨hsc,hKm⟩]);have gk:(K==-1)=true:=by simpa using hKm
   have hws:=hWI.wsm;rw[uh HWV,uh HNL]at hws;obtain⟨y1,ao1',n1',cap1',Y1⟩:=DY hws (uh HI).small 1 (by rw[<-uh HNL];exact hn1);obtain rfl:y1=x1:=by have:=Y1.get;rw[(uh HX1).get]at this;injection this with this;exact this.symm
   have u0:=Y1.c0;have v0:W.cell? ⟨ib,0,none⟩=some (.slice (some ⟨gw,0,none⟩) n cap):=by have:=cq 0 hWI.cells;rw[uh HWV]at this;exact this
   have hB6:=nT hBw hWB.size;have HWB:=ab hWB;clear HG hsc hKm hws Y1 hWI hWF hWB;go_wp2_with (go_at_call 35;refine(hF61 _).mono ?_;clear hF61;rintro ev w8⟨bb,rfl,hc,hb8⟩)
   refine⟨rfl,?_,(uh HWB).next hb8 hB6⟩;unfold cQ;rw[uh HGe];exact⟨bb,rfl,hc⟩
  have HG1:Hid (ba (ss.map ax.stg) (ws.map aw.wd)=if nm=a6\/(nm≠[]/\bf (ss.map ax.stg) nm≠-1) then .error (6,plc (ws.map aw.wd) 3)
   else if 5<=N then .error (10,x0.place)
   else .ok (ss.map ax.stg++[⟨nm,[]⟩],K)):=ab (by rw[uh HG,if_neg (λhh=>hKm hh.2),if_neg hsc])
  have gk:(K==-1)=false:=by simpa using hKm
  clear HG hsc hKm;go_upto_region 5 with fail;have HWI:=ab hWI;have HWF:=ab hWF;have HWB:=ab hWB;have hcs:=hWI.cells;rw[uh HWV,(uh HFG).1,(uh HFG).2]at hcs;have d0:=cq 0 hcs;have HCS:=ab hcs;have s0:W.cell? ⟨fb,0,none⟩=some (.slice ao2 N cap2):=by rw[uh HNN,<-uh HSV];exact hWF.c0
  have hB6:=nT hBw hWB.size;clear hWI hWF hWB hcs;have bad6:∀w4 ev w8 bb,Bw W w4->Bw w4 w8->ev=.panicked [{ v:=.iface 137 (.pointer (some ⟨bb,0,none⟩)),recovered:=false }]->w8.heap[bb]?=some (.cells #[.int .i64 (6:Nat),.int .i64 (plc (ws.map aw.wd) 3:Nat)] 140 (0,0))->(nm=a6\/(nm≠[]/\bf (ss.map ax.stg) nm≠-1))->cQ w8 ev B fb ib wv ss ws a b f g (ba (ss.map ax.stg) (ws.map aw.wd))/\Fr B w w8:=by intro w4 ev w8 bb hb4 hb8 he hc hcond;refine⟨?_,((uh HWB).next hb4 hB6).next hb8 (nT hB6 hb4.size)⟩;unfold cQ;rw[uh HG1,if_pos hcond];exact⟨bb,he,hc⟩
  have BAD6:=ab bad6;clear bad6;have H3:Hid (nm≠[]->∀w4,Bw W w4->n=4/\w4.cell? ⟨ib,0,none⟩=some (.slice (some ⟨gw,0,none⟩) n cap)/\w4.cell? ⟨gw,3*2,none⟩=some (.int .i64 (plc (ws.map aw.wd) 3:Nat))):=ab (λhne w4 hb4=>by have h4:=hnmL hne;have hws:=((uh HWI).wsm).below hb4;rw[uh HWV,uh HNL]at hws;obtain⟨x3,ao3,n3,cap3,X3⟩:=DY hws (uh HI).small 3 (by rw[<-uh HNL];omega);exact⟨h4,cL hb4 d0,by rw[X3.plc];exact X3.c0⟩);have hFn:=cY B fb sv ss un W (uh HWF);rw[uh HUN]at hFn;obtain⟨M,hM⟩:=aq (bf (ss.map ax.stg) nm);rw[<-hM]at hFn HG1 BAD6;clear hM;have FIN:Hid (∀W6,Bw W W6->N<5->ba (ss.map ax.stg) (ws.map aw.wd)=.ok (ss.map ax.stg++[⟨nm,[]⟩],K)->W6.cell? ⟨fb,0,none⟩=some (.slice ao2 N cap2)/\W6.ownsRow B 106 2 (.slice ao2 N cap2) N (sD ss)/\aQ W6 B fb (.slice ao2 N cap2) ss/\ol W6 B ib wv ws (K) a b f g):=ab (λW6 hb6 _ _=>by have h1:=(uh HWF).below hb6;rw[uh HSV,<-uh HNN]at h1;have h3:=h1.row;rw[<-uh HNN]at h3;exact⟨h1.c0,h3,h1,(uh HWI).below hb6⟩);have done:∀(W6:World),Bw W W6->N<5->ba (ss.map ax.stg) (ws.map aw.wd)=.ok (ss.map ax.stg++[⟨nm,[]⟩],K)->∀v6 w6,w6.ownsRow B 106 2 v6 (N+1) (sD ss++[.string un,.slice none 0 0])->(W6.alloc (.cells #[.string un,.slice none 0 0] 106)).grownBy w6 (Value.slice ao2 N cap2).ownBlock->cQ (w6.setCell ⟨fb,0,none⟩ v6) (.returned (.tuple #[])) B fb ib wv ss ws a b f g (ba (ss.map ax.stg) (ws.map aw.wd))/\Fr B w (w6.setCell ⟨fb,0,none⟩ v6):=by
   intro W6 hb6 hN5 hG v6 w6 hown hgr;obtain⟨_,_,hF6,hI6⟩:=uh FIN W6 hb6 hN5 hG;have hB66:=nT hB6 hb6.size;obtain⟨hF7,hb7⟩:=ti hF6 (by rw[<-uh HNN];exact hN5) hB66 (by rw[<-uh HNN];exact hown) hgr;refine⟨?_,((uh HWB).next hb6 hB6).trans hb7⟩;unfold cQ;rw[hG];refine⟨rfl,v6,un,hF7,?_,?_⟩
   .have hrow6:=hF6.row;exact⟨(kW hrow6 hgr hI6.cells (by decide) (Ne.symm hfne)).trans hI6.cells,se hrow6 hgr hF6.cells (by decide) (by decide) (by decide) (by decide) hI6.wsm,hI6.base,hI6.short,hI6.small⟩
   rw[List.map_append];simp[ax.stg,uh HUN]
  have DONE:=ab done;clear done;have bad10:∀w4 ev w8 bb,Bw W w4->Bw w4 w8->ev=.panicked [{ v:=.iface 137 (.pointer (some ⟨bb,0,none⟩)),recovered:=false }]->w8.heap[bb]?=some (.cells #[.int .i64 (10:Nat),.int .i64 (x0.place:Int)] 140 (0,0))->ba (ss.map ax.stg) (ws.map aw.wd)=.error (10,x0.place)->cQ w8 ev B fb ib wv ss ws a b f g (ba (ss.map ax.stg) (ws.map aw.wd))/\Fr B w w8:=by intro w4 ev w8 bb hb4 hb8 he hc hcond;refine⟨?_,((uh HWB).next hb4 hB6).next hb8 (nT hB6 hb4.size)⟩;unfold cQ;rw[hcond];exact⟨bb,he,hc⟩
  have BAD10:=ab bad10;clear bad10;have HPL:Hid (∀w',Bw W w'->(w'.cell? ⟨ib,0,none⟩=some (.slice (some ⟨gw,0,none⟩) n cap)/\w'.cell? ⟨ib,1,none⟩=some (.int .i64 (K))/\w'.cell? ⟨ib,2,none⟩=some (.int .i64 a)/\w'.cell? ⟨ib,3,none⟩=some (.int .i64 b)/\w'.cell? ⟨ib,4,none⟩=some (aN f')/\w'.cell? ⟨ib,5,none⟩=some (aN g'))/\Cl 61 #[.agg #[.slice (some ⟨gw,0,none⟩) n cap,.int .i64 (K),.int .i64 a,.int .i64 b,aN f',aN g']] w' λev w''=>ev=.returned (.int .i64 (x0.place:Int))/\Bw w' w''):=ab (λw' hb'=>by have hcw:=(hb'.block ib (uh HWI).lt).trans (uh HCS);refine⟨⟨cq 0 hcw,cq 1 hcw,cq 2 hcw,cq 3 hcw,cq 4 hcw,cq 5 hcw⟩,?_⟩;have:=gU wv ws x0 (K) a b (aN f') (aN g') B w' ((uh HWI).wsm.below hb') (uh HX0).get;rw[uh HWV]at this;exact this);by_cases hns:nm=a6
  .have hne:nm≠[]:=by rw[hns];decide
   have g2:(un.toList==[115,99,114,97,116,99,104])=true:=by rw[tD,uh HUN,hns];decide
   obtain⟨h4,k0,k1⟩:=uh H3 hne W (bR _ _);have i3:(3:Int)<(n:Int):=by omega
   have HNS:=ab hns;clear h4 hns hne;go_wp2_with (go_at_call 35;refine(hF63 _).mono ?_;clear hF63;rintro ev w8⟨bb,rfl,hc,hb8⟩)
   exact⟨rfl,uh BAD6 W _ w8 bb (bR _ _) hb8 rfl hc (.inl (uh HNS))⟩
  have g2:(un.toList==[115,99,114,97,116,99,104])=false:=by rw[tD,uh HUN];simpa using hns
  by_cases hne:nm=[]
  .have g3:un.toList.isEmpty=true:=by rw[tD,uh HUN,hne];rfl
   have hcond:¬(nm=a6\/(nm≠[]/\M≠-1)):=by rintro(h|h);exact hns h;exact h.1 hne
   clear hns hne;by_cases h5:5<=N
   .have g5:(5:Int)<=(N:Int):=by omega
    have HGe:Hid (ba (ss.map ax.stg) (ws.map aw.wd)=.error (10,x0.place)):=ab (by rw[uh HG1,if_neg hcond,if_pos h5]);obtain⟨⟨t0,t1,t2,t3,t4,t5⟩,hPl⟩:=uh HPL W (bR W.heap.size W);have S0:=(cL (bR W.heap.size W) s0)
    clear h5 HG1 hcond;go_wp2_with (first|(go_at_call 61;refine hPl.mono ?_;clear hPl;rintro ev w7⟨rfl,hb7⟩)|(go_at_call 35;refine(hF10 _).mono ?_;clear hF10;rintro ev w8⟨bb,rfl,hc,hb8⟩))
    exact⟨rfl,uh BAD10 w7 _ w8 bb (((bR W.heap.size W)).trans (hb7.mono ((bR W.heap.size W)).size)) hb8 rfl hc (uh HGe)⟩
   have g5:¬(5:Int)<=(N:Int):=by omega
   have HGe:Hid (ba (ss.map ax.stg) (ws.map aw.wd)=.ok (ss.map ax.stg++[⟨nm,[]⟩],K)):=ab (by rw[uh HG1,if_neg hcond,if_neg h5]);obtain⟨S0,S1,S2,S3⟩:=uh FIN W (bR W.heap.size W) (by omega) (uh HGe);have HS1:=ab (S1.alloc (.cells #[.string un,.slice none 0 0] 106));have HS2:Hid (∀w6,(W.alloc (.cells #[.string un,.slice none 0 0] 106)).grownBy w6 (Value.slice ao2 N cap2).ownBlock->w6.heap[fb]?=some (.cells #[.slice ao2 N cap2] 93 (0,0))):=ab (λw6 hgr=>by have hlt:=S2.lt;exact((hgr.block fb (by simp;omega) (λe'=>bZ S2.row S2.cells (by decide) e'.symm)).trans (Below.heap_alloc _ _ _ hlt)).trans S2.cells);have hBX:=nT hB6 ((bR W.heap.size W)).size;have HB:=ab (bR W.heap.size W);clear HG1 hcond S1 S2 S3;go_wp2_with (at_builtin;refine wpList_append_own _ rfl _ _ 91 rfl B 106 i0 _ 2 40 underlying91 hi0 hz0 hz1 hz2 rfl (by decide) (.slice ao2 N cap2) N (sD ss) rfl (uh HS1) ⟨W.heap.size,0,none⟩ 1 1 [.string un,.slice none 0 0] rfl rfl (World.news_of_block (cs:=#[.string un,.slice none 0 0]) (t:=106) (fr:=(0,0)) (hN _ _)) (by intro u hu;simp only[mC,List.not_mem_nil,or_false]at hu;rcases hu with rfl|rfl<;>rfl) (by unfold maxLen;omega) (by omega) (by simp;omega) ?_;intro v6 w6 hown6 hgrow6 _;obtain⟨g6,cp6,rfl,_,_⟩:=World.ownsRow.form hown6 (by omega);have hs1:=uh HS2 w6 hgrow6;have k2:w6.cell? ⟨fb,0,none⟩=some (.slice ao2 N cap2):=cq 0 hs1;have f2:w6.frozen? ⟨fb,0,none⟩=false:=(by simp[World.frozen?,hs1]);have HO:=ab hown6;clear hown6 hs1)
   go_end0;exact uh DONE W (uh HB) (by omega) (uh HGe) _ w6 (uh HO) hgrow6
  have g3:un.toList.isEmpty=false:=by rw[tD,uh HUN];simpa using hne
  by_cases hM1:M=-1
  .have hcond:¬(nm=a6\/(nm≠[]/\M≠-1)):=by rintro(h|h);exact hns h;exact h.2 hM1
   have g4:(M != -1)=false:=by simpa using hM1
   clear hns hne hM1;go_upto_region 7 with(go_at_call 165;refine hFn.mono ?_;clear hFn;rintro ev w4⟨rfl,hb4⟩)
   by_cases h5:5<=N
   .have g5:(5:Int)<=(N:Int):=by omega
    have HGe:Hid (ba (ss.map ax.stg) (ws.map aw.wd)=.error (10,x0.place)):=ab (by rw[uh HG1,if_neg hcond,if_pos h5]);obtain⟨⟨t0,t1,t2,t3,t4,t5⟩,hPl⟩:=uh HPL w4 hb4;have S0:=(cL hb4 s0)
    clear h5 HG1 hcond;go_wp2_with (first|(go_at_call 61;refine hPl.mono ?_;clear hPl;rintro ev w7⟨rfl,hb7⟩)|(go_at_call 35;refine(hF10 _).mono ?_;clear hF10;rintro ev w8⟨bb,rfl,hc,hb8⟩))
    exact⟨rfl,uh BAD10 w7 _ w8 bb ((hb4).trans (hb7.mono (hb4).size)) hb8 rfl hc (uh HGe)⟩
   have g5:¬(5:Int)<=(N:Int):=by omega
   have HGe:Hid (ba (ss.map ax.stg) (ws.map aw.wd)=.ok (ss.map ax.stg++[⟨nm,[]⟩],K)):=ab (by rw[uh HG1,if_neg hcond,if_neg h5]);obtain⟨S0,S1,S2,S3⟩:=uh FIN w4 hb4 (by omega) (uh HGe);have HS1:=ab (S1.alloc (.cells #[.string un,.slice none 0 0] 106));have HS2:Hid (∀w6,(w4.alloc (.cells #[.string un,.slice none 0 0] 106)).grownBy w6 (Value.slice ao2 N cap2).ownBlock->w6.heap[fb]?=some (.cells #[.slice ao2 N cap2] 93 (0,0))):=ab (λw6 hgr=>by have hlt:=S2.lt;exact((hgr.block fb (by simp;omega) (λe'=>bZ S2.row S2.cells (by decide) e'.symm)).trans (Below.heap_alloc _ _ _ hlt)).trans S2.cells);have hBX:=nT hB6 (hb4).size;have HB:=ab hb4;clear HG1 hcond S1 S2 S3;go_wp2_with (at_builtin;refine wpList_append_own _ rfl _ _ 91 rfl B 106 i0 _ 2 40 underlying91 hi0 hz0 hz1 hz2 rfl (by decide) (.slice ao2 N cap2) N (sD ss) rfl (uh HS1) ⟨w4.heap.size,0,none⟩ 1 1 [.string un,.slice none 0 0] rfl rfl (World.news_of_block (cs:=#[.string un,.slice none 0 0]) (t:=106) (fr:=(0,0)) (hN _ _)) (by intro u hu;simp only[mC,List.not_mem_nil,or_false]at hu;rcases hu with rfl|rfl<;>rfl) (by unfold maxLen;omega) (by omega) (by simp;omega) ?_;intro v6 w6 hown6 hgrow6 _;obtain⟨g6,cp6,rfl,_,_⟩:=World.ownsRow.form hown6 (by omega);have hs1:=uh HS2 w6 hgrow6;have k2:w6.cell? ⟨fb,0,none⟩=some (.slice ao2 N cap2):=cq 0 hs1;have f2:w6.frozen? ⟨fb,0,none⟩=false:=(by simp[World.frozen?,hs1]);have HO:=ab hown6;clear hown6 hs1)
   go_end0;exact uh DONE w4 (uh HB) (by omega) (uh HGe) _ w6 (uh HO) hgrow6
  have g4:(M != -1)=true:=by simpa using hM1
  have HCD:Hid (nm=a6\/(nm≠[]/\M≠-1)):=ab (.inr ⟨hne,hM1⟩);have HNE:=ab hne;clear hns hne hM1;go_wp2_with (first|(go_at_call 165;refine hFn.mono ?_;clear hFn;rintro ev w4⟨rfl,hb4⟩;obtain⟨h4,k0,k1⟩:=uh H3 (uh HNE) w4 hb4;have i3:(3:Int)<(n:Int):=(by omega);clear h4)|(go_at_call 35;refine(hF63 _).mono ?_;clear hF63;rintro ev w8⟨bb,rfl,hc,hb8⟩))
  exact⟨rfl,uh BAD6 w4 _ w8 bb hb4 hb8 rfl hc (uh HCD)⟩
def rW(w:World)(ev:Ending)(B fb ib:Nat)(sv wv:Value)(ss:List ax)(ws:List aw)(a b:Int)(f g:Value)(op:Nat)(r:lW (List aU×Int)):Prop:=match r with
 |.error (e,p)=>jm w ev e p
 |.ok (st,k)=>ev=.returned (.tuple #[])/\∃(sv':Value) (ss':List ax),aQ w B fb sv' ss'/\ol w B ib wv ws k a b f g/\st=ss'.map ax.stg/\-1<=k/\(k<ss.length)/\((op≠0/\ss'=ss/\sv'=sv)\/(op=0/\∃un:BA,ss'=ss++[(⟨un,.slice none 0 0,[]⟩:ax)]))
theorem AQ{st st':List aU}{ws:List Wd}{k:Int}(h:ba st ws=.ok (st',k)):-1<=k/\k<st.length:=by
 unfold ba at h;split at h
 .cases h
 rename_i b n _;split at h
 .cases h
 split at h
 .cases h
 split at h
 .cases h
 injection h with h;injection h with _ h;have:=si st b;rw[<-h];split<;>omega
theorem Aa{st st':List aU}{ws:List Wd}{k:Int}(h:bC st ws=.ok (st',k)):st'=st/\-1<=k/\k<st.length:=by
 unfold bC at h;split at h
 .split at h
  .cases h
  injection h with h;injection h with h1 h;subst h1 h;exact⟨rfl,by omega,by omega⟩
 rename_i n _;split at h
 .cases h
 split at h
 .cases h
 split at h
 .cases h
 injection h with h;injection h with h1 h;subst h1 h;exact⟨rfl,si st n⟩
theorem LN(op:Nat)(hop:op<8)(B fb ib:Nat)(sv wv:Value)(ss:List ax)(ws:List aw)(w:World)(h:aQ w B fb sv ss)(hi:ol w B ib wv ws (-1) (af op).1 (af op).2.1 (aN (af op).2.2.1) (aN (af op).2.2.2))(hap:∀s∈ss,s.iv.ownBlock≠some ib)(h1:(af op).1<=(ws.length:Int)-1)(h2:(ws.length:Int)-1<=(af op).2.1)(hss:op≠0->0<ss.length): Cl (af op).2.2.1 #[.pointer (some ⟨fb,0,none⟩),.pointer (some ⟨ib,0,none⟩)] w λev w'=>rW w' ev B fb ib sv wv ss ws (af op).1 (af op).2.1 (aN (af op).2.2.1) (aN (af op).2.2.2) op (br op (ss.map ax.stg) (ws.map aw.wd))/\Fr B w w':=by
 have hBw:B<=w.heap.size:=nT h.base (Nat.le_of_lt h.lt);have pl:∀(r:lW (List aU×Int)) (w':World) (ev:Ending),(∀x,r=.ok x->x=(ss.map ax.stg,-1))->op≠0->dH w' ev r->Bw w w'->rW w' ev B fb ib sv wv ss ws (af op).1 (af op).2.1 (aN (af op).2.2.1) (aN (af op).2.2.2) op r/\Fr B w w':=by
  intro r w' ev hr h0 hp hb;refine⟨?_,Fr.of_below hb hBw⟩;unfold dH at hp;unfold rW;cases r with
  |error x=>exact hp
  |ok x=>have hx:=hr x rfl;subst hx;exact⟨hp,sv,ss,h.below hb,hi.below hb,rfl,by omega,by omega,.inl ⟨h0,rfl,rfl⟩⟩
 have anyr:(af op).2.2.1=141->op≠0->(∀st ws,br op st ws=.ok (st,-1))->Cl (af op).2.2.1 #[.pointer (some ⟨fb,0,none⟩),.pointer (some ⟨ib,0,none⟩)] w λev w'=>rW w' ev B fb ib sv wv ss ws (af op).1 (af op).2.1 (aN (af op).2.2.1) (aN (af op).2.2.2) op (br op (ss.map ax.stg) (ws.map aw.wd))/\Fr B w w':=by intro e h0 hr;have hA:=EK fb ib w;rw[<-e]at hA;refine hA.mono ?_;rintro ev w'⟨rfl,rfl⟩;exact pl _ _ _ (λx hx=>by rw[hr]at hx;injection hx with hx;exact hx.symm) h0 (by rw[hr];rfl) (bR _ _)
 match op,hop with
 |0,_=>
  have h1':(1:Int)<=(ws.length:Int)-1:=h1;have h2':(ws.length:Int)-1<=3:=h2;refine(DO B fb ib sv wv ss ws _ _ _ _ w h hi hap (by omega) (by omega) ⟨_,_,rfl,rfl⟩).mono ?_;rintro ev w'⟨ho,hb⟩;refine⟨?_,hb⟩;unfold cQ at ho;unfold rW;show match ba (ss.map ax.stg) (ws.map aw.wd)with|.error (e,p)=>_|.ok (st,k)=>_
  cases hr:ba (ss.map ax.stg) (ws.map aw.wd)with
  |error x=>rw[hr]at ho;exact ho
  |ok x=>obtain⟨st,k⟩:=x;rw[hr]at ho;obtain⟨he,sv',un,hF,hI,hst⟩:=ho;have hbd:=AQ hr;rw[List.length_map]at hbd;exact⟨he,sv',_,hF,hI,hst,hbd.1,hbd.2,.inr ⟨rfl,un,rfl⟩⟩
 |1,_=>
  have h1':(2:Int)<=(ws.length:Int)-1:=h1;have h2':(ws.length:Int)-1<=3:=h2;refine(Cx B fb ib sv wv ss ws _ _ _ _ w h hi (by omega) (by omega) (hss (by decide)) ⟨_,_,rfl,rfl⟩).mono ?_;rintro ev w'⟨ho,hb⟩;have hb':Fr B w w':=Fr.of_tb hb hi.cells (by decide) hi.base;refine⟨?_,hb'⟩;unfold gS at ho;unfold rW;show match bC (ss.map ax.stg) (ws.map aw.wd)with|.error (e,p)=>_|.ok (st,k)=>_
  cases hr:bC (ss.map ax.stg) (ws.map aw.wd)with
  |error x=>rw[hr]at ho;exact ho
  |ok x=>obtain⟨st,k⟩:=x;rw[hr]at ho;obtain⟨he,hI⟩:=ho;have hbd:=Aa hr;rw[List.length_map]at hbd;exact⟨he,sv,ss,h.off hi.cells hap hb,hI,hbd.1,hbd.2.1,hbd.2.2,.inl ⟨by decide,rfl,rfl⟩⟩
 |2,_=>exact anyr rfl (by decide) (λ_ _=>rfl)
 |3,_=>exact anyr rfl (by decide) (λ_ _=>rfl)
 |4,_=>
  have h1':(1:Int)<=(ws.length:Int)-1:=h1;refine(AF B fb ib wv ws (ss.map ax.stg) _ _ _ _ _ w hi (by omega)).mono ?_;rintro ev w'⟨ho,hb⟩;refine pl _ _ _ (λx hx=>?_) (by decide) ho hb;unfold br at hx;simp only at hx;split at hx
  .injection hx with hx;exact hx.symm
  split at hx
  .split at hx
   .injection hx with hx;exact hx.symm
   cases hx
  cases hx
 |5,_=>exact anyr rfl (by decide) (λ_ _=>rfl)
 |6,_=>
  have h1':(2:Int)<=(ws.length:Int)-1:=h1;refine(FN B fb ib wv ws (ss.map ax.stg) _ _ _ _ _ w hi (by omega)).mono ?_;rintro ev w'⟨ho,hb⟩;refine pl _ _ _ (λx hx=>?_) (by decide) ho hb;unfold br at hx;simp only at hx;split at hx
  .split at hx
   .injection hx with hx;exact hx.symm
   cases hx
  cases hx
 |7,_=>exact anyr rfl (by decide) (λ_ _=>rfl)
end Go.Proofs.YtjhobnjdfhkohaaGreatDoor
