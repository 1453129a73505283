import Derived.Test.YtjhobnjdfhkohaaGreatDoorXAK
set_option linter.all false
set_option maxHeartbeats 8000000
set_option maxRecDepth 10000
namespace Go.Proofs.YtjhobnjdfhkohaaGreatDoor.T
open Go.Proofs.Tryz
open Go.RowKit Go.Maps
theorem Fb{ns:List Nd}{φ:Nd->Nd}(h:∀z∈ns,(φ z).ent=z.ent)(p:LU):aB (ns.map φ) p=AN ns φ p:=by
 unfold aB AN aF;have hp:∀z∈ns,(φ z).p=z.p:=λz hz=>by unfold Nd.p;rw[h z hz]
 rw[List.filter_map,List.map_map];have e:ns.filter ((λx=>al x.p==p)∘φ)=ns.filter λx=>al x.p==p:=List.filter_congr λz hz=>by show (al (φ z).p==p)=_;rw[hp z hz]
 rw[e];refine List.map_congr_left λz hz=>?_;show (ai (φ z).p,(φ z).nb)=_;rw[hp z (List.mem_filter.1 hz).1]
theorem Ab(B:Nat)(r:Nd)(ns:List Nd)(W:World)(hM:cw W B r ns)(HT:Hid (jo (ac ns))): Cl 166 #[.pointer (some ⟨r.nb,0,none⟩)] W λe W'=>∃(r':Nd) (ns':List Nd),e=.returned (.pointer (some ⟨r'.nb,0,none⟩))/\cw W' W.heap.size r' ns'/\ac ns'=ac ns/\Bw W W':=by
 have hd:Deep (ac ns) ((ac ns).length+1) r.ent:=by rw[hM.root];exact lL _
 have hdn:aJ ns r.p=ns:=by
  unfold aJ;rw[List.filter_eq_self];intro z hz;rw[fD];have hO:cX (ac ns) ns.length:=by have:=(uh HT).ok;simpa[ac]using this
  have hu:=mh hO hz;have hr:prt r.p=[]:=by unfold Nd.p;rw[hM.root];rfl
  cases hq:prt z.p with
  |nil=>rw[hq]at hu;simp at hu
  |cons a u=>exact⟨a,u,by rw[hr,hq];rfl⟩
 refine(Jz (ac ns) B r ns (ab rfl) HT ((ac ns).length+1) r (List.mem_cons_self ..) (ab hd) W hM).mono ?_;rintro e W'⟨φ,rfl,hC,hb⟩;rw[hdn]at hC;have hent:∀z∈ns,(φ z).ent=z.ent:=λz hz=>(hC.all z (List.mem_cons_of_mem _ hz)).ent;have hents:ac (ns.map φ)=ac ns:=by unfold ac;rw[List.map_map];exact List.map_congr_left λz hz=>hent z hz
 refine⟨φ r,ns.map φ,rfl,⟨(hC.all r (List.mem_cons_self ..)).ent.trans hM.root,λz' hz'=>?_,?_⟩,hents,hb⟩
 .obtain⟨z,hz,rfl⟩:∃z∈r::ns,φ z=z':=by
   rcases nh.1 hz' with rfl|hz'
   .exact⟨r,List.mem_cons_self ..,rfl⟩
   obtain⟨z,hz,rfl⟩:=List.mem_map.1 hz';exact⟨z,List.mem_cons_of_mem _ hz,rfl⟩
  have h:=hC.all z hz;refine⟨h.nb,h.mb,h.cell,?_⟩;rw[List.length_map,Fb hent];have:(φ z).p=z.p:=by unfold Nd.p;rw[h.ent]
  rw[this];exact h.map
 have:=hC.apart;rw[show φ r::ns.map φ=(r::ns).map φ from rfl,List.pairwise_map];exact this
theorem FV(w:World):Cl 168 #[.slice none 0 0] w λe w'=>e=.returned (.slice none 0 0)/\w'=w:=by have he:=Lib.run_eql_slice_nil (P:=prog) w 26 9 none 0 0 0 0 underlying26;go_enter func168,ntmps168;go_wp2;go_ret;exact⟨rfl,rfl⟩
theorem zQ(ev:Value)(es:eU)(B:Nat)(w:World)(h:fZ w B ev es)(hn:es.length<=1500): Cl 167 #[ev] w λe w'=>(∃ev',e=.returned ev'/\fZ w' w.heap.size ev' es)/\Bw w w':=by
 obtain⟨i0,hi0,hz0,hz1,hz2⟩:=info_parts m5;obtain⟨ao,n,cap,rfl⟩:=ar h;have hnl:n=es.length:=dL h;have he:=Lib.run_eql_slice_nil (P:=prog) w 132 179 ao n cap 0 0 underlying132;rcases h.2 with⟨e,e0⟩|⟨g,c,cur,e,h0,h1,h2,h3,h4,h5⟩
 .injection e with e1 e2 e3;subst e1 e2 e3;have:es=[]:=List.length_eq_zero_iff.1 e0;subst this;clear h hnl hn e0 hi0 hz0 hz1 hz2;go_enter func167,ntmps167;go_wp2;go_ret;exact⟨⟨_,rfl,World.ownsRow_nil _ _ _ _⟩,ju _ _⟩
 injection e with e1 e2 e3;subst e1 e3;have HNL:=ab hnl;have hXc:∀W,Bw w W->∀j u,(a8 es)[j]?=some u->W.cell? ((⟨g,0,none⟩:Addr).add j)=some u:=λW hW j u hj=>by
  rw[Addr.add_lit,Nat.zero_add];refine aM hW ?_;rw[cell_of_row _ _ j _ _ _ h1,<-Array.getElem?_toList];rw[<-h5,List.getElem?_take]at hj;split at hj
  .exact hj
  cases hj
 have HX:=ab hXc;have hel:(a8 es).length=n*2:=by rw[jG,hnl]
 have HEL:=ab hel;have hb1:Bw w (w.alloc (.cells #[] 179)):=eD;have HR0:Hid ((w.alloc (.cells #[] 179)).ownsRow w.heap.size 179 2 (.slice (some ⟨w.heap.size,0,none⟩) 0 0) 0 []):=ab ⟨rfl,.inr ⟨w.heap.size,0,#[],rfl,bH _,ft _ _,bH _,Nat.zero_le _,rfl,rfl⟩⟩;have HO:Hid (∀W v,W.ownsRow w.heap.size 179 2 v (0+n) ([]++a8 es)->fZ W w.heap.size v es):=ab (λW v hv=>by unfold fZ;rw[<-hnl];simpa using hv);clear h e2 h0 h1 h2 h3 h4 h5 hXc hel hnl;have hn15:n<=1500:=by have:=uh HNL;omega
 go_enter func167,ntmps167;go_wp2_with (at_builtin;refine wpList_append_own _ rfl _ _ 132 rfl w.heap.size 179 i0 _ 2 32 underlying132 hi0 hz0 hz1 hz2 rfl (by decide) (.slice (some ⟨w.heap.size,0,none⟩) 0 0) 0 [] rfl (uh HR0) ⟨g,0,none⟩ n cap (a8 es) rfl (uh HEL) (uh HX _ hb1) (nr es) (by unfold maxLen;omega) (by omega) (by simp) ?_;intro v6 w6 hown6 hgrow6 _;have HOW:=ab (uh HO _ _ hown6);obtain⟨o6,n6,c6,hv6⟩:=ar hown6;subst hv6;clear hown6)
 go_ret;exact⟨⟨_,rfl,uh HOW⟩,hb1.grown hgrow6 (by simp) (λq hq=>by cases hq;exact bH _)⟩
theorem cw.mono{w:World}{B B':Nat}{r:Nd}{ns:List Nd}(h:cw w B' r ns)(hB:B<=B'):cw w B r ns:=⟨h.root,λx hx=>by obtain⟨h1,h2,h3,h4⟩:=h.all x hx;exact⟨dz hB h1,dz hB h2,h3,h4⟩,h.apart⟩
theorem fZ.mono{w:World}{B B':Nat}{ev:Value}{es:eU}(h:fZ w B' ev es)(hB:B<=B'):fZ w B ev es:=by
 refine⟨h.1,?_⟩;rcases h.2 with h'|⟨g,c,cur,e,h0,h1⟩
 .exact .inl h'
 exact .inr ⟨g,c,cur,e,dz hB h0,h1⟩
theorem qN{W:World}{sb:Nat}(i:Nat)(v:Value):W.grownBy (W.setCell ⟨sb,i,none⟩ v) (some sb):=⟨rfl,rfl,rfl,by simp,λk _ hk=>heap_setCell_other _ _ _ _ (λe=>hk (by rw[e]))⟩
theorem K9{W W':World}{B sb:Nat}{r:Nd}{ns:List Nd}{cs:Array Value}(h:cw W B r ns)(hc:W.heap[sb]?=some (.cells cs 134 (0,0)))(hg:W.grownBy W' (some sb)):cw W' B r ns:=oR h hg (λq hq=>by cases hq;exact h.out hc (by decide))
theorem zt{W W':World}{B sb:Nat}{ev:Value}{es:eU}{cs:Array Value}(h:fZ W B ev es)(hc:W.heap[sb]?=some (.cells cs 134 (0,0)))(hg:W.grownBy W' (some sb)):fZ W' B ev es:=ap h λq hq=>by obtain⟨cur,h1,_⟩:=gH h hq;refine hg.block q (bY h1) (λe=>?_);injection e with e;subst e;have hh:=h1.symm.trans hc;injection hh with hh;injection hh with _ hh _;cases hh
structure Gy(w W:World)(B B2 sb sb2 tb:Nat)(r':Nd)(ns':List Nd)(st s2:Array Value)(tk:Array Value)(ev2:Value)(es2:eU):Prop where
 st:W.heap[sb]?=some (.cells st 134 (0,0))
 s2:W.heap[sb2]?=some (.cells s2 134 (0,0))
 tk:W.heap[tb]?=some (.cells tk 79 (0,0))
 er:fZ W B2 ev2 es2
 mm:cw W B r' ns'
 bl:Below B w W
 kx:bm w W
theorem Gy.later{w W W':World}{B B2 sb sb2 tb:Nat}{r':Nd}{ns':List Nd}{st s2 tk:Array Value}{ev2:Value}{es2:eU}(h:Gy w W B B2 sb sb2 tb r' ns' st s2 tk ev2 es2)(hb:Bw W W')(hB:B<=w.heap.size):Gy w W' B B2 sb sb2 tb r' ns' st s2 tk ev2 es2:=by have up:∀{q:Nat}{o:Obj},W.heap[q]?=some o->W'.heap[q]?=some o:=λhq=>(hb.block _ (bY hq)).trans hq;exact⟨up h.st,up h.s2,up h.tk,h.er.below hb,h.mm.below hb,h.bl.trans (hb.mono (dz hB h.bl.size)),h.kx.trans (ak hb)⟩
theorem Gy.set{w W:World}{B B2 sb sb2 tb:Nat}{r':Nd}{ns':List Nd}{st s2 tk:Array Value}{ev2:Value}{es2:eU}(h:Gy w W B B2 sb sb2 tb r' ns' st s2 tk ev2 es2)(i:Nat)(v:Value)(hsb:B<=sb)(hne:sb2≠sb):Gy w (W.setCell ⟨sb,i,none⟩ v) B B2 sb sb2 tb r' ns' (st.setIfInBounds i v) s2 tk ev2 es2:=by
 have hg:W.grownBy (W.setCell ⟨sb,i,none⟩ v) (some sb):=qN i v;have htb:tb≠sb:=λe=>by have h1:=h.tk;rw[e,h.st]at h1;injection h1 with h1;injection h1 with _ h1 _;cases h1
 refine⟨oX _ _ i _ _ v h.st,(heap_setCell_other _ _ _ _ hne).trans h.s2,(heap_setCell_other _ _ _ _ htb).trans h.tk,zt h.er h.st hg,K9 h.mm h.st hg,h.bl.setCell hsb _,h.kx.trans (λg cs t f hgg _ h134=>?_)⟩;refine(heap_setCell_other _ _ _ _ (λe=>?_)).trans hgg;subst e;have hh:=h.st.symm.trans hgg;injection hh with hh;injection hh with _ hh _;exact h134 hh.symm
theorem Eg(sb sb2:Nat)(r r2:Nd)(ns ns2:List Nd)(work work2:BA)(ev ev2:Value)(es2:eU)(ao:OA)(n cap:Nat)(sr:OA)(B B2:Nat)(w:World)(h:ed w B sb r ns work ev)(h2:ed w B2 sb2 r2 ns2 work2 ev2)(hE:fZ w B2 ev2 es2)(hsb:B<=sb)(hs2:sb2≠sb)(hn2:es2.length<=1500)(HT:Hid (jo (ac ns2))): Cl 138 #[.pointer (some ⟨sb,0,none⟩),.agg #[.slice ao n cap,.pointer (some ⟨sb2,0,none⟩),.pointer sr]] w λe w'=>(e=.returned .nilIface/\∃r' ns' ev',ed w' B sb r' ns' work2 ev'/\ac ns'=ac ns2/\fZ w' B ev' es2)/\Below B w w'/\bm w w':=by
 obtain⟨W0,hW0⟩:=aq (w.alloc (.cells #[.slice ao n cap,.pointer (some ⟨sb2,0,none⟩),.pointer sr] 79));have hb0:=dw hW0;have hc0:=em hW0;have t1:=cq 1 hc0;have H0:=h.below hb0;have H2:=h2.below hb0;have HE:=hE.below hb0;have d0:W0.cell? ⟨sb2,0,none⟩=some (.pointer (some ⟨r2.nb,0,none⟩)):=H2.c0;have hC:=Ab B2 r2 ns2 W0 H2.mem HT;have htw:w.heap.size≠sb:=by have:=h.lt;omega
 have hBw:=h.base;have HLIM:=ab h.lim;have HTR:Hid (∀ns',ac ns'=ac ns2->aO (ac ns')):=ab (λns' e=>by rw[e];exact h2.tree);have HK:Hid (∀W,Bw W0 W->W.heap[sb]?=some (.cells #[.pointer (some ⟨r.nb,0,none⟩),.string work,ev,.slice none 0 0] 134 (0,0))/\W.heap[sb2]?=some (.cells #[.pointer (some ⟨r2.nb,0,none⟩),.string work2,ev2,.slice none 0 0] 134 (0,0))/\W.heap[w.heap.size]?=some (.cells #[.slice ao n cap,.pointer (some ⟨sb2,0,none⟩),.pointer sr] 79 (0,0))/\fZ W B2 ev2 es2/\Bw w W):=ab (λW hb=>⟨(H0.below hb).cells,(H2.below hb).cells,(hb.block _ (bY hc0)).trans hc0,HE.below hb,hb0.trans (hb.mono hb0.size)⟩);have hev:∃o m c,ev2=.slice o m c:=ar hE;have hpn:∀(v:Addr) (W:World),(binOp BinOp.eql 73 (.pointer (some v)) (.pointer none)).run prog W=.ok (.bool false) W:=λ_ _=>by kernel_rfl
 have hb1w:=hb0.size;have hsz0:w.heap.size<=w.heap.size:=bH _;clear h h2 hE hc0 hb0 H0 H2 HE;go_enter func138,ntmps138;go_upto_region 1 with fail;rw[<-hW0];clear hW0;go_upto_region 3 with fail;obtain⟨o2,m2,k2,rfl⟩:=hev;go_upto_region 4 with(go_at_call 166;refine hC.mono ?_;clear hC;rintro e1 W1⟨r',ns',rfl,hM1,hents,hb1⟩;obtain⟨q1,q2,q3,q4,q5⟩:=uh HK W1 hb1;have HI1:Hid (Gy w W1 B B2 sb sb2 w.heap.size r' ns' #[.pointer (some ⟨r.nb,0,none⟩),.string work,ev,.slice none 0 0] #[.pointer (some ⟨r2.nb,0,none⟩),.string work2,.slice o2 m2 k2,.slice none 0 0] #[.slice ao n cap,.pointer (some ⟨sb2,0,none⟩),.pointer sr] (.slice o2 m2 k2) es2):=ab ⟨q1,q2,q3,q4,hM1.mono (dz hBw hb1w),q5.mono hBw,ak q5⟩;have z0:W1.cell? ⟨sb,0,none⟩=some (.pointer (some ⟨r.nb,0,none⟩)):=cq 0 q1;have g0:W1.frozen? ⟨sb,0,none⟩=false:=frozen_of_row W1 sb 0 _ _ q1;clear q1 q2 q3 q4 q5 hM1 hb1)
 obtain⟨W2,hW2⟩:=aq (W1.setCell ⟨sb,0,none⟩ (.pointer (some ⟨r'.nb,0,none⟩)));have HI2:Hid (Gy w W2 B B2 sb sb2 w.heap.size r' ns' #[.pointer (some ⟨r'.nb,0,none⟩),.string work,ev,.slice none 0 0] #[.pointer (some ⟨r2.nb,0,none⟩),.string work2,.slice o2 m2 k2,.slice none 0 0] #[.slice ao n cap,.pointer (some ⟨sb2,0,none⟩),.pointer sr] (.slice o2 m2 k2) es2):=ab (by rw[hW2];exact(uh HI1).set 0 _ hsb hs2);rw[<-hW2];clear hW2 z0 g0 HI1 t1 d0;have t2:=cq 1 (uh HI2).tk;have d1:=cq 1 (uh HI2).s2;have z1:=cq 1 (uh HI2).st;have g1:=frozen_of_row W2 sb 1 _ _ (uh HI2).st;go_upto_region 5 with fail;obtain⟨W3,hW3⟩:=aq (W2.setCell ⟨sb,1,none⟩ (.string work2));have HI3:Hid (Gy w W3 B B2 sb sb2 w.heap.size r' ns' #[.pointer (some ⟨r'.nb,0,none⟩),.string work2,ev,.slice none 0 0] #[.pointer (some ⟨r2.nb,0,none⟩),.string work2,.slice o2 m2 k2,.slice none 0 0] #[.slice ao n cap,.pointer (some ⟨sb2,0,none⟩),.pointer sr] (.slice o2 m2 k2) es2):=ab (by rw[hW3];exact(uh HI2).set 1 _ hsb hs2);rw[<-hW3];clear hW3 z1 g1 HI2 t2 d1;have t3:=cq 1 (uh HI3).tk;have d2:=cq 2 (uh HI3).s2;have hcl:=zQ (.slice o2 m2 k2) es2 B2 W3 (uh HI3).er hn2;go_upto_region 6 with(go_at_call 167;refine hcl.mono ?_;clear hcl;rintro e4 W4⟨⟨ev',rfl,hE4⟩,hb4⟩;have HI4:=ab ((uh HI3).later hb4 hBw);have HE4:Hid (fZ W4 B ev' es2):=ab (hE4.mono (dz hBw (dz hsz0 (uh HI3).bl.size)));obtain⟨o4,m4,k4,hv4⟩:=ar hE4;subst hv4;have z2:W4.cell? ⟨sb,2,none⟩=some ev:=cq 2 (uh HI4).st;have g2:=frozen_of_row W4 sb 2 _ _ (uh HI4).st;clear hE4 hb4)
 obtain⟨W5,hW5⟩:=aq (W4.setCell ⟨sb,2,none⟩ (.slice o4 m4 k4));have HI5:Hid (Gy w W5 B B2 sb sb2 w.heap.size r' ns' #[.pointer (some ⟨r'.nb,0,none⟩),.string work2,.slice o4 m4 k4,.slice none 0 0] #[.pointer (some ⟨r2.nb,0,none⟩),.string work2,.slice o2 m2 k2,.slice none 0 0] #[.slice ao n cap,.pointer (some ⟨sb2,0,none⟩),.pointer sr] (.slice o2 m2 k2) es2):=ab (by rw[hW5];exact(uh HI4).set 2 _ hsb hs2);have HE5:Hid (fZ W5 B (.slice o4 m4 k4) es2):=ab (by rw[hW5];exact zt (uh HE4) (uh HI4).st (qN 2 _));rw[<-hW5];clear hW5 z2 g2 HI3 HI4 HE4 t3 d2;have t5:=cq 1 (uh HI5).tk;have d3:=cq 3 (uh HI5).s2;have z3:=cq 3 (uh HI5).st;have g3:=frozen_of_row W5 sb 3 _ _ (uh HI5).st;have HI6:Hid (Gy w (W5.setCell ⟨sb,3,none⟩ (.slice none 0 0)) B B2 sb sb2 w.heap.size r' ns' #[.pointer (some ⟨r'.nb,0,none⟩),.string work2,.slice o4 m4 k4,.slice none 0 0] #[.pointer (some ⟨r2.nb,0,none⟩),.string work2,.slice o2 m2 k2,.slice none 0 0] #[.slice ao n cap,.pointer (some ⟨sb2,0,none⟩),.pointer sr] (.slice o2 m2 k2) es2):=ab ((uh HI5).set 3 _ hsb hs2);have HE6:Hid (fZ (W5.setCell ⟨sb,3,none⟩ (.slice none 0 0)) B (.slice o4 m4 k4) es2):=ab (zt (uh HE5) (uh HI5).st (qN 3 _));go_wp2_with (go_at_call 168;refine(FV _).mono ?_;rintro e6 w6⟨rfl,hw6⟩;obtain rfl:=hw6.symm)
 go_ret;exact⟨⟨rfl,r',ns',_,⟨(uh HI6).st,(uh HI6).mm,uh HTR ns' hents,uh HLIM,dz hBw (uh HI6).bl.size⟩,hents,uh HE6⟩,(uh HI6).bl,(uh HI6).kx⟩
theorem kJ:∀(cs:List aj),(∀c∈cs,bT c=true)->cs.length*512<=(c7 cs).length
 |[],_=>by simp
 |c::r,h=>by
  have ih:=kJ r λd hd=>h d (List.mem_cons_of_mem _ hd);have h1:=tS (s:=bt (az c++[])) (b:=⟨#[]⟩) (h c (List.mem_cons_self ..)) (by rw[aK]);have h2:512<=(az c).length:=by rw[bF,List.append_nil]at h1;have:(⟨#[]⟩:BA).size=0:=rfl;omega
  have e:c7 (c::r)=az c++c7 r:=by simp[c7]
  rw[e,lA,lC,Nat.add_mul,Nat.one_mul,Nat.add_comm];exact Nat.add_le_add h2 ih
theorem yJ{cs:List aj}(h:iu cs):∀c∈cs,bT c=true:=λc hc=>by obtain⟨i,hi,rfl⟩:=List.getElem_of_mem hc;have:=h i hi;unfold vt at this;rw[gG hi]at this;simp only[bA]at this;exact this.1.2
structure Ez(w wr:World)(B sb:Nat)(r:Nd)(work:BA)(ev:Value)(d:LU)(cs:List aj)(v:Value)(X:Except Nat (List aj))(m:Int)(k:Nat):Prop where
 st:∃ns',ed wr B sb r ns' work ev/\ns'.length<=420+13*k/\Ax d (cs.drop k) (ac ns')=X
 row:jQ wr B v cs
 mx:wr.cell? ⟨1,0,none⟩=some (.int .i64 m)
 bl:Below B w wr
 kx:bm w wr
theorem jQ.x{w w':World}{B:Nat}{v:Value}{ks:List aj}(h:jQ w B v ks)(hk:bm w w'):jQ w' B v ks:=ap h λq hq=>by
 rcases h.2 with⟨e,_⟩|⟨g,cap,cur,e,_,hg,_⟩
 .rw[e]at hq;cases hq
 rw[e]at hq;have:g=q:=by simpa[Value.ownBlock]using hq
 subst this;exact(hk _ _ _ _ hg (by decide) (by decide)).trans hg.symm
theorem DQ{d:LU}{cs:List aj}{k:Nat}{c:aj}(t:List aj)(h:cs[k]?=some c):Ax d (cs.drop k) t=if c.kind=4\/c.kind=5 then .error 4 else match aS t (fd c (gj d c.path.data.toList))with
 |.error k=>.error k
 |.ok t'=>Ax d (cs.drop (k+1)) t':=by
 have hj:=(gL h)
 have e:cs.drop k=c::cs.drop (k+1):=by rw[List.drop_eq_getElem_cons hj];congr 1;exact(eL.1 h).2
 rw[e];rfl
theorem FE(sb:Nat)(r:Nd)(ns:List Nd)(work:BA)(ev:Value)(c:aj)(d q:BA)(B m':Nat)(m:Int)(w:World)(h:ed w B sb r ns work ev)(hn:ns.length<=900)(hd:d.size<=170)(hc:bT c=true)(hk:¬(c.kind=4\/c.kind=5))(hq:q.data.toList=gj d.data.toList c.path.data.toList)(hm:w.cell? ⟨1,0,none⟩=some (.int .i64 m)): Cl 175 #[.pointer (some ⟨sb,0,none⟩),.agg #[.string q,.int .i64 c.kind,.int .i64 c.mode,.string c.data]] w λv w'=>bx w w' B sb r ns work ev 13 v (aS (ac ns) (fd c (gj d.data.toList c.path.data.toList)))/\Below B w w'/\bm w w':=by
 unfold bT at hc;rw[if_neg hk]at hc;unfold bK at hc;simp only[bA,bne_iff_ne,ne_eq]at hc;have hpl:=(cR hc.1.2).1;have hql:q.size<=1048576:=by
  rw[zE,hq,gj];rw[zE]at hd;split
  .omega
  rw[lA,lC];omega
 have hqn:q.data.toList≠[]:=by
  rw[hq,gj];split
  .exact hc.1.1
  simp
 have e0:(⟨q,c.kind,c.mode,c.data⟩:aj)=fd c (gj d.data.toList c.path.data.toList):=by unfold fd;rw[<-hq];rfl
 rw[<-e0];exact dq sb r ns work ev ⟨q,c.kind,c.mode,c.data⟩ B m w h hn hql (ab (by have:=hc.2;unfold bc at this⊢;exact this)) (ab hqn) hm
open Classical in
theorem chN:Nonempty (Inhabited Ch):=by
 refine⟨⟨⟨λs=>if h:∃cs,pm s cs then some h.choose else none,λs cs=>⟨λe=>?_,λe=>?_⟩⟩⟩⟩
 .split at e
  .rename_i h;injection e with e;rw[<-e];exact h.choose_spec
  cases e
 have h:∃cs,pm s cs:=⟨cs,e⟩
 show (if h:∃cs,pm s cs then some h.choose else none)=some cs;rw[dif_pos h,KV h.choose_spec e]
theorem Fz[Inhabited Ch](sb:Nat)(r:Nd)(ns:List Nd)(work a b:BA)(ev:Value)(ao:OA)(n cap:Nat)(ps:List BA)(stv:OA)(rs:Nd)(nss:List Nd)(B Bs:Nat)(m:Int)(w:World)(h:ed w B sb r ns work ev)(hn:ns.length<=400)(hws:work.size<=1048576)(hW:jD w ao n cap ps)(ha:ps[0]?=some a)(hb:ps[1]?=some b)(hS:cw w Bs rs nss)(HT:Hid (aO (ac nss)))(hm:w.cell? ⟨1,0,none⟩=some (.int .i64 m))(hR:Rd w): Cl 142 #[.pointer (some ⟨sb,0,none⟩),.agg #[.slice ao n cap,.pointer stv,.pointer (some ⟨rs.nb,0,none⟩)]] w λe w'=>ll w' B sb ev e (oA (ac ns) (ac nss) work.data.toList a.data.toList b.data.toList)/\Below B w w'/\bm w w':=by
 obtain⟨g,rfl,cb,hn1,hbl⟩:=hW.at hb;obtain⟨W0,hW0⟩:=aq (w.alloc (.cells #[.slice (some ⟨g,0,none⟩) n cap,.pointer stv,.pointer (some ⟨rs.nb,0,none⟩)] 79));have hb0:=dw hW0;have hc0:=em hW0;have t0:W0.cell? ⟨w.heap.size,0,none⟩=some (.slice (some ⟨g,0,none⟩) n cap):=cq 0 hc0;have t1:W0.cell? ⟨w.heap.size,1,none⟩=some (.pointer stv):=cq 1 hc0;have t2:W0.cell? ⟨w.heap.size,2,none⟩=some (.pointer (some ⟨rs.nb,0,none⟩)):=cq 2 hc0;have hEn:=nO sb work a b (some ⟨g,0,none⟩) n cap ps stv rs nss Bs m W0 (h.below hb0).c1 hws (hW.below hb0) ha hb (hS.below hb0) HT (cL hb0 hm);have HMM:=ab (hS.below hb0);have HM:=ab (cL hb0 hm);have HST:=ab (h.below hb0);have HRD:=ab (hR.below hb0);have hBw:=h.base;have hlim:=h.lim;have hes:=cB;have hen:=eQ;have hea:=sx
 clear hc0 cb h hS hm hW ha hb hn1 hR;cases hg:gv (ac nss) work.data.toList a.data.toList b.data.toList with
 |error k'=>
  rw[hg]at hEn;unfold nP at hEn;dsimp only at hEn;have HK:Hid (oA (ac ns) (ac nss) work.data.toList a.data.toList b.data.toList=.error k'):=ab (by unfold oA;rw[hg]);clear hg;go_enter func142,ntmps142;go_upto_region 1 with fail;rw[<-hW0];clear hW0;go_wp2_with (go_at_call 171;refine hEn.mono ?_;clear hEn;rintro e1 w1⟨rfl,hb1⟩)
  go_ret;rw[uh HK];have hB1:=hb0.trans (hb1.mono hb0.size);exact⟨⟨_,rfl,.inl rfl⟩,hB1.mono hBw,ak hB1⟩
 |ok pd=>
  obtain⟨p,d⟩:=pd;rw[hg]at hEn;unfold nP at hEn;dsimp only at hEn;obtain⟨db,hdb⟩:=aq (bs d);have HDB:Hid (db.data.toList=d):=ab (by rw[hdb,dh]);have hdl:db.size<=170:=by
   rw[zE,uh HDB];unfold gv at hg;split at hg
   .cases hg
   split at hg
   .cases hg
   rename_i d' hd';split at hg
   .injection hg with hg;injection hg with _ hg;subst hg;exact jl hd'
   split at hg
   .cases hg
   injection hg with hg;injection hg with _ hg;subst hg;exact jl hd'
  rw[<-hdb]at hEn;have HG0:=ab hg;clear hg hdb;go_enter func142,ntmps142;go_upto_region 1 with fail;rw[<-hW0];clear hW0;go_upto_region 4 with(go_at_call 171;refine hEn.mono ?_;clear hEn;rintro e1 w1⟨⟨y,hy,hyp,rfl⟩,hb1⟩)
  have uM:=(uh HMM).below hb1;obtain⟨_,_,hy3,_⟩:=uM.all y hy;have z1:w1.cell? ⟨y.nb,1,none⟩=some (.int .i64 y.ent.kind):=cell_of_row w1 y.nb 1 _ _ _ hy3;have z3:w1.cell? ⟨y.nb,3,none⟩=some (.string y.ent.data):=cell_of_row w1 y.nb 3 _ _ _ hy3;have hB1:Bw w w1:=hb0.trans (hb1.mono hb0.size);have HFE:Hid ((if p=[] then some de else nC (ac nss) p)=some y.ent):=ab (by
   split
   .rename_i hp0;rcases mC.1 hy with rfl|hy
    .rw[uM.root]
    exact absurd (hyp.trans hp0) (nG (uh HT) (List.mem_map.2 ⟨y,hy,rfl⟩)).2.1
   rename_i hp0;rcases mC.1 hy with rfl|hy
   .exact absurd (hyp.symm.trans (by rw[Nd.p,uM.root];rfl)) hp0
   rw[<-hyp];exact(uh HT).at (List.mem_map.2 ⟨y,hy,rfl⟩))
  have hyd:y.ent.kind=2->y.ent.data.size<=4096:=λhk2=>by
   rcases mC.1 hy with rfl|hy
   .rw[uM.root]at hk2;cases hk2
   have:=(nG (uh HT) (List.mem_map.2 ⟨y,hy,rfl⟩)).1;unfold bc at this;rw[if_neg (by rw[hk2];decide),if_pos hk2]at this;simp only[bA,decide_eq_true_eq]at this;exact this.2
  have HS1:=ab ((uh HST).below hb1);have HR1:=ab ((uh HRD).below hb1);have HM1:=ab (cL hb1 (uh HM));clear t0 t1 t2 hy hyp hy3 uM HST HRD HM;by_cases hk2:y.ent.kind=2
  .have g2:(y.ent.kind != 2)=false:=by simpa using hk2
   have hU:=xD y.ent.data w1 (uh HR1) (by have:=hyd hk2;omega);have hyl:=hyd hk2;have HX:Hid (∀cs,pm y.ent.data.data.toList cs->oA (ac ns) (ac nss) work.data.toList a.data.toList b.data.toList=match cK (ac ns) d with
    |.error k=>.error k
    |.ok t'=>iY work.data.toList (Ax d cs t')):=ab (λcs hc=>by
    unfold oA;rw[uh HG0];simp only;rw[uh HFE];simp only;rw[if_neg (by simpa using hk2)];rw[((default:Ch).ok _ _).2 hc];cases cK (ac ns) d<;>rfl)
   have HXB:Hid (∀i,vB y.ent.data.data.toList i->oA (ac ns) (ac nss) work.data.toList a.data.toList b.data.toList=.error 4):=ab (λi hc=>by unfold oA;rw[uh HG0];simp only;rw[uh HFE];simp only;rw[if_neg (by simpa using hk2)];cases e:(default:Ch).f y.ent.data.data.toList with|none=>rfl|some c=>exact(Mf (((default:Ch).ok _ _).1 e) hc).elim);rw[hk2]at z1;clear hk2 HFE HG0 hyd;go_upto_region 7 with(go_at_call 177;refine hU.mono ?_;clear hU;rintro e2 w2⟨v2,er2,rfl,HA2,hb2⟩)
   have hB2:Bw w w2:=hB1.trans (hb2.mono hB1.size);rcases uh HA2 with⟨cs,hOC,rfl,hOk⟩|⟨i,rfl,⟨q,rfl,hq0,hq1⟩,hBad⟩
   .have hs2:=(uh HS1).below hb2;have hm2:=cL hb2 (uh HM1);have hMk:=dO sb r ns work db ev B m w2 hs2 (by omega) (by omega) hm2;have HXX:=ab (uh HX cs hOk);have hcl:cs.length<=6:=by
     have h1:=kJ cs (yJ hOk.1);have h2:=congrArg List.length hOk.2;rw[lA,<-zE]at h2;have h3:Fq.length=1024:=by decide
     omega
    have HCO:=ab (yJ hOk.1);have HOC:=ab hOC;rw[uh HDB]at hMk;clear HA2 HX HXB hOC hOk hs2 hm2;cases hmd:cK (ac ns) d with
    |error k=>
     rw[hmd]at hMk HXX;unfold bx at hMk;dsimp only at hMk HXX;clear hmd;obtain⟨o2,n2,c2,rfl⟩:=ar (uh HOC);go_wp2_with (go_at_call 178;refine hMk.mono ?_;clear hMk;rintro e3 w3⟨rfl,hb3,hx3⟩)
     go_ret;rw[uh HXX];exact⟨⟨_,rfl,.inl rfl⟩,(hB2.mono hBw).trans hb3,(ak hB2).trans hx3⟩
    |ok t1=>
     rw[hmd]at hMk HXX;unfold bx at hMk;dsimp only at hMk HXX;obtain⟨X,hXe⟩:=aq (Ax d cs t1);rw[<-hXe]at HXX;have HXE:=ab hXe;clear hmd hXe;have HOB:Hid (jQ w2 B v2 cs):=ab ((uh HOC).base (nT hBw hB1.size));have hm2:=cL hb2 (uh HM1);obtain⟨o2,n2,c2,rfl⟩:=ar (uh HOC);have hn2:n2=cs.length:=dL (uh HOC);have HN2:=ab hn2;have hn26:n2<=6:=by omega
     have HM2:=ab hm2;clear HOC hn2 hm2 hcl;go_upto_region 12 with(go_at_call 178;refine hMk.mono ?_;clear hMk;rintro e3 w3⟨⟨rfl,ns1,hS3,hE3,_,hl3⟩,hb3,hx3⟩)
     have HI3:Hid (Ez w w3 B sb r work ev d cs (.slice o2 n2 c2) X m 0):=ab ⟨⟨ns1,hS3,by omega,by rw[hE3,List.drop_zero];exact(uh HXE).symm⟩,(uh HOB).x hx3,(hb3.cell (p:=⟨1,0,none⟩) (by show 1<B;omega)).trans (uh HM2),(hB2.mono hBw).trans hb3,(ak hB2).trans hx3⟩;clear hS3 hE3 hb3 hx3 HOB HM2 hb2 hB2 hl3;go_wp2_with fail;go_loopw [50] (λiv wr=>∃k:Nat,k<=n2/\iv=.int .i64 (k:Int)/\Ez w wr B sb r work ev d cs (.slice o2 n2 c2) X m k) (λiv _=>n2-(intOf iv).toNat);case atStart=>exact⟨0,Nat.zero_le _,rfl,uh HI3⟩
     case round=>
      obtain⟨k,hk,rfl,hI⟩:=hrel;clear HI3;by_cases hlt:k<n2
      .obtain⟨c,hc⟩:∃c,cs[k]?=some c:=⟨_,gG (by have:=uh HN2;omega)⟩
       obtain⟨ns',hS',hl',hX'⟩:=hI.st;rw[DQ _ hc]at hX';have hrow:=hI.row;unfold jQ at hrow;obtain⟨g2,cp2,hv2,_,_⟩:=World.ownsRow.form hrow (by have:=uh HN2;omega);injection hv2 with e1 e2 e3;subst e1 e3;rw[e2]at hrow;obtain⟨q0,q1,q2,q3⟩:=nt hc;have hkl:k<cs.length:=(gL hc)
       have u0:wr.cell? ⟨g2,k*4,none⟩=some (.string c.path):=by rw[World.ownsRow.cellAt hrow _ (by omega)];exact q0
       have u1:wr.cell? ⟨g2,k*4+1,none⟩=some (.int .i64 c.kind):=by rw[World.ownsRow.cellAt hrow _ (by omega)];exact q1
       have u2:wr.cell? ⟨g2,k*4+2,none⟩=some (.int .i64 c.mode):=by rw[World.ownsRow.cellAt hrow _ (by omega)];exact q2
       have u3:wr.cell? ⟨g2,k*4+3,none⟩=some (.string c.data):=by rw[World.ownsRow.cellAt hrow _ (by omega)];exact q3
       have n0:=World.new_ne wr ⟨g2,k*4,none⟩ u0;obtain⟨W4,hW4⟩:=aq (wr.alloc (.cells #[.string c.path,.int .i64 c.kind,.int .i64 c.mode,.string c.data] 246));have hb4:=dw hW4;have hc4:=em hW4;have x0:W4.cell? ⟨wr.heap.size,0,none⟩=some (.string c.path):=cq 0 hc4;have x1:W4.cell? ⟨wr.heap.size,1,none⟩=some (.int .i64 c.kind):=cq 1 hc4;have x2:W4.cell? ⟨wr.heap.size,2,none⟩=some (.int .i64 c.mode):=cq 2 hc4;have x3:W4.cell? ⟨wr.heap.size,3,none⟩=some (.string c.data):=cq 3 hc4;have hMk:=ry c W4;have hBr:B<=wr.heap.size:=hS'.base;have HI:=ab hI;have HS':=ab hS';have HC4:=ab hc4;have HB4:=ab hb4;have HOK:=ab (uh HCO c (mG hc));have HXK:=ab hX';clear hI hS' hc4 hc hrow e2 q0 q1 q2 q3 hkl hb4 hX';go_upto_region 15 with fail;rw[<-hW4];clear hW4 u0 u1 u2 u3 n0;by_cases hmk:c.kind=4\/c.kind=5
       .rw[dT hmk]at hMk;have HO:Hid (∀W,Bw W4 W->ll W B sb ev (.returned (.iface 27 (.int .i64 4))) (oA (ac ns) (ac nss) work.data.toList a.data.toList b.data.toList)/\Below B w W/\bm w W):=ab (λW hW=>by have hbW:=(uh HB4).trans (hW.mono (uh HB4).size);refine⟨?_,(uh HI).bl.trans (hbW.mono hBr),(uh HI).kx.trans (ak hbW)⟩;rw[uh HXX,<-uh HXK,if_pos hmk];exact⟨_,rfl,.inl rfl⟩);clear hmk;go_wp2_with (go_at_call 179;refine hMk.mono ?_;clear hMk;rintro e5 w5⟨rfl,hb5⟩)
        go_ret;exact uh HO w5 hb5
       rw[dF hmk]at hMk;have HXK2:=uh HXK;rw[if_neg hmk]at HXK2;have HXM:=ab HXK2;have HNM:=ab hmk;clear hmk HXK HXK2;go_upto_region 17 with(go_at_call 179;refine hMk.mono ?_;clear hMk;rintro e5 w5⟨rfl,hb5⟩)
       have HC5:=ab ((hb5.block _ (gA (uh HC4))).trans (uh HC4));have y0:w5.cell? ⟨wr.heap.size,0,none⟩=some (.string c.path):=cq 0 (uh HC5);have y1:w5.cell? ⟨wr.heap.size,1,none⟩=some (.int .i64 c.kind):=cq 1 (uh HC5);have y2:w5.cell? ⟨wr.heap.size,2,none⟩=some (.int .i64 c.mode):=cq 2 (uh HC5);have y3:w5.cell? ⟨wr.heap.size,3,none⟩=some (.string c.data):=cq 3 (uh HC5);have hbr5:Bw wr w5:=(uh HB4).trans (hb5.mono (uh HB4).size);have hcp:c.path.size<=1048576:=by have hq:=uh HOK;unfold bT at hq;rw[if_neg (uh HNM)]at hq;unfold bK at hq;simp only[bA,bne_iff_ne,ne_eq]at hq;have:=(cR hq.1.2).1;rw[zE];omega
       have HE:Hid (∀W:World,W.heap[wr.heap.size]?=some (.cells #[.string c.path,.int .i64 c.kind,.int .i64 c.mode,.string c.data] 246 (0,0))->W.cell? ⟨wr.heap.size,0,none⟩=some (.string c.path)/\W.cell? ⟨wr.heap.size,1,none⟩=some (.int .i64 c.kind)/\W.cell? ⟨wr.heap.size,2,none⟩=some (.int .i64 c.mode)/\W.cell? ⟨wr.heap.size,3,none⟩=some (.string c.data)):=ab (λW hW=>⟨cq 0 hW,cq 1 hW,cq 2 hW,cq 3 hW⟩);have HLA:Hid (∀(W:World) (q:BA),Bw w5 W->q.data.toList=gj d c.path.data.toList->Cl 175 #[.pointer (some ⟨sb,0,none⟩),.agg #[.string q,.int .i64 c.kind,.int .i64 c.mode,.string c.data]] W λv w'=>bx W w' B sb r ns' work ev 13 v (aS (ac ns') (fd c (gj d c.path.data.toList)))/\Below B W w'/\bm W w'):=ab (λW q hW hq=>by have hbW:=hbr5.trans (hW.mono hbr5.size);have:=FE sb r ns' work ev c db q B 0 m W ((uh HS').below hbW) (by omega) hdl (uh HOK) (uh HNM) (by rw[uh HDB];exact hq) (cL hbW (uh HI).mx);rw[uh HDB]at this;exact this);have HNX:Hid (∀W W':World,Bw w5 W->Below B W W'->bm W W'->Below B w W'/\bm w W'/\jQ W' B (.slice (some ⟨g2,0,none⟩) n2 c2) cs/\W'.cell? ⟨1,0,none⟩=some (.int .i64 m)):=ab (λW W' h1 h2 h3=>by have hbW:=hbr5.trans (h1.mono hbr5.size);exact⟨((uh HI).bl.trans (hbW.mono hBr)).trans h2,((uh HI).kx.trans (ak hbW)).trans h3,((uh HI).row.later hbW).x h3,(h2.cell (p:=⟨1,0,none⟩) (by show 1<B;omega)).trans (cL hbW (uh HI).mx)⟩);obtain⟨Z,hZ⟩:=aq (aS (ac ns') (fd c (gj d c.path.data.toList)));rw[<-hZ]at HLA HXM;clear hZ x0 x1 x2 x3 hbr5 hb5;have hXM:=uh HXM;clear HXM;unfold bx at HLA;cases Z with
       |error kz=>dsimp only at HLA hXM;have HXN:=ab hXM;clear hXM;go_region_held3 (λw'=>w'.cell? ⟨wr.heap.size,0,none⟩=some (.string c.path)/\w'.cell? ⟨wr.heap.size,1,none⟩=some (.int .i64 c.kind)/\w'.cell? ⟨wr.heap.size,2,none⟩=some (.int .i64 c.mode)/\w'.cell? ⟨wr.heap.size,3,none⟩=some (.string c.data)) (first|exact p8|exact p7|exact⟨y0,y1,y2,y3⟩|go_keep) (first|(go_at_call 174;refine(gT db c.path _ (by omega) (by omega)).mono ?_;rintro e6 w6⟨q6,rfl,hq6,rfl⟩)|(go_at_call 176;refine(cV c q6 _).mono ?_;rintro e7 w7⟨rfl,hb7⟩;have hb57:Bw w5 w7:=am hb7;have hc7:=(hb57.block _ (gA (uh HC5))).trans (uh HC5);have p7:=uh HE w7 hc7)|(go_at_call 175;refine(uh HLA w7 q6 hb57 (by rw[hq6,uh HDB])).mono ?_;rintro e8 w8⟨rfl,hb8,hx8⟩;have p8:=uh HE w8 (hx8 _ _ _ _ hc7 (by decide) (by decide))));have hN:=uh HNX w7 w8 hb57 hb8 hx8;have HN:=ab hN;clear HNX HLA p7 p8 y0 y1 y2 y3 hc7 HE hb57 hb8 hx8 hN;have HO:Hid (ll w8 B sb ev (.returned (.iface 27 (.int .i64 (kz:Int)))) (oA (ac ns) (ac nss) work.data.toList a.data.toList b.data.toList)/\Below B w w8/\bm w w8):=ab ⟨by rw[uh HXX,<-uh HXN];exact⟨_,rfl,.inl rfl⟩,(uh HN).1,(uh HN).2.1⟩;go_wp2_with fail;go_ret;exact uh HO
       |ok tz=>
        dsimp only at HLA hXM;have HXN:=ab hXM;clear hXM;go_region_held3 (λw'=>w'.cell? ⟨wr.heap.size,0,none⟩=some (.string c.path)/\w'.cell? ⟨wr.heap.size,1,none⟩=some (.int .i64 c.kind)/\w'.cell? ⟨wr.heap.size,2,none⟩=some (.int .i64 c.mode)/\w'.cell? ⟨wr.heap.size,3,none⟩=some (.string c.data)) (first|exact p8|exact p7|exact⟨y0,y1,y2,y3⟩|go_keep) (first|(go_at_call 174;refine(gT db c.path _ (by omega) (by omega)).mono ?_;rintro e6 w6⟨q6,rfl,hq6,rfl⟩)|(go_at_call 176;refine(cV c q6 _).mono ?_;rintro e7 w7⟨rfl,hb7⟩;have hb57:Bw w5 w7:=am hb7;have hc7:=(hb57.block _ (gA (uh HC5))).trans (uh HC5);have p7:=uh HE w7 hc7)|(go_at_call 175;refine(uh HLA w7 q6 hb57 (by rw[hq6,uh HDB])).mono ?_;rintro e8 w8⟨⟨rfl,ns2,hS8,hE8,_,hl8⟩,hb8,hx8⟩;have p8:=uh HE w8 (hx8 _ _ _ _ hc7 (by decide) (by decide))));have hN:=uh HNX w7 w8 hb57 hb8 hx8;have HN:=ab hN;clear HNX HLA p7 p8 y0 y1 y2 y3 hc7 HE hb57 hb8 hx8 hN;have HNI:Hid (Ez w w8 B sb r work ev d cs (.slice (some ⟨g2,0,none⟩) n2 c2) X m (k+1)):=ab ⟨⟨ns2,hS8,by omega,by rw[hE8];exact uh HXN⟩,(uh HN).2.2.1,(uh HN).2.2.2,(uh HN).1,(uh HN).2.1⟩;clear hS8 hE8 hl8;go_wp2_with fail;go_roundw;case rel=>exact⟨k+1,hlt,by go_num,uh HNI⟩
        case measure=>simp[intOf];omega
      have hkn:k=n2:=by omega
      obtain⟨ns',hS',hl',hX'⟩:=hI.st;have HO:Hid (ll wr B sb ev (.returned .nilIface) (oA (ac ns) (ac nss) work.data.toList a.data.toList b.data.toList)/\Below B w wr/\bm w wr):=ab ⟨by rw[uh HXX,<-hX',hkn,uh HN2,List.drop_length];exact⟨_,rfl,rfl,r,ns',work,hS',rfl,rfl,hws,by omega⟩,hI.bl,hI.kx⟩;clear hI hS' hl' hX' hkn;go_wp2_with fail;go_ret;exact uh HO
   have HXX:=ab (uh HXB i hBad);clear HA2 hBad HX HXB;go_wp2_with fail;go_ret;rw[uh HXX];exact⟨⟨_,rfl,.inr ⟨q,i,rfl,hq0,hq1⟩⟩,hB2.mono hBw,ak hB2⟩
  have g2:(y.ent.kind != 2)=true:=by simpa using hk2
  have HK9:Hid (oA (ac ns) (ac nss) work.data.toList a.data.toList b.data.toList=.error 9):=ab (by unfold oA;rw[uh HG0];simp only;rw[uh HFE];simp only;rw[if_pos hk2]);clear hk2;go_wp2_with fail;go_ret;rw[uh HK9];exact⟨⟨_,rfl,.inl rfl⟩,hB1.mono hBw,ak hB1⟩
def sR(W:World)(B sb:Nat)(s:SN)(c:Nat):Prop:=∃(r:Nd) (ns:List Nd) (work:BA) (ev:Value) (es:eU),ed W B sb r ns work ev/\fZ W B ev es/\FJ es/\wK es/\(∀p∈es,p.1.size<=180)/\ac ns=s.t/\work.data.toList=s.work/\work.size<=1048576/\cC es=s.env/\es.length<=c/\ns.length<=500
def zH(W:World)(B sb c:Nat)(e:Ending):Except Nat SN->Prop
 |.error k=>∃v,e=.returned v/\ux W v k
 |.ok s=>e=.returned .nilIface/\sR W B sb s c
def sP(fs:List LU)(x:Except Nat SN):Except Nat SN:=if fs.any (λu=>decide (180<u.length))=true then .error 10 else match x with
 |.error k=>.error k
 |.ok s'=>if 40<s'.t.length then .error 10 else .ok s'
theorem sR.below{W W':World}{B sb c:Nat}{s:SN}(h:sR W B sb s c)(hb:Bw W W'):sR W' B sb s c:=by obtain⟨r,ns,work,ev,es,h1,h2,h3⟩:=h;exact⟨r,ns,work,ev,es,h1.below hb,h2.below hb,h3⟩
theorem sR.le{W:World}{B sb c c':Nat}{s:SN}(h:sR W B sb s c)(hc:c<=c'):sR W B sb s c':=by obtain⟨r,ns,work,ev,es,h1,h2,h3,h4,h5,h6,h7,h8,h9,h10,h11⟩:=h;exact⟨r,ns,work,ev,es,h1,h2,h3,h4,h5,h6,h7,h8,h9,dz h10 hc,h11⟩
def NV(n:Nat)(W0:World)(us:List BA)(iv:Value)(wr:World):Prop:=wr=W0/\∃k:Nat,k<=n/\iv=.int .i64 (k:Int)/\∀u∈us.take k,u.size<=180
theorem NJ(F f1 sb B n cap n2 cap2 c:Nat)(ao stv src ao2:OA)(us:List BA)(st a b:Int)(x:Except Nat SN)(w:World)(hB:B<=w.heap.size)(hW:jD w ao n cap us)(hn:n<=1500)(HF:Hid ((∀u∈us,u.size<=180)->∀W,Bw w W->Cl F #[.pointer (some ⟨sb,0,none⟩),.agg #[.slice ao n cap,.pointer stv,.pointer src]] W λe w'=>zH w' B sb c e x/\Below B W w'/\eB W w'))(hcf:pU F): Cl 47 #[.agg #[.pointer (some ⟨sb,0,none⟩),.slice ao n cap,.pointer stv,.pointer src,.slice ao2 n2 cap2,.int .i64 st,.int .i64 a,.int .i64 b,aN f1,aN F]] w λe w'=>zH w' B sb c e (sP (us.map λu=>u.data.toList) x)/\Below B w w'/\eB w w':=by
 obtain⟨W0,hW0⟩:=aq (w.alloc (.cells #[.pointer (some ⟨sb,0,none⟩),.slice ao n cap,.pointer stv,.pointer src,.slice ao2 n2 cap2,.int .i64 st,.int .i64 a,.int .i64 b,aN f1,aN F] 88));have hb0:=dw hW0;have hc0:=em hW0;have s0:=cq 0 hc0;have s1:=cq 1 hc0;have s2:=cq 2 hc0;have s3:=cq 3 hc0;have s9:=cq 9 hc0;have HW:=ab (hW.below hb0);have HC:=ab hc0;have hes:=cB;have hen:=eQ;have hea:=sx
 have HBB:=ab (And.intro (hb0.mono hB) (dc hb0));have HAL:Hid (∀u∈us,180<u.size->sP (us.map λu=>u.data.toList) x=.error 10):=ab (λu hu h=>by unfold sP;rw[if_pos];rw[List.any_eq_true];exact⟨u.data.toList,List.mem_map.2 ⟨u,hu,rfl⟩,by rw[<-im];exact EV h⟩);have HNO:Hid ((∀u∈us,u.size<=180)->sP (us.map λu=>u.data.toList) x=match x with|.error k=>.error k|.ok s'=>if 40<s'.t.length then .error 10 else .ok s'):=ab (λh=>by unfold sP;rw[if_neg];rw[List.any_eq_true];rintro⟨v,hv,hd⟩;obtain⟨u,hu,rfl⟩:=List.mem_map.1 hv;have h1:=h u hu;rw[im]at h1;have:=of_decide_eq_true hd;omega);obtain⟨Y,hY⟩:=aq (sP (us.map λu=>u.data.toList) x);rw[<-hY]at HAL HNO⊢;clear hW hc0 hY;unfold pU at hcf;go_enter func47,ntmps47;go_upto_region 1 with fail;rw[<-hW0];clear hW0;go_upto_region 2 with fail;go_loopw [10] (λiv wr=>NV n W0 us iv wr) (λiv _=>n-(intOf iv).toNat);case atStart=>exact⟨rfl,0,Nat.zero_le _,rfl,by simp⟩
 case round=>
  obtain⟨rfl,k,hk,rfl,hall⟩:=hrel;by_cases hlt:k<n
  .obtain⟨u,hu⟩:∃u,us[k]?=some u:=⟨_,pS (by rw[<-(uh HW).len];exact hlt)⟩
   obtain⟨g,hg,cg,_,_⟩:=(uh HW).at hu;subst hg;by_cases h1:u.size<=180
   .have HR:Hid (∀u∈us.take (k+1),u.size<=180):=ab (λv hv=>by
     rw[List.take_add_one,hu]at hv;rcases JJ.1 hv with hv|hv
     .exact hall v hv
     simp at hv;subst hv;exact h1)
    clear hu hall;go_wp2_with fail;go_roundw;case rel=>exact⟨rfl,k+1,hlt,by go_num,uh HR⟩
    case measure=>simp[intOf];omega
   have h2:180<u.size:=by omega
   have hY:=uh HAL u (oG hu) h2;clear h1 hu hall HAL HNO;go_wp2_with fail;go_ret;rw[hY];exact⟨⟨_,rfl,.inl rfl⟩,uh HBB⟩
  have hkn:k=n:=by omega
  subst hkn;have hal:∀u∈us,u.size<=180:=by rw[List.take_of_length_le (by have:=(uh HW).len;omega)]at hall;exact hall
  have HY:=ab (uh HNO hal);have hf:=uh HF hal _ hb0;clear HAL HNO hall hal HF;go_upto_region 8 with(refine hf.mono ?_;clear hf;rintro e1 w1⟨hv,hb1,hk1⟩;first|(obtain⟨v,rfl⟩:∃v,e1=.returned v:=(by cases x with|error k=>exact⟨_,hv.choose_spec.1⟩|ok s=>exact⟨_,hv.1⟩)))
  have hBw:=(hb0.mono hB).trans hb1;have hKw:=(dc hb0).trans hk1;cases x with
  |error k'=>
   obtain⟨v',hv',hv⟩:=hv;cases hv';have HV:=ab hv;rcases hv with rfl|⟨q,nn,rfl,hq⟩
   .go_wp2_with fail
    go_ret;rw[uh HY];exact⟨⟨_,rfl,uh HV⟩,hBw,hKw⟩
   go_wp2_with fail
   go_ret;rw[uh HY];exact⟨⟨_,rfl,uh HV⟩,hBw,hKw⟩
  |ok s=>
   obtain⟨hv',hS⟩:=hv;cases hv';have HST:=ab hS;obtain⟨r,ns,work,ev,es,hS,_,_,_,_,ht,_,_,_,_,hnl⟩:=hS;have hcb:=qP sb r ns work ev B w1 hS (by omega);have z0:=cq 0 (hk1 _ _ _ _ (uh HC) (by decide) (by decide) (by decide));have HV:Hid (∀w2,Bw w1 w2->Below B w w2/\eB w w2):=ab (λw2 hb2=>⟨hBw.trans (hb2.mono (dz hB hBw.size)),hKw.trans (dc hb2)⟩);have htl:s.t.length=ns.length:=by rw[<-ht];simp[ac]
   by_cases h40:40<ns.length
   .rw[if_pos h40]at hcb;have HY2:Hid (Y=.error 10):=ab (by rw[uh HY];simp only;rw[if_pos (by omega)]);clear hS ht hnl hBw hKw hb1 hk1 h40 htl HY;go_wp2_with (go_at_call 77;refine hcb.mono ?_;clear hcb;rintro e2 w2⟨rfl,hb2⟩)
    go_ret;rw[uh HY2];exact⟨⟨_,rfl,.inl rfl⟩,uh HV w2 hb2⟩
   rw[if_neg h40]at hcb;have HY2:Hid (Y=.ok s):=ab (by rw[uh HY];simp only;rw[if_neg (by omega)]);clear hS ht hnl hBw hKw hb1 hk1 h40 htl HY;go_wp2_with (go_at_call 77;refine hcb.mono ?_;clear hcb;rintro e2 w2⟨rfl,hb2⟩)
   go_ret;rw[uh HY2];exact⟨⟨rfl,(uh HST).below hb2⟩,uh HV w2 hb2⟩
def GT(W:World)(B sb c pl:Nat)(e:Ending):Except Nat SN->Prop
 |.error k=>∃q:Nat,e=.returned (.iface 64 (.pointer (some ⟨q,0,none⟩)))/\W.heap[q]?=some (.cells #[.int .i64 (k:Int),.int .i64 (pl:Int)] 68 (0,0))
 |.ok s=>e=.returned .nilIface/\sR W B sb s c
theorem NE(m:cA)(y:aw)(sb B Bm n cap c:Nat)(ao stv src:OA)(us:List BA)(x:Except Nat SN)(w0 w:World)(hB:B<=w.heap.size)(hW:jD w ao n cap us)(hn:n<=1500)(hm:m.Ok w0 Bm)(hy:m.ws[0]?=some y)(hw0:Bw w0 w)(hB0:w0.heap.size<=B)(hg:w0.cell? ⟨0,0,none⟩=some (.iface 157 (.agg #[.pointer (some ⟨22,45,none⟩)])))(HF:Hid ((∀u∈us,u.size<=180)->∀W,Bw w W->Cl (af m.rule).2.2.2 #[.pointer (some ⟨sb,0,none⟩),.agg #[.slice ao n cap,.pointer stv,.pointer src]] W λe w'=>zH w' B sb c e x/\Below B W w'/\eB W w'))(hcf:pU (af m.rule).2.2.2): Cl 27 #[.agg #[.pointer (some ⟨sb,0,none⟩),.slice ao n cap,.pointer stv,.pointer src,m.wv,.int .i64 m.stage,.int .i64 (af m.rule).1,.int .i64 (af m.rule).2.1,aN (af m.rule).2.2.1,aN (af m.rule).2.2.2]] w λe w'=>GT w' B sb c y.place e (sP (us.map λu=>u.data.toList) x)/\Below B w w'/\eB w w':=by
 obtain⟨g2,cap2,hwv,_,_⟩:=ic hm.ws.row (by have:=(sI hy);omega);obtain⟨wvv,hwvv⟩:∃u,u=m.wv:=⟨_,rfl⟩
 obtain⟨n2,hn2⟩:∃k,k=m.ws.length:=⟨_,rfl⟩
 rw[<-hn2]at hwv;have HP:Hid (∀v k W,Below B w W->ux W v k->Cl 48 #[v,.agg #[m.wv,.int .i64 m.stage,.int .i64 (af m.rule).1,.int .i64 (af m.rule).2.1,aN (af m.rule).2.2.1,aN (af m.rule).2.2.2]] W λev w'=>(∃q:Nat,ev=.returned (.iface 64 (.pointer (some ⟨q,0,none⟩)))/\w'.heap[q]?=some (.cells #[.int .i64 (k:Int),.int .i64 (y.place:Int)] 68 (0,0)))/\Bw W w'):= ab (λv k W hb he=>by have hbb:=hw0.trans (hb.mono hB0);exact AD v k m y Bm W (aM hbb hg) (hm.below hbb) hy he);obtain⟨st,hst⟩:∃k,k=m.stage:=⟨_,rfl⟩
 obtain⟨a,ha⟩:∃k,k=(af m.rule).1:=⟨_,rfl⟩
 obtain⟨b,hb⟩:∃k,k=(af m.rule).2.1:=⟨_,rfl⟩
 obtain⟨f1,hf1⟩:∃k,k=(af m.rule).2.2.1:=⟨_,rfl⟩
 obtain⟨F,hF⟩:∃k,k=(af m.rule).2.2.2:=⟨_,rfl⟩
 rw[<-hst,<-ha,<-hb,<-hf1,<-hF,hwv]at HP⊢;rw[<-hF]at HF hcf;clear hwvv hn2 hst ha hb hf1 hF hm hy hwv;obtain⟨W0,hW0⟩:=aq (w.alloc (.cells #[.pointer (some ⟨sb,0,none⟩),.slice ao n cap,.pointer stv,.pointer src,.slice (some ⟨g2,0,none⟩) n2 cap2,.int .i64 st,.int .i64 a,.int .i64 b,aN f1,aN F] 88));have hb0:=dw hW0;have hc0:=em hW0;have hT:=NJ F f1 sb B n cap n2 cap2 c ao stv src (some ⟨g2,0,none⟩) us st a b x W0 (dz hB hb0.size) (hW.below hb0) hn (ab (λhl W hW'=>uh HF hl W (hb0.trans (hW'.mono hb0.size)))) hcf;obtain⟨X,hX⟩:=aq (sP (us.map λu=>u.data.toList) x);rw[<-hX]at hT⊢;have s0:=cq 0 hc0;have s1:=cq 1 hc0;have s2:=cq 2 hc0;have s3:=cq 3 hc0;have s4:=cq 4 hc0;have s5:=cq 5 hc0;have s6:=cq 6 hc0;have s7:=cq 7 hc0;have s8:=cq 8 hc0;have s9:=cq 9 hc0;have HC:=ab hc0;have hes:=cB;have hen:=eQ;have hea:=sx
 clear hW hc0 HF hcf hg hw0 hB0 hX;go_enter func27,ntmps27;go_upto_region 1 with fail;rw[<-hW0];clear hW0;go_upto_region 2 with(go_at_call 47;refine hT.mono ?_;clear hT;rintro e1 w1⟨hv,hb1,hk1⟩;obtain⟨v,rfl⟩:∃v,e1=.returned v:=(by cases X with|error k=>exact⟨_,hv.choose_spec.1⟩|ok s=>exact⟨_,hv.1⟩))
 have hBw:=(hb0.mono hB).trans hb1;have hKw:=(dc hb0).trans hk1;cases X with
 |error k'=>
  obtain⟨v',hv',hv⟩:=hv;cases hv';have hh:=hk1 _ _ _ _ (uh HC) (by decide) (by decide) (by decide);have z4:=cq 4 hh;have z5:=cq 5 hh;have z6:=cq 6 hh;have z7:=cq 7 hh;have z8:=cq 8 hh;have z9:=cq 9 hh;have hp:=uh HP v k' w1 hBw hv;have HV:Hid (∀w2,Bw w1 w2->Below B w w2/\eB w w2):=ab (λw2 hb2=>⟨hBw.trans (hb2.mono (dz hB hBw.size)),hKw.trans (dc hb2)⟩);clear HP hBw hKw hb1 hk1 hh s0 s1 s2 s3 s4 s5 s6 s7 s8 s9;rcases hv with rfl|⟨q,nn,rfl,hq⟩
  all_goals
   go_wp2_with (go_at_call 48;refine hp.mono ?_;clear hp;rintro e2 w2⟨⟨q2,rfl,hq2⟩,hb2⟩)
   go_ret;exact⟨⟨q2,rfl,hq2⟩,uh HV w2 hb2⟩
 |ok s=>obtain⟨hv',hS⟩:=hv;cases hv';have HS:=ab hS;clear hS HP;go_wp2_with fail;go_ret;exact⟨⟨rfl,uh HS⟩,hBw,hKw⟩
end Go.Proofs.YtjhobnjdfhkohaaGreatDoor.T
