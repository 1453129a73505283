import Derived.Test.YtjhobnjdfhkohaaGreatDoorXAE
set_option linter.all false
set_option maxHeartbeats 2000000
set_option maxRecDepth 100000
namespace Go.Proofs.YtjhobnjdfhkohaaGreatDoor.T
open Go.Proofs.Tryz
open Go.RowKit Go.Maps Go.Sort Go.Shelf
attribute [local go_sem] Oper.semAt_some
theorem jS{W:World}{n0 Bb:Nat}{v:Value}{k:Nat}{xs:List Value}(hb:Boxed W Bb 30 v)(hr:W.ownsRow n0 39 4 v k xs):∀g,il W Bb g->v.ownBlock=some g/\n0<=g/\∃cur,W.heap[g]?=some (.cells cur 39 (0,0)):=λg hg=>by
 obtain⟨o,s,n,c,e⟩:=hg;rw[hb.cell]at e;cases e;rcases hr.2 with⟨hv,_⟩|⟨g',cap,cur,hv,h1,h2,_⟩
 .cases hv
 cases hv;exact⟨rfl,h1,cur,h2⟩
theorem mz{W:World}{n0:Nat}{v:Value}{k g:Nat}{xs:List Value}{Bb:Nat}(hb:Boxed W Bb 30 v)(hr:W.ownsRow n0 39 4 v k xs)(hg:v.ownBlock=some g):il W Bb g:=by
 rcases hr.2 with⟨hv,_⟩|⟨g',cap,cur,hv,h1,h2,_⟩
 .rw[hv]at hg;cases hg
 rw[hv]at hg;cases hg;exact⟨_,_,_,_,by rw[hb.cell,hv]⟩
def DT(w:World)(r:Nd)(pre:List Nd)(W:World):Prop:=(∃v,Boxed W (w.heap.size+1) 30 v/\jM W w.heap.size v (ac (pre.drop 1)))/\W.heap[w.heap.size]?=some (.cells #[.pointer (some ⟨r.nb,0,none⟩)] 70 (0,0))/\Bw w W
theorem xr{w W:World}{r:Nd}{pre:List Nd}(h:DT w r pre W):∀k,il W (w.heap.size+1) k->w.heap.size<=k:=λk hk=>by obtain⟨⟨v,hv,hr⟩,_⟩:=h;exact(jS hv hr k hk).2.1
theorem Hi(w:World)(r:Nd)(B0:Nat)(hB:w.heap.size<B0):vC (w.heap.size+1) B0 (λpre W=>DT w r pre W):=by
 refine⟨λs W W' hs hk=>?_,λs W hs g hg=>?_⟩
 .obtain⟨⟨v,hv,hr⟩,h0,hb⟩:=hs;have hz:=hb.size;have h0l:=(gA h0)
  refine⟨⟨v,(hk.block _ hv.lt (.inr (.inl rfl))).trans hv,hr.1,?_⟩,(hk.block _ h0l (.inl hB)).trans h0,⟨hk.os.trans hb.os,hk.tape.trans hb.tape,hk.output.trans hb.output,nT hz hk.size,λk h=>(hk.block k (by omega) (.inl (by omega))).trans (hb.block k h)⟩⟩;rcases hr.2 with h|⟨g,cap,cur,hv',h1,h2,h3⟩
  .exact .inl h
  exact .inr ⟨g,cap,cur,hv',h1,(hk.block g (gA h2) (.inr (.inr (mz hv hr (by rw[hv'];rfl))))).trans h2,h3⟩
 obtain⟨⟨v,hv,hr⟩,_⟩:=hs;obtain⟨_,_,cur,hc⟩:=jS hv hr g hg;exact⟨_,hc,rfl⟩
theorem oD(ks:List aj)(e:aj):kn (ks++[e])=kn ks++ec e:=by simp[kn]
theorem zw(e:aj):∀u∈ec e,u.oneCell'=true:=λu hu=>by simp only[ec,mC,List.not_mem_nil,or_false]at hu;rcases hu with rfl|rfl|rfl|rfl<;>rfl
theorem LV(w:World)(e:aj):∀j u,(ec e)[j]?=some u->(w.alloc (.cells #[.string e.path,.int .i64 e.kind,.int .i64 e.mode,.string e.data] 39)).cell? ((⟨w.heap.size,0,none⟩:Addr).add j)=some u:=λj u hu=>by
 have h4:j<4:=by
  have:=(gL hu)
  simpa[ec]using this
 have hc:(w.alloc (.cells #[.string e.path,.int .i64 e.kind,.int .i64 e.mode,.string e.data] 39)).heap[w.heap.size]?=some (.cells #[.string e.path,.int .i64 e.kind,.int .i64 e.mode,.string e.data] 39 (0,0)):=hN _ _;rcases(by omega:j=0\/j=1\/j=2\/j=3)with rfl|rfl|rfl|rfl
 .simp[ec]at hu;subst hu;exact cq 0 hc
 .simp[ec]at hu;subst hu;exact cq 1 hc
 .simp[ec]at hu;subst hu;exact cq 2 hc
 simp[ec]at hu;subst hu;exact cq 3 hc
theorem qI{w W w1:World}{r y x:Nd}{pre:List Nd}{v:Value}(hv:Boxed W (w.heap.size+1) 30 v)(hr:jM W w.heap.size v (ac ((x::pre).drop 1)))(h0:W.heap[w.heap.size]?=some (.cells #[.pointer (some ⟨r.nb,0,none⟩)] 70 (0,0)))(hb:Bw w W)(hb1:Bw W w1)(hl:pre.length<=600): ∃g cap w2,(Builtin.append_ #[30,30] 30 #[v,.slice (some ⟨w1.heap.size,0,none⟩) 1 1]).run prog (w1.alloc (.cells #[.string y.ent.path,.int .i64 y.ent.kind,.int .i64 y.ent.mode,.string y.ent.data] 39))=.ok (.slice (some ⟨g,0,none⟩) (pre.length+1) cap) w2/\w2.cell? ⟨w.heap.size+1,0,none⟩=some v/\w2.frozen? ⟨w.heap.size+1,0,none⟩=false/\Hid (DT w r (x::pre++[y]) (w2.setCell ⟨w.heap.size+1,0,none⟩ (.slice (some ⟨g,0,none⟩) (pre.length+1) cap))/\KeepsOthers W (w2.setCell ⟨w.heap.size+1,0,none⟩ (.slice (some ⟨g,0,none⟩) (pre.length+1) cap))/\Kc (w.heap.size+1) W (w2.setCell ⟨w.heap.size+1,0,none⟩ (.slice (some ⟨g,0,none⟩) (pre.length+1) cap))):=by
 obtain⟨i0,hi,hz0,hz1,hz2⟩:=info_parts Tryz.info39;have hz:=hb.size;have hz1':=hb1.size;have hvl:=hv.lt;have hks:(ac ((x::pre).drop 1)).length=pre.length:=by simp[ac]
 have hv1:Boxed w1 (w.heap.size+1) 30 v:=(hb1.block _ hvl).trans hv;have hr1:w1.ownsRow w.heap.size 39 4 v pre.length (kn (ac ((x::pre).drop 1))):=by have h:=World.ownsRow.kept (row:=none) hr ⟨hb1.os,hb1.tape,hb1.output,hb1.size,λk hk _=>hb1.block k hk⟩ (by cases v.ownBlock<;>simp);rw[hks]at h;exact h
 obtain⟨v',w2,hrun,hown',hgrow,_,hat⟩:=run_append_own_at (P:=prog) (w:=w1.alloc (.cells #[.string y.ent.path,.int .i64 y.ent.kind,.int .i64 y.ent.mode,.string y.ent.data] 39)) w.heap.size 30 30 39 i0 _ 4 48 underlying30 hi hz0 hz1 hz2 rfl (by decide) v _ _ (hr1.alloc _) ⟨w1.heap.size,0,none⟩ 1 1 (ec y.ent) rfl (LV w1 y.ent) (zw _) (by unfold maxLen;omega) (by omega) (by simp;omega);obtain⟨g,cap,rfl⟩:=ownsRow_succ hown';obtain⟨a1,a2,a3,a4,a5⟩:=hv1.appended (by decide) hr1 (by omega) (by omega) hown' hgrow;have hs1:w1.heap.size<=w2.heap.size:=nT (by simp) hgrow.size;have hs2:=(KeepsWalks.setCell w2 ⟨w.heap.size+1,0,none⟩ (.slice (some ⟨g,0,none⟩) (pre.length+1) cap)).size;have hB1:Bw w w1:=hb.trans (hb1.mono hz);have hkc:Kc (w.heap.size+1) w1 (w2.setCell ⟨w.heap.size+1,0,none⟩ (.slice (some ⟨g,0,none⟩) (pre.length+1) cap)):=by
  refine⟨by omega,λk o hk _ hne hnr=>?_,λq hq=>?_⟩
  .have hlt:=(gA hk)
   rw[Below.heap_setCell _ _ _ k hne];refine(hgrow.block k (by simp;omega) (λe=>hnr (mz hv1 hr1 e.symm))).trans ?_;exact(Below.heap_alloc _ _ _ hlt).trans hk
  obtain⟨e1,_,cur,hc⟩:=jS a2 a3 q hq;rcases hat with h|h
  .exact .inl (mz hv1 hr1 (h.symm.trans e1))
  have e2:q=w1.heap.size+1:=by rw[e1]at h;simpa using h
  exact .inr ⟨by omega,(gA hc)⟩
 have h0w:w.heap.size<W.heap.size:=(gA h0)
 have h01:w1.heap[w.heap.size]?=some (.cells #[.pointer (some ⟨r.nb,0,none⟩)] 70 (0,0)):=(hb1.block _ h0w).trans h0;have hnr:¬il w1 (w.heap.size+1) w.heap.size:=λh=>by obtain⟨_,_,cur,hc⟩:=jS hv1 hr1 _ h;rw[h01]at hc;cases hc
 refine⟨g,cap,w2,hrun,a1.cell,a1.frozen,ab ⟨⟨⟨_,a2,?_⟩,hkc.keep _ _ h01 (.inl rfl) (by omega) hnr,hB1.trans (a5.mono (nR _))⟩,(kO hb1).trans a4,(Kc.below hb1 hvl).trans hkc⟩⟩;unfold jM;have e:ac ((x::pre++[y]).drop 1)=ac ((x::pre).drop 1)++[y.ent]:=by simp[ac]
 rw[e,oD,lA,hks];exact a3
theorem Gr{W:World}{D B:Nat}{v:Value}{ks:List aj}{x:Option (List Deferred)}(o:Obj)(h:jM W B v ks)(hD:W.heap[D]?=some (.deferred x)):jM (W.putObj D o) B v ks:=by
 refine⟨h.1,?_⟩;rcases h.2 with h0|⟨g,cap,cur,hv,h1,h2,h3⟩
 .exact .inl h0
 refine .inr ⟨g,cap,cur,hv,h1,(World.putObj_heap_other (λe=>?_)).trans h2,h3⟩;rw[e,hD]at h2;cases h2
theorem Fe{B:Nat}{r:Nd}{ns:List Nd}{es:List aj}(w:World)(hM:cw w B r ns)(HE:Hid (ac ns=es))(HT:Hid (jo es)): Cl 51 #[.pointer (some ⟨r.nb,0,none⟩)] w λev w'=>∃ao cap n,ev=.returned (.slice ao n cap)/\Hid (n=es.length)/\fB w' ao es/\Bw w w':=by
 have HA:=ab hM;have hf73:Fence.wide.fn 78:=trivial;have hln:ns.length<=600:=by have:=(uh HT).len;rw[<-uh HE]at this;simpa[ac]using this
 have hmx:prog.follows .mixedOrders=true:=by kernel_rfl
 clear hM;refine(callsIn_wide (n:=6)).1 ?_;refine callsIn_of_wp_marks func51 rfl trivial ?_ rfl;simp only[ntmps51,sZ,lC,lN,Nat.reduceAdd,Nat.reduceSub,Array.replicate_succ,Array.replicate_zero,List.push_toArray,List.append_toArray,List.nil_append,List.cons_append];gi_wp2_with (gi_at_call 78;refine(callsIn_wide.2 (ur _ _)).mono ?_;rintro e w4⟨rfl,rfl⟩)
 obtain⟨W2,hW2⟩:=aq (((w.alloc (.cells #[.pointer (some ⟨r.nb,0,none⟩)] 70)).alloc (.cells #[.slice none 0 0] 30)).alloc (.cells #[.pointer (some ⟨r.nb,0,none⟩)] 70));have s2:W2.heap.size=w.heap.size+3:=by rw[hW2];simp
 have hb2:Bw w W2:=by rw[hW2];exact((eD).alloc (by simp) _).alloc (by simp;omega) _
 have j0:W2.heap[w.heap.size]?=some (.cells #[.pointer (some ⟨r.nb,0,none⟩)] 70 (0,0)):=by rw[hW2];exact(Below.heap_alloc _ _ _ (by simp;omega)).trans ((Below.heap_alloc _ _ _ (by simp)).trans (hN _ _))
 have j1:W2.heap[w.heap.size+1]?=some (.cells #[.slice none 0 0] 30 (0,0)):=by rw[hW2];refine(Below.heap_alloc _ _ _ (by simp)).trans ?_;have:=hN (w.alloc (.cells #[.pointer (some ⟨r.nb,0,none⟩)] 70)) (.cells #[.slice none 0 0] 30);rw[World.size_alloc]at this;exact this
 have x2:W2.heap[w.heap.size+1+1]?=some (.cells #[.pointer (some ⟨r.nb,0,none⟩)] 70 (0,0)):=by have:=hN ((w.alloc (.cells #[.pointer (some ⟨r.nb,0,none⟩)] 70)).alloc (.cells #[.slice none 0 0] 30)) (.cells #[.pointer (some ⟨r.nb,0,none⟩)] 70);rw[World.size_alloc,World.size_alloc]at this;rw[hW2];exact this
 rw[<-hW2];have hJ0:DT w r [] W2:=⟨⟨_,j1,World.ownsRow_nil _ _ _ _⟩,j0,hb2⟩
 have hMA:AE (w.heap.size+1) W2 B r ns:=⟨(uh HA).below hb2,λx hx=>by have h1:x.nb<w.heap.size:=(eA.1 ((uh HA).all x hx).2.2.1).1;have h2:x.mb<w.heap.size:=World.ownsMap.lt ((uh HA).all x hx).2.2.2;exact⟨⟨by omega,by omega,λhk=>by have:=xr hJ0 _ hk;omega⟩,⟨by omega,by omega,λhk=>by have:=xr hJ0 _ hk;omega⟩⟩⟩
 clear hW2 j0 j1;refine oH (Bb:=w.heap.size+1) (α:=Nd) (xs:=r::ns) rfl (by omega) (gf:=106) (lb:=#[.pointer (some ⟨w.heap.size+1+1,0,none⟩)]) rfl trivial (enters_of func106 (by kernel_rfl) rfl) (Bd es B (w.heap.size+1) (w.heap.size+1+1) 5 r ns W2 HE HT hMA x2 (by omega)) (by omega) (bR _ _) (λ_=>rfl) (λpre W=>DT w r pre W) (Hi w r W2.heap.size (by omega)) hJ0 (λt y=>(t.setIfInBounds 7 (.pointer (some ⟨y.nb,0,none⟩))).setIfInBounds 4 (.pointer (some ⟨y.nb,0,none⟩))) ?assign ?body ?done;case assign=>intro l y W K hK;gi_wp2;simpa using hK
 case body=>
  rintro l pre y W hJ hp;obtain⟨⟨v,hv,hr⟩,h0,hb⟩:=hJ;have cb:=hv.cell;have cf:=hv.frozen;have cr:=cq 0 h0;have hf81:(Fence.wide.inRound l).fn 79:=trivial;cases pre with
  |nil=>
   have hy:y=r:=by obtain⟨t,e⟩:=hp;simpa using(List.cons.inj e).1
   subst hy;have HJ:Hid (DT w y ([]++[y]) W):=ab ⟨⟨v,hv,hr⟩,h0,hb⟩;have hneq:=qH W ⟨y.nb,0,none⟩;clear hv hr h0 hb;gi_wp2;exact⟨KeepsOthers.refl _,Kc.refl _ _,uh HJ⟩
  |cons x pre=>
   have hy:y∈ns:=by obtain⟨t,e⟩:=hp;have e2:=(List.cons.inj e).2;rw[<-e2];simp
   have hnb:=y6 (uh HA) hy;have hlp:pre.length<=600:=by have:=hp.length_le;simp at this;omega
   have hMW:=(uh HA).below hb;have hneq:=pn W hnb (hMW.all y (by simp[hy])).2.2.1 (hMW.all r (by simp)).2.2.1;have hys:=(uh HT).small y.ent (by rw[<-uh HE];exact List.mem_map.2 ⟨y,hy,rfl⟩);have HCp:=ab (Fk y W.drew (hMW.all y (by simp[hy])).2.2.1 hys.1 hys.2);have HV:=ab hv;have HR:=ab hr;have H0:=ab h0;have HB:=ab hb;clear hMW hv hr h0 hb hys;gi_wp2;refine wpIn_region_any hmx ?_;change wpAnyIn _ _ _ _ _ _ _ _ _ (World.drew _);refine wpAnyIn_ready (rs:=[0,1]) (by kernel_rfl) (by simp) ?_;refine AllReadyIn.cons rfl (λK hK=>?_) ?_
   .go_simp;refine hK _ _ ?_;clear hK K;refine wpAnyIn_ready (rs:=[1]) (by kernel_rfl) (by simp) ?_;refine AllReadyIn.cons rfl (λK hK=>?_) ?_
    .go_simp;refine hK _ _ ?_;clear hK K;refine wpAnyIn_ready (rs:=[2]) (by kernel_rfl) (by simp) ?_;refine AllReadyIn.cons rfl (λK hK=>?_) ?_
     .go_simp;refine⟨trivial,?_⟩;gi_at_call 79;refine(CallsIn.inRound l (callsIn_wide.2 (uh HCp))).mono ?_;rintro e w1⟨rfl,hb1⟩;have hb1':Bw W w1:=⟨hb1.os,hb1.tape,hb1.output,hb1.size,hb1.block⟩
      obtain⟨g',cap',w2,hrun,cs1,cs2,HQ⟩:=qI (y:=y) (uh HV) (uh HR) (uh H0) (uh HB) hb1' hlp;have cw1:=cL hb1' cb;have cw2:(w1.alloc (.cells #[.string y.ent.path,.int .i64 y.ent.kind,.int .i64 y.ent.mode,.string y.ent.data] 39)).cell? ⟨w.heap.size+1,0,none⟩=some v:=by rw[World.cell?_alloc_lt _ _ _ (World.block_lt_of_cell? _ _ cw1)];exact cw1
      clear hb1 hb1';refine hK _ _ ?_;clear hK K;refine wpAnyIn_ready (rs:=[3]) (by kernel_rfl) (by simp) ?_;refine AllReadyIn.cons rfl (λK hK=>?_) ?_
      .go_simp;refine hK _ _ ?_;clear hK K;refine wpAnyIn_ready (rs:=[4]) (by kernel_rfl) (by simp) ?_;refine AllReadyIn.cons rfl (λK hK=>?_) ?_
       .rw[if_pos (by rfl)];refine Cb _ _ 30 rfl rfl rfl hrun ?_;refine hK _ _ ?_;clear hK K;refine wpAnyIn_ready (rs:=[5]) (by kernel_rfl) (by simp) ?_;refine AllReadyIn.cons rfl (λK hK=>?_) ?_
        .go_simp;refine hK _ _ ?_;clear hK K;refine wpAnyIn_done (by kernel_rfl) ?_ _;exact⟨(uh HQ).2.1,(uh HQ).2.2,by simpa using(uh HQ).1⟩
        exact AllReadyIn.nil
       exact AllReadyIn.nil
      exact AllReadyIn.nil
     exact AllReadyIn.nil
    exact AllReadyIn.nil
   refine AllReadyIn.cons rfl (λK hK=>?_) ?_
   .go_simp;refine hK _ _ ?_;clear hK K;refine wpAnyIn_ready (rs:=[0,2]) (by kernel_rfl) (by simp) ?_;refine AllReadyIn.cons rfl (λK hK=>?_) ?_
    .go_simp;refine hK _ _ ?_;clear hK K;refine wpAnyIn_ready (rs:=[2]) (by kernel_rfl) (by simp) ?_;refine AllReadyIn.cons rfl (λK hK=>?_) ?_
     .go_simp;refine⟨trivial,?_⟩;gi_at_call 79;refine(CallsIn.inRound l (callsIn_wide.2 (uh HCp))).mono ?_;rintro e w1⟨rfl,hb1⟩;have hb1':Bw W w1:=⟨hb1.os,hb1.tape,hb1.output,hb1.size,hb1.block⟩
      obtain⟨g',cap',w2,hrun,cs1,cs2,HQ⟩:=qI (y:=y) (uh HV) (uh HR) (uh H0) (uh HB) hb1' hlp;have cw1:=cL hb1' cb;have cw2:(w1.alloc (.cells #[.string y.ent.path,.int .i64 y.ent.kind,.int .i64 y.ent.mode,.string y.ent.data] 39)).cell? ⟨w.heap.size+1,0,none⟩=some v:=by rw[World.cell?_alloc_lt _ _ _ (World.block_lt_of_cell? _ _ cw1)];exact cw1
      clear hb1 hb1';refine hK _ _ ?_;clear hK K;refine wpAnyIn_ready (rs:=[3]) (by kernel_rfl) (by simp) ?_;refine AllReadyIn.cons rfl (λK hK=>?_) ?_
      .go_simp;refine hK _ _ ?_;clear hK K;refine wpAnyIn_ready (rs:=[4]) (by kernel_rfl) (by simp) ?_;refine AllReadyIn.cons rfl (λK hK=>?_) ?_
       .rw[if_pos (by rfl)];refine Cb _ _ 30 rfl rfl rfl hrun ?_;refine hK _ _ ?_;clear hK K;refine wpAnyIn_ready (rs:=[5]) (by kernel_rfl) (by simp) ?_;refine AllReadyIn.cons rfl (λK hK=>?_) ?_
        .go_simp;refine hK _ _ ?_;clear hK K;refine wpAnyIn_done (by kernel_rfl) ?_ _;exact⟨(uh HQ).2.1,(uh HQ).2.2,by simpa using(uh HQ).1⟩
        exact AllReadyIn.nil
       exact AllReadyIn.nil
      exact AllReadyIn.nil
     exact AllReadyIn.nil
    refine AllReadyIn.cons rfl (λK hK=>?_) ?_
    .go_simp;refine⟨trivial,?_⟩;gi_at_call 79;refine(CallsIn.inRound l (callsIn_wide.2 (uh HCp))).mono ?_;rintro e w1⟨rfl,hb1⟩;have hb1':Bw W w1:=⟨hb1.os,hb1.tape,hb1.output,hb1.size,hb1.block⟩
     obtain⟨g',cap',w2,hrun,cs1,cs2,HQ⟩:=qI (y:=y) (uh HV) (uh HR) (uh H0) (uh HB) hb1' hlp;have cw1:=cL hb1' cb;have cw2:(w1.alloc (.cells #[.string y.ent.path,.int .i64 y.ent.kind,.int .i64 y.ent.mode,.string y.ent.data] 39)).cell? ⟨w.heap.size+1,0,none⟩=some v:=by rw[World.cell?_alloc_lt _ _ _ (World.block_lt_of_cell? _ _ cw1)];exact cw1
     clear hb1 hb1';refine hK _ _ ?_;clear hK K;refine wpAnyIn_ready (rs:=[0,3]) (by kernel_rfl) (by simp) ?_;refine AllReadyIn.cons rfl (λK hK=>?_) ?_
     .go_simp;refine hK _ _ ?_;clear hK K;refine wpAnyIn_ready (rs:=[3]) (by kernel_rfl) (by simp) ?_;refine AllReadyIn.cons rfl (λK hK=>?_) ?_
      .go_simp;refine hK _ _ ?_;clear hK K;refine wpAnyIn_ready (rs:=[4]) (by kernel_rfl) (by simp) ?_;refine AllReadyIn.cons rfl (λK hK=>?_) ?_
       .rw[if_pos (by rfl)];refine Cb _ _ 30 rfl rfl rfl hrun ?_;refine hK _ _ ?_;clear hK K;refine wpAnyIn_ready (rs:=[5]) (by kernel_rfl) (by simp) ?_;refine AllReadyIn.cons rfl (λK hK=>?_) ?_
        .go_simp;refine hK _ _ ?_;clear hK K;refine wpAnyIn_done (by kernel_rfl) ?_ _;exact⟨(uh HQ).2.1,(uh HQ).2.2,by simpa using(uh HQ).1⟩
        exact AllReadyIn.nil
       exact AllReadyIn.nil
      exact AllReadyIn.nil
     refine AllReadyIn.cons rfl (λK hK=>?_) ?_
     .go_simp;refine hK _ _ ?_;clear hK K;refine wpAnyIn_ready (rs:=[0]) (by kernel_rfl) (by simp) ?_;refine AllReadyIn.cons rfl (λK hK=>?_) ?_
      .go_simp;refine hK _ _ ?_;clear hK K;refine wpAnyIn_ready (rs:=[4]) (by kernel_rfl) (by simp) ?_;refine AllReadyIn.cons rfl (λK hK=>?_) ?_
       .rw[if_pos (by rfl)];refine Cb _ _ 30 rfl rfl rfl hrun ?_;refine hK _ _ ?_;clear hK K;refine wpAnyIn_ready (rs:=[5]) (by kernel_rfl) (by simp) ?_;refine AllReadyIn.cons rfl (λK hK=>?_) ?_
        .go_simp;refine hK _ _ ?_;clear hK K;refine wpAnyIn_done (by kernel_rfl) ?_ _;exact⟨(uh HQ).2.1,(uh HQ).2.2,by simpa using(uh HQ).1⟩
        exact AllReadyIn.nil
       exact AllReadyIn.nil
      exact AllReadyIn.nil
     exact AllReadyIn.nil
    exact AllReadyIn.nil
   exact AllReadyIn.nil
 case done=>
  rintro D W hD hJ hK;obtain⟨⟨v,hv,hr⟩,h0,hb⟩:=hJ;have cb:=hv.cell;have hr':jM W w.heap.size v es:=by rw[<-uh HE];exact hr
  obtain⟨ao,cap,n,rfl,HN,hrow,_⟩:=rQ (Gr (.deferred none) hr' hK);have HB:=ab hb;have HRow:=ab hrow;clear hv hr h0 hb hr' hrow;gi_wp2;refine⟨by simp,.inl ⟨_,_,rfl,run_takeDeferred hK,?_⟩⟩;refine⟨_,results_tmp rfl _ _ _,?_⟩;refine⟨ao,cap,n,by simp,HN,?_,?_⟩
  .exact uh HRow
  exact(uh HB).trans (belowK_b (w:=w) (nR _) _ D _ _ (by omega) hK rfl rfl)
end Go.Proofs.YtjhobnjdfhkohaaGreatDoor.T
