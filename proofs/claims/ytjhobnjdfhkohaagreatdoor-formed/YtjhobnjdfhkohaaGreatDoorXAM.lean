import Derived.Test.YtjhobnjdfhkohaaGreatDoorXAL
set_option linter.all false
set_option maxHeartbeats 4000000
set_option maxRecDepth 100000
namespace Go.Proofs.YtjhobnjdfhkohaaGreatDoor.T
open Go.Proofs.Tryz
open Go.RowKit Go.Maps Go.Sort Go.Shelf
attribute [local go_sem] Oper.semAt_some
theorem CD(w:World)(a:Addr):(binOp .eql 70 (.pointer (some a)) (.pointer (some a))).run prog w=.ok (.bool true) w:=by
 obtain⟨j,hj,hz⟩:=uS;have h:∀d:Nat,(Op.equalIn (d+1) 70 (.pointer (some a)) (.pointer (some a))).run prog w=.ok true w:=λd=>by simp[Op.equalIn,run_underlying Bt,sizeOf,typeInfo,hj,run_sameAddr_same]
 simp only[binOp];simp[Op.equal,Op.maxDepth,h 9999]
theorem zM(w:World){a b:Nat}{ca cb:Array Value}{ta tb:TypeId}(hne:a≠b)(ha:w.heap[a]?=some (.cells ca ta (0,0)))(hb:w.heap[b]?=some (.cells cb tb (0,0))):(binOp .eql 70 (.pointer (some ⟨a,0,none⟩)) (.pointer (some ⟨b,0,none⟩))).run prog w=.ok (.bool false) w:=by
 obtain⟨j,hj,hz⟩:=uS;have hs:=run_sameAddr_other (P:=prog) (w:=w) (a:=⟨a,0,none⟩) (b:=⟨b,0,none⟩) (λe=>hne (by cases e;rfl)) ha hb;have h:∀d:Nat,(Op.equalIn (d+1) 70 (.pointer (some ⟨a,0,none⟩)) (.pointer (some ⟨b,0,none⟩))).run prog w=.ok false w:=λd=>by simp[Op.equalIn,run_underlying Bt,sizeOf,typeInfo,hj,hz,hs]
 simp only[binOp];simp[Op.equal,Op.maxDepth,h 9999]
structure KL(W:World)(B sb Bs N:Nat)(r rs y:Nd)(ns nss:List Nd)(work:BA)(ev:Value)(d:BA)(t1:List aj)(pre:List Nd)(V:World):Prop where
 st:∃ns',ed V B sb r ns' work ev/\eh W V B r ns ns'/\ns'.length<=ns.length+12+pre.length/\zZ d.data.toList y.p t1 ((pre.drop 1).map (·.ent))=.ok (ac ns')
 src:cw V Bs rs nss
 b0:V.heap[N]?=some (.cells #[.pointer (some ⟨sb,0,none⟩)] 73 (0,0))
 b1:V.heap[N+1]?=some (.cells #[.pointer (some ⟨y.nb,0,none⟩)] 70 (0,0))
 b2:V.heap[N+1+1]?=some (.cells #[.string d] 9 (0,0))
 b3:V.heap[N+1+1+1]?=some (.cells #[.nilIface] 45 (0,0))
theorem KL.kp{W V V':World}{B sb Bs N B0:Nat}{r rs y:Nd}{ns nss:List Nd}{work:BA}{ev:Value}{d:BA}{t1:List aj}{pre:List Nd}(h:KL W B sb Bs N r rs y ns nss work ev d t1 pre V)(hk:Kp B0 V V')(h0:W.heap.size<=B0)(hB:B<=W.heap.size)(hN:N+3<B0):KL W B sb Bs N r rs y ns nss work ev d t1 pre V':=by obtain⟨ns',a1,a2,a3,a4⟩:=h.st;exact⟨⟨ns',a1.kp hk,a2.kp hk h0 hB,a3,a4⟩,h.src.kp hk,hk.block _ _ h.b0 (.inl (by omega)),hk.block _ _ h.b1 (.inl (by omega)),hk.block _ _ h.b2 (.inl (by omega)),hk.block _ _ h.b3 (.inl (by omega))⟩
def Mr(W:World)(B z:Nat)(x:Except Nat (List aj))(V:World):Prop:=∃k:Nat,x=.error k/\V.heap[z]?=some (.cells #[.iface 27 (.int .i64 (k:Int))] 45 (0,0))/\Below B W V/\bm W V
theorem Mr.kp{W V V':World}{B z B0:Nat}{x:Except Nat (List aj)}(h:Mr W B z x V)(hk:Kp B0 V V')(h0:W.heap.size<=B0)(hB:B<=W.heap.size)(hz:z<B0):Mr W B z x V':=by
 obtain⟨k,h1,h2,h3,h4⟩:=h;refine⟨k,h1,hk.block _ _ h2 (.inl hz),⟨hk.os.trans h3.os,hk.tape.trans h3.tape,hk.output.trans h3.output,dz h3.size hk.size,λj hj=>?_⟩,λg cs t f hg e1 e2=>hk.block _ _ (h4 g cs t f hg e1 e2) (.inl (Nat.lt_of_lt_of_le (bY hg) h0))⟩;have:=h3.size;obtain⟨o,ho⟩:∃o,V.heap[j]?=some o:=⟨_,Array.getElem?_eq_getElem (by omega)⟩
 rw[hk.block _ _ ho (.inl (by omega)),<-ho];exact h3.block j hj
theorem A0{d p:LU}{k:Nat}:∀{l m:List aj}{t:List aj},zZ d p t l=.error k->zZ d p t (l++m)=.error k
 |[],_,_,h=>by cases h
 |e::l,m,t,h=>by
  simp only[List.cons_append,zZ]at h⊢;cases hq:eT t (fd e (gj d (iL p e.path.data.toList)))with
  |error k2=>rw[hq]at h;exact h
  |ok t2=>rw[hq]at h;exact A0 h
theorem sK(es:List aj)(sb B Bs:Nat)(r rs y:Nd)(ns nss:List Nd)(work d:BA)(ev:Value)(m:Int)(W:World)(hy:y∈rs::nss)(hd:d.size<=170)(hS:ed W B sb r ns work ev)(hM:cw W Bs rs nss)(HE:Hid (ac nss=es))(HT:Hid (jo es))(hlen:nss.length<=80)(hn:ns.length<=400)(hA:∀k,eS rs nss k->k<B)(hm:W.cell? ⟨1,0,none⟩=some (.int .i64 m))(t1:List aj)(HM1:Hid (cK (ac ns) d.data.toList=.ok t1)): Cl 172 #[.pointer (some ⟨sb,0,none⟩),.pointer (some ⟨y.nb,0,none⟩),.string d] W λe w'=>bx W w' B sb r ns work ev 100 e (zZ d.data.toList y.p t1 (ac (aJ nss y.p)))/\Below B W w'/\bm W w':=by
 have hBW:=hS.base;have h14:=hS.lim;have hSx:aO (ac nss):=wO (by rw[uh HE];exact(uh HT).ok);have hdn:(aJ nss y.p).length<=80:=dz (List.length_filter_le _ _) hlen;have hmx:prog.follows .mixedOrders=true:=by kernel_rfl
 obtain⟨W4,hW4⟩:=aq ((((W.alloc (.cells #[.pointer (some ⟨sb,0,none⟩)] 73)).alloc (.cells #[.pointer (some ⟨y.nb,0,none⟩)] 70)).alloc (.cells #[.string d] 9)).alloc (.cells #[.nilIface] 45));obtain⟨N,hN⟩:=aq W.heap.size;have s4:W4.heap.size=N+4:=by rw[hW4,hN];simp
 have b4:Bw W W4:=by rw[hW4];exact(((eD).alloc (by simp) _).alloc (by simp;omega) _).alloc (by simp;omega) _
 have e0:W4.heap[N]?=some (.cells #[.pointer (some ⟨sb,0,none⟩)] 73 (0,0)):=by rw[hW4,hN];exact(Below.heap_alloc _ _ _ (by simp;omega)).trans ((Below.heap_alloc _ _ _ (by simp;omega)).trans ((Below.heap_alloc _ _ _ (by simp)).trans (ft _ _)))
 have e1:W4.heap[N+1]?=some (.cells #[.pointer (some ⟨y.nb,0,none⟩)] 70 (0,0)):=by rw[hW4,hN];refine(Below.heap_alloc _ _ _ (by simp)).trans ((Below.heap_alloc _ _ _ (by simp)).trans ?_);have:=ft (W.alloc (.cells #[.pointer (some ⟨sb,0,none⟩)] 73)) (.cells #[.pointer (some ⟨y.nb,0,none⟩)] 70);rw[World.size_alloc]at this;exact this
 have e2:W4.heap[N+1+1]?=some (.cells #[.string d] 9 (0,0)):=by rw[hW4,hN];refine(Below.heap_alloc _ _ _ (by simp)).trans ?_;have:=ft ((W.alloc (.cells #[.pointer (some ⟨sb,0,none⟩)] 73)).alloc (.cells #[.pointer (some ⟨y.nb,0,none⟩)] 70)) (.cells #[.string d] 9);rw[World.size_alloc,World.size_alloc]at this;exact this
 have e3:W4.heap[N+1+1+1]?=some (.cells #[.nilIface] 45 (0,0)):=by rw[hW4,hN];have:=ft (((W.alloc (.cells #[.pointer (some ⟨sb,0,none⟩)] 73)).alloc (.cells #[.pointer (some ⟨y.nb,0,none⟩)] 70)).alloc (.cells #[.string d] 9)) (.cells #[.nilIface] 45);rw[World.size_alloc,World.size_alloc,World.size_alloc]at this;exact this
 subst hN;have hMk:=dO sb r ns work d ev B m W4 (hS.below b4) (by omega) (by omega) (aM b4 hm);rw[uh HM1]at hMk;have g0:=cq 0 e0;have g2:=cq 0 e2;have hst4:=hS.below b4;have hsrc4:=hM.below b4;have HH:=ab (And.intro hst4 (And.intro hsrc4 (And.intro b4 (And.intro e0 (And.intro e1 (And.intro e2 e3))))));have HMX:=ab hm;clear hst4 hsrc4 b4 e0 e1 e2 e3 hm;have hf58:Fence.wide.fn 78:=trivial;have hes:=cB;have hf262:Fence.wide.fn 178:=trivial;refine(callsIn_wide (n:=6)).1 ?_;refine callsIn_of_wp_marks func172 rfl trivial ?_ rfl;simp only[ntmps172,pL,mr,nD,Nat.reduceAdd,Nat.reduceSub,Array.replicate_succ,Array.replicate_zero,List.push_toArray,List.append_toArray,List.nil_append,List.cons_append];gi_wp2_with (first|(gi_at_call 178;rw[<-hW4];refine(callsIn_wide.2 hMk).mono ?_;clear hMk;rintro e w5⟨⟨rfl,ns1,hst1,he1,hs1,hl1⟩,hb5,hk5⟩;have g1:w5.cell? ⟨W.heap.size+1,0,none⟩=some (.pointer (some ⟨y.nb,0,none⟩)):=cq 0 (hk5 _ _ _ _ (uh HH).2.2.2.2.1 (by decide) (by decide)))|(gi_at_call 78;refine(callsIn_wide.2 (ur _ _)).mono ?_;rintro e w6⟨rfl,rfl⟩))
 obtain⟨hst4,hsrc4,b4,e0,e1,e2,e3⟩:=uh HH;obtain⟨W6,hW6⟩:=aq (w5.alloc (.cells #[.pointer (some ⟨y.nb,0,none⟩)] 70));have b6:=dw hW6;have s6:W6.heap.size=w5.heap.size+1:=by rw[hW6];simp
 have x6:=em hW6;rw[<-hW6];have kx5:=zn (rs:=rs) (nss:=nss) hst4.mem hs1 hA;have z5:=hs1.below.size;have hI0:KL W B sb Bs W.heap.size r rs y ns nss work ev d t1 [] w5:= ⟨⟨ns1,hst1,(eh.of_below b4 hBW).trans hs1,by simpa using hl1,by rw[<-he1];rfl⟩,hsrc4.kx kx5,hk5 _ _ _ _ e0 (by decide) (by decide),hk5 _ _ _ _ e1 (by decide) (by decide),hk5 _ _ _ _ e2 (by decide) (by decide),hk5 _ _ _ _ e3 (by decide) (by decide)⟩
 have hI6:KL W B sb Bs W.heap.size r rs y ns nss work ev d t1 [] W6:=hI0.kp (Kp.below (B0:=W6.heap.size) b6) (by omega) hBW (by omega);have hSk:∀k,eS rs nss k->k<W6.heap.size:=λk hk=>by have:=hA k hk;omega
 clear hst4 hsrc4 e0 e1 e2 e3 hI0 hst1 he1 hs1 hl1 hb5 hk5 g1 HH hW6 kx5 g0 g2 hW4;refine vl (S:=eS rs nss) (α:=Nd) (xs:=y::aJ nss y.p) rfl (by omega) (gf:=106) (lb:=#[.pointer (some ⟨w5.heap.size,0,none⟩)]) rfl trivial (enters_of func106 (by kernel_rfl) rfl) (MW es Bs w5.heap.size 5 rs y nss W6 HE HT hy hI6.src x6) (ju _ _) (λ_=>rfl) (λk=>k=W.heap.size+1+1+1) (λk hk=>by omega) (λpre V=>KL W B sb Bs W.heap.size r rs y ns nss work ev d t1 pre V) (Mr W B (W.heap.size+1+1+1) (zZ d.data.toList y.p t1 (ac (aJ nss y.p)))) (λs V V' hs hk=>hs.kp hk (by omega) hBW (by omega)) (λV V' hs hk=>hs.kp hk (by omega) hBW (by omega)) hI6 (λt x=>(t.setIfInBounds 18 (.pointer (some ⟨x.nb,0,none⟩))).setIfInBounds 8 (.pointer (some ⟨x.nb,0,none⟩))) ?assign ?body ?done ?stop;case assign=>intro l x V K hK;gi_wp2;simpa using hK
 case body=>
  rintro l pre x V hI hp;have cb:=cq 0 hI.b1;cases pre with
  |nil=>
   have hxy:x=y:=by obtain⟨u,e⟩:=hp;simpa using(List.cons.inj e).1
   subst hxy;have HI:Hid (KL W B sb Bs W.heap.size r rs x ns nss work ev d t1 ([]++[x]) V):=ab (by obtain⟨ns',a1,a2,a3,a4⟩:=hI.st;exact⟨⟨ns',a1,a2,by simp at a3⊢;omega,by simpa using a4⟩,hI.src,hI.b0,hI.b1,hI.b2,hI.b3⟩);have heq:=CD V ⟨x.nb,0,none⟩;clear hI;gi_wp2;exact⟨Kx.refl _ _,uh HI⟩
  |cons z pre=>
   have hxd:x∈aJ nss y.p:=by obtain⟨u,e⟩:=hp;have e2:=(List.cons.inj e).2;rw[<-e2];simp
   obtain⟨hxn,hun⟩:=cZ.1 hxd;have hxm:x∈rs::nss:=List.mem_cons_of_mem _ hxn;have hne:x.p≠y.p:=λe=>bS y.p (by rw[e]at hun;exact hun);have hnb:=KJ hI.src hxm hy hne;have heq:=zM V hnb (hI.src.all x hxm).2.2.1 (hI.src.all y hy).2.2.1;have hent:=hSx.ent x.ent (List.mem_map.2 ⟨x,hxn,rfl⟩);obtain⟨hp0,hisP,hgood⟩:=aP hent;obtain⟨hr1,hr2,hr3⟩:=Mn (p:=y.p) (q:=x.p) hisP hun;have hq170:x.p.length<=170:=(cR (p:=x.p) hisP).1;obtain⟨rel,hrel⟩:=aq (bs (iL y.p x.p));obtain⟨np,hnp⟩:=aq (bs (gj d.data.toList (iL y.p x.p)));have hrs:rel.size<=170:=by rw[hrel];show (iL y.p x.p).toArray.size<=170;simpa using dz hr3 hq170
   have hCb:∀w',Bw V w'->Cl 200 #[.string x.ent.path,.string y.ent.path] w' λe w''=>e=.returned (.string rel)/\Bw V w'':=λw' hw'=>by refine(zL x.ent.path y.ent.path w').mono ?_;rintro e w''⟨rfl,rfl⟩;exact⟨by rw[hrel,<-hr1,Nd.p,Nd.p],hw'⟩
   have hCj:∀w',Bw V w'->Cl 174 #[.string d,.string rel] w' λe w''=>e=.returned (.string np)/\Bw V w'':=λw' hw'=>by
    refine(gT d rel w' (by omega) (by omega)).mono ?_;rintro e w''⟨s,rfl,hs,rfl⟩;refine⟨?_,hw'⟩;have:s=np:=by rw[hnp,<-dh (iL y.p x.p),<-hrel,<-hs];simp[bs]
    rw[this]
   have hCm:∀w',Bw V w'->Cl 176 #[.agg #[.string x.ent.path,.int .i64 x.ent.kind,.int .i64 x.ent.mode,.string x.ent.data],.string np] w' λe w''=>e=.returned (.agg #[.string np,.int .i64 x.ent.kind,.int .i64 x.ent.mode,.string x.ent.data])/\Bw V w'':=λw' hw'=>by refine(cV x.ent np w').mono ?_;rintro e w''⟨rfl,hb⟩;exact⟨rfl,hw'.trans (hb.mono hw'.size)⟩
   have HF:∀w',Bw V w'->w'.cell? ⟨W.heap.size,0,none⟩=some (.pointer (some ⟨sb,0,none⟩))/\w'.cell? ⟨W.heap.size+1,0,none⟩=some (.pointer (some ⟨y.nb,0,none⟩))/\w'.cell? ⟨W.heap.size+1+1,0,none⟩=some (.string d)/\w'.cell? ⟨x.nb,0,none⟩=some (.string x.ent.path)/\w'.cell? ⟨x.nb,1,none⟩=some (.int .i64 x.ent.kind)/\w'.cell? ⟨x.nb,2,none⟩=some (.int .i64 x.ent.mode)/\w'.cell? ⟨x.nb,3,none⟩=some (.string x.ent.data)/\w'.cell? ⟨y.nb,0,none⟩=some (.string y.ent.path):=λw' hw'=>by have nx:=(hI.src.all x hxm).2.2.1;have ny:=(hI.src.all y hy).2.2.1;exact⟨aM hw' (cq 0 hI.b0),aM hw' (cq 0 hI.b1),aM hw' (cq 0 hI.b2),aM hw' (cq 0 nx),aM hw' (cq 1 nx),aM hw' (cq 2 nx),aM hw' (cq 3 nx),aM hw' (cq 0 ny)⟩
   have HI:=ab hI;have hns:np.size<=400:=by
    rw[hnp];show (gj d.data.toList (iL y.p x.p)).toArray.size<=400;rw[pL,gj];have h7:d.data.toList.length<=170:=by rw[<-im];exact hd
    split
    .omega
    simp;omega
   have HNP:=ab hnp;have HR2:=ab hr2;have HGD:=ab hgood;clear hI hrel hnp hr1 hr2 hgood hp0 hisP hent;gi_wp2;refine oN (C:=λw'=>Bw V w') 19 hmx (by kernel_rfl) (by simp) (cU V) ?_;refine wpQuietIn_step (λ_ _ _ _=>trivial) (λK hK=>?_);rw[if_pos (by rfl)];refine⟨.pointer (some ⟨sb,0,none⟩),λw' hw'=>?_,?_⟩
   .obtain⟨c0,c1,c2,x0,x1,x2,x3,y0⟩:=HF w' hw';unfold Oper.quietAtIn;go_simp
   go_simp;refine hK _ ?_;clear hK K;refine wpQuietIn_step (λ_ _ _ _=>trivial) (λK hK=>?_);rw[if_pos (by rfl)];refine⟨.pointer (some ⟨x.nb,0,none⟩),λw' hw'=>?_,?_⟩
   .obtain⟨c0,c1,c2,x0,x1,x2,x3,y0⟩:=HF w' hw';unfold Oper.quietAtIn;go_simp
   go_simp;refine hK _ ?_;clear hK K;refine wpQuietIn_step (λ_ _ _ _=>trivial) (λK hK=>?_);rw[if_pos (by rfl)];refine⟨.pointer (some ⟨x.nb,0,none⟩),λw' hw'=>?_,?_⟩
   .obtain⟨c0,c1,c2,x0,x1,x2,x3,y0⟩:=HF w' hw';unfold Oper.quietAtIn;go_simp
   go_simp;refine hK _ ?_;clear hK K;refine wpQuietIn_step (λ_ _ _ _=>trivial) (λK hK=>?_);rw[if_pos (by rfl)];refine⟨.pointer (some ⟨x.nb,0,none⟩),λw' hw'=>?_,?_⟩
   .obtain⟨c0,c1,c2,x0,x1,x2,x3,y0⟩:=HF w' hw';unfold Oper.quietAtIn;go_simp
   go_simp;refine hK _ ?_;clear hK K;refine wpQuietIn_step (λ_ _ _ _=>trivial) (λK hK=>?_);rw[if_pos (by rfl)];refine⟨.agg #[.string x.ent.path,.int .i64 x.ent.kind,.int .i64 x.ent.mode,.string x.ent.data],λw' hw'=>?_,?_⟩
   .obtain⟨c0,c1,c2,x0,x1,x2,x3,y0⟩:=HF w' hw';unfold Oper.quietAtIn;go_simp
   go_simp;refine hK _ ?_;clear hK K;refine wpQuietIn_step (λ_ _ _ _=>trivial) (λK hK=>?_);rw[if_pos (by rfl)];refine⟨.string d,λw' hw'=>?_,?_⟩
   .obtain⟨c0,c1,c2,x0,x1,x2,x3,y0⟩:=HF w' hw';unfold Oper.quietAtIn;go_simp
   go_simp;refine hK _ ?_;clear hK K;refine wpQuietIn_step (λ_ _ _ _=>trivial) (λK hK=>?_);rw[if_pos (by rfl)];refine⟨.pointer (some ⟨x.nb,0,none⟩),λw' hw'=>?_,?_⟩
   .obtain⟨c0,c1,c2,x0,x1,x2,x3,y0⟩:=HF w' hw';unfold Oper.quietAtIn;go_simp
   go_simp;refine hK _ ?_;clear hK K;refine wpQuietIn_step (λ_ _ _ _=>trivial) (λK hK=>?_);rw[if_pos (by rfl)];refine⟨.pointer (some ⟨x.nb,0,none⟩),λw' hw'=>?_,?_⟩
   .obtain⟨c0,c1,c2,x0,x1,x2,x3,y0⟩:=HF w' hw';unfold Oper.quietAtIn;go_simp
   go_simp;refine hK _ ?_;clear hK K;refine wpQuietIn_step (λ_ _ _ _=>trivial) (λK hK=>?_);rw[if_pos (by rfl)];refine⟨.pointer (some ⟨x.nb,0,none⟩),λw' hw'=>?_,?_⟩
   .obtain⟨c0,c1,c2,x0,x1,x2,x3,y0⟩:=HF w' hw';unfold Oper.quietAtIn;go_simp
   go_simp;refine hK _ ?_;clear hK K;refine wpQuietIn_step (λ_ _ _ _=>trivial) (λK hK=>?_);rw[if_pos (by rfl)];refine⟨.pointer (some ⟨x.nb,0,none⟩),λw' hw'=>?_,?_⟩
   .obtain⟨c0,c1,c2,x0,x1,x2,x3,y0⟩:=HF w' hw';unfold Oper.quietAtIn;go_simp
   go_simp;refine hK _ ?_;clear hK K;refine wpQuietIn_step (λ_ _ _ _=>trivial) (λK hK=>?_);rw[if_pos (by rfl)];refine⟨.string x.ent.path,λw' hw'=>?_,?_⟩
   .obtain⟨c0,c1,c2,x0,x1,x2,x3,y0⟩:=HF w' hw';unfold Oper.quietAtIn;go_simp
   go_simp;refine hK _ ?_;clear hK K;refine wpQuietIn_step (λ_ _ _ _=>trivial) (λK hK=>?_);rw[if_pos (by rfl)];refine⟨.pointer (some ⟨y.nb,0,none⟩),λw' hw'=>?_,?_⟩
   .obtain⟨c0,c1,c2,x0,x1,x2,x3,y0⟩:=HF w' hw';unfold Oper.quietAtIn;go_simp
   go_simp;refine hK _ ?_;clear hK K;refine wpQuietIn_step (λ_ _ _ _=>trivial) (λK hK=>?_);rw[if_pos (by rfl)];refine⟨.pointer (some ⟨y.nb,0,none⟩),λw' hw'=>?_,?_⟩
   .obtain⟨c0,c1,c2,x0,x1,x2,x3,y0⟩:=HF w' hw';unfold Oper.quietAtIn;go_simp
   go_simp;refine hK _ ?_;clear hK K;refine wpQuietIn_step (λ_ _ _ _=>trivial) (λK hK=>?_);rw[if_pos (by rfl)];refine⟨.pointer (some ⟨y.nb,0,none⟩),λw' hw'=>?_,?_⟩
   .obtain⟨c0,c1,c2,x0,x1,x2,x3,y0⟩:=HF w' hw';unfold Oper.quietAtIn;go_simp
   go_simp;refine hK _ ?_;clear hK K;refine wpQuietIn_step (λ_ _ _ _=>trivial) (λK hK=>?_);rw[if_pos (by rfl)];refine⟨.pointer (some ⟨y.nb,0,none⟩),λw' hw'=>?_,?_⟩
   .obtain⟨c0,c1,c2,x0,x1,x2,x3,y0⟩:=HF w' hw';unfold Oper.quietAtIn;go_simp
   go_simp;refine hK _ ?_;clear hK K;refine wpQuietIn_step (λ_ _ _ _=>trivial) (λK hK=>?_);rw[if_pos (by rfl)];refine⟨.string y.ent.path,λw' hw'=>?_,?_⟩
   .obtain⟨c0,c1,c2,x0,x1,x2,x3,y0⟩:=HF w' hw';unfold Oper.quietAtIn;go_simp
   go_simp;refine hK _ ?_;clear hK K;refine wpQuietIn_step (λ_ _ _ _=>trivial) (λK hK=>?_);rw[if_pos (by rfl)];refine⟨.string rel,λw' hw'=>?_,?_⟩
   .unfold Oper.quietAtIn;go_simp;exact CallsIn.inRound l (callsIn_wide.2 (hCb w' hw'))
   go_simp;refine hK _ ?_;clear hK K;refine wpQuietIn_step (λ_ _ _ _=>trivial) (λK hK=>?_);rw[if_pos (by rfl)];refine⟨.string np,λw' hw'=>?_,?_⟩
   .unfold Oper.quietAtIn;go_simp;exact CallsIn.inRound l (callsIn_wide.2 (hCj w' hw'))
   go_simp;refine hK _ ?_;clear hK K;refine wpQuietIn_step (λ_ _ _ _=>trivial) (λK hK=>?_);rw[if_pos (by rfl)];refine⟨.agg #[.string np,.int .i64 x.ent.kind,.int .i64 x.ent.mode,.string x.ent.data],λw' hw'=>?_,?_⟩
   .unfold Oper.quietAtIn;go_simp;exact CallsIn.inRound l (callsIn_wide.2 (hCm w' hw'))
   go_simp;refine hK _ ?_;clear hK K;refine wpQuietIn_nil ?_;intro w7 hw7;have hI:=uh HI;obtain⟨ns2,a1,a2,a3,a4⟩:=hI.st;have hm7:=aM hw7 ((b8 (W:=W) (a:=⟨1,0,none⟩) (a2.below.block 1 (by omega))).trans (uh HMX));have hPX:ac (aJ nss y.p)=(ac pre++[x.ent])++ac ((aJ nss y.p).drop (pre.length+1)):=by
    obtain⟨u,e⟩:=hp;have e2:pre++[x]++u=aJ nss y.p:=by simpa using(List.cons.inj e).2
    rw[<-e2,show (pre++[x]++u).drop (pre.length+1)=u by rw[List.drop_append_of_le_length (by simp)];simp];simp[ac]
   have hplen:pre.length<=80:=by have:=hp.length_le;simp at this;omega
   have hq0:zZ d.data.toList y.p t1 (ac pre++[x.ent])=eT (ac ns2) (fd x.ent (gj d.data.toList (iL y.p x.p))):=by rw[yp,show zZ d.data.toList y.p t1 (ac pre)=.ok (ac ns2) from a4];rfl
   have hLay:=wq sb r ns2 work ev (fd x.ent (gj d.data.toList (iL y.p x.p))) B m w7 (a1.below hw7) (by simp at a3;omega) (by
    show (bs (gj d.data.toList (iL y.p x.p))).size<=1048576;rw[<-uh HNP];exact dz hns (by decide)) (ab (by have:=uh HGD;exact this)) (ab (by
    show (bs (gj d.data.toList (iL y.p x.p))).data.toList≠[];rw[dh,gj];split
    .exact uh HR2
    simp)) hm7
   have hLy2:Cl 183 #[.pointer (some ⟨sb,0,none⟩),.agg #[.string np,.int .i64 x.ent.kind,.int .i64 x.ent.mode,.string x.ent.data]] w7 λv w'=>bx w7 w' B sb r ns2 work ev 1 v (eT (ac ns2) (fd x.ent (gj d.data.toList (iL y.p x.p))))/\Below B w7 w'/\lT r ns2 w7 w':=by rw[uh HNP];exact hLay
   have HA1:=ab a1;have HA2:=ab a2;have HA4:=ab a4;have HQ:=ab hq0;have HPX:=ab hPX;have hB7:B<=w7.heap.size:=dz a1.base hw7.size;clear hI a1 a2 a4 hq0 hPX hCb hCj hCm HF hLay;cases hq:eT (ac ns2) (fd x.ent (gj d.data.toList (iL y.p x.p)))with
   |ok t2=>
    rw[hq]at hLy2 HQ;unfold bx at hLy2;dsimp only at hLy2;clear hq;simp only[List.drop];gi_wp2_with (refine⟨trivial,?_⟩;gi_at_call 183;refine(CallsIn.inRound l (callsIn_wide.2 hLy2)).mono ?_;clear hLy2;rintro e w8⟨⟨rfl,ns3,hst3,he3,hs3,hl3⟩,hb8,hk8⟩)
    have hI:=uh HI;have kx:Kx (eS rs nss) V w8:=(Kx.below hw7).trans (zn ((uh HA1).below hw7).mem hs3 hA);refine⟨kx,⟨ns3,hst3,((uh HA2).trans (eh.of_below hw7 (uh HA1).base)).trans hs3,by simp at a3⊢;omega,?_⟩,hI.src.kx kx,kx.keep _ _ hI.b0 (.inl rfl),kx.keep _ _ hI.b1 (.inl rfl),kx.keep _ _ hI.b2 (.inl rfl),kx.keep _ _ hI.b3 (.inl rfl)⟩;rw[he3,show ((z::pre++[x]).drop 1).map (·.ent)=ac pre++[x.ent] by simp[ac]];exact uh HQ
   |error kk=>
    rw[hq]at hLy2 HQ;unfold bx at hLy2;dsimp only at hLy2;clear hq;have HC:=ab hLy2;clear hLy2;have hC2:Cl 183 #[.pointer (some ⟨sb,0,none⟩),.agg #[.string np,.int .i64 x.ent.kind,.int .i64 x.ent.mode,.string x.ent.data]] w7 λv w'=>v=.returned (.iface 27 (.int .i64 (kk:Int)))/\w'.cell? ⟨W.heap.size+1+1+1,0,none⟩=some .nilIface/\w'.frozen? ⟨W.heap.size+1+1+1,0,none⟩=false/\Hid (w'.heap[W.heap.size+1+1+1]?=some (.cells #[.nilIface] 45 (0,0))/\Kx (eS rs nss) V w'/\Below B W w'/\bm W w'):=by refine(uh HC).mono ?_;rintro e w8⟨rfl,hb8,hf8⟩;have hI:=uh HI;have kx:Kx (eS rs nss) V w8:=(Kx.below hw7).trans (zn (ns':=ns2) ((uh HA1).below hw7).mem ⟨hb8,hf8,dn _ _⟩ hA);have h3:=kx.keep _ _ hI.b3 (.inl rfl);have st:=((uh HA2).trans (eh.of_below hw7 (uh HA1).base)).trans ⟨hb8,hf8,dn _ _⟩;exact⟨rfl,cq 0 h3,by simp[World.frozen?,h3],ab ⟨h3,kx,st.below,fJ hS.mem st.foot⟩⟩
    clear HC HI;simp only[List.drop];gi_wp2_with (refine⟨trivial,?_⟩;gi_at_call 183;refine(CallsIn.inRound l (callsIn_wide.2 hC2)).mono ?_;clear hC2;rintro e w8⟨rfl,c8,f8,H8⟩)
    obtain⟨h3,kx,hb8,kk8⟩:=uh H8;refine⟨⟨by simpa using kx.size,λk o h1 h2 h4=>(heap_setCell_other _ _ _ _ h2).trans (kx.keep k o h1 h4)⟩,kk,?_,?_,?_,?_⟩
    .rw[uh HPX];exact A0 (uh HQ)
    .have:=oX w8 _ 0 _ _ (.iface 27 (.int .i64 (kk:Int))) h3;exact this
    .exact hb8.setCell (by show B<=W.heap.size+1+1+1;omega) _
    intro g cs t f hg e1 e2;have:g<W.heap.size:=(bY hg)
    exact(heap_setCell_other _ _ _ _ (by show g≠W.heap.size+1+1+1;omega)).trans (kk8 g cs t f hg e1 e2)
 case stop=>
  rintro D V hD⟨kk,hkk,h3,hb,hx⟩ hK;have c1:=cq 0 h3;have c3:(V.putObj D (.deferred none)).cell? ⟨W.heap.size+1+1+1,0,none⟩=some (.iface 27 (.int .i64 (kk:Int))):=by rw[ik _ (by show W.heap.size+1+1+1≠D;omega)];exact c1
  have h2:Mr W B (W.heap.size+1+1+1) (zZ d.data.toList y.p t1 (ac (aJ nss y.p))) (V.putObj D (.deferred none)):=Mr.kp ⟨kk,hkk,h3,hb,hx⟩ (Kp.put (B0:=W6.heap.size) _ (by omega) hK rfl) (by omega) hBW (by omega);gi_wp2;refine⟨by simp,.inl ⟨_,_,rfl,run_takeDeferred hK,?_⟩⟩;refine⟨.iface 27 (.int .i64 (kk:Int)),?_,?_,?_,?_⟩
  .simp[results,results172,go_sem,c3]
  .rw[hkk];exact rfl
  .obtain⟨_,_,_,h,_⟩:=h2;exact h
  obtain⟨_,_,_,_,h⟩:=h2;exact h
 case done=>
  rintro D V hD hI hK;have c1:=cq 0 hI.b3;have c2:V.frozen? ⟨W.heap.size+1+1+1,0,none⟩=false:=by simp[World.frozen?,hI.b3]
  have HI:=ab hI;clear hI;gi_wp2;have hI:=uh HI;have hK2:(V.setCell ⟨W.heap.size+1+1+1,0,none⟩ .nilIface).heap[D]?=some (.deferred (some [])):=(KeepsOthers.setCell V ⟨W.heap.size+1+1+1,0,none⟩ .nilIface).same D _ hK rfl;have c3:((V.setCell ⟨W.heap.size+1+1+1,0,none⟩ .nilIface).putObj D (.deferred none)).cell? ⟨W.heap.size+1+1+1,0,none⟩=some .nilIface:=by rw[ik _ (by show W.heap.size+1+1+1≠D;omega)];exact World.cell?_setCell_same' _ _ _ (by rw[c1];rfl)
  have k1:Kp W.heap.size V (V.setCell ⟨W.heap.size+1+1+1,0,none⟩ .nilIface):=Kp.set _ (by show W.heap.size<=W.heap.size+1+1+1;omega) hI.b3 rfl;have k2:Kp W.heap.size (V.setCell ⟨W.heap.size+1+1+1,0,none⟩ .nilIface) ((V.setCell ⟨W.heap.size+1+1+1,0,none⟩ .nilIface).putObj D (.deferred none)):=Kp.put _ (by omega) hK2 rfl;obtain⟨ns2,a1,a2,a3,a4⟩:=hI.st;refine⟨by simp,.inl ⟨_,_,rfl,run_takeDeferred hK2,?_⟩⟩;have st2:=(a2.kp k1 (bH _) hBW).kp k2 (bH _) hBW;refine⟨.nilIface,?_,?_,st2.below,fJ hS.mem st2.foot⟩
  .simp[results,results172,go_sem,c3]
  rw[show ((y::aJ nss y.p).drop 1).map (·.ent)=ac (aJ nss y.p) from rfl]at a4;rw[a4];exact⟨rfl,ns2,(a1.kp k1).kp k2,rfl,st2,by simp at a3;omega⟩
theorem vy(sb B:Nat)(r:Nd)(yb:Addr)(ns:List Nd)(work d:BA)(ev:Value)(m:Int)(W:World)(hd:d.size<=170)(hS:ed W B sb r ns work ev)(hn:ns.length<=400)(hm:W.cell? ⟨1,0,none⟩=some (.int .i64 m))(k:Nat)(HM1:Hid (cK (ac ns) d.data.toList=.error k)): Cl 172 #[.pointer (some ⟨sb,0,none⟩),.pointer (some yb),.string d] W λe w'=>e=.returned (.iface 27 (.int .i64 (k:Int)))/\Below B W w'/\bm W w':=by
 have hBW:=hS.base;obtain⟨W4,hW4⟩:=aq ((((W.alloc (.cells #[.pointer (some ⟨sb,0,none⟩)] 73)).alloc (.cells #[.pointer (some yb)] 70)).alloc (.cells #[.string d] 9)).alloc (.cells #[.nilIface] 45));have b4:Bw W W4:=by rw[hW4];exact(((eD).alloc (by simp) _).alloc (by simp only[World.size_alloc];omega) _).alloc (by simp only[World.size_alloc];omega) _
 have e3:W4.heap[W.heap.size+1+1+1]?=some (.cells #[.nilIface] 45 (0,0)):=by rw[hW4];have:=ft (((W.alloc (.cells #[.pointer (some ⟨sb,0,none⟩)] 73)).alloc (.cells #[.pointer (some yb)] 70)).alloc (.cells #[.string d] 9)) (.cells #[.nilIface] 45);rw[World.size_alloc,World.size_alloc,World.size_alloc]at this;exact this
 have hMk:Cl 178 #[.pointer (some ⟨sb,0,none⟩),.string d] W4 λe w'=>e=.returned (.iface 27 (.int .i64 (k:Int)))/\w'.cell? ⟨W.heap.size+1+1+1,0,none⟩=some .nilIface/\w'.frozen? ⟨W.heap.size+1+1+1,0,none⟩=false/\Hid (w'.heap[W.heap.size+1+1+1]?=some (.cells #[.nilIface] 45 (0,0))/\Below B W w'/\bm W w'):=by have h:=dO sb r ns work d ev B m W4 (hS.below b4) (by omega) (by omega) (aM b4 hm);rw[uh HM1]at h;refine h.mono ?_;rintro e w'⟨rfl,hb,hk⟩;have h3:=hk _ _ _ _ e3 (by decide) (by decide);exact⟨rfl,cq 0 h3,by simp[World.frozen?,h3],ab ⟨h3,(b4.mono hBW).trans hb,(ak b4).trans hk⟩⟩
 have e0:W4.heap[W.heap.size]?=some (.cells #[.pointer (some ⟨sb,0,none⟩)] 73 (0,0)):=by rw[hW4];exact(Below.heap_alloc _ _ _ (by simp;omega)).trans ((Below.heap_alloc _ _ _ (by simp;omega)).trans ((Below.heap_alloc _ _ _ (by simp)).trans (ft _ _)))
 have g0:=cq 0 e0;have e2:W4.heap[W.heap.size+1+1]?=some (.cells #[.string d] 9 (0,0)):=by rw[hW4];refine(Below.heap_alloc _ _ _ (by simp)).trans ?_;have:=ft ((W.alloc (.cells #[.pointer (some ⟨sb,0,none⟩)] 73)).alloc (.cells #[.pointer (some yb)] 70)) (.cells #[.string d] 9);rw[World.size_alloc,World.size_alloc]at this;exact this
 have g2:=cq 0 e2;have hf:Fence.wide.fn 178:=trivial;have hes:=cB;clear e3 b4 hS hm e0 e2;refine(callsIn_wide (n:=6)).1 ?_;refine callsIn_of_wp_marks func172 rfl trivial ?_ rfl;simp only[ntmps172,pL,mr,nD,Nat.reduceAdd,Nat.reduceSub,Array.replicate_succ,Array.replicate_zero,List.push_toArray,List.append_toArray,List.nil_append,List.cons_append];gi_wp2_with (gi_at_call 178;rw[<-hW4];refine(callsIn_wide.2 hMk).mono ?_;clear hMk;rintro e w5⟨rfl,c5,f5,H5⟩)
 obtain⟨h3,hb,hk⟩:=uh H5;have c6:(w5.setCell ⟨W.heap.size+1+1+1,0,none⟩ (.iface 27 (.int .i64 (k:Int)))).cell? ⟨W.heap.size+1+1+1,0,none⟩=some (.iface 27 (.int .i64 (k:Int))):=World.cell?_setCell_same' _ _ _ (by rw[c5];rfl);refine⟨.iface 27 (.int .i64 (k:Int)),?_,rfl,hb.setCell (by show B<=W.heap.size+1+1+1;omega) _,?_⟩
 .simp[results,results172,go_sem,c6]
 intro g cs t f hg e1 e2;have:g<W.heap.size:=(bY hg)
 exact(heap_setCell_other _ _ _ _ (by show g≠W.heap.size+1+1+1;omega)).trans (hk g cs t f hg e1 e2)
end Go.Proofs.YtjhobnjdfhkohaaGreatDoor.T
namespace Go.Proofs.YtjhobnjdfhkohaaGreatDoor.T
open Go.Proofs.Tryz
open Go.RowKit Go.Maps
theorem DW(ns:List Nd)(p:LU):(ac ns).filter (λe=>j4 p e.path.data.toList)=ac (aJ ns p):=by rw[ac,List.filter_map];rfl
theorem L4{es:List aj}(hG:jo es)(hl:es.length<=80)(Bs:Nat)(rs:Nd)(nss:List Nd)(hE:ac nss=es):M7 Bs rs nss:=by
 intro w B sb r ns work ev m hm hn hA y d W hy _ hd hS hM hb;have hlen:nss.length<=80:=by rw[<-hE]at hl;simpa[ac]using hl
 unfold kN;cases h1:cK (ac ns) d.data.toList with
 |error k=>exact vy sb B r ⟨y.nb,0,none⟩ ns work d ev m W hd hS hn (aM hb hm) k (ab h1)
 |ok t1=>
  simp only[DW];exact sK es sb B Bs r rs y ns nss work d ev m W hy hd hS hM (ab hE) (ab hG) hlen hn (by
   rintro k⟨x,hx,rfl|rfl⟩
   .exact(hA x hx).1
   exact(hA x hx).2) (aM hb hm) t1 (ab h1)
def kj(W:World)(B:Nat)(sp:OA)(src:List aj):Prop:=∃(Bs:Nat) (rs:Nd) (nss:List Nd),sp=some ⟨rs.nb,0,none⟩/\cw W Bs rs nss/\ac nss=src/\aO src/\src.length<=80/\∀x∈rs::nss,x.nb<B/\x.mb<B
def uy(W:World)(B c:Nat)(stv:OA):Option SN->Prop
 |none=>stv=none
 |some b=>∃B2 sb2,stv=some ⟨sb2,0,none⟩/\sb2<B/\sR W B2 sb2 b c
def zW(rule:Nat)(us:List BA):Prop:=match rule with
 |0=>True
 |1=>us.length=2
 |2=>us.length=2
 |3=>us.length=1
 |4=>us.length=1\/(us.length=2/\∀md,us[1]?=some md->fU md.data.toList=true)
 |5=>us.length=2
 |6=>us.length=2
 |_=>us.length=1
theorem ob{W W':World}{B:Nat}{r:Nd}{ns:List Nd}(h:cw W B r ns)(hk:∀x∈r::ns,W'.heap[x.nb]?=W.heap[x.nb]?/\W'.heap[x.mb]?=W.heap[x.mb]?):cw W' B r ns:=by refine⟨h.root,λx hx=>?_,h.apart⟩;obtain⟨h1,h2,h3,es,clock,h4,F,hs,hD⟩:=h.all x hx;exact⟨h1,h2,(hk x hx).1.trans h3,es,clock,(hk x hx).2.trans h4,F,hs,hD⟩
theorem kj.below{W W':World}{B:Nat}{sp:OA}{src:List aj}(h:kj W B sp src)(hb:Below B W W'):kj W' B sp src:=by obtain⟨Bs,rs,nss,h1,h2,h3,h4,h5,h6⟩:=h;exact⟨Bs,rs,nss,h1,ob h2 λx hx=>⟨hb.block _ (h6 x hx).1,hb.block _ (h6 x hx).2⟩,h3,h4,h5,h6⟩
def mt(W:World)(B B2 sb2:Nat)(s:SN)(c:Nat):Prop:=∃(r:Nd) (ns:List Nd) (work:BA) (ev:Value) (es:eU),ed W B2 sb2 r ns work ev/\fZ W B2 ev es/\FJ es/\wK es/\(∀p∈es,p.1.size<=180)/\ac ns=s.t/\work.data.toList=s.work/\work.size<=1048576/\cC es=s.env/\es.length<=c/\ns.length<=500/\sb2<B/\(∀x∈r::ns,x.nb<B/\x.mb<B)/\∀g,ev.ownBlock=some g->g<B
theorem sR.low{W:World}{B2 sb2 c:Nat}{s:SN}(h:sR W B2 sb2 s c):mt W W.heap.size B2 sb2 s c:=by obtain⟨r,ns,work,ev,es,h1,h2,h3,h4,h5,h6,h7,h8,h9,h10,h11⟩:=h;refine⟨r,ns,work,ev,es,h1,h2,h3,h4,h5,h6,h7,h8,h9,h10,h11,h1.lt,λx hx=>?_,λg hg=>(World.ownsRow.lt h2 g hg).2⟩;obtain⟨_,_,g1,es,clock,g2,_⟩:=h1.mem.all x hx;exact⟨(bY g1),(bY g2)⟩
theorem mt.below{W W':World}{B B' B2 sb2 c:Nat}{s:SN}(h:mt W B B2 sb2 s c)(hb:Below B' W W')(hB:B<=B'):mt W' B B2 sb2 s c:=by obtain⟨r,ns,work,ev,es,h1,h2,h3,h4,h5,h6,h7,h8,h9,h10,h11,h12,h13,h14⟩:=h;exact⟨r,ns,work,ev,es,⟨(hb.block _ (by omega)).trans h1.cells,ob h1.mem λx hx=>⟨hb.block _ (by have:=(h13 x hx).1;omega),hb.block _ (by have:=(h13 x hx).2;omega)⟩,h1.tree,h1.lim,dz h1.base hb.size⟩,ap h2 λg hg=>hb.block g (by have:=h14 g hg;omega),h3,h4,h5,h6,h7,h8,h9,h10,h11,h12,h13,h14⟩
theorem mt.up{W:World}{B B' B2 sb2 c:Nat}{s:SN}(h:mt W B B2 sb2 s c)(hB:B<=B'):mt W B' B2 sb2 s c:=by obtain⟨r,ns,work,ev,es,h1,h2,h3,h4,h5,h6,h7,h8,h9,h10,h11,h12,h13,h14⟩:=h;exact⟨r,ns,work,ev,es,h1,h2,h3,h4,h5,h6,h7,h8,h9,h10,h11,by omega,λx hx=>⟨by have:=(h13 x hx).1;omega,by have:=(h13 x hx).2;omega⟩,λg hg=>by have:=h14 g hg;omega⟩
theorem mt.st{W:World}{B B2 sb2 c:Nat}{s:SN}(h:mt W B B2 sb2 s c):sR W B2 sb2 s c:=by obtain⟨r,ns,work,ev,es,h1,h2,h3,h4,h5,h6,h7,h8,h9,h10,h11,_⟩:=h;exact⟨r,ns,work,ev,es,h1,h2,h3,h4,h5,h6,h7,h8,h9,h10,h11⟩
theorem mt.src{W:World}{B B2 sb2 c:Nat}{s:SN}(h:mt W B B2 sb2 s c)(h40:s.t.length<=40):∃sp:OA,W.cell? ⟨sb2,0,none⟩=some (.pointer sp)/\kj W B sp s.t:=by obtain⟨r,ns,work,ev,es,h1,h2,h3,h4,h5,h6,h7,h8,h9,h10,h11,h12,h13,h14⟩:=h;exact⟨_,h1.c0,B2,r,ns,rfl,h1.mem,h6,by rw[<-h6];exact h1.tree,by omega,h13⟩
theorem MP{w':World}{B sb c:Nat}{ev:Value}{es:eU}{e:Ending}{s:SN}{x:Except Nat (List aj×LU)}(h:ll w' B sb ev e x)(hE:fZ w' B ev es)(hS:FJ es)(hv:wK es)(hp:∀p∈es,p.1.size<=180)(hs:cC es=s.env)(hl:es.length<=c):zH w' B sb c e (Ic s x):=by
 obtain⟨v,rfl,h⟩:=h;cases x with
 |error k=>exact⟨v,rfl,h⟩
 |ok p=>obtain⟨t,wk⟩:=p;obtain⟨rfl,r,ns,work,h1,h2,h3,h4,h5⟩:=h;exact⟨rfl,r,ns,work,ev,es,h1,hE,hS,hv,hp,h2,h3,h4,hs,hl,h5⟩
theorem yk{es:eU}{n v:BA}{p:BA×BA}(h:p∈jf es n v):p∈es\/p=(n,v):=by
 unfold jf at h;split at h
 .rcases List.mem_or_eq_of_mem_set h with h|h
  .exact .inl h
  exact .inr h
 rcases JJ.1 h with h|h
 .exact .inl (List.mem_of_mem_take h)
 rcases nh.1 h with h|h
 .exact .inr h
 exact .inl (List.mem_of_mem_drop h)
theorem An{us:List BA}(h:us.length=1):∃a,us=[a]:=by obtain⟨a,r,rfl⟩:=List.exists_cons_of_length_pos (l:=us) (by omega);simp at h;subst h;exact⟨a,rfl⟩
theorem rV{us:List BA}(h:us.length=2):∃a b,us=[a,b]:=by obtain⟨a,r,rfl⟩:=List.exists_cons_of_length_pos (l:=us) (by omega);simp at h;obtain⟨b,r,rfl⟩:=List.exists_cons_of_length_pos (l:=r) (by omega);simp at h;subst h;exact⟨a,b,rfl⟩
theorem Iq[Inhabited Ch](rule:Nat)(hr8:rule<8)(us:List BA)(s:SN)(src:List aj)(base:Option SN)(sb B c n cap:Nat)(ao stv sp:OA)(m:Int)(W:World)(h:sR W B sb s c)(hsb:B<=sb)(h40:s.t.length<=40)(hc:c<=900)(hW:jD W ao n cap us)(hl:∀u∈us,u.size<=180)(hm:W.cell? ⟨1,0,none⟩=some (.int .i64 m))(hR:Rd W)(hcnt:zW rule us)(hsrc:rule=1\/rule=2->kj W B sp src)(hbase:rule=0->uy W B c stv base): Cl (af rule).2.2.2 #[.pointer (some ⟨sb,0,none⟩),.agg #[.slice ao n cap,.pointer stv,.pointer sp]] W λe w'=>zH w' B sb (c+1) e (J2 src base s rule (us.map λu=>u.data.toList))/\Below B W w'/\eB W w':=by
 have hall:=h;obtain⟨r,ns,work,ev,es,h1,h2,h3,h4,h5,h6,h7,h8,h9,h10,h11⟩:=h;have hn:ns.length<=400:=by rw[<-h6]at h40;simp[ac]at h40;omega
 have hnu:=hW.len;have conv:∀{e:Ending}{w':World}{x:Except Nat (List aj×LU)},ll w' B sb ev e x/\Below B W w'/\bm W w'->zH w' B sb (c+1) e (Ic s x)/\Below B W w'/\eB W w':=λhx=>⟨MP hx.1 (h2.x hx.2.2) h3 h4 h5 h9 (by omega),hx.2.1,hx.2.2.y⟩
 have convD:∀{e:Ending}{w':World}{x:Except Nat (List aj×LU)},ma w' B sb ev e x/\Below B W w'/\bm W w'->zH w' B sb (c+1) e (Ic s x)/\Below B W w'/\eB W w':=λhx=>conv ⟨hx.1.act,hx.2⟩
 obtain rfl|rfl|rfl|rfl|rfl|rfl|rfl|rfl:rule=0\/rule=1\/rule=2\/rule=3\/rule=4\/rule=5\/rule=6\/rule=7:=by omega
 .cases base with
  |none=>have:=hbase rfl;simp only[uy]at this;subst this;refine(CQ sb ao n cap sp W).mono ?_;rintro e w'⟨rfl,hb⟩;exact⟨⟨rfl,(hall.below hb).le (by omega)⟩,hb.mono h1.base,dc hb⟩
  |some b=>obtain⟨B2,sb2,rfl,hlt,r2,ns2,work2,ev2,es2,g1,g2,g3,g4,g5,g6,g7,g8,g9,g10,g11⟩:=hbase rfl;refine(Eg sb sb2 r r2 ns ns2 work work2 ev ev2 es2 ao n cap sp B B2 W h1 g1 g2 hsb (by omega) (by omega) (ab (ut g1.tree (by simpa[ac]using(by omega:ns2.length<=600))))).mono ?_;rintro e w'⟨⟨rfl,r',ns',ev',k1,k2,k3⟩,hb,hk⟩;exact⟨⟨rfl,r',ns',work2,ev',es2,k1,k3,g3,g4,g5,k2.trans g6,g7,g8,g9,by omega,by have:=congrArg List.length k2;simp[ac]at this;omega⟩,hb,hk.y⟩
 .obtain⟨a,b,rfl⟩:=rV hcnt;obtain⟨Bs,rs,nss,rfl,k1,rfl,k2,k3,k4⟩:=hsrc (.inl rfl);have hq:=Ce sb r ns work a b ev ao n cap [a,b] stv rs nss B Bs m W h1 hn h8 hW rfl rfl k1 (ab k2) hm (ab (L4 (ut k2 (by omega)) k3 Bs rs nss rfl W B sb r ns work ev m hm hn k4));rw[h6,h7]at hq;exact hq.mono λ_ _ hx=>convD hx
 .obtain⟨a,b,rfl⟩:=rV hcnt;obtain⟨Bs,rs,nss,rfl,k1,rfl,k2,k3,k4⟩:=hsrc (.inr rfl);have hq:=Fz sb r ns work a b ev ao n cap [a,b] stv rs nss B Bs m W h1 hn h8 hW rfl rfl k1 (ab k2) hm hR;rw[h6,h7]at hq;exact hq.mono λ_ _ hx=>conv hx
 .obtain⟨a,rfl⟩:=An hcnt;have hq:=AH sb r ns work a ev ao n cap [a] stv sp B m W h1 hn h8 hW rfl hm;rw[h6,h7]at hq;exact hq.mono λ_ _ hx=>convD hx
 .rcases hcnt with hcnt|⟨hcnt,hmd⟩
  .obtain⟨a,rfl⟩:=An hcnt;obtain rfl:n=1:=hnu;have hq:=Cy sb r ns work a ev ao cap [a] stv sp B m W h1 hn h8 hW rfl hm;rw[h6,h7]at hq;exact hq.mono λ_ _ hx=>convD hx
  obtain⟨a,b,rfl⟩:=rV hcnt;obtain rfl:n=2:=hnu;obtain⟨te,pe,hv⟩:=hR.syn;have hq:=Ap sb r ns work a b ev ao cap [a,b] stv sp B te pe m W h1 hn h8 hW rfl rfl (hmd b rfl) (by have:=h1.lim;omega) hv hm;rw[h6,h7]at hq;exact hq.mono λ_ _ hx=>convD hx
 .obtain⟨a,b,rfl⟩:=rV hcnt;have hq:=Gv sb r ns work a b ev ao n cap [a,b] stv sp B m W h1 hn h8 hW rfl rfl hm;rw[h6,h7]at hq;exact hq.mono λ_ _ hx=>convD hx
 .obtain⟨a,b,rfl⟩:=rV hcnt;obtain rfl:n=2:=hnu;refine(zG sb r ns work a b ev es ao cap [a,b] stv sp B W h1 h2 h3 (by omega) hsb hW rfl rfl).mono ?_;rintro e w'⟨⟨rfl,ev',k1,k2⟩,hb,hk⟩;refine⟨⟨rfl,r,ns,work,ev',jf es a b,k1,k2,C9 h3,λp hp=>?_,λp hp=>?_,h6,h7,h8,?_,dz (Hs es a b) (by omega),h11⟩,hb,hk⟩
  .rcases yk hp with hp|rfl
   .exact h4 p hp
   exact hl b (by simp)
  .rcases yk hp with hp|rfl
   .exact h5 p hp
   exact hl a (by simp)
  rw[<-Fm,h9]
 obtain⟨a,rfl⟩:=An hcnt;have hq:=CS sb r ns work a ev ao n cap [a] stv sp B m W h1 hn h8 hW rfl hm hsb;rw[h6,h7]at hq;exact hq.mono λ_ _ hx=>convD hx
end Go.Proofs.YtjhobnjdfhkohaaGreatDoor.T
namespace Go.Proofs.YtjhobnjdfhkohaaGreatDoor
open Go.Proofs.Tryz
open Go.RowKit Go.Maps
def vW(m:cA)(b:Bool)(ev:Ending):Prop:=∃g cap,m.wv=.slice (some ⟨g,0,none⟩) m.ws.length cap/\ev=.returned (if b=true then .slice (some ⟨g,4,none⟩) (m.ws.length-2) (cap-2) else .slice (some ⟨g,2,none⟩) (m.ws.length-1) (cap-1))
theorem yT(m:cA)(x:aw)(B:Nat)(w:World)(h:m.Ok w B)(h0:m.ws[0]?=some x)(hst:m.stage≠-1)(h3:3<=m.ws.length): Cl 74 #[m.val] w λev w'=>vW m (an x.xs==some iV) ev/\Bw w w':=by
 have hl0:=(gL h0)
 obtain⟨g,cap,hcp,hc1,hc2⟩:=ic h.ws.row (by omega);have hsh:=h.short;have hle:=h.least;have hrp:=qz m.rule;obtain⟨W0,hW0⟩:=aq (w.alloc (.cells #[m.wv,.int .i64 m.stage,.int .i64 (af m.rule).1,.int .i64 (af m.rule).2.1,aN (af m.rule).2.2.1,aN (af m.rule).2.2.2] 86));have hb0:=dw hW0;have hc0:=em hW0;have hIs:=xo m x ⟨#[67,79,80,89]⟩ B W0 (h.below hb0).ws h0 (h.small x (mG h0)).1;obtain⟨b,hb⟩:=aq ((an x.xs==some iV));rw[show (⟨#[67,79,80,89]⟩:BA).data.toList=iV from rfl,<-hb]at hIs;rw[<-hb];obtain⟨wv,ws,stage,rule⟩:=m;simp only at hcp hst hIs hc0 hl0 hc1 hsh hW0 hle hrp h3⊢;subst hcp;unfold cA.val at hIs⊢;simp only at hIs⊢;obtain⟨n,hn⟩:∃n,ws.length=n+3:=⟨ws.length-3,by omega⟩
 obtain⟨c,hc⟩:∃c,cap=c+3:=⟨cap-3,by omega⟩
 rw[hn]at hIs hW0 hc0 hc1 hsh⊢;subst hc;have r0:=cq 0 hc0;have r1:=cq 1 hc0;have r2:=cq 2 hc0;have r3:=cq 3 hc0;have r4:=cq 4 hc0;have r5:=cq 5 hc0;have HO:Hid (∀ev,ev=.returned (if b=true then .slice (some ⟨g,4,none⟩) (n+1) (c+1) else .slice (some ⟨g,2,none⟩) (n+2) (c+2))->vW ⟨.slice (some ⟨g,0,none⟩) (n+3) (c+3),ws,stage,rule⟩ b ev):=ab (λev he=>⟨g,c+3,by rw[hn],by rw[he];simp[hn]⟩);obtain⟨OO,hOO⟩:=aq (vW ⟨.slice (some ⟨g,0,none⟩) (n+3) (c+3),ws,stage,rule⟩ b);rw[<-hOO]at HO⊢;have HK:Hid (∀W,Bw W0 W->W.cell? ⟨w.heap.size,1,none⟩=some (.int .i64 stage)/\W.cell? ⟨w.heap.size,0,none⟩=some (.slice (some ⟨g,0,none⟩) (n+3) (c+3))):=ab (λW hB=>⟨cL hB r1,cL hB r0⟩);have i1:(1:Int)<=(n:Int)+3/\(n:Int)+3<=(c:Int)+3:=by omega
 have i2:(2:Int)<=(n:Int)+3:=by omega
 clear h h0 hb hc0 hn hl0 hc1 hc2 hsh hle hrp hOO h3;cases b with
 |false=>
  go_enter func74,ntmps74;go_upto_region 1 with fail
  rw[<-hW0];clear hW0;go_upto_region 3 with(go_at_call 89;refine hIs.mono ?_;clear hIs;rintro e1 w1⟨rfl,hb1⟩)
  obtain⟨q1,q0⟩:=uh HK w1 hb1;clear r0 r1 r2 r3 r4 r5;go_wp2_with fail;go_ret;exact⟨uh HO _ rfl,hb0.trans (hb1.mono hb0.size)⟩
 |true=>
  go_enter func74,ntmps74;go_upto_region 1 with fail
  rw[<-hW0];clear hW0;go_wp2_with (go_at_call 89;refine hIs.mono ?_;clear hIs;rintro e1 w1⟨rfl,hb1⟩;obtain⟨q1,q0⟩:=uh HK w1 hb1)
  go_ret;exact⟨uh HO _ rfl,hb0.trans (hb1.mono hb0.size)⟩
end Go.Proofs.YtjhobnjdfhkohaaGreatDoor
