import Derived.Test.YtjhobnjdfhkohaaGreatDoorXAG
import Derived.Lib.AppendZerosOnto
import Derived.Shelf.Spec.SlicesInsert
set_option linter.all false
set_option maxHeartbeats 4000000
set_option maxRecDepth 10000
namespace Go.Proofs.YtjhobnjdfhkohaaGreatDoor.T
open Go.Proofs.Tryz
open Go.RowKit Go.Maps
theorem ly{P:Program}(w:World)(dT sT ty elem k:Nat)(g o dLen dCap:Nat)(a:Addr)(sLen sCap:Nat)(cur:Array Value)(t:TypeId)(cs:List Value)(hu:P.underlying dT=some (.slice elem))(hs:(P.info? elem).map (·.size)=some k)(hg:w.heap[g]?=some (.cells cur t (0,0)))(hn:cs.length=Nat.min sLen dLen*k)(hsrc:∀j v,cs[j]?=some v->w.cell? (a.add j)=some v)(hfit:o+cs.length<=cur.size)(h1:∀v∈cs,v.oneCell'=true): (Builtin.copy_ #[dT,sT] ty #[.slice (some ⟨g,o,none⟩) dLen dCap,.slice (some a) sLen sCap]).run P w=.ok (goInt (Nat.min sLen dLen)) (w.setRow g (cur.toList.take o++cs++cur.toList.drop (o+cs.length)).toArray):=by
 have hl:=run_loadCells_list (P:=P) w a cs hsrc;have hst:=run_storeCells_at P g o t cs 0 cur w hg (by simpa using hfit) h1;cases hq:P.info? elem with
 |none=>simp[hq]at hs
 |some i=>
  have hi:i.size=k:=by simpa[hq]using hs
  simp[Builtin.copy_,run_underlying hu,Builtin.lenOf,Builtin.firstCells,sizeOf,typeInfo,hq,hi,<-hn,hl,hst]
theorem xu(a b:eU):a8 (a++b)=a8 a++a8 b:=by
 induction a with
 |nil=>rfl
 |cons p r ih=>simp[a8,ih]
theorem tw:∀(l:eU) (i:Nat),a8 (l.take i)=(a8 l).take (i*2)
 |[],i=>by simp[a8]
 |p::r,0=>by simp[a8]
 |p::r,i+1=>by rw[show (i+1)*2=i*2+2 by omega];simp[a8,tw r i]
theorem sU:∀(l:eU) (i:Nat),a8 (l.drop i)=(a8 l).drop (i*2)
 |[],i=>by simp[a8]
 |p::r,0=>by simp[a8]
 |p::r,i+1=>by rw[show (i+1)*2=i*2+2 by omega];simp[a8,sU r i]
theorem xw(l:eU)(i:Nat)(n v:BA):a8 (l.take i++(n,v)::l.drop i)=(a8 l).take (i*2)++[.string n,.string v]++(a8 l).drop (i*2):=by rw[xu,tw];simp[a8,sU]
theorem nr:∀(l:eU),∀u∈a8 l,u.oneCell'=true
 |[],_,h=>by cases h
 |p::r,u,h=>by
  simp only[a8,mC]at h;rcases h with rfl|rfl|h
  .rfl
  .rfl
  exact nr r u h
theorem m5:(prog.info? 179).map (λi=>(i.zero,i.size,i.bytes))=some (some (.agg #[.string ByteArray.empty,.string ByteArray.empty]),2,32):=by kernel_rfl
theorem Ju(ao:OA)(N cap:Nat)(es:eU)(n v:BA)(B vb:Nat)(w:World)(h:w.ownsRow B 179 2 (.slice ao N cap) N (a8 es))(hB:B<=w.heap.size)(hn:N<=1500)(hN:N=es.length)(hv:w.heap[vb]?=some (.cells #[.string n,.string v] 179 (0,0))): Cl 185 #[.slice ao N cap,.int .i64 (N:Int),.slice (some ⟨vb,0,none⟩) 1 1] w λe w'=>(∃ev',e=.returned ev'/\fZ w' B ev' (es++[(n,v)]))/\w.grownBy w' (Value.slice ao N cap).ownBlock:=by
 obtain⟨i0,hi0,hz0,hz1,hz2⟩:=info_parts m5;have HR:=ab h;have HO:Hid (∀v6 w6,w6.ownsRow B 179 2 v6 (N+1) (a8 es++[.string n,.string v])->fZ w6 B v6 (es++[(n,v)])):=ab (λv6 w6 h6=>by unfold fZ;rw[xu,lA,<-hN];exact h6);have hform:(ao=none/\N=0/\cap=0)\/∃g,ao=some ⟨g,0,none⟩/\N<=cap/\cap<=maxLen:=by
  rcases h.2 with⟨e,e0⟩|⟨g,c,cur,e,_,_,h1,h2,_⟩
  .injection e with e1 e2 e3;exact .inl ⟨e1,e2,e3⟩
  injection e with e1 e2 e3;subst e1 e3;exact .inr ⟨g,rfl,h1,h2⟩
 clear h hN;rcases hform with⟨rfl,rfl,rfl⟩|⟨g,rfl,hc1,hc2⟩
 .go_enter func185,ntmps185;go_wp2_with (at_builtin;refine wpList_append_own _ rfl _ _ 132 rfl B 179 i0 _ 2 32 underlying132 hi0 hz0 hz1 hz2 rfl (by decide) (.slice none 0 0) 0 (a8 es) rfl (uh HR) ⟨vb,0,none⟩ 1 1 [.string n,.string v] rfl rfl (World.news_of_block (cs:=#[.string n,.string v]) (t:=179) (fr:=(0,0)) hv) (by intro u hu;simp only[mC,List.not_mem_nil,or_false]at hu;rcases hu with rfl|rfl<;>rfl) (by unfold maxLen;omega) (by omega) (by omega) ?_;intro v6 w6 hown6 hgrow6 _;have HOW:=ab (uh HO _ _ hown6);obtain⟨g6,cp6,rfl,_,_⟩:=World.ownsRow.form hown6 (by omega);clear hown6)
  go_ret;exact⟨⟨_,rfl,uh HOW⟩,hgrow6⟩
 unfold maxLen at hc2;by_cases hcN:cap=N
 .subst hcN;go_enter func185,ntmps185;go_wp2_with (at_builtin;refine wpList_append_own _ rfl _ _ 132 rfl B 179 i0 _ 2 32 underlying132 hi0 hz0 hz1 hz2 rfl (by decide) (.slice (some ⟨g,0,none⟩) cap cap) cap (a8 es) rfl (uh HR) ⟨vb,0,none⟩ 1 1 [.string n,.string v] rfl rfl (World.news_of_block (cs:=#[.string n,.string v]) (t:=179) (fr:=(0,0)) hv) (by intro u hu;simp only[mC,List.not_mem_nil,or_false]at hu;rcases hu with rfl|rfl<;>rfl) (by unfold maxLen;omega) (by omega) (by omega) ?_;intro v6 w6 hown6 hgrow6 _;have HOW:=ab (uh HO _ _ hown6);obtain⟨g6,cp6,rfl,_,_⟩:=World.ownsRow.form hown6 (by omega);clear hown6)
  go_ret;exact⟨⟨_,rfl,uh HOW⟩,hgrow6⟩
 go_enter func185,ntmps185;go_wp2_with (at_builtin;refine wpList_append_own _ rfl _ _ 132 rfl B 179 i0 _ 2 32 underlying132 hi0 hz0 hz1 hz2 rfl (by decide) (.slice (some ⟨g,0,none⟩) N cap) N (a8 es) rfl (uh HR) ⟨vb,0,none⟩ 1 1 [.string n,.string v] rfl rfl (World.news_of_block (cs:=#[.string n,.string v]) (t:=179) (fr:=(0,0)) hv) (by intro u hu;simp only[mC,List.not_mem_nil,or_false]at hu;rcases hu with rfl|rfl<;>rfl) (by unfold maxLen;omega) (by omega) (by omega) ?_;intro v6 w6 hown6 hgrow6 _;have HOW:=ab (uh HO _ _ hown6);obtain⟨g6,cp6,rfl,_,_⟩:=World.ownsRow.form hown6 (by omega);clear hown6)
 go_ret;exact⟨⟨_,rfl,uh HOW⟩,hgrow6⟩
theorem dX{w:World}{g k:Nat}{cs:Array Value}(h:k≠g):(w.setRow g cs).heap[k]?=w.heap[k]?:=by unfold World.setRow;simp[Array.getElem?_modify,h.symm]
theorem iQ{w:World}{g:Nat}{cs:Array Value}:(w.setRow g cs).heap.size=w.heap.size:=by simp[World.setRow]
theorem Ec{c X:List Value}{k m:Nat}{a b:Value}(hX:X=c.take m)(hk:k+2<=m)(hc:m+2<=c.length):
 let c1:=c.take (k+2)++X.drop k++c.drop (k+2+(X.drop k).length)
 let c2:=c1.take k++[a,b]++c1.drop (k+[a,b].length)
 c2.take (m+2)=X.take k++[a,b]++X.drop k/\c2.length=c.length:=by
 have hXl:X.length=m:=by rw[hX,List.length_take];omega
 have hdl:(X.drop k).length=m-k:=by rw[List.length_drop,hXl]
 intro c1 c2;have e1:c1.take k=X.take k:=by show (c.take (k+2)++X.drop k++c.drop _).take k=_;rw[yL,List.take_append_of_le_length (by rw[List.length_take];omega),List.take_take,hX,List.take_take];congr 1;omega
 have e2:c1.drop (k+2)=X.drop k++c.drop (k+2+(X.drop k).length):=by show (c.take (k+2)++X.drop k++c.drop _).drop (k+2)=_;rw[yL,List.drop_left' (by rw[List.length_take];omega)]
 have e3:c2=(X.take k++[a,b]++X.drop k)++c.drop (k+2+(X.drop k).length):=by show c1.take k++[a,b]++c1.drop (k+2)=_;rw[e1,e2];simp
 have hl:(X.take k++[a,b]++X.drop k).length=m+2:=by simp only[qJ,List.length_take,mr,nD,hdl,hXl];omega
 refine⟨by rw[e3,List.take_left' hl],?_⟩;rw[e3,qJ,hl,List.length_drop,hdl];omega
theorem D3{R X:List Value}{k m:Nat}{a b:Value}(hR:R.take k=X.take k)(hX:X.length=m)(hk:k+2<=m)(hc:m+2<=R.length):
 let c1:=R.take k++[a,b]++R.drop (k+[a,b].length)
 let c2:=c1.take (k+2)++X.drop k++c1.drop (k+2+(X.drop k).length)
 c2.take (m+2)=X.take k++[a,b]++X.drop k/\c2.length=R.length:=by
 have hdl:(X.drop k).length=m-k:=by rw[List.length_drop,hX]
 intro c1 c2;have hl1:(R.take k++[a,b]).length=k+2:=by simp;omega
 have hc1:c1.length=R.length:=by show (R.take k++[a,b]++R.drop (k+2)).length=_;rw[qJ,hl1,List.length_drop];omega
 have e1:c1.take (k+2)=X.take k++[a,b]:=by show (R.take k++[a,b]++R.drop (k+2)).take (k+2)=_;rw[List.take_left' hl1,hR]
 have hl:(X.take k++[a,b]++X.drop k).length=m+2:=by simp only[qJ,List.length_take,mr,nD,hdl,hX];omega
 have e3:c2=(X.take k++[a,b]++X.drop k)++c1.drop (k+2+(X.drop k).length):=by show c1.take (k+2)++X.drop k++_=_;rw[e1]
 refine⟨by rw[e3,List.take_left' hl],?_⟩;rw[e3,qJ,hl,List.length_drop,hc1,hdl];omega
theorem FH(g N cap i:Nat)(es:eU)(n v:BA)(B vb:Nat)(w:World)(h:w.ownsRow B 179 2 (.slice (some ⟨g,0,none⟩) N cap) N (a8 es))(hn:N<=1500)(hN:N=es.length)(hi:i<N)(hcap:N+1<=cap)(hv:w.heap[vb]?=some (.cells #[.string n,.string v] 179 (0,0)))(hvg:vb≠g): Cl 185 #[.slice (some ⟨g,0,none⟩) N cap,.int .i64 (i:Int),.slice (some ⟨vb,0,none⟩) 1 1] w λe w'=>(∃ev',e=.returned ev'/\fZ w' B ev' (es.take i++(n,v)::es.drop i))/\w.grownBy w' (some g):=by
 obtain⟨cur,hcB,hcur,hc2,hcs,hct⟩:∃cur,B<=g/\w.heap[g]?=some (.cells cur 179 (0,0))/\cap<=maxLen/\cur.size=cap*2/\cur.toList.take (N*2)=a8 es:=by
  rcases h.2 with⟨e,_⟩|⟨g',c,cur,e,h0,h1,_,h2,h3,h4⟩
  .cases e
  injection e with e1 e2 e3;injection e1 with e1;injection e1 with e1;subst e1 e3;exact⟨cur,h0,h1,h2,h3,h4⟩
 unfold maxLen at hc2;have hlX:(a8 es).length=N*2:=by rw[jG,<-hN]
 have hsz:(prog.info? 179).map (·.size)=some 2:=by obtain⟨i0,hi0,h0,h1,h2⟩:=info_parts m5;rw[hi0];simp[h1]
 have hov:∀lb cb W,W.heap=w.heap->(callFunc 205 #[.slice (some ⟨vb,0,none⟩) 1 1,.slice (some ⟨g,(i+1)*2,none⟩) lb cb]).run prog W=.ok (.value (.bool false)) W:=λlb cb W hW=>by
  rw[run_callFunc_extern func205 (by kernel_rfl) (by kernel_rfl) (by kernel_rfl) (e:=Extern.SlicesOverlaps.overlaps #[132,132] #[4]) (by kernel_rfl),
   Lib.run_overlaps_apart W 132 4 179 underlying132 2 sizeOf179 ⟨vb,0,none⟩ ⟨g,(i+1)*2,none⟩ 1 1 lb cb hvg 179 179 2 (cap*2) (by simp[World.shape?,hW,hv]) (by simp[World.shape?,hW,hcur,hcs]) (by omega) (by simp[World.frozen?,hW,hv]) (by simp[World.frozen?,hW,hv])]
  rfl
 have hct':=hct.symm;have hXc:∀j u,(a8 es)[j]?=some u->w.cell? ⟨g,j,none⟩=some u:=λj u hj=>by
  rw[cell_of_row _ _ j _ _ _ hcur,<-Array.getElem?_toList];have hjl:=(sI hj)
  rw[hct',List.getElem?_take]at hj;split at hj
  .exact hj
  cases hj
 have hdl:((a8 es).drop (i*2)).length=(N-i)*2:=by rw[List.length_drop,hlX];omega
 have hmin1:Nat.min (N+1-i) (N+1-(i+1))=N-i:=by simp only[Nat.min_def];split<;>omega
 have hmin2:Nat.min 1 (N+1-i)=1:=by simp only[Nat.min_def];split<;>omega
 obtain⟨c1,hc1⟩:=aq ((cur.toList.take ((i+1)*2)++(a8 es).drop (i*2)++cur.toList.drop ((i+1)*2+((a8 es).drop (i*2)).length)).toArray);have hcp1:∀ty W,W.heap=w.heap->(Builtin.copy_ #[132,132] ty #[.slice (some ⟨g,(i+1)*2,none⟩) (N+1-(i+1)) (cap-(i+1)),.slice (some ⟨g,i*2,none⟩) (N+1-i) (cap-i)]).run prog W=.ok (goInt (N-i:Nat)) (W.setRow g c1):=λty W hW=>by rw[ly W 132 132 ty 179 2 g ((i+1)*2) (N+1-(i+1)) (cap-(i+1)) ⟨g,i*2,none⟩ (N+1-i) (cap-i) cur 179 ((a8 es).drop (i*2)) underlying132 hsz (by rw[hW];exact hcur) (by rw[hmin1,hdl]) (λj u hj=>by rw[Addr.add_lit];have:W.cell? ⟨g,i*2+j,none⟩=w.cell? ⟨g,i*2+j,none⟩:=World.cell?_of_block (by rw[hW]);rw[this];exact hXc _ u (by rwa [List.getElem?_drop]at hj)) (by rw[hdl,hcs];omega) (λu hu=>nr es u (List.mem_of_mem_drop hu)),hmin1,hc1]
 have hs1:c1.size=cap*2:=by rw[hc1];simp only[pL,qJ,List.length_take,List.length_drop,Array.length_toList,hdl,hcs,hlX];omega
 obtain⟨c2,hc2e⟩:∃c2:Array Value,c2=(c1.toList.take (i*2)++[Value.string n,Value.string v]++c1.toList.drop (i*2+[Value.string n,Value.string v].length)).toArray:=⟨_,rfl⟩
 have hcp2:∀ty W,W.heap[g]?=some (.cells c1 179 (0,0))->W.heap[vb]?=some (.cells #[.string n,.string v] 179 (0,0))->(Builtin.copy_ #[132,132] ty #[.slice (some ⟨g,i*2,none⟩) (N+1-i) (cap-i),.slice (some ⟨vb,0,none⟩) 1 1]).run prog W=.ok (goInt (1:Nat)) (W.setRow g c2):=λty W hW hWv=>by rw[ly W 132 132 ty 179 2 g (i*2) (N+1-i) (cap-i) ⟨vb,0,none⟩ 1 1 c1 179 [.string n,.string v] underlying132 hsz hW (by rw[hmin2];rfl) (λj u hj=>by rw[Addr.add_lit,Nat.zero_add,cell_of_row _ _ j _ _ _ hWv];simpa using hj) (by simp only[mr,nD,hs1];omega) (λu hu=>by simp only[nh,List.not_mem_nil,or_false]at hu;rcases hu with rfl|rfl<;>rfl),hmin2,hc2e]
 have HFIN:Hid (∀W:World,W.heap=((w.setRow g c1).setRow g c2).heap->W.os=w.os->W.tape=w.tape->W.output=w.output->fZ W B (.slice (some ⟨g,0,none⟩) (N+1) cap) (es.take i++(n,v)::es.drop i)/\w.grownBy W (some g)):=ab (λW hW h1 h2 h3=>by
  have hr:=Ec (a:=.string n) (b:=.string v) (k:=i*2) (m:=N*2) hct' (by omega) (by rw[Array.length_toList,hcs];omega);have e2:c2.toList.take (N*2+2)=(a8 es).take (i*2)++[.string n,.string v]++(a8 es).drop (i*2)/\c2.toList.length=cur.toList.length:=by rw[hc2e,hc1];rw[show (i+1)*2=i*2+2 by omega];exact hr
  have hg1:=setRow_heap w g cur c1 179 _ hcur;have hlen:(es.take i++(n,v)::es.drop i).length=N+1:=by simp;omega
  refine⟨?_,⟨h1,h2,h3,by rw[hW,iQ,iQ];exact bH _,λk hk hne=>?_⟩⟩
  .unfold fZ;rw[hlen];refine⟨by rw[jG,hlen],.inr ⟨g,cap,c2,rfl,hcB,?_,hcap,by unfold maxLen;exact hc2,?_,?_⟩⟩
   .rw[hW];exact setRow_heap _ g c1 c2 179 _ hg1
   .have:=e2.2;simp only[Array.length_toList]at this;rw[this,hcs]
   rw[xw,show (N+1)*2=N*2+2 by omega];exact e2.1
  have hkg:k≠g:=λe=>hne (by rw[e]);rw[hW,dX hkg,dX hkg])
 have HW1:Hid (∀W:World,W.heap=(w.setRow g c1).heap->W.heap[g]?=some (.cells c1 179 (0,0))/\W.heap[vb]?=some (.cells #[.string n,.string v] 179 (0,0))):=ab (λW hW=>⟨by rw[hW];exact setRow_heap w g cur c1 179 _ hcur,by rw[hW,dX hvg];exact hv⟩);have hz2:¬((i:Int)=(N:Int)):=by omega
 have hw1:IntKind.i64.wrap ((i:Int)+1)=(i:Int)+1:=by rw[IntKind.wrap_i64];omega
 have hb1:(0:Int)<=(i:Int)+1:=by omega
 have htn:((i:Int)+1).toNat=i+1:=by omega
 have hb2:¬(cap=i+1):=by omega
 have hb3:(i:Int)<=(N:Int)+1:=by omega
 have hb4:¬(cap=i):=by omega
 have hb5:(i:Int)<=(N:Int):=by omega
 have HOV:=ab hov;have HCP1:=ab hcp1;have HCP2:=ab hcp2;clear hct' hXc hdl hmin1 hmin2 hc1 hs1 hc2e hcs hct hlX hcur hv hN h hov hcp1 hcp2 hsz;go_enter func185,ntmps185;go_upto_region 15 with(simp only[uh HOV _ _ w rfl])
 go_region_law (refine step_copy_runI rfl _ _ 132 132 rfl _ _ (by simp[Act.eval,Act.put]) (by simp[Act.eval,Act.put]) (uh HCP1 _ _ rfl) ?_)
 have hcq:=uh HCP2 3 (w.drew.setRow g c1) (uh HW1 _ (by rfl)).1 (uh HW1 _ (by rfl)).2;go_wp2_with fail;go_ret;have:=uh HFIN ((w.drew.setRow g c1).setRow g c2) rfl rfl rfl rfl;exact⟨⟨_,rfl,this.1⟩,this.2⟩
theorem GR(z:Array Value)(k:Nat):(Builtin.zeroCells z k).size=k*z.size:=by
 induction k with
 |zero=>simp[Builtin.zeroCells]
 |succ k ih=>simp[Builtin.zeroCells,Nat.add_mul]at ih⊢
theorem EO(g N cap i:Nat)(es:eU)(n v:BA)(B vb:Nat)(w:World)(h:w.ownsRow B 179 2 (.slice (some ⟨g,0,none⟩) N cap) N (a8 es))(hB:B<=w.heap.size)(hn:N<=1500)(hN:N=es.length)(hi:i<N)(hcap:cap<N+1)(hv:w.heap[vb]?=some (.cells #[.string n,.string v] 179 (0,0))): Cl 185 #[.slice (some ⟨g,0,none⟩) N cap,.int .i64 (i:Int),.slice (some ⟨vb,0,none⟩) 1 1] w λe w'=>(∃ev',e=.returned ev'/\fZ w' B ev' (es.take i++(n,v)::es.drop i))/\w.grownBy w' (some g):=by
 obtain⟨cur,hcB,hcur,hNc,hct⟩:∃cur,B<=g/\w.heap[g]?=some (.cells cur 179 (0,0))/\N<=cap/\cur.toList.take (N*2)=a8 es:=by
  rcases h.2 with⟨e,_⟩|⟨g',c,cur,e,h0,h1,h5,h2,h3,h4⟩
  .cases e
  injection e with e1 e2 e3;injection e1 with e1;injection e1 with e1;subst e1 e3;exact⟨cur,h0,h1,h5,h4⟩
 have hcN:cap=N:=by omega
 subst hcN;have hlX:(a8 es).length=cap*2:=by rw[jG,<-hN]
 obtain⟨i0,hi0,hz0,hz1,hz2⟩:=info_parts m5;have hsz:(prog.info? 179).map (·.size)=some 2:=by rw[hi0];simp[hz1]
 have hct':a8 es=cur.toList.take (cap*2):=hct.symm;have hXc:∀j u,(a8 es)[j]?=some u->w.cell? ⟨g,j,none⟩=some u:=λj u hj=>by
  rw[cell_of_row _ _ j _ _ _ hcur,<-Array.getElem?_toList];rw[hct',List.getElem?_take]at hj;split at hj
  .exact hj
  cases hj
 have hgw:g<w.heap.size:=(bY hcur)
 have hvw:vb<w.heap.size:=(bY hv)
 have hdl:((a8 es).drop (i*2)).length=(cap-i)*2:=by rw[List.length_drop,hlX];omega
 have hold:(Builtin.firstCells i0.size i (.slice (some ⟨g,0,none⟩) i cap)).run prog w.drew=.ok ((a8 es).take (i*2)).toArray w.drew:=by
  rw[hz1];exact run_firstCells_some w.drew 2 i ⟨g,0,none⟩ i cap ((a8 es).take (i*2)) (by rw[List.length_take,hlX];omega) (λj u hj=>by
   rw[Addr.add_lit,Nat.zero_add];rw[List.getElem?_take]at hj;split at hj
   .exact hXc j u hj
   cases hj)
 obtain⟨G,hG⟩:=aq (grownCap w (cap+1) cap 179);obtain⟨ROW,hROW⟩:∃ROW:Array Value,ROW=((a8 es).take (i*2)).toArray++Builtin.zeroCells (Value.agg #[.string ByteArray.empty,.string ByteArray.empty]).cells (cap+1-i)++Builtin.zeroCells (Value.agg #[.string ByteArray.empty,.string ByteArray.empty]).cells (G-(cap+1)):=⟨_,rfl⟩
 have hik:i+(cap+1-i)=cap+1:=by omega
 have hrz:∀ty,(Builtin.append_ #[132,3] ty #[.slice (some ⟨g,0,none⟩) i cap,.int .i64 ((cap:Int)+1-(i:Int))]).run prog w=.ok (.slice (some ⟨w.heap.size,0,none⟩) (cap+1) G) (w.drew.alloc (.cells ROW 179)):=λty=>by have hh:=Lib.run_append_grow_zeros w 132 3 ty 179 i0 _ .i64 .i64 underlying132 underlying3 hi0 hz0 (some ⟨g,0,none⟩) i cap ((a8 es).take (i*2)) hold (cap+1-i) (by omega) (by omega) (by omega) (by omega) (by rw[hz2];omega) (by rw[hz2,hik];exact growslice_fits (by omega) (by omega));rw[hik]at hh;rw[show (cap:Int)+1-(i:Int)=((cap+1-i:Nat):Int) by omega,hROW,hG];exact hh
 have hGn:cap+1<=G:=by rw[hG];exact grownCap_ge w _ _ _
 have hG63:G<=maxLen:=by rw[hG];exact grownCap_le_maxLen w (cap+1) cap 179 (by unfold maxLen;omega)
 have hRs:ROW.size=G*2:=by rw[hROW];simp only[Array.size_append,pL,List.length_take,GR,hlX];have:(Value.agg #[.string ByteArray.empty,.string ByteArray.empty]).cells.size=2:=rfl;rw[this];omega
 have hRt:ROW.toList.take (i*2)=(a8 es).take (i*2):=by rw[hROW];simp only[Array.toList_append,yL];exact List.take_left' (by rw[List.length_take,hlX];omega)
 have hmin1:Nat.min (cap-i) (cap+1-(i+1))=cap-i:=by simp only[Nat.min_def];split<;>omega
 have hmin2:Nat.min 1 (cap+1-i)=1:=by simp only[Nat.min_def];split<;>omega
 obtain⟨c1,hc1⟩:∃c1:Array Value,c1=(ROW.toList.take (i*2)++[Value.string n,Value.string v]++ROW.toList.drop (i*2+[Value.string n,Value.string v].length)).toArray:=⟨_,rfl⟩
 have hcp1:∀ty W,W.heap[w.heap.size]?=some (.cells ROW 179 (0,0))->W.heap[vb]?=some (.cells #[.string n,.string v] 179 (0,0))->(Builtin.copy_ #[132,132] ty #[.slice (some ⟨w.heap.size,i*2,none⟩) (cap+1-i) (G-i),.slice (some ⟨vb,0,none⟩) 1 1]).run prog W=.ok (goInt (1:Nat)) (W.setRow w.heap.size c1):=λty W hW hWv=>by rw[ly W 132 132 ty 179 2 w.heap.size (i*2) (cap+1-i) (G-i) ⟨vb,0,none⟩ 1 1 ROW 179 [.string n,.string v] underlying132 hsz hW (by rw[hmin2];rfl) (λj u hj=>by rw[Addr.add_lit,Nat.zero_add,cell_of_row _ _ j _ _ _ hWv];simpa using hj) (by simp only[mr,nD,hRs];omega) (λu hu=>by simp only[nh,List.not_mem_nil,or_false]at hu;rcases hu with rfl|rfl<;>rfl),hmin2,hc1]
 have hs1:c1.size=G*2:=by rw[hc1];simp only[pL,qJ,List.length_take,List.length_drop,Array.length_toList,hRs,mr,nD];omega
 obtain⟨c2,hc2e⟩:=aq ((c1.toList.take ((i+1)*2)++(a8 es).drop (i*2)++c1.toList.drop ((i+1)*2+((a8 es).drop (i*2)).length)).toArray);have hcp2:∀ty W,W.heap[w.heap.size]?=some (.cells c1 179 (0,0))->W.heap[g]?=w.heap[g]?->(Builtin.copy_ #[132,132] ty #[.slice (some ⟨w.heap.size,(i+1)*2,none⟩) (cap+1-(i+1)) (G-(i+1)),.slice (some ⟨g,i*2,none⟩) (cap-i) (cap-i)]).run prog W=.ok (goInt (cap-i:Nat)) (W.setRow w.heap.size c2):=λty W hW hWg=>by rw[ly W 132 132 ty 179 2 w.heap.size ((i+1)*2) (cap+1-(i+1)) (G-(i+1)) ⟨g,i*2,none⟩ (cap-i) (cap-i) c1 179 ((a8 es).drop (i*2)) underlying132 hsz hW (by rw[hmin1,hdl]) (λj u hj=>by rw[Addr.add_lit];have:W.cell? ⟨g,i*2+j,none⟩=w.cell? ⟨g,i*2+j,none⟩:=World.cell?_of_block hWg;rw[this];exact hXc _ u (by rwa [List.getElem?_drop]at hj)) (by rw[hdl,hs1];omega) (λu hu=>nr es u (List.mem_of_mem_drop hu)),hmin1,hc2e]
 have HW1:Hid (∀W:World,W.heap=(w.alloc (.cells ROW 179)).heap->W.heap[w.heap.size]?=some (.cells ROW 179 (0,0))/\W.heap[vb]?=some (.cells #[.string n,.string v] 179 (0,0))):=ab (λW hW=>⟨by rw[hW];exact ft _ _,by rw[hW];exact(Below.heap_alloc _ _ vb hvw).trans hv⟩);have HW2:Hid (∀W:World,W.heap=((w.alloc (.cells ROW 179)).setRow w.heap.size c1).heap->W.heap[w.heap.size]?=some (.cells c1 179 (0,0))/\W.heap[g]?=w.heap[g]?):=ab (λW hW=>⟨by rw[hW];exact setRow_heap _ _ ROW c1 179 _ (ft _ _),by rw[hW,dX (by omega)];exact Below.heap_alloc _ _ g hgw⟩);have HFIN:Hid (∀W:World,W.heap=(((w.alloc (.cells ROW 179)).setRow w.heap.size c1).setRow w.heap.size c2).heap->W.os=w.os->W.tape=w.tape->W.output=w.output->fZ W B (.slice (some ⟨w.heap.size,0,none⟩) (cap+1) G) (es.take i++(n,v)::es.drop i)/\w.grownBy W (some g)):=ab (λW hW h1 h2 h3=>by
  have hr:=D3 (R:=ROW.toList) (X:=a8 es) (a:=.string n) (b:=.string v) (k:=i*2) (m:=cap*2) hRt hlX (by omega) (by rw[Array.length_toList,hRs];omega);have e2:c2.toList.take (cap*2+2)=(a8 es).take (i*2)++[.string n,.string v]++(a8 es).drop (i*2)/\c2.toList.length=ROW.toList.length:=by rw[hc2e,hc1];rw[show (i+1)*2=i*2+2 by omega];exact hr
  have hg0:(w.alloc (.cells ROW 179)).heap[w.heap.size]?=some (.cells ROW 179 (0,0)):=ft _ _;have hg1:((w.alloc (.cells ROW 179)).setRow w.heap.size c1).heap[w.heap.size]?=some (.cells c1 179 (0,0)):=setRow_heap _ _ ROW c1 179 _ hg0;have hlen:(es.take i++(n,v)::es.drop i).length=cap+1:=by simp;omega
  refine⟨?_,⟨h1,h2,h3,by rw[hW,iQ,iQ];simp,λk hk _=>?_⟩⟩
  .unfold fZ;rw[hlen];refine⟨by rw[jG,hlen],.inr ⟨w.heap.size,G,c2,rfl,hB,?_,hGn,hG63,?_,?_⟩⟩
   .rw[hW];exact setRow_heap _ _ c1 c2 179 _ hg1
   .have:=e2.2;simp only[Array.length_toList]at this;rw[this,hRs]
   rw[xw,show (cap+1)*2=cap*2+2 by omega];exact e2.1
  rw[hW,dX (by omega),dX (by omega)];exact Below.heap_alloc _ _ k hk)
 unfold maxLen at hG63;have hq2:¬((i:Int)=(cap:Int)):=by omega
 have hw1:IntKind.i64.wrap ((i:Int)+1)=(i:Int)+1:=by rw[IntKind.wrap_i64];omega
 have hb1:(0:Int)<=(i:Int)+1:=by omega
 have htn:((i:Int)+1).toNat=i+1:=by omega
 have hb2:¬(G=i+1):=by omega
 have hb6:¬(G=i):=by omega
 have hb3:(i:Int)<=(cap:Int)+1:=by omega
 have hb4:¬(cap=i):=by omega
 have hb5:(i:Int)<=(cap:Int):=by omega
 have HRZ:=ab hrz;have HCP1:=ab hcp1;have HCP2:=ab hcp2;clear hct' hXc hdl hmin1 hmin2 hc1 hs1 hc2e hct hlX hcur hv hN h hcp1 hcp2 hsz hrz hold hROW hRs hRt hG hi0 hz0 hz1 hz2 hik;go_enter func185,ntmps185;go_upto_region 10 with(at_builtin;refine Lib.wpList_append_run _ rfl _ _ _ _ rfl _ _ rfl rfl _ _ (uh HRZ _) ?_)
 obtain⟨W1,hW1⟩:=aq ((w.alloc (.cells ROW 179)).drew);have hcq:=uh HCP1 3 W1 (uh HW1 _ (by rw[hW1];rfl)).1 (uh HW1 _ (by rw[hW1];rfl)).2;have HE2:=ab (uh HW2 ((W1.setRow w.heap.size c1).drew) (by rw[hW1];rfl));have HE3:=ab (uh HFIN (((W1.setRow w.heap.size c1).drew).setRow w.heap.size c2) (by rw[hW1];rfl) (by rw[hW1];rfl) (by rw[hW1];rfl) (by rw[hW1];rfl));rw[<-hW1];clear hW1;go_upto_region 11 with fail;clear hcq;go_region_law (refine step_copy_runI rfl _ _ 132 132 rfl _ _ (by simp[Act.eval,Act.put]) (by simp[Act.eval,Act.put]) (uh HCP2 _ _ (uh HE2).1 (uh HE2).2) ?_);go_wp2_with fail;go_ret;exact⟨⟨_,rfl,(uh HE3).1⟩,(uh HE3).2⟩
theorem As(ev:Value)(es:eU)(i:Nat)(n v:BA)(B vb:Nat)(w:World)(h:fZ w B ev es)(hB:B<=w.heap.size)(hn:es.length<=1500)(hi:i<=es.length)(hv:w.heap[vb]?=some (.cells #[.string n,.string v] 179 (0,0)))(hvo:ev.ownBlock≠some vb): Cl 185 #[ev,.int .i64 (i:Int),.slice (some ⟨vb,0,none⟩) 1 1] w λe w'=>(∃ev',e=.returned ev'/\fZ w' B ev' (es.take i++(n,v)::es.drop i))/\w.grownBy w' ev.ownBlock:=by
 obtain⟨ao,N,cap,rfl⟩:=ar h;have hN:=dL h;have h':w.ownsRow B 179 2 (.slice ao N cap) N (a8 es):=by have:=h;unfold fZ at this;rw[<-hN]at this;exact this
 by_cases hie:i=es.length
 .subst hie;have:=Ju ao N cap es n v B vb w h' hB (by omega) hN hv;rw[hN]at this;rw[List.take_length,List.drop_length,hN];exact this
 obtain⟨g,hg,hc⟩:∃g,ao=some ⟨g,0,none⟩/\N<=cap:=by
  rcases h'.2 with⟨e,e0⟩|⟨g,c,cur,e,_,_,h1,_⟩
  .omega
  injection e with e1 e2 e3;subst e1 e3;exact⟨g,rfl,h1⟩
 subst hg;by_cases hr:N+1<=cap
 .exact FH g N cap i es n v B vb w h' (by omega) hN (by omega) hr hv (λe=>hvo (by rw[e];rfl))
 exact EO g N cap i es n v B vb w h' hB (by omega) hN (by omega) (by omega) hv
def eB(w w':World):Prop:=∀(g:Nat) (cs:Array Value) (t:Nat) (f:Nat×Nat),w.heap[g]?=some (Obj.cells cs t f)->t≠172->t≠134->t≠179->w'.heap[g]?=some (Obj.cells cs t f)
theorem bm.y{w w':World}(h:bm w w'):eB w w':=λg cs t f hg h1 h2 _=>h g cs t f hg h1 h2
theorem eB.trans{a b c:World}(h1:eB a b)(h2:eB b c):eB a c:=λg cs t f h e1 e2 e3=>h2 g cs t f (h1 g cs t f h e1 e2 e3) e1 e2 e3
theorem dc{w w':World}(h:Bw w w'):eB w w':=(ak h).y
theorem gH{w:World}{B:Nat}{ev:Value}{es:eU}(h:fZ w B ev es){g:Nat}(hg:ev.ownBlock=some g):∃cur,w.heap[g]?=some (.cells cur 179 (0,0))/\B<=g:=by
 rcases h.2 with⟨e,_⟩|⟨g',c,cur,e,h0,h1,_⟩
 .rw[e]at hg;cases hg
 rw[e]at hg;have:g'=g:=by simpa[Value.ownBlock]using hg
 subst this;exact⟨cur,h1,h0⟩
theorem oR{w w':World}{B:Nat}{r:Nd}{ns:List Nd}{row:Option Nat}(h:cw w B r ns)(hg:w.grownBy w' row)(hr:∀q,row=some q->KI r ns q):cw w' B r ns:=by refine⟨h.root,λx hx=>?_,h.apart⟩;obtain⟨h1,h2,h3,h4⟩:=h.all x hx;exact⟨h1,h2,(hg.block x.nb (bY h3) (λe=>(hr _ e.symm x hx).1 rfl)).trans h3,World.ownsMap.kept h4 hg (λe=>(hr _ e.symm x hx).2 rfl)⟩
theorem ed.rowGrown{w w':World}{B sb:Nat}{r:Nd}{ns:List Nd}{work:BA}{ev:Value}{es:eU}(h:ed w B sb r ns work ev)(hE:fZ w B ev es)(hg:w.grownBy w' ev.ownBlock):ed w' B sb r ns work ev/\Below B w w'/\eB w w':=by
 have hne:∀q,ev.ownBlock=some q->q≠sb:=λq hq e=>by obtain⟨cur,h1,_⟩:=gH hE hq;subst e;have hh:=h1.symm.trans h.cells;injection hh with hh;injection hh with _ hh _;cases hh
 refine⟨⟨(hg.block sb h.lt (λe=>hne _ e.symm rfl)).trans h.cells,oR h.mem hg (λq hq=>by obtain⟨cur,h1,_⟩:=gH hE hq;exact h.mem.out h1 (by decide)),h.tree,h.lim,dz h.base hg.size⟩,?_,λg cs t f hgg _ _ h179=>?_⟩
 .exact(ju _ _).grown hg h.base (λq hq=>(gH hE hq).choose_spec.2)
 refine(hg.block g (bY hgg) (λe=>?_)).trans hgg;obtain⟨cur,h1,_⟩:=gH hE e.symm;have hh:=h1.symm.trans hgg;injection hh with hh;injection hh with _ hh _;exact h179 hh.symm
theorem ed.setEv{w:World}{B sb:Nat}{r:Nd}{ns:List Nd}{work:BA}{ev ev':Value}(h:ed w B sb r ns work ev)(hsb:B<=sb):ed (w.setCell ⟨sb,2,none⟩ ev') B sb r ns work ev'/\Below B w (w.setCell ⟨sb,2,none⟩ ev')/\bm w (w.setCell ⟨sb,2,none⟩ ev'):=by
 have hc:=oX w sb 2 _ _ ev' h.cells;have hg:w.grownBy (w.setCell ⟨sb,2,none⟩ ev') (some sb):=⟨rfl,rfl,rfl,by simp,λk _ hk=>heap_setCell_other _ _ _ _ (λe=>hk (by rw[e]))⟩
 refine⟨⟨hc,oR h.mem hg (λq hq=>by injection hq with hq;subst hq;exact h.mem.out h.cells (by decide)),h.tree,h.lim,by simpa using h.base⟩,(ju _ _).setCell hsb _,λg cs t f hgg _ h134=>?_⟩;refine(heap_setCell_other _ _ _ _ (λe=>?_)).trans hgg;subst e;have hh:=h.cells.symm.trans hgg;injection hh with hh;injection hh with _ hh _;exact h134 hh.symm
theorem fZ.x{w w':World}{B:Nat}{ev:Value}{es:eU}(h:fZ w B ev es)(hk:bm w w'):fZ w' B ev es:=ap h λq hq=>by obtain⟨cur,h1,_⟩:=gH h hq;exact(hk _ _ _ _ h1 (by decide) (by decide)).trans h1.symm
theorem wR:∀(l:eU) (i:Nat) (n v:BA),i<l.length->a8 (l.set i (n,v))=((a8 l).set (i*2) (.string n)).set (i*2+1) (.string v)
 |p::r,0,n,v,_=>by simp[a8]
 |p::r,i+1,n,v,h=>by rw[show (i+1)*2=i*2+2 by omega];simp only[List.set_cons_succ,a8,wR r i n v (by simpa using h)]
theorem fZ.set{w:World}{B g:Nat}{ev:Value}{es:eU}{i:Nat}{n v:BA}(h:fZ w B ev es)(hi:i<es.length)(hg:ev.ownBlock=some g):fZ ((w.setCell ⟨g,i*2,none⟩ (.string n)).setCell ⟨g,i*2+1,none⟩ (.string v)) B ev (es.set i (n,v))/\w.grownBy ((w.setCell ⟨g,i*2,none⟩ (.string n)).setCell ⟨g,i*2+1,none⟩ (.string v)) ev.ownBlock:=by
 rcases h.2 with⟨e,_⟩|⟨g',cap,cur,e,h0,h1,h2,h3,h4,h5⟩
 .rw[e]at hg;cases hg
 rw[e]at hg;have:g'=g:=by simpa[Value.ownBlock]using hg
 subst this;have hc1:=oX w g' (i*2) _ _ (.string n) h1;have hc2:=oX _ g' (i*2+1) _ _ (.string v) hc1;refine⟨⟨by rw[jG],.inr ⟨g',cap,_,by rw[e,List.length_set],h0,hc2,by rw[List.length_set];exact h2,h3,by simp[h4],?_⟩⟩,?_⟩
 .rw[List.length_set,wR es i n v hi,<-h5];simp[Array.toList_setIfInBounds,List.take_set]
 rw[e];refine⟨rfl,rfl,rfl,by simp,λk _ hk=>?_⟩;have hkg:k≠g':=λe=>hk (by rw[e];rfl);rw[heap_setCell_other _ _ _ _ hkg,heap_setCell_other _ _ _ _ hkg]
theorem zG(sb:Nat)(r:Nd)(ns:List Nd)(work a b:BA)(ev:Value)(es:eU)(ao:OA)(cap:Nat)(ps:List BA)(sv sr:OA)(B:Nat)(w:World)(h:ed w B sb r ns work ev)(hE:fZ w B ev es)(hS:FJ es)(hn:es.length<=1000)(hsb:B<=sb)(hW:jD w ao 2 cap ps)(ha:ps[0]?=some a)(hb:ps[1]?=some b): Cl 148 #[.pointer (some ⟨sb,0,none⟩),.agg #[.slice ao 2 cap,.pointer sv,.pointer sr]] w λe w'=>(e=.returned .nilIface/\∃ev',ed w' B sb r ns work ev'/\fZ w' B ev' (jf es a b))/\Below B w w'/\eB w w':=by
 obtain⟨g,rfl,ca,hn0,hal⟩:=hW.at ha;obtain⟨g',hg',cb,hn1,hbl⟩:=hW.at hb;cases hg';obtain⟨W0,hW0⟩:=aq (w.alloc (.cells #[.slice (some ⟨g,0,none⟩) 2 cap,.pointer sv,.pointer sr] 79));have hb0:=dw hW0;have hc0:=em hW0;have t0:=cq 0 hc0;have xa:=aM hb0 ca;have xb:=aM hb0 cb;have hba:Bw W0 (W0.alloc (.cells #[.string ⟨#[]⟩,.string ⟨#[]⟩] 179)):=eD;have y0:=aM hba t0;have y1:=aM hba xa;have y2:=aM hba xb;have n0:=World.new_ne W0 ⟨g,0,none⟩ xa;have n1:=World.new_ne W0 ⟨w.heap.size,0,none⟩ t0;have hBw0:=h.base;have HST:=ab (h.below hb0);have HER:=ab (hE.below hb0);have HB0:=ab hb0;clear hba hc0 ca cb hW ha hb h hE hb0;go_enter func148,ntmps148;go_upto_region 1 with fail;rw[<-hW0];clear hW0;go_region;obtain⟨W1,hW1⟩:=aq ((W0.alloc (Obj.cells #[Value.string a,Value.string b] 179)).drew);have hb01:Bw W0 W1:=by have hA:Bw W0 (W0.alloc (Obj.cells #[Value.string a,Value.string b] 179)):=eD;rw[hW1];exact⟨hA.os,hA.tape,hA.output,hA.size,hA.block⟩
 have hv1:W1.heap[W0.heap.size]?=some (.cells #[.string a,.string b] 179 (0,0)):=by rw[hW1];exact ft _ _
 rw[<-hW1];clear hW1;obtain⟨vb,hvb⟩:=aq W0.heap.size;rw[<-hvb]at hv1⊢;have v0:=cq 0 hv1;have HST1:=ab ((uh HST).below hb01);have HER1:=ab ((uh HER).below hb01);have HB1:=ab ((uh HB0).trans (hb01.mono (uh HB0).size));have hF:=pB sb ev es a B W1 (cq 2 (uh HST1).cells) (uh HER1) (by omega) hS;have HSO:=ab hS;have HV1:=ab hv1;have hpl:=vk es a.data.toList;obtain⟨eo,en,ec,hev⟩:=ar (uh HER1);subst hev;obtain⟨i,hie⟩:=aq (iw es a.data.toList);rw[<-hie]at hF hpl;have HIE:=ab hie;have HNL:Hid (en=es.length):=ab (dL (uh HER1));have HK:Hid (∀W,Bw W1 W->ed W B sb r ns work (.slice eo en ec)/\fZ W B (.slice eo en ec) es/\Bw w W/\W.heap[vb]?=some (.cells #[.string a,.string b] 179 (0,0))/\W.cell? ⟨sb,2,none⟩=some (.slice eo en ec)):=ab (λW hb=>⟨(uh HST1).below hb,(uh HER1).below hb,(uh HB1).trans (hb.mono (uh HB1).size),(hb.block vb (bY (uh HV1))).trans (uh HV1),aM hb (cq 2 (uh HST1).cells)⟩);have hBw:B<=w.heap.size:=hBw0;clear hie y0 y1 y2 n0 n1 t0 xa xb hb01 hv1 hvb hS HST HER HST1 HER1 HB1 HV1;cases hh:ku es a.data.toList with
 |true=>
  rw[hh]at hF;obtain⟨m,hm⟩:∃m,es[i]?=some m:=by
   unfold ku at hh;rw[<-uh HIE]at hh;cases hx:es[i]? with
   |none=>rw[hx]at hh;cases hh
   |some m=>exact⟨m,rfl⟩
  have hlt:=(sI hm)
  have HPV:Hid (jf es a b=es.set i (a,b)):=ab (by unfold jf;rw[if_pos hh,<-uh HIE]);clear hh;go_upto_region 4 with(go_at_call 104;refine hF.mono ?_;clear hF;rintro e2 w2⟨rfl,hb2⟩)
  obtain⟨hst2,her2,hbw2,hv2,c2⟩:=uh HK w2 hb2;obtain⟨ge,ce,hev,r0,r1⟩:=her2.at hm;injection hev with e1 e2 e3;subst e1 e3;obtain⟨cur,hcur,_⟩:=gH her2 (g:=ge) rfl;have q0:=cq 0 hv2;have q1:=cq 1 hv2;have f0:=frozen_of_row w2 ge (i*2) _ _ hcur;have f1:=frozen_of_row w2 ge (i*2+1) _ _ hcur;have hil:i<en:=by have:=uh HNL;omega
  have HO:Hid (∀W,W.heap=((w2.setCell ⟨ge,i*2,none⟩ (.string a)).setCell ⟨ge,i*2+1,none⟩ (.string b)).heap->W.os=w2.os->W.tape=w2.tape->W.output=w2.output->(∃ev',ed W B sb r ns work ev'/\fZ W B ev' (jf es a b))/\Below B w W/\eB w W):=ab (λW hW h1 h2 h3=>by
   obtain⟨hR,hG⟩:=her2.set (n:=a) (v:=b) hlt (g:=ge) rfl;have hG':w2.grownBy W (Value.slice (some ⟨ge,0,none⟩) en ec).ownBlock:=⟨h1,h2,h3,by rw[hW];exact hG.size,λk hk hn=>by rw[hW];exact hG.block k hk hn⟩
   obtain⟨k1,k2,k3⟩:=hst2.rowGrown her2 hG';refine⟨⟨_,k1,?_⟩,(hbw2.mono hBw).trans k2,(dc hbw2).trans k3⟩;rw[uh HPV];exact ap hR λq _=>by rw[hW])
  clear hst2 her2 hv2 hcur hm hlt e2 hbw2 hb2;go_region;go_wp2_with fail;go_ret;have hq:=uh HO (((w2.setCell ⟨ge,i*2,none⟩ (.string a)).setCell ⟨ge,i*2+1,none⟩ (.string b)).drew) rfl rfl rfl rfl;exact⟨⟨rfl,hq.1⟩,hq.2⟩
 |false=>
  rw[hh]at hF;have HPV:Hid (jf es a b=es.take i++(a,b)::es.drop i):=ab (by unfold jf;rw[if_neg (by rw[hh];simp),<-uh HIE]);clear hh;go_upto_region 5 with(go_at_call 104;refine hF.mono ?_;clear hF;rintro e2 w2⟨rfl,hb2⟩)
  obtain⟨hst2,her2,hbw2,hv2,c2⟩:=uh HK w2 hb2;have q0:=cq 0 hv2;have q1:=cq 1 hv2;have HIN:Hid (∀W:World,W.heap=(w2.alloc (.cells #[.string a,.string b] 179)).heap->W.os=w2.os->W.tape=w2.tape->W.output=w2.output->Cl 185 #[.slice eo en ec,.int .i64 (i:Int),.slice (some ⟨w2.heap.size,0,none⟩) 1 1] W λe w'=>(∃ev',e=.returned ev'/\fZ w' B ev' (jf es a b))/\ed w' B sb r ns work (.slice eo en ec)/\Below B w w'/\eB w w'):=ab (λW hW h1 h2 h3=>by
   have hA:Bw w2 (w2.alloc (.cells #[.string a,.string b] 179)):=eD;have hb:Bw w2 W:=⟨h1,h2,h3,by rw[hW];exact hA.size,λk hk=>by rw[hW];exact hA.block k hk⟩
   have hvn:W.heap[w2.heap.size]?=some (.cells #[.string a,.string b] 179 (0,0)):=by rw[hW];exact ft _ _
   refine(As _ es i a b B w2.heap.size W (her2.below hb) (dz hst2.base hb.size) (by omega) hpl hvn (λe=>?_)).mono ?_
   .obtain⟨cur,hc,_⟩:=gH her2 e;have:=(bY hc)
    omega
   rintro e w'⟨⟨ev',rfl,h4⟩,h5⟩;obtain⟨k1,k2,k3⟩:=(hst2.below hb).rowGrown (her2.below hb) h5;have hbw:Bw w W:=hbw2.trans (hb.mono hbw2.size);exact⟨⟨ev',rfl,by rw[uh HPV];exact h4⟩,k1,(hbw.mono hBw).trans k2,(dc hbw).trans k3⟩)
  have HNE:Hid (vb≠w2.heap.size/\sb≠w2.heap.size):=ab ⟨by have:=(bY hv2);omega,by have:=hst2.lt;omega⟩;have n1:¬vb=w2.heap.size:=(uh HNE).1;have n2:¬sb=w2.heap.size:=(uh HNE).2;have hA:Bw w2 (w2.alloc (.cells #[.string a,.string b] 179)):=eD;have x0:=aM hA q0;have x1:=aM hA q1;have x2:=aM hA c2;clear hst2 her2 hv2 hbw2 hb2 hA;go_region_law (first|(go_simp;go_at_call 185;refine(uh HIN _ (by rfl) (by rfl) (by rfl) (by rfl)).mono ?_;rintro e5 w5⟨⟨ev',rfl,hR5⟩,hS5,hb5,hk5⟩;have z2:w5.cell? ⟨sb,2,none⟩=some (.slice eo en ec):=cq 2 hS5.cells;have fz:=frozen_of_row w5 sb 2 _ _ hS5.cells;have HS5:=ab hS5;have HR5:=ab hR5;obtain⟨o5,n5,c5,he5⟩:=ar hR5;subst he5;clear hS5 hR5));all_goals
   obtain⟨k1,k2,k3⟩:=(uh HS5).setEv (ev':=.slice o5 n5 c5) hsb;have HQ:=ab (And.intro k1 (And.intro ((uh HR5).x k3) (And.intro (hb5.trans k2) (hk5.trans k3.y))));clear k1 k2 k3 hb5 hk5 z2 fz;go_wp2_with fail;go_ret;exact⟨⟨rfl,_,(uh HQ).1,(uh HQ).2.1⟩,(uh HQ).2.2⟩
def sF(env:List (LU×LU))(p:dC):LU:=if p.isVar then rD env p.text.data.toList else p.text.data.toList
def eb(env:List (LU×LU))(l:List dC):LU:=(l.map (sF env)).flatten
theorem jr(env:List (LU×LU))(l:List dC)(p:dC):eb env (l++[p])=eb env l++sF env p:=by simp[eb]
theorem sS(env:List (LU×LU))(xs:List bM):eb env (parts xs)=my env xs:=by
 induction xs using lS with
 |h0=>rfl
 |h1 xs a ih=>
  have e:my env (xs++[a])=my env xs++CK env a:=by simp[my]
  rw[dJ,e,<-ih];cases a with
  |inr pA=>obtain⟨n,k⟩:=pA;show eb env (parts xs++[⟨bt n,true,(k:Int)⟩])=_;rw[jr];simp[sF,CK,bt]
  |inl c=>
   have hc:(bt [c]).data.toList=[c]:=aK _;show eb env (lU (parts xs) (bt [c]))=_;rcases eR (parts xs)with h|⟨qs,p,h,hp⟩
   .rw[iC (by
     rcases h with h|⟨qs,p,h,hp⟩
     .rw[h];intro p hp;cases hp
     rw[h];intro q hq;rw[List.getLast?_append]at hq;simp at hq;subst hq;exact hp),jr]
    simp[sF,CK,hc]
   rw[h,jb hp,jr,jr];simp[sF,CK,hp,bt]
def wK(es:eU):Prop:=∀p∈es,p.2.size<=180
theorem Ba{es:eU}(h:wK es)(t:LU):(rD (cC es) t).length<=180:=by
 unfold rD;split
 .rename_i p hp;have:=List.mem_of_find?_eq_some hp;unfold cC at this;obtain⟨q,hq,rfl⟩:=List.mem_map.1 this;have:=h q hq;rw[im]at this;exact this
 simp
theorem kI{es:eU}(h:wK es):∀(l:List dC),(eb (cC es) l).length<=kA l+180*l.length
 |[]=>by simp[eb]
 |p::r=>by
  have ih:=kI h r;have e:eb (cC es) (p::r)=sF (cC es) p++eb (cC es) r:=by simp[eb]
  have h1:(sF (cC es) p).length<=p.text.size+180:=by
   unfold sF;split
   .have:=Ba h p.text.data.toList;omega
   rw[<-im];omega
  have h2:kA (p::r)=2*p.text.size+3+kA r:=by simp[kA]
  rw[e,qJ,h2,mr];omega
theorem Af(m:aw)(sb:Nat)(es:eU)(B:Nat)(w:World)(h:m.Ok w B)(hl:(parts m.xs).length<=1500)(hz:kA (parts m.xs)<=268435456)(hv:wK es)(HV:Hid (∀W (t:BA),Bw w W->Cl 76 #[.pointer (some ⟨sb,0,none⟩),.string t] W λe w'=>(∃u:BA,e=.returned (.string u)/\Hid (u.data.toList=rD (cC es) t.data.toList))/\Bw W w')): Cl 75 #[m.val,.func (.func 76) #[.pointer (some ⟨sb,0,none⟩)] #[]] w λev w'=>(∃u:BA,ev=.returned (.string u)/\u.data.toList=my (cC es) m.xs)/\Bw w w':=by
 obtain⟨place,v,xs⟩:=m;rw[<-sS];unfold aw.Ok at h;simp only at h hl hz⊢;obtain⟨ps,hps⟩:=aq (parts xs);rw[<-hps]at h hl hz⊢;clear hps;obtain⟨ao,n',cap,hv'⟩:=ar h;have hn':n'=ps.length:=by rw[hv']at h;exact dL h
 subst hv';obtain⟨W0,hW0⟩:=aq (w.alloc (.cells #[.int .i64 (place:Int),.slice ao n' cap] 148));have hb0:=dw hW0;have hz0:W0.heap.size=w.heap.size+1:=by rw[hW0];simp
 have hc0:=em hW0;have p1:=cq 1 hc0;have HN:=ab hn';have HROW:=ab h;have HZ:=ab hz;have HVS:=ab hv;obtain⟨W1,hW1⟩:=aq (W0.alloc (.cells #[.pointer none,.slice none 0 0] 103));have HB1:Hid (Below (w.heap.size+1) W0 W1):=ab (by rw[hW1];exact(ju _ _).alloc (by omega) _);have HBl:Hid (mj (w.heap.size+1) (w.heap.size+1) [] W1):=ab (by rw[hW1,<-hz0];exact nB W0);have p2:=aM ((uh HB1).mono (by omega)) p1;have HB0:=ab hb0;have hn15:n'<=1500:=by omega
 clear h hz hc0 hb0 hn' hl hv;go_enter func75,ntmps75;go_upto_region 1 with fail;rw[<-hW0];clear hW0;go_upto_region 2 with fail;rw[<-hW1];clear hW1;go_wp2_with fail;clear p1 p2;go_loopw [11] (λi wr=>∃k:Nat,k<=n'/\i=.int .i64 k/\mj (w.heap.size+1) (w.heap.size+1) (eb (cC es) (ps.take k)) wr/\Below (w.heap.size+1) W0 wr) (λi _=>n'-(intOf i).toNat);case atStart=>exact⟨0,Nat.zero_le _,rfl,uh HBl,uh HB1⟩
 case round=>
  obtain⟨k,hk,rfl,hB,hb⟩:=hrel;have HB:=ab hB;have Hb:=ab hb;clear hB HBl HB1;by_cases hlt:k<n'
  .obtain⟨p,hp⟩:∃p,ps[k]?=some p:=⟨_,pS (by rw[<-uh HN];exact hlt)⟩
   have hbw:=(uh HB0).trans (hb.mono (by omega));have hrow3:=ap (uh HROW) (w':=wr) (λi hi=>hbw.block i (World.ownsRow.lt (uh HROW) i hi).2);obtain⟨g,cp,hv,_,_⟩:=World.ownsRow.form hrow3 (by rw[<-uh HN];omega);injection hv with e1 e2 e3;subst e1 e3;rw[e2]at hrow3;obtain⟨t0,t1,t2⟩:=vK _ k p hp;have hjl:k<ps.length:=by rw[<-uh HN];exact hlt
   have u0:wr.cell? ⟨g,k*3,none⟩=some (.string p.text):=by rw[World.ownsRow.cellAt hrow3 _ (by omega)];exact t0
   have u1:wr.cell? ⟨g,k*3+1,none⟩=some (.bool p.isVar):=by rw[World.ownsRow.cellAt hrow3 _ (by omega)];exact t1
   have u2:wr.cell? ⟨g,k*3+2,none⟩=some (.int .i64 p.place):=by rw[World.ownsRow.cellAt hrow3 _ (by omega)];exact t2
   have hsp:=A1 hp;have hsz:(eb (cC es) (ps.take k)).length+p.text.size+180<=4294967296:=by
    have h1:=kI (uh HVS) (ps.take k);have h2:=uh HZ;have h3:(ps.take k).length<=1500:=by rw[List.length_take];omega
    omega
   have HSZ:=ab hsz;have HS:Hid (eb (cC es) (ps.take (k+1))=eb (cC es) (ps.take k)++sF (cC es) p):=ab (by rw[List.take_add_one,hp];exact jr _ _ _);have n0:=World.new_ne wr ⟨g,k*3,none⟩ u0;obtain⟨W2,hW2⟩:=aq (wr.alloc (.cells #[.string p.text,.bool p.isVar,.int .i64 p.place] 192));have hb2:=dw hW2;have HB2:Hid (Below (w.heap.size+1) W0 W2):=ab (hb.trans (hb2.mono (by have:=hb.size;omega)));have HL2:Hid (mj (w.heap.size+1) (w.heap.size+1) (eb (cC es) (ps.take k)) W2):=ab ((uh HB).later hb2);have hc2:=em hW2;have q0:=cq 0 hc2;have q1:=cq 1 hc2;have hbw2:=hbw.trans (hb2.mono hbw.size);have hVal:=uh HV W2 p.text hbw2;obtain⟨pv,hpv⟩:=aq p.isVar;have HF:Hid (sF (cC es) p=if pv=true then rD (cC es) p.text.data.toList else p.text.data.toList):=ab (by rw[hpv];rfl);rw[<-hpv]at u1 hW2 q1;clear hp hbw hbw2 hrow3 t0 t1 t2 hjl hsp hsz hb2 hc2 hb HB Hb e2 hpv;go_upto_region 5 with fail;rw[<-hW2];clear hW2 u0 u1 u2 n0;cases pv with
   |false=>
    go_wp2_with (go_at_call 36;refine(Mt _ _ _ _ _ (uh HL2) ?_).mono ?_;(have hh:=uh HSZ;omega);rintro ev w3⟨rfl,hB3,hb3⟩)
    go_roundw;case rel=>exact⟨k+1,hlt,by go_num,by rw[uh HS,uh HF];exact hB3,(uh HB2).trans hb3⟩
    case measure=>simp[intOf];omega
   |true=>
    go_wp2_with (first|(go_at_call 76;refine hVal.mono ?_;clear hVal;rintro ev w3⟨⟨u,rfl,HU⟩,hb3⟩;have HL3:=ab ((uh HL2).later hb3);have hul:u.size<=180:=(by rw[im,uh HU];exact Ba (uh HVS) _);have HB3:=ab ((uh HB2).trans (hb3.mono (by have:=(uh HB2).size;omega))))|(go_at_call 36;refine(Mt _ _ _ _ _ (uh HL3) ?_).mono ?_;(have hh:=uh HSZ;omega);rintro ev w4⟨rfl,hB4,hb4⟩))
    go_roundw;case rel=>exact⟨k+1,hlt,by go_num,by rw[uh HS,uh HF,if_pos trivial,<-uh HU];exact hB4,(uh HB3).trans hb4⟩
    case measure=>simp[intOf];omega
  have hke:k=n':=by omega
  have hW:=E0 _ _ _ wr (uh HB);have HS:Hid (eb (cC es) (ps.take k)=eb (cC es) ps):=ab (by rw[List.take_of_length_le (by rw[hke,uh HN];exact bH _)]);clear hke hb;go_wp2_with (go_at_call 38;refine hW.mono ?_;clear hW;rintro ev w3⟨rfl,hb3⟩)
  go_ret;exact⟨⟨_,rfl,(List.toList_toArray).trans (uh HS)⟩,((uh HB0).trans ((uh Hb).mono (by omega))).trans (hb3.mono (by omega))⟩
end Go.Proofs.YtjhobnjdfhkohaaGreatDoor.T
