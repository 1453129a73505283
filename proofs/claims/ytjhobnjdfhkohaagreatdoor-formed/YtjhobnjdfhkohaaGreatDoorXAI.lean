import Derived.Test.YtjhobnjdfhkohaaGreatDoorXAH
import Derived.StillTail
set_option linter.all false
set_option maxHeartbeats 4000000
set_option maxRecDepth 100000
namespace Go.Proofs.YtjhobnjdfhkohaaGreatDoor.T
open Go.Proofs.Tryz
open Go.RowKit Go.Maps
def uW(es:eU):List LU:=es.map λp=>p.1.data.toList++[61]++p.2.data.toList
def NM(w:World)(es:eU)(lv iv:Value)(wr:World):Prop:=∃(k:Nat) (us:List BA),k<=es.length/\iv=.int .i64 (k:Int)/\pr wr w.heap.size lv us/\us.map (λu=>u.data.toList)=(uW es).take k/\us.length=k/\Bw w wr
theorem FQ(sb:Nat)(ev:Value)(es:eU)(B:Nat)(w:World)(hc:w.cell? ⟨sb,2,none⟩=some ev)(h:fZ w B ev es)(hn:es.length<=1500)(hz:∀p∈es,p.1.size<=1048576/\p.2.size<=1048576): Cl 49 #[.pointer (some ⟨sb,0,none⟩)] w λe w'=>(∃v us,e=.returned v/\pr w' w.heap.size v us/\us.map (λu=>u.data.toList)=uW es)/\Bw w w':=by
 obtain⟨i0,hi,hz0,hz1,hz2⟩:=info_parts Hf;obtain⟨ao,n,cap,rfl⟩:=ar h;have hnl:n=es.length:=dL h;have HN:=ab hnl;have HR:=ab h;have hn15:n<=1500:=by omega
 have HZ:=ab hz;clear h hn hnl hz;go_enter func49,ntmps49;go_upto_region 3 with fail;go_loopw [3,11] (λlv iv wr=>NM w es lv iv wr) (λ_ iv _=>n-(intOf iv).toNat);case atStart=>exact⟨0,[],Nat.zero_le _,rfl,World.ownsRow_nil _ _ _ _,by simp,rfl,ju _ _⟩
 case round=>
  obtain⟨k,us,hk,rfl,hT,hus,hul,hb⟩:=hrel;obtain⟨lo,ln,lc,rfl⟩:=ar hT;by_cases hlt:k<n
  .obtain⟨m,hm⟩:∃m,es[k]?=some m:=⟨_,pS (by have:=uh HN;omega)⟩
   obtain⟨g,cp,hv,c0,c1⟩:=((uh HR).below hb).at hm;injection hv with e1 e2 e3;subst e1 e3;have n0:=World.new_ne wr ⟨g,k*2,none⟩ c0;obtain⟨W2,hW2⟩:=aq (wr.alloc (.cells #[.string m.1,.string m.2] 179));have hb2:=dw hW2;have hc2:=em hW2;have x0:=cq 0 hc2;have x1:=cq 1 hc2;have hz1':=(uh HZ m (oG hm)).1;have hz2':=(uh HZ m (oG hm)).2;obtain⟨u,hu⟩:=aq (m.1++⟨#[61]⟩++m.2);have hT2:(W2.alloc (.cells #[.string u] 9)).ownsRow w.heap.size 9 1 (.slice lo ln lc) us.length (us.map Value.string):=ap hT λq hq=>(Below.heap_alloc _ _ q (Nat.lt_of_lt_of_le (World.ownsRow.lt hT q hq).2 hb2.size)).trans (hb2.block q (World.ownsRow.lt hT q hq).2);have HT2:=ab hT2;have hb3:Bw w (W2.alloc (.cells #[.string u] 9)):=(hb.trans (hb2.mono hb.size)).alloc (dz hb.size hb2.size) _;have hul15:us.length<=1500:=by omega
   have HNX:Hid (∀w8 v8,w8.ownsRow w.heap.size 9 1 v8 (us.length+1) (us.map Value.string++[.string u])->(W2.alloc (.cells #[.string u] 9)).grownBy w8 (Value.slice lo ln lc).ownBlock->NM w es v8 (.int .i64 ((k+1:Nat):Int)) w8):=ab (λw8 v8 ho hg=>by
    refine⟨k+1,us++[u],by have:=uh HN;omega,rfl,by simpa[pr]using ho,?_,by simp[hul],hb3.grown hg hb3.size (λq hq=>(World.ownsRow.lt hT q hq).1)⟩;have e:(uW es)[k]?=some u.data.toList:=by unfold uW;rw[List.getElem?_map,hm,hu];simp
    rw[List.map_append,hus,List.take_add_one,e];rfl)
   have hs3:w.heap.size<=(W2.alloc (.cells #[.string u] 9)).heap.size:=hb3.size;clear hT hT2 hus hm hb hb2 hb3 hc2 e2;subst hu;go_upto_region 5 with fail;rw[<-hW2];clear hW2 c0 c1 n0;go_wp2_with (at_builtin;refine wpList_append_own _ rfl _ _ 26 rfl w.heap.size 9 i0 _ 1 16 underlying26 hi hz0 hz1 hz2 rfl (by decide) (.slice lo ln lc) us.length (us.map Value.string) rfl (uh HT2) ⟨W2.heap.size,0,none⟩ 1 1 [.string (m.1++⟨#[61]⟩++m.2)] rfl rfl (World.news_of_block (cs:=#[.string (m.1++⟨#[61]⟩++m.2)]) (t:=9) (fr:=(0,0)) (ft _ _)) (by intro u hu;rw[List.mem_singleton]at hu;subst hu;rfl) (by unfold maxLen;omega) (by omega) hs3 ?_;intro v8 w8 hown8 hgrow8 _;have HN8:=ab (uh HNX w8 v8 hown8 hgrow8);obtain⟨o8,n8,c8,hv8⟩:=ar hown8;subst hv8;clear hown8 hgrow8)
   go_roundw;case rel=>exact uh HN8
   case measure=>simp[intOf];omega
  have hkn:k=n:=by have:=uh HN;omega
  have HO:Hid ((∃v us,Ending.returned (Value.slice lo ln lc)=.returned v/\pr wr w.heap.size v us/\us.map (λu=>u.data.toList)=uW es)/\Bw w wr):=ab ⟨⟨_,us,rfl,hT,by rw[hus,hkn,uh HN,List.take_of_length_le (by simp[uW])]⟩,hb⟩;clear hT hus hb hkn;go_wp2_with fail;go_ret;exact uh HO
end Go.Proofs.YtjhobnjdfhkohaaGreatDoor.T
namespace Go.Proofs.YtjhobnjdfhkohaaGreatDoor.T
open Go.Proofs.Tryz
open Go.RowKit
section
variable {F:Fence}{n:Nat}{P:Program}{ops:Array Oper}{md:Region.Mode}{C:World->Prop}
theorem qy{o:Oper}{a:Act}{K:Act->Prop}{K':Act->World->Prop}{Q':Exit->Act->World->Prop}{w:World}(hd:∀c,o.op≠.defer c)(hw:C w)(h:∀a w',C w'->K a->K' a w')(ha:o.askedIn F P a C)(hh:o.quietIn F n P a C K):o.wpIn F n P a w K' Q':=by
 obtain⟨v,h1,h2⟩:=hh;have h3:=h1 w hw;unfold Oper.quietAtIn at h3;unfold Oper.wpIn;refine⟨ha w hw,?_⟩;rw[Oper.semAt_eq _ _ _ hd];generalize (execOp a.eval o).run P w=r at *;cases r with
 |ok x w'=>
  cases x<;>simp only[Oper.quietUponIn]at h3<;>simp only[Oper.uponIn];case value u=>rw[h3.1,h3.2];exact h _ _ hw h2
  case skip=>rw[h3.1,<-h3.2];exact h _ _ hw h2
  case enter f args=>obtain⟨e1,hd,hc⟩:=h3;rw[e1];exact⟨hd,hc.mono λe w'' ⟨he,hw''⟩=>by subst he;exact h _ _ hw'' h2⟩
 |halt x w'=>simp only[Oper.quietUponIn]at h3
theorem qT{i:Nat}{a:Act}{K:Act->Prop}{K':Act->World->Prop}{Q':Exit->Act->World->Prop}{w:World}(hd:∀o∈ops.toList,∀c,o.op≠.defer c)(hC:C w)(h:∀a w',C w'->K a->K' a w')(hh:qOpIn F n P ops C i K a):wpOpIn F n P ops Q' i K' a w:=by
 unfold qOpIn at hh;unfold wpOpIn;split
 .rename_i ho;simp only[ho]at hh;exact h _ _ hC hh
 rename_i o ho;simp only[ho]at hh;obtain⟨ha,hh⟩:=hh;have hm:=Array.mem_toList_iff.2 (Array.mem_of_getElem? ho);split
 .rename_i hw;simp only[hw,if_true]at hh;exact qy (hd o hm) hC h ha hh
 rename_i hw;simp only[hw]at hh;exact⟨ha w hC,h _ _ hC hh⟩
def qv(F:Fence)(n:Nat)(P:Program)(md:Region.Mode)(ops:Array Oper)(C:World->Prop)(m:Nat)(L:Array Bool->Act->Prop):Nat->Array Bool->Act->Prop
 |0,listed,a=>L listed a
 |f+1,listed,a=>
  Region.ready md ops listed≠[]/\∀i∈Region.ready md ops listed,i<m/\qOpIn F n P ops C i (qv F n P md ops C m L f (listed.setIfInBounds i true)) a
theorem kf{m g:Nat}{L:Array Bool->Act->Prop}{Q':Exit->Act->World->Prop}(hd:∀o∈ops.toList,∀c,o.op≠.defer c)(hL:∀listed a w,C w->L listed a->wpAnyIn F n P md ops Q' g listed a w): ∀(f:Nat) (listed:Array Bool) (a:Act) (w:World),C w->qv F n P md ops C m L f listed a->wpAnyIn F n P md ops Q' (f+g) listed a w
 |0,listed,a,w,hw,h=>by rw[Nat.zero_add];exact hL _ _ _ hw h
 |f+1,listed,a,w,hw,h=>by rw[show f+1+g=(f+g)+1 by omega];exact⟨λh0=>absurd h0 h.1,λi hi=>qT hd hw (λa' w' hw' h'=>kf hd hL f _ a' w' hw' h') (h.2 i hi).2⟩
theorem vX{m i:Nat}{oi:Oper}{v:Value}{L:Array Bool->Act->Prop}(hi:ops[i]?=some oi)(hsel:∀(j:Nat) (o:Oper) cs b,ops[j]?=some o->o.op≠.select cs b)(hs:Region.sinkB md ops m=true)(hc:Region.chainB md ops m=true)(hn:m<ops.size)(hin:i<m)(hdone:∀listed a,L listed a->∀j∈Region.ready md ops listed,m<=j): ∀(f:Nat) (listed:Array Bool) (a:Act),HeadInv md ops m listed->(∀j oj,ops[j]?=some oj->j≠i->listed.getD j true=false->(∀e∈oj.after,Region.binds md e=true->e.on≠i)->oi.apart ops oj=true)->i∈Region.ready md ops listed->YieldsQuiet F n P ops C oi v a->qv F n P md ops C m L f (listed.setIfInBounds i true) (a.put oi.dst v)->qv F n P md ops C m L (f+1) listed a:=by
 intro f;induction f with
 |zero=>
  intro listed a inv _ hr hy H;have hun:=(mem_ready.1 hr).1;refine⟨λh=>(by rw[h]at hr;cases hr),λj hj=>?_⟩;have hjn:j<m:=by
   rcases Nat.lt_or_ge j m with h|h
   .exact h
   exact absurd hj (tail_waits hs hc hn inv _ i rfl hin hun j h)
  refine⟨hjn,?_⟩;by_cases hji:j=i
  .subst hji;exact hy.qOpIn hi H
  have:=hdone _ _ H j (ready_mono hj hji);omega
 |succ f ih=>
  intro listed a inv hfree hr hy H;have hun:=(mem_ready.1 hr).1;refine⟨λh=>(by rw[h]at hr;cases hr),λj hj=>?_⟩;have hjn:j<m:=by
   rcases Nat.lt_or_ge j m with h|h
   .exact h
   exact absurd hj (tail_waits hs hc hn inv _ i rfl hin hun j h)
  refine⟨hjn,?_⟩;by_cases hji:j=i
  .subst hji;exact hy.qOpIn hi H
  have h1:=(H.2 j (ready_mono hj hji)).2;obtain⟨hjun,oj,hoj,hall⟩:=mem_ready.1 hj;have hnot:∀e∈oj.after,Region.binds md e=true->e.on≠i:=λe he hb heq=>by have h1:=hall e he hb;rw[heq,getD_both hun]at h1;cases h1
  have h2:=qOpIn_put hoj (hfree j oj hoj hji hjun hnot) (λcs b=>hsel i oi cs b hi) (λcs b=>hsel j oj cs b hoj) hy h1;have hfree':∀k ok,ops[k]?=some ok->k≠i->(listed.setIfInBounds j true).getD k true=false->(∀e∈ok.after,Region.binds md e=true->e.on≠i)->oi.apart ops ok=true:=λk ok hk hki hun hno=>by
   refine hfree k ok hk hki ?_ hno;by_cases hjk:j=k
   .subst hjk;exact hjun
   rw[getD_set_ne true hjk]at hun;exact hun
  refine qOpIn_mono (λa' h3=>ih (listed.setIfInBounds j true) a' (inv.set hj hjn) hfree' (ready_mono hr (Ne.symm hji)) h3.1 ?_) h2;rw[Array.setIfInBounds_comm _ _ hji];exact h3.2
theorem sw{m g:Nat}{Lq:Act->Prop}(hsel:Region.noSelect ops=true)(hs:Region.sinkB md ops m=true)(hc:Region.chainB md ops m=true)(hn:m<ops.size): ∀(l:List Oper) (k:Nat) (listed:Array Bool) (a:Act),(∀j,j<l.length->l[j]?=ops[k+j]?)->k+l.length=m->HeadInv md ops m listed->Region.lexHead md ops g l.length k listed=true->wpQuietIn F n P ops C Lq l a->qv F n P md ops C m (λlisted' a'=>Region.seqB md ops g m listed'=true/\Lq a') l.length listed a
 |[],k,listed,a,_,hk,_,hB,h=>by
  have:k=m:=by simpa using hk
  subst this;exact⟨by simpa[Region.lexHead]using hB,h⟩
 |o::l,k,listed,a,hl,hk,inv,hB,h=>by
  have h0:ops[k]?=some o:=by simpa using(hl 0 (by simp)).symm
  simp only[lC,Region.lexHead,bA]at hB;obtain⟨⟨hr,hf⟩,hB'⟩:=hB;have hkn:k<m:=by simp only[lC]at hk;omega
  have hr':k∈Region.ready md ops listed:=by simpa using hr
  have hst:qOpIn F n P ops C k (wpQuietIn F n P ops C Lq l) a:=by unfold qOpIn;simp only[h0];exact h
  obtain⟨v,hy,hK⟩:=yieldsQuiet_of_qOpIn h0 hst;exact vX h0 (Region.noSelect_spec hsel) hs hc hn hkn (λlisted' a' hL=>seqB_ready hL.1) l.length listed a inv (Region.free_spec h0 hf) hr' hy (sw hsel hs hc hn l (k+1) _ _ (λj hj=>by have:=hl (j+1) (by simp;omega);simpa[Nat.add_assoc,Nat.add_comm 1 j]using this) (by simp only[lC]at hk;omega) (inv.set hr' hkn) hB' hK)
theorem lh{Q':Exit->Act->World->Prop}:∀(l:List Oper) (k:Nat) (listed:Array Bool) (a:Act) (w:World),(∀j,l[j]?=ops[k+j]?)->Region.seqB md ops l.length k listed=true->wpListIn F n P ops Q' l a w->wpAnyIn F n P md ops Q' l.length listed a w
 |[],_,_,_,_,_,hB,h=>⟨by simpa[Region.seqB]using hB,h⟩
 |o::l,k,listed,a,w,hl,hB,h=>by
  have h0:ops[k]?=some o:=by simpa using(hl 0).symm
  simp only[lC,Region.seqB,bA,decide_eq_true_eq]at hB;refine⟨λh1=>(by rw[hB.1]at h1;cases h1),λi hi=>?_⟩;rw[hB.1]at hi;have hik:i=k:=by simpa using hi
  subst hik;have hw:wpOpIn F n P ops Q' i (wpListIn F n P ops Q' l) a w:=by unfold wpOpIn;simp only[h0];exact h
  exact wpOpIn_mono (λa' w' h'=>lh l (i+1) _ a' w' (λj=>by have:=hl (j+1);simpa[Nat.add_assoc,Nat.add_comm 1 j]using this) hB.2 h') hw
theorem oN{id:Nat}{Q:Exit->Act->World->Prop}{a:Act}{w:World}{l:List Oper}(m:Nat)(hm:P.follows .mixedOrders=true)(hB:Region.lexTailB .any l.toArray m=true)(hd:∀o∈l,∀c,o.op≠.defer c)(hC:C w.drew)(h:wpQuietIn F n P l.toArray C (λa'=>∀w',C w'->wpListIn F n P l.toArray Q (l.drop m) a' w') (l.take m) a):(Code.region id l.toArray true).wpIn F n P Q a w:=by
 simp only[Region.lexTailB,bA,decide_eq_true_eq]at hB;obtain⟨⟨⟨⟨hsel,hn⟩,hs⟩,hc⟩,hlex⟩:=hB;have hn':m<l.length:=by simpa using hn
 have htl:(l.take m).length=m:=by simp;omega
 have hdl:(l.drop m).length=l.toArray.size-m:=by simp
 have inv0:HeadInv .any l.toArray m (Array.replicate l.toArray.size false):= ⟨by simp,λj oj _ hl=>(by rw[getD_replicate_false]at hl;cases hl),λt _ ht=>getD_in (by simpa using ht) (getD_replicate_false _ _)⟩
 have H:=sw (md:=.any) (g:=l.toArray.size-m) hsel hs hc hn (l.take m) 0 _ a (λj hj=>by
  have hj':j<m:=by rw[htl]at hj;exact hj
  simp[hj']) (by simpa using htl) inv0 (by rw[htl];exact hlex) h
 refine wpIn_region_any hm ?_;have:=kf (Q':=Q) (g:=l.toArray.size-m) (by simpa using hd) (λlisted a' w' hw' hL=>by have:=lh (md:=.any) (Q':=Q) (l.drop m) m listed a' w' (λj=>by simp[List.getElem?_drop]) (by rw[hdl];exact hL.1) (hL.2 w' hw');rwa [hdl]at this) _ _ _ _ hC H;rw[htl,show m+(l.toArray.size-m)=l.toArray.size by omega]at this;exact this
end
end Go.Proofs.YtjhobnjdfhkohaaGreatDoor.T
namespace Go.Proofs.YtjhobnjdfhkohaaGreatDoor.T
open Go.Proofs.Tryz
open Go.RowKit
def qL:Obj->Bool
 |.cells _ t _=>t != 172&&t != 134
 |o=>!o.isWalk
structure Kx(S:Nat->Prop)(W W':World):Prop where
 size:W.heap.size<=W'.heap.size
 keep:∀k o,W.heap[k]?=some o->(qL o=true\/S k)->W'.heap[k]?=some o
theorem Kx.refl(S:Nat->Prop)(W:World):Kx S W W:=⟨nR _,λ_ _ h _=>h⟩
theorem Kx.trans{S:Nat->Prop}{A B C:World}(h:Kx S A B)(k:Kx S B C):Kx S A C:=⟨nT h.size k.size,λi o h1 h2=>k.keep i o (h.keep i o h1 h2) h2⟩
theorem Kx.below{S:Nat->Prop}{W W':World}(h:Bw W W'):Kx S W W':=⟨h.size,λk _ hk _=>(h.block k (gA hk)).trans hk⟩
structure Kp(B0:Nat)(W W':World):Prop where
 os:W'.os=W.os
 tape:W'.tape=W.tape
 output:W'.output=W.output
 size:W.heap.size<=W'.heap.size
 block:∀k o,W.heap[k]?=some o->(k<B0\/qL o=false)->W'.heap[k]?=some o
theorem Kp.below{B0:Nat}{W W':World}(h:Bw W W'):Kp B0 W W':=⟨h.os,h.tape,h.output,h.size,λk _ hk _=>(h.block k (gA hk)).trans hk⟩
theorem Kp.mono{B0 B1:Nat}{W W':World}(h:Kp B1 W W')(hb:B0<=B1):Kp B0 W W':=⟨h.os,h.tape,h.output,h.size,λk o hk hc=>h.block k o hk (by
 rcases hc with hc|hc
 .exact .inl (by omega)
 exact .inr hc)⟩
theorem Kp.put{B0 l:Nat}{W:World}{o:Obj}(o':Obj)(h1:B0<=l)(h2:W.heap[l]?=some o)(h3:qL o=true):Kp B0 W (W.putObj l o'):= ⟨rfl,rfl,rfl,by simp,λk x hk hc=>(World.putObj_heap_other (λe=>by
 subst e;rw[h2]at hk;cases hk;rcases hc with hc|hc
 .omega
 rw[h3]at hc;cases hc)).trans hk⟩
theorem Kp.set{B0:Nat}{W:World}{p:Addr}{o:Obj}(v:Value)(h1:B0<=p.block)(h2:W.heap[p.block]?=some o)(h3:qL o=true):Kp B0 W (W.setCell p v):= ⟨rfl,rfl,rfl,(KeepsWalks.setCell W p v).size,λk x hk hc=>(Below.heap_setCell _ _ _ k (λe=>by
 subst e;rw[h2]at hk;cases hk;rcases hc with hc|hc
 .omega
 rw[h3]at hc;cases hc)).trans hk⟩
theorem Kx.kp{S:Nat->Prop}{B0:Nat}{w W W':World}(h:Kx S w W)(hk:Kp B0 W W')(h0:w.heap.size<=B0):Kx S w W':= ⟨nT h.size hk.size,λk o h1 h2=>hk.block k o (h.keep k o h1 h2) (.inl (Nat.lt_of_lt_of_le (gA h1) h0))⟩
def xn{β:Type}(B0:Nat)(J:β->World->Prop):Prop:=∀s W W',J s W->Kp B0 W W'->J s W'
def Cd(B0:Nat)(J:World->Prop):Prop:=∀W W',J W->Kp B0 W W'->J W'
structure Kz(E S:Nat->Prop)(W W':World):Prop where
 size:W.heap.size<=W'.heap.size
 keep:∀k o,W.heap[k]?=some o->¬E k->(qL o=true\/S k)->W'.heap[k]?=some o
theorem Kx.tz{E S:Nat->Prop}{A B C:World}(h:Kx S A B)(k:Kz E S B C):Kz E S A C:=⟨nT h.size k.size,λi o h1 h2 h3=>k.keep i o (h.keep i o h1 h3) h2 h3⟩
theorem Kz.kp{E S:Nat->Prop}{B0:Nat}{w W W':World}(h:Kz E S w W)(hk:Kp B0 W W')(h0:w.heap.size<=B0):Kz E S w W':= ⟨nT h.size hk.size,λk o h1 h3 h2=>hk.block k o (h.keep k o h1 h3 h2) (.inl (Nat.lt_of_lt_of_le (gA h1) h0))⟩
def Jt{α:Type}(S:Nat->Prop)(F:Fence)(n:Nat)(P:Program)(g:Nat)(lb:Array Value)(encs:α->Array Value)(xs:List α)(w:World):Prop:=
 ∀(l:Nat) (J:List α->World->Prop) (Jx:World->Prop) (E:Nat->Prop) (W:World),Bw w W->xn W.heap.size J->Cd W.heap.size Jx->(∀k,E k->k<W.heap.size)->(∀pre x W1,J pre W1->pre++[x] <+: xs->YieldAt F (n-1) P l (encs x) W1 λe W'=>(e=.returned (.bool true)/\J (pre++[x]) W'/\Kx S W1 W')\/(e=.returned (.bool false)/\Jx W'/\Kz E S W1 W'))->J [] W->CallsIn F n P g (#[.func (.yield l) #[] #[]]++lb) W λe W'=>(∃v,e=.returned v)/\(J xs W'\/Jx W')
def MS{α:Type}(E S:Nat->Prop)(I:List α->World->Prop)(Ix:World->Prop)(s:List α)(W:World):Exit->Act->World->Prop
 |.normal,_,W'=>Kx S W W'/\I s W'
 |.ret,_,W'=>Kz E S W W'/\Ix W'
 |_,_,_=>False
theorem vl{F:Fence}{n:Nat}{P:Program}{α:Type}{g:Operand}{ps:Array Tmp}{assign body:Code}{Q:Exit->Act->World->Prop}{a:Act}{w:World}{S:Nat->Prop}(hro:F.round=none)(h1:1<=n){gf:Nat}{lb:Array Value}(hg:a.eval g=.func (.func gf) #[] lb)(hFg:F.fn gf)(eg:∀args w,(callFunc gf args).run P w=.ok (.enter gf args) w){encs:α->Array Value}{xs:List α}{w0:World}(hseq:Jt S F (n-1) P gf lb encs xs w0)(hb0:Bw w0 w)(hps:∀x,(encs x).size=ps.size)(E:Nat->Prop)(hE:∀k,E k->k<w.heap.size)(I:List α->World->Prop)(Ix:World->Prop)(hI:xn w.heap.size I)(hIx:Cd w.heap.size Ix)(h0:I [] w)(f:Array Value->α->Array Value)(hassign:∀(l:Nat) (x:α) (W:World) (K:Act->World->Prop),K { tmps:=f a.tmps x,defers:=[] } W->
 assign.wpIn (F.inRound l) (n-1-1) P (Exit.then K (λ_ _ _=>False)) { tmps:=(ps.zip (encs x)).foldl (λt (p,v)=>t.setIfInBounds p v) a.tmps,defers:=[] } W)
 (hbody:∀(l:Nat) (pre:List α) (x:α) (W:World),I pre W->pre++[x] <+: xs->body.wpIn (F.inRound l) (n-1-1) P (MS E S I Ix (pre++[x]) W) { tmps:=f a.tmps x,defers:=[] } W)
 (hdone:∀(D:Nat) (W:World),w.heap.size<=D->I xs W->W.heap[D]?=some (.deferred (some []))->Q .normal { a with defers:={ target:=.collected D,args:=#[] }::a.defers } W)
 (hstop:∀(D:Nat) (W:World),w.heap.size<=D->Ix W->W.heap[D]?=some (.deferred (some []))->Code.ret.wpIn F n P Q { a with defers:={ target:=.collected D,args:=#[] }::a.defers } W) :
 (Code.rangeFunc g ps assign body).wpIn F n P Q a w:=by
 refine wpIn_rangeFunc λfn hfn=>?_;rw[hro];obtain⟨D,hD⟩:∃D,w.heap.size=D:=⟨_,rfl⟩
 obtain⟨R,hR⟩:∃R:LoopState->Option Code->Loop,∀st pe,R st pe={ state:=st,pending:=pe,fn,tmps:=a.tmps,params:=ps,assign,body,defers:=D }:=⟨_,λ_ _=>rfl⟩
 obtain⟨V,hV⟩:=aq ((w.alloc (.deferred (some []))).alloc (.loop (R .ready none)));have sV:V.heap.size=D+2:=by rw[hV];simp[hD]
 have vL:V.heap[D+1]?=some (.loop (R .ready none)):=by have:=World.alloc_heap_new (w.alloc (.deferred (some []))) (.loop (R .ready none));rw[World.size_alloc,hD]at this;rw[hV];exact this
 have vD:V.heap[D]?=some (.deferred (some [])):=by have:=World.alloc_heap_new w (.deferred (some []));rw[hD]at this;rw[hV];exact(Below.heap_alloc _ _ _ (by simp[hD])).trans this
 have wV:Bw w V:=by rw[hV];exact((bR _ w).alloc (nR _) _).alloc (by simp) _
 have bV:Bw w0 V:=hb0.trans (wV.mono hb0.size);have hIV:I [] V:=hI _ _ _ h0 (Kp.below wV);rw[hD]at hI hIx hE;have put:∀{s W o}(o':Obj),I s W->W.heap[D+1]?=some o->qL o=true->I s (W.putObj (D+1) o'):=fun {s W o} o' hs hl hc=>hI s W _ hs (Kp.put o' (by omega) hl hc);have putx:∀{W o}(o':Obj),Ix W->W.heap[D+1]?=some o->qL o=true->Ix (W.putObj (D+1) o'):=fun {W o} o' hs hl hc=>hIx W _ hs (Kp.put o' (by omega) hl hc);have hJ:xn V.heap.size (λpre W=>I pre W/\W.heap[D+1]?=some (.loop (R .ready none))/\W.heap[D]?=some (.deferred (some []))):=by intro s A B hs hk;rw[sV]at hk;exact⟨hI s A B hs.1 (hk.mono (by omega)),hk.block _ _ hs.2.1 (.inl (by omega)),hk.block _ _ hs.2.2 (.inl (by omega))⟩
 have hJx:Cd V.heap.size (λW=>Ix W/\W.heap[D+1]?=some (.loop (R .done (some .ret)))/\W.heap[D]?=some (.deferred (some []))):=by intro A B hs hk;rw[sV]at hk;exact⟨hIx A B hs.1 (hk.mono (by omega)),hk.block _ _ hs.2.1 (.inl (by omega)),hk.block _ _ hs.2.2 (.inl (by omega))⟩
 have hcall:=hseq (D+1) _ _ (λk=>E k\/k=D+1) V bV hJ hJx (λk hk=>by
  rcases hk with hk|hk
  .have:=hE k hk;omega
  omega) ?round ⟨hIV,vL,vD⟩
 case round=>
  rintro pre x W⟨hi,hl,hk⟩ hlen;have hlt:D+1<W.heap.size:=(gA hl)
  have hy:=run_yield (P:=P) (args:=encs x) hl (by rw[hR];exact hps x);rw[hR]at hy;have bL:(W.putObj (D+1) (.loop { R .ready none with state:=.busy })).heap[D+1]?=some (.loop { R .ready none with state:=.busy }):=World.putObj_heap_same hlt;have bD:(W.putObj (D+1) (.loop { R .ready none with state:=.busy })).heap[D]?=some (.deferred (some [])):=(World.putObj_heap_other (by omega)).trans hk;refine⟨fn,_,assign,body,hy,roundIn_of_wpIn hfn (hassign _ x W _ ⟨_,run_beginRound hl (by rw[hR]),?_⟩)⟩;refine wpIn_mono (hbody _ pre x _ (put _ hi hl rfl) hlen) ?_;rintro e a3 W3 hp;cases e with
  |normal=>
   obtain⟨hk3,hi3⟩:=hp;have cL:=hk3.keep _ _ bL (.inl rfl);have cE:=run_endRound (P:=P) none cL;rw[hR]at cE cL;have c3:D+1<W3.heap.size:=(gA cL)
   refine⟨_,_,cE,.inl ⟨rfl,⟨put _ hi3 cL rfl,?_,(World.putObj_heap_other (by omega)).trans (hk3.keep _ _ bD (.inl rfl))⟩,⟨?_,λk o hko hoc=>?_⟩⟩⟩
   .rw[hR];exact World.putObj_heap_same c3
   .exact nT (by simp) (nT hk3.size (by simp))
   by_cases hkl:k=D+1
   .subst hkl;rw[hl]at hko;cases hko;rw[hR];exact World.putObj_heap_same c3
   exact(World.putObj_heap_other hkl).trans (hk3.keep _ _ ((World.putObj_heap_other hkl).trans hko) hoc)
  |ret=>
   obtain⟨hk3,hi3⟩:=hp;have nE:∀k,D<=k->¬E k:=λk hk h=>by have:=hE k h;omega
   have cL:=hk3.keep _ _ bL (nE _ (by omega)) (.inl rfl);have cE:=run_endRound (P:=P) (some .ret) cL;rw[hR]at cE cL;have c3:D+1<W3.heap.size:=(gA cL)
   refine⟨_,_,cE,.inr ⟨rfl,⟨putx _ hi3 cL rfl,?_,(World.putObj_heap_other (by omega)).trans (hk3.keep _ _ bD (nE _ (nR _)) (.inl rfl))⟩,⟨?_,λk o hko hne hoc=>?_⟩⟩⟩
   .rw[hR];exact World.putObj_heap_same c3
   .exact nT (by simp) (nT hk3.size (by simp))
   have hkl:k≠D+1:=λe=>hne (.inr e);exact(World.putObj_heap_other hkl).trans (hk3.keep _ _ ((World.putObj_heap_other hkl).trans hko) (λh=>hne (.inl h)) hoc)
  |exit id=>exact hp.elim
  |goto t=>exact hp.elim
  |panic ch=>exact hp.elim
  |outgrown=>exact hp.elim
 refine⟨D+1,[{ target:=.collected D,args:=#[] }],V,{ target:=.fn (.func gf) lb,args:=#[.func (.yield (D+1)) #[] #[]] },V,gf,
  #[.func (.yield (D+1)) #[] #[]]++lb,V,?_,?_,?_,?_,λ_=>h1,?_⟩
 .have e:V=(w.alloc (.deferred (some []))).alloc (.loop { state:=.ready,pending:=none,fn,tmps:=a.tmps,params:=ps,assign,body,defers:=w.heap.size }):=by rw[hV,hR,hD]
  rw[e,<-hD];exact run_enterLoop_outer _ _ _ _ _
 .simp only[resolve,hg];simp[go_sem]
 .intro f' hf';simp[Target.leads]at hf';subst hf';exact hFg
 .simp[invoke,go_sem,eg]
 refine hcall.mono ?_;rintro e W2⟨⟨v,rfl⟩,⟨hi,hl,hk⟩|⟨hi,hl,hk⟩⟩
 .have cE:=run_endLoop (P:=P) hl (by rw[hR];simp);rw[hR]at cE;exact⟨none,_,cE,hdone _ _ (by omega) (put _ hi hl rfl) ((World.putObj_heap_other (by omega)).trans hk)⟩
 have cE:=run_endLoop (P:=P) hl (by rw[hR];simp);rw[hR]at cE;exact⟨some .ret,_,cE,hstop _ _ (by omega) (putx _ hi hl rfl) ((World.putObj_heap_other (by omega)).trans hk)⟩
def M1{α:Type}(S:Nat->Prop)(I:List α->World->Prop)(s:List α)(W:World):Exit->Act->World->Prop
 |.normal,_,W'=>Kx S W W'/\I s W'
 |_,_,_=>False
theorem JO{F:Fence}{n:Nat}{P:Program}{α:Type}{g:Operand}{ps:Array Tmp}{assign body:Code}{Q:Exit->Act->World->Prop}{a:Act}{w:World}{S:Nat->Prop}(hro:F.round=none)(h1:1<=n){gf:Nat}{lb:Array Value}(hg:a.eval g=.func (.func gf) #[] lb)(hFg:F.fn gf)(eg:∀args w,(callFunc gf args).run P w=.ok (.enter gf args) w){encs:α->Array Value}{xs:List α}{w0:World}(hseq:Jt S F (n-1) P gf lb encs xs w0)(_:∀k,S k->k<w.heap.size)(hb0:Bw w0 w)(hps:∀x,(encs x).size=ps.size)(I:List α->World->Prop)(hI:xn w.heap.size I)(h0:I [] w)(f:Array Value->α->Array Value)(hassign:∀(l:Nat) (x:α) (W:World) (K:Act->World->Prop),K { tmps:=f a.tmps x,defers:=[] } W->
 assign.wpIn (F.inRound l) (n-1-1) P (Exit.then K (λ_ _ _=>False)) { tmps:=(ps.zip (encs x)).foldl (λt (p,v)=>t.setIfInBounds p v) a.tmps,defers:=[] } W)
 (hbody:∀(l:Nat) (pre:List α) (x:α) (W:World),I pre W->pre++[x] <+: xs->body.wpIn (F.inRound l) (n-1-1) P (M1 S I (pre++[x]) W) { tmps:=f a.tmps x,defers:=[] } W)
 (hdone:∀(D:Nat) (W:World),w.heap.size<=D->I xs W->W.heap[D]?=some (.deferred (some []))->Q .normal { a with defers:={ target:=.collected D,args:=#[] }::a.defers } W) :
 (Code.rangeFunc g ps assign body).wpIn F n P Q a w:=
 vl hro h1 hg hFg eg hseq hb0 hps (λ_=>False) (λ_ h=>h.elim) I (λ_=>False) hI (λ_ _ h _=>h.elim) h0 f hassign (λl pre x W hi hp=>wpIn_mono (hbody l pre x W hi hp) λe a W' h=>by cases e<;>first|exact h|exact h.elim) hdone (λ_ _ _ h _=>h.elim)
end Go.Proofs.YtjhobnjdfhkohaaGreatDoor.T
namespace Go.Proofs
open Go.Proofs.Tryz
open Go.Shelf
def Tryz.lays101_ren:Go.Shelf.Ren:=⟨fun|101=>214|206=>109|208=>234|n=>n,fun|n=>n,fun|n=>n⟩
theorem Tryz.lays101:Go.Proofs.Lays.n101 Tryz.prog Tryz.lays101_ren:={
 mixed:=by kernel_rfl
 f101:=Tryz.func214.trans (congrArg some (by kernel_rfl))
 f206:=Tryz.func109.trans (congrArg some (by kernel_rfl))
 f208:=Tryz.func234.trans (congrArg some (by kernel_rfl))
 t3:=Tryz.underlying3
 a3:=Tryz.isAgg3
 z3:=Tryz.sizeOf3
 v3:=Tryz.zeroValue3
 t4:=Tryz.underlying4
 a4:=Tryz.isAgg4
 z4:=Tryz.sizeOf4
 v4:=Tryz.zeroValue4
 t9:=Tryz.underlying9
 a9:=Tryz.isAgg9
 z9:=Tryz.sizeOf9
 v9:=Tryz.zeroValue9 }
theorem Tryz.strings_TrimPrefix(s p:ByteArray)(w:World): Calls Tryz.prog 214 #[.string s,.string p] w λe w'=>e=.returned (.string ⟨(Lib.trimPrefix s.data.toList p.data.toList).toArray⟩)/\w'=w:=Any.strings_TrimPrefix Tryz.lays101 s p w
end Go.Proofs
namespace Go.Proofs.YtjhobnjdfhkohaaGreatDoor.T
open Go.RowKit Go.Maps Go.Sort Go.Shelf
theorem KM.kx{S:Nat->Prop}{W W':World}{b n:Nat}{L:List (List UInt8×Nat)}(h:KM W b n L)(hk:Kx S W W')(hb:S b):KM W' b n L:=by obtain⟨es,clock,ho,F,hs,hD⟩:=h;exact⟨es,clock,hk.keep _ _ ho (.inr hb),F,hs,hD⟩
theorem KM.kp{B0:Nat}{W W':World}{b n:Nat}{L:List (List UInt8×Nat)}(h:KM W b n L)(hk:Kp B0 W W'):KM W' b n L:=by obtain⟨es,clock,ho,F,hs,hD⟩:=h;exact⟨es,clock,hk.block _ _ ho (.inr rfl),F,hs,hD⟩
def eS(r:Nd)(ns:List Nd)(k:Nat):Prop:=∃x∈r::ns,k=x.nb\/k=x.mb
theorem Fv{r x:Nd}{ns:List Nd}(h:x∈r::ns):eS r ns x.nb:=⟨x,h,.inl rfl⟩
theorem Fi{r x:Nd}{ns:List Nd}(h:x∈r::ns):eS r ns x.mb:=⟨x,h,.inr rfl⟩
theorem cw.kx{B:Nat}{W W':World}{r:Nd}{ns:List Nd}(h:cw W B r ns)(hk:Kx (eS r ns) W W'):cw W' B r ns:= ⟨h.root,λx hx=>⟨(h.all x hx).1,(h.all x hx).2.1,hk.keep _ _ (h.all x hx).2.2.1 (.inr (Fv hx)),(h.all x hx).2.2.2.kx hk (Fi hx)⟩,h.apart⟩
theorem cw.kp{B B0:Nat}{W W':World}{r:Nd}{ns:List Nd}(h:cw W B r ns)(hk:Kp B0 W W'):cw W' B r ns:= ⟨h.root,λx hx=>⟨(h.all x hx).1,(h.all x hx).2.1,hk.block _ _ (h.all x hx).2.2.1 (.inr rfl),(h.all x hx).2.2.2.kp hk⟩,h.apart⟩
theorem zL(q p:ByteArray)(w:World): Calls Tryz.prog 200 #[.string q,.string p] w λe w'=>e=.returned (.string (bs (Lib.trimPrefix (Lib.trimPrefix q.data.toList p.data.toList) [47])))/\w'=w:=by
 have h1:=Tryz.strings_TrimPrefix q p w;have h2:=Tryz.strings_TrimPrefix (bs (Lib.trimPrefix q.data.toList p.data.toList)) ⟨#[47]⟩ w;rw[dh]at h2;obtain⟨x,hx⟩:∃x,x=bs (Lib.trimPrefix q.data.toList p.data.toList):=⟨_,rfl⟩
 obtain⟨z,hz⟩:∃z,z=bs (Lib.trimPrefix (Lib.trimPrefix q.data.toList p.data.toList) [47]):=⟨_,rfl⟩
 have h1':Calls Tryz.prog 214 #[.string q,.string p] w λe w'=>e=.returned (.string x)/\w'=w:=by rw[hx];exact h1
 have h2':Calls Tryz.prog 214 #[.string x,.string ⟨#[47]⟩] w λe w'=>e=.returned (.string z)/\w'=w:=by rw[hx,hz];exact h2
 rw[<-hz];clear h1 h2 hx hz;go_enter Tryz.func200,Tryz.ntmps200;go_wp2_with (first|(go_at_call 214;refine h1'.mono ?_;clear h1';rintro e w1⟨rfl,rfl⟩)|(go_at_call 214;refine h2'.mono ?_;clear h2';rintro e w1⟨rfl,rfl⟩))
 go_ret;exact⟨rfl,rfl⟩
theorem Mn{p q:List UInt8}(hq:isP q=true)(h:under p q):Lib.trimPrefix (Lib.trimPrefix q p) [47]=iL p q/\iL p q≠[]/\(iL p q).length<=q.length:=by
 obtain⟨_,_,hel⟩:=cR hq;have hq0:q≠[]:=λe=>by subst e;obtain⟨a,u,e⟩:=h;have:=congrArg List.length e;simp[prt_nil]at this
 by_cases hp:p=[]
 .subst hp;have e1:Lib.trimPrefix q []=q:=by simp[Lib.trimPrefix,Lib.hasPrefix]
  have e2:Lib.hasPrefix q [47]=false:=by
   cases q with
   |nil=>exact absurd rfl hq0
   |cons a t=>
    by_cases ha:a=47
    .subst ha;have hm:([]:List UInt8)∈prt (47::t):=by rw[prt_ne (by simp),show (47::t:List UInt8)=[]++47::t from rfl,lP,oy (by simp)];simp
     exact absurd rfl (je (hel _ hm)).2
    simp only[Lib.hasPrefix,List.isPrefixOf];simpa using λe=>ha e.symm
  rw[e1,Lib.trimPrefix,e2,iL,if_pos rfl];exact⟨by simp,hq0,Nat.le_refl _⟩
 have h1:=(uv hp hq).2 h;rw[Lib.hasPrefix,List.isPrefixOf_iff_prefix]at h1;obtain⟨t,ht⟩:=h1;have e1:Lib.trimPrefix q p=47::t:=by rw[Lib.trimPrefix,if_pos (by rw[Lib.hasPrefix,List.isPrefixOf_iff_prefix];exact⟨47::t,by rw[<-ht];simp⟩),<-ht];simp
 have e2:iL p q=t:=by rw[iL,if_neg hp,<-ht,show p.length+1=(p++[47]).length by simp,List.drop_left]
 refine⟨by rw[e1,e2];simp[Lib.trimPrefix,Lib.hasPrefix],?_,by rw[e2,<-ht];simp;omega⟩;rw[e2];rintro rfl;have hm:([]:List UInt8)∈prt q:=by rw[prt_ne hq0,<-ht,show p++[47]++[]=p++47::[] by simp,lP];simp[oy]
 exact absurd rfl (je (hel _ hm)).2
theorem KJ{w:World}{B:Nat}{r:Nd}{ns:List Nd}(h:cw w B r ns){x y:Nd}(hx:x∈r::ns)(hy:y∈r::ns)(hne:x.p≠y.p):x.nb≠y.nb:=λen=>by have h3:=(h.all x hx).2.2.1;have h4:=(h.all y hy).2.2.1;rw[en,h4]at h3;have h5:=congrArg (λo=>match o with|some (Obj.cells cs _ _)=>cs[0]?|_=>none) h3;simp[Nd.cells]at h5;exact hne (by rw[Nd.p,Nd.p,h5])
theorem zn{w w':World}{B:Nat}{r rs:Nd}{ns ns' nss:List Nd}(hM:cw w B r ns)(hs:eh w w' B r ns ns')(hA:∀k,eS rs nss k->k<B):Kx (eS rs nss) w w':=by
 refine⟨hs.below.size,λk o hk hc=>(hs.foot k (Array.getElem?_eq_some_iff.1 hk).1 λx hx=>?_).trans hk⟩;obtain⟨h1,h2,h3,es,clock,h4,_⟩:=hM.all x hx;rcases hc with hc|hc
 .refine⟨λe=>?_,λe=>?_⟩
  .subst e;rw[h3]at hk;cases hk;cases hc
  subst e;rw[h4]at hk;cases hk;cases hc
 have:=hA k hc;exact⟨by omega,by omega⟩
theorem ed.kp{w w':World}{B sb B0:Nat}{r:Nd}{ns:List Nd}{work:ByteArray}{ev:Value}(h:ed w B sb r ns work ev)(hk:Kp B0 w w'):ed w' B sb r ns work ev:= ⟨hk.block _ _ h.cells (.inr rfl),h.mem.kp hk,h.tree,h.lim,Nat.le_trans h.base hk.size⟩
theorem eh.kp{w V V':World}{B B0:Nat}{r:Nd}{ns ns':List Nd}(h:eh w V B r ns ns')(hk:Kp B0 V V')(h0:w.heap.size<=B0)(hB:B<=w.heap.size):eh w V' B r ns ns':=by
 have hz:=h.below.size;have hv:∀k,k<w.heap.size->V'.heap[k]?=V.heap[k]?:=λk hk'=>by
  obtain⟨o,ho⟩:∃o,V.heap[k]?=some o:=⟨_,Array.getElem?_eq_getElem (by omega)⟩
  rw[ho];exact hk.block k o ho (.inl (by omega))
 exact⟨⟨hk.os.trans h.below.os,hk.tape.trans h.below.tape,hk.output.trans h.below.output,Nat.le_trans hz hk.size,λk hk'=>(hv k (by omega)).trans (h.below.block k hk')⟩,λg hg ho=>(hv g hg).trans (h.foot g hg ho),h.grew⟩
theorem yp(d p:List UInt8)(e:aj):∀(l:List aj) (t:List aj),zZ d p t (l++[e])=match zZ d p t l with|.error k=>.error k|.ok t'=>eT t' (fd e (gj d (iL p e.path.data.toList)))
 |[],t=>by simp only[List.nil_append,zZ];cases eT t (fd e (gj d (iL p e.path.data.toList)))<;>rfl
 |x::l,t=>by
  simp only[List.cons_append,zZ];cases eT t (fd x (gj d (iL p x.path.data.toList)))with
  |error k=>rfl
  |ok t'=>exact yp d p e l t'
end Go.Proofs.YtjhobnjdfhkohaaGreatDoor.T
namespace Go.Proofs.YtjhobnjdfhkohaaGreatDoor.T
open Go.Proofs.Tryz
open Go.RowKit Go.Maps Go.Sort Go.Shelf
attribute [local go_sem] Oper.semAt_some
theorem G0{W:World}{b:Nat}{v:Value}{t:TypeId}(h:W.heap[b]?=some (.cells #[v] t (0,0)))(k:Nat):(W.setCell ⟨b,0,none⟩ v).heap[k]?=W.heap[k]?:=by
 by_cases hk:k=b
 .subst hk;rw[oX _ _ _ _ _ _ h,h];rfl
 exact heap_setCell_other _ _ _ _ hk
theorem wY(n:Nat)(hn:1<=n)(Bx B:Nat)(r x:Nd)(ns:List Nd)(w:World)(hx:x∈r::ns)(hM:cw w B r ns)(HO:Hid (cX (ac ns) ns.length))(HS:Hid (∀y∈ns,y.ent.path.size<=1048576))(hN:ns.length<=1000)(hbx:w.heap[Bx]?=some (.cells #[.pointer (some ⟨x.nb,0,none⟩)] 70 (0,0))): Jt (eS r ns) Fence.wide n prog 157 #[.pointer (some ⟨Bx,0,none⟩)] (AK (ns:=ns) (p:=x.p)) (aF ns x.p).attach w:=by
 intro l J Jx E W hW hJ hJx _ hY h0;refine(pz (Kx (eS r ns)) n hn Bx B l r x ns W hx (hM.below hW) HO HS hN ((hW.block _ (bY hbx)).trans hbx) (λg cur V=>It V Bx g x ns cur)
  (λV g cur _ _ hi=>hi) (λ_ _ _ h=>h) (λg cur W1 W2 h hk=>⟨hk.keep _ _ h.box (.inl rfl),hk.keep _ _ h.node (.inr (Fv hx)),h.map.kx hk (Fi hx),hk.keep _ _ h.row (.inl rfl)⟩) J (λ_=>Jx)
  (λW' hb=>hJ [] W W' h0 (Kp.below hb)) (λpre y W1 hj hp=>?_)).mono ?_
 .obtain⟨fn,tmps,assign,body,hy,hR⟩:=hY pre y W1 hj hp;exact⟨fn,tmps,assign,body,hy,hR.mono λe W' h=>h.elim .inl λh=>.inr ⟨h.1,h.2.1⟩⟩
 rintro e W'⟨hv,⟨ys,rfl,hj⟩|⟨pre,_,hf⟩⟩
 .exact⟨hv,.inl hj⟩
 exact⟨hv,.inr hf⟩
theorem Lr(es:List aj)(B B0:Nat)(r:Nd)(ns:List Nd)(HE:Hid (ac ns=es))(HT:Hid (jo es))(l:Nat)(xs:List Nd)(J:List Nd->World->Prop)(Jx:World->Prop)(E:Nat->Prop)(hJ:xn B0 J)(hJx:Cd B0 Jx)(hE:∀k,E k->k<B0)(hY:∀m pre y W1,J pre W1->pre++[y] <+: xs->YieldAt Fence.wide m prog l #[.pointer (some ⟨y.nb,0,none⟩)] W1 λe W'=>(e=.returned (.bool true)/\J (pre++[y]) W'/\Kx (eS r ns) W1 W')\/(e=.returned (.bool false)/\Jx W'/\Kz E (eS r ns) W1 W')): ∀(f:Nat) (x:Nd),x∈r::ns->Hid (Deep es f x.ent)->∀(pre:List Nd) (W:World),B0<=W.heap.size->cw W B r ns->J pre W->pre++dV ns f x <+: xs->Cl 107 #[.pointer (some ⟨x.nb,0,none⟩),.func (.yield l) #[] #[]] W λe W'=>(e=.returned (.bool true)/\J (pre++dV ns f x) W'/\Kx (eS r ns) W W')\/(e=.returned (.bool false)/\Jx W'/\Kz E (eS r ns) W W'):=by
 intro f;induction f with
 |zero=>intro x _ HD;exact absurd rfl (nV (uh HD))
 |succ f ih=>
  intro x hx HD pre W hB0 hM hj hp;rw[dV]at hp⊢;have hlen:ns.length<=600:=by have:=(uh HT).len;rw[<-uh HE]at this;simpa[ac]using this
  have HO:Hid (cX (ac ns) ns.length):=ab (by have h:=(uh HT).ok;rw[<-uh HE]at h;simpa[ac]using h);have HS:Hid (∀y∈ns,y.ent.path.size<=1048576):=ab λy hy=>((uh HT).small y.ent (by rw[<-uh HE];exact List.mem_map.2 ⟨y,hy,rfl⟩)).1;have HP:=ab hp;obtain⟨W2,hW2⟩:=aq ((W.alloc (.cells #[.func (.yield l) #[] #[]] 204)).alloc (.cells #[.bool false] 4));have b2:Bw W W2:=by rw[hW2];exact((ju _ W).alloc (bH _) _).alloc (by simp) _
  have s2:W2.heap.size=W.heap.size+2:=by rw[hW2];simp
  have y2:W2.heap[W.heap.size]?=some (.cells #[.func (.yield l) #[] #[]] 204 (0,0)):=by rw[hW2];exact(Below.heap_alloc _ _ _ (by simp)).trans (ft _ _)
  have r2:W2.heap[W.heap.size+1]?=some (.cells #[.bool false] 4 (0,0)):=by have:=ft (W.alloc (.cells #[.func (.yield l) #[] #[]] 204)) (.cells #[.bool false] 4);rw[World.size_alloc]at this;rw[hW2];exact this
  have hj2:J pre W2:=hJ _ _ _ hj (Kp.below b2);obtain⟨fn,tmps,assign,body,hy,hR⟩:=hY 5 pre x W2 hj2 (List.IsPrefix.trans ⟨((aF ns x.p).map (dV ns f)).flatten,by simp⟩ hp);have c1:=aL 0 y2;have HM:=ab hM;have HY2:=ab y2;have HR2:=ab r2;have hf88:Fence.wide.fn 131:=trivial;clear hM y2 r2 hp hj hj2;refine(callsIn_wide (n:=6)).1 ?_;refine callsIn_of_wp_marks func107 rfl trivial ?_ rfl;simp only[ntmps107,pL,mr,nD,Nat.reduceAdd,Nat.reduceSub,Array.replicate_succ,Array.replicate_zero,List.push_toArray,List.append_toArray,List.nil_append,List.cons_append];gi_wp2;rw[<-hW2,hy];clear hy hW2;gi_wp2;refine hR.mono ?_;clear hR;have nE:∀k,W.heap.size<=k->¬E k:=λk hk h=>by have:=hE k h;omega
  rintro e W3 (⟨rfl,hj3,hc3⟩|⟨rfl,hj3,hc3⟩);rotate_left
  .have cr:=hc3.keep _ _ (uh HR2) (nE _ (by omega)) (.inl rfl);have d1:=aL 0 cr;have d2:W3.frozen? ⟨W.heap.size+1,0,none⟩=false:=by simp[World.frozen?,cr]
   have d3:(W3.setCell ⟨W.heap.size+1,0,none⟩ (.bool false)).cell? ⟨W.heap.size+1,0,none⟩=some (.bool false):=World.cell?_setCell_same' _ _ _ (by rw[d1];rfl);clear ih hY;gi_wp2;refine⟨.bool false,?_,.inr ⟨rfl,hJx _ _ hj3 (Kp.set _ (by show B0<=W.heap.size+1;omega) cr rfl),((Kx.below b2).tz hc3).kp (Kp.set (B0:=W.heap.size+1) _ (bH _) cr rfl) (by omega)⟩⟩;simp[results,results107,go_sem,d3]
  gi_wp2_with (gi_at_call 131;refine(callsIn_wide.2 (mF _ _)).mono ?_;rintro e w4⟨rfl,rfl⟩)
  have s3:=hc3.size;have hcW3:Kx (eS r ns) W W3:=(Kx.below b2).trans hc3;have hM3:=(uh HM).kx hcW3;obtain⟨W4,hW4⟩:=aq (W3.alloc (.cells #[.pointer (some ⟨x.nb,0,none⟩)] 70));have b4:=dw hW4;have s4:W4.heap.size=W3.heap.size+1:=by rw[hW4];simp
  have x4:=em hW4;have hj4:J (pre++x::([].map λk:zg ns x.p=>dV ns f k.1).flatten) W4:=hJ _ _ _ hj3 (Kp.below b4);have hc4:Kx (eS r ns) W3 W4:=Kx.below b4;have hcW4:=hcW3.trans hc4;have hM4:=hM3.kx hc4;have y4:=(hc3.trans hc4).keep _ _ (uh HY2) (.inl rfl);have r4:=(hc3.trans hc4).keep _ _ (uh HR2) (.inl rfl);have hSk:∀k,eS r ns k->k<W4.heap.size:=by
   rintro k⟨z,hz,rfl|rfl⟩
   .exact(GP.1 (hM4.all z hz).2.2.1).1
   exact World.ownsMap.lt (hM4.all z hz).2.2.2
  rw[<-hW4];clear hj3 hc3 hM3 c1 hW4;refine vl (S:=eS r ns) (α:=zg ns x.p) rfl (by omega) (gf:=157) (lb:=#[.pointer (some ⟨W3.heap.size,0,none⟩)]) rfl trivial (enters_of func157 (by kernel_rfl) rfl) (wY 5 (by omega) W3.heap.size B r x ns W4 hx hM4 HO HS (by omega) x4) (ju _ _) (λ_=>rfl) E (λk hk=>by have:=hE k hk;omega) (λp V=>J (pre++x::(p.map λk=>dV ns f k.1).flatten) V/\Kx (eS r ns) W4 V) (λV=>Jx V/\Kz E (eS r ns) W4 V/\V.heap[W.heap.size+1]?=some (.cells #[.bool false] 4 (0,0))) (λs V V' hs hk=>⟨hJ _ _ _ hs.1 (hk.mono (by omega)),hs.2.kp hk (bH _)⟩) (λV V' hs hk=>⟨hJx _ _ hs.1 (hk.mono (by omega)),hs.2.1.kp hk (bH _),hk.block _ _ hs.2.2 (.inl (by omega))⟩) ⟨hj4,Kx.refl _ _⟩ (λt k=>((t.setIfInBounds 13 (.string (nm k.1))).setIfInBounds 14 (.pointer (some ⟨k.1.nb,0,none⟩))).setIfInBounds 6 (.pointer (some ⟨k.1.nb,0,none⟩))) ?assign ?body ?done ?stop;case assign=>intro l' y V K hK;unfold AK;gi_wp2;simpa using hK
  case body=>
   rintro l' p y V⟨hjv,hcv⟩ hpp;have hk:=bW y.2;have hdk:Deep es f y.1.ent:=nf (uh HT).ok (uh HD) (by rw[<-uh HE];show y.1.ent∈pI (ac ns) x.p;rw[nZ];exact List.mem_map.2 ⟨y.1,y.2,rfl⟩);have hpx:pre++x::(p.map λk=>dV ns f k.1).flatten++dV ns f y.1 <+: xs:=by refine List.IsPrefix.trans ?_ (uh HP);obtain⟨t,ht⟩:=AV (f:=f) hpp;exact⟨t,by rw[<-ht,mX];simp⟩
   have sv:=hcv.size;have HIH:=ab (ih y.1 (List.mem_cons_of_mem _ hk.1) (ab hdk) (pre++x::(p.map λk=>dV ns f k.1).flatten) V (by omega) (hM4.kx hcv) hjv hpx);have cy:=aL 0 (hcv.keep _ _ y4 (.inl rfl));have hf106:(Fence.wide.inRound l').fn 107:=trivial;clear ih hpx hpp hdk;have cr:=hcv.keep _ _ r4 (.inl rfl);gi_wp2;refine⟨trivial,?_⟩;gi_at_call 107;refine(CallsIn.inRound l' (callsIn_wide.2 (uh HIH))).mono ?_;rintro e V2 (⟨rfl,hj5,hc5⟩|⟨rfl,hj5,hc5⟩)
   .gi_wp2;refine⟨hc5,?_,hcv.trans hc5⟩;rw[mX];simpa using hj5
   have cq:=hc5.keep _ _ cr (nE _ (by omega)) (.inl rfl);have d1:=aL 0 cq;have d2:V2.frozen? ⟨W.heap.size+1,0,none⟩=false:=by simp[World.frozen?,cq]
   gi_wp2;have hs:=G0 cq;have hz:Kz E (eS r ns) V (V2.setCell ⟨W.heap.size+1,0,none⟩ (.bool false)):=⟨by simpa using hc5.size,λk o h1 h2 h3=>(hs k).trans (hc5.keep k o h1 h2 h3)⟩
   exact⟨hz,hJx _ _ hj5 (Kp.set _ (by show B0<=W.heap.size+1;omega) cq rfl),hcv.tz hz,(hs _).trans cq⟩
  case stop=>
   rintro D V hD⟨hjv,hcv,cr⟩ hK;have c1:=aL 0 cr;have c3:(V.putObj D (.deferred none)).cell? ⟨W.heap.size+1,0,none⟩=some (.bool false):=by rw[ik _ (by show W.heap.size+1≠D;omega)];exact c1
   gi_wp2;refine⟨by simp,.inl ⟨_,_,rfl,run_takeDeferred hK,?_⟩⟩;refine⟨.bool false,?_,.inr ⟨rfl,hJx _ _ hjv (Kp.put _ (by omega) hK rfl),(hcW4.tz hcv).kp (Kp.put (B0:=W.heap.size) _ (by omega) hK rfl) (bH _)⟩⟩;simp[results,results107,go_sem,c3]
  case done=>
   rintro D V hD⟨hjv,hcv⟩ hK;have cr:=hcv.keep _ _ r4 (.inl rfl);have sv:=hcv.size;have c1:=aL 0 cr;have c2:V.frozen? ⟨W.heap.size+1,0,none⟩=false:=by simp[World.frozen?,cr]
   gi_wp2;have hK2:(V.setCell ⟨W.heap.size+1,0,none⟩ (.bool true)).heap[D]?=some (.deferred (some [])):=(KeepsOthers.setCell V ⟨W.heap.size+1,0,none⟩ (.bool true)).same D _ hK rfl;have c3:((V.setCell ⟨W.heap.size+1,0,none⟩ (.bool true)).putObj D (.deferred none)).cell? ⟨W.heap.size+1,0,none⟩=some (.bool true):=by rw[ik _ (by show W.heap.size+1≠D;omega)];exact World.cell?_setCell_same' _ _ _ (by rw[c1];rfl)
   have j1:J (pre++x::((aF ns x.p).map (dV ns f)).flatten) (V.setCell ⟨W.heap.size+1,0,none⟩ (.bool true)):=by rw[<-qS];exact hJ _ _ _ hjv (Kp.set _ (by show B0<=W.heap.size+1;omega) cr rfl)
   have j2:J (pre++x::((aF ns x.p).map (dV ns f)).flatten) ((V.setCell ⟨W.heap.size+1,0,none⟩ (.bool true)).putObj D (.deferred none)):= hJ _ _ _ j1 (Kp.put _ (by omega) hK2 rfl);refine⟨by simp,.inl ⟨_,_,rfl,run_takeDeferred hK2,?_⟩⟩;refine⟨.bool true,?_,.inl ⟨rfl,j2,((hcW4.trans hcv).kp (Kp.set (B0:=W.heap.size+1) _ (bH _) cr rfl) (by omega)).kp (Kp.put (B0:=W.heap.size) _ (by omega) hK2 rfl) (bH _)⟩⟩;simp[results,results107,go_sem,c3]
theorem MW(es:List aj)(B Bx n:Nat)(r x:Nd)(ns:List Nd)(w:World)(HE:Hid (ac ns=es))(HT:Hid (jo es))(hx:x∈r::ns)(hM:cw w B r ns)(hbx:w.heap[Bx]?=some (.cells #[.pointer (some ⟨x.nb,0,none⟩)] 70 (0,0))): Jt (eS r ns) Fence.wide n prog 106 #[.pointer (some ⟨Bx,0,none⟩)] (λy:Nd=>#[.pointer (some ⟨y.nb,0,none⟩)]) (x::aJ ns x.p) w:=by
 intro l J Jx E W hW hJ hJx hE2 hY h0;have c1:=aL 0 ((hW.block _ (bY hbx)).trans hbx);have hd:Deep es (es.length+1) x.ent:=by
  rcases nh.1 hx with rfl|hx
  .rw[hM.root];exact lL es
  obtain⟨k,hk,_,he⟩:=gh hx;rw[uh HE]at he;exact⟨k+1,by simpa using he,by omega⟩
 have hpr:=qR (uh HE) (uh HT).ok _ x hd;have hE:=Lr es B W.heap.size r ns HE HT l (x::aJ ns x.p) J Jx E hJ hJx hE2 (λm pre y W1 hj hp=>qm (hY pre y W1 hj hp)) (es.length+1) x hx (ab hd) [] W (bH _) (hM.below hW) h0 (by rw[hpr];exact List.prefix_refl _);rw[hpr]at hE;have HE2:=ab hE;have hf106:Fence.wide.fn 107:=trivial;clear hE hY h0 hM;refine(callsIn_wide (n:=n)).2 ((callsIn_wide (n:=6)).1 ?_);refine callsIn_of_wp func106 rfl trivial ?_ rfl;simp only[ntmps106,pL,mr,nD,Nat.reduceAdd,Nat.reduceSub,Array.replicate_succ,Array.replicate_zero,List.push_toArray,List.append_toArray,List.nil_append,List.cons_append];gi_wp2_with (gi_at_call 107;refine(callsIn_wide.2 (uh HE2)).mono ?_;rintro e W2 (⟨rfl,hj2,_⟩|⟨rfl,hj2,_⟩))
 .go_end0;exact⟨⟨_,rfl⟩,.inl hj2⟩
 go_end0;exact⟨⟨_,rfl⟩,.inr hj2⟩
end Go.Proofs.YtjhobnjdfhkohaaGreatDoor.T
