import Derived.Test.YtjhobnjdfhkohaaGreatDoorXV
set_option linter.all false
set_option maxHeartbeats 2000000
set_option maxRecDepth 10000
namespace Go.Proofs.YtjhobnjdfhkohaaGreatDoor
open Go.Proofs.Tryz
open Go.RowKit Go.Maps
abbrev pr(w:World)(B:Nat)(v:Value)(us:List BA):Prop:=w.ownsRow B 9 1 v us.length (us.map Value.string)
theorem Hf:(prog.info? 9).map (λi=>(i.zero,i.size,i.bytes))=some (some (.string ByteArray.empty),1,16):=by kernel_rfl
theorem sX{w7 w8:World}{B0:Nat}{us:List BA}{v:Value}{o:Obj}(h:pr w7 B0 v us)(hg:(w7.alloc o).grownBy w8 v.ownBlock)(hB:B0<=w7.heap.size):Below B0 w7 w8/\∀(q:Nat) (cs:Array Value) (t:Nat) (f:Nat×Nat),w7.heap[q]?=some (.cells cs t f)->t≠9->w8.heap[q]?=some (.cells cs t f):=by
 refine⟨((bR _ _).alloc hB _).grown hg (by simp;omega) (λq hq=>(World.ownsRow.lt h q hq).1),λq cs t f hq ht=>?_⟩;have hlt:=(gA hq)
 refine(hg.block q (by simp;omega) (λe=>?_)).trans ((Below.heap_alloc _ _ q hlt).trans hq);rcases h.2 with⟨e',_⟩|⟨g',cap,cur,e',_,hg',_⟩
 .rw[e']at e;cases e
 rw[e']at e;have:q=g':=by simpa[Value.ownBlock]using e
 subst this;rw[hq]at hg';injection hg' with hg';injection hg' with _ hg' _;exact ht hg'
def MR:Array Value:=#[.pointer none,.slice none 0 0,.pointer none,.pointer none,.slice none 0 0,.int .i64 0,.int .i64 0,.int .i64 0,.nilFunc,.nilFunc]
theorem Na{w:World}{b:Nat}{u0 u1 u2 u3 u4 u5 u6 u7 u8 u9:Value}(v0 v1 v2 v3 v4 v5 v6 v7 v8 v9:Value)(h:w.heap[b]?=some (.cells #[u0,u1,u2,u3,u4,u5,u6,u7,u8,u9] 88 (0,0))): ((((((((((w.setCell ⟨b,0,none⟩ v0).setCell ⟨b,1,none⟩ v1).setCell ⟨b,2,none⟩ v2).setCell ⟨b,3,none⟩ v3).setCell ⟨b,4,none⟩ v4).setCell ⟨b,5,none⟩ v5).setCell ⟨b,6,none⟩ v6).setCell ⟨b,7,none⟩ v7).setCell ⟨b,8,none⟩ v8).setCell ⟨b,9,none⟩ v9).heap[b]?=some (.cells #[v0,v1,v2,v3,v4,v5,v6,v7,v8,v9] 88 (0,0)):=by
 have h0:(w.setCell ⟨b,0,none⟩ v0).heap[b]?=some (.cells #[v0,u1,u2,u3,u4,u5,u6,u7,u8,u9] 88 (0,0)):=hS w b 0 _ _ v0 h;obtain⟨w0,e0⟩:∃w',w'=(w.setCell ⟨b,0,none⟩ v0):=⟨_,rfl⟩
 rw[<-e0]at h0⊢;have h1:(w0.setCell ⟨b,1,none⟩ v1).heap[b]?=some (.cells #[v0,v1,u2,u3,u4,u5,u6,u7,u8,u9] 88 (0,0)):=hS w0 b 1 _ _ v1 h0;obtain⟨w1,e1⟩:∃w',w'=(w0.setCell ⟨b,1,none⟩ v1):=⟨_,rfl⟩
 rw[<-e1]at h1⊢;have h2:(w1.setCell ⟨b,2,none⟩ v2).heap[b]?=some (.cells #[v0,v1,v2,u3,u4,u5,u6,u7,u8,u9] 88 (0,0)):=hS w1 b 2 _ _ v2 h1;obtain⟨w2,e2⟩:∃w',w'=(w1.setCell ⟨b,2,none⟩ v2):=⟨_,rfl⟩
 rw[<-e2]at h2⊢;have h3:(w2.setCell ⟨b,3,none⟩ v3).heap[b]?=some (.cells #[v0,v1,v2,v3,u4,u5,u6,u7,u8,u9] 88 (0,0)):=hS w2 b 3 _ _ v3 h2;obtain⟨w3,e3⟩:∃w',w'=(w2.setCell ⟨b,3,none⟩ v3):=⟨_,rfl⟩
 rw[<-e3]at h3⊢;have h4:(w3.setCell ⟨b,4,none⟩ v4).heap[b]?=some (.cells #[v0,v1,v2,v3,v4,u5,u6,u7,u8,u9] 88 (0,0)):=hS w3 b 4 _ _ v4 h3;obtain⟨w4,e4⟩:∃w',w'=(w3.setCell ⟨b,4,none⟩ v4):=⟨_,rfl⟩
 rw[<-e4]at h4⊢;have h5:(w4.setCell ⟨b,5,none⟩ v5).heap[b]?=some (.cells #[v0,v1,v2,v3,v4,v5,u6,u7,u8,u9] 88 (0,0)):=hS w4 b 5 _ _ v5 h4;obtain⟨w5,e5⟩:∃w',w'=(w4.setCell ⟨b,5,none⟩ v5):=⟨_,rfl⟩
 rw[<-e5]at h5⊢;have h6:(w5.setCell ⟨b,6,none⟩ v6).heap[b]?=some (.cells #[v0,v1,v2,v3,v4,v5,v6,u7,u8,u9] 88 (0,0)):=hS w5 b 6 _ _ v6 h5;obtain⟨w6,e6⟩:∃w',w'=(w5.setCell ⟨b,6,none⟩ v6):=⟨_,rfl⟩
 rw[<-e6]at h6⊢;have h7:(w6.setCell ⟨b,7,none⟩ v7).heap[b]?=some (.cells #[v0,v1,v2,v3,v4,v5,v6,v7,u8,u9] 88 (0,0)):=hS w6 b 7 _ _ v7 h6;obtain⟨w7,e7⟩:∃w',w'=(w6.setCell ⟨b,7,none⟩ v7):=⟨_,rfl⟩
 rw[<-e7]at h7⊢;have h8:(w7.setCell ⟨b,8,none⟩ v8).heap[b]?=some (.cells #[v0,v1,v2,v3,v4,v5,v6,v7,v8,u9] 88 (0,0)):=hS w7 b 8 _ _ v8 h7;obtain⟨w8,e8⟩:∃w',w'=(w7.setCell ⟨b,8,none⟩ v8):=⟨_,rfl⟩
 rw[<-e8]at h8⊢;have h9:(w8.setCell ⟨b,9,none⟩ v9).heap[b]?=some (.cells #[v0,v1,v2,v3,v4,v5,v6,v7,v8,v9] 88 (0,0)):=hS w8 b 9 _ _ v9 h8;exact h9
theorem xY{B:Nat}{w w1:World}{b:Nat}(v0 v1 v2 v3 v4 v5 v6 v7 v8 v9:Value)(h:Below B w w1)(hb:B<=b):Below B w ((((((((((w1.setCell ⟨b,0,none⟩ v0).setCell ⟨b,1,none⟩ v1).setCell ⟨b,2,none⟩ v2).setCell ⟨b,3,none⟩ v3).setCell ⟨b,4,none⟩ v4).setCell ⟨b,5,none⟩ v5).setCell ⟨b,6,none⟩ v6).setCell ⟨b,7,none⟩ v7).setCell ⟨b,8,none⟩ v8).setCell ⟨b,9,none⟩ v9):=by
 repeat refine Below.setCell ?_ (p:=⟨b,_,none⟩) hb _
 exact h
theorem Kb{w:World}{B tb:Nat}{v u:Value}{us:List BA}{cs:Array Value}(h:pr w B v us)(ht:w.heap[tb]?=some (.cells cs 79 (0,0))):pr (w.setCell ⟨tb,0,none⟩ u) B v us:=by
 refine ap h λq hq=>heap_setCell_other w ⟨tb,0,none⟩ q u λe=>?_;rcases h.2 with⟨e',_⟩|⟨g',cap,cur,e',_,hg',_⟩
 .rw[e']at hq;cases hq
 rw[e']at hq;have:g'=q:=by simpa[Value.ownBlock]using hq
 subst this;rw[e]at hg';have hh:=ht.symm.trans hg';injection hh with hh;injection hh with _ hh _;cases hh
end Go.Proofs.YtjhobnjdfhkohaaGreatDoor
namespace Go.Proofs.YtjhobnjdfhkohaaGreatDoor.T
open Go.Proofs.Tryz
open Go.RowKit Go.Maps
theorem FL:∀a b:LU,Lib.compareBytes a b=fT a b
 |[],[]=>rfl
 |[],_::_=>rfl
 |_::_,[]=>by simp[Lib.compareBytes,fT,Op.bytesLess]
 |a::x,b::y=>by
  have ih:=FL x y;unfold fT at ih⊢;unfold Lib.compareBytes Op.bytesLess;rw[ih];by_cases h1:a<b
  .simp[h1]
  by_cases h2:b<a
  .have h3:¬a=b:=λe=>by subst e;exact h1 h2
   simp[h1,h2,h3]
  have h3:a=b:=UInt8.toNat_inj.1 (by rw[UInt8.lt_iff_toNat_lt]at h1 h2;omega);subst h3;simp[h1]
theorem Lb:∀(a b:BA) (w:World),(callFunc 190 #[.string a,.string b]).run prog w=.ok (.value (.int .i64 (fT a.data.toList b.data.toList))) w:=λa b w=>by rw[run_callFunc_extern func190 (by kernel_rfl) (by kernel_rfl) (by kernel_rfl) (e:=Extern.BytealgCompare.compare) (by kernel_rfl),Lib.run_compareString,FL];rfl
theorem Lo(a b:BA)(w:World):Cl 156 #[.string a,.string b] w λe w'=>e=.returned (.int .i64 (fT a.data.toList b.data.toList))/\w'=w:=by have hx:=Lb a b;go_enter func156,ntmps156;go_wp2;go_ret;exact⟨rfl,rfl⟩
theorem L3(a b:BA)(w:World):Cl 130 #[.string a,.string b] w λe w'=>e=.returned (.int .i64 (fT a.data.toList b.data.toList))/\w'=w:=by
 go_enter func130,ntmps130;go_wp2_with (go_at_call 156;refine(Lo _ _ _).mono ?_;rintro e1 w1⟨rfl,rfl⟩)
 go_ret;exact⟨rfl,rfl⟩
theorem BI(n v t:BA)(w:World):Cl 129 #[.agg #[.string n,.string v],.string t] w λe w'=>e=.returned (.int .i64 (fT n.data.toList t.data.toList))/\Bw w w':=by
 go_enter func129,ntmps129;go_wp2_with (go_at_call 130;refine(L3 _ _ _).mono ?_;rintro e1 w1⟨rfl,rfl⟩)
 go_ret;exact⟨rfl,eD⟩
abbrev eU:=List (BA×BA)
def a8:eU->List Value
 |[]=>[]
 |p::r=>.string p.1::.string p.2::a8 r
abbrev fZ(w:World)(B:Nat)(ev:Value)(es:eU):Prop:=w.ownsRow B 179 2 ev es.length (a8 es)
theorem Gn:∀(l:eU) (i:Nat) (m:BA×BA),l[i]?=some m->(a8 l)[i*2]?=some (.string m.1)/\(a8 l)[i*2+1]?=some (.string m.2):=by
 intro l;induction l with
 |nil=>intro i m h;simp at h
 |cons a r ih=>
  intro i m h;cases i with
  |zero=>simp at h;subst h;exact⟨rfl,rfl⟩
  |succ i=>have:=ih i m (by simpa using h);rw[show (i+1)*2=i*2+2 by omega];exact⟨this.1,this.2⟩
theorem jG(l:eU):(a8 l).length=l.length*2:=by
 induction l with
 |nil=>rfl
 |cons a r ih=>simp only[a8,lC,ih];omega
def fV(t:LU)(p:BA×BA):Bool:=Op.bytesLess p.1.data.toList t
def FJ(es:eU):Prop:=es.Pairwise λa b=>Op.bytesLess a.1.data.toList b.1.data.toList=true
def iw(es:eU)(t:LU):Nat:=(es.takeWhile (fV t)).length
def ku(es:eU)(t:LU):Bool:=match es[iw es t]? with
 |some m=>m.1.data.toList==t
 |none=>false
theorem vk(es:eU)(t:LU):iw es t<=es.length:=(List.takeWhile_prefix _).length_le
theorem AY(t:LU):∀(es:eU) (i:Nat),i<=es.length->(∀k m,k<i->es[k]?=some m->fV t m=true)->(∀m,es[i]?=some m->fV t m=false)->iw es t=i
 |[],i,h,_,_=>by simp at h;subst h;rfl
 |a::r,0,_,_,h2=>by have:=h2 a rfl;simp[iw,List.takeWhile_cons,this]
 |a::r,i+1,h,h1,h2=>by have h3:=h1 0 a (by omega) rfl;have:=AY t r i (by simpa using h) (λk m hk hm=>h1 (k+1) m (by omega) (by simpa using hm)) (λm hm=>h2 m (by simpa using hm));unfold iw at this⊢;rw[List.takeWhile_cons,h3];simp[this]
theorem Bk(a t:LU):decide (fT a t<0)=Op.bytesLess a t:=by
 unfold fT;split
 .rename_i h;rw[h];rfl
 rename_i h;have h':Op.bytesLess a t=false:=by simpa using h
 rw[h'];split<;>rfl
theorem JV(a t:LU):decide (fT a t=0)=(a==t):=by
 unfold fT;split
 .rename_i h;rw[xV h];rfl
 split
 .rename_i h;rw[h];rfl
 rename_i h;simp only[Bool.not_eq_true]at h;rw[h];rfl
theorem fZ.at{w:World}{B:Nat}{ev:Value}{es:eU}(h:fZ w B ev es){k:Nat}{m:BA×BA}(hk:es[k]?=some m):∃g cap,ev=.slice (some ⟨g,0,none⟩) es.length cap/\w.cell? ⟨g,k*2,none⟩=some (.string m.1)/\w.cell? ⟨g,k*2+1,none⟩=some (.string m.2):=by
 have hl:=(gL hk)
 obtain⟨g,cap,hv,_,_⟩:=World.ownsRow.form h (by omega);subst hv;obtain⟨c0,c1⟩:=Gn es k m hk;exact⟨g,cap,rfl,by rw[World.ownsRow.cellAt h _ (by omega)];exact c0,by rw[World.ownsRow.cellAt h _ (by omega)];exact c1⟩
theorem fZ.below{w w':World}{B:Nat}{ev:Value}{es:eU}(h:fZ w B ev es)(hb:Bw w w'):fZ w' B ev es:=ap h λq hq=>hb.block q (World.ownsRow.lt h q hq).2
def Nx(w:World)(es:eU)(t:LU)(iv jv:Value)(wr:World):Prop:=∃i j:Nat,iv=.int .i64 (i:Int)/\jv=.int .i64 (j:Int)/\i<=j/\j<=es.length/\(∀k m,k<i->es[k]?=some m->fV t m=true)/\(∀m,es[j]?=some m->fV t m=false)/\Bw w wr
theorem Jp(ev:Value)(es:eU)(t:BA)(B:Nat)(w:World)(h:fZ w B ev es)(hn:es.length<=1500)(hs:FJ es): Cl 128 #[ev,.string t,.func (.func 129) #[] #[]] w λe w'=>e=.returned (.tuple #[.int .i64 (iw es t.data.toList:Nat),.bool (ku es t.data.toList)])/\Bw w w':=by
 obtain⟨ao,n,cap,rfl⟩:=ar h;have hnl:=dL h;have HN:=ab hnl;have HR:=ab h;have HS:=ab hs;have hn15:n<=1500:=by omega
 clear h hs hn hnl;go_enter func128,ntmps128;go_wp2_with fail;go_loopw [9,10] (λiv jv wr=>Nx w es t.data.toList iv jv wr) (λiv jv _=>(intOf jv).toNat-(intOf iv).toNat);case atStart=>exact⟨0,n,rfl,rfl,Nat.zero_le _,by rw[uh HN];exact nR _,λk m hk=>absurd hk (by omega),λm hm=>by rw[uh HN]at hm;simp at hm,bR _ _⟩
 case round=>
  obtain⟨i,j,rfl,rfl,hij,hj,h1,h2,hb⟩:=hrel;have H1:=ab h1;have H2:=ab h2;have hjn:j<=n:=by have:=uh HN;omega
  clear h1 h2 hj;by_cases hlt:i<j
  .obtain⟨q,hq⟩:=aq ((i+j) / 2);have hq2:((i:Int)+(j:Int)) / 2=(q:Int):=by omega
   have hqi:i<=q:=by omega
   have hqj:q<j:=by omega
   obtain⟨m,hm0⟩:∃m,es[q]?=some m:=⟨_,gG (by have:=uh HN;omega)⟩
   obtain⟨g,cp,hv,c0,c1⟩:=((uh HR).below hb).at hm0;injection hv with e1 e2 e3;subst e1 e3;have HM:=ab hm0;have HB:=ab hb;have HQ:=ab hq2;have hqn:q<n:=by omega
   have hF:=BI m.1 m.2 t wr;obtain⟨cz,hcz⟩:=aq (fT m.1.data.toList t.data.toList);rw[<-hcz]at hF;have HCZ:=ab hcz;clear hm0 hb hq hq2 e2 hcz;go_upto_region 5 with fail;rw[uh HQ];by_cases hz:cz<0
   .go_wp2_with (go_at_call 129;refine hF.mono ?_;clear hF;rintro e5 w5⟨rfl,hb5⟩)
    go_roundw;case rel=>
     refine⟨q+1,j,by go_num,rfl,by omega,by have:=uh HN;omega,λk m' hk hm'=>?_,uh H2,(uh HB).trans (hb5.mono (uh HB).size)⟩;have hle:fV t.data.toList m=true:=by unfold fV;rw[<-Bk,<-uh HCZ];exact dT hz
     by_cases hkq:k=q
     .subst hkq;rw[uh HM]at hm';injection hm' with hm';subst hm';exact hle
     have hkq':k<q:=by omega
     have hp:=(List.pairwise_iff_getElem.1 (uh HS)) k q (gL hm') (gL (uh HM)) hkq';rw[(eL.1 hm').2,(eL.1 (uh HM)).2]at hp;exact ga hp hle
    case measure=>simp[intOf];omega
   go_wp2_with (go_at_call 129;refine hF.mono ?_;clear hF;rintro e5 w5⟨rfl,hb5⟩)
   go_roundw;case rel=>refine⟨i,q,rfl,rfl,hqi,by have:=uh HN;omega,uh H1,λm' hm'=>?_,(uh HB).trans (hb5.mono (uh HB).size)⟩;rw[uh HM]at hm';injection hm' with hm';subst hm';unfold fV;rw[<-Bk,<-uh HCZ];exact dF (by omega)
   case measure=>simp[intOf];omega
  have hij':i=j:=by omega
  subst hij';have hpe:=AY t.data.toList es i (by have:=uh HN;omega) (uh H1) (uh H2);have HH:Hid (ku es t.data.toList=match es[i]? with|some m=>m.1.data.toList==t.data.toList|none=>false):=ab (by unfold ku;rw[hpe]);have HP:=ab hpe;clear hpe;by_cases hin:i<n
  .obtain⟨m,hm0⟩:∃m,es[i]?=some m:=⟨_,gG (by have:=uh HN;omega)⟩
   obtain⟨g,cp,hv,c0,c1⟩:=((uh HR).below hb).at hm0;injection hv with e1 e2 e3;subst e1 e3;have hF:=BI m.1 m.2 t wr;obtain⟨cz,hcz⟩:=aq (fT m.1.data.toList t.data.toList);rw[<-hcz]at hF;have HB:=ab hb;have HO:Hid (∀W,Bw w W->(Ending.returned (Value.tuple #[.int .i64 (i:Int),.bool (cz==0)])=.returned (.tuple #[.int .i64 (iw es t.data.toList:Nat),.bool (ku es t.data.toList)]))/\Bw w W):=ab (λW hW=>⟨by rw[uh HP,uh HH,hm0];simp only;rw[<-JV,<-hcz];rfl,hW⟩);clear hm0 hb hcz e2;go_wp2_with (go_at_call 129;refine hF.mono ?_;clear hF;rintro e5 w5⟨rfl,hb5⟩)
   refine bodyPost_ret (v:=.tuple #[.int .i64 (i:Int),.bool (cz==0)]) (by simp[results,results128,go_sem]) rfl ?_;exact uh HO w5 ((uh HB).trans (hb5.mono (uh HB).size))
  have HB:=ab hb;have HO:Hid ((Ending.returned (Value.tuple #[.int .i64 (i:Int),.bool false])=.returned (.tuple #[.int .i64 (iw es t.data.toList:Nat),.bool (ku es t.data.toList)]))/\Bw w wr):=ab ⟨by rw[uh HP,uh HH,List.getElem?_eq_none (by have:=uh HN;omega)],hb⟩;clear hb;go_wp2_with fail;refine bodyPost_ret (v:=.tuple #[.int .i64 (i:Int),.bool false]) (by simp[results,results128,go_sem]) rfl ?_;exact uh HO
end Go.Proofs.YtjhobnjdfhkohaaGreatDoor.T
namespace Go.Proofs.YtjhobnjdfhkohaaGreatDoor
open Go.Proofs.Tryz
open Go.RowKit Go.Maps
theorem BX{α:Type}(f:α->Nat):∀(l:List α) (k:Nat) (x:α),l[k]?=some x->((l.take k).map f).sum+f x<=(l.map f).sum:=by
 intro l;induction l with
 |nil=>intro k x h;simp at h
 |cons a r ih=>
  intro k x h;cases k with
  |zero=>simp at h;subst h;simp
  |succ k=>simp only[List.getElem?_cons_succ]at h;have:=ih k x h;simp only[List.take_succ_cons,List.map_cons,List.sum_cons];omega
theorem kJ{α:Type}(g:α->LU)(f:α->Nat)(h:∀x,(g x).length<=f x)(l:List α):((l.map g).flatten).length<=(l.map f).sum:=by
 induction l with
 |nil=>simp
 |cons a r ih=>simp only[List.map_cons,List.flatten_cons,lA,List.sum_cons];have:=h a;omega
theorem tG{α:Type}(g:α->LU)(l:List α)(k:Nat)(x:α)(h:l[k]?=some x):((l.take (k+1)).map g).flatten=((l.take k).map g).flatten++g x:=by rw[List.take_add_one,h];simp
def iI(m:cA):LU:=l7 (m.ws.map aw.xs)++[10]
def pR(l:List cA):LU:=(l.map iI).flatten
def ND(s:ax):LU:=pR s.ins
def eb(ss:List ax):LU:=(ss.map ND).flatten
def MK(m:cA):Nat:=pD (m.ws.map aw.xs)+1
def LT(l:List cA):Nat:=(l.map MK).sum
def Nw(s:ax):Nat:=LT s.ins
def Mu(ss:List ax):Nat:=(ss.map Nw).sum
theorem Jh(m:cA):(iI m).length<=MK m:=by unfold iI MK;rw[lA];have:=oM (m.ws.map aw.xs);simp;omega
theorem xj(l:List cA):(pR l).length<=LT l:=kJ iI MK Jh l
theorem kI(ss:List ax):(eb ss).length<=Mu ss:=kJ ND Nw (λs=>xj s.ins) ss
theorem Dr(B fb:Nat)(sv:Value)(ss:List ax)(w:World)(h:aQ w B fb sv ss)(hz:Mu ss<=268435456): Cl 23 #[.pointer (some ⟨fb,0,none⟩)] w λev w'=>(∃u:BA,ev=.returned (.string u)/\u.data.toList=eb ss)/\Bw w w':=by
 have c0:=h.c0;obtain⟨ao,n',cap,hsv⟩:=ar h.row;have hn':n'=ss.length:=by
  rcases h.row.2 with⟨e,h0⟩|⟨gg,cc,cur,e,_⟩
  .rw[e]at hsv;injection hsv with _ h1 _;rw[<-h1,h0]
  rw[e]at hsv;injection hsv with _ h1 _;exact h1.symm
 have hsh:=h.short;obtain⟨n,hn⟩:=aq ss.length;rw[<-hn]at hn' hsh;subst hn';have HN:=ab hn;have HF:=ab h;have HSV:=ab hsv;have HZ:=ab hz;rw[hsv]at c0;obtain⟨W0,hW0⟩:=aq (w.alloc (.cells #[.pointer none,.slice none 0 0] 103));have hb0:=dw hW0;have HB0:=ab hb0;have HL0:Hid (mj w.heap.size w.heap.size [] W0):=ab (by rw[hW0];exact nB w);have d0:=cL hb0 c0;clear h hz hn hsv hb0 c0;go_enter func23,ntmps23;go_upto_region 2 with fail;rw[<-hW0];clear hW0;go_wp2_with fail;clear d0;go_loopw [13] (λi wr=>∃k:Nat,k<=n'/\i=.int .i64 k/\mj w.heap.size w.heap.size (eb (ss.take k)) wr/\Bw w wr) (λi _=>n'-(intOf i).toNat);case atStart=>exact⟨0,Nat.zero_le _,rfl,uh HL0,uh HB0⟩
 case round=>
  obtain⟨k,hk,rfl,hB,hb⟩:=hrel;have HB:=ab hB;have Hb:=ab hb;clear hB HL0 HB0;by_cases hlt:k<n'
  .obtain⟨s,hs⟩:∃s,ss[k]?=some s:=⟨_,gG (by rw[<-uh HN];exact hlt)⟩
   have hFr:=(uh HF).below hb;have hrow:=hFr.row;obtain⟨g,cap',hv,_,hgl⟩:=World.ownsRow.form hrow (by rw[<-uh HN];omega);have hv2:=uh HSV;rw[hv,<-uh HN]at hv2;injection hv2 with e1 e2 e3;subst e1 e3;clear e2;rw[hv]at hrow;obtain⟨q0,q1⟩:=rJ hrow k s hs;have hok:=hFr.all s (mG hs);obtain⟨aoi,ni,capi,hiv⟩:=ar hok.row;have hni:ni=s.ins.length:=by
    rcases hok.row.2 with⟨e,h0⟩|⟨gg,cc,cur,e,_⟩
    .rw[e]at hiv;injection hiv with _ h1 _;rw[<-h1,h0]
    rw[e]at hiv;injection hiv with _ h1 _;exact h1.symm
   have hish:=hok.short;rw[<-hni]at hish;rw[hiv]at q1;have n0:=World.new_ne wr ⟨g,k*2,none⟩ q0;obtain⟨W1,hW1⟩:=aq (wr.alloc (.cells #[.string s.name,.slice aoi ni capi] 106));have hb1:=dw hW1;have hc1:=em hW1;have p1:=cq 1 hc1;have HB1:Hid (Bw w W1):=ab (hb.trans (hb1.mono hb.size));have HL1:Hid (mj w.heap.size w.heap.size (eb (ss.take k)++pR (s.ins.take 0)) W1):=ab (by have:=(uh HB).later hb1;simpa[pR]using this);have HOK:Hid (s.Ok w B):=ab ((uh HF).all s (mG hs));have HIV:=ab hiv;have HNI:=ab hni;have HSS:=ab (tG ND ss k s hs);have HSZ:=ab (BX Nw ss k s hs);clear hs hFr hrow hv hok hiv hni hb1 hc1 hb;go_upto_region 5 with fail;rw[<-hW1];clear hW1 q0 q1 n0;go_wp2_with fail;clear p1;go_loopw [20] (λi w2=>∃j:Nat,j<=ni/\i=.int .i64 j/\mj w.heap.size w.heap.size (eb (ss.take k)++pR (s.ins.take j)) w2/\Bw w w2) (λi _=>ni-(intOf i).toNat);case atStart=>exact⟨0,Nat.zero_le _,rfl,uh HL1,uh HB1⟩
   case round=>
    obtain⟨j,hj,rfl,hB2,hb2⟩:=hrel;have HB2:=ab hB2;have Hb2:=ab hb2;clear hB2 HL1 HB1;by_cases hlt2:j<ni
    .have hlt3:j<s.ins.length:=by rw[<-uh HNI];exact hlt2
     obtain⟨m,hm⟩:∃m,s.ins[j]?=some m:=⟨_,gG hlt3⟩
     have hokr:=(uh HOK).below hb2;have hrow:=hokr.row;obtain⟨gi,capj,hvi,_,hgil⟩:=World.ownsRow.form hrow (by omega);have hvi2:=uh HIV;rw[hvi,<-uh HNI]at hvi2;injection hvi2 with e1 e2 e3;subst e1 e3;clear e2;rw[hvi]at hrow;obtain⟨q0,q1,q2,q3,q4,q5⟩:=Bu hrow j m hm;have hmok:=hokr.all m (mG hm);obtain⟨aow,nw,capw,hwv⟩:=ar hmok.ws.row;rw[hwv]at q0;have n0:=World.new_ne wr ⟨gi,j*6,none⟩ q0;obtain⟨W2,hW2⟩:=aq (wr.alloc (.cells #[.slice aow nw capw,.int .i64 m.stage,.int .i64 (af m.rule).1,.int .i64 (af m.rule).2.1,aN (af m.rule).2.2.1,aN (af m.rule).2.2.2] 86));have hb3:=dw hW2;have hc1:=em hW2;have r0:=cq 0 hc1;have r1:=cq 1 hc1;have r2:=cq 2 hc1;have r3:=cq 3 hc1;have r4:=cq 4 hc1;have r5:=cq 5 hc1;have hmsz:=BX MK s.ins j m hm;have HLEN:Hid ((eb (ss.take k)++pR (s.ins.take j)).length+(pD (m.ws.map aw.xs)+1)<=268435456):=ab (by have h1:=kI (ss.take k);have h2:=xj (s.ins.take j);have h3:Mu (ss.take k)+LT s.ins<=Mu ss:=uh HSZ;have h4:=uh HZ;have h5:LT (s.ins.take j)+(pD (m.ws.map aw.xs)+1)<=LT s.ins:=hmsz;rw[lA];omega);have hF:=J7 m B W2 (hmok.below hb3) (by have:=uh HLEN;omega);unfold cA.val at hF;rw[hwv]at hF;have HFL:=ab (oM (m.ws.map aw.xs));have HSN:=ab (tG iI s.ins j m hm);have HB3:Hid (Bw w W2):=ab (hb2.trans (hb3.mono hb2.size));have HL3:=ab ((uh HB2).later hb3);clear hm hokr hrow hvi hmok hwv hb3 hc1 hmsz hb2;go_upto_region 8 with fail;rw[<-hW2];clear hW2 q0 q1 q2 q3 q4 q5 n0;go_wp2_with (first|(go_at_call 37;refine hF.mono ?_;clear hF;rintro ev w3⟨⟨u,rfl,hu⟩,hb4⟩;have HU:=ab hu;have HB4:=ab hb4;have HL4:=ab ((uh HL3).later hb4);have hus:u.size<=268435456:=(by have h1:=uh HFL;have h2:=uh HLEN;rw[<-hu,<-zE]at h1;omega);have HV:Hid ((u++{ data:=#[10] }:BA).size=u.size+1):=ab (by rw[ByteArray.size_append];rfl);clear hu hb4)|(go_at_call 36;refine(Mt _ _ _ _ _ (uh HL4) ?_).mono ?_;(have h1:=uh HFL;have h2:=uh HLEN;rw[<-uh HU,<-zE]at h1;rw[uh HV];omega);rintro ev w5⟨rfl,hB5,hb5⟩))
     have HE:Hid (eb (ss.take k)++pR (s.ins.take (j+1))=eb (ss.take k)++pR (s.ins.take j)++(u++{ data:=#[10] }:BA).data.toList):=ab (by have h1:=uh HSN;show _++((s.ins.take (j+1)).map iI).flatten=_;rw[h1,aA];unfold pR iI;rw[<-uh HU];simp);go_roundw;case rel=>exact⟨j+1,hlt2,by go_num,by rw[uh HE];exact hB5,((uh HB3).trans ((uh HB4).mono (uh HB3).size)).trans hb5⟩
     case measure=>simp[intOf];omega
    have hje:j=ni:=by omega
    have HE:Hid (eb (ss.take k)++pR (s.ins.take j)=eb (ss.take (k+1))):=ab (by rw[show s.ins.take j=s.ins from List.take_of_length_le (by rw[hje,uh HNI];exact nR _)];exact(uh HSS).symm);clear hje hb2;go_wp2_with fail;go_roundw;case rel=>exact⟨k+1,hlt,by go_num,by rw[<-uh HE];exact uh HB2,uh Hb2⟩
    case measure=>simp[intOf];omega
  have hke:k=n':=by omega
  have hW:=E0 _ _ _ wr (uh HB);have HS:Hid (eb (ss.take k)=eb ss):=ab (by rw[List.take_of_length_le (by rw[hke,uh HN];exact nR _)]);clear hke hb;go_wp2_with (go_at_call 38;refine hW.mono ?_;clear hW;rintro ev w3⟨rfl,hb3⟩)
  go_ret;exact⟨⟨_,rfl,(List.toList_toArray).trans (uh HS)⟩,(uh Hb).trans hb3⟩
end Go.Proofs.YtjhobnjdfhkohaaGreatDoor
