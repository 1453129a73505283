import Derived.Test.YtjhobnjdfhkohaaGreatDoorXAD
set_option linter.all false
set_option maxHeartbeats 4000000
set_option maxRecDepth 10000
namespace Go.Proofs.YtjhobnjdfhkohaaGreatDoor.T
open Go.Proofs.Tryz
theorem tC{A B:LU}{i:Nat}(h:i<A.length):(A++B).getD i 0=A.getD i 0:=by rw[List.getD_eq_getElem?_getD,List.getElem?_append_left h,<-List.getD_eq_getElem?_getD]
theorem EB{A B:LU}:(A++47::B).getD A.length 0=47:=by rw[List.getD_eq_getElem?_getD,List.getElem?_append_right (nR _)];simp
theorem xX:∀l:LU,((eJ l).headD []).length<l.length->l.getD ((eJ l).headD []).length 0=47
 |[],h=>by simp at h
 |c::r,h=>by
  unfold eJ at h⊢;by_cases hc:c=47
  .rw[if_pos hc];simp[hc]
  rw[if_neg hc]at h⊢;simp only[List.headD_cons,lC]at h⊢;rw[List.getD_cons_succ];exact xX r (by omega)
def Ep(K:Nat)(l:LU):Prop:=∀p,p+K<=l.length->∃i,p<=i/\i<p+K/\l.getD i 0=47
theorem Bz{K:Nat}:∀l:LU,(∀e∈eJ l,e.length<=K)->Ep (K+1) l
 |[],_=>λp hp=>by simp at hp
 |c::r,h=>by
  intro p hp;cases p with
  |zero=>
   have hm:(eJ (c::r)).headD []∈eJ (c::r):=by unfold eJ;split<;>simp
   have h1:=h _ hm;have h2:=xX (c::r) (by omega);exact⟨_,Nat.zero_le _,by omega,h2⟩
  |succ p=>
   have h':∀e∈eJ r,e.length<=K:=by
    intro e he;unfold eJ at h;by_cases hc:c=47
    .rw[if_pos hc]at h;exact h e (List.mem_cons_of_mem _ he)
    rw[if_neg hc]at h;cases hs:eJ r with
    |nil=>exact absurd hs (mp r)
    |cons a t=>
     rw[hs]at he h;rcases mC.1 he with rfl|he
     .have:=h (c::e) (by simp);simp only[lC]at this;omega
     exact h e (List.mem_cons_of_mem _ (by simpa using he))
   obtain⟨i,i1,i2,i3⟩:=Bz r h' p (by simp only[lC]at hp;omega);exact⟨i+1,by omega,by omega,by rw[List.getD_cons_succ];exact i3⟩
theorem yC{l:LU}(h:isP l=true):Ep 61 l:=by
 unfold isP at h;simp only[bA,decide_eq_true_eq]at h;by_cases hl:l=[]
 .subst hl;intro p hp;simp at hp
 rw[prt_ne hl]at h;refine Bz (K:=60) l λe he=>?_;have h1:=List.all_eq_true.1 h.2 e he;unfold gN Be at h1;simp only[bA,Bool.not_eq_true',Bool.or_eq_false_iff,decide_eq_false_iff_not]at h1;omega
theorem Ew{l:LU}(h:Ep 61 l):Ep 69 l:=λp hp=>by obtain⟨i,i1,i2,i3⟩:=h p (by omega);exact⟨i,i1,by omega,i3⟩
theorem ql{A B:LU}(hA:Ep 61 A)(hB:B.length<=68):Ep 69 (A++47::B):=λp hp=>by
 rw[lA,lC]at hp;by_cases h:p+61<=A.length
 .obtain⟨i,i1,i2,i3⟩:=hA p h;exact⟨i,i1,by omega,by rw[tC (by omega)];exact i3⟩
 exact⟨A.length,by omega,by omega,EB⟩
theorem Iv{l:LU}(h:Ep 61 l):Ep 61 (al l):=by
 by_cases hs:47∈l
 .obtain⟨a,b,rfl,hb⟩:=dG hs;rw[(eV hb).1];intro p hp;obtain⟨i,i1,i2,i3⟩:=h p (by simp;omega);exact⟨i,i1,i2,by rw[tC (by omega)]at i3;exact i3⟩
 rw[(eN hs).1];intro p hp;simp at hp
theorem F8{l:LU}(h:isP l=true):(ai l).length<=60/\(al l≠[]->(al l).length+1+(ai l).length=l.length):=by
 have hr:=yC h;have no_slash:∀b:LU,47∉b->∀i,b.getD i 0≠47:=λb hb i e=>by
  rw[List.getD_eq_getElem?_getD]at e;cases hi:b[i]? with
  |none=>rw[hi]at e;cases e
  |some x=>rw[hi]at e;exact hb (by rw[<-show x=47 from e];exact mG hi)
 by_cases hs:47∈l
 .obtain⟨a,b,rfl,hb⟩:=dG hs;rw[(eV hb).1,(eV hb).2];refine⟨?_,λ_=>by simp;omega⟩;by_cases hl:b.length<=60
  .exact hl
  obtain⟨i,i1,i2,i3⟩:=hr (a.length+1) (by simp;omega);rw[List.getD_eq_getElem?_getD,List.getElem?_append_right (by omega),show i-a.length=(i-a.length-1)+1 by omega,List.getElem?_cons_succ,<-List.getD_eq_getElem?_getD]at i3;exact absurd i3 (no_slash b hb _)
 rw[(eN hs).1,(eN hs).2];refine⟨?_,λh=>absurd rfl h⟩;by_cases hl:l.length<=60
 .exact hl
 obtain⟨i,_,_,i3⟩:=hr 0 (by omega);exact absurd i3 (no_slash l hs _)
theorem wA{n:LU}(hr:Ep 69 n)(h1:100<n.length)(h2:n.length<=183): ∃i,((List.range n.length).find? λi=>decide (n.length-101<=i)&&n.getD i 0==47)=some i/\n.length-101<=i/\i<n.length/\i<=155:=by
 obtain⟨j,j1,j2,j3⟩:=hr (n.length-101) (by omega);have hj:(decide (n.length-101<=j)&&n.getD j 0==47)=true:=by rw[j3];simpa using j1
 cases hf:(List.range n.length).find? λi=>decide (n.length-101<=i)&&n.getD i 0==47 with
 |none=>exact absurd hj (List.find?_eq_none.1 hf j (List.mem_range.2 (by omega)))
 |some i=>
  obtain⟨p1,k,hk,ek,hb⟩:=List.find?_eq_some_iff_getElem.1 hf;rw[List.getElem_range]at ek;subst ek;rw[bA,decide_eq_true_eq]at p1;refine⟨k,rfl,p1.1,by simpa using hk,?_⟩;by_cases hkj:k<=j
  .omega
  have h3:=hb j (by omega);rw[List.getElem_range,hj]at h3;cases h3
end Go.Proofs.YtjhobnjdfhkohaaGreatDoor.T
namespace Go.Proofs.YtjhobnjdfhkohaaGreatDoor.T
open Go.Proofs.Tryz
open Go.RowKit
theorem tq{l:LU}(h:l.length<=68):Ep 69 l:=λp hp=>by omega
theorem A4{l:LU}(h:isP l=true):l.length<=170:=by unfold isP at h;simp only[bA,decide_eq_true_eq]at h;exact h.1.1
theorem Hc{c:aj}(h:bT c=true):Ep 69 (aD c)/\(aD c).length<=183:=by
 have hp:=(gW h).1;have hl:=A4 hp;have hr:=yC hp;unfold aD;split
 .exact⟨ql hr (by simp),by simp only[lA,lC,lN];omega⟩
 split
 .have hn:=F8 hp;unfold iI;split
  .exact⟨tq (by simp[xG];omega),by simp[xG];omega⟩
  rename_i hd;have h2:=hn.2 hd;exact⟨ql (Iv hr) (by simp[xG];omega),by simp[xG];omega⟩
 split
 .unfold iI;split
  .exact⟨tq (by simp[o9]),by simp[o9]⟩
  exact⟨ql hr (by simp[o9]),by simp only[o9,lA,lC,lN];omega⟩
 exact⟨Ew hr,by omega⟩
theorem IV{n:LU}(hr:Ep 69 n)(hl:n.length<=183):(aR n).2.length<=100/\(aR n).1.length<=155/\(n.length<=100\/∃i,cT n (n.length-101)=some i):=by
 unfold aR;by_cases h:n.length<=100
 .rw[if_pos h];exact⟨h,by simp,.inl h⟩
 rw[if_neg h];obtain⟨i,h1,h2,h3,h4⟩:=wA hr (by omega) hl;have h1':cT n (n.length-101)=some i:=h1;rw[h1'];refine⟨?_,?_,.inr ⟨i,rfl⟩⟩
 .simp only[List.length_drop];omega
 simp only[List.length_take];omega
theorem lI{c:aj}(h:bT c=true):(c.kind=1\/c.kind=2\/c.kind=3\/c.kind=4\/c.kind=5)/\(0<=c.mode/\c.mode<=511)/\(c.kind=3->c.data.data.toList.length<=100)/\c.data.data.toList.length<=4096/\(c.kind=4->c.path.data.toList≠[]):=by
 unfold bT at h;by_cases hk:c.kind=4\/c.kind=5
 .rw[if_pos hk]at h;simp only[bA,decide_eq_true_eq,Bool.not_eq_true',beq_iff_eq,Bool.and_eq_false_iff,decide_eq_false_iff_not]at h;obtain⟨⟨⟨h1,_⟩,h3⟩,h4⟩:=h;refine⟨by omega,by omega,λh=>by omega,by rw[h4];simp,λh=>?_⟩;rcases h1 with h1|h1
  .exact absurd h h1
  intro e;rw[e]at h1;cases h1
 rw[if_neg hk]at h;have hg:=(aP h).2.2;have hm:=De hg;have hkd:=tR hg;refine⟨by omega,hm,λh3=>?_,?_,λh4=>absurd (Or.inl h4) hk⟩
 .unfold bc at hg;rw[if_neg (by omega),if_neg (by omega),if_pos h3]at hg;simp only[wm,bA,decide_eq_true_eq]at hg;exact hg.2.2
 unfold bc at hg;split at hg
 .simp only[bA,beq_iff_eq]at hg;rw[hg.2];simp
 split at hg
 .simp only[bA,decide_eq_true_eq]at hg;rw[<-zE];exact hg.2
 split at hg
 .simp only[wm,bA,decide_eq_true_eq]at hg;omega
 cases hg
theorem fG{c:aj}(h:bT c=true):NO c:=by
 obtain⟨hk,hm,h3,hd,h4⟩:=lI h;obtain⟨hr,hl⟩:=Hc h;obtain⟨p1,p2,p3⟩:=IV hr hl;have hp:=A4 (gW h).1;refine⟨⟨c.mode.toNat,by omega,by omega,by rw[zE];omega,by rw[zE];omega,h4,by omega,p1,p2,?_,?_⟩,hk,p3⟩
 .unfold eY;split
  .rename_i e;exact h3 e
  simp
 unfold cu;split
 .exact hd
 simp
end Go.Proofs.YtjhobnjdfhkohaaGreatDoor.T
namespace Go.Proofs.YtjhobnjdfhkohaaGreatDoor.T
open Go.Proofs.Tryz
def iz(l:LU):LU:=l.takeWhile (· != 0)
def bz(s:LU)(o n:Nat):LU:=(s.drop o).take n
theorem mP{A B s:LU}{o n:Nat}(hs:A++B <+: s)(hA:A.length=o)(hB:B.length=n):bz s o n=B:=by obtain⟨C,rfl⟩:=hs;subst hA hB;rw[bz,aA,List.drop_left,List.take_left]
theorem pi:∀(t:LU) (k:Nat),0∉t->iz (t++List.replicate k 0)=t
 |[],k,_=>by cases k<;>simp[iz,List.replicate_succ]
 |x::t,k,h=>by have hx:x≠0:=λe=>h (by rw[e];simp);have ih:=pi t k (λe=>h (List.mem_cons_of_mem _ e));unfold iz at ih⊢;rw[List.cons_append,List.takeWhile_cons_of_pos (by simpa using hx),ih]
theorem qj{t:LU}{n:Nat}(h:0∉t):iz (eC t n)=t:=pi t _ h
theorem BR{k:Nat}(h:k<8):(UInt8.ofNat (48+k)).toNat=48+k:=by rw[UInt8.toNat_ofNat'];omega
theorem wN:∀n:Nat,(cW n).all fm=true
 |n=>by
  rw[cW];by_cases h:n<8
  .rw[if_pos h];simp only[List.all_cons,List.all_nil,Bool.and_true,fm];simp;omega
  rw[if_neg h,List.all_append,wN (n / 8)];simp only[List.all_cons,List.all_nil,Bool.and_true,Bool.true_and,fm];have:=Nat.mod_lt n (show 0<8 by omega);simp;omega
theorem D4(l:LU)(b:UInt8):iM (l++[b])=iM l*8+(b.toNat-48):=by simp[iM]
theorem ts:∀n:Nat,iM (cW n)=n
 |n=>by
  rw[cW];by_cases h:n<8
  .rw[if_pos h];show 0*8+((UInt8.ofNat (48+n)).toNat-48)=n;rw[BR h];omega
  rw[if_neg h,D4,ts (n / 8),BR (Nat.mod_lt n (by omega))];omega
theorem rZ(l:LU):∀k:Nat,iM (List.replicate k 48++l)=iM l
 |0=>by simp
 |k+1=>by rw[List.replicate_succ,List.cons_append,iM,List.foldl_cons];exact rZ l k
def qY(v n:Nat):LU:=List.replicate (n-(cW v).length) 48++cW v
theorem su(v n:Nat):(qY v n).all fm=true:=by rw[qY,List.all_append,wN,Bool.and_true,List.all_eq_true];intro b hb;obtain⟨_,rfl⟩:=List.mem_replicate.1 hb;decide
theorem m7(v n:Nat):iM (qY v n)=v:=by rw[qY,rZ,ts]
theorem JS{l:LU}(h:l.all fm=true):(0:UInt8)∉l:=λh0=>by have:=List.all_eq_true.1 h 0 h0;revert this;decide
theorem G6{v n:Nat}(h:(cW v).length<=n):(qY v n).length=n:=by rw[qY,lA,List.length_replicate];omega
theorem Kg(v n:Nat):bq v n=qY v n++List.replicate 1 0:=rfl
theorem pZ(v n:Nat):iz (bq v n)=qY v n:=by rw[Kg];exact pi _ _ (JS (su v n))
theorem MF(n:Nat)(h:0<n):(cW 0).length<=n:=by rw[cW,if_pos (by omega)];simp;omega
structure Lk(c:aj)(s:LU):Prop where
 name:bz s 0 100=eC (aR (aD c)).2 100
 mode:bz s 100 8=bq c.mode.toNat 7
 size:bz s 124 12=bq (cu c).length 11
 kind:bz s 156 1=[gu c]
 link:bz s 157 100=eC (eY c) 100
 ahead:bz s 345 155=eC (aR (aD c)).1 155
 data:bz s 512 (cu c).length=cu c
 len:512+(cu c).length<=s.length
theorem fO{c:aj}(h:NO c)(r:LU):Lk c (az c++r):=by
 obtain⟨m,hm⟩:=h.pkc;have z7:=MF 7 (by omega);have z11:=MF 11 (by omega);have o1:(cW c.mode.toNat).length<=7:=by
  have:=aW 2 c.mode.toNat (by have:=hm.mode;have:=hm.m512;simp;omega)
  omega
 have o2:(cW (cu c).length).length<=11:=by have:=aW 4 (cu c).length (by have:=hm.file;simp;omega);omega
 have o3:=aW 5 (fH c) (by have:=qr hm;simp;omega);have l1:=gV hm.rest;have l2:=gV hm.link;have l3:=gV hm.ahead;have d1:=bg o1;have d2:=bg o2;have d3:=bg o3;have d7:=bg z7;have d11:=bg z11;have hh:=mV hm;have ht:=oe hm;refine⟨?_,?_,?_,?_,?_,?_,?_,?_⟩
 .exact mP (A:=[]) (by simp only[az,ig,iD,aA,List.nil_append,List.prefix_append]) rfl l1
 .exact mP (A:=eC (aR (aD c)).2 100) (by simp only[az,ig,iD,aA,List.prefix_append_right_inj,List.prefix_append]) l1 d1
 .exact mP (A:=eC (aR (aD c)).2 100++bq c.mode.toNat 7++bq 0 7++bq 0 7) (by simp only[az,ig,iD,aA,List.prefix_append_right_inj,List.prefix_append]) (by simp only[lA,l1,d1,d7]) d2
 .exact mP (A:=ig c++bq (fH c) 6++[32]) (by simp only[az,iD,aA,List.prefix_append_right_inj,List.prefix_append]) (by simp only[lA,hh,d3,lC,lN]) rfl
 .exact mP (A:=ig c++bq (fH c) 6++[32]++[gu c]) (by simp only[az,iD,aA,List.prefix_append_right_inj,List.prefix_append]) (by simp only[lA,hh,d3,lC,lN]) l2
 .exact mP (A:=ig c++bq (fH c) 6++[32]++[gu c]++eC (eY c) 100++oO++List.replicate 64 0++bq 0 7++bq 0 7) (by simp only[az,iD,aA,List.prefix_append_right_inj,List.prefix_append]) (by simp only[lA,hh,d3,l2,d7,List.length_replicate,lC,lN,oO]) l3
 .exact mP (A:=ig c++bq (fH c) 6++[32]++iD c) (by simp only[az,aA,List.prefix_append_right_inj,List.prefix_append]) (by simp only[lA,hh,d3,ht,lC,lN]) rfl
 simp only[az,lA,hh,d3,ht,lC,lN];omega
theorem DZ{n:LU}(h:n.head?≠some 47):iI (aR n).1 (aR n).2=n:=by
 unfold aR;by_cases hl:n.length<=100
 .rw[if_pos hl];rfl
 rw[if_neg hl];cases hs:cT n (n.length-101)with
 |none=>rfl
 |some i=>
  obtain⟨h1,h2,h3,h4⟩:=qQ hs;have h5:n=n.take i++47::n.drop (i+1):=by
   conv=>lhs;rw[<-List.take_append_drop i n]
   congr 1;have e:=List.drop_eq_getElem_cons h2;have hb:n[i]=47:=by have h6:=congrArg (λx=>x[i-(n.length-101)]?) h3;simp only[List.getElem?_drop]at h6;rw[List.getElem?_append_right (by rw[List.length_take,List.length_drop];omega),List.length_take,List.length_drop,show n.length-101+(i-(n.length-101))=i by omega,show i-(n.length-101)-min (i-(n.length-101)) (n.length-(n.length-101))=0 by omega,gG h2]at h6;simpa using h6
   rw[e,hb]
  show iI (n.take i) (n.drop (i+1))=n;unfold iI;rw[if_neg,<-h5];intro e;rw[e]at h5;rw[h5]at h;simp at h
theorem LD{x:UInt8}(h:Js x=true):x≠0/\x≠47:=by constructor<;>(rintro rfl;revert h;decide)
theorem uI{x:LU}(h:gN x=true):∀b∈x,b≠0/\b≠47:=by unfold gN at h;rw[bA]at h;exact λb hb=>LD (List.all_eq_true.1 h.2 b hb)
theorem G5{xs:List LU}{b:UInt8}(h:b∈Lib.join xs [47]):b=47\/∃x∈xs,b∈x:=by
 cases xs with
 |nil=>rw[Lib.join_nil]at h;cases h
 |cons x t=>
  rw[Lib.join_cons,mA]at h;rcases h with h|h
  .exact .inr ⟨x,by simp,h⟩
  unfold Lib.joinTail at h;obtain⟨l,hl,hb⟩:=List.mem_flatten.1 h;obtain⟨y,hy,rfl⟩:=List.mem_map.1 hl;rcases mA.1 hb with hb|hb
  .exact .inl (List.mem_singleton.1 hb)
  exact .inr ⟨y,List.mem_cons_of_mem _ hy,hb⟩
theorem IK{l:LU}(h:isP l=true):(0:UInt8)∉l:=by
 by_cases hl:l=[]
 .rw[hl];simp
 unfold isP at h;simp only[bA]at h;rw[prt_ne hl]at h;intro h0;rw[<-kD l]at h0;rcases G5 h0 with e|⟨x,hx,hb⟩
 .cases e
 exact(uI (List.all_eq_true.1 h.2 x hx) 0 hb).1 rfl
theorem zV{l:LU}(h:l.head?=some 47):[]∈eJ l:=by
 cases l with
 |nil=>simp at h
 |cons c r=>simp at h;subst h;unfold eJ;simp
theorem yi{l:LU}(h:isP l=true):l.head?≠some 47:=by
 intro e;by_cases hl:l=[]
 .rw[hl]at e;cases e
 unfold isP at h;simp only[bA]at h;rw[prt_ne hl]at h;have h1:=List.all_eq_true.1 h.2 _ (zV e);revert h1;decide
theorem vm{p:LU}(hp:isP p=true)(h0:p≠[]):iI (al p) (ai p)=p/\gN (ai p)=true:=by
 constructor
 .by_cases hs:47∈p
  .obtain⟨a,b,rfl,hb⟩:=dG hs;rw[(eV hb).1,(eV hb).2,iI,if_neg];rintro rfl;exact yi hp rfl
  rw[(eN hs).1,(eN hs).2];rfl
 have h:=qX hp h0;unfold isP at hp;simp only[bA]at hp;exact List.all_eq_true.1 hp.2 _ (by rw[h];simp)
theorem I6{p:LU}{b:UInt8}(h:b∈al p):b∈p:=by
 by_cases hs:47∈p
 .obtain⟨a,d,rfl,hb⟩:=dG hs;rw[(eV hb).1]at h;simp[h]
 rw[(eN hs).1]at h;cases h
theorem GG{p:LU}(h:p.head?≠some 47):(al p).head?≠some 47:=by
 by_cases hs:47∈p
 .obtain⟨a,d,rfl,hb⟩:=dG hs;rw[(eV hb).1];cases a with
  |nil=>simp
  |cons x t=>simpa using h
 rw[(eN hs).1];simp
theorem BS{d r:LU}(hd:(0:UInt8)∉d)(hr:(0:UInt8)∉r):(0:UInt8)∉iI d r:=by
 unfold iI;split
 .exact hr
 simp[hd,hr]
theorem xd{d r:LU}(hd:d.head?≠some 47)(hr:r.head?≠some 47):(iI d r).head?≠some 47:=by
 unfold iI;split
 .exact hr
 cases d with
 |nil=>exact absurd rfl ‹_›
 |cons x t=>simpa using hd
theorem D6{c:aj}(h:bT c=true):(0:UInt8)∉aD c/\(aD c).head?≠some 47:=by
 have hp:=(gW h).1;have h0:=IK hp;have hh:=yi hp;have hne:=(gW h).2;unfold aD;split
 .rename_i hk;refine⟨by simp[h0],?_⟩;cases he:c.path.data.toList with
  |nil=>have:=hne he;omega
  |cons x t=>rw[he]at hh;simpa using hh
 split
 .rename_i hk;have hpn:c.path.data.toList≠[]:=λe=>by have:=hne e;omega
  have hn:=uI (vm hp hpn).2;exact⟨BS (λe=>h0 (I6 e)) (by simp only[mA,not_or];exact⟨by decide,λe=>(hn 0 e).1 rfl⟩),xd (GG hh) (by simp[xG])⟩
 split
 .exact⟨BS h0 (by decide),xd hh (by decide)⟩
 exact⟨h0,hh⟩
theorem GM{n:LU}(h:(0:UInt8)∉n):(0:UInt8)∉(aR n).1/\(0:UInt8)∉(aR n).2:=by
 unfold aR;split
 .exact⟨by simp,h⟩
 split
 .exact⟨λe=>h (List.mem_of_mem_take e),λe=>h (List.mem_of_mem_drop e)⟩
 exact⟨by simp,h⟩
def vZ(s:LU):LU:=iI (iz (bz s 345 155)) (iz (bz s 0 100))
theorem I0{c:aj}(h:bT c=true)(r:LU):vZ (az c++r)=aD c:=by have hf:=fO (fG h) r;have hg:=D6 h;have hn:=GM hg.1;rw[vZ,hf.ahead,hf.name,qj hn.1,qj hn.2,DZ hg.2]
theorem Fc{c:aj}(h:bT c=true):(0:UInt8)∉eY c:=by
 unfold eY;split
 .rename_i hk;unfold bT at h;rw[if_neg (by omega)]at h;have hg:=(aP h).2.2;unfold bc at hg;rw[if_neg (by omega),if_neg (by omega),if_pos hk]at hg;simp only[wm,bA]at hg;intro e;have:=List.all_eq_true.1 hg.2.1.1 0 e;revert this;decide
 simp
def jF(n:LU):LU×Int:=
 if ai n=o9 then (al n,5)
 else if Lib.hasPrefix (ai n) xG then (iI (al n) ((ai n).drop 4),4)
 else (n,2)
theorem uF{d b:LU}(h:(47:UInt8)∉b):al (iI d b)=d/\ai (iI d b)=b:=by
 unfold iI;split
 .rename_i e;rw[e];exact eN h
 exact eV h
theorem GD{c:aj}(h:bT c=true)(hk:c.kind=2\/c.kind=4\/c.kind=5):jF (aD c)=(c.path.data.toList,c.kind):=by
 have hp:=(gW h).1;have hne:=(gW h).2;have hh:∀{x:LU},gN x=true->Lib.hasPrefix x xG=false:=fun {x} hx=>by unfold gN Be at hx;simp only[bA,Bool.not_eq_true',Bool.or_eq_false_iff]at hx;exact hx.1.2
 rcases hk with hk|hk|hk
 .have hpn:c.path.data.toList≠[]:=λe=>by have:=hne e;omega
  have he:=(vm hp hpn).2;have hn:aD c=c.path.data.toList:=by simp[aD,hk]
  have h1:ai c.path.data.toList≠o9:=λe=>by rw[e]at he;revert he;decide
  rw[hn,jF,if_neg h1,hh he,hk];rfl
 .have hpn:c.path.data.toList≠[]:=λe=>by have:=hne e;omega
  obtain⟨hj,he⟩:=vm hp hpn;have hn:aD c=iI (al c.path.data.toList) (xG++ai c.path.data.toList):=by simp[aD,hk]
  have h47:(47:UInt8)∉xG++ai c.path.data.toList:=by simp only[mA,not_or];exact⟨by decide,λe=>(uI he 47 e).2 rfl⟩
  have h1:xG++ai c.path.data.toList≠o9:=λe=>by
   have e2:ai c.path.data.toList=o9.drop 4:=by rw[<-e];rfl
   rw[e2]at he;revert he;decide
  have h2:Lib.hasPrefix (xG++ai c.path.data.toList) xG=true:=by rw[Lib.hasPrefix,List.isPrefixOf_iff_prefix];exact List.prefix_append _ _
  have h3:(xG++ai c.path.data.toList).drop 4=ai c.path.data.toList:=rfl;rw[hn,jF,(uF h47).1,(uF h47).2,if_neg h1,h2,h3,hj,hk];rfl
 have hn:aD c=iI c.path.data.toList o9:=by simp[aD,hk]
 have h47:(47:UInt8)∉o9:=by decide
 rw[hn,jF,(uF h47).1,(uF h47).2,if_pos rfl,hk]
end Go.Proofs.YtjhobnjdfhkohaaGreatDoor.T
namespace Go.Proofs.YtjhobnjdfhkohaaGreatDoor.T
open Go.Proofs.Tryz
open Go.RowKit
theorem zB(a b:LU)(h:(0:UInt8)∉a):Lib.index (a++0::b) [0]=(a.length:Int):=by
 induction a with
 |nil=>rw[List.nil_append,Lib.index];simp[List.isPrefixOf]
 |cons c r ih=>
  simp only[mC,not_or]at h;have hp:List.isPrefixOf [0] (c::(r++0::b))=false:=by simp[List.isPrefixOf,h.1]
  rw[List.cons_append,Lib.index,hp,ih h.2];have hne:((r.length:Int)==-1)=false:=by simp
  simp[hne]
theorem Ah(a:LU)(h:(0:UInt8)∉a):Lib.index a [0]=-1:=by
 induction a with
 |nil=>rfl
 |cons c r ih=>
  simp only[mC,not_or]at h;have hp:List.isPrefixOf [0] (c::r)=false:=by simp[List.isPrefixOf,h.1]
  rw[Lib.index,hp,ih h.2];rfl
theorem Ee(l:LU):(0∉l/\iz l=l)\/∃b,l=iz l++0::b/\0∉iz l:=by
 induction l with
 |nil=>exact .inl ⟨by simp,rfl⟩
 |cons c r ih=>
  by_cases hc:c=0
  .subst hc;exact .inr ⟨r,by simp[iz],by simp[iz]⟩
  have e:iz (c::r)=c::iz r:=by unfold iz;rw[List.takeWhile_cons_of_pos (by simpa using hc)]
  rcases ih with⟨h1,h2⟩|⟨b,h1,h2⟩
  .exact .inl ⟨by simp[h1,Ne.symm hc],by rw[e,h2]⟩
  exact .inr ⟨b,by rw[e,List.cons_append,<-h1],by rw[e];simp[h2,Ne.symm hc]⟩
theorem GV(l:LU):(Lib.cut l [0]).1=iz l:=by
 rcases Ee l with⟨h1,h2⟩|⟨b,h1,h2⟩
 .rw[Lib.cut,Ah l h1,if_neg (by omega),h2]
 conv=>lhs;rw[h1]
 rw[Lib.cut,zB _ _ h2,if_pos (by omega)];simp
theorem DG{w:World}{b o n:Nat}{xs:LU}(h:fe w b xs)(hn:o+n<=512):(convert 101 9 (.slice (some ⟨b,o,none⟩) n (512-o))).run prog w=.ok (.string (bt (bz xs o n))) w:=by
 have hl:(bz xs o n).length=n:=by rw[bz,List.length_take,List.length_drop,h.2];omega
 have:=run_convert_bytes_back (P:=prog) w 101 9 5 ⟨b,o,none⟩ (512-o) (bz xs o n) underlying101 underlying5 underlying9 (λj hj=>by
  rw[Addr.add_lit];rw[hl]at hj;have hx:o+j<xs.length:=by rw[h.2];omega
  have:=sA h hx;rw[this];congr 3;simp only[bz,List.getElem_take,List.getElem_drop])
 rw[hl]at this;exact this
theorem kR(b o n:Nat)(xs:LU)(m:Int)(w:World)(hk:fe w b xs)(h:o+n<=512)(h0:0<n)(hm:w.cell? ⟨1,0,none⟩=some (.int .i64 m)): Cl 257 #[.pointer (some ⟨b,0,none⟩),.agg #[.int .i64 (o:Nat),.int .i64 (n:Nat)]] w λev w'=>∃s:BA,ev=.returned (.string s)/\Hid (s=bt (iz (bz xs o n)))/\Bw w w':=by
 have HK:=ab hk;have HM:=ab hm;have hb0:Bw w (w.alloc (.cells #[.int .i64 (o:Nat),.int .i64 (n:Nat)] 288)):=eD;have hz:(bt (bz xs o n)).size<4294967281:=by rw[bF,bz,List.length_take];omega
 have HZ:=ab hz;clear hk hm hz;go_enter func257,ntmps257;go_wp2_with (first|(go_at_call 273;refine(sW b o n _ h h0).mono ?_;rintro ev w1⟨rfl,hb1⟩;have hB1:=hb0.trans (hb1.mono hb0.size);have hcv:=DG ((uh HK).below hB1) h;have hm1:=cL hB1 (uh HM);obtain⟨S,hS⟩:∃S,S=bt (bz xs o n):=⟨_,rfl⟩;rw[<-hS]at hcv;have HS:=ab hS;clear hS)|(go_at_call 82;refine(Tryz.strings_Cut S ⟨#[0]⟩ m w1 (by rw[uh HS];exact uh HZ) hm1).mono ?_;rintro ev w2⟨rfl,nn,hw2⟩))
 go_ret;refine⟨_,rfl,ab ?_,?_⟩
 .show (⟨(Lib.cut S.data.toList [0]).1.toArray⟩:BA)=_;rw[GV,uh HS,aK];rfl
 exact dW nn hB1
def lr(t:LU)(v:Int):Prop:=t≠[]->t.all fm=true->v=(iM t:Nat)
theorem qd(l:LU):(iz l).length<=l.length:=by unfold iz;exact(List.takeWhile_prefix _).length_le
theorem uL(s:LU)(o n:Nat):(bz s o n).length<=n:=by rw[bz,List.length_take];omega
theorem AA(b o n:Nat)(xs:LU)(m:Int)(te:Nat)(pe:Value)(w:World)(hk:fe w b xs)(h:o+n<=512)(h0:0<n)(h12:n<=12)(hm:w.cell? ⟨1,0,none⟩=some (.int .i64 m))(hv:w.cell? ⟨16,0,none⟩=some (.iface te pe)): Cl 237 #[.pointer (some ⟨b,0,none⟩),.agg #[.int .i64 (o:Nat),.int .i64 (n:Nat)]] w λev w'=>∃v:Int,ev=.returned (.int .i64 v)/\Hid (lr (iz (bz xs o n)) v)/\Bw w w':=by
 have hb0:Bw w (w.alloc (.cells #[.int .i64 (o:Nat),.int .i64 (n:Nat)] 288)):=eD;have HT:=ab (kR b o n xs m _ (hk.below hb0) h h0 (cL hb0 hm));have HV:=ab (cL hb0 hv);have HZ:=ab (nT (qd (bz xs o n)) (uL xs o n));clear hk hm hv;go_enter func237,ntmps237;go_upto_region 2 with(first|(go_at_call 257;refine(uh HT).mono ?_;rintro ev w1⟨s,rfl,HS,hb1⟩;have hsz:s.size<=12:=(by rw[uh HS,bF];have:=uh HZ;omega))|(go_at_call 204;refine(nS s te pe w1 hsz (cL hb1 (uh HV))).mono ?_;rintro ev w2⟨v,er,rfl,HO,hb2⟩))
 have hB1:=hb0.trans (hb1.mono hb0.size);have hB2:=hB1.trans (hb2.mono hB1.size);obtain⟨⟨x,rfl⟩,he,ho⟩:=uh HO;have HP:Hid (iz (bz xs o n)≠[]->(iz (bz xs o n)).all fm=true->er=.nilIface/\x=(iM (iz (bz xs o n)):Nat)):=ab (λa b=>by
  have e:s.data.toList=iz (bz xs o n):=by rw[uh HS,aK]
  rw[e]at ho;have:=ho a b;exact⟨this.1,by have:=this.2;injection this⟩)
 clear HO ho;rcases he with rfl|⟨N,rfl⟩
 .have HQ:Hid (lr (iz (bz xs o n)) x):=ab (λa b=>(uh HP a b).2);clear HP;go_wp2_with fail;go_ret;exact⟨_,rfl,HQ,hB2⟩
 have HQ:Hid (∀y:Int,lr (iz (bz xs o n)) y):=ab (λy a b=>by have:=(uh HP a b).1;cases this);clear HP;go_wp2_with fail;go_ret;exact⟨_,rfl,ab (uh HQ _),hB2⟩
theorem xU(d r:BA)(w:World)(_:d.size<=1073741824)(_:r.size<=1073741824): Cl 256 #[.string d,.string r] w λev w'=>∃s:BA,ev=.returned (.string s)/\Hid (s=bt (iI d.data.toList r.data.toList))/\w'=w:=by
 by_cases hd:d.data.toList=[]
 .have g1:d.toList.isEmpty=true:=by rw[tD];simpa using hd
  have HF:Hid (r=bt (iI d.data.toList r.data.toList)):=ab (by rw[iI,if_pos hd,cF]);clear hd;go_enter func256,ntmps256;go_wp2;go_ret;exact⟨_,rfl,HF,rfl⟩
 have g1:d.toList.isEmpty=false:=by rw[tD];simpa using hd
 have HF:Hid (d++(⟨#[47]⟩:BA)++r=bt (iI d.data.toList r.data.toList)):=ab (by
  rw[iI,if_neg hd];conv=>lhs;rw[<-cF d,<-cF r,show (⟨#[47]⟩:BA)=bt [47] from rfl,gn,gn]
  simp)
 clear hd;go_enter func256,ntmps256;go_wp2;go_ret;exact⟨_,rfl,HF,rfl⟩
theorem xZ(s:BA)(w:World)(hs:s.size<=1073741824): Cl 258 #[.string s] w λev w'=>∃t:BA,ev=.returned (.string t)/\Hid (t=bt (Lib.trimSuffix s.data.toList [47]))/\w'=w:=by
 have h:=Tryz.strings_TrimSuffix s ⟨#[47]⟩ w (by omega);go_enter func258,ntmps258;go_wp2_with (go_at_call 274;refine h.mono ?_;clear h;rintro ev w1⟨rfl,hw⟩;obtain rfl:=hw.symm)
 go_ret;exact⟨_,rfl,ab rfl,rfl⟩
theorem rn(s p:BA)(w:World): Cl 109 #[.string s,.string p] w λe w'=>e=.returned (.bool (Lib.hasPrefix s.data.toList p.data.toList))/\w'=w:=by
 have H:=ab (Lib.hasPrefix_raw s p);go_enter func109,ntmps109;go_wp2
 .go_ret;exact⟨ag (by rw[<-uh H];simp[*]),rfl⟩
 go_ret;exact⟨ag (by rw[<-uh H];simp[*]),rfl⟩
theorem zY{s p:BA}(h:Lib.hasPrefix s.data.toList p.data.toList=true):p.size<=s.size:=by rw[Lib.hasPrefix,List.isPrefixOf_iff_prefix]at h;rw[zE,zE];exact h.length_le
theorem jW(s p:BA)(w:World): Cl 197 #[.string s,.string p] w λev w'=>∃t:BA,ev=.returned (.tuple #[.string t,.bool (Lib.hasPrefix s.data.toList p.data.toList)])/\Hid (t=bt (Lib.trimPrefix s.data.toList p.data.toList))/\w'=w:=by
 have hI:Cl 213 #[.string s,.string p] w λev w'=>∃t:BA,ev=.returned (.tuple #[.string t,.bool (Lib.hasPrefix s.data.toList p.data.toList)])/\Hid (t=bt (Lib.trimPrefix s.data.toList p.data.toList))/\w'=w:=by
  have hP:=rn s p w;cases hh:Lib.hasPrefix s.data.toList p.data.toList with
  |false=>
   have HF:Hid (s=bt (Lib.trimPrefix s.data.toList p.data.toList)):=ab (by rw[Lib.trimPrefix,hh];simp[cF]);rw[hh]at hP;go_enter func213,ntmps213;go_wp2_with (go_at_call 109;refine hP.mono ?_;clear hP;rintro ev w1⟨rfl,hw⟩;obtain rfl:=hw.symm)
   go_ret2;exact⟨_,rfl,HF,rfl⟩
  |true=>
   have HF:Hid (s.extract p.size s.size=bt (Lib.trimPrefix s.data.toList p.data.toList)):=ab (by rw[nu,Lib.trimPrefix,hh,zE];rfl);have hle:=zY hh;have i0:(0:Int)<=(p.size:Int):=by omega
   have i1:(p.size:Int)<=(s.size:Int):=by omega
   rw[hh]at hP;clear hh;go_enter func213,ntmps213;go_wp2_with (go_at_call 109;refine hP.mono ?_;clear hP;rintro ev w1⟨rfl,hw⟩;obtain rfl:=hw.symm)
   go_ret2;exact⟨_,rfl,HF,rfl⟩
 go_enter func197,ntmps197;go_wp2_with (go_at_call 213;refine hI.mono ?_;clear hI;rintro ev w1⟨t,rfl,HT,hw⟩;obtain rfl:=hw.symm)
 go_ret2;exact⟨t,rfl,HT,rfl⟩
theorem we(s:BA)(w:World)(hs:s.size<=1048576): Cl 259 #[.string s] w λev w'=>∃(t:BA) (k:Int),ev=.returned (.tuple #[.string t,.int .i64 k])/\Hid (t=bt (jF s.data.toList).1/\k=(jF s.data.toList).2)/\Bw w w':=by
 have hL:=eE s w (by omega);go_enter func259,ntmps259;go_upto_region 2 with(go_at_call 100;refine hL.mono ?_;clear hL;rintro ev w1⟨d,n,rfl,HD,HN,hb1⟩)
 have hds:d.size<=1048576:=by rw[zE,uh HD];have:=mN s.data.toList;rw[zE]at hs;omega
 have hns:n.size<=1048576:=by rw[zE,uh HN];have:=fQ s.data.toList;rw[zE]at hs;omega
 by_cases ho:ai s.data.toList=o9
 .have g1:(n.toList==[46,119,104,46,46,119,104,46,46,111,112,113])=true:=by rw[tD,uh HN,ho];decide
  have HF:Hid (d=bt (jF s.data.toList).1/\(5:Int)=(jF s.data.toList).2):=ab (by rw[jF,if_pos ho,<-uh HD,cF];exact⟨rfl,rfl⟩);clear ho;go_wp2_with fail;go_ret2;exact⟨_,_,rfl,HF,hb1⟩
 have g1:(n.toList==[46,119,104,46,46,119,104,46,46,111,112,113])=false:=by rw[tD,uh HN];simpa[o9]using ho
 have hC:=jW n ⟨#[46,119,104,46]⟩ w1;rw[show (⟨#[46,119,104,46]⟩:BA).data.toList=xG from rfl,uh HN]at hC;cases hh:Lib.hasPrefix (ai s.data.toList) xG with
 |true=>
  have HU:Hid (jF s.data.toList=(iI (al s.data.toList) ((ai s.data.toList).drop 4),4)):=ab (by rw[jF,if_neg ho,hh];rfl);have HTr:Hid (Lib.trimPrefix (ai s.data.toList) xG=(ai s.data.toList).drop 4):=ab (by rw[Lib.trimPrefix,hh];rfl);rw[hh]at hC;clear ho hh;go_wp2_with (first|(go_at_call 197;refine hC.mono ?_;clear hC;rintro ev w2⟨t,rfl,HT,hw⟩;obtain rfl:=hw.symm;have htl:t.data.toList=(ai s.data.toList).drop 4:=(by rw[uh HT,aK,uh HTr]);have HTL:=ab htl;have hts:t.size<=1048576:=(by rw[zE,htl,List.length_drop,<-uh HN,<-zE];omega);clear htl)|(go_at_call 174;refine(ii d t w1 (by omega) (by omega)).mono ?_;rintro ev w3⟨rfl,hw⟩;obtain rfl:=hw.symm))
  go_ret2;exact⟨_,_,rfl,ab ⟨by rw[uh HU,uh HTL,uh HD],by rw[uh HU]⟩,hb1⟩
 |false=>
  have HF:Hid (s=bt (jF s.data.toList).1/\(2:Int)=(jF s.data.toList).2):=ab (by rw[jF,if_neg ho,hh];exact⟨(cF s).symm,rfl⟩);rw[hh]at hC;clear ho hh;go_wp2_with (go_at_call 197;refine hC.mono ?_;clear hC;rintro ev w2⟨t,rfl,HT,hw⟩;obtain rfl:=hw.symm)
  go_ret2;exact⟨_,_,rfl,HF,hb1⟩
theorem Tryz.info39:(prog.info? 39).map (λi=>(i.zero,i.size,i.bytes))=some (some (.agg #[.string ByteArray.empty,.int .i64 0,.int .i64 0,.string ByteArray.empty]),4,48):=by kernel_rfl
def ec(e:aj):List Value:=[.string e.path,.int .i64 e.kind,.int .i64 e.mode,.string e.data]
def kn(ks:List aj):List Value:=(ks.map ec).flatten
def jM(w:World)(B:Nat)(v:Value)(ks:List aj):Prop:=w.ownsRow B 39 4 v ks.length (kn ks)
theorem nt:∀{ks:List aj}{k:Nat}{e:aj},ks[k]?=some e->(kn ks)[k*4]?=some (.string e.path)/\(kn ks)[k*4+1]?=some (.int .i64 e.kind)/\(kn ks)[k*4+2]?=some (.int .i64 e.mode)/\(kn ks)[k*4+3]?=some (.string e.data)
 |[],_,_,h=>by simp at h
 |x::r,0,e,h=>by simp at h;subst h;simp[kn,ec]
 |x::r,k+1,e,h=>by
  have h':r[k]?=some e:=by simpa using h
  have:=nt h';have e1:kn (x::r)=ec x++kn r:=by simp[kn]
  have e2:(ec x).length=4:=rfl;rw[e1,show (k+1)*4=4+k*4 from by omega,show 4+k*4+1=4+(k*4+1) from by omega,show 4+k*4+2=4+(k*4+2) from by omega,show 4+k*4+3=4+(k*4+3) from by omega];rw[List.getElem?_append_right (by omega),List.getElem?_append_right (by omega),List.getElem?_append_right (by omega),List.getElem?_append_right (by omega)];simp only[e2,Nat.add_sub_cancel_left];exact this
theorem rQ{w:World}{B:Nat}{v:Value}{ks:List aj}(h:jM w B v ks):∃ao cap n,v=.slice ao n cap/\Hid (n=ks.length)/\fB w ao ks/\n<=cap:=by
 rcases h.2 with⟨rfl,h0⟩|⟨g,cap,cur,rfl,hb,hg,hnc,_⟩
 .have:ks=[]:=List.length_eq_zero_iff.1 h0;subst this;exact⟨none,0,0,rfl,ab rfl,λk e hk=>by simp at hk,nR _⟩
 refine⟨some ⟨g,0,none⟩,cap,ks.length,rfl,ab rfl,λk e hk=>?_,hnc⟩;have hk':=(gL hk)
 obtain⟨h1,h2,h3,h4⟩:=nt hk;refine⟨g,0,rfl,?_,?_,?_,?_⟩
 .rw[Nat.zero_add,World.ownsRow.cellAt h _ (by omega),h1]
 .rw[Nat.zero_add,World.ownsRow.cellAt h _ (by omega),h2]
 .rw[Nat.zero_add,World.ownsRow.cellAt h _ (by omega),h3]
 rw[Nat.zero_add,World.ownsRow.cellAt h _ (by omega),h4]
end Go.Proofs.YtjhobnjdfhkohaaGreatDoor.T
namespace Go.Proofs.YtjhobnjdfhkohaaGreatDoor.T
open Go.Proofs.Tryz
open Go.RowKit Go.Maps
theorem fF(s:BA)(w:World)(hs:s.size<=1073741824):Cl 108 #[.string s] w λev w'=>ev=.returned (.string s)/\Bw w w':=by
 go_enter func108,ntmps108;go_wp2_with (go_at_call 132;refine(Tryz.stringslite_Clone s _ (by omega)).mono ?_;rintro ev w1⟨rfl,hb1⟩)
 go_ret;exact⟨rfl,hb1⟩
theorem frz{w:World}{b:Nat}{cs:Array Value}{t:TypeId}(h:w.heap[b]?=some (.cells cs t (0,0)))(k:Nat):w.frozen? ⟨b,k,none⟩=false:=by simp[World.frozen?,h]
theorem vr{w:World}{b x k:Nat}(v0 v1 v2 v3:Value)(h:x≠b){v:Value}(hc:w.cell? ⟨x,k,none⟩=some v):((((w.setCell ⟨b,0,none⟩ v0).setCell ⟨b,1,none⟩ v1).setCell ⟨b,2,none⟩ v2).setCell ⟨b,3,none⟩ v3).cell? ⟨x,k,none⟩=some v:=by rw[<-hc];unfold World.cell?;rw[Below.heap_setCell _ ⟨b,3,none⟩ _ _ h,Below.heap_setCell _ ⟨b,2,none⟩ _ _ h,Below.heap_setCell _ ⟨b,1,none⟩ _ _ h,Below.heap_setCell _ ⟨b,0,none⟩ _ _ h]
theorem Fk(x:Nd)(w:World)(hx:w.heap[x.nb]?=some (.cells x.cells 172 (0,0)))(h1:x.ent.path.size<=1048576)(h2:x.ent.data.size<=1048576): Cl 79 #[.pointer (some ⟨x.nb,0,none⟩)] w λev w'=>ev=.returned (.agg #[.string x.ent.path,.int .i64 x.ent.kind,.int .i64 x.ent.mode,.string x.ent.data])/\Bw w w':=by
 have hlt:x.nb<w.heap.size:=(gA hx)
 obtain⟨W0,hW0⟩:=aq (w.alloc (.cells #[.string ⟨#[]⟩,.int .i64 0,.int .i64 0,.string ⟨#[]⟩] 39));have hx0:W0.heap[x.nb]?=some (.cells x.cells 172 (0,0)):=by rw[hW0];exact(Below.heap_alloc _ _ _ hlt).trans hx
 have hq0:=em hW0;have hb0:=dw hW0;have x0:W0.cell? ⟨x.nb,0,none⟩=some (.string x.ent.path):=cq 0 hx0;have x1:W0.cell? ⟨x.nb,1,none⟩=some (.int .i64 x.ent.kind):=cq 1 hx0;have x2:W0.cell? ⟨x.nb,2,none⟩=some (.int .i64 x.ent.mode):=cq 2 hx0;have x3:W0.cell? ⟨x.nb,3,none⟩=some (.string x.ent.data):=cq 3 hx0;have HQ:=ab hq0;have hne:x.nb≠w.heap.size:=by omega
 clear hx hx0 hq0;go_enter func79,ntmps79;go_upto_region 1 with fail;rw[<-hW0];clear hW0;go_region_held3 (λw'=>w'.cell? ⟨x.nb,0,none⟩=some (.string x.ent.path)/\w'.cell? ⟨x.nb,1,none⟩=some (.int .i64 x.ent.kind)/\w'.cell? ⟨x.nb,2,none⟩=some (.int .i64 x.ent.mode)/\w'.cell? ⟨x.nb,3,none⟩=some (.string x.ent.data)) (first|(with_reducible exact⟨p0,p1,p2,p3⟩)|(with_reducible exact⟨p0',p1',p2',p3'⟩)|(with_reducible exact⟨vr _ _ _ _ hne p0',vr _ _ _ _ hne p1',vr _ _ _ _ hne p2',vr _ _ _ _ hne p3'⟩)|go_keep) (first|(go_at_call_of 108 (Value.string x.ent.path);refine(fF _ _ ?_).mono ?_;omega;rintro ev w1⟨rfl,hb1⟩;have p0:=cL (am hb1) x0;have p1:=cL (am hb1) x1;have p2:=cL (am hb1) x2;have p3:=cL (am hb1) x3)|(go_at_call_of 108 (Value.string x.ent.data);refine(fF _ _ ?_).mono ?_;omega;rintro ev w2⟨rfl,hb2⟩;have p0':=cL hb2 p0;have p1':=cL hb2 p1;have p2':=cL hb2 p2;have p3':=cL hb2 p3;have hq:=au hb2 _ _ _ _ (au (am hb1) _ _ _ _ (uh HQ));have q0:w2.cell? ⟨w.heap.size,0,none⟩=some (.string ⟨#[]⟩):=cq 0 hq;have q1:w2.cell? ⟨w.heap.size,1,none⟩=some (.int .i64 0):=cq 1 hq;have q2:w2.cell? ⟨w.heap.size,2,none⟩=some (.int .i64 0):=cq 2 hq;have q3:w2.cell? ⟨w.heap.size,3,none⟩=some (.string ⟨#[]⟩):=cq 3 hq;have f0:=frz hq 0;have f1:=frz hq 1;have f2:=frz hq 2;have f3:=frz hq 3;clear hq));go_wp2;refine bodyPost_ret (v:=.agg #[.string x.ent.path,.int .i64 x.ent.kind,.int .i64 x.ent.mode,.string x.ent.data]) (by simp[results,results79,go_sem,q0,q1,q2,q3]) rfl ⟨rfl,?_⟩;have hB:Bw w w2:=hb0.trans (((am hb1).trans (hb2.mono (am hb1).size)).mono hb0.size);exact(((hB.setCell (p:=⟨w.heap.size,0,none⟩) (nR _) _).setCell (p:=⟨w.heap.size,1,none⟩) (nR _) _).setCell (p:=⟨w.heap.size,2,none⟩) (nR _) _).setCell (p:=⟨w.heap.size,3,none⟩) (nR _) _
end Go.Proofs.YtjhobnjdfhkohaaGreatDoor.T
