import Derived.Test.YtehfpjcclknipaaGreatDoorJTKidD
import Derived.Maps.OwnSet
namespace Go.Proofs.YtehfpjcclknipaaGreatDoor.T
open Go.RowKit
def atE (es:List Ent) (p:List UInt8):Option Ent:=es.find? fun e=>e.path.data.toList==p
theorem atE_some {es:List Ent}{p:List UInt8}{e:Ent}(h:atE es p=some e):e∈es∧e.path.data.toList=p:=
 ⟨List.mem_of_find?_eq_some h,by simpa using List.find?_some h⟩
theorem atE_none {es:List Ent}{p:List UInt8}(h:atE es p=none):∀ e∈es,e.path.data.toList≠p:=fun e he=>by
 simpa using List.find?_eq_none.1 h e he
theorem atE_miss {es:List Ent}{p:List UInt8}(h:∀ e∈es,e.path.data.toList≠p):atE es p=none:=by
 rw [atE,List.find?_eq_none];intro e he;simpa using h e he
theorem kindP_at {es:List Ent}{p:List UInt8}(hp:p≠[]):kindP es p=match atE es p with | some e=>e.kind | none=>0:=by
 rw [kindP,if_neg hp];rfl
theorem Tree.at {es:List Ent}(h:Tree es) {e:Ent}(he:e∈es):atE es e.path.data.toList=some e:=by
 cases ha:atE es e.path.data.toList with
 | none=>exact absurd rfl (atE_none ha e he)
 | some d=>
   obtain ⟨hd,hp⟩:=atE_some ha
   obtain ⟨i,hi,rfl⟩:=List.getElem_of_mem he
   obtain ⟨j,hj,rfl⟩:=List.getElem_of_mem hd
   have:=path_inj h.ok hj hi (List.getElem?_eq_getElem hj) (List.getElem?_eq_getElem hi) hp
   subst this
   rfl
def markE (p:List UInt8) (k:Int):Ent:=⟨⟨p.toArray⟩,k,0,⟨#[]⟩⟩
def clrF (xa xb:List Ent) (p:List UInt8):Bool:=decide (kindP xa p=1)&&decide (kindP xb p=1)&&(kidsE xa p).all (fun c=>decide (kindP xb c.path.data.toList=0))&&decide (1<(kidsE xa p).length)
def putF (xa xb:List Ent) (p:List UInt8):List Ent:=match atE xb p with
 | none=>[]
 | some y=>match atE xa p with
   | none=>[y]
   | some x=>if eqE x y=true then [] else [y]
def goneF (xa xb:List Ent) (p:List UInt8):Bool:=(atE xa p).isSome&&(atE xb p).isNone&&decide (kindP xb (dirOf p)=1)&&!clrF xa xb (dirOf p)
def stepF (xa xb:List Ent) (p:List UInt8):List Ent:=putF xa xb p++(if clrF xa xb p=true then [markE p 5] else [])++(if goneF xa xb p=true then [markE p 4] else [])
theorem stepF_len (xa xb:List Ent) (p:List UInt8):(stepF xa xb p).length≤3:=by
 have h1:(putF xa xb p).length≤1:=by
  unfold putF
  split
  ·simp
  ·split
   ·simp
   ·split <;> simp
 have h2:(if clrF xa xb p=true then [markE p 5] else []).length≤1:=by split <;> simp
 have h3:(if goneF xa xb p=true then [markE p 4] else []).length≤1:=by split <;> simp
 simp only [stepF,List.length_append]
 omega
def mrgI (x:List UInt8) (xs:List (List UInt8)) (f:List (List UInt8)→List (List UInt8)):List (List UInt8)→List (List UInt8)
 | []=>x :: xs
 | y :: ys=>if ltP x y=true then x :: f (y :: ys) else if ltP y x=true then y :: mrgI x xs f ys else x :: f ys
def mrg:List (List UInt8)→List (List UInt8)→List (List UInt8)
 | []=>fun ys=>ys
 | x :: xs=>mrgI x xs (mrg xs)
theorem mrg_cc (x y:List UInt8) (xs ys:List (List UInt8)):mrg (x :: xs) (y :: ys)=if ltP x y=true then x :: mrg xs (y :: ys) else if ltP y x=true then y :: mrg (x :: xs) ys else x :: mrg xs ys:=rfl
theorem mrg_mem:∀ (xs ys:List (List UInt8)) (z:List UInt8),z∈mrg xs ys↔z∈xs∨z∈ys
 | [],ys,z=>by simp [mrg]
 | x :: xs,[],z=>by simp [mrg,mrgI]
 | x :: xs,y :: ys,z=>by
   rw [mrg_cc]
   by_cases h1:ltP x y=true
   ·rw [if_pos h1,List.mem_cons,mrg_mem xs (y :: ys),List.mem_cons (l:=xs),or_assoc]
   ·rw [if_neg h1]
    by_cases h2:ltP y x=true
    ·rw [if_pos h2,List.mem_cons,mrg_mem (x :: xs) ys,List.mem_cons (l:=ys)]
     constructor
     ·rintro (h | h | h)
      ·exact .inr (.inl h)
      ·exact .inl h
      ·exact .inr (.inr h)
     ·rintro (h | h | h)
      ·exact .inr (.inl h)
      ·exact .inl h
      ·exact .inr (.inr h)
    ·have e:x=y:=totP.one (by simpa using h1) (by simpa using h2)
     subst e
     rw [if_neg h2,List.mem_cons,mrg_mem xs ys,List.mem_cons,List.mem_cons]
     constructor
     ·rintro (h | h | h)
      ·exact .inl (.inl h)
      ·exact .inl (.inr h)
      ·exact .inr (.inr h)
     ·rintro ((h | h) | (h | h))
      ·exact .inl h
      ·exact .inr (.inl h)
      ·exact .inl h
      ·exact .inr (.inr h)
theorem mrg_len:∀ (xs ys:List (List UInt8)),(mrg xs ys).length≤xs.length+ys.length
 | [],ys=>by simp [mrg]
 | x :: xs,[]=>by simp [mrg,mrgI]
 | x :: xs,y :: ys=>by
   rw [mrg_cc]
   split
   ·have:=mrg_len xs (y :: ys);simp at this ⊢;omega
   ·split
    ·have:=mrg_len (x :: xs) ys;simp at this ⊢;omega
    ·have:=mrg_len xs ys;simp at this ⊢;omega
theorem mrg_rising:∀ {xs ys:List (List UInt8)},xs.Pairwise (fun x y=>ltP x y=true)→ys.Pairwise (fun x y=>ltP x y=true)→(mrg xs ys).Pairwise fun x y=>ltP x y=true
 | [],ys,_,h=>by exact h
 | x :: xs,[],h,_=>by exact h
 | x :: xs,y :: ys,hx,hy=>by
   have hx':=List.pairwise_cons.1 hx
   have hy':=List.pairwise_cons.1 hy
   rw [mrg_cc]
   by_cases h1:ltP x y=true
   ·rw [if_pos h1,List.pairwise_cons]
    refine ⟨fun z hz=>?_,mrg_rising hx'.2 hy⟩
    rcases (mrg_mem _ _ _).1 hz with h | h
    ·exact hx'.1 z h
    ·rcases List.mem_cons.1 h with rfl | h
     ·exact h1
     ·exact totP.trans h1 (hy'.1 z h)
   ·rw [if_neg h1]
    by_cases h2:ltP y x=true
    ·rw [if_pos h2,List.pairwise_cons]
     refine ⟨fun z hz=>?_,mrg_rising hx hy'.2⟩
     rcases (mrg_mem _ _ _).1 hz with h | h
     ·rcases List.mem_cons.1 h with rfl | h
      ·exact h2
      ·exact totP.trans h2 (hx'.1 z h)
     ·exact hy'.1 z h
    ·have e:x=y:=totP.one (by simpa using h1) (by simpa using h2)
     subst e
     rw [if_neg h2,List.pairwise_cons]
     refine ⟨fun z hz=>?_,mrg_rising hx'.2 hy'.2⟩
     rcases (mrg_mem _ _ _).1 hz with h | h
     ·exact hx'.1 z h
     ·exact hy'.1 z h
def ptsE (es:List Ent):List (List UInt8):=es.map fun e=>e.path.data.toList
def allP (xa xb:List Ent):List (List UInt8):=[] :: mrg (ptsE xa) (ptsE xb)
def diffF (xa xb:List Ent):List Ent:=((allP xa xb).map (stepF xa xb)).flatten
theorem pts_rising {es:List Ent}(h:Tree es):(ptsE es).Pairwise fun x y=>ltP x y=true:=by
 rw [ptsE,List.pairwise_map,List.pairwise_iff_getElem]
 intro i j hi hj hij
 exact ord_lt h.ok j i es[i] es[j] hij hj (List.getElem?_eq_getElem hi) (List.getElem?_eq_getElem hj)
theorem pts_ne {es:List Ent}(h:Tree es):∀ p∈ptsE es,p≠[]:=fun p hp=>by
 obtain ⟨e,he,rfl⟩:=List.mem_map.1 hp
 exact (h.path he).1
theorem ltP_root {p:List UInt8}(h:p≠[]):ltP [] p=true:=by
 rw [ltP,prt_nil];exact ltL_nil (prt_some h)
theorem allP_rising {xa xb:List Ent}(ha:Tree xa) (hb:Tree xb):(allP xa xb).Pairwise fun x y=>ltP x y=true:=by
 rw [allP,List.pairwise_cons]
 refine ⟨fun p hp=>ltP_root ?_,mrg_rising (pts_rising ha) (pts_rising hb)⟩
 rcases (mrg_mem _ _ _).1 hp with h | h
 ·exact pts_ne ha p h
 ·exact pts_ne hb p h
theorem sorted_all {xa xb:List Ent}(ha:Tree xa) (hb:Tree xb) {zs:List (List UInt8)}(hs:zs.Pairwise fun x y=>ltP y x=false) (hm:∀ p,p∈zs↔p=[]∨p∈ptsE xa∨p∈ptsE xb):Lib.compact zs=allP xa xb:=by
 obtain ⟨h1,h2⟩:=compact_rising totP zs hs
 refine rising_one totP h1 (allP_rising ha hb) fun p=>?_
 rw [h2,hm,allP,List.mem_cons,mrg_mem]
theorem allP_mem {xa xb:List Ent}{p:List UInt8}:p∈allP xa xb↔p=[]∨p∈ptsE xa∨p∈ptsE xb:=by rw [allP,List.mem_cons,mrg_mem]
theorem allP_len {xa xb:List Ent}(ha:Tree xa) (hb:Tree xb):(allP xa xb).length≤81:=by
 have:=mrg_len (ptsE xa) (ptsE xb)
 have h1:(ptsE xa).length=xa.length:=by simp [ptsE]
 have h2:(ptsE xb).length=xb.length:=by simp [ptsE]
 have:=ha.len
 have:=hb.len
 simp only [allP,List.length_cons]
 omega
theorem under_trans {p q r:List UInt8}(h1:under p q) (h2:under q r):under p r:=by
 obtain ⟨a,u,e1⟩:=h1
 obtain ⟨b,v,e2⟩:=h2
 exact ⟨a,u++b :: v,by rw [e2,e1];simp⟩
theorem under_lt {p q:List UInt8}(h:under p q):ltP p q=true:=by
 obtain ⟨a,u,e⟩:=h
 rw [ltP,e];exact ltL_more _ _ _
theorem under_not_lt {p q:List UInt8}(h:under p q):ltP q p=false:=by
 cases h2:ltP q p
 ·rfl
 ·have:=totP.trans (under_lt h) h2
  rw [totP.irr] at this;cases this
theorem not_under_self (p:List UInt8):¬ under p p:=fun h=>by
 have:=under_lt h
 rw [totP.irr] at this;cases this
def Parted (z:List UInt8):Prop:=prt z=prt (dirOf z)++[nameOf z]
theorem Parted.under {z:List UInt8}(h:Parted z):under (dirOf z) z:=⟨_,[],h⟩
theorem Parted.up {z p:List UInt8}(h:Parted z) (hu:Go.Proofs.YtehfpjcclknipaaGreatDoor.T.under p z):p=dirOf z∨Go.Proofs.YtehfpjcclknipaaGreatDoor.T.under p (dirOf z):=by
 obtain ⟨a,u,e⟩:=hu
 rw [h] at e
 rcases List.eq_nil_or_concat u with rfl | ⟨u',l,rfl⟩
 ·exact .inl (prt_inj (List.append_inj' e rfl).1.symm)
 ·right
  have e2:prt (dirOf z)++[nameOf z]=(prt p++a :: u')++[l]:=by rw [e];simp
  exact ⟨a,u',(List.append_inj' e2 rfl).1⟩
theorem Parted.eq {y z:List UInt8}(hy:Parted y) (hz:Parted z) (h1:dirOf y=dirOf z) (h2:nameOf y=nameOf z):y=z:=prt_inj (by rw [hy,hz,h1,h2])
theorem Parted.lt {y z:List UInt8}(hy:Parted y) (hz:Parted z) (h1:dirOf y=dirOf z):ltP y z=Op.bytesLess (nameOf y) (nameOf z):=by
 rw [ltP,hy,hz,h1,ltL_snoc]
theorem parted_of {e:Ent}(h:entOk e=true):Parted e.path.data.toList:=prt_up (ent_parts h).2.1 (ent_parts h).1
structure TreeS (es:List Ent):Prop where
 ord:es.Pairwise fun x y=>ltP x.path.data.toList y.path.data.toList=true
 ent:∀ e∈es,entOk e=true
 dir:∀ e∈es,dirOf e.path.data.toList=[]∨∃ d∈es,d.path.data.toList=dirOf e.path.data.toList∧d.kind=1
theorem treeS_of {es:List Ent}(h:OkTo es es.length):TreeS es:=by
 refine ⟨?_,fun e he=>?_,fun e he=>?_⟩
 ·rw [List.pairwise_iff_getElem]
  intro i j hi hj hij
  exact ord_lt h j i es[i] es[j] hij hj (List.getElem?_eq_getElem hi) (List.getElem?_eq_getElem hj)
 ·obtain ⟨k,hk,rfl⟩:=List.getElem_of_mem he
  exact (ok_parts (List.getElem?_eq_getElem hk) (h k hk)).ent
 ·obtain ⟨k,hk,rfl⟩:=List.getElem_of_mem he
  by_cases hd:dirOf es[k].path.data.toList=[]
  ·exact .inl hd
  ·obtain ⟨d,hm,hp,hk1⟩:=kindP_one (ok_parts (List.getElem?_eq_getElem hk) (h k hk)).dir hd
   exact .inr ⟨d,List.mem_of_mem_take hm,hp,hk1⟩
theorem TreeS.one {es:List Ent}(h:TreeS es) {d e:Ent}(hd:d∈es) (he:e∈es) (hp:d.path.data.toList=e.path.data.toList):d=e:=by
 obtain ⟨i,hi,rfl⟩:=List.getElem_of_mem hd
 obtain ⟨j,hj,rfl⟩:=List.getElem_of_mem he
 have ho:=List.pairwise_iff_getElem.1 h.ord
 rcases Nat.lt_trichotomy i j with hl | rfl | hl
 ·have:=ho i j hi hj hl;rw [hp,totP.irr] at this;cases this
 ·rfl
 ·have:=ho j i hj hi hl;rw [hp,totP.irr] at this;cases this
theorem TreeS.at {es:List Ent}(h:TreeS es) {e:Ent}(he:e∈es):atE es e.path.data.toList=some e:=by
 cases hf:atE es e.path.data.toList with
 | none=>exact absurd rfl (atE_none hf e he)
 | some d=>
   have:=atE_some hf
   rw [h.one this.1 he this.2]
theorem TreeS.kind {es:List Ent}(h:TreeS es) (p:List UInt8):kindP es p=1↔p=[]∨∃ d∈es,d.path.data.toList=p∧d.kind=1:=by
 by_cases hp:p=[]
 ·subst hp;simp [kindP]
 ·rw [kindP_at hp]
  constructor
  ·intro h1
   cases hf:atE es p with
   | none=>rw [hf] at h1;cases h1
   | some d=>rw [hf] at h1;exact .inr ⟨d,(atE_some hf).1,(atE_some hf).2,h1⟩
  ·rintro (h1 | ⟨d,hd,rfl,hk⟩)
   ·exact absurd h1 hp
   ·rw [h.at hd];exact hk
theorem TreeS.ok {es:List Ent}(h:TreeS es):OkTo es es.length:=by
 intro i hi
 have he:es[i]?=some es[i]:=List.getElem?_eq_getElem hi
 have hm:es[i]∈es:=List.getElem_mem hi
 have hP:=parted_of (h.ent _ hm)
 rw [okG_eq he]
 simp only [Bool.and_eq_true,Bool.or_eq_true,decide_eq_true_eq]
 refine ⟨⟨h.ent _ hm,?_⟩,?_⟩
 ·by_cases h0:i=0
  ·exact .inl h0
  ·right
   rw [List.getElem?_eq_getElem (by omega)]
   exact List.pairwise_iff_getElem.1 h.ord (i-1) i (by omega) hi (by omega)
 ·by_cases hd0:dirOf es[i].path.data.toList=[]
  ·rw [hd0];rfl
  ·rcases h.dir _ hm with h1 | ⟨d,hd,hp,hk⟩
   ·exact absurd h1 hd0
   ·obtain ⟨j,hj,rfl⟩:=List.getElem_of_mem hd
    have hji:j<i:=by
     rcases Nat.lt_or_ge j i with h1 | h1
     ·exact h1
     ·exfalso
      have hu:ltP es[j].path.data.toList es[i].path.data.toList=true:=by rw [hp];exact under_lt hP.under
      rcases Nat.lt_or_ge i j with h2 | h2
      ·have:=totP.trans hu (List.pairwise_iff_getElem.1 h.ord i j hi hj h2)
       rw [totP.irr] at this;cases this
      ·have:i=j:=by omega
       subst this
       rw [totP.irr] at hu;cases hu
    rw [kindP_at hd0]
    have hin:es[j]∈es.take i:=List.mem_take_iff_getElem.2 ⟨j,by omega,rfl⟩
    cases hf:atE (es.take i) (dirOf es[i].path.data.toList) with
    | none=>exact absurd hp (atE_none hf _ hin)
    | some d=>
      have h3:=atE_some hf
      rw [h.one (List.mem_of_mem_take h3.1) hd (h3.2.trans hp.symm)]
      exact hk
def keepW (p:List UInt8) (self:Bool) (q:List UInt8):Bool:=!(underB p q || (self&&q==p))
def keepPut (both:Bool) (p q:List UInt8):Bool:=ltP p q&&(both || !underB p q)
def woG {α:Type}(f:α→List UInt8) (l:List α) (p:List UInt8) (self:Bool):List α:=l.filter fun x=>keepW p self (f x)
def putG {α:Type}(f:α→List UInt8) (l:List α) (both:Bool) (y:α):List α:=(l.filter fun x=>ltP (f x) (f y))++y :: l.filter fun x=>keepPut both (f y) (f x)
def Ent.q (e:Ent):List UInt8:=e.path.data.toList
def wo (es:List Ent) (p:List UInt8) (self:Bool):List Ent:=woG Ent.q es p self
def bothE (es:List Ent) (e:Ent):Bool:=decide (kindP es e.path.data.toList=1)&&decide (e.kind=1)
def putE (es:List Ent) (e:Ent):List Ent:=putG Ent.q es (bothE es e) e
theorem wo_nodes (ns:List Nd) (p:List UInt8) (self:Bool):entsN (woG Nd.p ns p self)=wo (entsN ns) p self:=by
 rw [wo,woG,woG,entsN,entsN,List.filter_map];rfl
theorem put_nodes (ns:List Nd) (both:Bool) (y:Nd):entsN (putG Nd.p ns both y)=putG Ent.q (entsN ns) both y.ent:=by
 rw [putG,putG,entsN,entsN,List.map_append,List.map_cons,List.filter_map,List.filter_map];rfl
theorem keepW_iff {p q:List UInt8}{self:Bool}:keepW p self q=true↔¬ under p q∧(self=true→q≠p):=by
 unfold keepW
 simp only [Bool.not_eq_true',Bool.or_eq_false_iff,Bool.and_eq_false_iff,←underB_iff,Bool.not_eq_true]
 constructor
 ·rintro ⟨h1,h2⟩
  refine ⟨h1,fun hs e=>?_⟩
  rcases h2 with h2 | h2
  ·rw [hs] at h2;cases h2
  ·simp [e] at h2
 ·rintro ⟨h1,h2⟩
  refine ⟨h1,?_⟩
  cases self
  ·exact .inl rfl
  ·right;simpa using h2 rfl
theorem keepPut_iff {p q:List UInt8}{both:Bool}:keepPut both p q=true↔ltP p q=true∧(both=true∨¬ under p q):=by
 unfold keepPut
 simp [←underB_iff]
theorem wo_tree {es:List Ent}(h:TreeS es) (p:List UInt8) (self:Bool):TreeS (wo es p self):=by
 refine ⟨h.ord.filter _,fun e he=>h.ent e (List.mem_filter.1 he).1,fun e he=>?_⟩
 obtain ⟨hm,hk⟩:=List.mem_filter.1 he
 have hk:=keepW_iff.1 hk
 have hP:=parted_of (h.ent e hm)
 rcases h.dir e hm with h0 | ⟨d,hd,hp,hk1⟩
 ·exact .inl h0
 ·refine .inr ⟨d,List.mem_filter.2 ⟨hd,keepW_iff.2 ⟨fun hu=>hk.1 ?_,fun _ hq=>hk.1 ?_⟩⟩,hp,hk1⟩
  ·refine under_trans hu ?_
   show under d.path.data.toList e.path.data.toList
   rw [hp];exact hP.under
  ·have hq':d.path.data.toList=p:=hq
   show under p e.path.data.toList
   rw [←hq',hp];exact hP.under
theorem put_mem {α:Type}{f:α→List UInt8}{l:List α}{both:Bool}{y x:α}:x∈putG f l both y↔x=y∨(x∈l∧(ltP (f x) (f y)=true∨keepPut both (f y) (f x)=true)):=by
 rw [putG,List.mem_append,List.mem_cons,List.mem_filter,List.mem_filter]
 constructor
 ·rintro (⟨h1,h2⟩ | h | ⟨h1,h2⟩)
  ·exact .inr ⟨h1,.inl h2⟩
  ·exact .inl h
  ·exact .inr ⟨h1,.inr h2⟩
 ·rintro (h | ⟨h1,h2 | h2⟩)
  ·exact .inr (.inl h)
  ·exact .inl ⟨h1,h2⟩
  ·exact .inr (.inr ⟨h1,h2⟩)
theorem put_ord {α:Type}{f:α→List UInt8}{l:List α}{both:Bool}{y:α}(h:l.Pairwise fun a b=>ltP (f a) (f b)=true):(putG f l both y).Pairwise fun a b=>ltP (f a) (f b)=true:=by
 rw [putG,List.pairwise_append,List.pairwise_cons]
 refine ⟨h.filter _,⟨fun b hb=>(keepPut_iff.1 (List.mem_filter.1 hb).2).1,h.filter _⟩,fun a ha b hb=>?_⟩
 have ha':=(List.mem_filter.1 ha).2
 rcases List.mem_cons.1 hb with rfl | hb
 ·exact ha'
 ·exact totP.trans ha' (keepPut_iff.1 (List.mem_filter.1 hb).2).1
theorem put_tree {es:List Ent}{e:Ent}(h:TreeS es) (he:entOk e=true) (hd:kindP es (dirOf e.path.data.toList)=1):TreeS (putE es e):=by
 have hPe:=parted_of he
 refine ⟨put_ord h.ord,fun x hx=>?_,fun x hx=>?_⟩
 ·rcases put_mem.1 hx with rfl | ⟨h1,_⟩
  ·exact he
  ·exact h.ent x h1
 ·rcases put_mem.1 hx with rfl | ⟨h1,h2⟩
  ·rcases (h.kind _).1 hd with h0 | ⟨d,hd,hp,hk⟩
   ·exact .inl h0
   ·exact .inr ⟨d,put_mem.2 (.inr ⟨hd,.inl (by show ltP d.path.data.toList x.path.data.toList=true;rw [hp];exact under_lt hPe.under)⟩),hp,hk⟩
  ·have hPx:=parted_of (h.ent x h1)
   rcases h.dir x h1 with h0 | ⟨d,hd,hp,hk⟩
   ·exact .inl h0
   ·right
    by_cases hde:d.path.data.toList=e.path.data.toList
    ·
     have hux:under e.path.data.toList x.path.data.toList:=by rw [←hde,hp];exact hPx.under
     have hb:bothE es e=true:=by
      rcases h2 with h2 | h2
      ·have:ltP x.path.data.toList e.path.data.toList=true:=h2
       rw [under_not_lt hux] at this;cases this
      ·rcases (keepPut_iff.1 h2).2 with h3 | h3
       ·exact h3
       ·exact absurd hux h3
     have hb2:=hb
     simp only [bothE,Bool.and_eq_true,decide_eq_true_eq] at hb2
     exact ⟨e,put_mem.2 (.inl rfl),hde.symm.trans hp,hb2.2⟩
    ·refine ⟨d,put_mem.2 (.inr ⟨hd,?_⟩),hp,hk⟩
     have hdx:under d.path.data.toList x.path.data.toList:=by rw [hp];exact hPx.under
     cases hlt:ltP d.path.data.toList e.path.data.toList
     ·right
      refine keepPut_iff.2 ⟨?_,?_⟩
      ·show ltP e.path.data.toList d.path.data.toList=true
       cases h5:ltP e.path.data.toList d.path.data.toList
       ·exact absurd (totP.one hlt h5) hde
       ·rfl
      ·cases hb:bothE es e
       ·right
        intro hu
        have hux:under e.path.data.toList x.path.data.toList:=under_trans hu hdx
        rcases h2 with h2 | h2
        ·have:ltP x.path.data.toList e.path.data.toList=true:=h2
         rw [under_not_lt hux] at this;cases this
        ·rcases (keepPut_iff.1 h2).2 with h3 | h3
         ·rw [hb] at h3;cases h3
         ·exact h3 hux
       ·exact .inl rfl
     ·exact .inl hlt
end Go.Proofs.YtehfpjcclknipaaGreatDoor.T
namespace Go.Proofs.YtehfpjcclknipaaGreatDoor.T
open Go.RowKit Go.Maps
theorem sorted_split {α:Type}(A B:α→Bool):∀ (l:List α),l.Pairwise (fun x z=>B x=true→A z=false)→(∀ x∈l,A x=true→B x=false)→l.filter A++l.filter B=l.filter fun x=>A x || B x
 | [],_,_=>rfl
 | x :: t,h,hd=>by
   rw [List.pairwise_cons] at h
   have ih:=sorted_split A B t h.2 (fun z hz=>hd z (by simp [hz]))
   cases ha:A x
   ·cases hb:B x
    ·simp [ha,hb,ih]
    ·have e1:t.filter A=[]:=List.filter_eq_nil_iff.2 fun z hz=>by rw [h.1 z hz hb];simp
     rw [e1,List.nil_append] at ih
     simp [ha,hb,e1,ih]
   ·have hb:=hd x (by simp) ha
    simp [ha,hb,ih]
theorem split_at {α:Type}{f:α→List UInt8}{o:α}:∀ {l:List α},l.Pairwise (fun a b=>ltP (f a) (f b)=true)→o∈l→l=(l.filter fun x=>ltP (f x) (f o))++o :: l.filter fun x=>ltP (f o) (f x)
 | [],_,h=>by simp at h
 | x :: t,h,hm=>by
   rw [List.pairwise_cons] at h
   rcases List.mem_cons.1 hm with rfl | hm
   ·have e1:t.filter (fun x=>ltP (f x) (f o))=[]:=List.filter_eq_nil_iff.2 fun z hz=>by
     intro h2
     have:=totP.trans (h.1 z hz) h2
     rw [totP.irr] at this;cases this
    have e2:t.filter (fun x=>ltP (f o) (f x))=t:=List.filter_eq_self.2 fun z hz=>h.1 z hz
    simp [totP.irr,e1,e2]
   ·have ih:=split_at h.2 hm
    have h1:=h.1 o hm
    have h2:ltP (f o) (f x)=false:=by
     cases h3:ltP (f o) (f x)
     ·rfl
     ·have:=totP.trans h1 h3
      rw [totP.irr] at this;cases this
    simp only [List.filter_cons,h1,h2,if_true,Bool.false_eq_true,if_false,List.cons_append]
    rw [←ih]
theorem nd_parted {ns:List Nd}(h:TreeS (entsN ns)) {x:Nd}(hx:x∈ns):Parted x.p:=parted_of (h.ent x.ent (List.mem_map.2 ⟨x,hx,rfl⟩))
theorem nd_ord {ns:List Nd}(h:TreeS (entsN ns)):ns.Pairwise fun x y=>ltP x.p y.p=true:=by
 have:=h.ord
 rw [entsN,List.pairwise_map] at this
 exact this
theorem kids_wo_same {ns:List Nd}(h:TreeS (entsN ns)) {p q:List UInt8}{self:Bool}(hq:keepW p self q=true) (h1:self=true→q≠dirOf p) (h2:self=false→q≠p):kidsN (woG Nd.p ns p self) q=kidsN ns q:=by
 rw [kidsN,kidsN,woG,List.filter_filter]
 congr 1
 refine List.filter_congr fun x hx=>?_
 have hk:=keepW_iff.1 hq
 cases hd:(dirOf x.p==q)
 ·rfl
 ·have hd':dirOf x.p=q:=by simpa using hd
  have hP:=nd_parted h hx
  rw [Bool.true_and]
  refine keepW_iff.2 ⟨fun hu=>?_,fun hs e=>h1 hs (by rw [←hd',e])⟩
  rcases hP.up hu with e | e
  ·rw [hd'] at e
   cases self
   ·exact h2 rfl e.symm
   ·exact hk.2 rfl e.symm
  ·rw [hd'] at e;exact hk.1 e
theorem kids_wo_del {ns:List Nd}(h:TreeS (entsN ns)) {p:List UInt8}(hp:Parted p):kidsN (woG Nd.p ns p true) (dirOf p)=(kidsN ns (dirOf p)).filter fun z=>z.1 != nameOf p:=by
 rw [kidsN,kidsN,woG,List.filter_map,List.filter_filter,List.filter_filter]
 congr 1
 refine List.filter_congr fun x hx=>?_
 have hP:=nd_parted h hx
 cases hd:(dirOf x.p==dirOf p)
 ·simp
 ·have hd':dirOf x.p=dirOf p:=by simpa using hd
  rw [Bool.true_and,Bool.and_true]
  by_cases hn:nameOf x.p=nameOf p
  ·have e:=hP.eq hp hd' hn
   simp [keepW,e]
  ·have:keepW p true x.p=true:=keepW_iff.2 ⟨fun hu=>by
    rcases hP.up hu with e | e
    ·rw [hd'] at e
     have:=hp.under
     rw [←e] at this
     exact not_under_self _ this
    ·rw [hd'] at e
     exact not_under_self _ (under_trans hp.under e),fun _ e=>hn (by rw [e])⟩
   rw [this]
   simp [hn]
theorem kids_wo_clear {ns:List Nd}(h:TreeS (entsN ns)) {p:List UInt8}:kidsN (woG Nd.p ns p false) p=[]:=by
 rw [kidsN,woG,List.filter_filter]
 rw [List.filter_eq_nil_iff.2,List.map_nil]
 intro x hx hc
 simp only [Bool.and_eq_true,beq_iff_eq] at hc
 have hP:=nd_parted h hx
 have:=hP.under
 rw [hc.1] at this
 exact (keepW_iff.1 hc.2).1 this
theorem put_split {ns:List Nd}(h:TreeS (entsN ns)) (both:Bool) (p:List UInt8):(ns.filter fun x=>ltP x.p p)++(ns.filter fun x=>keepPut both p x.p)=ns.filter fun x=>ltP x.p p || keepPut both p x.p:=by
 refine sorted_split _ _ ns ((nd_ord h).imp fun {x z} hl hb=>?_) (fun x _ ha=>?_)
 ·have h1:=(keepPut_iff.1 hb).1
  cases h2:ltP z.p p
  ·rfl
  ·have:=totP.trans (totP.trans h1 hl) h2
   rw [totP.irr] at this;cases this
 ·cases hb:keepPut both p x.p
  ·rfl
  ·have:=totP.trans ha (keepPut_iff.1 hb).1
   rw [totP.irr] at this;cases this
theorem kids_put_same {ns:List Nd}(h:TreeS (entsN ns)) {y:Nd}{q:List UInt8}(h1:q≠dirOf y.p) (h2:q≠y.p) (h3:¬ under y.p q):kidsN (putG Nd.p ns false y) q=kidsN ns q:=by
 have h1':(dirOf y.p==q)=false:=by simpa using fun e=>h1 e.symm
 rw [kidsN,kidsN,putG,List.filter_append,List.filter_cons,if_neg (by rw [h1'];simp),←List.filter_append,put_split h,List.filter_filter]
 congr 1
 refine List.filter_congr fun x hx=>?_
 cases hd:(dirOf x.p==q)
 ·rfl
 ·have hd':dirOf x.p=q:=by simpa using hd
  have hP:=nd_parted h hx
  rw [Bool.true_and,Bool.or_eq_true]
  cases hl:ltP x.p y.p
  ·right
   refine keepPut_iff.2 ⟨?_,.inr fun hu=>?_⟩
   ·cases hg:ltP y.p x.p
    ·have:=totP.one hl hg
     rw [this] at hd'
     exact absurd hd'.symm h1
    ·rfl
   ·rcases hP.up hu with e | e
    ·rw [hd'] at e;exact h2 e.symm
    ·rw [hd'] at e;exact h3 e
  ·exact .inl rfl
theorem kids_put_own {ns:List Nd}(h:TreeS (entsN ns)) {y:Nd}(hy:Parted y.p):kidsN (putG Nd.p ns false y) y.p=[]:=by
 have h1':(dirOf y.p==y.p)=false:=by
  simp only [beq_eq_false_iff_ne,ne_eq]
  intro e
  have:=hy.under
  rw [e] at this
  exact not_under_self _ this
 rw [kidsN,putG,List.filter_append,List.filter_cons,if_neg (by rw [h1'];simp),←List.filter_append,put_split h,List.filter_filter,List.filter_eq_nil_iff.2,List.map_nil]
 intro x hx hc
 simp only [Bool.and_eq_true,beq_iff_eq,Bool.or_eq_true] at hc
 have hu:=(nd_parted h hx).under
 rw [hc.1] at hu
 rcases hc.2 with h2 | h2
 ·rw [under_not_lt hu] at h2;cases h2
 ·rcases (keepPut_iff.1 h2).2 with h3 | h3
  ·cases h3
  ·exact h3 hu
theorem kids_put_dir {ns:List Nd}(h:TreeS (entsN ns)) {y:Nd}(hy:Parted y.p):kidsN (putG Nd.p ns false y) (dirOf y.p)=((kidsN ns (dirOf y.p)).filter fun z=>Op.bytesLess z.1 (nameOf y.p))++(nameOf y.p,y.nb) :: (kidsN ns (dirOf y.p)).filter fun z=>Op.bytesLess (nameOf y.p) z.1:=by
 rw [kidsN,kidsN,putG,List.filter_append,List.filter_cons,if_pos (by simp),List.map_append,List.map_cons,List.filter_map,List.filter_map,List.filter_filter,List.filter_filter,List.filter_filter,List.filter_filter]
 congr 2
 ·refine List.filter_congr fun x hx=>?_
  cases hd:(dirOf x.p==dirOf y.p)
  ·simp
  ·have hd':dirOf x.p=dirOf y.p:=by simpa using hd
   rw [(nd_parted h hx).lt hy hd']
   simp
 ·congr 1
  refine List.filter_congr fun x hx=>?_
  cases hd:(dirOf x.p==dirOf y.p)
  ·simp
  ·have hd':dirOf x.p=dirOf y.p:=by simpa using hd
   have hP:=nd_parted h hx
   have hnu:underB y.p x.p=false:=by
    cases hb:underB y.p x.p
    ·rfl
    ·exfalso
     rcases hP.up (underB_iff.1 hb) with e | e
     ·rw [hd'] at e
      have:=hy.under
      rw [←e] at this
      exact not_under_self _ this
     ·rw [hd'] at e
      exact not_under_self _ (under_trans hy.under e)
   rw [keepPut,hy.lt hP hd'.symm,hnu]
   simp
theorem kids_both {ns:List Nd}(h:TreeS (entsN ns)) {o y:Nd}(ho:o∈ns) (hp:y.p=o.p) (hn:y.nb=o.nb) (q:List UInt8):kidsN (putG Nd.p ns true y) q=kidsN ns q:=by
 have e:ns=_:=split_at (f:=Nd.p) (nd_ord h) ho
 have e2:(ns.filter fun x=>keepPut true y.p x.p)=ns.filter fun x=>ltP o.p x.p:=by
  refine List.filter_congr fun x _=>?_
  rw [keepPut,hp];simp
 rw [kidsN,putG,e2,hp]
 conv=>rhs;rw [kidsN,e]
 rw [List.filter_append,List.filter_append,List.map_append,List.map_append,List.filter_cons,List.filter_cons,hp]
 split
 ·rw [List.map_cons,List.map_cons,hp,hn]
 ·rfl
theorem insert_mid (x:Lit × DataW Unit) (l2:List (Lit × DataW Unit)) (h2:∀ y∈l2,x.1.before y.1=true):∀ l1:List (Lit × DataW Unit),(∀ y∈l1,x.1.before y.1=false)→DataW.insert x (l1++l2)=l1++x :: l2
 | [],_=>by
   cases l2 with
   | nil=>rfl
   | cons y r=>rw [List.nil_append,DataW.insert,h2 y (by simp),if_pos rfl];rfl
 | y :: r,h=>by
   rw [List.cons_append,DataW.insert,h y (by simp),if_neg (by simp),insert_mid x l2 h2 r (fun z hz=>h z (by simp [hz]))];rfl
theorem same_key (L:List (List UInt8 × Nat)) (x:List UInt8):((L.map fun p=>(Lit.string p.1,DataW.lit (H:=Unit) (.int .i64 (p.2:Int)))).filter fun p=>!p.1.sameKey (Lit.string x))=(L.filter fun p=>p.1 != x).map fun p=>(Lit.string p.1,DataW.lit (H:=Unit) (.int .i64 (p.2:Int))):=by
 rw [List.filter_map]
 congr 1
theorem DK_del (L:List (List UInt8 × Nat)) (x:List UInt8):(DK L).del (.string x)=DK (L.filter fun z=>z.1 != x):=by
 rw [DK,DK,DataW.del,same_key]
theorem DK_mid {L:List (List UInt8 × Nat)}(hL:L.Pairwise fun a b=>Op.bytesLess a.1 b.1=true) {x:List UInt8}{b:Nat}:(DK L).put (.string x) (.lit (.int .i64 (b:Int)))=DK ((L.filter fun z=>Op.bytesLess z.1 x)++(x,b) :: L.filter fun z=>Op.bytesLess x z.1):=by
 have e:(L.filter fun p=>p.1 != x)=(L.filter fun z=>Op.bytesLess z.1 x)++L.filter fun z=>Op.bytesLess x z.1:=by
  rw [sorted_split _ _ L (hL.imp fun {a c} hl hb=>by
   cases h2:Op.bytesLess c.1 x
   ·rfl
   ·have:=bl_trans (bl_trans hb hl) h2
    rw [bl_irr] at this;cases this) (fun a _ h1=>bl_asymm h1)]
  refine List.filter_congr fun z _=>?_
  by_cases hz:z.1=x
  ·rw [hz,bl_irr];simp
  ·have h1:(z.1 != x)=true:=by simpa using hz
   rw [h1]
   cases h2:Op.bytesLess z.1 x
   ·cases h3:Op.bytesLess x z.1
    ·exact absurd (bl_total h2 h3) hz
    ·rfl
   ·rfl
 rw [DK,DK,DataW.put,same_key,e,List.map_append,insert_mid,List.map_append]
 ·rfl
 ·intro y hy
  obtain ⟨z,hz,rfl⟩:=List.mem_map.1 hy
  show bytesBefore x z.1=true
  rw [before_eq];exact (List.mem_filter.1 hz).2
 ·intro y hy
  obtain ⟨z,hz,rfl⟩:=List.mem_map.1 hy
  show bytesBefore x z.1=false
  rw [before_eq];exact bl_asymm (List.mem_filter.1 hz).2
theorem KM.fit {w:World}{b n m:Nat}{L:List (List UInt8 × Nat)}(h:KM w b n L) (hm:L.length≤m):KM w b m L:=by
 obtain ⟨es,clock,hb,F,hs,hD⟩:=h
 refine ⟨es,clock,hb,F,?_,hD⟩
 have e:=congrArg Maps.size hD
 rw [DK] at e
 simp only [Maps.size,Go.length_sorted,List.length_map] at e
 simp at e
 omega
theorem kids_len (ns:List Nd) (p:List UInt8):(kidsN ns p).length≤ns.length:=by
 rw [kidsN,List.length_map];exact List.length_filter_le _ _
theorem kids_sort {ns:List Nd}(h:TreeS (entsN ns)) (p:List UInt8):(kidsN ns p).Pairwise fun a b=>Op.bytesLess a.1 b.1=true:=by
 have:=kids_ord (ns:=ns) (by have:=h.ok;rwa [show (entsN ns).length=ns.length from by simp [entsN]] at this) p
 rw [kidsN_eq,List.pairwise_map]
 exact this
theorem KM.clear {w:World}{b n:Nat}{L:List (List UInt8 × Nat)}(h:KM w b n L):∃ w',(∀ ty,(Builtin.clear_ #[127] ty #[.map (some b)]).run Tryz.prog w=.ok (.tuple #[]) w')∧KM w' b 0 []∧w.mapTurned w' b:=by
 obtain ⟨es,clock,hb,F,hs,hD⟩:=h
 refine ⟨_,fun ty=>?_,⟨#[],clock,?_,⟨by simp,Go.MapKept.stamped_empty clock,by simp⟩,Nat.le_refl _,rfl⟩,⟨es,clock,#[],clock,hb,rfl⟩⟩
 ·simp [Builtin.clear_,Go.run_underlying Tryz.underlying127,Go.MapKept.run_getObj_map hb,Go.MapKept.run_setObj_map _ hb,Result.andThen]
  rfl
 ·exact Go.ChangeMaps.heap_setBlock_same hb _
theorem nd_one {r:Nd}{ns:List Nd}(h:TreeS (entsN ns)) (hr:r.ent=rootE) {x z:Nd}(hx:x∈r :: ns) (hz:z∈r :: ns) (hp:x.p=z.p):x=z:=by
 have h0:∀ y∈ns,y.p≠[]:=fun y hy=>(ent_parts (h.ent y.ent (List.mem_map.2 ⟨y,hy,rfl⟩))).1
 have hr0:r.p=[]:=by rw [Nd.p,hr];rfl
 rcases List.mem_cons.1 hx with e1 | hx1 <;> rcases List.mem_cons.1 hz with e2 | hz1
 ·rw [e1,e2]
 ·exact absurd (hp.symm.trans (by rw [e1];exact hr0)) (h0 z hz1)
 ·exact absurd (hp.trans (by rw [e2];exact hr0)) (h0 x hx1)
 ·obtain ⟨i,hi,rfl⟩:=List.getElem_of_mem hx1
  obtain ⟨j,hj,rfl⟩:=List.getElem_of_mem hz1
  have ho:=List.pairwise_iff_getElem.1 (nd_ord h)
  rcases Nat.lt_trichotomy i j with hl | rfl | hl
  ·have:=ho i j hi hj hl;rw [hp,totP.irr] at this;cases this
  ·rfl
  ·have:=ho j i hj hi hl;rw [hp,totP.irr] at this;cases this
theorem Mem.turn {w w':World}{B:Nat}{r:Nd}{ns ns':List Nd}{x:Nd}(h:Mem w B r ns) (hx:x∈r :: ns') (hsub:∀ z∈ns',z∈ns) (hap:(r :: ns').Pairwise fun x y=>x.mb≠y.mb) (hg:w.grownBy w' (some x.mb)) {n:Nat}(hk:KM w' x.mb n (kidsN ns' x.p)) (hsame:∀ z∈r :: ns',z≠x→kidsN ns' z.p=kidsN ns z.p):Mem w' B r ns':=by
 have sub:∀ z∈r :: ns',z∈r :: ns:=fun z hz=>by
  rcases List.mem_cons.1 hz with rfl | hz
  ·simp
  ·simp [hsub z hz]
 obtain ⟨hx1,hx2,hx3,hx4⟩:=h.all x (sub x hx)
 refine ⟨h.root,fun z hz=>?_,hap⟩
 obtain ⟨h1,h2,h3,h4⟩:=h.all z (sub z hz)
 refine ⟨h1,h2,?_,?_⟩
 ·have hne:=(ne_mb hx4 h3 h3).1
  exact (hg.block z.nb (Array.getElem?_eq_some_iff.1 h3).1 (by simpa using hne)).trans h3
 ·by_cases hzx:z=x
  ·subst hzx
   exact hk.fit (kids_len _ _)
  ·have hmb:=apart_ne hap hx hz hzx
   rw [hsame z hz hzx]
   exact KM.fit (World.ownsMap.kept (row:=some x.mb) h4 hg (fun e=>hmb (Option.some.inj e))) (by rw [←hsame z hz hzx];exact kids_len _ _)
theorem apart_filter {r:Nd}{ns:List Nd}(h:(r :: ns).Pairwise fun x y=>x.mb≠y.mb) (f:Nd→Bool):(r :: ns.filter f).Pairwise fun x y=>x.mb≠y.mb:=by
 rw [List.pairwise_cons] at h ⊢
 exact ⟨fun z hz=>h.1 z (List.mem_filter.1 hz).1,h.2.filter _⟩
theorem wo_none {r:Nd}{ns:List Nd}(h:TreeS (entsN ns)) (hr:r.ent=rootE) {p:List UInt8}(hp:Parted p) (hno:∀ x∈r :: ns,x.p≠dirOf p):wo (entsN ns) p true=entsN ns:=by
 have hr0:r.p=[]:=by rw [Nd.p,hr];rfl
 have hat:∀ e∈entsN ns,e.path.data.toList≠p:=fun e he hep=>by
  rcases h.dir e he with h0 | ⟨d,hd,hdp,_⟩
  ·rw [hep] at h0
   exact hno r (by simp) (hr0.trans h0.symm)
  ·obtain ⟨x,hx,rfl⟩:=List.mem_map.1 hd
   exact hno x (by simp [hx]) (by rw [←hep];exact hdp)
 rw [wo,woG,List.filter_eq_self]
 intro e he
 refine keepW_iff.2 ⟨fun hu=>?_,fun _=>hat e he⟩
 obtain ⟨a,u,e1⟩:=hu
 obtain ⟨k,hk,hke⟩:=List.getElem_of_mem he
 have e1':prt e.path.data.toList=prt p++a :: u:=e1
 obtain ⟨q,a',hq,ha,hpa⟩:=ancestor h.ok (Nat.le_refl _) k e (prt p).length hk (by rw [←hke];exact List.getElem?_eq_getElem hk) (by rw [hp];simp) (by rw [e1'];simp)
 rw [e1',List.take_left'  rfl] at hpa
 exact hat a' (List.mem_of_getElem? ha) (prt_inj hpa)
set_option maxHeartbeats 2000000 in
set_option maxRecDepth 100000 in
theorem remove_any (r:Nd) (ns:List Nd) (B:Nat) (s:ByteArray) (m:Int) (w:World) (hM:Mem w B r ns) (HT:Hid (TreeS (entsN ns))) (HP:Hid (Parted s.data.toList)) (hB:B≤w.heap.size) (hs:s.size≤1048576) (hm:w.cell? ⟨14,0,none⟩=some (.int .i64 m)) :
  Calls Tryz.prog 95 #[.pointer (some ⟨r.nb,0,none⟩),.string s] w fun ev w'=>ev=.returned (.tuple #[])∧Hid (∃ ns',Mem w' B r ns'∧entsN ns'=wo (entsN ns) s.data.toList true)∧Below B w w':=by
 have HM:=hide hm
 have HMem:=hide hM
 have HB:=hide hB
 have HO:Hid (OkTo (entsN ns) ns.length):=hide (by have:=(uh HT).ok;rwa [show (entsN ns).length=ns.length from by simp [entsN]] at this)
 clear hm hM hB
 go_enter Tryz.func95,Tryz.ntmps95
 go_upto_region 1 with (go_at_call 86;refine (last_any s _ (by omega)).mono ?_;rintro ev w1 ⟨dd,nn,rfl,HD,HNm,hb1⟩)
 have hdd:dd.size≤1048576:=by rw [Lib.size_eq,uh HD];exact Nat.le_trans (dir_le _) (by rw [←Lib.size_eq];exact hs)
 have hnn:nn.size≤1048576:=by rw [Lib.size_eq,uh HNm];exact Nat.le_trans (name_le _) (by rw [←Lib.size_eq];exact hs)
 go_upto_region 2 with (go_at_call 47;refine (find_any r ns B dd m _ ((uh HMem).below hb1) HO hdd (cell_later hb1 (uh HM))).mono ?_;rintro ev w2 ⟨v,rfl,HF,hb2⟩)
 have hB2:Below w.heap.size w w2:=hb1.trans (hb2.mono hb1.size)
 have hM2:=(uh HMem).below hB2
 have hBz:=uh HB
 rcases uh HF with ⟨rfl,hno⟩ | ⟨x,hx,rfl,hxp⟩
 ·have R:Hid (wo (entsN ns) s.data.toList true=entsN ns):=hide (wo_none (uh HT) hM2.root (uh HP) (fun x hx=>by rw [←uh HD];exact hno x hx))
  have HM2:=hide hM2
  clear HF hno hM2
  go_wp2_with fail
  go_end0
  exact ⟨rfl,hide ⟨ns,uh HM2,(uh R).symm⟩,hB2.mono hBz⟩
 ·obtain ⟨hx1,hx2,hx3,hx4⟩:=hM2.all x hx
  have c4:w2.cell? ⟨x.nb,4,none⟩=some (.map (some x.mb)):=cell_of_row w2 x.nb 4 _ _ _ hx3
  have HX:=hide hx
  have HXp:=hide hxp
  have HX4:=hide hx4
  have HM2:=hide hM2
  have HX2:=hide hx2
  clear HF hM2 hx hxp hx3 hx4 hx1 hx2
  go_wp2_with (at_delete;refine wpList_delete_own _ rfl _ _ 127 9 rfl 60 (Maps.string_keyed Tryz.underlying9) Tryz.underlying127 RK x.mb ns.length (DK (kidsN ns x.p)) rfl (uh HX4) (.string nn) (.string nn.data.toList) rfl (WideMaps.keyOf_string_mk Tryz.underlying9 (s:=nn) (by unfold maxLen;omega)) ?_;intro w3 hown3 hturn3)
  go_end0
  have hT:=uh HT
  have hP:=uh HP
  have hxd:x.p=dirOf s.data.toList:=(uh HXp).trans (uh HD)
  have hkx:x∈r :: woG Nd.p ns s.data.toList true:=by
   rcases List.mem_cons.1 (uh HX) with e | e
   ·rw [e];simp
   ·refine List.mem_cons_of_mem _ (List.mem_filter.2 ⟨e,keepW_iff.2 ⟨fun hu=>?_,fun _ he=>?_⟩⟩)
    ·rw [hxd] at hu;exact not_under_self _ (under_trans hP.under hu)
    ·have:=hP.under
     rw [←hxd,he] at this
     exact not_under_self _ this
  have hk3:KM w3 x.mb ns.length (kidsN (woG Nd.p ns s.data.toList true) x.p):=by
   have h:=hown3
   rw [DK_del,uh HNm,hxd,←kids_wo_del hT hP,←hxd] at h
   exact h
  refine ⟨rfl,hide ⟨_,Mem.turn (uh HM2) hkx (fun z hz=>(List.mem_filter.1 hz).1) (apart_filter (uh HM2).apart _) hturn3.grown hk3 (fun z hz hne=>?_),wo_nodes _ _ _⟩,(hB2.mono hBz).grown hturn3.grown (Nat.le_trans hBz hB2.size) (fun q hq=>by cases hq;exact uh HX2)⟩
  refine kids_wo_same hT ?_ (fun _ e=>hne (nd_one hT (uh HM2).root ?_ (uh HX) (e.trans hxd.symm))) (fun h=>by cases h)
  ·rcases List.mem_cons.1 hz with e | e
   ·have h0:z.p=[]:=by rw [e,Nd.p,(uh HM2).root];rfl
    rw [h0]
    refine keepW_iff.2 ⟨fun ⟨a,u,e1⟩=>by simp [prt] at e1,fun _ e1=>?_⟩
    rw [←e1] at hP
    have h5:=congrArg List.length (show prt ([]:List UInt8)=_ from hP)
    simp [prt] at h5
   ·exact (List.mem_filter.1 e).2
  ·rcases List.mem_cons.1 hz with e | e
   ·rw [e];simp
   ·exact List.mem_cons_of_mem _ (List.mem_filter.1 e).1
theorem root_keep {p:List UInt8}{self:Bool}(hp:self=true→p≠[]):keepW p self []=true:=keepW_iff.2 ⟨fun ⟨a,u,e1⟩=>by simp [prt] at e1,fun h e=>hp h e.symm⟩
theorem wo_below {r:Nd}{ns:List Nd}(h:TreeS (entsN ns)) (hr:r.ent=rootE) {p:List UInt8}(hno:∀ x∈r :: ns,x.p≠p):wo (entsN ns) p false=entsN ns:=by
 have hr0:r.p=[]:=by rw [Nd.p,hr];rfl
 rw [wo,woG,List.filter_eq_self]
 intro e he
 refine keepW_iff.2 ⟨fun hu=>?_,fun h=>by cases h⟩
 obtain ⟨a,u,e1⟩:=hu
 obtain ⟨k,hk,hke⟩:=List.getElem_of_mem he
 have e1':prt e.path.data.toList=prt p++a :: u:=e1
 have hp0:p≠[]:=fun e=>hno r (by simp) (hr0.trans e.symm)
 have hl:1≤(prt p).length:=by
  cases h2:prt p with
  | nil=>exact absurd h2 (prt_some hp0)
  | cons _ _=>simp
 obtain ⟨q,a',hq,ha,hpa⟩:=ancestor h.ok (Nat.le_refl _) k e (prt p).length hk (by rw [←hke];exact List.getElem?_eq_getElem hk) hl (by rw [e1'];simp)
 rw [e1',List.take_left' rfl] at hpa
 obtain ⟨x,hx,e2⟩:=List.mem_map.1 (List.mem_of_getElem? ha)
 exact hno x (by simp [hx]) (by rw [Nd.p,e2];exact prt_inj hpa)
set_option maxHeartbeats 2000000 in
set_option maxRecDepth 100000 in
theorem clear_any (r:Nd) (ns:List Nd) (B:Nat) (s:ByteArray) (m:Int) (w:World) (hM:Mem w B r ns) (HT:Hid (TreeS (entsN ns))) (hB:B≤w.heap.size) (hs:s.size≤1048576) (hm:w.cell? ⟨14,0,none⟩=some (.int .i64 m)) :
  Calls Tryz.prog 96 #[.pointer (some ⟨r.nb,0,none⟩),.string s] w fun ev w'=>ev=.returned (.tuple #[])∧Hid (∃ ns',Mem w' B r ns'∧entsN ns'=wo (entsN ns) s.data.toList false)∧Below B w w':=by
 have HM:=hide hm
 have HMem:=hide hM
 have HB:=hide hB
 have HO:Hid (OkTo (entsN ns) ns.length):=hide (by have:=(uh HT).ok;rwa [show (entsN ns).length=ns.length from by simp [entsN]] at this)
 clear hm hM hB
 go_enter Tryz.func96,Tryz.ntmps96
 go_upto_region 1 with (go_at_call 47;refine (find_any r ns B s m _ (uh HMem) HO hs (uh HM)).mono ?_;rintro ev w2 ⟨v,rfl,HF,hB2⟩)
 have hM2:=(uh HMem).below hB2
 have hBz:=uh HB
 rcases uh HF with ⟨rfl,hno⟩ | ⟨x,hx,rfl,hxp⟩
 ·have R:Hid (wo (entsN ns) s.data.toList false=entsN ns):=hide (wo_below (uh HT) hM2.root hno)
  have HM2:=hide hM2
  clear HF hno hM2
  go_wp2_with fail
  go_end0
  exact ⟨rfl,hide ⟨ns,uh HM2,(uh R).symm⟩,hB2.mono hBz⟩
 ·obtain ⟨hx1,hx2,hx3,hx4⟩:=hM2.all x hx
  have c4:w2.cell? ⟨x.nb,4,none⟩=some (.map (some x.mb)):=cell_of_row w2 x.nb 4 _ _ _ hx3
  obtain ⟨w3,hrun,hown3,hturn3⟩:=hx4.clear
  have HX:=hide hx
  have HXp:=hide hxp
  have HM2:=hide hM2
  have HX2:=hide hx2
  have HO3:=hide hown3
  have HT3:=hide hturn3
  clear HF hM2 hx hxp hx3 hx4 hx1 hx2 hown3 hturn3
  go_wp2_with fail
  go_end0
  have hT:=uh HT
  have hxd:x.p=s.data.toList:=uh HXp
  have hturn3:=uh HT3
  have hkx:x∈r :: woG Nd.p ns s.data.toList false:=by
   rcases List.mem_cons.1 (uh HX) with e | e
   ·rw [e];simp
   ·refine List.mem_cons_of_mem _ (List.mem_filter.2 ⟨e,keepW_iff.2 ⟨fun hu=>?_,fun h=>by cases h⟩⟩)
    rw [hxd] at hu;exact not_under_self _ hu
  have hk3:KM w3 x.mb 0 (kidsN (woG Nd.p ns s.data.toList false) x.p):=by
   rw [hxd,kids_wo_clear hT]
   exact uh HO3
  refine ⟨rfl,hide ⟨_,Mem.turn (uh HM2) hkx (fun z hz=>(List.mem_filter.1 hz).1) (apart_filter (uh HM2).apart _) hturn3.grown hk3 (fun z hz hne=>?_),wo_nodes _ _ _⟩,(hB2.mono hBz).grown hturn3.grown (Nat.le_trans hBz hB2.size) (fun q hq=>by cases hq;exact uh HX2)⟩
  refine kids_wo_same hT ?_ (fun h=>by cases h) (fun _ e=>hne (nd_one hT (uh HM2).root ?_ (uh HX) (e.trans hxd.symm)))
  ·rcases List.mem_cons.1 hz with e | e
   ·have h0:z.p=[]:=by rw [e,Nd.p,(uh HM2).root];rfl
    rw [h0];exact root_keep (fun h=>by cases h)
   ·exact (List.mem_filter.1 e).2
  ·rcases List.mem_cons.1 hz with e | e
   ·rw [e];simp
   ·exact List.mem_cons_of_mem _ (List.mem_filter.1 e).1
end Go.Proofs.YtehfpjcclknipaaGreatDoor.T
