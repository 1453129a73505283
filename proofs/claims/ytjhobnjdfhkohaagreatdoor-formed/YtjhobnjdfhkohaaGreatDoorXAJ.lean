import Derived.Test.YtjhobnjdfhkohaaGreatDoorXAI
set_option linter.all false
namespace Go.Proofs.YtjhobnjdfhkohaaGreatDoor.T
open Go.Proofs.Tryz
open Go.RowKit Go.Maps
def AN(ns:List Nd)(φ:Nd->Nd)(p:LU):List (LU×Nat):=(aF ns p).map λk=>(ai k.p,(φ k).nb)
structure pQ(ns:List Nd)(V:World)(B:Nat)(φ:Nd->Nd)(z:Nd):Prop where
 ent:(φ z).ent=z.ent
 nb:B<=(φ z).nb
 mb:B<=(φ z).mb
 cell:V.heap[(φ z).nb]?=some (.cells (φ z).cells 172 (0,0))
 map:KM V (φ z).mb ns.length (AN ns φ z.p)
structure vp(ns:List Nd)(V:World)(B:Nat)(φ:Nd->Nd)(l:List Nd):Prop where
 all:∀z∈l,pQ ns V B φ z
 apart:l.Pairwise λa b=>(φ a).mb≠(φ b).mb
theorem pQ.kp{ns:List Nd}{V V':World}{B B0:Nat}{φ:Nd->Nd}{z:Nd}(h:pQ ns V B φ z)(hk:Kp B0 V V'):pQ ns V' B φ z:=⟨h.ent,h.nb,h.mb,hk.block _ _ h.cell (.inr rfl),h.map.kp hk⟩
theorem pQ.grown{ns:List Nd}{V V':World}{B b:Nat}{φ:Nd->Nd}{z:Nd}(h:pQ ns V B φ z)(hg:V.grownBy V' (some b))(h1:b≠(φ z).nb)(h2:b≠(φ z).mb):pQ ns V' B φ z:= ⟨h.ent,h.nb,h.mb,(hg.block _ (GP.1 h.cell).1 (λe=>h1 (by injection e with e;exact e.symm))).trans h.cell,World.ownsMap.kept h.map hg (λe=>h2 (by injection e with e;exact e.symm))⟩
theorem pQ.below{ns:List Nd}{V V':World}{B:Nat}{φ:Nd->Nd}{z:Nd}(h:pQ ns V B φ z)(hb:Bw V V'):pQ ns V' B φ z:=h.kp (B0:=0) (Kp.below hb)
theorem p9{ns:List Nd}(hO:cX (ac ns) ns.length){p:LU}{k z:Nd}(hk:k∈aF ns p)(hz:z∈k::aJ ns k.p):∃v,prt z.p=prt p++ai k.p::v:=by
 have hk':=bW hk;have hu:=mh hO hk'.1;rw[hk'.2]at hu;rcases nh.1 hz with rfl|hz
 .exact⟨[],hu⟩
 obtain⟨_,a,u,e⟩:=cZ.1 hz;exact⟨a::u,by rw[e,hu];simp⟩
theorem Gt{ns:List Nd}(hO:cX (ac ns) ns.length){p:LU}{k z c:Nd}(hk:k∈aF ns p)(hz:z∈k::aJ ns k.p)(hc:c∈aF ns z.p):∃v,prt c.p=prt p++ai k.p::v:=by obtain⟨v,hv⟩:=p9 hO hk hz;have hc':=bW hc;have hu:=mh hO hc'.1;rw[hc'.2,hv]at hu;exact⟨v++[ai c.p],by rw[hu];simp⟩
theorem Fw{ns:List Nd}(hO:cX (ac ns) ns.length){y z c:Nd}(hz:z∈y::aJ ns y.p)(hc:c∈aF ns z.p):c∈y::aJ ns y.p:=by
 have hc':=bW hc;have hu:=mh hO hc'.1;rw[hc'.2]at hu;refine List.mem_cons_of_mem _ (cZ.2 ⟨hc'.1,?_⟩);rcases nh.1 hz with rfl|hz
 .exact⟨ai c.p,[],hu⟩
 obtain⟨_,a,u,e⟩:=cZ.1 hz;exact⟨a,u++[ai c.p],by rw[hu,e];simp⟩
def jj(φ ψ:Nd->Nd)(l:List Nd)[DecidablePred (·∈l)]:Nd->Nd:=λz=>if z∈l then ψ z else φ z
theorem jq{φ ψ:Nd->Nd}{l:List Nd}[DecidablePred (·∈l)]{z:Nd}(h:z∈l):jj φ ψ l z=ψ z:=by unfold jj;exact if_pos h
theorem oY{φ ψ:Nd->Nd}{l:List Nd}[DecidablePred (·∈l)]{z:Nd}(h:z∉l):jj φ ψ l z=φ z:=by unfold jj;exact if_neg h
structure nc(ns:List Nd)(x:Nd)(W V:World)(nb mb:Nat)(φ:Nd->Nd)(p:List (zg ns x.p)):Prop where
 head:φ x=⟨x.ent,nb,mb⟩
 all:∀k∈p,∀z∈k.1::aJ ns k.1.p,pQ ns V W.heap.size φ z/\(φ z).mb≠mb
 apart:((p.map λk=>k.1::aJ ns k.1.p).flatten).Pairwise λa b=>(φ a).mb≠(φ b).mb
 nbW:W.heap.size<=nb
 mbW:W.heap.size<=mb
 cell:V.heap[nb]?=some (.cells (Nd.cells ⟨x.ent,nb,mb⟩) 172 (0,0))
 map:KM V mb ns.length (p.map λk=>(ai k.1.p,(φ k.1).nb))
 below:Bw W V
theorem nc.kp{ns:List Nd}{x:Nd}{W V V':World}{nb mb B0:Nat}{φ:Nd->Nd}{p:List (zg ns x.p)}(h:nc ns x W V nb mb φ p)(hk:Kp B0 V V')(hB:W.heap.size<=B0):nc ns x W V' nb mb φ p:= ⟨h.head,λk hkk z hz=>⟨(h.all k hkk z hz).1.kp hk,(h.all k hkk z hz).2⟩,h.apart,h.nbW,h.mbW,hk.block _ _ h.cell (.inr rfl),h.map.kp hk,
 ⟨hk.os.trans h.below.os,hk.tape.trans h.below.tape,hk.output.trans h.below.output,dz h.below.size hk.size,λi hi=>by have hlt:=Nat.lt_of_lt_of_le hi h.below.size;have e:=hk.block i _ (Array.getElem?_eq_getElem hlt) (.inl (by omega));rw[e,<-Array.getElem?_eq_getElem hlt];exact h.below.block i hi⟩⟩
theorem nc.later{ns:List Nd}{x:Nd}{W V V':World}{nb mb:Nat}{φ:Nd->Nd}{p:List (zg ns x.p)}(h:nc ns x W V nb mb φ p)(hb:Bw V V'):nc ns x W V' nb mb φ p:=h.kp (B0:=W.heap.size) (Kp.below hb) (bH _)
open Classical in
theorem nc.step{ns:List Nd}{x:Nd}{W V V2 V3:World}{nb mb:Nat}{φ ψ:Nd->Nd}{p:List (zg ns x.p)}{y:zg ns x.p}(hO:cX (ac ns) ns.length)(h:nc ns x W V nb mb φ p)(hp:p++[y] <+: (aF ns x.p).attach)(hb:Bw V V2)(hc:vp ns V2 V.heap.size ψ (y.1::aJ ns y.1.p))(hg:V2.grownBy V3 (some mb))(hm:KM V3 mb ns.length ((p.map λk=>(ai k.1.p,(φ k.1).nb))++[(ai y.1.p,(ψ y.1).nb)])): nc ns x W V3 nb mb (jj φ ψ (y.1::aJ ns y.1.p)) (p++[y]):=by
 have hless:∀k∈p,Op.bytesLess (ai k.1.p) (ai y.1.p)=true:=λk hk=>by
  have ho:=(jC hO x.p)
  rw[<-List.attach_map_subtype_val (l:=aF ns x.p),List.pairwise_map]at ho;obtain⟨t,ht⟩:=hp;rw[<-ht,yL,List.pairwise_append]at ho;exact ho.2.2 k hk y (by simp)
 have hdis:∀k∈p,∀z,(∃v,prt z.p=prt x.p++ai k.1.p::v)->z∉y.1::aJ ns y.1.p:=λk hk z ⟨v,hv⟩ hz=>by obtain⟨u,hu⟩:=p9 hO y.2 hz;rw[hv]at hu;have:=List.append_cancel_left hu;injection this with e _;have hl:=hless k hk;rw[e,jU]at hl;cases hl
 have hxo:x∉y.1::aJ ns y.1.p:=λhz=>by obtain⟨u,hu⟩:=p9 hO y.2 hz;have:=congrArg List.length hu;simp at this
 have old:∀k∈p,∀z∈k.1::aJ ns k.1.p,jj φ ψ (y.1::aJ ns y.1.p) z=φ z:=λk hk z hz=>oY (hdis k hk z (p9 hO k.2 hz));have hI2:=h.later hb;have hnm:∀{z:Nd},pQ ns V W.heap.size φ z->(φ z).mb<V.heap.size:=λhz=>World.ownsMap.lt hz.map;have hmV:mb<V.heap.size:=World.ownsMap.lt h.map;have hcells:∀{q:Nat}{c:Array Value},V2.heap[q]?=some (.cells c 172 (0,0))->mb≠q:=fun {q c} hq e=>by subst e;obtain⟨es',cl,h1,_⟩:=hI2.map;rw[h1]at hq;cases hq
 refine⟨by rw[oY hxo];exact h.head,λk hk z hz=>?_,?_,h.nbW,h.mbW,?_,?_,?_⟩
 .rcases JJ.1 hk with hk|hk
  .obtain⟨h1,h2⟩:=hI2.all k hk z hz;have h3:=h1.grown hg (hcells h1.cell) (λe=>h2 e.symm);have e:=old k hk z hz;refine⟨⟨by rw[e];exact h3.ent,by rw[e];exact h3.nb,by rw[e];exact h3.mb,by rw[e];exact h3.cell,?_⟩,by rw[e];exact h2⟩;rw[e];have ek:AN ns (jj φ ψ (y.1::aJ ns y.1.p)) z.p=AN ns φ z.p:=List.map_congr_left λc hc=>by rw[oY (hdis k hk c (Gt hO k.2 hz hc))]
   rw[ek];exact h3.map
  rw[List.mem_singleton]at hk;subst hk;have h1:=hc.all z hz;have hne:(ψ z).mb≠mb:=λe=>by have:=h1.mb;omega
  have h3:=h1.grown hg (hcells h1.cell) (λe=>hne e.symm);have e:jj φ ψ (k.1::aJ ns k.1.p) z=ψ z:=jq hz;refine⟨⟨by rw[e];exact h3.ent,by rw[e];exact dz h.below.size h3.nb,by rw[e];exact dz h.below.size h3.mb,by rw[e];exact h3.cell,?_⟩,by rw[e];exact hne⟩;rw[e];have ek:AN ns (jj φ ψ (k.1::aJ ns k.1.p)) z.p=AN ns ψ z.p:=List.map_congr_left λc hcc=>by rw[jq (Fw hO hz hcc)]
  rw[ek];exact h3.map
 .rw[List.map_append,List.flatten_append,List.pairwise_append];refine⟨?_,?_,λa ha b hb'=>?_⟩
  .refine h.apart.imp_of_mem fun {a b} ha hb' hab=>?_;obtain⟨la,hla,ha⟩:=List.mem_flatten.1 ha;obtain⟨ka,hka,rfl⟩:=List.mem_map.1 hla;obtain⟨lb,hlb,hb'⟩:=List.mem_flatten.1 hb';obtain⟨kb,hkb,rfl⟩:=List.mem_map.1 hlb;rw[old ka hka a ha,old kb hkb b hb'];exact hab
  .simp only[List.map_cons,List.map_nil,List.flatten_cons,List.flatten_nil,List.append_nil];refine hc.apart.imp_of_mem fun {a b} ha hb' hab=>?_;rw[jq ha,jq hb'];exact hab
  obtain⟨la,hla,ha⟩:=List.mem_flatten.1 ha;obtain⟨ka,hka,rfl⟩:=List.mem_map.1 hla;have hb2:b∈y.1::aJ ns y.1.p:=by simpa using hb'
  rw[old ka hka a ha,jq hb2];have h1:=hnm (h.all ka hka a ha).1;have h2:=(hc.all b hb2).mb;omega
 .exact(hg.block nb (GP.1 hI2.cell).1 (λe=>hcells hI2.cell (by injection e with e;exact e.symm))).trans hI2.cell
 .rw[List.map_append];have e1:(p.map λk=>(ai k.1.p,(jj φ ψ (y.1::aJ ns y.1.p) k.1).nb))=p.map λk=>(ai k.1.p,(φ k.1).nb):=List.map_congr_left λk hk=>by rw[old k hk k.1 (List.mem_cons_self ..)]
  rw[e1];simp only[List.map_cons,List.map_nil];rw[jq (List.mem_cons_self ..)];exact hm
 exact(hI2.below).grown hg hI2.below.size (λq hq=>by cases hq;exact h.mbW)
theorem nc.done{ns:List Nd}{x:Nd}{W V:World}{nb mb:Nat}{φ:Nd->Nd}(hO:cX (ac ns) ns.length)(h:nc ns x W V nb mb φ (aF ns x.p).attach):vp ns V W.heap.size φ (x::aJ ns x.p):=by
 have hmem:∀z,z∈aJ ns x.p->∃k∈(aF ns x.p).attach,z∈k.1::aJ ns k.1.p:=λz hz=>by rw[<-oQ hO x.p]at hz;obtain⟨l,hl,hz⟩:=List.mem_flatten.1 hz;obtain⟨k,hk,rfl⟩:=List.mem_map.1 hl;exact⟨⟨k,hk⟩,List.mem_attach _ _,hz⟩
 have hfl:((aF ns x.p).attach.map λk:zg ns x.p=>k.1::aJ ns k.1.p).flatten=aJ ns x.p:=by rw[<-oQ hO x.p,List.attach_map_val (l:=aF ns x.p) (f:=λk=>k::aJ ns k.p)]
 have hmx:=h.map;rw[List.attach_map_val (l:=aF ns x.p) (f:=λk=>(ai k.p,(φ k).nb))]at hmx;have hd:=h.head;refine⟨λz hz=>?_,?_⟩
 .rcases nh.1 hz with rfl|hz
  .exact⟨by rw[hd],by rw[hd];exact h.nbW,by rw[hd];exact h.mbW,by rw[hd];exact h.cell,by rw[hd];exact hmx⟩
  obtain⟨k,hk,hzk⟩:=hmem z hz;exact(h.all k hk z hzk).1
 rw[List.pairwise_cons];refine⟨λz hz e=>?_,?_⟩
 .obtain⟨k,hk,hzk⟩:=hmem z hz;exact(h.all k hk z hzk).2 (by rw[<-e,hd])
 have:=h.apart;rw[hfl]at this;exact this
theorem vp.kp{ns:List Nd}{V V':World}{B B0:Nat}{φ:Nd->Nd}{l:List Nd}(h:vp ns V B φ l)(hk:Kp B0 V V'):vp ns V' B φ l:=⟨λz hz=>(h.all z hz).kp hk,h.apart⟩
theorem G9{B0:Nat}{W V V':World}(h:Bw W V)(hk:Kp B0 V V')(hB:W.heap.size<=B0):Bw W V':= ⟨hk.os.trans h.os,hk.tape.trans h.tape,hk.output.trans h.output,dz h.size hk.size,λi hi=>by have hlt:=Nat.lt_of_lt_of_le hi h.size;have e:=hk.block i _ (Array.getElem?_eq_getElem hlt) (.inl (by omega));rw[e,<-Array.getElem?_eq_getElem hlt];exact h.block i hi⟩
end Go.Proofs.YtjhobnjdfhkohaaGreatDoor.T
