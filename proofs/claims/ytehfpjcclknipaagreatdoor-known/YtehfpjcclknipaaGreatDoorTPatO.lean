import Derived.Test.YtehfpjcclknipaaGreatDoorJTDifP
import Derived.Deep.RegionHeld3
import Derived.Test.YtehfpjcclknipaaGreatDoorJPlain
namespace Go.Proofs.YtehfpjcclknipaaGreatDoor.T
open Go.RowKit Go.Maps
theorem find_kindS {r:Nd}{ns:List Nd}(h:TreeS (entsN ns)) (hr:r.ent=rootE) {p:List UInt8}{v:Value}(hv:FindIs r ns p v):(v=.pointer none∧kindP (entsN ns) p≠1)∨∃ x∈r :: ns,v=.pointer (some ⟨x.nb,0,none⟩)∧x.p=p∧kindP (entsN ns) p=x.ent.kind:=by
 have hr0:r.p=[]:=by rw [Nd.p,hr];rfl
 rcases hv with ⟨rfl,hno⟩ | ⟨x,hx,rfl,hp⟩
 ·refine .inl ⟨rfl,fun hk=>?_⟩
  rcases (h.kind p).1 hk with h0 | ⟨d,hd,hdp,_⟩
  ·exact hno r (by simp) (hr0.trans h0.symm)
  ·obtain ⟨x,hx,rfl⟩:=List.mem_map.1 hd
   exact hno x (by simp [hx]) hdp
 ·refine .inr ⟨x,hx,rfl,hp,?_⟩
  rcases List.mem_cons.1 hx with e | e
  ·rw [←hp,e,hr0,hr];rfl
  ·have hm:x.ent∈entsN ns:=List.mem_map.2 ⟨x,e,rfl⟩
   have h0:=(ent_parts (h.ent x.ent hm)).1
   have hp0:p≠[]:=by rw [←hp];exact h0
   rw [kindP_at hp0,←hp]
   show (match atE (entsN ns) x.ent.path.data.toList with | some e=>e.kind | none=>0)=_
   rw [h.at hm]
theorem apart_put {r:Nd}{ns:List Nd}{y:Nd}{both:Bool}(h:(r :: ns).Pairwise fun x y=>x.mb≠y.mb) (hfr:∀ z∈r :: putG Nd.p ns both y,z≠y→z.mb≠y.mb) (hry:r≠y) (hny:∀ z∈ns,ltP z.p y.p=true∨ltP y.p z.p=true→z≠y):(r :: putG Nd.p ns both y).Pairwise fun x y=>x.mb≠y.mb:=by
 have hc:=List.pairwise_cons.1 h
 have k1:∀ z∈ns.filter (fun x=>ltP x.p y.p),z.mb≠y.mb:=fun z hz=>hfr z (List.mem_cons_of_mem _ (put_mem.2 (.inr ⟨(List.mem_filter.1 hz).1,.inl (List.mem_filter.1 hz).2⟩))) (hny z (List.mem_filter.1 hz).1 (.inl (List.mem_filter.1 hz).2))
 have k2:∀ z∈ns.filter (fun x=>keepPut both y.p x.p),z.mb≠y.mb:=fun z hz=>hfr z (List.mem_cons_of_mem _ (put_mem.2 (.inr ⟨(List.mem_filter.1 hz).1,.inr (List.mem_filter.1 hz).2⟩))) (hny z (List.mem_filter.1 hz).1 (.inr (keepPut_iff.1 (List.mem_filter.1 hz).2).1))
 refine List.pairwise_cons.2 ⟨fun z hz=>?_,?_⟩
 ·rcases put_mem.1 hz with e | ⟨e,_⟩
  ·rw [e];exact hfr r (by simp) hry
  ·exact hc.1 z e
 ·rw [putG,List.pairwise_append,List.pairwise_cons]
  refine ⟨hc.2.filter _,⟨fun z hz=>(k2 z hz).symm,hc.2.filter _⟩,fun a ha b hb=>?_⟩
  rcases List.mem_cons.1 hb with e | e
  ·rw [e];exact k1 a ha
  ·have h1:=(List.mem_filter.1 ha)
   have h2:=(List.mem_filter.1 e)
   refine apart_ne hc.2 h2.1 h1.1 (fun e=>?_)
   have h3:=h1.2
   rw [e] at h3
   have:=totP.trans h3 (keepPut_iff.1 h2.2).1
   rw [totP.irr] at this;cases this
theorem Mem.put {w w':World}{B:Nat}{r:Nd}{ns:List Nd}{x y:Nd}(h:Mem w B r ns) (hT:TreeS (entsN ns)) (hx:x∈r :: ns) (hxd:x.p=dirOf y.p) (hy:Parted y.p) (hy1:B≤y.nb) (hy2:B≤y.mb) (hyc:w.heap[y.nb]?=some (.cells y.cells 129 (0,0))) (hyk:KM w y.mb 0 []) (hfr:∀ z∈r :: ns,z.mb≠y.mb) (hg:w.grownBy w' (some x.mb)) {n:Nat}(hk:KM w' x.mb n (kidsN (putG Nd.p ns false y) x.p)):Mem w' B r (putG Nd.p ns false y):=by
 have hr0:r.p=[]:=by rw [Nd.p,h.root];rfl
 have hy0:y.p≠[]:=fun e=>by
  have h5:=congrArg List.length (show prt y.p=_ from hy)
  rw [e] at h5
  simp [prt] at h5
 obtain ⟨_,_,hx3,hx4⟩:=h.all x hx
 have hap:(r :: putG Nd.p ns false y).Pairwise fun x y=>x.mb≠y.mb:=by
  refine apart_put h.apart (fun z hz hne=>?_) (fun e=>hy0 (by rw [←e];exact hr0)) (fun z _ hl e=>?_)
  ·rcases List.mem_cons.1 hz with e | e
   ·rw [e];exact hfr r (by simp)
   ·rcases put_mem.1 e with e | ⟨e,_⟩
    ·exact absurd e hne
    ·exact hfr z (by simp [e])
  ·rw [e,totP.irr] at hl
   rcases hl with hl | hl <;> cases hl
 refine ⟨h.root,fun z hz=>?_,hap⟩
 have key:z=y∨(z∈r :: ns∧z.p≠y.p∧¬ under y.p z.p):=by
  rcases List.mem_cons.1 hz with e | e
  ·right
   refine ⟨by rw [e];simp,by rw [e,hr0];exact hy0.symm,fun ⟨a,u,e1⟩=>?_⟩
   rw [e,hr0] at e1
   simp [prt] at e1
  ·rcases put_mem.1 e with e | ⟨e,h1 | h1⟩
   ·exact .inl e
   ·refine .inr ⟨by simp [e],fun e2=>?_,fun hu=>?_⟩
    ·rw [e2,totP.irr] at h1;cases h1
    ·rw [under_not_lt hu] at h1;cases h1
   ·have h2:=keepPut_iff.1 h1
    refine .inr ⟨by simp [e],fun e2=>?_,fun hu=>?_⟩
    ·rw [e2,totP.irr] at h2;cases h2.1
    ·rcases h2.2 with h3 | h3
     ·cases h3
     ·exact h3 hu
 rcases key with e | ⟨hm,hp1,hp2⟩
 ·rw [e]
  have hne:=(ne_mb hx4 hyc hyc).1
  refine ⟨hy1,hy2,(hg.block y.nb (Array.getElem?_eq_some_iff.1 hyc).1 (by simpa using hne)).trans hyc,?_⟩
  rw [kids_put_own hT hy]
  exact KM.fit (World.ownsMap.kept (row:=some x.mb) hyk hg (fun e=>hfr x hx (Option.some.inj e).symm)) (by simp)
 ·obtain ⟨h1,h2,h3,h4⟩:=h.all z hm
  have hne:=(ne_mb hx4 h3 h3).1
  refine ⟨h1,h2,(hg.block z.nb (Array.getElem?_eq_some_iff.1 h3).1 (by simpa using hne)).trans h3,?_⟩
  by_cases hzx:z=x
  ·rw [hzx];exact hk.fit (kids_len _ _)
  ·have hq:z.p≠dirOf y.p:=fun e=>hzx (nd_one hT h.root hm hx (e.trans hxd.symm))
   have e5:=kids_put_same hT hq hp1 hp2
   have h6:=kids_len (putG Nd.p ns false y) z.p
   rw [e5] at h6 ⊢
   exact KM.fit (World.ownsMap.kept (row:=some x.mb) h4 hg (fun e=>apart_ne h.apart hx hm hzx (Option.some.inj e))) h6
theorem Mem.over {w w':World}{B:Nat}{r:Nd}{ns:List Nd}{z:Nd}{e:Ent}(h:Mem w B r ns) (hT:TreeS (entsN ns)) (hz:z∈ns) (hzp:z.p=e.path.data.toList) (hc:w'.heap[z.nb]?=some (.cells (Nd.cells ⟨e,z.nb,z.mb⟩) 129 (0,0))) (ho:∀ k,k≠z.nb→w'.heap[k]?=w.heap[k]?):Mem w' B r (putG Nd.p ns true ⟨e,z.nb,z.mb⟩):=by
 have hr0:r.p=[]:=by rw [Nd.p,h.root];rfl
 obtain ⟨hz1,hz2,hz3,hz4⟩:=h.all z (by simp [hz])
 have hz0:z.p≠[]:=(ent_parts (hT.ent z.ent (List.mem_map.2 ⟨z,hz,rfl⟩))).1
 have hyp:Nd.p ⟨e,z.nb,z.mb⟩=z.p:=hzp.symm
 have kKM:∀ {b n L},KM w b n L→KM w' b n L:=fun {b n L} hk=>by
  have hne:=(ne_mb hk hz3 hz3).1
  obtain ⟨es,clock,hb,F,hs,hD⟩:=hk
  exact ⟨es,clock,(ho b hne.symm).trans hb,F,hs,hD⟩
 have hnb:∀ u∈r :: ns,u.p≠z.p→u.nb≠z.nb∧u.mb≠z.mb:=fun u hu hp=>by
  have hmb:=apart_ne h.apart (x:=z) (z:=u) (by simp [hz]) hu (fun e=>hp (by rw [e]))
  refine ⟨fun en=>hmb ?_,hmb⟩
  have h3:=(h.all u hu).2.2.1
  rw [en,hz3] at h3
  have h4:=congrArg (fun o=>match o with | some (Obj.cells cs _ _)=>cs[4]? | _=>none) h3
  simp [Nd.cells] at h4
  exact h4.symm
 have sub:∀ u∈r :: putG Nd.p ns true ⟨e,z.nb,z.mb⟩,u=⟨e,z.nb,z.mb⟩∨(u∈r :: ns∧u.p≠z.p):=fun u hu=>by
  rcases List.mem_cons.1 hu with e1 | e1
  ·exact .inr ⟨by rw [e1];simp,by rw [e1,hr0];exact hz0.symm⟩
  ·rcases put_mem.1 e1 with e2 | ⟨e2,h1 | h1⟩
   ·exact .inl e2
   ·rw [hyp] at h1
    exact .inr ⟨by simp [e2],fun e3=>by rw [e3,totP.irr] at h1;cases h1⟩
   ·rw [hyp] at h1
    exact .inr ⟨by simp [e2],fun e3=>by have:=(keepPut_iff.1 h1).1;rw [e3,totP.irr] at this;cases this⟩
 refine ⟨h.root,fun u hu=>?_,?_⟩
 ·have hl:=kids_len (putG Nd.p ns true ⟨e,z.nb,z.mb⟩) u.p
  rw [kids_both hT hz hyp rfl] at hl ⊢
  rcases sub u hu with e1 | ⟨e1,e2⟩
  ·subst e1
   refine ⟨hz1,hz2,hc,?_⟩
   rw [hyp] at hl ⊢
   exact (kKM hz4).fit hl
  ·obtain ⟨h1,h2,h3,h4⟩:=h.all u e1
   exact ⟨h1,h2,(ho _ (hnb u e1 e2).1).trans h3,(kKM h4).fit hl⟩
 ·refine apart_put h.apart (fun u hu hne=>?_) (fun e1=>hz0 (by rw [←hyp,←e1];exact hr0)) (fun u _ hl e1=>?_)
  ·rcases sub u hu with e1 | ⟨e1,e2⟩
   ·exact absurd e1 hne
   ·exact (hnb u e1 e2).2
  ·rw [e1,totP.irr] at hl
   rcases hl with hl | hl <;> cases hl
theorem both_none {ns:List Nd}{x:Nd}{e:Ent}{nn:List UInt8}(h:TreeS (entsN ns)) (he:entOk e=true) (hxd:x.p=dirOf e.path.data.toList) (hnn:nn=nameOf e.path.data.toList) (hno:∀ p∈kidsN ns x.p,p.1≠nn):bothE (entsN ns) e=false:=by
 have hk:¬ kindP (entsN ns) e.path.data.toList=1:=fun hk=>by
  rcases (h.kind _).1 hk with h0 | ⟨d,hd,hdp,_⟩
  ·exact (ent_parts he).1 h0
  ·obtain ⟨z,hz,rfl⟩:=List.mem_map.1 hd
   have h2:=kids_in hz
   have hzp:z.p=e.path.data.toList:=hdp
   rw [hzp,←hxd] at h2
   exact hno _ h2 hnn.symm
 rw [bothE,decide_eq_false hk];rfl
theorem both_some {ns:List Nd}{z:Nd}{e:Ent}(h:TreeS (entsN ns)) (hz:z∈ns) (hzp:z.p=e.path.data.toList):bothE (entsN ns) e=(decide (z.ent.kind=1)&&decide (e.kind=1)):=by
 have hm:z.ent∈entsN ns:=List.mem_map.2 ⟨z,hz,rfl⟩
 have h0:=(ent_parts (h.ent z.ent hm)).1
 have hzp':z.ent.path.data.toList=e.path.data.toList:=hzp
 rw [bothE,kindP_at (by rw [←hzp'];exact h0),←hzp',h.at hm]
def Out (r:Nd) (ns:List Nd) (g:Nat):Prop:=∀ x∈r :: ns,g≠x.nb∧g≠x.mb
def Foot (r:Nd) (ns:List Nd) (w w':World):Prop:=∀ g,g<w.heap.size→Out r ns g→w'.heap[g]?=w.heap[g]?
def Grew (n:Nat) (ns ns':List Nd):Prop:=∀ y∈ns',(∃ x∈ns,y.nb=x.nb∧y.mb=x.mb)∨(n≤y.nb∧n≤y.mb)
theorem foot_below {r:Nd}{ns:List Nd}{w w':World}(h:Below w.heap.size w w'):Foot r ns w w':=fun g hg _=>h.block g hg
theorem grew_refl (n:Nat) (ns:List Nd):Grew n ns ns:=fun y hy=>.inl ⟨y,hy,rfl,rfl⟩
theorem Out.grew {r:Nd}{ns ns':List Nd}{g n:Nat}(h:Out r ns g) (hg:g<n) (hn:Grew n ns ns'):Out r ns' g:=fun x hx=>by
 rcases List.mem_cons.1 hx with rfl | hx
 ·exact h x (by simp)
 ·rcases hn x hx with ⟨y,hy,e1,e2⟩ | ⟨h1,h2⟩
  ·rw [e1,e2];exact h y (by simp [hy])
  ·omega
theorem Foot.trans {r:Nd}{ns ns':List Nd}{w w1 w2:World}(h1:Foot r ns w w1) (hn:Grew w.heap.size ns ns') (hs:w.heap.size≤w1.heap.size) (h2:Foot r ns' w1 w2):Foot r ns w w2:=fun g hg ho=>
 (h2 g (by omega) (ho.grew hg hn)).trans (h1 g hg ho)
theorem Grew.trans {n m:Nat}{a b c:List Nd}(h1:Grew n a b) (h2:Grew m b c) (hm:n≤m):Grew n a c:=fun y hy=>by
 rcases h2 y hy with ⟨x,hx,e1,e2⟩ | ⟨g1,g2⟩
 ·rcases h1 x hx with ⟨z,hz,e3,e4⟩ | ⟨g1,g2⟩
  ·exact .inl ⟨z,hz,e1.trans e3,e2.trans e4⟩
  ·exact .inr ⟨by omega,by omega⟩
 ·exact .inr ⟨by omega,by omega⟩
theorem foot_map {r:Nd}{ns:List Nd}{w w':World}{x:Nd}(hx:x∈r :: ns) (h:w.grownBy w' (some x.mb)):Foot r ns w w':=fun g hg ho=>h.block g hg (fun e=>(ho x hx).2 (by simpa using e))
theorem foot_over {r:Nd}{ns:List Nd}{w w':World}{z:Nd}(hz:z∈r :: ns) (ho:∀ k,k≠z.nb→w'.heap[k]?=w.heap[k]?):Foot r ns w w':=fun g _ h=>ho g (h z hz).1
theorem grew_put {n:Nat}{ns:List Nd}{both:Bool}{y:Nd}(h:n≤y.nb∧n≤y.mb∨∃ x∈ns,y.nb=x.nb∧y.mb=x.mb):Grew n ns (putG Nd.p ns both y):=fun z hz=>by
 rcases put_mem.1 hz with rfl | ⟨hz,_⟩
 ·rcases h with h | h
  ·exact .inr h
  ·exact .inl h
 ·exact .inl ⟨z,hz,rfl,rfl⟩
theorem Mem.out {w:World}{B:Nat}{r:Nd}{ns:List Nd}(h:Mem w B r ns) {g t:Nat}{cs:Array Value}{f:Nat × Nat}(hg:w.heap[g]?=some (.cells cs t f)) (ht:t≠129):Out r ns g:=fun x hx=>by
 obtain ⟨_,_,h3,h4⟩:=h.all x hx
 refine ⟨fun e=>?_,(ne_mb h4 hg h3).1⟩
 subst e
 rw [hg] at h3
 injection h3 with h3
 injection h3 with _ h3 _
 exact ht h3
theorem Mem.new {w:World}{B:Nat}{r:Nd}{ns:List Nd}(h:Mem w B r ns) {g:Nat}(hg:w.heap.size≤g):Out r ns g:=fun x hx=>by
 obtain ⟨_,_,h3,h4⟩:=h.all x hx
 have h5:=(Array.getElem?_eq_some_iff.1 h3).1
 have h6:=World.ownsMap.lt h4
 omega
set_option maxHeartbeats 2000000 in
set_option maxRecDepth 100000 in
theorem put_keep (r:Nd) (ns:List Nd) (B:Nat) (e:Ent) (m:Int) (w:World) (hM:Mem w B r ns) (HT:Hid (TreeS (entsN ns))) (HE:Hid (entOk e=true)) (hn:ns.length≤1000) (hB:B≤w.heap.size) (hs:e.path.size≤1048576) (hm:w.cell? ⟨14,0,none⟩=some (.int .i64 m)) :
  Calls Tryz.prog 45 #[.pointer (some ⟨r.nb,0,none⟩),.agg #[.string e.path,.int .i64 e.kind,.int .i64 e.mode,.string e.data]] w fun ev w'=>∃ b:Bool,ev=.returned (.bool b)∧Hid (b=decide (kindP (entsN ns) (dirOf e.path.data.toList)=1))∧Hid (b=true→∃ ns',Mem w' B r ns'∧entsN ns'=putE (entsN ns) e∧Grew w.heap.size ns ns')∧Hid (Foot r ns w w')∧Below B w w':=by
 have HM:=hide hm
 have HMem:=hide hM
 have HB:=hide hB
 have hB0:∀ o,Below w.heap.size w (w.alloc o):=fun o=>(Below.refl _ _).alloc (Nat.le_refl _) o
 have HO:Hid (OkTo (entsN ns) ns.length):=hide (by have:=(uh HT).ok;rwa [show (entsN ns).length=ns.length from by simp [entsN]] at this)
 clear hm hM hB
 go_enter Tryz.func45,Tryz.ntmps45
 go_upto_region 2 with (go_at_call 86;refine (last_any e.path _ (by omega)).mono ?_;rintro ev w1 ⟨dd,nn,rfl,HD,HNm,hb1⟩)
 have hB1:Below w.heap.size w w1:=(hB0 _).trans (hb1.mono (by simp))
 have hq:=(hb1.block w.heap.size (by simp)).trans (heap_alloc_new _ _)
 have hdd:dd.size≤1048576:=by rw [Lib.size_eq,uh HD];exact Nat.le_trans (dir_le _) (by rw [←Lib.size_eq];exact hs)
 have hnn:nn.size≤1048576:=by rw [Lib.size_eq,uh HNm];exact Nat.le_trans (name_le _) (by rw [←Lib.size_eq];exact hs)
 have HQ:=hide hq
 clear hq hb1
 go_upto_region 3 with (go_at_call 47;refine (find_any r ns B dd m _ ((uh HMem).below hB1) HO hdd (cell_later hB1 (uh HM))).mono ?_;rintro ev w2 ⟨v,rfl,HF,hb2⟩)
 have hB2:Below w.heap.size w w2:=hB1.trans (hb2.mono hB1.size)
 have hq2:w2.heap[w.heap.size]?=some (.cells #[.string e.path,.int .i64 e.kind,.int .i64 e.mode,.string e.data] 38 (0,0)):=(hb2.block w.heap.size (Array.getElem?_eq_some_iff.1 (uh HQ)).1).trans (uh HQ)
 have hM2:=(uh HMem).below hB2
 have hBz:=uh HB
 rcases find_kindS (uh HT) hM2.root (uh HF) with ⟨rfl,hk⟩ | ⟨x,hx,rfl,hxp,hk⟩
 ·have C:Hid (false=decide (kindP (entsN ns) (dirOf e.path.data.toList)=1)):=hide (by rw [←uh HD];exact (decide_eq_false hk).symm)
  clear hk HF hM2 hq2 HQ
  go_wp2_with (go_at_call 87;refine (isDir_nil _).mono ?_;rintro ev w3 ⟨rfl,hw⟩;obtain rfl:=hw.symm)
  go_ret
  exact ⟨false,rfl,C,hide (by intro h;cases h),hide (foot_below hB2),hB2.mono hBz⟩
 ·obtain ⟨hx1,hx2,hx3,hx4⟩:=hM2.all x hx
  have c1:w2.cell? ⟨x.nb,1,none⟩=some (.int .i64 x.ent.kind):=cell_of_row w2 x.nb 1 _ _ _ hx3
  have c4:w2.cell? ⟨x.nb,4,none⟩=some (.map (some x.mb)):=cell_of_row w2 x.nb 4 _ _ _ hx3
  have q0:w2.cell? ⟨w.heap.size,0,none⟩=some (.string e.path):=cell_of_row w2 w.heap.size 0 _ _ _ hq2
  have q1:w2.cell? ⟨w.heap.size,1,none⟩=some (.int .i64 e.kind):=cell_of_row w2 w.heap.size 1 _ _ _ hq2
  have q2:w2.cell? ⟨w.heap.size,2,none⟩=some (.int .i64 e.mode):=cell_of_row w2 w.heap.size 2 _ _ _ hq2
  have q3:w2.cell? ⟨w.heap.size,3,none⟩=some (.string e.data):=cell_of_row w2 w.heap.size 3 _ _ _ hq2
  by_cases k1:x.ent.kind=1
  ·have C:Hid (true=decide (kindP (entsN ns) (dirOf e.path.data.toList)=1)):=hide (by rw [←uh HD,hk,k1];rfl)
   have k2:(x.ent.kind==1)=true:=by simp [k1]
   rw [k1] at c1
   have HX:=hide hx
   have HXp:=hide hxp
   have HX4:=hide hx4
   have HM2:=hide hM2
   have HX3:=hide hx3
   have HQ2:=hide hq2
   have HXd:Hid (x.p=dirOf e.path.data.toList):=hide (hxp.trans (uh HD))
   rcases hx4.look nn (by omega) false with ⟨hlk,hno⟩ | ⟨q,hq,hlk⟩
   ·have HBo:Hid (bothE (entsN ns) e=false):=hide (both_none (uh HT) (uh HE) (uh HXd) (uh HNm) hno)
    simp only [Bool.false_eq_true,if_false] at hlk
    clear hx hxp hx4 hM2 hk HF hx3 hq2 hx1 hx2 hno
    go_upto_region 5 with (go_at_call 87;refine (isDir_at _ _ _ c1).mono ?_;rintro ev w3 ⟨rfl,hw⟩;obtain rfl:=hw.symm)
    go_upto_region 8 with (go_at_call 87;refine (isDir_nil _).mono ?_;rintro ev w3 ⟨rfl,hw⟩;obtain rfl:=hw.symm)
    go_region_held3 (fun w'=>w'.cell? ⟨x.nb,4,none⟩=some (.map (some x.mb))∧w'.cell? ⟨w.heap.size,0,none⟩=some (.string e.path)∧w'.cell? ⟨w.heap.size,1,none⟩=some (.int .i64 e.kind)∧w'.cell? ⟨w.heap.size,2,none⟩=some (.int .i64 e.mode)∧w'.cell? ⟨w.heap.size,3,none⟩=some (.string e.data))
     (first | exact ⟨keep_grown hg6 p4 (uh HNE).1,keep_grown hg6 p0 (uh HNE).2,keep_grown hg6 p1 (uh HNE).2,keep_grown hg6 p2 (uh HNE).2,keep_grown hg6 p3 (uh HNE).2⟩ | exact ⟨p4,p0,p1,p2,p3⟩ | go_keep)
     (first | (go_at_call 80;refine (newNode_any e _).mono ?_;rintro ev w5 ⟨nb,mb,rfl,hnb,hmb,HN5,hb5⟩;have p4:=cell_later (chain0 hb5) c4;have p0:=cell_later (chain0 hb5) q0;have p1:=cell_later (chain0 hb5) q1;have p2:=cell_later (chain0 hb5) q2;have p3:=cell_later (chain0 hb5) q3;obtain ⟨w6,hrun6,hown6,hg6⟩:=World.ownsMap.update ((uh HX4).below (chain0 hb5)) (Maps.string_keyed Tryz.underlying9) Tryz.underlying127 (by unfold maxLen;omega) (WideMaps.keyOf_string_mk Tryz.underlying9 (s:=nn) (by unfold maxLen;omega)) (show RK (.pointer (some ⟨nb,0,none⟩))=some (.lit (.int .i64 (nb:Int)),[]) from rfl);have HNE:Hid (x.nb≠x.mb∧w.heap.size≠x.mb):=hide (ne_mb (uh HX4) (uh HX3) (uh HQ2))))
    have hxx:=(uh HM2).all x (uh HX)
    have R1:Below B w w5:=(hB2.mono hBz).trans (Below.mono (B':=B) (chain0 hb5) (Nat.le_trans hBz hB2.size))
    have R2:Below B w w6:=R1.grown hg6 (Nat.le_trans hBz R1.size) (fun q hq=>by cases hq;exact hxx.2.1)
    have hPy:Parted (Nd.p ⟨e,nb,mb⟩):=parted_of (uh HE)
    have R3:KM w6 x.mb (ns.length+1) (kidsN (putG Nd.p ns false ⟨e,nb,mb⟩) x.p):=by
     have h:=hown6
     rw [uh HNm,DK_mid (kids_sort (uh HT) x.p)] at h
     rw [uh HXd] at h ⊢
     rw [show dirOf e.path.data.toList=dirOf (Nd.p ⟨e,nb,mb⟩) from rfl,kids_put_dir (uh HT) hPy]
     exact h
    have hz2:B≤w2.heap.size:=Nat.le_trans hBz hB2.size
    have hnb':w2.heap.size≤nb:=hnb
    have hmb':w2.heap.size≤mb:=hmb
    have R4:Mem w6 B r (putG Nd.p ns false ⟨e,nb,mb⟩):=Mem.put ((uh HM2).below (chain0 hb5)) (uh HT) (uh HX) (uh HXd) hPy (Nat.le_trans hz2 hnb') (Nat.le_trans hz2 hmb') (uh HN5).1 (uh HN5).2
     (fun z hz=>by have:=World.ownsMap.lt ((uh HM2).all z hz).2.2.2;show z.mb≠mb;omega) hg6 R3
    go_wp2_with fail
    go_ret
    exact ⟨true,rfl,C,hide (fun _=>⟨_,R4,by rw [put_nodes,putE,uh HBo],grew_put (.inl ⟨Nat.le_trans hB2.size hnb',Nat.le_trans hB2.size hmb'⟩)⟩),hide ((foot_below (hB2.trans ((chain0 hb5).mono hB2.size))).trans (grew_refl _ _) (Nat.le_trans hB2.size (chain0 hb5).size) (foot_map (uh HX) hg6)),R2⟩
   ·obtain ⟨z,hz,hzd,hzn,hzq⟩:=kids_mem hq
    subst hzq
    obtain ⟨_,_,hz3,_⟩:=hM2.all z (by simp [hz])
    have z1:w2.cell? ⟨z.nb,1,none⟩=some (.int .i64 z.ent.kind):=cell_of_row w2 z.nb 1 _ _ _ hz3
    have HZp:Hid (z.p=e.path.data.toList):=hide ((nd_parted (uh HT) hz).eq (parted_of (uh HE)) (hzd.trans (uh HXd)) (hzn.trans (uh HNm)))
    have HZ:=hide hz
    have HZ3:=hide hz3
    simp only [Bool.false_eq_true,if_false] at hlk
    by_cases hb:z.ent.kind=1∧e.kind=1
    ·obtain ⟨kz,ke⟩:=hb
     have HBo:Hid (bothE (entsN ns) e=true):=hide (by rw [both_some (uh HT) (uh HZ) (uh HZp),kz,ke];rfl)
     rw [kz] at z1
     have hq1:=q1
     rw [ke] at hq1
     have z0:w2.cell? ⟨z.nb,0,none⟩=some (.string z.ent.path):=cell_of_row w2 z.nb 0 _ _ _ hz3
     have f0:=frozen_of_row w2 z.nb 0 _ _ hz3
     have f1:=frozen_of_row w2 z.nb 1 _ _ hz3
     have f2:=frozen_of_row w2 z.nb 2 _ _ hz3
     have f3:=frozen_of_row w2 z.nb 3 _ _ hz3
     have HZ1:=hide hz3
     have m1:=heap_setCell_same w2 z.nb 0 _ _ (.string e.path) hz3
     have m2:=heap_setCell_same _ z.nb 1 _ _ (.int .i64 1) m1
     have m3:=heap_setCell_same _ z.nb 2 _ _ (.int .i64 e.mode) m2
     have m4:=heap_setCell_same _ z.nb 3 _ _ (.string e.data) m3
     have t1:(w2.setCell ⟨z.nb,0,none⟩ (.string e.path)).cell? ⟨z.nb,1,none⟩=some (.int .i64 z.ent.kind):=cell_of_row _ z.nb 1 _ _ _ m1
     have t2:((w2.setCell ⟨z.nb,0,none⟩ (.string e.path)).setCell ⟨z.nb,1,none⟩ (.int .i64 1)).cell? ⟨z.nb,2,none⟩=some (.int .i64 z.ent.mode):=cell_of_row _ z.nb 2 _ _ _ m2
     have t3:(((w2.setCell ⟨z.nb,0,none⟩ (.string e.path)).setCell ⟨z.nb,1,none⟩ (.int .i64 1)).setCell ⟨z.nb,2,none⟩ (.int .i64 e.mode)).cell? ⟨z.nb,3,none⟩=some (.string z.ent.data):=cell_of_row _ z.nb 3 _ _ _ m3
     have HC:Hid (((((w2.setCell ⟨z.nb,0,none⟩ (.string e.path)).setCell ⟨z.nb,1,none⟩ (.int .i64 1)).setCell ⟨z.nb,2,none⟩ (.int .i64 e.mode)).setCell ⟨z.nb,3,none⟩ (.string e.data)).heap[z.nb]?=some (.cells (Nd.cells ⟨e,z.nb,z.mb⟩) 129 (0,0))):=hide (by rw [m4,Nd.cells,Nd.cells,ke];rfl)
     have hzb:B≤z.nb:=(hM2.all z (by simp [hz])).1
     clear m1 m2 m3 m4
     clear hx hxp hx4 hM2 hk HF hx3 hq2 hx1 hx2 hq hz hz3 hzd hzn q1
     go_upto_region 5 with (go_at_call 87;refine (isDir_at _ _ _ c1).mono ?_;rintro ev w3 ⟨rfl,hw⟩;obtain rfl:=hw.symm)
     go_wp2_with (go_at_call 87;refine (isDir_at _ _ _ z1).mono ?_;rintro ev w3 ⟨rfl,hw⟩;obtain rfl:=hw.symm)
     go_ret
     have ho:∀ k,k≠z.nb→((((w2.setCell ⟨z.nb,0,none⟩ (.string e.path)).setCell ⟨z.nb,1,none⟩ (.int .i64 1)).setCell ⟨z.nb,2,none⟩ (.int .i64 e.mode)).setCell ⟨z.nb,3,none⟩ (.string e.data)).heap[k]?=w2.heap[k]?:=fun k hk=>by rw [heap_setCell_other _ _ _ _ hk,heap_setCell_other _ _ _ _ hk,heap_setCell_other _ _ _ _ hk,heap_setCell_other _ _ _ _ hk]
     exact ⟨true,rfl,C,hide (fun _=>⟨_,Mem.over (uh HM2) (uh HT) (uh HZ) (uh HZp) (uh HC) ho,by rw [put_nodes,putE,uh HBo],grew_put (.inr ⟨z,uh HZ,rfl,rfl⟩)⟩),hide ((foot_below hB2).trans (grew_refl _ _) hB2.size (foot_over (List.mem_cons_of_mem _ (uh HZ)) ho)),((((hB2.mono hBz).setCell hzb _).setCell hzb _).setCell hzb _).setCell hzb _⟩
    ·have HBo:Hid (bothE (entsN ns) e=false):=hide (by
      rw [both_some (uh HT) (uh HZ) (uh HZp)]
      cases h1:decide (z.ent.kind=1) <;> cases h2:decide (e.kind=1)
      ·rfl
      ·rfl
      ·rfl
      ·exact absurd ⟨of_decide_eq_true h1,of_decide_eq_true h2⟩ hb)
     clear hx hxp hx4 hM2 hk HF hx3 hq2 hx1 hx2 hq hz hz3 hzd hzn
     by_cases kz:z.ent.kind=1
     ·have ke:¬ e.kind=1:=fun h=>hb ⟨kz,h⟩
      have ke':(e.kind==1)=false:=by simp [ke]
      rw [kz] at z1
      clear hb
      go_upto_region 5 with (go_at_call 87;refine (isDir_at _ _ _ c1).mono ?_;rintro ev w3 ⟨rfl,hw⟩;obtain rfl:=hw.symm)
      go_upto_region 8 with (go_at_call 87;refine (isDir_at _ _ _ z1).mono ?_;rintro ev w3 ⟨rfl,hw⟩;obtain rfl:=hw.symm)
      go_region_held3 (fun w'=>w'.cell? ⟨x.nb,4,none⟩=some (.map (some x.mb))∧w'.cell? ⟨w.heap.size,0,none⟩=some (.string e.path)∧w'.cell? ⟨w.heap.size,1,none⟩=some (.int .i64 e.kind)∧w'.cell? ⟨w.heap.size,2,none⟩=some (.int .i64 e.mode)∧w'.cell? ⟨w.heap.size,3,none⟩=some (.string e.data))
       (first | exact ⟨keep_grown hg6 p4 (uh HNE).1,keep_grown hg6 p0 (uh HNE).2,keep_grown hg6 p1 (uh HNE).2,keep_grown hg6 p2 (uh HNE).2,keep_grown hg6 p3 (uh HNE).2⟩ | exact ⟨p4,p0,p1,p2,p3⟩ | go_keep)
       (first | (go_at_call 80;refine (newNode_any e _).mono ?_;rintro ev w5 ⟨nb,mb,rfl,hnb,hmb,HN5,hb5⟩;have p4:=cell_later (chain0 hb5) c4;have p0:=cell_later (chain0 hb5) q0;have p1:=cell_later (chain0 hb5) q1;have p2:=cell_later (chain0 hb5) q2;have p3:=cell_later (chain0 hb5) q3;obtain ⟨w6,hrun6,hown6,hg6⟩:=World.ownsMap.update ((uh HX4).below (chain0 hb5)) (Maps.string_keyed Tryz.underlying9) Tryz.underlying127 (by unfold maxLen;omega) (WideMaps.keyOf_string_mk Tryz.underlying9 (s:=nn) (by unfold maxLen;omega)) (show RK (.pointer (some ⟨nb,0,none⟩))=some (.lit (.int .i64 (nb:Int)),[]) from rfl);have HNE:Hid (x.nb≠x.mb∧w.heap.size≠x.mb):=hide (ne_mb (uh HX4) (uh HX3) (uh HQ2))))
      have hxx:=(uh HM2).all x (uh HX)
      have R1:Below B w w5:=(hB2.mono hBz).trans (Below.mono (B':=B) (chain0 hb5) (Nat.le_trans hBz hB2.size))
      have R2:Below B w w6:=R1.grown hg6 (Nat.le_trans hBz R1.size) (fun q hq=>by cases hq;exact hxx.2.1)
      have hPy:Parted (Nd.p ⟨e,nb,mb⟩):=parted_of (uh HE)
      have R3:KM w6 x.mb (ns.length+1) (kidsN (putG Nd.p ns false ⟨e,nb,mb⟩) x.p):=by
       have h:=hown6
       rw [uh HNm,DK_mid (kids_sort (uh HT) x.p)] at h
       rw [uh HXd] at h ⊢
       rw [show dirOf e.path.data.toList=dirOf (Nd.p ⟨e,nb,mb⟩) from rfl,kids_put_dir (uh HT) hPy]
       exact h
      have hz2:B≤w2.heap.size:=Nat.le_trans hBz hB2.size
      have hnb':w2.heap.size≤nb:=hnb
      have hmb':w2.heap.size≤mb:=hmb
      have R4:Mem w6 B r (putG Nd.p ns false ⟨e,nb,mb⟩):=Mem.put ((uh HM2).below (chain0 hb5)) (uh HT) (uh HX) (uh HXd) hPy (Nat.le_trans hz2 hnb') (Nat.le_trans hz2 hmb') (uh HN5).1 (uh HN5).2
       (fun z hz=>by have:=World.ownsMap.lt ((uh HM2).all z hz).2.2.2;show z.mb≠mb;omega) hg6 R3
      go_wp2_with fail
      go_ret
      exact ⟨true,rfl,C,hide (fun _=>⟨_,R4,by rw [put_nodes,putE,uh HBo],grew_put (.inl ⟨Nat.le_trans hB2.size hnb',Nat.le_trans hB2.size hmb'⟩)⟩),hide ((foot_below (hB2.trans ((chain0 hb5).mono hB2.size))).trans (grew_refl _ _) (Nat.le_trans hB2.size (chain0 hb5).size) (foot_map (uh HX) hg6)),R2⟩
     ·have hDz:Calls Tryz.prog 87 #[.pointer (some ⟨z.nb,0,none⟩)] w2 fun ev w'=>ev=.returned (.bool false)∧w'=w2:=by have:=isDir_at _ _ _ z1;rw [decide_eq_false kz] at this;exact this
      clear hb kz z1
      go_upto_region 5 with (go_at_call 87;refine (isDir_at _ _ _ c1).mono ?_;rintro ev w3 ⟨rfl,hw⟩;obtain rfl:=hw.symm)
      go_upto_region 8 with (go_at_call 87;refine hDz.mono ?_;rintro ev w3 ⟨rfl,hw⟩;obtain rfl:=hw.symm)
      go_region_held3 (fun w'=>w'.cell? ⟨x.nb,4,none⟩=some (.map (some x.mb))∧w'.cell? ⟨w.heap.size,0,none⟩=some (.string e.path)∧w'.cell? ⟨w.heap.size,1,none⟩=some (.int .i64 e.kind)∧w'.cell? ⟨w.heap.size,2,none⟩=some (.int .i64 e.mode)∧w'.cell? ⟨w.heap.size,3,none⟩=some (.string e.data))
       (first | exact ⟨keep_grown hg6 p4 (uh HNE).1,keep_grown hg6 p0 (uh HNE).2,keep_grown hg6 p1 (uh HNE).2,keep_grown hg6 p2 (uh HNE).2,keep_grown hg6 p3 (uh HNE).2⟩ | exact ⟨p4,p0,p1,p2,p3⟩ | go_keep)
       (first | (go_at_call 80;refine (newNode_any e _).mono ?_;rintro ev w5 ⟨nb,mb,rfl,hnb,hmb,HN5,hb5⟩;have p4:=cell_later (chain0 hb5) c4;have p0:=cell_later (chain0 hb5) q0;have p1:=cell_later (chain0 hb5) q1;have p2:=cell_later (chain0 hb5) q2;have p3:=cell_later (chain0 hb5) q3;obtain ⟨w6,hrun6,hown6,hg6⟩:=World.ownsMap.update ((uh HX4).below (chain0 hb5)) (Maps.string_keyed Tryz.underlying9) Tryz.underlying127 (by unfold maxLen;omega) (WideMaps.keyOf_string_mk Tryz.underlying9 (s:=nn) (by unfold maxLen;omega)) (show RK (.pointer (some ⟨nb,0,none⟩))=some (.lit (.int .i64 (nb:Int)),[]) from rfl);have HNE:Hid (x.nb≠x.mb∧w.heap.size≠x.mb):=hide (ne_mb (uh HX4) (uh HX3) (uh HQ2))))
      have hxx:=(uh HM2).all x (uh HX)
      have R1:Below B w w5:=(hB2.mono hBz).trans (Below.mono (B':=B) (chain0 hb5) (Nat.le_trans hBz hB2.size))
      have R2:Below B w w6:=R1.grown hg6 (Nat.le_trans hBz R1.size) (fun q hq=>by cases hq;exact hxx.2.1)
      have hPy:Parted (Nd.p ⟨e,nb,mb⟩):=parted_of (uh HE)
      have R3:KM w6 x.mb (ns.length+1) (kidsN (putG Nd.p ns false ⟨e,nb,mb⟩) x.p):=by
       have h:=hown6
       rw [uh HNm,DK_mid (kids_sort (uh HT) x.p)] at h
       rw [uh HXd] at h ⊢
       rw [show dirOf e.path.data.toList=dirOf (Nd.p ⟨e,nb,mb⟩) from rfl,kids_put_dir (uh HT) hPy]
       exact h
      have hz2:B≤w2.heap.size:=Nat.le_trans hBz hB2.size
      have hnb':w2.heap.size≤nb:=hnb
      have hmb':w2.heap.size≤mb:=hmb
      have R4:Mem w6 B r (putG Nd.p ns false ⟨e,nb,mb⟩):=Mem.put ((uh HM2).below (chain0 hb5)) (uh HT) (uh HX) (uh HXd) hPy (Nat.le_trans hz2 hnb') (Nat.le_trans hz2 hmb') (uh HN5).1 (uh HN5).2
       (fun z hz=>by have:=World.ownsMap.lt ((uh HM2).all z hz).2.2.2;show z.mb≠mb;omega) hg6 R3
      go_wp2_with fail
      go_ret
      exact ⟨true,rfl,C,hide (fun _=>⟨_,R4,by rw [put_nodes,putE,uh HBo],grew_put (.inl ⟨Nat.le_trans hB2.size hnb',Nat.le_trans hB2.size hmb'⟩)⟩),hide ((foot_below (hB2.trans ((chain0 hb5).mono hB2.size))).trans (grew_refl _ _) (Nat.le_trans hB2.size (chain0 hb5).size) (foot_map (uh HX) hg6)),R2⟩
  ·have C:Hid (false=decide (kindP (entsN ns) (dirOf e.path.data.toList)=1)):=hide (by rw [←uh HD,hk];exact (decide_eq_false k1).symm)
   have k2:(x.ent.kind==1)=false:=by simp [k1]
   clear hk HF hM2 hq2 HQ hx hxp
   go_wp2_with (go_at_call 87;refine (isDir_at _ _ _ c1).mono ?_;rintro ev w3 ⟨rfl,hw⟩;obtain rfl:=hw.symm)
   go_ret
   exact ⟨false,rfl,C,hide (by intro h;cases h),hide (foot_below hB2),hB2.mono hBz⟩
theorem put_any (r:Nd) (ns:List Nd) (B:Nat) (e:Ent) (m:Int) (w:World) (hM:Mem w B r ns) (HT:Hid (TreeS (entsN ns))) (HE:Hid (entOk e=true)) (hn:ns.length≤1000) (hB:B≤w.heap.size) (hs:e.path.size≤1048576) (hm:w.cell? ⟨14,0,none⟩=some (.int .i64 m)) :
  Calls Tryz.prog 45 #[.pointer (some ⟨r.nb,0,none⟩),.agg #[.string e.path,.int .i64 e.kind,.int .i64 e.mode,.string e.data]] w fun ev w'=>∃ b:Bool,ev=.returned (.bool b)∧Hid (b=decide (kindP (entsN ns) (dirOf e.path.data.toList)=1))∧Hid (b=true→∃ ns',Mem w' B r ns'∧entsN ns'=putE (entsN ns) e)∧Below B w w':=
 (put_keep r ns B e m w hM HT HE hn hB hs hm).mono fun _ _ ⟨b,h1,h2,h3,_,h5⟩=>⟨b,h1,h2,hide (fun hb=>(uh h3 hb).imp fun _ h=>⟨h.1,h.2.1⟩),h5⟩
end Go.Proofs.YtehfpjcclknipaaGreatDoor.T
