import Derived.Test.YtehfpjcclknipaaGreatDoorSpA
import Derived.Test.YtehfpjcclknipaaGreatDoorTPatR
namespace Go.Proofs.YtehfpjcclknipaaGreatDoor.T
open Go.RowKit Go.Maps
def dirE (p:List UInt8):Ent:=⟨bs p,1,493,⟨#[]⟩⟩
def mkG:List Ent→List UInt8→List (List UInt8)→Except Nat (List Ent)
 | t,_,[]=>.ok t
 | t,d,n :: r=>match atE t (jnp d n) with
   | none=>mkG (putE t (dirE (jnp d n))) (jnp d n) r
   | some x=>if x.kind=1 then mkG t (jnp d n) r else .error 9
def mkDirG (t:List Ent) (p:List UInt8):Except Nat (List Ent):=if isP p=true then mkG t [] (prt p) else .error 1
theorem bs_list (l:List UInt8):(bs l).data.toList=l:=by simp [bs]
theorem isP_parts {p:List UInt8}(h:isP p=true):p.length≤170∧(prt p).length≤12∧∀ x∈prt p,elt x=true:=by
 simp only [isP,Bool.and_eq_true,decide_eq_true_eq] at h
 exact ⟨h.1.1,h.1.2,fun x hx=>List.all_eq_true.1 h.2 x hx⟩
theorem prt_join (p:List UInt8):Lib.join (prt p) [47]=p:=by
 unfold prt
 split
 ·rename_i h;rw [h];rfl
 ·exact spl_join p
theorem jn_prt {xs:List (List UInt8)}(h:∀ x∈xs,elt x=true) (k:Nat):prt (jn k xs)=xs.take k:=by
 cases e:xs.take k with
 | nil=>rw [jn,e];rfl
 | cons a r=>
   have hm:∀ x∈a :: r,elt x=true:=fun x hx=>h x (List.mem_of_mem_take (by rw [e];exact hx))
   have h1:jn k xs=Lib.join (a :: r) [47]:=by rw [jn,e]
   have h2:=join_ne (xs:=a :: r) (by simp) (fun x hx=>(elt_no (hm x hx)).2)
   rw [h1,prt_ne h2,spl_joined (by simp) (fun x hx=>(elt_no (hm x hx)).1)]
theorem jn_isP {p:List UInt8}(h:isP p=true) (k:Nat):isP (jn k (prt p))=true:=by
 obtain ⟨h1,h2,h3⟩:=isP_parts h
 have hl:=jn_le (prt p) k
 rw [prt_join] at hl
 simp only [isP,Bool.and_eq_true,decide_eq_true_eq]
 rw [jn_prt h3]
 refine ⟨⟨by omega,by rw [List.length_take];omega⟩,List.all_eq_true.2 fun x hx=>h3 x (List.mem_of_mem_take hx)⟩
theorem jn_ne {xs:List (List UInt8)}(h:∀ x∈xs,elt x=true) {k:Nat}(hk:k<xs.length):jn (k+1) xs≠[]:=by
 refine join_ne (fun e=>?_) (fun x hx=>(elt_no (h x (List.mem_of_mem_take hx))).2)
 have:=congrArg List.length e
 rw [List.length_take,List.length_nil] at this
 omega
theorem jn_next {xs:List (List UInt8)}(h:∀ x∈xs,elt x=true) {k:Nat}{y:List UInt8}(hk:xs[k]?=some y):jnp (jn k xs) y=jn (k+1) xs:=by
 rw [jn_succ xs k y hk]
 have hl:=(List.getElem?_eq_some_iff.1 hk).1
 cases k with
 | zero=>rw [jn_zero,jnp,if_pos rfl,if_pos rfl]
 | succ j=>rw [jnp,if_neg (jn_ne h (by omega)),if_neg (by omega)];simp
theorem jn_dir {xs:List (List UInt8)}(h:∀ x∈xs,elt x=true) {k:Nat}{y:List UInt8}(hk:xs[k]?=some y):dirOf (jn (k+1) xs)=jn k xs:=by
 have hy:=elt_no (h y (List.mem_of_getElem? hk))
 rw [jn_succ xs k y hk]
 cases k with
 | zero=>rw [if_pos rfl,jn_zero];exact (dir_no hy.1).1
 | succ j=>
   rw [if_neg (by omega),show jn (j+1) xs++[47]++y=jn (j+1) xs++47 :: y by simp]
   exact (dir_at hy.1).1
theorem dirE_ok {q:List UInt8}(h:isP q=true) (h0:q≠[]):entOk (dirE q)=true:=by
 unfold entOk goodE dirE
 simp [bs_list,h,h0,modeOk]
theorem find_atE {r:Nd}{ns:List Nd}(h:TreeS (entsN ns)) (hr:r.ent=rootE) {p:List UInt8}(hp:p≠[]) {v:Value}(hv:FindIs r ns p v):(v=.pointer none∧atE (entsN ns) p=none)∨∃ x∈ns,v=.pointer (some ⟨x.nb,0,none⟩)∧x.p=p∧atE (entsN ns) p=some x.ent:=by
 rcases hv with ⟨rfl,hno⟩ | ⟨x,hx,rfl,hxp⟩
 ·refine .inl ⟨rfl,?_⟩
  unfold atE
  rw [List.find?_eq_none]
  intro e he
  obtain ⟨y,hy,rfl⟩:=List.mem_map.1 he
  have:=hno y (by simp [hy])
  rw [Nd.p] at this
  simpa using this
 ·rcases List.mem_cons.1 hx with rfl | hx
  ·exact absurd (hxp.symm.trans (by rw [Nd.p,hr];rfl)) hp
  ·refine .inr ⟨x,hx,rfl,hxp,?_⟩
   have:=h.at (List.mem_map.2 ⟨x,hx,rfl⟩)
   rw [←hxp];exact this
theorem atE_kind {t:List Ent}{p:List UInt8}(hp:p≠[]):kindP t p=match atE t p with | some e=>e.kind | none=>0:=by
 rw [kindP,if_neg hp];rfl
theorem put_kind {t:List Ent}{e:Ent}(hT:TreeS (putE t e)) (_:e.path.data.toList≠[]):atE (putE t e) e.path.data.toList=some e:=by
 exact hT.at (put_mem.2 (.inl rfl))
theorem elems_own (s:ByteArray) (m:Int) (w:World) (hs:s.size≤4294967280) (hm:w.cell? ⟨14,0,none⟩=some (.int .i64 m)) :
  Calls Tryz.prog 85 #[.string s] w fun e w'=>∃ ao cap n ps,e=.returned (.slice ao n cap)∧Hid (Own w' w.heap.size (.slice ao n cap) ps)∧Hid (txts ps=prt s.data.toList)∧Hid (n=ps.length)∧n≤s.size+1∧Below w.heap.size w w':=by
 by_cases h:s.data.toList=[]
 ·refine (elems_nil s w h).mono ?_
  rintro e w' ⟨rfl,hw⟩
  obtain rfl:=hw.symm
  exact ⟨none,0,0,[],rfl,hide (World.ownsRow_nil _ _ _ _),hide (by rw [h];rfl),hide rfl,by omega,Below.refl _ _⟩
 ·refine (elems_some s m w hs hm h).mono ?_
  rintro e w' ⟨g,cap,ps,rfl,h1,h2,h3,_⟩
  have hl:ps.length≤s.size+1:=by have:=spl_len s.data.toList;rw [←h2,txts_len,←Lib.size_eq] at this;exact this
  exact ⟨_,cap,_,ps,rfl,hide h1,hide (by rw [prt_ne h];exact h2),hide rfl,hl,h3⟩
theorem own_foot {w0 w w':World}{r:Nd}{ns:List Nd}{B:Nat}{v:Value}{ps:List ByteArray}(h:Own w w0.heap.size v ps) (hM:Mem w0 B r ns) (hf:Foot r ns w w'):Own w' w0.heap.size v ps:=by
 have h1:=h
 unfold Own at h1 ⊢
 refine ⟨h1.1,?_⟩
 rcases h1.2 with h2 | ⟨g,cap,cur,e,hb,hg,h3⟩
 ·exact .inl h2
 ·exact .inr ⟨g,cap,cur,e,hb,(hf g (Array.getElem?_eq_some_iff.1 hg).1 (hM.new hb)).trans hg,h3⟩
structure Stp2 (w w':World) (B:Nat) (r:Nd) (ns ns':List Nd):Prop where
 below:Below B w w'
 foot:Foot r ns w w'
 grew:Grew w.heap.size ns ns'
theorem Stp2.refl (w:World) (B:Nat) (r:Nd) (ns:List Nd):Stp2 w w B r ns ns:=⟨Below.refl _ _,fun _ _ _=>rfl,grew_refl _ _⟩
theorem Stp2.trans {w w1 w2:World}{B:Nat}{r:Nd}{a b c:List Nd}(h1:Stp2 w w1 B r a b) (h2:Stp2 w1 w2 B r b c):Stp2 w w2 B r a c:=
 ⟨h1.below.trans h2.below,h1.foot.trans h1.grew h1.below.size h2.foot,h1.grew.trans h2.grew h1.below.size⟩
theorem Stp2.of_below {w w':World}{B:Nat}{r:Nd}{ns:List Nd}(h:Below w.heap.size w w') (hB:B≤w.heap.size):Stp2 w w' B r ns ns:=⟨h.mono hB,foot_below h,grew_refl _ _⟩
theorem StA.go {w w':World}{B sb:Nat}{r:Nd}{ns ns':List Nd}{work:ByteArray}{ev:Value}(h:StA w B sb r ns work ev) (hs:Stp2 w w' B r ns ns') (hM:Mem w' B r ns') (hT:TreeS (entsN ns')):StA w' B sb r ns' work ev:=
 ⟨(hs.foot sb h.lt (h.mem.out h.cells (by decide))).trans h.cells,hM,hT,h.lim,Nat.le_trans h.base hs.below.size⟩
theorem put_ents_len {ns ns':List Nd}{e:Ent}(hT:TreeS (entsN ns)) (h:entsN ns'=putE (entsN ns) e):ns'.length≤ns.length+1:=by
 have h1:(entsN ns').length=ns'.length:=by simp [entsN]
 have h2:(entsN ns).length=ns.length:=by simp [entsN]
 have h3:=put_len (f:=Ent.q) (l:=entsN ns) hT.ord (bothE (entsN ns) e) e
 rw [←h1,h]
 have:(putE (entsN ns) e).length≤(entsN ns).length+1:=h3
 omega
def KeepX (w w':World):Prop:=∀ (g:Nat) (cs:Array Value) (t:Nat) (f:Nat × Nat),w.heap[g]?=some (Obj.cells cs t f)→t≠129→t≠112→w'.heap[g]?=some (Obj.cells cs t f)
theorem KeepX.trans {a b c:World}(h1:KeepX a b) (h2:KeepX b c):KeepX a c:=fun g cs t f h e1 e2=>h2 g cs t f (h1 g cs t f h e1 e2) e1 e2
theorem keepX_below {w w':World}(h:Below w.heap.size w w'):KeepX w w':=fun g _ _ _ hg _ _=>(h.block g (Array.getElem?_eq_some_iff.1 hg).1).trans hg
theorem keepX_foot {w w':World}{B:Nat}{r:Nd}{ns:List Nd}(hM:Mem w B r ns) (hf:Foot r ns w w'):KeepX w w':=fun g _ _ _ hg e1 _=>(hf g (Array.getElem?_eq_some_iff.1 hg).1 (hM.out hg e1)).trans hg
def TrOut (w w':World) (B sb:Nat) (r:Nd) (ns:List Nd) (work:ByteArray) (ev:Value) (d:Nat) (e:Ending) (x:Except Nat (List Ent)):Prop:=match x with
 | .error k=>e=.returned (.iface 22 (.int .i64 (k:Int)))
 | .ok t=>e=.returned .nilIface∧∃ ns',StA w' B sb r ns' work ev∧entsN ns'=t∧Stp2 w w' B r ns ns'∧ns'.length≤ns.length+d
structure InD (w wr:World) (B sb:Nat) (r:Nd) (ns ns':List Nd) (work:ByteArray) (ev:Value) (xs:List (List UInt8)) (k:Nat):Prop where
 sta:StA wr B sb r ns' work ev
 stp:Stp2 w wr B r ns ns'
 len:ns'.length≤ns.length+k
 eq:mkG (entsN ns) [] xs=mkG (entsN ns') (jn k xs) (xs.drop k)
 dir:kindP (entsN ns') (jn k xs)=1
theorem InD.have {w wr:World}{B sb:Nat}{r:Nd}{ns ns':List Nd}{work:ByteArray}{ev:Value}{xs:List (List UInt8)}{k:Nat}{y:List UInt8}{x:Ent}(h:InD w wr B sb r ns ns' work ev xs k) (hx:∀ x∈xs,elt x=true) (hy:xs[k]?=some y) (ha:atE (entsN ns') (jn (k+1) xs)=some x) (hk:x.kind=1):InD w wr B sb r ns ns' work ev xs (k+1):=by
 have hl:=(List.getElem?_eq_some_iff.1 hy).1
 refine ⟨h.sta,h.stp,by have:=h.len;omega,?_,?_⟩
 ·rw [h.eq,List.drop_eq_getElem_cons hl,mkG]
  have e:xs[k]=y:=(List.getElem?_eq_some_iff.1 hy).2
  rw [e,jn_next hx hy,ha]
  simp only
  rw [if_pos hk]
 ·rw [atE_kind (jn_ne hx hl),ha];exact hk
theorem InD.bad {w wr:World}{B sb:Nat}{r:Nd}{ns ns':List Nd}{work:ByteArray}{ev:Value}{xs:List (List UInt8)}{k:Nat}{y:List UInt8}{x:Ent}(h:InD w wr B sb r ns ns' work ev xs k) (hx:∀ x∈xs,elt x=true) (hy:xs[k]?=some y) (ha:atE (entsN ns') (jn (k+1) xs)=some x) (hk:¬ x.kind=1):mkG (entsN ns) [] xs=.error 9:=by
 have hl:=(List.getElem?_eq_some_iff.1 hy).1
 rw [h.eq,List.drop_eq_getElem_cons hl,mkG]
 have e:xs[k]=y:=(List.getElem?_eq_some_iff.1 hy).2
 rw [e,jn_next hx hy,ha]
 simp only
 rw [if_neg hk]
theorem InD.made {w wr w2:World}{B sb:Nat}{r:Nd}{ns ns' ns2:List Nd}{work:ByteArray}{ev:Value}{xs:List (List UInt8)}{k:Nat}{y:List UInt8}(h:InD w wr B sb r ns ns' work ev xs k) (hx:∀ x∈xs,elt x=true) (hp:isP (jn (k+1) xs)=true) (hy:xs[k]?=some y) (ha:atE (entsN ns') (jn (k+1) xs)=none)
  (hM:Mem w2 B r ns2) (he:entsN ns2=putE (entsN ns') (dirE (jn (k+1) xs))) (hs:Stp2 wr w2 B r ns' ns2):InD w w2 B sb r ns ns2 work ev xs (k+1):=by
 have hl:=(List.getElem?_eq_some_iff.1 hy).1
 have hne:=jn_ne hx hl
 have hT:TreeS (entsN ns2):=by
  rw [he]
  refine put_tree h.sta.tree (dirE_ok hp hne) ?_
  show kindP (entsN ns') (dirOf (bs (jn (k+1) xs)).data.toList)=1
  rw [bs_list,jn_dir hx hy];exact h.dir
 refine ⟨h.sta.go hs hM hT,h.stp.trans hs,by have:=h.len;have:=put_ents_len h.sta.tree he;omega,?_,?_⟩
 ·rw [h.eq,List.drop_eq_getElem_cons hl,mkG]
  have e:xs[k]=y:=(List.getElem?_eq_some_iff.1 hy).2
  rw [e,jn_next hx hy,ha,←he]
 ·rw [atE_kind hne]
  have:=put_kind (t:=entsN ns') (e:=dirE (jn (k+1) xs)) (by rw [←he];exact hT) (by show (bs _).data.toList≠[];rw [bs_list];exact hne)
  rw [←he,show (dirE (jn (k+1) xs)).path.data.toList=jn (k+1) xs from bs_list _] at this
  rw [this];rfl
theorem InD.fin {w wr:World}{B sb:Nat}{r:Nd}{ns ns':List Nd}{work:ByteArray}{ev:Value}{xs:List (List UInt8)}{k:Nat}(h:InD w wr B sb r ns ns' work ev xs k) (hk:xs.length≤k):mkG (entsN ns) [] xs=.ok (entsN ns'):=by
 rw [h.eq,List.drop_of_length_le hk,mkG]
set_option maxHeartbeats 4000000 in
set_option maxRecDepth 10000 in
theorem makeDir_any (sb:Nat) (r:Nd) (ns:List Nd) (work p:ByteArray) (ev:Value) (B:Nat) (m:Int) (w:World) (h:StA w B sb r ns work ev) (hn:ns.length≤900) (hp:p.size≤1048576) (hm:w.cell? ⟨14,0,none⟩=some (.int .i64 m)) :
  Calls Tryz.prog 262 #[.pointer (some ⟨sb,0,none⟩),.string p] w fun e w'=>TrOut w w' B sb r ns work ev 12 e (mkDirG (entsN ns) p.data.toList)∧Below B w w'∧KeepX w w':=by
 have hI:=is_any p m w hm
 have HS:=hide h
 have HM:=hide hm
 have hBw:=h.base
 have hl14:=h.lim
 clear h hm
 cases hip:isP p.data.toList with
 | false=>
   rw [hip] at hI
   have HG:Hid (mkDirG (entsN ns) p.data.toList=.error 1):=hide (by unfold mkDirG;rw [hip];rfl)
   clear hip
   go_enter Tryz.func262,Tryz.ntmps262
   go_wp2_with (go_at_call 81;refine hI.mono ?_;clear hI;rintro e w1 ⟨rfl,hb1⟩)
   go_ret
   rw [uh HG]
   exact ⟨rfl,hb1.mono hBw,keepX_below hb1⟩
 | true=>
   rw [hip] at hI
   obtain ⟨hp1,hp2,hel⟩:=isP_parts hip
   obtain ⟨xs,hxs⟩:∃ xs,xs=prt p.data.toList:=⟨_,rfl⟩
   have HXS:=hide hxs
   have HIP:=hide hip
   rw [←hxs] at hel hp2
   have HEL:=hide hel
   have HG:Hid (mkDirG (entsN ns) p.data.toList=mkG (entsN ns) [] xs):=hide (by unfold mkDirG;rw [if_pos hip,hxs])
   clear hip hxs hp1 hel
   go_enter Tryz.func262,Tryz.ntmps262
   go_upto_region 5 with (first
    | (go_at_call 81;refine hI.mono ?_;clear hI;rintro e w1 ⟨rfl,hb1⟩)
    | (go_at_call 85;refine (elems_own p m _ (by omega) (cell_later hb1 (uh HM))).mono ?_;rintro e w2 ⟨ao,cap,n,ps,rfl,HO2,HT2,HN2,hn2,hb2⟩))
   have hb02:Below w.heap.size w w2:=hb1.trans (hb2.mono hb1.size)
   have H0:Hid (InD w w2 B sb r ns ns work ev xs 0):=hide ⟨(uh HS).below hb02,.of_below hb02 hBw,by omega,rfl,rfl⟩
   have HO:Hid (∀ (wr:World) (ns':List Nd),Stp2 w2 wr B r ns ns'→Own wr w1.heap.size (.slice ao n cap) ps):=hide (fun wr ns' hs=>own_foot (uh HO2) ((uh HS).mem.below hb1) hs.foot)
   have HPS:Hid (∀ (k:Nat) (y:ByteArray),ps[k]?=some y→xs[k]?=some y.data.toList):=hide (fun k y hy=>by rw [uh HXS,←uh HT2];exact txts_get hy)
   have hnx:n=xs.length:=by rw [uh HXS,←uh HT2,txts_len];exact uh HN2
   have HNX:=hide hnx
   have hn12:n≤12:=by omega
   clear hb1 hb2 hnx HO2
   have HJ:Hid (∀ k,(jn k xs).length≤170):=hide (fun k=>by
    have:=jn_le (prt p.data.toList) k
    rw [prt_join,←uh HXS] at this
    exact Nat.le_trans this (isP_parts (uh HIP)).1)
   have HP:Hid (∀ k,isP (jn k xs)=true):=hide (fun k=>by rw [uh HXS];exact jn_isP (uh HIP) k)
   have HMr:Hid (∀ wr,Below B w wr→wr.cell? ⟨14,0,none⟩=some (.int .i64 m)):=hide (fun wr hb=>(hb.cell (p:=⟨14,0,none⟩) hl14).trans (uh HM))
   clear hb02 HT2 HN2 HIP HXS
   go_loopw [5,16] (fun av iv wr=>∃ (k:Nat) (s:ByteArray) (ns':List Nd),k≤n∧iv=.int .i64 (k:Int)∧av=.string s∧Hid (s.data.toList=jn k xs)∧Hid (InD w wr B sb r ns ns' work ev xs k)∧Hid (Stp2 w2 wr B r ns ns')) (fun _ iv _=>n-(intOf iv).toNat)
   case atStart=>exact ⟨0,⟨#[]⟩,ns,Nat.zero_le _,rfl,rfl,hide rfl,H0,hide (.refl _ _ _ _)⟩
   case round=>
    clear H0
    obtain ⟨k,s,ns',hk,rfl,rfl,HSs,HI,HSt⟩:=hrel
    by_cases hlt:k<n
    ·have hO:=uh HO wr ns' (uh HSt)
     obtain ⟨y,hyx⟩:∃ y,xs[k]?=some y:=⟨_,List.getElem?_eq_getElem (by rw [←uh HNX];exact hlt)⟩
     obtain ⟨yb,hy⟩:∃ yb,ps[k]?=some yb:=by
      rcases hO.2 with ⟨e,h0⟩ | ⟨g,c,cur,e,_⟩
      ·injection e with _ e _;omega
      ·injection e with _ e _
       exact ⟨_,List.getElem?_eq_getElem (by omega)⟩
     obtain ⟨g,cp,hv⟩:=own_form hO (fun e=>by rw [e] at hy;simp at hy)
     injection hv with e1 e2 e3
     subst e1 e3
     have q:wr.cell? ⟨g,k,none⟩=some (.string yb):=by
      rw [e2] at hO
      exact own_cell hO hy
     have hxy:=uh HPS k yb hy
     have HY:=hide hxy
     have hsl:s.size≤170:=by rw [Lib.size_eq,uh HSs];exact uh HJ k
     have hyl:yb.size≤170:=by
      have h1:=uh HJ (k+1)
      rw [←jn_next (uh HEL) hxy,jnp] at h1
      rw [Lib.size_eq]
      split at h1
      ·exact h1
      ·rw [List.length_append,List.length_cons] at h1;omega
     have i0:(0:Int)≤(k:Int):=by omega
     have i1:(k:Int)<(n:Int):=by omega
     have hmr:=uh HMr wr (uh HI).stp.below
     have c0:=(uh HI).sta.c0
     have HMM:=hide hmr
     have hBr:B≤wr.heap.size:=(uh HI).sta.base
     have hnn:ns'.length≤1000:=by have:=(uh HI).len;omega
     clear hyx hy e2 hO hxy hmr
     go_upto_region 8 with (go_at_call 175;refine (join_path s yb _ (by omega) (by omega)).mono ?_;rintro e w3 ⟨s2,rfl,hs2,hw⟩;obtain rfl:=hw.symm)
     have HS2:Hid (s2.data.toList=jn (k+1) xs):=hide (by rw [hs2,uh HSs,jn_next (uh HEL) (uh HY)])
     have h2l:s2.size≤170:=by rw [Lib.size_eq,uh HS2];exact uh HJ (k+1)
     have hne:jn (k+1) xs≠[]:=jn_ne (uh HEL) (by rw [←uh HNX];exact hlt)
     have HNE:=hide hne
     clear hs2 hne
     go_upto_region 9 with (go_at_call 47;refine (find_any r ns' B s2 m _ (uh HI).sta.mem (hide (uh HI).sta.ok) (by omega) (uh HMM)).mono ?_;rintro e w4 ⟨v,rfl,HF,hb4⟩)
     have hst4:StA w4 B sb r ns' work ev:=(uh HI).sta.below hb4
     have c4:=hst4.c0
     have HST4:=hide hst4
     have HB4:=hide hb4
     have HSP4:Hid (Stp2 wr w4 B r ns' ns'):=hide (.of_below hb4 hBr)
     rcases find_atE hst4.tree hst4.mem.root (uh HNE) (by rw [←uh HS2];exact uh HF) with ⟨rfl,ha⟩ | ⟨x,hx,rfl,hxp,ha⟩
     ·have HA:=hide ha
      have HEq:Hid ((⟨s2,1,493,⟨#[]⟩⟩:Ent)=dirE (jn (k+1) xs)):=hide (by
       unfold dirE
       rw [←uh HS2]
       rfl)
      have hPut:=put_keep r ns' B ⟨s2,1,493,⟨#[]⟩⟩ m w4 hst4.mem (hide hst4.tree) (hide (by rw [uh HEq];exact dirE_ok (uh HP (k+1)) (uh HNE))) hnn hst4.base (by simp;omega) (cell_later hb4 (uh HMM))
      have hbt:decide (kindP (entsN ns') (dirOf s2.data.toList)=1)=true:=by rw [uh HS2,jn_dir (uh HEL) (uh HY)];exact decide_eq_true (uh HI).dir
      have HBT:=hide hbt
      clear HF ha hst4 hb4 hbt q c0
      go_wp2_with (go_at_call 45;refine hPut.mono ?_;clear hPut;rintro e w5 ⟨b,rfl,hbk,hok,hft,hb5⟩)
      obtain ⟨ns2,hM2,he2,hg2⟩:=uh hok ((uh hbk).trans (uh HBT))
      have hs5:Stp2 wr w5 B r ns' ns2:=(uh HSP4).trans ⟨hb5,uh hft,hg2⟩
      have hI5:=((uh HI).made (uh HEL) (uh HP (k+1)) (uh HY) (uh HA) hM2 (by rw [he2,uh HEq]) hs5)
      go_roundw
      case rel=>
       first
        | exact ⟨k+1,s2,ns2,hlt,by go_num,rfl,HS2,hide hI5,hide ((uh HSt).trans hs5)⟩
        | ((repeat apply Exists.intro);exact ⟨⟨k+1,s2,ns2,hlt,by go_num,rfl,HS2,hide hI5,hide ((uh HSt).trans hs5)⟩,rfl⟩)
      case measure=>simp [intOf];omega
     ·obtain ⟨_,_,hx3,_⟩:=hst4.mem.all x (by simp [hx])
      have z1:w4.cell? ⟨x.nb,1,none⟩=some (.int .i64 x.ent.kind):=cell_of_row w4 x.nb 1 _ _ _ hx3
      have hI4:InD w w4 B sb r ns ns' work ev xs k:=⟨hst4,(uh HI).stp.trans (uh HSP4),(uh HI).len,(uh HI).eq,(uh HI).dir⟩
      have HI4:=hide hI4
      have HA:=hide ha
      by_cases hk1:x.ent.kind=1
      ·have hI5:=hide (hI4.have (uh HEL) (uh HY) ha hk1)
       have hD:=isDir_at _ _ _ z1
       rw [decide_eq_true hk1] at hD
       clear HF ha hst4 hb4 q c0 hx3 hx hxp hI4 hk1 z1
       go_wp2_with (go_at_call 87;refine hD.mono ?_;clear hD;rintro e w5 ⟨rfl,hw⟩;obtain rfl:=hw.symm)
       go_roundw
       case rel=>
        first
         | exact ⟨k+1,s2,ns',hlt,by go_num,rfl,HS2,hI5,hide ((uh HSt).trans (uh HSP4))⟩
         | ((repeat apply Exists.intro);exact ⟨⟨k+1,s2,ns',hlt,by go_num,rfl,HS2,hI5,hide ((uh HSt).trans (uh HSP4))⟩,rfl⟩)
       case measure=>simp [intOf];omega
      ·have HBad:=hide (hI4.bad (uh HEL) (uh HY) ha hk1)
       have hD:=isDir_at _ _ _ z1
       rw [decide_eq_false hk1] at hD
       have hBl:=hI4.stp.below
       have hKx:=keepX_foot (uh HS).mem hI4.stp.foot
       clear HF ha hst4 hb4 q c0 hx3 hx hxp hI4 hk1 z1
       go_wp2_with (go_at_call 87;refine hD.mono ?_;clear hD;rintro e w5 ⟨rfl,hw⟩;obtain rfl:=hw.symm)
       go_ret
       rw [uh HG,uh HBad]
       exact ⟨rfl,hBl,hKx⟩
    ·have hFin:=(uh HI).fin (by rw [←uh HNX];omega)
     have HFin:=hide hFin
     clear hFin
     go_wp2_with fail
     go_ret
     rw [uh HG,uh HFin]
     exact ⟨⟨rfl,ns',(uh HI).sta,rfl,(uh HI).stp,by have:=(uh HI).len;omega⟩,(uh HI).stp.below,keepX_foot (uh HS).mem (uh HI).stp.foot⟩
theorem foot_cells {w w':World}{B:Nat}{r:Nd}{ns:List Nd}(hM:Mem w B r ns) (hf:Foot r ns w w') {g t:Nat}{cs:Array Value}{f:Nat × Nat}(hg:w.heap[g]?=some (.cells cs t f)) (ht:t≠129):w'.heap[g]?=some (.cells cs t f):=
 (hf g (Array.getElem?_eq_some_iff.1 hg).1 (hM.out hg ht)).trans hg
theorem drew_b (W:World):Below W.heap.size W W.drew:=⟨rfl,rfl,rfl,Nat.le_refl _,fun _ _=>rfl⟩
def layG (t:List Ent) (e:Ent):Except Nat (List Ent):=
 if (match atE t e.path.data.toList with | some x=>decide (x.kind=1) != decide (e.kind=1) | none=>false)=true then .error 9
 else if isP e.path.data.toList=false then .error 1
 else if kindP t (dirOf e.path.data.toList)=1 then .ok (putE t e) else .error 9
def layMadeG (t:List Ent) (e:Ent):Except Nat (List Ent):=match mkDirG t (dirOf e.path.data.toList) with
 | .error k=>.error k
 | .ok t'=>layG t' e
theorem moved_any (e:Ent) (q:ByteArray) (w:World) :
  Calls Tryz.prog 260 #[.agg #[.string e.path,.int .i64 e.kind,.int .i64 e.mode,.string e.data],.string q] w fun ev w'=>ev=.returned (.agg #[.string q,.int .i64 e.kind,.int .i64 e.mode,.string e.data])∧Below w.heap.size w w':=by
 go_enter Tryz.func260,Tryz.ntmps260
 go_wp2
 refine bodyPost_ret (v:=.agg #[.string q,.int .i64 e.kind,.int .i64 e.mode,.string e.data]) (by simp [results,Tryz.results260,go_sem]) rfl ⟨rfl,((Below.refl _ _).alloc (Nat.le_refl _) _).alloc (by simp) _⟩
set_option maxHeartbeats 4000000 in
set_option maxRecDepth 10000 in
theorem lay_any (sb:Nat) (r:Nd) (ns:List Nd) (work:ByteArray) (ev:Value) (e:Ent) (B:Nat) (m:Int) (w:World) (h:StA w B sb r ns work ev) (hn:ns.length≤1000) (hp:e.path.size≤1048576) (HG:Hid (goodE e=true)) (HP:Hid (e.path.data.toList≠[])) (hm:w.cell? ⟨14,0,none⟩=some (.int .i64 m)) :
  Calls Tryz.prog 265 #[.pointer (some ⟨sb,0,none⟩),.agg #[.string e.path,.int .i64 e.kind,.int .i64 e.mode,.string e.data]] w fun v w'=>TrOut w w' B sb r ns work ev 1 v (layG (entsN ns) e)∧Below B w w'∧KeepX w w':=by
 obtain ⟨W0,hW0⟩:∃ W0,W0=w.alloc (.cells #[.string e.path,.int .i64 e.kind,.int .i64 e.mode,.string e.data] 38):=⟨_,rfl⟩
 have hb0:Below w.heap.size w W0:=by rw [hW0];exact (Below.refl _ _).alloc (Nat.le_refl _) _
 have hc0:W0.heap[w.heap.size]?=some (.cells #[.string e.path,.int .i64 e.kind,.int .i64 e.mode,.string e.data] 38 (0,0)):=by rw [hW0];exact heap_alloc_new _ _
 have hst0:=h.below hb0
 have hm0:=cell_later hb0 hm
 have hBw:=h.base
 have s0:=hst0.c0
 have q0:W0.cell? ⟨w.heap.size,0,none⟩=some (.string e.path):=cq 0 hc0
 have HST:=hide hst0
 have HM:=hide hm0
 have HC:=hide hc0
 have HB0:=hide hb0
 clear h hm hst0 hm0 hc0 hb0
 go_enter Tryz.func265,Tryz.ntmps265
 go_upto_region 1 with fail
 rw [←hW0]
 clear hW0
 go_region_held3 (fun w'=>w'.cell? ⟨sb,0,none⟩=some (.pointer (some ⟨r.nb,0,none⟩))∧w'.cell? ⟨w.heap.size,0,none⟩=some (.string e.path)) (first | exact ⟨s1,q1⟩ | exact ⟨s0,q0⟩ | go_keep) (first | (go_at_call 47;refine (find_any r ns B e.path m _ (by exact (uh HST).mem.below (drew_b _)) (hide (uh HST).ok) hp (by exact cell_later (drew_b _) (uh HM))).mono ?_;rintro v1 w1 ⟨v,rfl,HF,hb1⟩;have s1:=cell_later (chain0 hb1) s0;have q1:=cell_later (chain0 hb1) q0))
 have hb01:=chain0 hb1
 have hbw1:Below w.heap.size w w1:=(uh HB0).trans (hb01.mono (uh HB0).size)
 have hst1:=(uh HST).below hb01
 have hc1:w1.heap[w.heap.size]?=some (.cells #[.string e.path,.int .i64 e.kind,.int .i64 e.mode,.string e.data] 38 (0,0)):=(hb01.block w.heap.size (Array.getElem?_eq_some_iff.1 (uh HC)).1).trans (uh HC)
 have hm1:=cell_later hb01 (uh HM)
 have k1:w1.cell? ⟨w.heap.size,1,none⟩=some (.int .i64 e.kind):=cq 1 hc1
 have k2:w1.cell? ⟨w.heap.size,2,none⟩=some (.int .i64 e.mode):=cq 2 hc1
 have k3:w1.cell? ⟨w.heap.size,3,none⟩=some (.string e.data):=cq 3 hc1
 have HST1:=hide hst1
 have HM1:=hide hm1
 have HC1:=hide hc1
 have hX:(v=.pointer none∧atE (entsN ns) e.path.data.toList=none)∨∃ x∈ns,v=.pointer (some ⟨x.nb,0,none⟩)∧x.p=e.path.data.toList∧atE (entsN ns) e.path.data.toList=some x.ent:=find_atE hst1.tree hst1.mem.root (uh HP) (uh HF)
 clear hb1 hb01 HST HM HC HB0 s0 q0 hst1 hm1 hc1 HF
 rcases hX with ⟨rfl,ha⟩ | ⟨x,hx,rfl,hxp,ha⟩
 ·have HNo:Hid ((match atE (entsN ns) e.path.data.toList with | some x=>decide (x.kind=1) != decide (e.kind=1) | none=>false)=false):=hide (by rw [ha])
  clear ha
  go_upto_region 2 with fail
  go_quiet (fail)
  go_upto_region 4 with fail
  obtain ⟨W2,hW2⟩:∃ W2,W2=w1.drewN nq:=⟨_,rfl⟩
  have hb12:Below w1.heap.size w1 W2:=by rw [hW2];exact below_drewN (Below.refl _ _) _
  have hc2:W2.heap[w.heap.size]?=some (.cells #[.string e.path,.int .i64 e.kind,.int .i64 e.mode,.string e.data] 38 (0,0)):=by rw [hW2];exact uh HC1
  have hst2:=(uh HST1).below hb12
  have hm2:=cell_later hb12 (uh HM1)
  have hbw2:Below w.heap.size w W2:=hbw1.trans (hb12.mono hbw1.size)
  rw [←hW2]
  clear hW2 s1 q1 k1 k2 k3 hb12 HST1 HM1 HC1 hbw1
  have j0:W2.cell? ⟨w.heap.size,0,none⟩=some (.string e.path):=cq 0 hc2
  have hI:=is_any e.path m W2 hm2
  have HST2:=hide hst2
  have HM2:=hide hm2
  have HC2:=hide hc2
  clear hst2 hm2 hc2
  cases hip:isP e.path.data.toList with
  | false=>
    rw [hip] at hI
    have HR:Hid (layG (entsN ns) e=.error 1):=hide (by unfold layG;rw [uh HNo,if_neg (by simp),hip,if_pos rfl])
    clear hip
    go_wp2_with (go_at_call 81;refine hI.mono ?_;clear hI;rintro e3 w3 ⟨rfl,hb3⟩)
    go_ret
    rw [uh HR]
    exact ⟨rfl,(hbw2.trans (hb3.mono hbw2.size)).mono hBw,keepX_below (hbw2.trans (hb3.mono hbw2.size))⟩
  | true=>
    rw [hip] at hI
    have HIP:=hide hip
    clear hip
    go_upto_region 6 with (go_at_call 81;refine hI.mono ?_;clear hI;rintro e3 w3 ⟨rfl,hb3⟩)
    have hbw3:Below w.heap.size w w3:=hbw2.trans (hb3.mono hbw2.size)
    have hst3:=(uh HST2).below hb3
    have hm3:=cell_later hb3 (uh HM2)
    have hc3:w3.heap[w.heap.size]?=some (.cells #[.string e.path,.int .i64 e.kind,.int .i64 e.mode,.string e.data] 38 (0,0)):=(hb3.block w.heap.size (Array.getElem?_eq_some_iff.1 (uh HC2)).1).trans (uh HC2)
    have s3:=hst3.c0
    have y0:w3.cell? ⟨w.heap.size,0,none⟩=some (.string e.path):=cq 0 hc3
    have y1:w3.cell? ⟨w.heap.size,1,none⟩=some (.int .i64 e.kind):=cq 1 hc3
    have y2:w3.cell? ⟨w.heap.size,2,none⟩=some (.int .i64 e.mode):=cq 2 hc3
    have y3:w3.cell? ⟨w.heap.size,3,none⟩=some (.string e.data):=cq 3 hc3
    have HE:Hid (entOk e=true):=hide (by unfold entOk;rw [uh HG,uh HIP];simpa using uh HP)
    have HST3:=hide hst3
    have HM3:=hide hm3
    have hB3:B≤w3.heap.size:=Nat.le_trans hBw hbw3.size
    have HC3:=hide hc3
    clear hb3 HST2 HM2 HC2 j0 hst3 hm3 hc3
    go_region_held3 (fun w'=>w'.cell? ⟨sb,0,none⟩=some (.pointer (some ⟨r.nb,0,none⟩))∧w'.cell? ⟨w.heap.size,0,none⟩=some (.string e.path)∧w'.cell? ⟨w.heap.size,1,none⟩=some (.int .i64 e.kind)∧w'.cell? ⟨w.heap.size,2,none⟩=some (.int .i64 e.mode)∧w'.cell? ⟨w.heap.size,3,none⟩=some (.string e.data))
     (first | exact ⟨cq 0 f1,cq 0 f2,cq 1 f2,cq 2 f2,cq 3 f2⟩ | exact ⟨s3,y0,y1,y2,y3⟩ | go_keep)
     (first | (go_at_call 45;refine (put_keep r ns B e m _ (by exact (uh HST3).mem.below (drew_b _)) (hide (uh HST3).tree) HE hn (by exact hB3) hp (by exact cell_later (drew_b _) (uh HM3))).mono ?_;rintro e4 w4 ⟨b,rfl,hbk,hok,hft,hb4⟩;have f1:=foot_cells ((uh HST3).mem.below (drew_b _)) (uh hft) (g:=sb) (uh HST3).cells (by decide);have f2:=foot_cells ((uh HST3).mem.below (drew_b _)) (uh hft) (g:=w.heap.size) (uh HC3) (by decide)))
    have hb34:Below B w w4:=(hbw3.mono hBw).trans (((drew_b w3).mono hB3).trans hb4)
    have hst34:∀ ns',Grew w3.drew.heap.size ns ns'→Stp2 w w4 B r ns ns':=fun ns' hg=>((Stp2.of_below hbw3 hBw).trans (Stp2.of_below (drew_b w3) hB3)).trans ⟨hb4,uh hft,hg⟩
    have HS34:=hide hst34
    have HKX:Hid (KeepX w w4):=hide (((keepX_below hbw3).trans (keepX_below (drew_b w3))).trans (keepX_foot ((uh HST3).mem.below (drew_b _)) (uh hft)))
    have HF1:=hide f1
    clear hst34 f1 f2 s3 y0 y1 y2 y3
    cases b with
    | false=>
      have HR:Hid (layG (entsN ns) e=.error 9):=hide (by
       have:=of_decide_eq_false (uh hbk).symm
       unfold layG;rw [uh HNo,if_neg (by simp),uh HIP,if_neg (by simp),if_neg this])
      go_wp2_with fail
      go_ret
      rw [uh HR]
      exact ⟨rfl,hb34,uh HKX⟩
    | true=>
      obtain ⟨ns',hM',he',hg'⟩:=uh hok rfl
      have hkd:=of_decide_eq_true (uh hbk).symm
      have HR:Hid (layG (entsN ns) e=.ok (entsN ns')):=hide (by
       unfold layG;rw [uh HNo,if_neg (by simp),uh HIP,if_neg (by simp),if_pos hkd,he'])
      have HT:Hid (TreeS (entsN ns')):=hide (by rw [he'];exact put_tree (uh HST3).tree (uh HE) hkd)
      have HM':=hide hM'
      have HL:=hide (put_ents_len (uh HST3).tree he')
      have HS':=hide (uh HS34 ns' hg')
      clear hM' he' hg' hkd
      go_wp2_with fail
      go_ret
      rw [uh HR]
      exact ⟨⟨rfl,ns',⟨uh HF1,uh HM',uh HT,(uh HST3).lim,Nat.le_trans hB3 hb4.size⟩,rfl,uh HS',uh HL⟩,hb34,uh HKX⟩
 ·obtain ⟨_,_,hx3,_⟩:=(uh HST1).mem.all x (by simp [hx])
  have z1:w1.cell? ⟨x.nb,1,none⟩=some (.int .i64 x.ent.kind):=cell_of_row w1 x.nb 1 _ _ _ hx3
  obtain ⟨d1,hd1⟩:∃ d1,d1=decide (x.ent.kind=1):=⟨_,rfl⟩
  obtain ⟨d2,hd2⟩:∃ d2,d2=decide (e.kind=1):=⟨_,rfl⟩
  have hD:∀ n,Calls Tryz.prog 87 #[.pointer (some ⟨x.nb,0,none⟩)] (w1.drewN n) fun ev w'=>ev=.returned (.bool d1)∧w'=w1.drewN n:=fun n=>by rw [hd1];exact isDir_at _ _ _ (cell_later (below_drewN (Below.refl _ _) _) z1)
  have g2:(e.kind==1)=d2:=by rw [hd2];rw [Bool.eq_iff_iff];simp
  have HNN:Hid ((match atE (entsN ns) e.path.data.toList with | some x=>decide (x.kind=1) != decide (e.kind=1) | none=>false)=(d1 != d2)):=hide (by rw [ha,hd1,hd2])
  clear hx hxp ha hx3 z1 hd1 hd2
  by_cases hdd:d1=d2
  ·have HNo:Hid ((match atE (entsN ns) e.path.data.toList with | some x=>decide (x.kind=1) != decide (e.kind=1) | none=>false)=false):=hide (by rw [uh HNN,hdd];simp)
   subst hdd
   go_upto_region 2 with fail
   go_quiet (first | (go_at_call 87;exact Calls.quiet_of_same (hD _)))
   go_upto_region 4 with fail
   clear hD g2 HNN
   obtain ⟨W2,hW2⟩:∃ W2,W2=w1.drewN nq:=⟨_,rfl⟩
   have hb12:Below w1.heap.size w1 W2:=by rw [hW2];exact below_drewN (Below.refl _ _) _
   have hc2:W2.heap[w.heap.size]?=some (.cells #[.string e.path,.int .i64 e.kind,.int .i64 e.mode,.string e.data] 38 (0,0)):=by rw [hW2];exact uh HC1
   have hst2:=(uh HST1).below hb12
   have hm2:=cell_later hb12 (uh HM1)
   have hbw2:Below w.heap.size w W2:=hbw1.trans (hb12.mono hbw1.size)
   rw [←hW2]
   clear hW2 s1 q1 k1 k2 k3 hb12 HST1 HM1 HC1 hbw1
   have j0:W2.cell? ⟨w.heap.size,0,none⟩=some (.string e.path):=cq 0 hc2
   have hI:=is_any e.path m W2 hm2
   have HST2:=hide hst2
   have HM2:=hide hm2
   have HC2:=hide hc2
   clear hst2 hm2 hc2
   cases hip:isP e.path.data.toList with
   | false=>
     rw [hip] at hI
     have HR:Hid (layG (entsN ns) e=.error 1):=hide (by unfold layG;rw [uh HNo,if_neg (by simp),hip,if_pos rfl])
     clear hip
     go_wp2_with (go_at_call 81;refine hI.mono ?_;clear hI;rintro e3 w3 ⟨rfl,hb3⟩)
     go_ret
     rw [uh HR]
     exact ⟨rfl,(hbw2.trans (hb3.mono hbw2.size)).mono hBw,keepX_below (hbw2.trans (hb3.mono hbw2.size))⟩
   | true=>
     rw [hip] at hI
     have HIP:=hide hip
     clear hip
     go_upto_region 6 with (go_at_call 81;refine hI.mono ?_;clear hI;rintro e3 w3 ⟨rfl,hb3⟩)
     have hbw3:Below w.heap.size w w3:=hbw2.trans (hb3.mono hbw2.size)
     have hst3:=(uh HST2).below hb3
     have hm3:=cell_later hb3 (uh HM2)
     have hc3:w3.heap[w.heap.size]?=some (.cells #[.string e.path,.int .i64 e.kind,.int .i64 e.mode,.string e.data] 38 (0,0)):=(hb3.block w.heap.size (Array.getElem?_eq_some_iff.1 (uh HC2)).1).trans (uh HC2)
     have s3:=hst3.c0
     have y0:w3.cell? ⟨w.heap.size,0,none⟩=some (.string e.path):=cq 0 hc3
     have y1:w3.cell? ⟨w.heap.size,1,none⟩=some (.int .i64 e.kind):=cq 1 hc3
     have y2:w3.cell? ⟨w.heap.size,2,none⟩=some (.int .i64 e.mode):=cq 2 hc3
     have y3:w3.cell? ⟨w.heap.size,3,none⟩=some (.string e.data):=cq 3 hc3
     have HE:Hid (entOk e=true):=hide (by unfold entOk;rw [uh HG,uh HIP];simpa using uh HP)
     have HST3:=hide hst3
     have HM3:=hide hm3
     have hB3:B≤w3.heap.size:=Nat.le_trans hBw hbw3.size
     have HC3:=hide hc3
     clear hb3 HST2 HM2 HC2 j0 hst3 hm3 hc3
     go_region_held3 (fun w'=>w'.cell? ⟨sb,0,none⟩=some (.pointer (some ⟨r.nb,0,none⟩))∧w'.cell? ⟨w.heap.size,0,none⟩=some (.string e.path)∧w'.cell? ⟨w.heap.size,1,none⟩=some (.int .i64 e.kind)∧w'.cell? ⟨w.heap.size,2,none⟩=some (.int .i64 e.mode)∧w'.cell? ⟨w.heap.size,3,none⟩=some (.string e.data))
      (first | exact ⟨cq 0 f1,cq 0 f2,cq 1 f2,cq 2 f2,cq 3 f2⟩ | exact ⟨s3,y0,y1,y2,y3⟩ | go_keep)
      (first | (go_at_call 45;refine (put_keep r ns B e m _ (by exact (uh HST3).mem.below (drew_b _)) (hide (uh HST3).tree) HE hn (by exact hB3) hp (by exact cell_later (drew_b _) (uh HM3))).mono ?_;rintro e4 w4 ⟨b,rfl,hbk,hok,hft,hb4⟩;have f1:=foot_cells ((uh HST3).mem.below (drew_b _)) (uh hft) (g:=sb) (uh HST3).cells (by decide);have f2:=foot_cells ((uh HST3).mem.below (drew_b _)) (uh hft) (g:=w.heap.size) (uh HC3) (by decide)))
     have hb34:Below B w w4:=(hbw3.mono hBw).trans (((drew_b w3).mono hB3).trans hb4)
     have hst34:∀ ns',Grew w3.drew.heap.size ns ns'→Stp2 w w4 B r ns ns':=fun ns' hg=>((Stp2.of_below hbw3 hBw).trans (Stp2.of_below (drew_b w3) hB3)).trans ⟨hb4,uh hft,hg⟩
     have HS34:=hide hst34
     have HKX:Hid (KeepX w w4):=hide (((keepX_below hbw3).trans (keepX_below (drew_b w3))).trans (keepX_foot ((uh HST3).mem.below (drew_b _)) (uh hft)))
     have HF1:=hide f1
     clear hst34 f1 f2 s3 y0 y1 y2 y3
     cases b with
     | false=>
       have HR:Hid (layG (entsN ns) e=.error 9):=hide (by
        have:=of_decide_eq_false (uh hbk).symm
        unfold layG;rw [uh HNo,if_neg (by simp),uh HIP,if_neg (by simp),if_neg this])
       go_wp2_with fail
       go_ret
       rw [uh HR]
       exact ⟨rfl,hb34,uh HKX⟩
     | true=>
       obtain ⟨ns',hM',he',hg'⟩:=uh hok rfl
       have hkd:=of_decide_eq_true (uh hbk).symm
       have HR:Hid (layG (entsN ns) e=.ok (entsN ns')):=hide (by
        unfold layG;rw [uh HNo,if_neg (by simp),uh HIP,if_neg (by simp),if_pos hkd,he'])
       have HT:Hid (TreeS (entsN ns')):=hide (by rw [he'];exact put_tree (uh HST3).tree (uh HE) hkd)
       have HM':=hide hM'
       have HL:=hide (put_ents_len (uh HST3).tree he')
       have HS':=hide (uh HS34 ns' hg')
       clear hM' he' hg' hkd
       go_wp2_with fail
       go_ret
       rw [uh HR]
       exact ⟨⟨rfl,ns',⟨uh HF1,uh HM',uh HT,(uh HST3).lim,Nat.le_trans hB3 hb4.size⟩,rfl,uh HS',uh HL⟩,hb34,uh HKX⟩
  ·have HR:Hid (layG (entsN ns) e=.error 9):=hide (by unfold layG;rw [uh HNN,if_pos (by simpa using hdd)])
   have g3:(d1==d2)=false:=by simpa using hdd
   have g4:(d1 != d2)=true:=by simpa using hdd
   go_upto_region 2 with fail
   go_quiet (first | (go_at_call 87;exact Calls.quiet_of_same (hD _)))
   go_wp2_with fail
   go_ret
   rw [uh HR]
   exact ⟨rfl,(below_drewN hbw1 _).mono hBw,keepX_below (below_drewN hbw1 _)⟩
end Go.Proofs.YtehfpjcclknipaaGreatDoor.T
