import Derived.Test.YtehfpjcclknipaaGreatDoorJPrsZ
import Derived.Test.YtehfpjcclknipaaGreatDoorJTEach
import Derived.Test.YtehfpjcclknipaaGreatDoorJTpA
namespace Go.Proofs.YtehfpjcclknipaaGreatDoor.T
open Go.RowKit Go.Maps Go.Sort Go.Shelf
attribute [local go_sem] Oper.semAt_some
theorem inside_x (n:Nat) (hn:1≤n) (Bx B:Nat) (r x:Nd) (ns:List Nd) (w:World) (hx:x∈r :: ns) (hM:Mem w B r ns) (HO:Hid (OkTo (entsN ns) ns.length)) (HS:Hid (∀ y∈ns,y.ent.path.size≤1048576)) (hN:ns.length≤1000)
  (hbx:w.heap[Bx]?=some (.cells #[.pointer (some ⟨x.nb,0,none⟩)] 60 (0,0))) :
  SeqX (blkS r ns) Fence.wide n Tryz.prog 126 #[.pointer (some ⟨Bx,0,none⟩)] (encK (ns:=ns) (p:=x.p)) (kidsX ns x.p).attach w:=by
 intro l J W hW hJ hY h0
 refine (inside_loop (Kx (blkS r ns)) n hn Bx B l r x ns W hx (hM.below hW) HO HS hN ((hW.block _ (Array.getElem?_eq_some_iff.1 hbx).1).trans hbx) (fun g cur V=>It V Bx g x ns cur)
  (fun V g cur _ _ hi=>hi) (fun _ _ _ h=>h) (fun g cur W1 W2 h hk=>⟨hk.keep _ _ h.box (.inl rfl),hk.keep _ _ h.node (.inr (blk_nb hx)),h.map.kx hk (blk_mb hx),hk.keep _ _ h.row (.inl rfl)⟩) J (fun _ _=>False)
  (fun W' hb=>hJ [] W W' h0 (Kp.below hb)) (fun pre y W1 hj hp=>?_)).mono ?_
 ·obtain ⟨fn,tmps,assign,body,hy,hR⟩:=hY pre y W1 hj hp
  exact ⟨fn,tmps,assign,body,hy,hR.mono fun e W' h=>.inl h⟩
 ·rintro e W' ⟨hv,⟨ys,rfl,hj⟩ | ⟨pre,_,hf⟩⟩
  ·exact ⟨hv,hj⟩
  ·exact hf.elim
set_option maxRecDepth 100000 in
set_option maxHeartbeats 2000000 in
theorem each_x (es:List Ent) (B B0:Nat) (r:Nd) (ns:List Nd) (HE:Hid (entsN ns=es)) (HT:Hid (TreeG es)) (l:Nat) (xs:List Nd) (J:List Nd→World→Prop) (hJ:StayX B0 J)
  (hY:∀ m pre y W1,J pre W1→pre++[y] <+: xs→YieldAt Fence.wide m Tryz.prog l #[.pointer (some ⟨y.nb,0,none⟩)] W1 fun e W'=>e=.returned (.bool true)∧J (pre++[y]) W'∧Kx (blkS r ns) W1 W') :
  ∀ (f:Nat) (x:Nd),x∈r :: ns→Hid (Deep es f x.ent)→∀ (pre:List Nd) (W:World),B0≤W.heap.size→Mem W B r ns→J pre W→pre++preX ns f x <+: xs →
   Calls Tryz.prog 99 #[.pointer (some ⟨x.nb,0,none⟩),.func (.yield l) #[] #[]] W fun e W'=>e=.returned (.bool true)∧J (pre++preX ns f x) W'∧Kx (blkS r ns) W W':=by
 intro f
 induction f with
 | zero=>intro x _ HD;exact absurd rfl (deep_pos (uh HD))
 | succ f ih=>
   intro x hx HD pre W hB0 hM hj hp
   rw [preX] at hp ⊢
   have hlen:ns.length≤120:=by have:=(uh HT).len;rw [←uh HE] at this;simpa [entsN] using this
   have HO:Hid (OkTo (entsN ns) ns.length):=hide (by
    have h:=(uh HT).ok
    rw [←uh HE] at h
    simpa [entsN] using h)
   have HS:Hid (∀ y∈ns,y.ent.path.size≤1048576):=hide fun y hy=>((uh HT).small y.ent (by rw [←uh HE];exact List.mem_map.2 ⟨y,hy,rfl⟩)).1
   have HP:=hide hp
   obtain ⟨W2,hW2⟩:∃ W2,W2=(W.alloc (.cells #[.func (.yield l) #[] #[]] 195)).alloc (.cells #[.bool false] 4):=⟨_,rfl⟩
   have b2:Below W.heap.size W W2:=by rw [hW2];exact ((Below.refl _ W).alloc (Nat.le_refl _) _).alloc (by simp) _
   have s2:W2.heap.size=W.heap.size+2:=by rw [hW2];simp
   have y2:W2.heap[W.heap.size]?=some (.cells #[.func (.yield l) #[] #[]] 195 (0,0)):=by rw [hW2];exact (Below.heap_alloc _ _ _ (by simp)).trans (heap_alloc_new _ _)
   have r2:W2.heap[W.heap.size+1]?=some (.cells #[.bool false] 4 (0,0)):=by
    have:=heap_alloc_new (W.alloc (.cells #[.func (.yield l) #[] #[]] 195)) (.cells #[.bool false] 4)
    rw [World.size_alloc] at this
    rw [hW2];exact this
   have hj2:J pre W2:=hJ _ _ _ hj (Kp.below b2)
   obtain ⟨fn,tmps,assign,body,hy,hR⟩:=hY 5 pre x W2 hj2 (List.IsPrefix.trans ⟨((kidsX ns x.p).map (preX ns f)).flatten,by simp⟩ hp)
   have c1:W2.cell? ⟨W.heap.size,0,none⟩=some (.func (.yield l) #[] #[]):=cq 0 y2
   have HM:=hide hM
   have HY2:=hide y2
   have HR2:=hide r2
   have hf88:Fence.wide.fn 92:=trivial
   clear hM y2 r2 hp hj hj2
   refine (callsIn_wide (n:=6)).1 ?_
   refine callsIn_of_wp_marks Tryz.func99 rfl trivial ?_ rfl
   simp only [Tryz.ntmps99,List.size_toArray,List.length_cons,List.length_nil,Nat.reduceAdd,Nat.reduceSub,Array.replicate_succ,Array.replicate_zero,List.push_toArray,List.append_toArray,List.nil_append,List.cons_append]
   gi_wp2
   rw [←hW2,hy]
   clear hy hW2
   gi_wp2
   refine hR.mono ?_
   clear hR
   rintro e W3 ⟨rfl,hj3,hc3⟩
   gi_wp2_with (gi_at_call 92;refine (callsIn_wide.2 (inside_any _ _)).mono ?_;rintro e w4 ⟨rfl,rfl⟩)
   have s3:=hc3.size
   have hcW3:Kx (blkS r ns) W W3:=(Kx.below b2).trans hc3
   have hM3:=(uh HM).kx hcW3
   obtain ⟨W4,hW4⟩:∃ W4,W4=W3.alloc (.cells #[.pointer (some ⟨x.nb,0,none⟩)] 60):=⟨_,rfl⟩
   have b4:Below W3.heap.size W3 W4:=by rw [hW4];exact (Below.refl _ _).alloc (Nat.le_refl _) _
   have s4:W4.heap.size=W3.heap.size+1:=by rw [hW4];simp
   have x4:W4.heap[W3.heap.size]?=some (.cells #[.pointer (some ⟨x.nb,0,none⟩)] 60 (0,0)):=by rw [hW4];exact heap_alloc_new _ _
   have hj4:J (pre++x :: ([].map fun k:Kid ns x.p=>preX ns f k.1).flatten) W4:=hJ _ _ _ hj3 (Kp.below b4)
   have hc4:Kx (blkS r ns) W3 W4:=Kx.below b4
   have hcW4:=hcW3.trans hc4
   have hM4:=hM3.kx hc4
   have y4:=(hc3.trans hc4).keep _ _ (uh HY2) (.inl rfl)
   have r4:=(hc3.trans hc4).keep _ _ (uh HR2) (.inl rfl)
   have hSk:∀ k,blkS r ns k→k<W4.heap.size:=by
    rintro k ⟨z,hz,rfl | rfl⟩
    ·exact (Array.getElem?_eq_some_iff.1 (hM4.all z hz).2.2.1).1
    ·exact World.ownsMap.lt (hM4.all z hz).2.2.2
   rw [←hW4]
   clear hj3 hc3 hM3 c1 hW4
   refine range_x (S:=blkS r ns) (α:=Kid ns x.p) rfl (by omega) (gf:=126) (lb:=#[.pointer (some ⟨W3.heap.size,0,none⟩)]) rfl trivial (enters_of Tryz.func126 (by kernel_rfl) rfl)
    (inside_x 5 (by omega) W3.heap.size B r x ns W4 hx hM4 HO HS (by omega) x4) hSk (Below.refl _ _) (fun _=>rfl)
    (fun p V=>J (pre++x :: (p.map fun k=>preX ns f k.1).flatten) V∧Kx (blkS r ns) W4 V)
    (fun s V V' hs hk=>⟨hJ _ _ _ hs.1 (hk.mono (by omega)),hs.2.kp hk (Nat.le_refl _)⟩)
    ⟨hj4,Kx.refl _ _⟩ (fun t k=>((t.setIfInBounds 13 (.string (nm k.1))).setIfInBounds 14 (.pointer (some ⟨k.1.nb,0,none⟩))).setIfInBounds 6 (.pointer (some ⟨k.1.nb,0,none⟩))) ?assign ?body ?done
   case assign=>
    intro l' y V K hK
    unfold encK
    gi_wp2
    simpa using hK
   case body=>
    rintro l' p y V ⟨hjv,hcv⟩ hpp
    have hk:=kidsX_mem y.2
    have hdk:Deep es f y.1.ent:=deep_kid (uh HT).ok (uh HD) (by
     rw [←uh HE]
     show y.1.ent∈kidsE (entsN ns) x.p
     rw [kidsE_eq]
     exact List.mem_map.2 ⟨y.1,y.2,rfl⟩)
    have hpx:pre++x :: (p.map fun k=>preX ns f k.1).flatten++preX ns f y.1 <+: xs:=by
     refine List.IsPrefix.trans ?_ (uh HP)
     obtain ⟨t,ht⟩:=pre_pre (f:=f) hpp
     exact ⟨t,by rw [←ht,flat_pre];simp⟩
    have sv:=hcv.size
    have HIH:=hide (ih y.1 (List.mem_cons_of_mem _ hk.1) (hide hdk) (pre++x :: (p.map fun k=>preX ns f k.1).flatten) V (by omega) (hM4.kx hcv) hjv hpx)
    have cy:V.cell? ⟨W.heap.size,0,none⟩=some (.func (.yield l) #[] #[]):=cq 0 (hcv.keep _ _ y4 (.inl rfl))
    have hf106:(Fence.wide.inRound l').fn 99:=trivial
    clear ih hpx hpp hdk
    gi_wp2_with (refine ⟨trivial,?_⟩;gi_at_call 99;refine (CallsIn.inRound l' (callsIn_wide.2 (uh HIH))).mono ?_;rintro e V2 ⟨rfl,hj5,hc5⟩)
    refine ⟨hc5,?_,hcv.trans hc5⟩
    rw [flat_pre]
    simpa using hj5
   case done=>
    rintro D V hD ⟨hjv,hcv⟩ hK
    have cr:=hcv.keep _ _ r4 (.inl rfl)
    have sv:=hcv.size
    have c1:V.cell? ⟨W.heap.size+1,0,none⟩=some (.bool false):=cq 0 cr
    have c2:V.frozen? ⟨W.heap.size+1,0,none⟩=false:=by simp [World.frozen?,cr]
    gi_wp2
    have hK2:(V.setCell ⟨W.heap.size+1,0,none⟩ (.bool true)).heap[D]?=some (.deferred (some [])):=(KeepsOthers.setCell V ⟨W.heap.size+1,0,none⟩ (.bool true)).same D _ hK rfl
    have c3:((V.setCell ⟨W.heap.size+1,0,none⟩ (.bool true)).putObj D (.deferred none)).cell? ⟨W.heap.size+1,0,none⟩=some (.bool true):=by
     rw [cell_put _ (by show W.heap.size+1≠D;omega)]
     exact World.cell?_setCell_same' _ _ _ (by rw [c1];rfl)
    have j1:J (pre++x :: ((kidsX ns x.p).map (preX ns f)).flatten) (V.setCell ⟨W.heap.size+1,0,none⟩ (.bool true)):=by
     rw [←flat_all]
     exact hJ _ _ _ hjv (Kp.set _ (by show B0≤W.heap.size+1;omega) cr rfl)
    have j2:J (pre++x :: ((kidsX ns x.p).map (preX ns f)).flatten) ((V.setCell ⟨W.heap.size+1,0,none⟩ (.bool true)).putObj D (.deferred none)):=
     hJ _ _ _ j1 (Kp.put _ (by omega) hK2 rfl)
    refine ⟨by simp,.inl ⟨_,_,rfl,run_takeDeferred hK2,?_⟩⟩
    refine ⟨.bool true,?_,rfl,j2,((hcW4.trans hcv).kp (Kp.set (B0:=W.heap.size+1) _ (Nat.le_refl _) cr rfl) (by omega)).kp (Kp.put (B0:=W.heap.size) _ (by omega) hK2 rfl) (Nat.le_refl _)⟩
    simp [results,Tryz.results99,go_sem,c3]
set_option maxRecDepth 100000 in
set_option maxHeartbeats 1000000 in
theorem all_x (es:List Ent) (B Bx n:Nat) (r x:Nd) (ns:List Nd) (w:World) (HE:Hid (entsN ns=es)) (HT:Hid (TreeG es)) (hx:x∈r :: ns) (hM:Mem w B r ns) (hbx:w.heap[Bx]?=some (.cells #[.pointer (some ⟨x.nb,0,none⟩)] 60 (0,0))) :
  SeqX (blkS r ns) Fence.wide n Tryz.prog 98 #[.pointer (some ⟨Bx,0,none⟩)] (fun y:Nd=>#[.pointer (some ⟨y.nb,0,none⟩)]) (x :: downX ns x.p) w:=by
 intro l J W hW hJ hY h0
 have c1:W.cell? ⟨Bx,0,none⟩=some (.pointer (some ⟨x.nb,0,none⟩)):=cq 0 ((hW.block _ (Array.getElem?_eq_some_iff.1 hbx).1).trans hbx)
 have hd:Deep es (es.length+1) x.ent:=by
  rcases List.mem_cons.1 hx with rfl | hx
  ·rw [hM.root];exact deep_root es
  ·obtain ⟨k,hk,_,he⟩:=nd_at hx
   rw [uh HE] at he
   exact ⟨k+1,by simpa using he,by omega⟩
 have hpr:=pre_down (uh HE) (uh HT).ok _ x hd
 have hE:=each_x es B W.heap.size r ns HE HT l (x :: downX ns x.p) J hJ (fun m pre y W1 hj hp=>yield_deep (hY pre y W1 hj hp)) (es.length+1) x hx (hide hd) [] W (Nat.le_refl _) (hM.below hW) h0 (by rw [hpr];exact List.prefix_refl _)
 rw [hpr] at hE
 have HE2:=hide hE
 have hf106:Fence.wide.fn 99:=trivial
 clear hE hY h0 hM
 refine (callsIn_wide (n:=n)).2 ((callsIn_wide (n:=6)).1 ?_)
 refine callsIn_of_wp Tryz.func98 rfl trivial ?_ rfl
 simp only [Tryz.ntmps98,List.size_toArray,List.length_cons,List.length_nil,Nat.reduceAdd,Nat.reduceSub,Array.replicate_succ,Array.replicate_zero,List.push_toArray,List.append_toArray,List.nil_append,List.cons_append]
 gi_wp2_with (gi_at_call 99;refine (callsIn_wide.2 (uh HE2)).mono ?_;rintro e W2 ⟨rfl,hj2,_⟩)
 go_end0
 exact ⟨⟨_,rfl⟩,hj2⟩
end Go.Proofs.YtehfpjcclknipaaGreatDoor.T
namespace Go.Proofs.YtehfpjcclknipaaGreatDoor.T
open Go.RowKit Go.Maps Go.Sort Go.Shelf
attribute [local go_sem] Oper.semAt_some
theorem eq60_same (w:World) (a:Addr):(binOp .eql 60 (.pointer (some a)) (.pointer (some a))).run Tryz.prog w=.ok (.bool true) w:=by
 obtain ⟨j,hj,hz⟩:=size87
 have h:∀ d:Nat,(Op.equalIn (d+1) 60 (.pointer (some a)) (.pointer (some a))).run Tryz.prog w=.ok true w:=fun d=>by
  simp [Op.equalIn,run_underlying ptr67,sizeOf,typeInfo,hj,run_sameAddr_same]
 simp only [binOp]
 simp [Op.equal,Op.maxDepth,h 9999]
theorem eq60_other (w:World) {a b:Nat}{ca cb:Array Value}{ta tb:TypeId}(hne:a≠b) (ha:w.heap[a]?=some (.cells ca ta (0,0))) (hb:w.heap[b]?=some (.cells cb tb (0,0))):(binOp .eql 60 (.pointer (some ⟨a,0,none⟩)) (.pointer (some ⟨b,0,none⟩))).run Tryz.prog w=.ok (.bool false) w:=by
 obtain ⟨j,hj,hz⟩:=size87
 have hs:=run_sameAddr_other (P:=Tryz.prog) (w:=w) (a:=⟨a,0,none⟩) (b:=⟨b,0,none⟩) (fun e=>hne (by cases e;rfl)) ha hb
 have h:∀ d:Nat,(Op.equalIn (d+1) 60 (.pointer (some ⟨a,0,none⟩)) (.pointer (some ⟨b,0,none⟩))).run Tryz.prog w=.ok false w:=fun d=>by
  simp [Op.equalIn,run_underlying ptr67,sizeOf,typeInfo,hj,hz,hs]
 simp only [binOp]
 simp [Op.equal,Op.maxDepth,h 9999]
structure CbI (W:World) (B sb Bs N:Nat) (r rs y:Nd) (ns nss:List Nd) (work:ByteArray) (ev:Value) (d:ByteArray) (t1:List Ent) (pre:List Nd) (V:World):Prop where
 st:∃ ns',StA V B sb r ns' work ev∧Stp2 W V B r ns ns'∧ns'.length≤ns.length+12+pre.length∧cpB d.data.toList y.p t1 ((pre.drop 1).map (·.ent))=.ok (entsN ns')
 src:Mem V Bs rs nss
 b0:V.heap[N]?=some (.cells #[.pointer (some ⟨sb,0,none⟩)] 63 (0,0))
 b1:V.heap[N+1]?=some (.cells #[.pointer (some ⟨y.nb,0,none⟩)] 60 (0,0))
 b2:V.heap[N+1+1]?=some (.cells #[.string d] 9 (0,0))
 b3:V.heap[N+1+1+1]?=some (.cells #[.nilIface] 47 (0,0))
theorem CbI.kp {W V V':World}{B sb Bs N B0:Nat}{r rs y:Nd}{ns nss:List Nd}{work:ByteArray}{ev:Value}{d:ByteArray}{t1:List Ent}{pre:List Nd}(h:CbI W B sb Bs N r rs y ns nss work ev d t1 pre V) (hk:Kp B0 V V') (h0:W.heap.size≤B0) (hB:B≤W.heap.size) (hN:N+3<B0):CbI W B sb Bs N r rs y ns nss work ev d t1 pre V':=by
 obtain ⟨ns',a1,a2,a3,a4⟩:=h.st
 exact ⟨⟨ns',a1.kp hk,a2.kp hk h0 hB,a3,a4⟩,h.src.kp hk,hk.block _ _ h.b0 (.inl (by omega)),hk.block _ _ h.b1 (.inl (by omega)),hk.block _ _ h.b2 (.inl (by omega)),hk.block _ _ h.b3 (.inl (by omega))⟩
set_option maxHeartbeats 4000000 in
set_option maxRecDepth 100000 in
theorem copyBelow_any (es:List Ent) (sb B Bs:Nat) (r rs y:Nd) (ns nss:List Nd) (work d:ByteArray) (ev:Value) (m:Int) (W:World) (hy:y∈rs :: nss) (hd:d.size≤170) (hS:StA W B sb r ns work ev) (hM:Mem W Bs rs nss)
  (HE:Hid (entsN nss=es)) (HT:Hid (TreeG es)) (hlen:nss.length≤80) (hn:ns.length≤400) (hA:∀ k,blkS rs nss k→k<B) (hm:W.cell? ⟨14,0,none⟩=some (.int .i64 m))
  (t t1:List Ent) (HM1:Hid (mkDirG (entsN ns) d.data.toList=.ok t1)) (HCP:Hid (cpB d.data.toList y.p t1 (entsN (downX nss y.p))=.ok t)) :
  Calls Tryz.prog 257 #[.pointer (some ⟨sb,0,none⟩),.pointer (some ⟨y.nb,0,none⟩),.string d] W fun e w'=>TrOut W w' B sb r ns work ev 100 e (.ok t):=by
 have hBW:=hS.base
 have h14:=hS.lim
 have hSx:TreeS (entsN nss):=treeS_of (by rw [uh HE];exact (uh HT).ok)
 have hdn:(downX nss y.p).length≤80:=Nat.le_trans (List.length_filter_le _ _) hlen
 have hmx:Tryz.prog.follows .mixedOrders=true:=by kernel_rfl
 obtain ⟨W4,hW4⟩:∃ W4,W4=(((W.alloc (.cells #[.pointer (some ⟨sb,0,none⟩)] 63)).alloc (.cells #[.pointer (some ⟨y.nb,0,none⟩)] 60)).alloc (.cells #[.string d] 9)).alloc (.cells #[.nilIface] 47):=⟨_,rfl⟩
 obtain ⟨N,hN⟩:∃ N,N=W.heap.size:=⟨_,rfl⟩
 have s4:W4.heap.size=N+4:=by rw [hW4,hN];simp
 have b4:Below W.heap.size W W4:=by rw [hW4];exact ((((Below.refl _ _).alloc (Nat.le_refl _) _).alloc (by simp) _).alloc (by simp;omega) _).alloc (by simp;omega) _
 have e0:W4.heap[N]?=some (.cells #[.pointer (some ⟨sb,0,none⟩)] 63 (0,0)):=by
  rw [hW4,hN];exact (Below.heap_alloc _ _ _ (by simp;omega)).trans ((Below.heap_alloc _ _ _ (by simp;omega)).trans ((Below.heap_alloc _ _ _ (by simp)).trans (heap_alloc_new _ _)))
 have e1:W4.heap[N+1]?=some (.cells #[.pointer (some ⟨y.nb,0,none⟩)] 60 (0,0)):=by
  rw [hW4,hN]
  refine (Below.heap_alloc _ _ _ (by simp)).trans ((Below.heap_alloc _ _ _ (by simp)).trans ?_)
  have:=heap_alloc_new (W.alloc (.cells #[.pointer (some ⟨sb,0,none⟩)] 63)) (.cells #[.pointer (some ⟨y.nb,0,none⟩)] 60)
  rw [World.size_alloc] at this
  exact this
 have e2:W4.heap[N+1+1]?=some (.cells #[.string d] 9 (0,0)):=by
  rw [hW4,hN]
  refine (Below.heap_alloc _ _ _ (by simp)).trans ?_
  have:=heap_alloc_new ((W.alloc (.cells #[.pointer (some ⟨sb,0,none⟩)] 63)).alloc (.cells #[.pointer (some ⟨y.nb,0,none⟩)] 60)) (.cells #[.string d] 9)
  rw [World.size_alloc,World.size_alloc] at this
  exact this
 have e3:W4.heap[N+1+1+1]?=some (.cells #[.nilIface] 47 (0,0)):=by
  rw [hW4,hN]
  have:=heap_alloc_new (((W.alloc (.cells #[.pointer (some ⟨sb,0,none⟩)] 63)).alloc (.cells #[.pointer (some ⟨y.nb,0,none⟩)] 60)).alloc (.cells #[.string d] 9)) (.cells #[.nilIface] 47)
  rw [World.size_alloc,World.size_alloc,World.size_alloc] at this
  exact this
 subst hN
 have hMk:=makeDir_any sb r ns work d ev B m W4 (hS.below b4) (by omega) (by omega) (cell_later b4 hm)
 rw [uh HM1] at hMk
 have g0:W4.cell? ⟨W.heap.size,0,none⟩=some (.pointer (some ⟨sb,0,none⟩)):=cq 0 e0
 have g2:W4.cell? ⟨W.heap.size+1+1,0,none⟩=some (.string d):=cq 0 e2
 have hst4:=hS.below b4
 have hsrc4:=hM.below b4
 have HH:=hide (And.intro hst4 (And.intro hsrc4 (And.intro b4 (And.intro e0 (And.intro e1 (And.intro e2 e3))))))
 have HMX:=hide hm
 clear hst4 hsrc4 b4 e0 e1 e2 e3 hm
 have hf58:Fence.wide.fn 58:=trivial
 have hf262:Fence.wide.fn 262:=trivial
 refine (callsIn_wide (n:=6)).1 ?_
 refine callsIn_of_wp_marks Tryz.func257 rfl trivial ?_ rfl
 simp only [Tryz.ntmps257,List.size_toArray,List.length_cons,List.length_nil,Nat.reduceAdd,Nat.reduceSub,Array.replicate_succ,Array.replicate_zero,List.push_toArray,List.append_toArray,List.nil_append,List.cons_append]
 gi_wp2_with (first
  | (gi_at_call 262;rw [←hW4];refine (callsIn_wide.2 hMk).mono ?_;clear hMk;rintro e w5 ⟨⟨rfl,ns1,hst1,he1,hs1,hl1⟩,hb5,hk5⟩;have g1:w5.cell? ⟨W.heap.size+1,0,none⟩=some (.pointer (some ⟨y.nb,0,none⟩)):=cq 0 (hk5 _ _ _ _ (uh HH).2.2.2.2.1 (by decide) (by decide)))
  | (gi_at_call 58;refine (callsIn_wide.2 (all_any _ _)).mono ?_;rintro e w6 ⟨rfl,rfl⟩))
 obtain ⟨hst4,hsrc4,b4,e0,e1,e2,e3⟩:=uh HH
 obtain ⟨W6,hW6⟩:∃ W6,W6=w5.alloc (.cells #[.pointer (some ⟨y.nb,0,none⟩)] 60):=⟨_,rfl⟩
 have b6:Below w5.heap.size w5 W6:=by rw [hW6];exact (Below.refl _ _).alloc (Nat.le_refl _) _
 have s6:W6.heap.size=w5.heap.size+1:=by rw [hW6];simp
 have x6:W6.heap[w5.heap.size]?=some (.cells #[.pointer (some ⟨y.nb,0,none⟩)] 60 (0,0)):=by rw [hW6];exact heap_alloc_new _ _
 rw [←hW6]
 have kx5:=kx_stp (rs:=rs) (nss:=nss) hst4.mem hs1 hA
 have z5:=hs1.below.size
 have hI0:CbI W B sb Bs W.heap.size r rs y ns nss work ev d t1 [] w5:=
  ⟨⟨ns1,hst1,(Stp2.of_below b4 hBW).trans hs1,by simpa using hl1,by rw [←he1];rfl⟩,hsrc4.kx kx5,hk5 _ _ _ _ e0 (by decide) (by decide),hk5 _ _ _ _ e1 (by decide) (by decide),hk5 _ _ _ _ e2 (by decide) (by decide),hk5 _ _ _ _ e3 (by decide) (by decide)⟩
 have hI6:CbI W B sb Bs W.heap.size r rs y ns nss work ev d t1 [] W6:=hI0.kp (Kp.below (B0:=W6.heap.size) b6) (by omega) hBW (by omega)
 have hSk:∀ k,blkS rs nss k→k<W6.heap.size:=fun k hk=>by have:=hA k hk;omega
 clear hst4 hsrc4 e0 e1 e2 e3 hI0 hst1 he1 hs1 hl1 hb5 hk5 g1 HH hW6 kx5 g0 g2 hW4
 refine range_x (S:=blkS rs nss) (α:=Nd) (xs:=y :: downX nss y.p) rfl (by omega) (gf:=98) (lb:=#[.pointer (some ⟨w5.heap.size,0,none⟩)]) rfl trivial (enters_of Tryz.func98 (by kernel_rfl) rfl)
  (all_x es Bs w5.heap.size 5 rs y nss W6 HE HT hy hI6.src x6) hSk (Below.refl _ _) (fun _=>rfl)
  (fun pre V=>CbI W B sb Bs W.heap.size r rs y ns nss work ev d t1 pre V) (fun s V V' hs hk=>hs.kp hk (by omega) hBW (by omega)) hI6
  (fun t x=>(t.setIfInBounds 18 (.pointer (some ⟨x.nb,0,none⟩))).setIfInBounds 8 (.pointer (some ⟨x.nb,0,none⟩))) ?assign ?body ?done
 case assign=>
  intro l x V K hK
  gi_wp2
  simpa using hK
 case body=>
  rintro l pre x V hI hp
  have cb:V.cell? ⟨W.heap.size+1,0,none⟩=some (.pointer (some ⟨y.nb,0,none⟩)):=cq 0 hI.b1
  cases pre with
  | nil=>
    have hxy:x=y:=by
     obtain ⟨u,e⟩:=hp
     simpa using (List.cons.inj e).1
    subst hxy
    have HI:Hid (CbI W B sb Bs W.heap.size r rs x ns nss work ev d t1 ([]++[x]) V):=hide (by
     obtain ⟨ns',a1,a2,a3,a4⟩:=hI.st
     exact ⟨⟨ns',a1,a2,by simp at a3 ⊢;omega,by simpa using a4⟩,hI.src,hI.b0,hI.b1,hI.b2,hI.b3⟩)
    have heq:=eq60_same V ⟨x.nb,0,none⟩
    clear hI
    gi_wp2
    exact ⟨Kx.refl _ _,uh HI⟩
  | cons z pre=>
    have hxd:x∈downX nss y.p:=by
     obtain ⟨u,e⟩:=hp
     have e2:=(List.cons.inj e).2
     rw [←e2];simp
    obtain ⟨hxn,hun⟩:=downX_mem.1 hxd
    have hxm:x∈rs :: nss:=List.mem_cons_of_mem _ hxn
    have hne:x.p≠y.p:=fun e=>not_under_self y.p (by rw [e] at hun;exact hun)
    have hnb:=nb_two hI.src hxm hy hne
    have heq:=eq60_other V hnb (hI.src.all x hxm).2.2.1 (hI.src.all y hy).2.2.1
    have hent:=hSx.ent x.ent (List.mem_map.2 ⟨x,hxn,rfl⟩)
    obtain ⟨hp0,hisP,hgood⟩:=ent_parts hent
    obtain ⟨hr1,hr2,hr3⟩:=rel_eq (p:=y.p) (q:=x.p) hisP hun
    have hq170:x.p.length≤170:=(isP_parts (p:=x.p) hisP).1
    obtain ⟨rel,hrel⟩:∃ rel,rel=bs (relP y.p x.p):=⟨_,rfl⟩
    obtain ⟨np,hnp⟩:∃ np,np=bs (jnp d.data.toList (relP y.p x.p)):=⟨_,rfl⟩
    have hrs:rel.size≤170:=by rw [hrel];show (relP y.p x.p).toArray.size≤170;simpa using Nat.le_trans hr3 hq170
    have hCb:∀ w',Below V.heap.size V w'→Calls Tryz.prog 282 #[.string x.ent.path,.string y.ent.path] w' fun e w''=>e=.returned (.string rel)∧Below V.heap.size V w'':=fun w' hw'=>by
     refine (behind_any x.ent.path y.ent.path w').mono ?_
     rintro e w'' ⟨rfl,rfl⟩
     exact ⟨by rw [hrel,←hr1,Nd.p,Nd.p],hw'⟩
    have hCj:∀ w',Below V.heap.size V w'→Calls Tryz.prog 175 #[.string d,.string rel] w' fun e w''=>e=.returned (.string np)∧Below V.heap.size V w'':=fun w' hw'=>by
     refine (join_path d rel w' (by omega) (by omega)).mono ?_
     rintro e w'' ⟨s,rfl,hs,rfl⟩
     refine ⟨?_,hw'⟩
     have:s=np:=by
      rw [hnp,←bs_list (relP y.p x.p),←hrel,←hs]
      simp [bs]
     rw [this]
    have hCm:∀ w',Below V.heap.size V w'→Calls Tryz.prog 260 #[.agg #[.string x.ent.path,.int .i64 x.ent.kind,.int .i64 x.ent.mode,.string x.ent.data],.string np] w' fun e w''=>e=.returned (.agg #[.string np,.int .i64 x.ent.kind,.int .i64 x.ent.mode,.string x.ent.data])∧Below V.heap.size V w'':=fun w' hw'=>by
     refine (moved_any x.ent np w').mono ?_
     rintro e w'' ⟨rfl,hb⟩
     exact ⟨rfl,hw'.trans (hb.mono hw'.size)⟩
    have HF:∀ w',Below V.heap.size V w'→w'.cell? ⟨W.heap.size,0,none⟩=some (.pointer (some ⟨sb,0,none⟩))∧w'.cell? ⟨W.heap.size+1,0,none⟩=some (.pointer (some ⟨y.nb,0,none⟩))∧w'.cell? ⟨W.heap.size+1+1,0,none⟩=some (.string d)∧w'.cell? ⟨x.nb,0,none⟩=some (.string x.ent.path)∧w'.cell? ⟨x.nb,1,none⟩=some (.int .i64 x.ent.kind)∧w'.cell? ⟨x.nb,2,none⟩=some (.int .i64 x.ent.mode)∧w'.cell? ⟨x.nb,3,none⟩=some (.string x.ent.data)∧w'.cell? ⟨y.nb,0,none⟩=some (.string y.ent.path):=fun w' hw'=>by
     have nx:=(hI.src.all x hxm).2.2.1
     have ny:=(hI.src.all y hy).2.2.1
     exact ⟨cell_later hw' (cq 0 hI.b0),cell_later hw' (cq 0 hI.b1),cell_later hw' (cq 0 hI.b2),cell_later hw' (cq 0 nx),cell_later hw' (cq 1 nx),cell_later hw' (cq 2 nx),cell_later hw' (cq 3 nx),cell_later hw' (cq 0 ny)⟩
    have HI:=hide hI
    have hns:np.size≤400:=by
     rw [hnp]
     show (jnp d.data.toList (relP y.p x.p)).toArray.size≤400
     rw [List.size_toArray,jnp]
     have h7:d.data.toList.length≤170:=by rw [←Lib.size_eq];exact hd
     split
     ·omega
     ·simp;omega
    have HNP:=hide hnp
    have HR2:=hide hr2
    have HGD:=hide hgood
    clear hI hrel hnp hr1 hr2 hgood hp0 hisP hent
    gi_wp2
    refine wpIn_region_tail (C:=fun w'=>Below V.heap.size V w') 19 hmx (by kernel_rfl) (by simp) (drew_b V) ?_
    refine wpQuietIn_step (fun _ _ _ _=>trivial) (fun K hK=>?_)
    rw [if_pos (by rfl)]
    refine ⟨.pointer (some ⟨sb,0,none⟩),fun w' hw'=>?_,?_⟩
    ·obtain ⟨c0,c1,c2,x0,x1,x2,x3,y0⟩:=HF w' hw'
     unfold Oper.quietAtIn
     go_simp
    go_simp
    refine hK _ ?_
    clear hK K
    refine wpQuietIn_step (fun _ _ _ _=>trivial) (fun K hK=>?_)
    rw [if_pos (by rfl)]
    refine ⟨.pointer (some ⟨x.nb,0,none⟩),fun w' hw'=>?_,?_⟩
    ·obtain ⟨c0,c1,c2,x0,x1,x2,x3,y0⟩:=HF w' hw'
     unfold Oper.quietAtIn
     go_simp
    go_simp
    refine hK _ ?_
    clear hK K
    refine wpQuietIn_step (fun _ _ _ _=>trivial) (fun K hK=>?_)
    rw [if_pos (by rfl)]
    refine ⟨.pointer (some ⟨x.nb,0,none⟩),fun w' hw'=>?_,?_⟩
    ·obtain ⟨c0,c1,c2,x0,x1,x2,x3,y0⟩:=HF w' hw'
     unfold Oper.quietAtIn
     go_simp
    go_simp
    refine hK _ ?_
    clear hK K
    refine wpQuietIn_step (fun _ _ _ _=>trivial) (fun K hK=>?_)
    rw [if_pos (by rfl)]
    refine ⟨.pointer (some ⟨x.nb,0,none⟩),fun w' hw'=>?_,?_⟩
    ·obtain ⟨c0,c1,c2,x0,x1,x2,x3,y0⟩:=HF w' hw'
     unfold Oper.quietAtIn
     go_simp
    go_simp
    refine hK _ ?_
    clear hK K
    refine wpQuietIn_step (fun _ _ _ _=>trivial) (fun K hK=>?_)
    rw [if_pos (by rfl)]
    refine ⟨.agg #[.string x.ent.path,.int .i64 x.ent.kind,.int .i64 x.ent.mode,.string x.ent.data],fun w' hw'=>?_,?_⟩
    ·obtain ⟨c0,c1,c2,x0,x1,x2,x3,y0⟩:=HF w' hw'
     unfold Oper.quietAtIn
     go_simp
    go_simp
    refine hK _ ?_
    clear hK K
    refine wpQuietIn_step (fun _ _ _ _=>trivial) (fun K hK=>?_)
    rw [if_pos (by rfl)]
    refine ⟨.string d,fun w' hw'=>?_,?_⟩
    ·obtain ⟨c0,c1,c2,x0,x1,x2,x3,y0⟩:=HF w' hw'
     unfold Oper.quietAtIn
     go_simp
    go_simp
    refine hK _ ?_
    clear hK K
    refine wpQuietIn_step (fun _ _ _ _=>trivial) (fun K hK=>?_)
    rw [if_pos (by rfl)]
    refine ⟨.pointer (some ⟨x.nb,0,none⟩),fun w' hw'=>?_,?_⟩
    ·obtain ⟨c0,c1,c2,x0,x1,x2,x3,y0⟩:=HF w' hw'
     unfold Oper.quietAtIn
     go_simp
    go_simp
    refine hK _ ?_
    clear hK K
    refine wpQuietIn_step (fun _ _ _ _=>trivial) (fun K hK=>?_)
    rw [if_pos (by rfl)]
    refine ⟨.pointer (some ⟨x.nb,0,none⟩),fun w' hw'=>?_,?_⟩
    ·obtain ⟨c0,c1,c2,x0,x1,x2,x3,y0⟩:=HF w' hw'
     unfold Oper.quietAtIn
     go_simp
    go_simp
    refine hK _ ?_
    clear hK K
    refine wpQuietIn_step (fun _ _ _ _=>trivial) (fun K hK=>?_)
    rw [if_pos (by rfl)]
    refine ⟨.pointer (some ⟨x.nb,0,none⟩),fun w' hw'=>?_,?_⟩
    ·obtain ⟨c0,c1,c2,x0,x1,x2,x3,y0⟩:=HF w' hw'
     unfold Oper.quietAtIn
     go_simp
    go_simp
    refine hK _ ?_
    clear hK K
    refine wpQuietIn_step (fun _ _ _ _=>trivial) (fun K hK=>?_)
    rw [if_pos (by rfl)]
    refine ⟨.pointer (some ⟨x.nb,0,none⟩),fun w' hw'=>?_,?_⟩
    ·obtain ⟨c0,c1,c2,x0,x1,x2,x3,y0⟩:=HF w' hw'
     unfold Oper.quietAtIn
     go_simp
    go_simp
    refine hK _ ?_
    clear hK K
    refine wpQuietIn_step (fun _ _ _ _=>trivial) (fun K hK=>?_)
    rw [if_pos (by rfl)]
    refine ⟨.string x.ent.path,fun w' hw'=>?_,?_⟩
    ·obtain ⟨c0,c1,c2,x0,x1,x2,x3,y0⟩:=HF w' hw'
     unfold Oper.quietAtIn
     go_simp
    go_simp
    refine hK _ ?_
    clear hK K
    refine wpQuietIn_step (fun _ _ _ _=>trivial) (fun K hK=>?_)
    rw [if_pos (by rfl)]
    refine ⟨.pointer (some ⟨y.nb,0,none⟩),fun w' hw'=>?_,?_⟩
    ·obtain ⟨c0,c1,c2,x0,x1,x2,x3,y0⟩:=HF w' hw'
     unfold Oper.quietAtIn
     go_simp
    go_simp
    refine hK _ ?_
    clear hK K
    refine wpQuietIn_step (fun _ _ _ _=>trivial) (fun K hK=>?_)
    rw [if_pos (by rfl)]
    refine ⟨.pointer (some ⟨y.nb,0,none⟩),fun w' hw'=>?_,?_⟩
    ·obtain ⟨c0,c1,c2,x0,x1,x2,x3,y0⟩:=HF w' hw'
     unfold Oper.quietAtIn
     go_simp
    go_simp
    refine hK _ ?_
    clear hK K
    refine wpQuietIn_step (fun _ _ _ _=>trivial) (fun K hK=>?_)
    rw [if_pos (by rfl)]
    refine ⟨.pointer (some ⟨y.nb,0,none⟩),fun w' hw'=>?_,?_⟩
    ·obtain ⟨c0,c1,c2,x0,x1,x2,x3,y0⟩:=HF w' hw'
     unfold Oper.quietAtIn
     go_simp
    go_simp
    refine hK _ ?_
    clear hK K
    refine wpQuietIn_step (fun _ _ _ _=>trivial) (fun K hK=>?_)
    rw [if_pos (by rfl)]
    refine ⟨.pointer (some ⟨y.nb,0,none⟩),fun w' hw'=>?_,?_⟩
    ·obtain ⟨c0,c1,c2,x0,x1,x2,x3,y0⟩:=HF w' hw'
     unfold Oper.quietAtIn
     go_simp
    go_simp
    refine hK _ ?_
    clear hK K
    refine wpQuietIn_step (fun _ _ _ _=>trivial) (fun K hK=>?_)
    rw [if_pos (by rfl)]
    refine ⟨.string y.ent.path,fun w' hw'=>?_,?_⟩
    ·obtain ⟨c0,c1,c2,x0,x1,x2,x3,y0⟩:=HF w' hw'
     unfold Oper.quietAtIn
     go_simp
    go_simp
    refine hK _ ?_
    clear hK K
    refine wpQuietIn_step (fun _ _ _ _=>trivial) (fun K hK=>?_)
    rw [if_pos (by rfl)]
    refine ⟨.string rel,fun w' hw'=>?_,?_⟩
    ·unfold Oper.quietAtIn
     go_simp
     exact CallsIn.inRound l (callsIn_wide.2 (hCb w' hw'))
    go_simp
    refine hK _ ?_
    clear hK K
    refine wpQuietIn_step (fun _ _ _ _=>trivial) (fun K hK=>?_)
    rw [if_pos (by rfl)]
    refine ⟨.string np,fun w' hw'=>?_,?_⟩
    ·unfold Oper.quietAtIn
     go_simp
     exact CallsIn.inRound l (callsIn_wide.2 (hCj w' hw'))
    go_simp
    refine hK _ ?_
    clear hK K
    refine wpQuietIn_step (fun _ _ _ _=>trivial) (fun K hK=>?_)
    rw [if_pos (by rfl)]
    refine ⟨.agg #[.string np,.int .i64 x.ent.kind,.int .i64 x.ent.mode,.string x.ent.data],fun w' hw'=>?_,?_⟩
    ·unfold Oper.quietAtIn
     go_simp
     exact CallsIn.inRound l (callsIn_wide.2 (hCm w' hw'))
    go_simp
    refine hK _ ?_
    clear hK K
    refine wpQuietIn_nil ?_
    intro w7 hw7
    have hI:=uh HI
    obtain ⟨ns2,a1,a2,a3,a4⟩:=hI.st
    have hm7:w7.cell? ⟨14,0,none⟩=some (.int .i64 m):=cell_later hw7 ((cell_block (W:=W) (a:=⟨14,0,none⟩) (a2.below.block 14 h14)).trans (uh HMX))
    have hLG:∃ t2,cpB d.data.toList y.p t1 (entsN pre++[x.ent])=.ok t2:=by
     obtain ⟨u,e⟩:=hp
     have e2:pre++[x]++u=downX nss y.p:=by simpa using (List.cons.inj e).2
     have h5:=uh HCP
     rw [←e2,show entsN (pre++[x]++u)=(entsN pre++[x.ent])++entsN u by simp [entsN]] at h5
     exact cpB_pre h5
    obtain ⟨t2,ht2⟩:=hLG
    have ht3:=ht2
    rw [cpB_snoc,show cpB d.data.toList y.p t1 (entsN pre)=.ok (entsN ns2) from a4] at ht3
    have hplen:pre.length≤80:=by
     have:=hp.length_le
     simp at this
     omega
    have hLay:Calls Tryz.prog 265 #[.pointer (some ⟨sb,0,none⟩),.agg #[.string np,.int .i64 x.ent.kind,.int .i64 x.ent.mode,.string x.ent.data]] w7 fun v w'=>TrOut w7 w' B sb r ns2 work ev 1 v (.ok t2)∧Below B w7 w'∧KeepX w7 w':=by
     have h6:=lay_any sb r ns2 work ev (movE x.ent (jnp d.data.toList (relP y.p x.p))) B m w7 (a1.below hw7) (by simp at a3;omega) (by
      show (bs (jnp d.data.toList (relP y.p x.p))).size≤1048576
      rw [←uh HNP];exact Nat.le_trans hns (by decide)) (hide (by have:=uh HGD;exact this)) (hide (by
      show (bs (jnp d.data.toList (relP y.p x.p))).data.toList≠[]
      rw [bs_list,jnp]
      split
      ·exact uh HR2
      ·simp)) hm7
     rw [show layG (entsN ns2) (movE x.ent (jnp d.data.toList (relP y.p x.p)))=.ok t2 from ht3] at h6
     rw [uh HNP]
     exact h6
    have HA1:=hide a1
    have HA2:=hide a2
    have HA4:=hide a4
    have HT2:=hide ht2
    clear hI a1 a2 a4 ht2 ht3 hCb hCj hCm HF
    simp only [List.drop]
    gi_wp2_with (refine ⟨trivial,?_⟩;gi_at_call 265;refine (CallsIn.inRound l (callsIn_wide.2 hLay)).mono ?_;clear hLay;rintro e w8 ⟨⟨rfl,ns3,hst3,he3,hs3,hl3⟩,hb8,hk8⟩)
    have hI:=uh HI
    have kx:Kx (blkS rs nss) V w8:=(Kx.below hw7).trans (kx_stp ((uh HA1).below hw7).mem hs3 hA)
    refine ⟨kx,⟨ns3,hst3,((uh HA2).trans (Stp2.of_below hw7 (uh HA1).base)).trans hs3,by simp at a3 ⊢;omega,?_⟩,hI.src.kx kx,kx.keep _ _ hI.b0 (.inl rfl),kx.keep _ _ hI.b1 (.inl rfl),kx.keep _ _ hI.b2 (.inl rfl),kx.keep _ _ hI.b3 (.inl rfl)⟩
    rw [he3,show ((z :: pre++[x]).drop 1).map (·.ent)=entsN pre++[x.ent] by simp [entsN]]
    exact uh HT2
 case done=>
  rintro D V hD hI hK
  have c1:V.cell? ⟨W.heap.size+1+1+1,0,none⟩=some .nilIface:=cq 0 hI.b3
  have c2:V.frozen? ⟨W.heap.size+1+1+1,0,none⟩=false:=by simp [World.frozen?,hI.b3]
  have HI:=hide hI
  clear hI
  gi_wp2
  have hI:=uh HI
  have hK2:(V.setCell ⟨W.heap.size+1+1+1,0,none⟩ .nilIface).heap[D]?=some (.deferred (some [])):=(KeepsOthers.setCell V ⟨W.heap.size+1+1+1,0,none⟩ .nilIface).same D _ hK rfl
  have c3:((V.setCell ⟨W.heap.size+1+1+1,0,none⟩ .nilIface).putObj D (.deferred none)).cell? ⟨W.heap.size+1+1+1,0,none⟩=some .nilIface:=by
   rw [cell_put _ (by show W.heap.size+1+1+1≠D;omega)]
   exact World.cell?_setCell_same' _ _ _ (by rw [c1];rfl)
  have k1:Kp W.heap.size V (V.setCell ⟨W.heap.size+1+1+1,0,none⟩ .nilIface):=Kp.set _ (by show W.heap.size≤W.heap.size+1+1+1;omega) hI.b3 rfl
  have k2:Kp W.heap.size (V.setCell ⟨W.heap.size+1+1+1,0,none⟩ .nilIface) ((V.setCell ⟨W.heap.size+1+1+1,0,none⟩ .nilIface).putObj D (.deferred none)):=Kp.put _ (by omega) hK2 rfl
  obtain ⟨ns2,a1,a2,a3,a4⟩:=hI.st
  refine ⟨by simp,.inl ⟨_,_,rfl,run_takeDeferred hK2,?_⟩⟩
  refine ⟨.nilIface,?_,rfl,ns2,(a1.kp k1).kp k2,?_,(a2.kp k1 (Nat.le_refl _) hBW).kp k2 (Nat.le_refl _) hBW,by simp at a3;omega⟩
  ·simp [results,Tryz.results257,go_sem,c3]
  ·have h5:=uh HCP
   rw [show ((y :: downX nss y.p).drop 1).map (·.ent)=entsN (downX nss y.p) from rfl,h5] at a4
   exact (Except.ok.inj a4).symm
end Go.Proofs.YtehfpjcclknipaaGreatDoor.T
namespace Go.Proofs.YtehfpjcclknipaaGreatDoor.T
open Go.RowKit Go.Maps
theorem down_ents (ns:List Nd) (p:List UInt8):(entsN ns).filter (fun e=>underB p e.path.data.toList)=entsN (downX ns p):=by
 rw [entsN,List.filter_map];rfl
theorem cb_all {es:List Ent}(hG:TreeG es) (hl:es.length≤80) (Bs:Nat) (rs:Nd) (nss:List Nd) (hE:entsN nss=es):CbAll Bs rs nss:=by
 intro w B sb r ns work ev m hm hn hA y d W hy _ hd hS hM hb ⟨t,ht⟩
 have hlen:nss.length≤80:=by rw [←hE] at hl;simpa [entsN] using hl
 unfold cpBelowG at ht
 cases h1:mkDirG (entsN ns) d.data.toList with
 | error k=>rw [h1] at ht;cases ht
 | ok t1=>
   rw [h1] at ht
   simp only [down_ents] at ht
   have hx:cpBelowG (entsN ns) (entsN nss) y.p d.data.toList=.ok t:=by
    unfold cpBelowG
    rw [h1]
    simp only [down_ents]
    exact ht
   refine (copyBelow_any es sb B Bs r rs y ns nss work d ev m W hy hd hS hM (hide hE) (hide hG) hlen hn (by
    rintro k ⟨x,hx,rfl | rfl⟩
    ·exact (hA x hx).1
    ·exact (hA x hx).2) (cell_later hb hm) t t1 (hide h1) (hide ht)).mono ?_
   rintro e w' h
   rw [hx]
   have h2:=h
   obtain ⟨_,ns2,_,_,hs,_⟩:=h2
   exact ⟨h,hs.below,keepX_foot hS.mem hs.foot⟩
theorem pick_any (c n:Int) (w:World) (h0:0<n) (h1:n≤1000) :
  Calls Tryz.prog 11 #[.int .i64 c,.int .i64 n] w fun ev w'=>∃ k:Int,ev=.returned (.int .i64 k)∧0≤k∧k<n∧w'=w:=by
 have hn:¬ n=0:=by omega
 have hn2:(n==0)=false:=by simp [hn]
 have ha:-n<c.tmod n:=by
  have:=Int.lt_tmod_of_pos c h0
  omega
 have hb:c.tmod n<n:=Int.tmod_lt_of_pos c h0
 by_cases hneg:c.tmod n<0
 ·go_enter Tryz.func11,Tryz.ntmps11
  go_wp2
  go_ret
  exact ⟨_,rfl,by omega,by omega,rfl⟩
 ·go_enter Tryz.func11,Tryz.ntmps11
  go_wp2
  go_ret
  exact ⟨_,rfl,by omega,by omega,rfl⟩
theorem kpick_any (c n:Int) (w:World) (h0:0<n) (h1:n≤1000) :
  Calls Tryz.prog 4 #[.int .i64 c,.int .i64 n] w fun ev w'=>∃ k:Nat,ev=.returned (.int .i64 (k:Int))∧(k:Int)<n∧w'=w:=by
 have hP:=pick_any c n w h0 h1
 go_enter Tryz.func4,Tryz.ntmps4
 go_wp2_with (go_at_call 11;refine hP.mono ?_;rintro ev w' ⟨k,rfl,k0,k1,hw⟩;obtain rfl:=hw.symm;obtain ⟨j,rfl⟩:∃ j:Nat,k=(j:Int):=⟨k.toNat,by omega⟩)
 go_ret
 exact ⟨j,rfl,k1,rfl⟩
theorem erow_of {W:World}{g t:Nat}{es:List Ent}(h:W.heap[g]?=some (.cells (entC es).toArray t (0,0))):ERow W (some ⟨g,0,none⟩) es:=fun k e hk=>by
 have h4:∀ (es:List Ent) (k i:Nat) (e:Ent),es[k]?=some e→i<4→(entC es)[k*4+i]?=(ec e)[i]?:=by
  intro es
  induction es with
  | nil=>intro k i e h;cases h
  | cons x r ih=>
    intro k i e h hi
    cases k with
    | zero=>
      cases h
      show (ec x++entC r)[0*4+i]?=_
      rw [Nat.zero_mul,Nat.zero_add,List.getElem?_append_left (by simpa [ec] using hi)]
    | succ k=>
      show (ec x++entC r)[(k+1)*4+i]?=_
      rw [List.getElem?_append_right (by simp [ec];omega),show (k+1)*4+i-(ec x).length=k*4+i by simp [ec];omega]
      exact ih k i e h hi
 have hc:∀ i,W.cell? ⟨g,i,none⟩=(entC es)[i]?:=fun i=>by rw [cq i h];simp
 refine ⟨g,0,rfl,?_,?_,?_,?_⟩
 ·show W.cell? ⟨g,0+k*4,none⟩=_
  rw [hc,Nat.zero_add];exact h4 es k 0 e hk (by omega)
 ·show W.cell? ⟨g,0+k*4+1,none⟩=_
  rw [hc,Nat.zero_add];exact h4 es k 1 e hk (by omega)
 ·show W.cell? ⟨g,0+k*4+2,none⟩=_
  rw [hc,Nat.zero_add];exact h4 es k 2 e hk (by omega)
 ·show W.cell? ⟨g,0+k*4+3,none⟩=_
  rw [hc,Nat.zero_add];exact h4 es k 3 e hk (by omega)
theorem context_any (w:World):Calls Tryz.prog 6 #[] w fun e w'=>∃ g:Nat,e=.returned (.slice (some ⟨g,0,none⟩) 2 2)∧ERow w' (some ⟨g,0,none⟩) cxK∧Below w.heap.size w w':=by
 go_enter Tryz.func6,Tryz.ntmps6
 go_wp2
 go_ret
 exact ⟨w.heap.size,rfl,erow_of (t:=38) (by exact heap_alloc_new _ _),(Below.refl _ _).alloc (Nat.le_refl _) _⟩
end Go.Proofs.YtehfpjcclknipaaGreatDoor.T
