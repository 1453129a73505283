import Derived.Test.YtehfpjcclknipaaGreatDoorJPrsZ
import Derived.Test.YtehfpjcclknipaaGreatDoorJTEach
namespace Go.Proofs.YtehfpjcclknipaaGreatDoor.T
open Go.RowKit Go.Maps Go.Sort Go.Shelf
attribute [local go_sem] Oper.semAt_some
theorem inside_x (n:Nat) (hn:1≤n) (Bx B:Nat) (r x:Nd) (ns:List Nd) (w:World) (hx:x∈r :: ns) (hM:Mem w B r ns) (HO:Hid (OkTo (entsN ns) ns.length)) (HS:Hid (∀ y∈ns,y.ent.path.size≤1048576)) (hN:ns.length≤1000)
  (hbx:w.heap[Bx]?=some (.cells #[.pointer (some ⟨x.nb,0,none⟩)] 60 (0,0))) :
  SeqX (blkS r ns) Fence.wide n Tryz.prog 126 #[.pointer (some ⟨Bx,0,none⟩)] (encK (ns:=ns) (p:=x.p)) (kidsX ns x.p).attach w:=by
 intro l J W hW hJ hY h0
 refine (inside_loop (Kx (blkS r ns)) n hn Bx B l r x ns W hx (hM.below hW) HO HS hN ((hW.block _ (Array.getElem?_eq_some_iff.1 hbx).1).trans hbx) (fun g cur V=>It V Bx g x ns cur)
  (fun V g cur _ _ hi=>hi) (fun _ _ _ h=>h) (fun g cur W1 W2 h hk=>⟨hk.keep _ _ h.box (.inl rfl),hk.keep _ _ h.node (.inr (blk_nb hx)),h.map.kx hk (blk_mb hx),hk.keep _ _ h.row (.inl rfl)⟩) J (fun _ _=>False)
  (fun W' hb=>hJ [] W W' h0 (Kp.below hb)) (fun pre y W1 hj hp=>?_)).mono ?_
 ·obtain ⟨fn,tmps,assign,body,hy,hR⟩:=hY pre y W1 hj hp
  exact ⟨fn,tmps,assign,body,hy,hR.mono fun e W' h=>.inl h⟩
 ·rintro e W' ⟨hv,⟨ys,rfl,hj⟩ | ⟨pre,_,hf⟩⟩
  ·exact ⟨hv,hj⟩
  ·exact hf.elim
set_option maxRecDepth 100000 in
set_option maxHeartbeats 2000000 in
theorem each_x (es:List Ent) (B B0:Nat) (r:Nd) (ns:List Nd) (HE:Hid (entsN ns=es)) (HT:Hid (TreeG es)) (l:Nat) (xs:List Nd) (J:List Nd→World→Prop) (hJ:StayX B0 J)
  (hY:∀ m pre y W1,J pre W1→pre++[y] <+: xs→YieldAt Fence.wide m Tryz.prog l #[.pointer (some ⟨y.nb,0,none⟩)] W1 fun e W'=>e=.returned (.bool true)∧J (pre++[y]) W'∧Kx (blkS r ns) W1 W') :
  ∀ (f:Nat) (x:Nd),x∈r :: ns→Hid (Deep es f x.ent)→∀ (pre:List Nd) (W:World),B0≤W.heap.size→Mem W B r ns→J pre W→pre++preX ns f x <+: xs →
   Calls Tryz.prog 99 #[.pointer (some ⟨x.nb,0,none⟩),.func (.yield l) #[] #[]] W fun e W'=>e=.returned (.bool true)∧J (pre++preX ns f x) W'∧Kx (blkS r ns) W W':=by
 intro f
 induction f with
 | zero=>intro x _ HD; exact absurd rfl (deep_pos (uh HD))
 | succ f ih=>
  intro x hx HD pre W hB0 hM hj hp
  rw [preX] at hp ⊢
  have hlen:ns.length≤120:=by have:=(uh HT).len; rw [← uh HE] at this; simpa [entsN] using this
  have HO:Hid (OkTo (entsN ns) ns.length):=hide (by
   have h:=(uh HT).ok
   rw [← uh HE] at h
   simpa [entsN] using h)
  have HS:Hid (∀ y∈ns,y.ent.path.size≤1048576):=hide fun y hy=>((uh HT).small y.ent (by rw [← uh HE]; exact List.mem_map.2 ⟨y,hy,rfl⟩)).1
  have HP:=hide hp
  obtain ⟨W2,hW2⟩:∃ W2,W2=(W.alloc (.cells #[.func (.yield l) #[] #[]] 195)).alloc (.cells #[.bool false] 4):=⟨_,rfl⟩
  have b2:Below W.heap.size W W2:=by rw [hW2]; exact ((Below.refl _ W).alloc (Nat.le_refl _) _).alloc (by simp) _
  have s2:W2.heap.size=W.heap.size+2:=by rw [hW2]; simp
  have y2:W2.heap[W.heap.size]?=some (.cells #[.func (.yield l) #[] #[]] 195 (0,0)):=by rw [hW2]; exact (Below.heap_alloc _ _ _ (by simp)).trans (heap_alloc_new _ _)
  have r2:W2.heap[W.heap.size+1]?=some (.cells #[.bool false] 4 (0,0)):=by
   have:=heap_alloc_new (W.alloc (.cells #[.func (.yield l) #[] #[]] 195)) (.cells #[.bool false] 4)
   rw [World.size_alloc] at this
   rw [hW2]; exact this
  have hj2:J pre W2:=hJ _ _ _ hj (Kp.below b2)
  obtain ⟨fn,tmps,assign,body,hy,hR⟩:=hY 5 pre x W2 hj2 (List.IsPrefix.trans ⟨((kidsX ns x.p).map (preX ns f)).flatten,by simp⟩ hp)
  have c1:W2.cell? ⟨W.heap.size,0,none⟩=some (.func (.yield l) #[] #[]):=cq 0 y2
  have HM:=hide hM
  have HY2:=hide y2
  have HR2:=hide r2
  have hf88:Fence.wide.fn 92:=trivial
  clear hM y2 r2 hp hj hj2
  refine (callsIn_wide (n:=6)).1 ?_
  refine callsIn_of_wp_marks Tryz.func99 rfl trivial ?_ rfl
  simp only [Tryz.ntmps99,List.size_toArray,List.length_cons,List.length_nil,Nat.reduceAdd,Nat.reduceSub,Array.replicate_succ,Array.replicate_zero,List.push_toArray,List.append_toArray,List.nil_append,List.cons_append]
  gi_wp2
  rw [← hW2,hy]
  clear hy hW2
  gi_wp2
  refine hR.mono ?_
  clear hR
  rintro e W3 ⟨rfl,hj3,hc3⟩
  gi_wp2_with (gi_at_call 92; refine (callsIn_wide.2 (inside_any _ _)).mono ?_; rintro e w4 ⟨rfl,rfl⟩)
  have s3:=hc3.size
  have hcW3:Kx (blkS r ns) W W3:=(Kx.below b2).trans hc3
  have hM3:=(uh HM).kx hcW3
  obtain ⟨W4,hW4⟩:∃ W4,W4=W3.alloc (.cells #[.pointer (some ⟨x.nb,0,none⟩)] 60):=⟨_,rfl⟩
  have b4:Below W3.heap.size W3 W4:=by rw [hW4]; exact (Below.refl _ _).alloc (Nat.le_refl _) _
  have s4:W4.heap.size=W3.heap.size+1:=by rw [hW4]; simp
  have x4:W4.heap[W3.heap.size]?=some (.cells #[.pointer (some ⟨x.nb,0,none⟩)] 60 (0,0)):=by rw [hW4]; exact heap_alloc_new _ _
  have hj4:J (pre++x :: ([].map fun k:Kid ns x.p=>preX ns f k.1).flatten) W4:=hJ _ _ _ hj3 (Kp.below b4)
  have hc4:Kx (blkS r ns) W3 W4:=Kx.below b4
  have hcW4:=hcW3.trans hc4
  have hM4:=hM3.kx hc4
  have y4:=(hc3.trans hc4).keep _ _ (uh HY2) (.inl rfl)
  have r4:=(hc3.trans hc4).keep _ _ (uh HR2) (.inl rfl)
  have hSk:∀ k,blkS r ns k→k<W4.heap.size:=by
   rintro k ⟨z,hz,rfl | rfl⟩
   ·exact (Array.getElem?_eq_some_iff.1 (hM4.all z hz).2.2.1).1
   ·exact World.ownsMap.lt (hM4.all z hz).2.2.2
  rw [← hW4]
  clear hj3 hc3 hM3 c1 hW4
  refine range_x (S:=blkS r ns) (α:=Kid ns x.p) rfl (by omega) (gf:=126) (lb:=#[.pointer (some ⟨W3.heap.size,0,none⟩)]) rfl trivial (enters_of Tryz.func126 (by kernel_rfl) rfl)
   (inside_x 5 (by omega) W3.heap.size B r x ns W4 hx hM4 HO HS (by omega) x4) hSk (Below.refl _ _) (fun _=>rfl)
   (fun p V=>J (pre++x :: (p.map fun k=>preX ns f k.1).flatten) V∧Kx (blkS r ns) W4 V)
   (fun s V V' hs hk=>⟨hJ _ _ _ hs.1 (hk.mono (by omega)),hs.2.kp hk (Nat.le_refl _)⟩)
   ⟨hj4,Kx.refl _ _⟩ (fun t k=>((t.setIfInBounds 13 (.string (nm k.1))).setIfInBounds 14 (.pointer (some ⟨k.1.nb,0,none⟩))).setIfInBounds 6 (.pointer (some ⟨k.1.nb,0,none⟩))) ?assign ?body ?done
  case assign=>
   intro l' y V K hK
   unfold encK
   gi_wp2
   simpa using hK
  case body=>
   rintro l' p y V ⟨hjv,hcv⟩ hpp
   have hk:=kidsX_mem y.2
   have hdk:Deep es f y.1.ent:=deep_kid (uh HT).ok (uh HD) (by
    rw [← uh HE]
    show y.1.ent∈kidsE (entsN ns) x.p
    rw [kidsE_eq]
    exact List.mem_map.2 ⟨y.1,y.2,rfl⟩)
   have hpx:pre++x :: (p.map fun k=>preX ns f k.1).flatten++preX ns f y.1 <+: xs:=by
    refine List.IsPrefix.trans ?_ (uh HP)
    obtain ⟨t,ht⟩:=pre_pre (f:=f) hpp
    exact ⟨t,by rw [← ht,flat_pre]; simp⟩
   have sv:=hcv.size
   have HIH:=hide (ih y.1 (List.mem_cons_of_mem _ hk.1) (hide hdk) (pre++x :: (p.map fun k=>preX ns f k.1).flatten) V (by omega) (hM4.kx hcv) hjv hpx)
   have cy:V.cell? ⟨W.heap.size,0,none⟩=some (.func (.yield l) #[] #[]):=cq 0 (hcv.keep _ _ y4 (.inl rfl))
   have hf106:(Fence.wide.inRound l').fn 99:=trivial
   clear ih hpx hpp hdk
   gi_wp2_with (refine ⟨trivial,?_⟩; gi_at_call 99; refine (CallsIn.inRound l' (callsIn_wide.2 (uh HIH))).mono ?_; rintro e V2 ⟨rfl,hj5,hc5⟩)
   refine ⟨hc5,?_,hcv.trans hc5⟩
   rw [flat_pre]
   simpa using hj5
  case done=>
   rintro D V hD ⟨hjv,hcv⟩ hK
   have cr:=hcv.keep _ _ r4 (.inl rfl)
   have sv:=hcv.size
   have c1:V.cell? ⟨W.heap.size+1,0,none⟩=some (.bool false):=cq 0 cr
   have c2:V.frozen? ⟨W.heap.size+1,0,none⟩=false:=by simp [World.frozen?,cr]
   gi_wp2
   have hK2:(V.setCell ⟨W.heap.size+1,0,none⟩ (.bool true)).heap[D]?=some (.deferred (some [])):=(KeepsOthers.setCell V ⟨W.heap.size+1,0,none⟩ (.bool true)).same D _ hK rfl
   have c3:((V.setCell ⟨W.heap.size+1,0,none⟩ (.bool true)).putObj D (.deferred none)).cell? ⟨W.heap.size+1,0,none⟩=some (.bool true):=by
    rw [cell_put _ (by show W.heap.size+1≠D; omega)]
    exact World.cell?_setCell_same' _ _ _ (by rw [c1]; rfl)
   have j1:J (pre++x :: ((kidsX ns x.p).map (preX ns f)).flatten) (V.setCell ⟨W.heap.size+1,0,none⟩ (.bool true)):=by
    rw [← flat_all]
    exact hJ _ _ _ hjv (Kp.set _ (by show B0≤W.heap.size+1; omega) cr rfl)
   have j2:J (pre++x :: ((kidsX ns x.p).map (preX ns f)).flatten) ((V.setCell ⟨W.heap.size+1,0,none⟩ (.bool true)).putObj D (.deferred none)):=
    hJ _ _ _ j1 (Kp.put _ (by omega) hK2 rfl)
   refine ⟨by simp,.inl ⟨_,_,rfl,run_takeDeferred hK2,?_⟩⟩
   refine ⟨.bool true,?_,rfl,j2,((hcW4.trans hcv).kp (Kp.set (B0:=W.heap.size+1) _ (Nat.le_refl _) cr rfl) (by omega)).kp (Kp.put (B0:=W.heap.size) _ (by omega) hK2 rfl) (Nat.le_refl _)⟩
   simp [results,Tryz.results99,go_sem,c3]
set_option maxRecDepth 100000 in
set_option maxHeartbeats 1000000 in
theorem all_x (es:List Ent) (B Bx n:Nat) (r x:Nd) (ns:List Nd) (w:World) (HE:Hid (entsN ns=es)) (HT:Hid (TreeG es)) (hx:x∈r :: ns) (hM:Mem w B r ns) (hbx:w.heap[Bx]?=some (.cells #[.pointer (some ⟨x.nb,0,none⟩)] 60 (0,0))) :
  SeqX (blkS r ns) Fence.wide n Tryz.prog 98 #[.pointer (some ⟨Bx,0,none⟩)] (fun y:Nd=>#[.pointer (some ⟨y.nb,0,none⟩)]) (x :: downX ns x.p) w:=by
 intro l J W hW hJ hY h0
 have c1:W.cell? ⟨Bx,0,none⟩=some (.pointer (some ⟨x.nb,0,none⟩)):=cq 0 ((hW.block _ (Array.getElem?_eq_some_iff.1 hbx).1).trans hbx)
 have hd:Deep es (es.length+1) x.ent:=by
  rcases List.mem_cons.1 hx with rfl | hx
  ·rw [hM.root]; exact deep_root es
  ·obtain ⟨k,hk,_,he⟩:=nd_at hx
   rw [uh HE] at he
   exact ⟨k+1,by simpa using he,by omega⟩
 have hpr:=pre_down (uh HE) (uh HT).ok _ x hd
 have hE:=each_x es B W.heap.size r ns HE HT l (x :: downX ns x.p) J hJ (fun m pre y W1 hj hp=>yield_deep (hY pre y W1 hj hp)) (es.length+1) x hx (hide hd) [] W (Nat.le_refl _) (hM.below hW) h0 (by rw [hpr]; exact List.prefix_refl _)
 rw [hpr] at hE
 have HE2:=hide hE
 have hf106:Fence.wide.fn 99:=trivial
 clear hE hY h0 hM
 refine (callsIn_wide (n:=n)).2 ((callsIn_wide (n:=6)).1 ?_)
 refine callsIn_of_wp Tryz.func98 rfl trivial ?_ rfl
 simp only [Tryz.ntmps98,List.size_toArray,List.length_cons,List.length_nil,Nat.reduceAdd,Nat.reduceSub,Array.replicate_succ,Array.replicate_zero,List.push_toArray,List.append_toArray,List.nil_append,List.cons_append]
 gi_wp2_with (gi_at_call 99; refine (callsIn_wide.2 (uh HE2)).mono ?_; rintro e W2 ⟨rfl,hj2,_⟩)
 go_end0
 exact ⟨⟨_,rfl⟩,hj2⟩
end Go.Proofs.YtehfpjcclknipaaGreatDoor.T
