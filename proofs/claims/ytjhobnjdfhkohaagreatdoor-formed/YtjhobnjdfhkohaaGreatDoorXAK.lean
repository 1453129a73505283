import Derived.Test.YtjhobnjdfhkohaaGreatDoorXAJ
set_option linter.all false
set_option maxHeartbeats 4000000
set_option maxRecDepth 100000
namespace Go.Proofs.YtjhobnjdfhkohaaGreatDoor.T
open Go.Proofs.Tryz
open Go.RowKit Go.Maps Go.Sort Go.Shelf
attribute [local go_sem] Oper.semAt_some
theorem Jz(es:List aj)(B:Nat)(r:Nd)(ns:List Nd)(HE:Hid (ac ns=es))(HT:Hid (jo es)): ∀(f:Nat) (x:Nd),x∈r::ns->Hid (Deep es f x.ent)->∀(W:World),cw W B r ns->Cl 166 #[.pointer (some ⟨x.nb,0,none⟩)] W λe W'=>∃φ:Nd->Nd,e=.returned (.pointer (some ⟨(φ x).nb,0,none⟩))/\vp ns W' W.heap.size φ (x::aJ ns x.p)/\Bw W W':=by
 intro f;induction f with
 |zero=>intro x _ HD;exact absurd rfl (nV (uh HD))
 |succ f ih=>
  intro x hx HD W hM;have hlen:ns.length<=600:=by have:=(uh HT).len;rw[<-uh HE]at this;simpa[ac]using this
  have HO:Hid (cX (ac ns) ns.length):=ab (by have h:=(uh HT).ok;rw[<-uh HE]at h;simpa[ac]using h);have HS:Hid (∀y∈ns,y.ent.path.size<=1048576):=ab λy hy=>((uh HT).small y.ent (by rw[<-uh HE];exact List.mem_map.2 ⟨y,hy,rfl⟩)).1;obtain⟨hx1,hx2,hx3,hx4⟩:=hM.all x hx;have c0:W.cell? ⟨x.nb,0,none⟩=some (.string x.ent.path):=cell_of_row W x.nb 0 _ _ _ hx3;have c1:W.cell? ⟨x.nb,1,none⟩=some (.int .i64 x.ent.kind):=cell_of_row W x.nb 1 _ _ _ hx3;have c2:W.cell? ⟨x.nb,2,none⟩=some (.int .i64 x.ent.mode):=cell_of_row W x.nb 2 _ _ _ hx3;have c3:W.cell? ⟨x.nb,3,none⟩=some (.string x.ent.data):=cell_of_row W x.nb 3 _ _ _ hx3;have HM:=ab hM;have hf88:Fence.wide.fn 131:=trivial;have hf94:Fence.wide.fn 94:=trivial;have hN:=eX x.ent W;clear hM hx1 hx2 hx3 hx4;refine(callsIn_wide (n:=6)).1 ?_;refine callsIn_of_wp_marks func166 rfl trivial ?_ rfl;simp only[ntmps166,pL,mr,nD,Nat.reduceAdd,Nat.reduceSub,Array.replicate_succ,Array.replicate_zero,List.push_toArray,List.append_toArray,List.nil_append,List.cons_append];gi_wp2_with (first|(gi_at_call 94;refine(callsIn_wide.2 hN).mono ?_;rintro e W2⟨nb,mb,rfl,hnb,hmb,HN2,hb2⟩)|(gi_at_call 131;refine(callsIn_wide.2 (mF _ _)).mono ?_;rintro e w4⟨rfl,rfl⟩))
  obtain⟨W4,hW4⟩:=aq ((W2.alloc (Obj.cells #[Value.pointer (some ⟨nb,0,none⟩)] 70)).alloc (Obj.cells #[Value.pointer (some ⟨x.nb,0,none⟩)] 70));have b4:Bw W2 W4:=by rw[hW4];exact(eD).alloc (by simp) _
  have s4:W4.heap.size=W2.heap.size+2:=by rw[hW4];simp
  have k4:W4.heap[W2.heap.size]?=some (.cells #[.pointer (some ⟨nb,0,none⟩)] 70 (0,0)):=by rw[hW4];exact(Below.heap_alloc _ _ _ (by simp)).trans (ft _ _)
  have x4:W4.heap[W2.heap.size+1]?=some (.cells #[.pointer (some ⟨x.nb,0,none⟩)] 70 (0,0)):=by have:=ft (W2.alloc (Obj.cells #[Value.pointer (some ⟨nb,0,none⟩)] 70)) (.cells #[.pointer (some ⟨x.nb,0,none⟩)] 70);rw[World.size_alloc]at this;rw[hW4];exact this
  have bW4:Bw W W4:=hb2.trans (b4.mono hb2.size);have hM4:=(uh HM).below bW4;have hI0:nc ns x W W4 nb mb (λ_=>⟨x.ent,nb,mb⟩) []:=⟨rfl,λk hk=>(by cases hk),.nil,hnb,hmb,(b4.block nb (GP.1 (uh HN2).1).1).trans (uh HN2).1,((uh HN2).2.below b4).fit (Nat.zero_le _),bW4⟩
  have hSk:∀k,eS r ns k->k<W4.heap.size:=by
   rintro k⟨z,hz,rfl|rfl⟩
   .exact(GP.1 (hM4.all z hz).2.2.1).1
   exact World.ownsMap.lt (hM4.all z hz).2.2.2
  have hsW:=hb2.size;rw[<-hW4];clear hW4 hN c0 c1 c2 c3 HN2 b4;refine JO (S:=eS r ns) (α:=zg ns x.p) rfl (by omega) (gf:=157) (lb:=#[.pointer (some ⟨W2.heap.size+1,0,none⟩)]) rfl trivial (enters_of func157 (by kernel_rfl) rfl) (wY 5 (by omega) (W2.heap.size+1) B r x ns W4 hx hM4 HO HS (by omega) x4) hSk (ju _ _) (λ_=>rfl) (λp V=>(∃φ,nc ns x W V nb mb φ p)/\V.heap[W2.heap.size]?=some (.cells #[.pointer (some ⟨nb,0,none⟩)] 70 (0,0))/\Kx (eS r ns) W4 V) (λs V V' hs hk=>⟨hs.1.elim λφ hφ=>⟨φ,hφ.kp hk (by omega)⟩,hk.block _ _ hs.2.1 (.inl (by omega)),hs.2.2.kp hk (bH _)⟩) ⟨⟨_,hI0⟩,k4,Kx.refl _ _⟩ (λt k=>(((t.setIfInBounds 13 (.string (nm k.1))).setIfInBounds 14 (.pointer (some ⟨k.1.nb,0,none⟩))).setIfInBounds 4 (.string (nm k.1))).setIfInBounds 5 (.pointer (some ⟨k.1.nb,0,none⟩))) ?assign ?body ?done;case assign=>intro l' y V K hK;unfold AK;gi_wp2;simpa using hK
  case body=>
   rintro l' p y V⟨⟨φ,hφ⟩,hbx,hcv⟩ hpp;have hk:=bW y.2;have hdk:Deep es f y.1.ent:=nf (uh HT).ok (uh HD) (by rw[<-uh HE];show y.1.ent∈pI (ac ns) x.p;rw[nZ];exact List.mem_map.2 ⟨y.1,y.2,rfl⟩);have hMV:=hM4.kx hcv;have HIH:Hid (∀V',Bw V V'->Cl 166 #[.pointer (some ⟨y.1.nb,0,none⟩)] V' λe W'=>∃ψ:Nd->Nd,e=.returned (.pointer (some ⟨(ψ y.1).nb,0,none⟩))/\vp ns W' V'.heap.size ψ (y.1::aJ ns y.1.p)/\Bw V' W'):=ab (λV' hb=>ih y.1 (List.mem_cons_of_mem _ hk.1) (ab hdk) V' (hMV.below hb));have hpl:p.length+1<=ns.length:=by have h1:=hpp.length_le;have h2:(aF ns x.p).length<=ns.length:=List.length_filter_le _ _;simp only[qJ,mr,nD,List.length_attach]at h1;omega
   have cb:V.cell? ⟨W2.heap.size,0,none⟩=some (.pointer (some ⟨nb,0,none⟩)):=cq 0 hbx;have cm:V.cell? ⟨nb,4,none⟩=some (.map (some mb)):=cq 4 hφ.cell;have hnml:(nm y.1).size<=1048576:=by rw[im];show (ai y.1.p).toArray.toList.length<=_;rw[List.toList_toArray];exact dz (fQ _) (by have:=uh HS y.1 hk.1;rw[im]at this;exact this)
   have HP:Hid (∀(V2 V6:World) (ψ:Nd->Nd),Bw V V2->vp ns V2 V.heap.size ψ (y.1::aJ ns y.1.p)->V2.grownBy V6 (some mb)->V6.ownsMap prog 9 RK mb (ns.length+1) ((DK (p.map λk=>(ai k.1.p,(φ k.1).nb))).put (.string (nm y.1).data.toList) (.lit (.int .i64 ((ψ y.1).nb:Int))))->
    Kx (eS r ns) V V6/\(∃φ,nc ns x W V6 nb mb φ (p++[y]))/\V6.heap[W2.heap.size]?=some (.cells #[.pointer (some ⟨nb,0,none⟩)] 70 (0,0))/\Kx (eS r ns) W4 V6):=ab (λV2 V6 ψ h2 hC hg ho=>by
    have hless:∀q∈(p.map λk=>(ai k.1.p,(φ k.1).nb)),Op.bytesLess q.1 (ai y.1.p)=true:=by intro q hq;obtain⟨k,hkp,rfl⟩:=List.mem_map.1 hq;have ho:=jC (uh HO) x.p;rw[<-List.attach_map_subtype_val (l:=aF ns x.p),List.pairwise_map]at ho;obtain⟨t,ht⟩:=hpp;rw[<-ht,yL,List.pairwise_append]at ho;exact ho.2.2 k hkp y (by simp)
    have hnn:(nm y.1).data.toList=ai y.1.p:=List.toList_toArray;rw[hnn,EI hless]at ho;have hm:KM V6 mb ns.length ((p.map λk=>(ai k.1.p,(φ k.1).nb))++[(ai y.1.p,(ψ y.1).nb)]):=KM.fit (n:=ns.length+1) ho (by simp;omega);have hmbV:V.heap[W2.heap.size]?=some (.cells #[.pointer (some ⟨nb,0,none⟩)] 70 (0,0)):=hbx;obtain⟨me,mc,hmo,_⟩:=(hφ.later h2).map;have hkx:Kx (eS r ns) V V6:=⟨dz h2.size hg.size,λk o hko hc=>by
     have e2:=(h2.block k (bY hko)).trans hko;refine(hg.block k (bY e2) (λe=>?_)).trans e2;injection e with e;subst e;rw[hmo]at e2;cases e2;rcases hc with hc|hc
     .cases hc
     obtain⟨z,hz,hh⟩:=hc;have hz4:=(uh HM).all z hz;have l1:=(bY hz4.2.2.1)
     have l2:=World.ownsMap.lt hz4.2.2.2;rcases hh with hh|hh<;>omega⟩
    exact⟨hkx,⟨_,hφ.step (uh HO) hpp h2 hC hg hm⟩,hkx.keep _ _ hmbV (.inl rfl),hcv.trans hkx⟩)
   have HF:=ab hφ;have HBX:=ab hbx;have HCV:=ab hcv;have HPP:=ab hpp;have hf166:(Fence.wide.inRound l').fn 166:=trivial;clear ih hφ hbx hcv hpp hdk hMV;gi_upto_region 5 with fail;gi_region_with (first|(refine⟨trivial,?_⟩;gi_at_call 166;refine(CallsIn.inRound l' (callsIn_wide.2 (uh HIH _ (by exact cU _)))).mono ?_;rintro e V2⟨ψ,rfl,hC2,hbb⟩;have hb2':Bw V V2:=am hbb;have cb2:=aM hb2' cb;have cm2:=aM hb2' cm;have HI2:=ab ((uh HF).later hb2');have hC2':vp ns V2 V.heap.size ψ (y.1::aJ ns y.1.p):=hC2;have HC2:=ab hC2';have HB2:=ab hb2';obtain⟨V6,hrun6,hown6,hg6⟩:=World.ownsMap.update (uh HI2).map (Maps.string_keyed underlying9) underlying170 (by unfold maxLen;omega) (WideMaps.keyOf_string_mk underlying9 (s:=nm y.1) (by unfold maxLen;omega)) (show RK (.pointer (some ⟨(ψ y.1).nb,0,none⟩))=some (.lit (.int .i64 ((ψ y.1).nb:Int)),[]) from rfl);clear hC2 hC2' hb2' hbb))
   all_goals exact uh HP V2 V6 ψ (uh HB2) (uh HC2) hg6 hown6
  case done=>
   rintro D V hD⟨⟨φ,hφ⟩,hbx,hcv⟩ hK;have c1:V.cell? ⟨W2.heap.size,0,none⟩=some (.pointer (some ⟨nb,0,none⟩)):=cq 0 hbx;have hall:=hφ.done (uh HO);have hhd:(φ x).nb=nb:=by rw[hφ.head]
   have hB:=hφ.below;gi_wp2;have c3:(V.putObj D (.deferred none)).cell? ⟨W2.heap.size,0,none⟩=some (.pointer (some ⟨nb,0,none⟩)):=by rw[ik _ (by show W2.heap.size≠D;omega)];exact c1
   have hkp:Kp W.heap.size V (V.putObj D (.deferred none)):=Kp.put _ (by omega) hK rfl;refine⟨by simp,.inl ⟨_,_,rfl,run_takeDeferred hK,?_⟩⟩;refine⟨.pointer (some ⟨nb,0,none⟩),?_,φ,by rw[hhd],hall.kp hkp,G9 hB hkp (bH _)⟩;simp[results,results166,go_sem]
end Go.Proofs.YtjhobnjdfhkohaaGreatDoor.T
