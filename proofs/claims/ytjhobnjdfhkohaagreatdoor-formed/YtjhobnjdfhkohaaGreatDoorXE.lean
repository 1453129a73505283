import Derived.Test.YtjhobnjdfhkohaaGreatDoorXD
import Derived.Sort.KeysCollected
set_option linter.all false
set_option maxHeartbeats 2000000
set_option maxRecDepth 100000
namespace Go.Proofs.YtjhobnjdfhkohaaGreatDoor.T
open Go.Proofs.Tryz
open Go.RowKit Go.Maps
theorem tF{es:List aj}{ns:List Nd}{k:Nat}(h:ac ns=es.take k)(hk:k<=es.length):ns.length=k:=by have:=congrArg List.length h;simp[ac]at this;omega
theorem C3{es:List aj}{k:Nat}(h:∀j,j<k->fE es j=true)(_:k<=es.length):cX (es.take k) k:=by
 intro i hi;have e1:(es.take k)[i]?=es[i]?:=by rw[List.getElem?_take,if_pos hi]
 have e2:(es.take k)[i-1]?=es[i-1]?:=by rw[List.getElem?_take,if_pos (by omega)]
 have e3:(es.take k).take i=es.take i:=by rw[List.take_take,Nat.min_eq_left (by omega)]
 have:=Hv (h i hi);unfold Ma at this⊢;rw[e1,e2,e3];exact this
def NL(w:World)(B:Nat)(es:List aj)(v:Value)(er:Value):Prop:=
 (∃(r:Nd) (ns:List Nd),v=.pointer (some ⟨r.nb,0,none⟩)/\er=.nilIface/\ac ns=es/\cw w B r ns/\cG es (-1))\/
 (∃(i q:Nat),v=.pointer none/\er=.iface 64 (.pointer (some ⟨q,0,none⟩))/\w.cell? ⟨q,0,none⟩=some (.int .i64 2)/\w.cell? ⟨q,1,none⟩=some (.int .i64 (i:Int))/\cG es i)
theorem wT{l:LU}(h:l≠[]):prt l≠[]:=by rw[prt_ne h];exact mp l
theorem JA{x:List LU}(h:x≠[]):iH [] x=true:=by
 cases x with
 |nil=>exact absurd rfl h
 |cons a b=>rfl
theorem Fg{es:List aj}{k:Nat}{ns:List Nd}{e:aj}{A:BA}{r:Nd}(hK:∀j,j<k->fE es j=true)(hk:k<=es.length)(hE:ac ns=es.take k)(he:bK e=true)(hA:(k=0/\A.data.toList=[])\/∃d,es[k-1]?=some d/\0<k/\A.data.toList=d.path.data.toList)(hL:iH (prt A.data.toList) (prt e.path.data.toList)=true)(hr:r.ent=de):gy r ns e:=by
 have hl:=tF hE hk;have hok:=C3 hK hk;refine⟨by rw[hE,hl];exact hok,he,λx hx=>?_,hr⟩;obtain⟨j,hj,_,hje⟩:=gh hx;rw[hl]at hj;rw[hE]at hje;rcases hA with⟨rfl,_⟩|⟨d,h1,h2,h3⟩
 .omega
 rw[h3]at hL;by_cases hjk:j=k-1
 .subst hjk;rw[List.getElem?_take,if_pos (by omega),h1]at hje;cases hje;exact hL
 have h1':(es.take k)[k-1]?=some d:=by rw[List.getElem?_take,if_pos (by omega),h1]
 exact lK (pg hok (k-1) j x.ent d (by omega) (by omega) hje h1') hL
theorem qc(w:World): Cl 69 #[] w λev w'=>∃nb mb:Nat,ev=.returned (.pointer (some ⟨nb,0,none⟩))/\w.heap.size<=nb/\w.heap.size<=mb/\Hid (w'.heap[nb]?=some (.cells (Nd.cells ⟨de,nb,mb⟩) 172 (0,0))/\KM w' mb 0 [])/\Bw w w':=by
 have h:=eX de w;go_enter func69,ntmps69;go_wp2_with (go_at_call 94;refine h.mono ?_;clear h;rintro ev w1⟨rb,rm,rfl,hnb,hmb,HN1,hb1⟩)
 go_ret;exact⟨rb,rm,rfl,hnb,hmb,HN1,hb1⟩
theorem A5(ao:OA)(cap n:Nat)(es:List aj)(m:Int)(w:World)(hr:fB w ao es)(HN:Hid (n=es.length))(hn:n<=4294967280)(HS:Hid (ix es))(hm:w.cell? ⟨1,0,none⟩=some (.int .i64 m)): Cl 43 #[.slice ao n cap] w λev w'=>∃v er,ev=.returned (.tuple #[v,er])/\Hid (NL w' w.heap.size es v er)/\Bw w w':=by
 have hm2:1<w.heap.size:=World.block_lt_of_cell? _ _ hm;have HM:=ab hm;clear hm;go_enter func43,ntmps43;go_upto_region 2 with(go_at_call 69;refine(qc _).mono ?_;rintro ev w1⟨rb,rm,rfl,hnb,hmb,HN1,hb1⟩)
 have c0:w1.cell? ⟨rb,0,none⟩=some (.string de.path):=cell_of_row w1 rb 0 _ _ _ (uh HN1).1;have HMem:Hid (cw w1 w.heap.size ⟨de,rb,rm⟩ []):=ab ⟨rfl,λx hx=>by rw[List.mem_singleton]at hx;subst hx;exact⟨hnb,hmb,(uh HN1).1,(uh HN1).2⟩,by simp⟩;clear HN1 hnb hmb;go_wp2_with fail;have hm40:Hid (Hid True):=ab (ab trivial);clear hm40;go_loopw [5,16] (λv i wr=>∃(k:Nat) (A:BA) (ns:List Nd),k<=n/\v=.string A/\i=.int .i64 k/\Bw w wr/\Hid (∀j,j<k->fE es j=true)/\Hid (ac ns=es.take k)/\Hid (cw wr w.heap.size ⟨de,rb,rm⟩ ns)/\Hid ((k=0/\A.data.toList=[])\/∃d,es[k-1]?=some d/\0<k/\A.data.toList=d.path.data.toList)/\Hid (A.size<=1048576)) (λ_ i _=>n-(intOf i).toNat);case atStart=>exact⟨0,de.path,[],by omega,rfl,rfl,hb1,ab (by intro j hj;omega),ab (by simp[ac]),HMem,ab (.inl ⟨rfl,rfl⟩),ab (by decide)⟩
 case round=>
  obtain⟨k,A,ns,hk,rfl,rfl,hb,HK,HE,HMm,HAh0,HAz⟩:=hrel;by_cases hlt:k<n
  .obtain⟨e,he⟩:∃e,es[k]?=some e:=⟨es[k]'(by have:=uh HN;omega),gG (by have:=uh HN;omega)⟩
   obtain⟨g,o,rfl,c0,c1,c2,c3⟩:=(hr.below hb) k e he;have i0:(0:Int)<=(k:Int):=by omega
   have i1:(k:Int)<(n:Int):=by omega
   have hsz:=uh HS e (mG he);have hs1:=hsz.1;have HEe:=ab he;have HLen:Hid (k<es.length):=ab (by have:=uh HN;omega);have HO:=ab (I3 he);have HL:Hid (ns.length=k):=ab (tF (uh HE) (by have:=uh HLen;omega));have k40:=GS (uh HK);obtain⟨W0,hW0⟩:=aq (wr.alloc (.cells #[.string e.path,.int .i64 e.kind,.int .i64 e.mode,.string e.data] 39));have hB0w:=dw hW0;have hB0:=hb.trans (hB0w.mono hb.size);have q0:W0.cell? ⟨wr.heap.size,0,none⟩=some (.string e.path):=by rw[hW0];exact cq 0 (hN _ _)
   have q1:W0.cell? ⟨wr.heap.size,1,none⟩=some (.int .i64 e.kind):=by rw[hW0];exact cq 1 (hN _ _)
   have q2:W0.cell? ⟨wr.heap.size,2,none⟩=some (.int .i64 e.mode):=by rw[hW0];exact cq 2 (hN _ _)
   have q3:W0.cell? ⟨wr.heap.size,3,none⟩=some (.string e.data):=by rw[hW0];exact cq 3 (hN _ _)
   have HM0:=ab (cL hB0 (uh HM));have HQ0:Hid (W0.heap[wr.heap.size]?=some (.cells #[.string e.path,.int .i64 e.kind,.int .i64 e.mode,.string e.data] 39 (0,0))):=ab (by rw[hW0];exact hN _ _);clear he hsz;go_upto_region 6 with fail;rw[<-hW0];clear hW0 c0 c1 c2 c3;by_cases k4:40<=(k:Int)
   .have C:Hid (fE es k=false):=ab (by rw[uh HO];have:¬k<40:=(by omega);simp[this]);go_wp2_with fail;go_ret2;refine⟨_,_,rfl,ab (.inr ⟨k,W0.heap.size,rfl,rfl,?_,?_,iN (uh HLen) (uh C) (uh HK)⟩),hB0.alloc hB0.size _⟩
    .exact cq 0 (hN W0 _)
    exact cq 1 (hN W0 _)
   have k5:k<40:=by omega
   have k6:(k:Int)<40:=by omega
   cases hE:bK e
   .have C:Hid (fE es k=false):=ab (by rw[uh HO,hE];simp);go_upto_region 7 with(first|(go_at_call 70;refine(fY e m _ (uh HM0)).mono ?_;rintro ev w2⟨rfl,hb2⟩;have q0:=cL hb2 q0;have q1:=cL hb2 q1;have q2:=cL hb2 q2;have q3:=cL hb2 q3;have hB2:=hB0.trans (Below.mono (B':=w.heap.size) hb2 hB0.size)))
    go_wp2_with fail
    go_ret2;refine⟨_,_,rfl,ab (.inr ⟨k,w2.heap.size,rfl,rfl,?_,?_,iN (uh HLen) (uh C) (uh HK)⟩),hB2.alloc hB2.size _⟩
    .exact cq 0 (hN w2 _)
    exact cq 1 (hN w2 _)
   cases hL:iH (prt A.data.toList) (prt e.path.data.toList)
   .have C:Hid (fE es k=false):=ab (by
     rcases uh HAh0 with⟨_,h2⟩|⟨d,h1,h2,h3⟩
     .rw[h2,prt_nil]at hL;rw[JA (wT (aP hE).1)]at hL;cases hL
     rw[h3]at hL;rw[uh HO,h1];have h0:¬k=0:=by omega
     simp[h0,hL])
    go_upto_region 7 with(first|(go_at_call 70;refine(fY e m _ (uh HM0)).mono ?_;rintro ev w2⟨rfl,hb2⟩;have q0:=cL hb2 q0;have q1:=cL hb2 q1;have q2:=cL hb2 q2;have q3:=cL hb2 q3;have hB2:=hB0.trans (Below.mono (B':=w.heap.size) hb2 hB0.size))|(go_at_call 71;refine(iW A e.path m _ ?_ ?_ ?_).mono ?_;(have:=uh HAz;omega);omega;exact(cL hB2 (uh HM));rintro ev w3⟨rr,rfl,hrr,hb3⟩;have q0:=cL hb3 q0;have q1:=cL hb3 q1;have q2:=cL hb3 q2;have q3:=cL hb3 q3;have hB3:=hB2.trans (Below.mono (B':=w.heap.size) hb3 hB2.size);have hn1:0<=rr:=by (have h0:¬rr<0:=λh=>(by have:=hrr.1 h;rw[hL]at this;cases this));omega))
    go_wp2_with fail
    go_ret2;refine⟨_,_,rfl,ab (.inr ⟨k,w3.heap.size,rfl,rfl,?_,?_,iN (uh HLen) (uh C) (uh HK)⟩),hB3.alloc hB3.size _⟩
    .exact cq 0 (hN w3 _)
    exact cq 1 (hN w3 _)
   have HAh:Hid (Hid (gy ⟨de,rb,rm⟩ ns e)):=ab (ab (Fg (uh HK) (by have:=uh HLen;omega) (uh HE) hE (uh HAh0) hL rfl));have HO2:Hid (fE es k=decide (bd (ac ns) (al e.path.data.toList)=1)):=ab (by
    rw[uh HO,hE,uh HE];rcases uh HAh0 with⟨h1,_⟩|⟨d,h1,h2,h3⟩
    .subst h1;simp
    rw[h3]at hL;rw[h1];simp[k5,hL])
   by_cases hkd:bd (ac ns) (al e.path.data.toList)=1
   .have C:Hid (fE es k=true):=ab (by rw[uh HO2,hkd];rfl);have HKd:=ab hkd;clear hkd;go_upto_region 8 with(first|(go_at_call 70;refine(fY e m _ (uh HM0)).mono ?_;rintro ev w2⟨rfl,hb2⟩;have q0:=cL hb2 q0;have q1:=cL hb2 q1;have q2:=cL hb2 q2;have q3:=cL hb2 q3;have hB2:=hB0.trans (Below.mono (B':=w.heap.size) hb2 hB0.size))|(go_at_call 71;refine(iW A e.path m _ ?_ ?_ ?_).mono ?_;(have:=uh HAz;omega);omega;exact(cL hB2 (uh HM));rintro ev w3⟨rr,rfl,hrr,hb3⟩;have q0:=cL hb3 q0;have q1:=cL hb3 q1;have q2:=cL hb3 q2;have q3:=cL hb3 q3;have hB3:=hB2.trans (Below.mono (B':=w.heap.size) hb3 hB2.size);have hn1:rr<0:=hrr.2 hL;have hn2:¬(0<=rr):=(by omega))|(go_at_call 72;refine(AX _ ns w.heap.size e m _ ((((uh HMm).below hB0w).below hb2).below hb3) (uh HAh) ?_ ?_ ?_ ?_ hm2).mono ?_;(have:=uh HL;omega);exact hB3.size;omega;exact(cL hB3 (uh HM));rintro ev w4⟨bb,rfl,HB1,HB2,HKC,hb4⟩;have hB4:=hB3.trans hb4;have q0:w4.cell? ⟨wr.heap.size,0,none⟩=some (.string e.path):=cell_of_row w4 wr.heap.size 0 _ _ _ (uh HKC _ _ _ _ (au hb3 _ _ _ _ (au hb2 _ _ _ _ (uh HQ0))));have hbt:bb=true:=(by rw[uh HB1,uh HKd];rfl);subst hbt))
    go_wp2_with fail
    go_roundw;case rel=>
     obtain⟨y,hy1,hy2⟩:∃y:Nd,y.ent=e/\cw w4 w.heap.size ⟨de,rb,rm⟩ (ns++[y]):=by
      first
       |exact uh HB2 trivial
       |exact uh HB2
     have R1:∀j,j<k+1->fE es j=true:=λj hj=>by
      rcases Nat.lt_or_ge j k with h|h
      .exact uh HK j h
      have e9:j=k:=by omega
      rw[e9];exact uh C
     have R2:ac (ns++[y])=es.take (k+1):=by rw[List.take_add_one,uh HEe,<-uh HE];simp[ac,hy1]
     have R3:(k+1=0/\e.path.data.toList=[])\/∃d,es[k+1-1]?=some d/\0<k+1/\e.path.data.toList=d.path.data.toList:=.inr ⟨e,by rw[Nat.add_sub_cancel];exact uh HEe,by omega,rfl⟩;first
      |exact⟨k+1,e.path,ns++[y],by omega,rfl,by go_num,hB4,ab R1,ab R2,ab hy2,ab R3,ab hs1⟩
      |((repeat apply Exists.intro);exact⟨⟨k+1,e.path,ns++[y],by omega,rfl,by go_num,hB4,ab R1,ab R2,ab hy2,ab R3,ab hs1⟩,rfl⟩)
    case measure=>simp[intOf];omega
   have C:Hid (fE es k=false):=ab (by rw[uh HO2];exact dF hkd);have HKd:=ab hkd;clear hkd;go_upto_region 7 with(first|(go_at_call 70;refine(fY e m _ (uh HM0)).mono ?_;rintro ev w2⟨rfl,hb2⟩;have q0:=cL hb2 q0;have q1:=cL hb2 q1;have q2:=cL hb2 q2;have q3:=cL hb2 q3;have hB2:=hB0.trans (Below.mono (B':=w.heap.size) hb2 hB0.size))|(go_at_call 71;refine(iW A e.path m _ ?_ ?_ ?_).mono ?_;(have:=uh HAz;omega);omega;exact(cL hB2 (uh HM));rintro ev w3⟨rr,rfl,hrr,hb3⟩;have q0:=cL hb3 q0;have q1:=cL hb3 q1;have q2:=cL hb3 q2;have q3:=cL hb3 q3;have hB3:=hB2.trans (Below.mono (B':=w.heap.size) hb3 hB2.size);have hn1:rr<0:=hrr.2 hL;have hn2:¬(0<=rr):=(by omega))|(go_at_call 72;refine(AX _ ns w.heap.size e m _ ((((uh HMm).below hB0w).below hb2).below hb3) (uh HAh) ?_ ?_ ?_ ?_ hm2).mono ?_;(have:=uh HL;omega);exact hB3.size;omega;exact(cL hB3 (uh HM));rintro ev w4⟨bb,rfl,HB1,HB2,HKC,hb4⟩;have hB4:=hB3.trans hb4;have q0:w4.cell? ⟨wr.heap.size,0,none⟩=some (.string e.path):=cell_of_row w4 wr.heap.size 0 _ _ _ (uh HKC _ _ _ _ (au hb3 _ _ _ _ (au hb2 _ _ _ _ (uh HQ0))));have hbt:bb=false:=(by rw[uh HB1];exact dF (uh HKd));subst hbt))
   go_wp2_with fail
   go_ret2;refine⟨_,_,rfl,ab (.inr ⟨k,w4.heap.size,rfl,rfl,?_,?_,iN (uh HLen) (uh C) (uh HK)⟩),hB4.alloc hB4.size _⟩
   .exact cq 0 (hN w4 _)
   exact cq 1 (hN w4 _)
  have HF:Hid (cG es (-1)):=ab (.inl ⟨rfl,λi hi=>uh HK i (by have:=uh HN;omega)⟩);have HE2:Hid (ac ns=es):=ab (by rw[uh HE,List.take_of_length_le (by have:=uh HN;omega)]);go_wp2_with fail;go_ret2;exact⟨_,_,rfl,ab (.inl ⟨⟨de,rb,rm⟩,ns,rfl,rfl,uh HE2,uh HMm,uh HF⟩),hb⟩
end Go.Proofs.YtjhobnjdfhkohaaGreatDoor.T
namespace Go.Proofs.YtjhobnjdfhkohaaGreatDoor.T
open Go.Proofs.Tryz
open Go.RowKit Go.Maps Go.Sort
def aF(ns:List Nd)(p:LU):List Nd:=ns.filter λx=>al x.p==p
theorem jp(ns:List Nd)(p:LU):aB ns p=(aF ns p).map λx=>(ai x.p,x.nb):=rfl
theorem nZ(ns:List Nd)(p:LU):pI (ac ns) p=(aF ns p).map (·.ent):=by rw[pI,ac,aF,List.filter_map];rfl
theorem bW{ns:List Nd}{p:LU}{x:Nd}(h:x∈aF ns p):x∈ns/\al x.p=p:=by rw[aF,List.mem_filter]at h;exact⟨h.1,by simpa using h.2⟩
theorem EL{ns:List Nd}(h:cX (ac ns) ns.length):ns.Pairwise λx y=>iH (prt x.p) (prt y.p)=true:=by rw[List.pairwise_iff_getElem];intro i j hi hj hij;exact pg h j i ns[i].ent ns[j].ent hij hj (by rw[ac,List.getElem?_map,gG hi];rfl) (by rw[ac,List.getElem?_map,gG hj];rfl)
theorem mh{ns:List Nd}(h:cX (ac ns) ns.length){x:Nd}(hx:x∈ns):prt x.p=prt (al x.p)++[ai x.p]:=by obtain⟨k,hk,_,he⟩:=gh hx;exact nM h hk he
theorem jC{ns:List Nd}(h:cX (ac ns) ns.length)(p:LU):(aF ns p).Pairwise λx y=>Op.bytesLess (ai x.p) (ai y.p)=true:=by refine List.Pairwise.imp_of_mem (fun {x y} hx hy hl=>?_) ((EL h).filter _);have hx':=bW (p:=p) hx;have hy':=bW (p:=p) hy;rw[mh h hx'.1,mh h hy'.1,hx'.2,hy'.2,qU]at hl;exact hl
theorem BE(L:List (LU×Nat)):strKeys (DK L)=L.map (·.1):=by simp[strKeys,DK,strOf,Function.comp_def]
theorem za{ns:List Nd}(h:cX (ac ns) ns.length){p:LU}{ss:List LU}(hp:ss.Perm (strKeys (DK (aB ns p)))):ss.mergeSort (λx y=>decide (x<=y))=(aF ns p).map λx=>ai x.p:=by rw[mergeSort_of_perm hp,BE,jp,List.map_map];refine List.mergeSort_of_pairwise ?_;rw[List.pairwise_map];refine(jC h p).imp (fun {x y} hl=>?_);rw[bytesLess_eq]at hl;simp only[leB,decide_eq_true_eq,Function.comp]at hl⊢;exact List.le_of_lt hl
theorem G2{ns:List Nd}(h:cX (ac ns) ns.length){p:LU}{x y:Nd}(hx:x∈aF ns p)(hy:y∈aF ns p)(e:ai x.p=ai y.p):x=y:=by
 obtain⟨i,hi,rfl⟩:=List.getElem_of_mem hx;obtain⟨j,hj,rfl⟩:=List.getElem_of_mem hy;have ho:=List.pairwise_iff_getElem.1 (jC h p);rcases Nat.lt_trichotomy i j with hl|rfl|hl
 .have:=ho i j hi hj hl;rw[e,jU]at this;cases this
 .rfl
 have:=ho j i hj hi hl;rw[e,jU]at this;cases this
theorem KM.at{w:World}{b n:Nat}{ns:List Nd}{p:LU}(h:KM w b n (aB ns p))(hO:cX (ac ns) ns.length){x:Nd}(hx:x∈aF ns p)(s:BA)(hs:s.size<=1073741824)(e:s.data.toList=ai x.p): (Instr.lookup 170 (.map (some b)) (.string s) false).run prog w=.ok (.pointer (some ⟨x.nb,0,none⟩)) w:=by
 rcases KM.look h s hs false with⟨_,hn⟩|⟨q,hq,hrun⟩
 .exact absurd e.symm (hn (ai x.p,x.nb) (by rw[jp];exact List.mem_map.2 ⟨x,hx,rfl⟩))
 rw[jp]at hq;obtain⟨y,hy,e2⟩:=List.mem_map.1 hq;have e3:ai y.p=s.data.toList:=congrArg Prod.fst e2;have e4:y.nb=q:=congrArg Prod.snd e2;have:y=x:=G2 hO hy hx (by rw[e3,e]);rw[hrun,<-e4,this];rfl
theorem JF{L:List (LU×Nat)}:Maps.size (DK L)=L.length:=by simp[Maps.size,DK]
end Go.Proofs.YtjhobnjdfhkohaaGreatDoor.T
namespace Go.Proofs.YtjhobnjdfhkohaaGreatDoor.T
open Go.Proofs.Tryz
open Go
structure NS{α:Type}(lt:α->α->Bool):Prop where
 irr:∀x,lt x x=false
 trans:∀{x y z},lt x y=true->lt y z=true->lt x z=true
 one:∀{x y},lt x y=false->lt y x=false->x=y
theorem sd{α:Type}{lt:α->α->Bool}(h:NS lt):∀{l m:List α},l.Pairwise (λx y=>lt x y=true)->m.Pairwise (λx y=>lt x y=true)->(∀x,x∈l↔x∈m)->l=m
 |[],[],_,_,_=>rfl
 |[],y::m,_,_,hm=>absurd ((hm y).2 (by simp)) (by simp)
 |x::l,[],_,_,hm=>absurd ((hm x).1 (by simp)) (by simp)
 |x::l,y::m,hl,hm,he=>by
  rw[List.pairwise_cons]at hl hm;have no:∀{a b},lt a b=true->lt b a=true->False:=λh1 h2=>by have:=h.trans h1 h2;rw[h.irr]at this;cases this
  have e:x=y:=by
   have h1:=(he x).1 (by simp);have h2:=(he y).2 (by simp);rw[mC]at h1 h2;rcases h1 with h1|h1
   .exact h1
   rcases h2 with h2|h2
   .exact h2.symm
   exact(no (hm.1 x h1) (hl.1 y h2)).elim
  subst e;refine congrArg (x::·) (sd h hl.2 hm.2 λz=>?_);have hz:=he z;rw[mC,mC]at hz;constructor
  .intro hzl;rcases hz.1 (.inr hzl)with e|e
   .subst e;have:=hl.1 z hzl;rw[h.irr]at this;cases this
   exact e
  intro hzm;rcases hz.2 (.inr hzm)with e|e
  .subst e;have:=hm.1 z hzm;rw[h.irr]at this;cases this
  exact e
end Go.Proofs.YtjhobnjdfhkohaaGreatDoor.T
namespace Go.Proofs.YtjhobnjdfhkohaaGreatDoor.T
open Go.Proofs.Tryz
open Go.RowKit Go.Maps Go.Sort
theorem kG{a b:LU}:Op.bytesLess a b=false->Op.bytesLess b a=false->a=b:=by
 induction a generalizing b with
 |nil=>
  cases b with
  |nil=>intros;rfl
  |cons y b=>intro h;simp[Op.bytesLess]at h
 |cons x a ih=>
  cases b with
  |nil=>intro _ h;simp[Op.bytesLess]at h
  |cons y b=>
   intro h1 h2;simp only[Op.bytesLess,Bool.or_eq_false_iff,decide_eq_false_iff_not,Bool.and_eq_false_iff,beq_eq_false_iff_ne]at h1 h2;have e:x=y:=UInt8.le_antisymm (UInt8.not_lt.1 h2.1) (UInt8.not_lt.1 h1.1);subst e;rcases h1.2 with h|h
   .exact absurd rfl h
   rcases h2.2 with h'|h'
   .exact absurd rfl h'
   rw[ih h h']
theorem DU{x y:List LU}:iH x y=false->iH y x=false->x=y:=by
 induction x generalizing y with
 |nil=>
  cases y with
  |nil=>intros;rfl
  |cons b y=>intro h;simp[iH]at h
 |cons a x ih=>
  cases y with
  |nil=>intro _ h;simp[iH]at h
  |cons b y=>
   intro h1 h2;simp only[iH,Bool.or_eq_false_iff,Bool.and_eq_false_iff,beq_eq_false_iff_ne]at h1 h2;have e:=kG h1.1 h2.1;subst e;rcases h1.2 with h|h
   .exact absurd rfl h
   rcases h2.2 with h'|h'
   .exact absurd rfl h'
   rw[ih h h']
def gP(x y:LU):Bool:=iH (prt x) (prt y)
theorem dr:NS gP:=⟨λ_=>p6 _,λh1 h2=>lK h1 h2,λh1 h2=>gQ (DU h1 h2)⟩
theorem Ae(x u v:List LU){a b:LU}(h:Op.bytesLess a b=true):iH (x++a::u) (x++b::v)=true:=by
 induction x with
 |nil=>simp[iH,h]
 |cons c r ih=>simp[iH,ih]
theorem xE(x u:List LU)(a:LU):iH x (x++a::u)=true:=by
 induction x with
 |nil=>rfl
 |cons c r ih=>simp[iH,ih]
def under(p q:LU):Prop:=∃a u,prt q=prt p++a::u
theorem tB{ns:List Nd}(hO:cX (ac ns) ns.length){p:LU}{y:Nd}(hy:y∈ns):under p y.p↔∃k∈aF ns p,y=k\/under k.p y.p:=by
 constructor
 .rintro⟨a,u,e⟩;obtain⟨kz,hkz,_,hez⟩:=gh hy;obtain⟨qa,ae,hqa,hae,hpa⟩:=rj hO (by simp[ac]) kz y.ent ((prt p).length+1) hkz hez (by omega) (by show _<=(prt y.p).length;rw[e];simp);obtain⟨k,hk,rfl⟩:=FP hae;have e2:prt k.p=prt p++[a]:=by show prt k.ent.path.data.toList=_;rw[hpa];show (prt y.p).take _=_;rw[e,List.take_append,List.take_of_length_le (by omega),show (prt p).length+1-(prt p).length=1 from by omega];rfl
  have hup:=mh hO hk;rw[e2]at hup;have h3:=List.append_inj' hup rfl;refine⟨k,?_,?_⟩
  .rw[aF,List.mem_filter];exact⟨hk,by simpa using(gQ h3.1).symm⟩
  cases u with
  |nil=>left;obtain⟨kk,hkk,h5,hek⟩:=gh hk;obtain⟨ky,hky,h6,hey⟩:=gh hy;have e6:k.p=y.p:=gQ (by rw[e2,e]);have:=kQ hO hkk hky hek hey e6;subst this;rw[h5]at h6;cases h6;rfl
  |cons b u=>exact .inr ⟨b,u,by rw[e,e2];simp⟩
 rintro⟨k,hk,h⟩;have hk':=bW hk;have hup:=mh hO hk'.1;rw[hk'.2]at hup;rcases h with rfl|⟨a,u,e⟩
 .exact⟨ai y.p,[],hup⟩
 exact⟨ai k.p,a::u,by rw[e,hup];simp⟩
def dV(ns:List Nd):Nat->Nd->List Nd
 |0,_=>[]
 |f+1,x=>x::((aF ns x.p).map (dV ns f)).flatten
def j4(p q:LU):Bool:=(prt p).isPrefixOf (prt q)&&decide ((prt p).length<(prt q).length)
theorem fD{p q:LU}:j4 p q=true↔under p q:=by
 rw[j4,bA,List.isPrefixOf_iff_prefix,decide_eq_true_iff];constructor
 .rintro⟨⟨t,e⟩,h⟩;cases t with
  |nil=>rw[List.append_nil]at e;rw[e]at h;omega
  |cons a u=>exact⟨a,u,e.symm⟩
 rintro⟨a,u,e⟩;exact⟨⟨a::u,e.symm⟩,by rw[e];simp⟩
def aJ(ns:List Nd)(p:LU):List Nd:=ns.filter λy=>j4 p y.p
theorem cZ{ns:List Nd}{p:LU}{y:Nd}:y∈aJ ns p↔y∈ns/\under p y.p:=by rw[aJ,List.mem_filter,fD]
theorem Ha{ns:List Nd}(hO:cX (ac ns) ns.length):∀{l m:List Nd},l.Pairwise (λx y=>gP x.p y.p=true)->m.Pairwise (λx y=>gP x.p y.p=true)->(∀x∈l,x∈ns)->(∀x∈m,x∈ns)->(∀x,x∈l↔x∈m)->l=m:=by
 intro l m h1 h2 h3 h4 h5;have e:l.map Nd.p=m.map Nd.p:=sd dr (List.pairwise_map.2 h1) (List.pairwise_map.2 h2) λq=>by simp only[List.mem_map,h5]
 have hl:l.length=m.length:=by simpa using congrArg List.length e
 refine List.ext_getElem hl λi hi hj=>?_;have e2:(l[i]).p=(m[i]).p:=by have:=congrArg (λt:List LU=>t[i]?) e;simpa[hi,hj]using this
 obtain⟨ka,ha,h6,hea⟩:=gh (h3 _ (List.getElem_mem hi))
 obtain⟨kb,hb,h7,heb⟩:=gh (h4 _ (List.getElem_mem hj))
 have:=kQ hO ha hb hea heb e2;subst this;rw[h6]at h7;exact Option.some.inj h7
theorem oQ{ns:List Nd}(hO:cX (ac ns) ns.length)(p:LU):((aF ns p).map λk=>k::aJ ns k.p).flatten=aJ ns p:=by
 have hsub:∀q,∀x∈aJ ns q,x∈ns:=λq x hx=>(cZ.1 hx).1;have hord:∀q,(aJ ns q).Pairwise λx y=>gP x.p y.p=true:=λq=>(EL hO).filter _;refine Ha hO ?_ (hord p) ?_ (hsub p) ?_
 .rw[List.pairwise_flatten];constructor
  .intro l hl;obtain⟨k,hk,rfl⟩:=List.mem_map.1 hl;rw[List.pairwise_cons];refine⟨λy hy=>?_,hord _⟩;obtain⟨_,a,u,e⟩:=cZ.1 hy;show iH _ _=true;rw[e];exact xE _ _ _
  rw[List.pairwise_map];refine List.Pairwise.imp_of_mem (fun {k1 k2} h1 h2 hl=>?_) (jC hO p);intro x hx y hy;have hk1:=bW h1;have hk2:=bW h2;have u1:=mh hO hk1.1;have u2:=mh hO hk2.1;rw[hk1.2]at u1;rw[hk2.2]at u2;have fx:∀{k z:Nd},z∈k::aJ ns k.p->∃u,prt z.p=prt k.p++u:=fun {k z} hz=>by
   rcases mC.1 hz with rfl|hz
   .exact⟨[],by simp⟩
   obtain⟨_,a,u,e⟩:=cZ.1 hz;exact⟨a::u,e⟩
  obtain⟨u,eu⟩:=fx hx;obtain⟨v,ev⟩:=fx hy;show iH _ _=true;rw[eu,ev,u1,u2,aA,aA];exact Ae _ _ _ hl
 .intro x hx;obtain⟨l,hl,hx⟩:=List.mem_flatten.1 hx;obtain⟨k,hk,rfl⟩:=List.mem_map.1 hl;rcases mC.1 hx with rfl|hx
  .exact(bW hk).1
  exact hsub _ x hx
 intro x;constructor
 .intro hx;obtain⟨l,hl,hx⟩:=List.mem_flatten.1 hx;obtain⟨k,hk,rfl⟩:=List.mem_map.1 hl;have hxn:x∈ns:=by
   rcases mC.1 hx with rfl|hx
   .exact(bW hk).1
   exact hsub _ x hx
  refine cZ.2 ⟨hxn,(tB hO hxn).2 ⟨k,hk,?_⟩⟩;rcases mC.1 hx with rfl|hx
  .exact .inl rfl
  exact .inr (cZ.1 hx).2
 intro hx;obtain⟨hxn,hu⟩:=cZ.1 hx;obtain⟨k,hk,h⟩:=(tB hO hxn).1 hu;refine List.mem_flatten.2 ⟨k::aJ ns k.p,List.mem_map.2 ⟨k,hk,rfl⟩,?_⟩;rcases h with rfl|h
 .simp
 exact List.mem_cons_of_mem _ (cZ.2 ⟨hxn,h⟩)
theorem qR{es:List aj}{ns:List Nd}(hE:ac ns=es)(hO:cX es es.length):∀(f:Nat) (x:Nd),Deep es f x.ent->dV ns f x=x::aJ ns x.p
 |0,x,h=>absurd rfl (nV h)
 |f+1,x,h=>by
  have hlen:ns.length=es.length:=by rw[<-hE];simp[ac]
  have hO':cX (ac ns) ns.length:=by rw[hE,hlen];exact hO
  rw[dV,<-oQ hO' x.p];refine congrArg (λt:List (List Nd)=>x::t.flatten) (List.map_congr_left λk hk=>?_);refine qR hE hO f k (nf hO h ?_);rw[<-hE];show k.ent∈pI (ac ns) x.p;rw[nZ];exact List.mem_map.2 ⟨k,hk,rfl⟩
theorem F3{es:List aj}{ns:List Nd}(hE:ac ns=es)(hO:cX es es.length){r:Nd}(hr:r.ent=de):dV ns (es.length+1) r=r::ns:=by
 rw[qR hE hO _ r (by rw[hr];exact lL es)];refine congrArg (r::·) ?_;rw[aJ,List.filter_eq_self];intro y hy;have hr0:r.p=[]:=by rw[Nd.p,hr];rfl
 have h0:y.p≠[]:=by obtain⟨k,hk,_,he⟩:=gh hy;rw[hE]at he;exact(aP (dj he (hO k (by rw[<-hE];simpa[ac]using hk))).ent).1
 have:prt y.p≠[]:=wT h0;obtain⟨a,u,h⟩:∃a u,prt y.p=a::u:=by
  cases h:prt y.p with
  |nil=>exact absurd h this
  |cons a u=>exact⟨a,u,rfl⟩
 have hu:under r.p y.p:=⟨a,u,by rw[h,hr0,prt_nil];rfl⟩
 exact fD.2 hu
end Go.Proofs.YtjhobnjdfhkohaaGreatDoor.T
