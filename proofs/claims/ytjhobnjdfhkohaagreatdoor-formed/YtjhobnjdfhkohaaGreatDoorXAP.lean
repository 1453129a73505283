import Derived.Test.YtjhobnjdfhkohaaGreatDoorXAO
set_option linter.all false
set_option maxHeartbeats 8000000
set_option maxRecDepth 10000
namespace Go.Proofs.YtjhobnjdfhkohaaGreatDoor
open Go.Proofs.Tryz
open Go.RowKit Go.Maps
structure Jq(st:List aU)(bs:List Bool)(j:Nat):Prop where
 snd:M6 st bs
 behind:∀i k,j<=i->bs[i]?=some true->ja st i k=true->bs[k]?=some true
structure B3(st:List aU)(bs:List Bool)(i:Nat)(ins:List ki)(k:Nat):Prop where
 s6:Jq st bs (i+1)
 here:∀(q:Nat) (x:ki) (n:Nat),q<k->ins[q]?=some x->bs[i]?=some true->x.stage=(n:Int)->bs[n]?=some true
theorem Jq.start{st:List aU}{bs:List Bool}{n:Nat}(h:M6 st bs)(hl:bs.length<=n):Jq st bs n:=⟨h,λi k hi h1=>by have:=(gL h1);omega⟩
theorem Jq.done{st:List aU}{bs:List Bool}(h:Jq st bs 0):NN st bs:=λi k=>h.behind i k (Nat.zero_le _)
theorem B3.start{st:List aU}{bs:List Bool}{i:Nat}{ins:List ki}(h:Jq st bs (i+1)):B3 st bs i ins 0:=⟨h,λq x n hq=>by omega⟩
theorem B3.skip{st:List aU}{bs:List Bool}{i k:Nat}{ins:List ki}{x:ki}(h:B3 st bs i ins k)(hx:ins[k]?=some x)(hs:bs[i]?=some true->x.stage=-1):B3 st bs i ins (k+1):= ⟨h.s6,λq y n hq hy h1 h2=>by
 by_cases hqk:q=k
 .subst hqk;rw[hx]at hy;cases hy;have:=hs h1;omega
 exact h.here q y n (by omega) hy h1 h2⟩
theorem B3.mark{st:List aU}{bs:List Bool}{i k n:Nat}{s:aU}{x:ki}(h:B3 st bs i s.ins k)(hs:st[i]?=some s)(hx:s.ins[k]?=some x)(h1:bs[i]?=some true)(he:x.stage=(n:Int))(hn:n<i):B3 st (bs.set n true) i s.ins (k+1):=by
 have hi:=(gL h1)
 have hne:∀j,i<=j->(bs.set n true)[j]?=bs[j]?:=λj hj=>List.getElem?_set_ne (by omega);refine⟨⟨⟨λj hj=>?_,rq h.s6.snd.2⟩,λj q hj h2 h3=>?_⟩,λq y m hq hy h2 h3=>?_⟩
 .rcases yE hj with rfl|hj
  .exact .more (h.s6.snd.1 _ h1) (yj hs (mG hx) he)
  exact h.s6.snd.1 _ hj
 .rw[hne j (by omega)]at h2;exact rq (h.s6.behind j q hj h2 h3)
 by_cases hqk:q=k
 .subst hqk;rw[hx]at hy;cases hy;have:n=m:=by omega
  subst this;exact wP (by omega)
 exact rq (h.here q y m (by omega) hy h1 h3)
theorem B3.next{st:List aU}{bs:List Bool}{i k:Nat}{s:aU}(h:B3 st bs i s.ins k)(hs:st[i]?=some s)(hk:s.ins.length<=k):Jq st bs i:= ⟨h.s6.snd,λj q hj h1 h2=>by
 by_cases hji:j=i
 .subst hji;obtain⟨t,x,ht,hx,he⟩:=tL h2;rw[hs]at ht;cases ht;obtain⟨p,hp⟩:=List.getElem?_of_mem hx;exact h.here p x q (by have:=(gL hp);omega) hp h1 he
 exact h.s6.behind j q (by omega) h1 h2⟩
theorem zT(B fb:Nat)(sv:Value)(ss:List ax)(w:World)(h:aQ w B fb sv ss)(hF:uO (ss.map ax.stg))(hne:ss.map ax.stg≠[]): Cl 44 #[.pointer (some ⟨fb,0,none⟩)] w λe w'=>uu (ss.map ax.stg) w.heap.size w' e/\Bw w w':=by
 have h0:0<ss.length:=by have:=List.length_pos_iff.2 hne;rwa [List.length_map]at this
 obtain⟨g0,cap,hv,_,_⟩:=iG h.row h0;subst hv;obtain⟨i4,hi4,hz4,hs4,hb4⟩:=info_parts M8;obtain⟨i3,hi3,hz3,hs3,hb3⟩:=info_parts M4;obtain⟨m,hm⟩:∃m,ss.length=m+1:=⟨ss.length-1,by omega⟩
 obtain⟨st,hst⟩:=aq (ss.map ax.stg);have hl5:=h.short;have hm5:m<=4:=by omega
 have hml:st.length=m+1:=by rw[hst,List.length_map,hm]
 rw[<-hst]at hF hne⊢;have HS0:Hid (M6 st ((List.replicate (m+1) false).set m true)):=ab (by have:=DL hne;rw[hml]at this;exact this);have c0:=h.c0;rw[hm]at c0;have HM:=ab hm;have HML:=ab hml;have HS:=ab hst;have HFM:=ab h;have HF:=ab hF;have HC0:Hid (∀wr,Bw w wr->wr.cell? ⟨fb,0,none⟩=some (.slice (some ⟨g0,0,none⟩) (m+1) cap)):=ab (λwr hb=>cL hb c0);have hfb:=h.lt;have i1:IntKind.i64.wrap (((m+1:Nat):Int)-1)=(m:Int):=by rw[show (((m+1:Nat):Int)-1)=((m:Nat):Int) by omega];exact wrap_i64 m (by omega)
 clear h hF hne h0 hm hml hst hl5;go_enter func44,ntmps44;go_upto_region 2 with(at_make;refine wpList_make_full _ rfl _ _ 175 rfl w.heap.size 4 i4 (.bool false) 1 underlying175 hi4 hz4 hs4 _ _ _ _ (m+1) rfl rfl rfl rfl (by rw[hb4];omega) (by unfold maxLen;omega) (nR _) ?_;intro w1 hrow1 hgrow1;have HK1:=ab (Mk.ofMade hrow1 hgrow1);clear hrow1 hgrow1 c0)
 have c1:=uh HC0 w1 (uh HK1).below;have q1:w1.cell? ⟨w.heap.size,m,none⟩=some (.bool false):=(uh HK1).get (by rw[List.getElem?_replicate];simp);have f1:=(uh HK1).frz m;obtain⟨W2,hW2⟩:=aq (w1.setCell ⟨w.heap.size,m,none⟩ (.bool true));have HK2:Hid (Mk w w.heap.size W2 w.heap.size ((List.replicate (m+1) false).set m true)):=ab (by rw[hW2];exact(uh HK1).set m);go_upto_region 3 with fail;rw[<-hW2];clear hW2 q1 f1 HK1 c1;have c2:=uh HC0 W2 (uh HK2).below;go_wp2_with fail;go_loopw [4] (λiv wr=>∃(j:Nat) (bs:List Bool),j<=m+1/\iv=.int .i64 ((j:Int)-1)/\Mk w w.heap.size wr w.heap.size bs/\bs.length=m+1/\Jq st bs j) (λiv _=>(intOf iv+1).toNat);case atStart=>exact⟨m+1,_,nR _,by first|rfl|(congr 1;omega),uh HK2,by simp,.start (uh HS0) (by simp)⟩
 case round=>
  clear c2 HK2 HS0;obtain⟨j,bs,hj,rfl,hk,hlb,h6⟩:=hrel;cases j with
  |zero=>
   have HMA:Hid (fp st bs):=ab (fp.clo (by rw[hlb,uh HML]) h6.snd h6.done);have HK0:=ab hk;have HL0:=ab hlb;have e0:(((0:Nat):Int)-1)=-1:=rfl;rw[e0];clear hk h6 hlb e0;go_wp2_with fail;go_loopw [7,63] (λov iv wr=>∃(k:Nat) (u:Value),k<=m+1/\iv=.int .i64 (k:Int)/\u=ov/\Nq w w.heap.size wr w.heap.size bs u k) (λ_ iv _=>m+1-(intOf iv).toNat);case atStart=>exact⟨0,_,Nat.zero_le _,rfl,rfl,uh HK0,World.ownsRow_nil _ _ _ _⟩
   case round=>
    obtain⟨k,u,hk,rfl,hu,h4⟩:=hrel;subst hu;by_cases hlt:k<m+1
    .obtain⟨b,hb⟩:=oP (uh HL0) hlt;have qk:=h4.mks.get hb;have n0:=World.new_ne _ ⟨w.heap.size,k,none⟩ qk;have H4:=ab h4;obtain⟨ao,n',c',hov⟩:=ar h4.row;subst hov;have hlk:=yP bs k;have hsz:=h4.mks.below.size;cases b with
     |false=>
      have H5:Hid (Nq w w.heap.size wr w.heap.size bs (.slice ao n' c') (k+1)):=ab ⟨h4.mks,by rw[CT (by rw[hb];simp)];exact h4.row⟩;clear h4 hb;go_wp2_with fail;go_roundw;case rel=>exact⟨k+1,_,hlt,by go_num,rfl,uh H5⟩
      case measure=>simp[intOf];omega
     |true=>
      have HB:=ab hb;obtain⟨xs,hxs⟩:=aq (fq bs k);have HXS:=ab hxs;have HRow:Hid (LH wr w.heap.size (.slice ao n' c') xs):=ab (by rw[hxs];exact h4.row);rw[<-hxs]at hlk;clear h4 hb hxs;go_wp2_with (at_builtin;refine wpList_append_own _ rfl _ _ 127 rfl w.heap.size 3 i3 _ 1 8 underlying127 hi3 hz3 hs3 hb3 rfl (by decide) (.slice ao n' c') xs.length _ rfl (ap (uh HRow) (λq hq=>Below.heap_alloc _ _ q (World.ownsRow.lt (uh HRow) q hq).2)) ⟨wr.heap.size,0,none⟩ 1 1 [.int .i64 (k:Int)] rfl rfl (World.news_of_block (cs:=#[.int .i64 (k:Int)]) (t:=3) (fr:=(0,0)) (hN _ _)) (by intro u hu;simp only[mC,List.not_mem_nil,or_false]at hu;rcases hu with rfl;rfl) (by unfold maxLen;omega) (by omega) (by simp;omega) ?_;intro v6 w6 hown6 hgrow6 _;have HO:=ab hown6;have HG:=ab hgrow6;clear hown6 hgrow6)
      go_roundw;case rel=>
       refine⟨k+1,_,hlt,by go_num,rfl,?_,?_⟩
       .exact((uh H4).mks.later (eD)).grown (uh HG) (uh H4).apart (λq hq=>(World.ownsRow.lt (uh H4).row q hq).1)
       rw[Ei (uh HB),<-uh HXS];have:=uh HO;show World.ownsRow _ _ _ _ _ _ _;simp only[lA,lC,lN,List.map_append,List.map_cons,List.map_nil];exact this
      case measure=>simp[intOf];omega
    have hkm:k=m+1:=by omega
    have H5:Hid (uu st w.heap.size wr (.returned u)/\Bw w wr):=ab ⟨⟨u,bs,uh HMA,rfl,by rw[uh HML,<-hkm];exact h4.row⟩,h4.mks.below⟩;obtain⟨ao,n',c',hov⟩:=ar h4.row;subst hov;clear h4 hkm;go_wp2_with fail;go_ret;exact uh H5
  |succ i=>
   have e0:(((i+1:Nat):Int)-1)=(i:Int):=by omega
   rw[e0];clear e0;obtain⟨s,hs⟩:∃s,ss[i]?=some s:=⟨_,gG (by rw[uh HM];omega)⟩
   have hFr:=(uh HFM).below hk.below;have hok:=hFr.all s (mG hs);obtain⟨q0,q1⟩:=rJ hFr.row i s hs;obtain⟨ao,nI,cI,hiv,hnI⟩:=lQ hok;rw[hiv]at q1;have c3:=hFr.c0;rw[uh HM]at c3;have hsI:=hok.short;rw[<-hnI]at hsI;have HSI:=ab hs;have HST:Hid (st[i]?=some s.stg):=ab (by rw[uh HS,List.getElem?_map,hs];rfl);have HIV:=ab hiv;have HNI:=ab hnI;have HK:=ab hk;have HLB:=ab hlb;have H6:=ab h6;have hi1:i<m+1:=by omega
   have hlo:(0:Int)<=(i:Int):=by omega
   clear hs hFr hok hiv hnI hk hlb h6 q0;go_wp2_with fail;go_loopw [43] (λkv wr=>∃(k:Nat) (bs:List Bool),k<=nI/\kv=.int .i64 (k:Int)/\Mk w w.heap.size wr w.heap.size bs/\bs.length=m+1/\B3 st bs i s.stg.ins k) (λkv _=>nI-(intOf kv).toNat);case atStart=>exact⟨0,bs,Nat.zero_le _,rfl,uh HK,uh HLB,.start (uh H6)⟩
   case round=>
    clear HK HLB H6 q1 c3;obtain⟨k,bs3,hkn,rfl,hk3,hl3,h5⟩:=hrel;by_cases hlt:k<nI
    .obtain⟨x,hx⟩:∃x,s.ins[k]?=some x:=⟨_,gG (by rw[<-uh HNI];exact hlt)⟩
     have hFr:=(uh HFM).below hk3.below;have hok:=hFr.all s (mG (uh HSI));obtain⟨gI,cI2,hvI,_,_⟩:=iG hok.row (by rw[<-uh HNI];omega);have hrow:=hok.row;have hv2:=uh HIV;rw[hvI]at hv2 hrow;injection hv2 with e1 _ e3;subst e1 e3;obtain⟨d0,d1,d2,d3,d4,d5⟩:=Bu hrow k x hx;obtain⟨b,hb⟩:=oP hl3 hi1;have hxf:=uh HF i s.stg (uh HST) x.ins (List.mem_map.2 ⟨x,mG hx,rfl⟩);obtain⟨g2,cap2,hwv⟩:∃g2 n2 cap2,x.wv=.slice g2 n2 cap2:=ar (hok.all x (mG hx)).ws.row;obtain⟨c2,hwv⟩:=hwv;rw[hwv]at d0;obtain⟨W4,hW4⟩:=aq (wr.alloc (.cells #[.slice g2 cap2 c2,.int .i64 x.stage,.int .i64 (af x.rule).1,.int .i64 (af x.rule).2.1,aN (af x.rule).2.2.1,aN (af x.rule).2.2.2] 86));have hc4:=em hW4;have r1:=cq 1 hc4;have hk4:Mk w w.heap.size W4 w.heap.size bs3:=by rw[hW4];exact hk3.later (eD)
     have qi:=hk4.get hb;have n0:=World.new_ne wr ⟨gI,k*6,none⟩ d0;have hx2:s.stg.ins[k]?=some x.ins:=by show (s.ins.map cA.ins)[k]?=_;rw[List.getElem?_map,hx];rfl
     have HX:=ab hx2;have HK4:=ab hk4;have HL3:=ab hl3;have H5:=ab h5;have HB:=ab hb;have hxs:x.ins.stage=x.stage:=rfl;rw[hxs]at hxf;have HXS:=ab hxs;obtain⟨sg,hsg⟩:=aq x.stage;have HSG:=ab hsg;rw[<-hsg]at hxf r1 d1 hW4;clear hx hFr hok hvI hrow hk3 hl3 h5 hb hc4 hk4 hx2 hwv hxs hsg;go_upto_region 9 with fail;rw[<-hW4];clear hW4 d0 d1 d2 d3 d4 d5 n0;cases b with
     |false=>
      have H55:Hid (B3 st bs3 i s.stg.ins (k+1)):=ab ((uh H5).skip (uh HX) (λe=>by rw[uh HB]at e;cases e));go_wp2_with fail;go_roundw;case rel=>exact⟨k+1,bs3,hlt,by go_num,uh HK4,uh HL3,uh H55⟩
      case measure=>simp[intOf];omega
     |true=>
      by_cases hsm:sg=-1
      .have H55:Hid (B3 st bs3 i s.stg.ins (k+1)):=ab ((uh H5).skip (uh HX) (λ_=>by rw[uh HXS,<-uh HSG,hsm]));subst hsm;go_wp2_with fail;go_roundw;case rel=>exact⟨k+1,bs3,hlt,by go_num,uh HK4,uh HL3,uh H55⟩
       case measure=>simp[intOf];omega
      obtain⟨n,hn⟩:∃n:Nat,sg=(n:Int):=⟨sg.toNat,by omega⟩
      subst hn;have hni:n<i:=by omega
      have H55:Hid (B3 st (bs3.set n true) i s.stg.ins (k+1)):=ab ((uh H5).mark (uh HST) (uh HX) (uh HB) (by rw[uh HXS,<-uh HSG]) hni);obtain⟨bn,hbn⟩:=oP (uh HL3) (show n<m+1 by omega);have qn:=(uh HK4).get hbn;have fn:=(uh HK4).frz n;have g1:(((n:Nat):Int) != -1)=true:=by simp
      have hnm:n<m+1:=by omega
      clear hxf hbn hsm;go_wp2_with fail;go_roundw;case rel=>exact⟨k+1,bs3.set n true,hlt,by go_num,(uh HK4).set n,by rw[List.length_set];exact uh HL3,uh H55⟩
      case measure=>simp[intOf];omega
    have H66:Hid (Jq st bs3 i):=ab (h5.next (uh HST) (by show (s.ins.map cA.ins).length<=k;rw[List.length_map,<-uh HNI];omega));have HK3:=ab hk3;have HL3:=ab hl3;clear hk3 hl3 h5;go_wp2_with fail;go_roundw;case rel=>exact⟨i,bs3,by omega,by first|rfl|go_num,uh HK3,uh HL3,uh H66⟩
    case measure=>simp[intOf]
end Go.Proofs.YtjhobnjdfhkohaaGreatDoor
namespace Go.Proofs.YtjhobnjdfhkohaaGreatDoor.T
open Go.Proofs.Tryz
open Go.RowKit Go.Maps
theorem mt.le{W:World}{B B2 sb2 c c':Nat}{s:SN}(h:mt W B B2 sb2 s c)(hc:c<=c'):mt W B B2 sb2 s c':=by obtain⟨r,ns,work,ev,es,h1,h2,h3,h4,h5,h6,h7,h8,h9,h10,h11⟩:=h;exact⟨r,ns,work,ev,es,h1,h2,h3,h4,h5,h6,h7,h8,h9,dz h10 hc,h11⟩
theorem zf.le{W:World}{B mb g N c c':Nat}{cp:OA}{cx:List aj}{sts:List (Option SN)}(h:zf W B mb g N cp cx sts c)(hc:c<=c'):zf W B mb g N cp cx sts c':=by obtain⟨cs,h1,h2,h3⟩:=h.row;refine⟨h.mkr,h.mbB,h.gB,h.len,⟨cs,h1,h2,λi s hs=>?_⟩,h.ctx⟩;obtain⟨B2,sb2,k1,k2,k3⟩:=h3 i s hs;exact⟨B2,sb2,k1,k2.le hc,k3⟩
theorem kj.up{W:World}{B B':Nat}{sp:OA}{src:List aj}(h:kj W B sp src)(hB:B<=B'):kj W B' sp src:=by obtain⟨Bs,rs,nss,h1,h2,h3,h4,h5,h6⟩:=h;exact⟨Bs,rs,nss,h1,h2,h3,h4,h5,λx hx=>⟨by have:=(h6 x hx).1;omega,by have:=(h6 x hx).2;omega⟩⟩
theorem zf.put{W:World}{B mb g N c i:Nat}{cp:OA}{cx:List aj}{sts:List (Option SN)}{v:Value}(h:zf W B mb g N cp cx sts c)(hi:∀s,sts[i]?≠some (some s)):zf (W.setCell ⟨g,i,none⟩ v) B mb g N cp cx sts c/\(i<N->∃cs:Array Value,(W.setCell ⟨g,i,none⟩ v).heap[g]?=some (.cells cs 73 (0,0))/\cs[i]?=some v):=by
 obtain⟨cs,h1,h2,h3⟩:=h.row;have ho:∀k,k≠g->(W.setCell ⟨g,i,none⟩ v).heap[k]?=W.heap[k]?:=λk hk=>heap_setCell_other _ _ _ _ hk;have hg:=oX W g i _ _ v h1;have ng:∀{k:Nat}{cs':Array Value}{t:Nat},W.heap[k]?=some (.cells cs' t (0,0))->t≠73->k≠g:=λhk ht e=>by subst e;rw[h1]at hk;injection hk with hk;injection hk with _ hk _;exact ht hk.symm
 have nm:∀{k:Nat}{es:_}{cl:_},W.heap[k]?=some (.map es cl)->k≠g:=λhk e=>by subst e;rw[h1]at hk;cases hk
 have hmem:∀{B':Nat}{r:Nd}{ns:List Nd},cw W B' r ns->cw (W.setCell ⟨g,i,none⟩ v) B' r ns:=λhM=>ob hM λx hx=>by obtain⟨_,_,k3,es,clock,k4,_⟩:=hM.all x hx;exact⟨ho _ (ng k3 (by decide)),ho _ (nm k4)⟩
 refine⟨⟨(ho _ (ng h.mkr (by decide))).trans h.mkr,h.mbB,h.gB,h.len,⟨_,hg,by simpa using h2,λk s hs=>?_⟩,?_⟩,λhN=>⟨_,hg,?_⟩⟩
 .obtain⟨B2,sb2,k1,k2,k3⟩:=h3 k s hs;have hki:i≠k:=λe=>by subst e;exact hi s hs
  refine⟨B2,sb2,by rw[Array.getElem?_setIfInBounds_ne hki];exact k1,?_,k3⟩;obtain⟨r,ns,work,ev,es,g1,g2,g3,g4,g5,g6,g7,g8,g9,g10,g11,g12,g13,g14⟩:=k2;refine⟨r,ns,work,ev,es,⟨(ho _ (ng g1.cells (by decide))).trans g1.cells,hmem g1.mem,g1.tree,g1.lim,by simpa using g1.base⟩,ap g2 λq hq=>ho q ?_,g3,g4,g5,g6,g7,g8,g9,g10,g11,g12,g13,g14⟩;obtain⟨cur,hc,_⟩:=gH g2 hq;exact ng hc (by decide)
 .obtain⟨Bs,rs,nss,k1,k2,k3⟩:=h.ctx;exact⟨Bs,rs,nss,k1,hmem k2,k3⟩
 rw[Array.getElem?_setIfInBounds_self_of_lt (by omega)]
theorem zf.done{W:World}{B mb g N c sb i:Nat}{cp:OA}{cx:List aj}{sts:List (Option SN)}{s:SN}(h:zf W B mb g N cp cx sts c)(hB:B<=W.heap.size)(hS:sR W B sb s c)(h40:s.t.length<=40)(hc:∃cs:Array Value,W.heap[g]?=some (.cells cs 73 (0,0))/\cs[i]?=some (.pointer (some ⟨sb,0,none⟩))):zf W W.heap.size mb g N cp cx (sts.set i (some s)) c:=by
 obtain⟨cs,h1,h2,h3⟩:=h.row;obtain⟨cs',e1,e2⟩:=hc;rw[h1]at e1;cases e1;refine⟨h.mkr,by have:=h.mbB;omega,by have:=h.gB;omega,by rw[List.length_set];exact h.len,⟨cs,h1,h2,λk s' hs=>?_⟩,h.ctx.up hB⟩;by_cases hk:i=k
 .subst hk;have hlt:i<sts.length:=by
   have:=(sI hs)
   simpa using this
  rw[List.getElem?_set_self hlt]at hs;injection hs with hs;injection hs with hs;subst hs;exact⟨B,sb,e2,hS.low,h40⟩
 rw[List.getElem?_set_ne hk]at hs;obtain⟨B2,sb2,k1,k2,k3⟩:=h3 k s' hs;exact⟨B2,sb2,k1,k2.up hB,k3⟩
theorem JL:(prog.info? 73).map (λi=>(i.zero,i.size,i.bytes))=some (some (.pointer none),1,8):=by kernel_rfl
theorem EC{wr:World}{g n B:Nat}(hr:wr.ownsRow B 73 1 (.slice (some ⟨g,0,none⟩) n n) n (madeCells (Value.pointer none).cells (n*1)).toList)(hn:0<n):∃cs:Array Value,wr.heap[g]?=some (.cells cs 73 (0,0))/\cs.size=n:=by
 rcases hr.2 with⟨h',e⟩|⟨g',cap',cur,h',hb,hc,_,_,hsz,ht⟩
 .omega
 simp only[Value.slice.injEq,Option.some.injEq,Addr.mk.injEq,and_true,true_and]at h';obtain⟨rfl,rfl⟩:=h';exact⟨cur,hc,by omega⟩
theorem EP[Inhabited Ch]{cx:List aj}{sts:List (Option SN)}{l:List ki}{j:Nat}{x:ki}{s:SN}(hx:l[j]?=some x):mS cx sts (l.drop j) s=match Eo cx sts s x with
 |.error k=>.error (k,vd x)
 |.ok s'=>mS cx sts (l.drop (j+1)) s':=by
 have hj:=(sI hx)
 have e:l.drop j=x::l.drop (j+1):=by rw[List.drop_eq_getElem_cons hj];congr 1;exact(KP.1 hx).2
 rw[e];rfl
theorem yY[Inhabited Ch]{cx:List aj}{st:List aU}{nd:List Nat}{q i:Nat}{sts:List (Option SN)}{g:aU}(hq:nd[q]?=some i)(hg:st[i]?=some g):bi cx st (nd.drop q) sts=match mS cx sts g.ins ⟨[],[],[]⟩with
 |.error e=>.error e
 |.ok s=>bi cx st (nd.drop (q+1)) (sts.set i (some s)):=by
 have hj:=(sI hq)
 have e:nd.drop q=i::nd.drop (q+1):=by rw[List.drop_eq_getElem_cons hj];congr 1;exact(KP.1 hq).2
 rw[e];simp only[bi,hg];rfl
theorem yS(bs:List Bool)(n:Nat):(fq bs n).Pairwise (·<·):=List.Pairwise.filter _ List.pairwise_lt_range
theorem vz{bs:List Bool}{n k:Nat}:k∈fq bs n↔k<n/\bs[k]?=some true:=by unfold fq;rw[List.mem_filter,List.mem_range];simp
theorem ui{l:List Nat}(hs:l.Pairwise (·<·)){q i k:Nat}(hq:l[q]?=some i):k∈l.take q↔k∈l/\k<i:=by
 obtain⟨hlt,he⟩:=KP.1 hq;constructor
 .intro hk;refine⟨List.mem_of_mem_take hk,?_⟩;obtain⟨a,ha,rfl⟩:=List.getElem_of_mem hk;have ha':a<q:=by rw[List.length_take]at ha;omega
  rw[List.getElem_take,<-he];exact List.pairwise_iff_getElem.1 hs a q (by omega) hlt ha'
 rintro⟨hk,hki⟩;obtain⟨a,ha,rfl⟩:=List.getElem_of_mem hk;have:a<q:=by
  rcases Nat.lt_or_ge a q with h|h
  .exact h
  rcases Nat.lt_or_ge q a with h'|h'
  .have:=List.pairwise_iff_getElem.1 hs q a hlt ha h';omega
  have:a=q:=by omega
  subst this;omega
 rw[List.mem_iff_getElem];exact⟨a,by rw[List.length_take];omega,by rw[List.getElem_take]⟩
def rH(p:Nat):Except (Nat×Nat) (List (Option SN))->Except (Nat×Nat) SN
 |.error e=>.error e
 |.ok sts=>match sts[p]? with
  |some (some s)=>.ok s
  |_=>.error (0,0)
def AR(w':World)(e:Ending):Except (Nat×Nat) SN->Prop
 |.error (k,pl)=>∃q:Nat,e=.returned (.tuple #[.pointer none,.iface 64 (.pointer (some ⟨q,0,none⟩))])/\w'.heap[q]?=some (.cells #[.int .i64 (k:Int),.int .i64 (pl:Int)] 68 (0,0))
 |.ok s=>∃B sb:Nat,e=.returned (.tuple #[.pointer (some ⟨sb,0,none⟩),.nilIface])/\sR w' B sb s 120/\s.t.length<=40
structure Ly[Inhabited Ch](w w3:World)(mb N:Nat)(cp:OA)(cx:List aj)(st:List aU)(nd:List Nat)(q:Nat)(sts:List (Option SN))(wr:World):Prop where
 below:Bw w wr
 keep:∀k,k<w3.heap.size->k≠w.heap.size->wr.heap[k]?=w3.heap[k]?
 size:w3.heap.size<=wr.heap.size
 mkg:zf wr wr.heap.size mb w.heap.size N cp cx sts (24*q)
 eq:bi cx st (nd.drop q) sts=bi cx st nd (List.replicate N none)
 done:∀i,(∃s,sts[i]?=some (some s))↔i∈nd.take q
def NU[Inhabited Ch](w w3:World)(mb N:Nat)(cp:OA)(cx:List aj)(st:List aU)(nd:List Nat)(iv:Value)(wr:World):Prop:=∃(q:Nat) (sts:List (Option SN)),q<=nd.length/\iv=.int .i64 (q:Int)/\Ly w w3 mb N cp cx st nd q sts wr
structure Ea[Inhabited Ch](w w3:World)(B mb N i sb:Nat)(cp:OA)(cx:List aj)(q j:Nat)(sts:List (Option SN))(l:List ki)(s:SN)(wr:World):Prop where
 below:Bw w wr
 keep:∀k,k<w3.heap.size->k≠w.heap.size->wr.heap[k]?=w3.heap[k]?
 wB:w3.heap.size<=B
 sbB:B<=sb
 mkg:zf wr B mb w.heap.size N cp cx sts (24*q+j)
 cell:∃cs:Array Value,wr.heap[w.heap.size]?=some (.cells cs 73 (0,0))/\cs[i]?=some (.pointer (some ⟨sb,0,none⟩))
 st:sR wr B sb s (24*q+j)
 small:s.t.length<=40
 eq:mS cx sts (l.drop j) s=mS cx sts l ⟨[],[],[]⟩
theorem Ea.later[Inhabited Ch]{w w3 wr w2:World}{B mb N i sb q j:Nat}{cp:OA}{cx:List aj}{sts:List (Option SN)}{l:List ki}{s:SN}(h:Ea w w3 B mb N i sb cp cx q j sts l s wr)(hw:w.heap.size<=w3.heap.size)(hb:Bw wr w2):Ea w w3 B mb N i sb cp cx q j sts l s w2:=by
 have hB:B<=wr.heap.size:=by obtain⟨_,_,_,_,_,h1,_⟩:=h.st;exact h1.base
 have hb':=hb.mono hB;obtain⟨cs,h1,h2⟩:=h.cell;have hwB:=h.wB;exact⟨h.below.trans (hb.mono h.below.size),λk hk hn=>(hb.block k (by omega)).trans (h.keep k hk hn),h.wB,h.sbB,h.mkg.below hb',⟨cs,(hb.block _ (bY h1)).trans h1,h2⟩,h.st.below hb,h.small,h.eq⟩
def NT[Inhabited Ch](w w3:World)(B mb N i sb:Nat)(cp:OA)(cx:List aj)(q:Nat)(sts:List (Option SN))(l:List ki)(jv:Value)(wr:World):Prop:=∃(j:Nat) (s:SN),j<=l.length/\jv=.int .i64 (j:Int)/\Ea w w3 B mb N i sb cp cx q j sts l s wr
structure Kk(ss:List ax):Prop where
 fwd:uO (ss.map ax.stg)
 gd:Gd (ss.map ax.stg)
 sz:∀s∈ss,∀m∈s.ins,∀y∈m.ws,kA (parts y.xs)<=13500
theorem uU{l:List Nat}{x:Nat}(h:x∈l):x<=l.sum:=by
 induction l with
 |nil=>cases h
 |cons a r ih=>
  rw[List.sum_cons];rcases nh.1 h with rfl|h
  .omega
  have:=ih h;omega
theorem Kk.len{ss:List ax}(h:Kk ss){s:ax}(hs:s∈ss):s.ins.length<=24:=by have h1:=h.gd.size;unfold ea at h1;have h2:s.ins.length∈(ss.map ax.stg).map λs=>s.ins.length:=List.mem_map.2 ⟨s.stg,List.mem_map.2 ⟨s,hs,rfl⟩,by simp[ax.stg]⟩;have:=uU h2;omega
theorem ED[Inhabited Ch]{cx:List aj}{sts:List (Option SN)}{s s':SN}{x:ki}(h:Eo cx sts s x=.ok s'):s'.t.length<=40:=by
 unfold Eo at h;split at h
 .cases h
 split at h
 .cases h
 split at h
 .cases h
 injection h with h;subst h;omega
theorem ed.setLow{w:World}{B sb g i:Nat}{r:Nd}{ns:List Nd}{work:BA}{ev u:Value}(h:ed w B sb r ns work ev)(hsb:B<=sb)(hg:g<B):ed (w.setCell ⟨g,i,none⟩ u) B sb r ns work ev:=by have ho:∀k,k≠g->(w.setCell ⟨g,i,none⟩ u).heap[k]?=w.heap[k]?:=λk hk=>heap_setCell_other _ _ _ _ hk;refine⟨(ho sb (by omega)).trans h.cells,ob h.mem λx hx=>?_,h.tree,h.lim,by simpa using h.base⟩;obtain⟨h1,h2,_⟩:=h.mem.all x hx;exact⟨ho _ (by omega),ho _ (by omega)⟩
theorem GE[Inhabited Ch](fb Bf p:Nat)(sv:Value)(ss:List ax)(cp:OA)(cx:List aj)(mx:Int)(w:World)(h:aQ w Bf fb sv ss)(hN:Kk ss)(hp:ss.length=p+1)(hC:kj w w.heap.size cp cx)(hmx:w.cell? ⟨1,0,none⟩=some (.int .i64 mx))(hg:w.cell? ⟨0,0,none⟩=some (.iface 157 (.agg #[.pointer (some ⟨22,45,none⟩)])))(hR:Rd w)(h21:21<w.heap.size): Cl 26 #[.pointer (some ⟨fb,0,none⟩),.pointer cp,aN 27] w λe w'=>(∃bs,fp (ss.map ax.stg) bs/\AR w' e (rH p (bi cx (ss.map ax.stg) (fq bs (p+1)) (List.replicate (p+1) none))))/\Bw w w':=by
 obtain⟨g0,cap,hv,_,_⟩:=iG h.row (by omega);obtain⟨i0,hi,hz0,hz1,hz2⟩:=info_parts JL;have c0:=h.c0;subst hv;rw[hp]at c0;have hp5:p<=4:=by have:=h.short;omega
 have HND:Hid (∀W,Bw w W->Cl 44 #[.pointer (some ⟨fb,0,none⟩)] W λe w'=>uu (ss.map ax.stg) W.heap.size w' e/\Bw W w'):=ab (λW hb=>
  zT Bf fb _ ss W (h.below hb) hN.fwd (λe=>by rw[List.map_eq_nil_iff]at e;rw[e]at hp;cases hp))
 have HFM:=ab h;have HP:=ab hp;have HNN:=ab hN;have HC:=ab hC;have HMX:=ab hmx;have HG:=ab hg;have HR:=ab hR;clear h hp hN hC hmx hg hR;go_enter func26,ntmps26;go_upto_region 2 with(at_make;refine wpList_make_full _ rfl _ _ 124 rfl w.heap.size 73 i0 (.pointer none) 1 underlying124 hi hz0 hz1 _ _ _ _ (p+1) rfl rfl rfl rfl (by rw[hz2];omega) (by unfold maxLen;omega) (bH _) ?_;intro w1 hrow1 hgrow1)
 obtain⟨W2,hW2⟩:=aq (w1.alloc (.cells #[.pointer cp,.slice (some ⟨w.heap.size,0,none⟩) (p+1) (p+1)] 126));have hb1:Bw w w1:=(ju _ _).grown hgrow1 (bH _) (λq hq=>by cases hq);have hb2:=dw hW2;have hb02:Bw w W2:=hb1.trans (hb2.mono hb1.size);have hP2:zf W2 W2.heap.size w1.heap.size w.heap.size (p+1) cp cx (List.replicate (p+1) none) 0:=by
  obtain⟨cs,h1,h2⟩:=EC hrow1 (by omega);have hlt:=(bY h1)
  refine⟨by rw[hW2];exact ft _ _,by rw[hW2];simp,by have:=hb2.size;omega,by simp,⟨cs,(hb2.block _ hlt).trans h1,h2,λi s hs=>?_⟩,((uh HC).below hb02).up hb02.size⟩;rw[List.getElem?_replicate]at hs;split at hs<;>cases hs
 rw[<-hW2];obtain⟨mb,hmb⟩:=aq w1.heap.size;rw[<-hmb]at hP2⊢;have HP2:=ab hP2;have HB2:=ab hb02;have hN:=uh HND W2 hb02;clear hP2 hb1 hb2 hb02 hW2 hrow1 hgrow1 hmb HND c0 hi hz0 hz1 hz2;go_upto_region 3 with(go_at_call 44;refine hN.mono ?_;clear hN;rintro e2 w3⟨⟨rv,bs,hMk,rfl,hNum⟩,hb3⟩;obtain⟨ao,nn,cl,hrv⟩:=ar hNum;have HN0:Hid (nn=(fq bs (ss.map ax.stg).length).length):=ab (dL (by rw[hrv]at hNum;exact hNum));subst hrv)
 obtain⟨nd,hnd⟩:=aq (fq bs (p+1));have hndl:fq bs (ss.map ax.stg).length=nd:=by rw[List.length_map,uh HP,hnd]
 have hnn:=uh HN0;rw[hndl]at hNum hnn;have hnle:nn<=5:=by have:=yP bs (p+1);rw[hnn,hnd];omega
 have HI3:Hid (Ly w w3 mb (p+1) cp cx (ss.map ax.stg) nd 0 (List.replicate (p+1) none) w3):=ab (by
  have hb':=hb3.mono (bH W2.heap.size);refine⟨(uh HB2).trans (hb3.mono (uh HB2).size),λ_ _ _=>rfl,bH _,?_,by rw[List.drop_zero],λi=>⟨λ⟨s,hs⟩=>?_,λhi=>by simp at hi⟩⟩
  .have hm:=(uh HP2).below hb3;obtain⟨cs,k1,k2,k3⟩:=hm.row;refine⟨hm.mkr,Nat.lt_of_lt_of_le hm.mbB hb3.size,Nat.lt_of_lt_of_le hm.gB hb3.size,hm.len,⟨cs,k1,k2,λi s hs=>?_⟩,hm.ctx.up hb3.size⟩;rw[List.getElem?_replicate]at hs;split at hs<;>cases hs
  rw[List.getElem?_replicate]at hs;split at hs<;>cases hs)
 have HNR:=ab hNum;have HGW:Hid (w.heap.size<W2.heap.size):=ab (uh HP2).gB;have HNL:=ab hnn;have HMK:=ab hMk;have HND:=ab hnd;have HW3:Hid (w.heap.size<=w3.heap.size):=ab (uh HI3).below.size;clear HN0 hNum hnn hMk hb3 HP2 HB2 hnd hndl;go_loopw [26] (λiv wr=>NU w w3 mb (p+1) cp cx (ss.map ax.stg) nd iv wr) (λiv _=>nn-(intOf iv).toNat);case atStart=>exact⟨0,_,Nat.zero_le _,rfl,uh HI3⟩
 case round=>
  obtain⟨q,sts,hq,rfl,hI⟩:=hrel;clear HI3;by_cases hlt:q<nn
  .obtain⟨i,hqi⟩:∃i,nd[q]?=some i:=⟨_,pS (by rw[<-uh HNL];exact hlt)⟩
   have hinp:i<p+1/\bs[i]?=some true:=vz.1 (by rw[<-uh HND];exact oG hqi);have hip:=hinp.1;obtain⟨S,hS⟩:∃S,ss[i]?=some S:=⟨_,pS (by rw[uh HP];exact hip)⟩
   have hgB:=hI.mkg.gB;obtain⟨gl,hao,cq⟩:∃gl:Nat,ao=some ⟨gl,0,none⟩/\wr.cell? ⟨gl,q,none⟩=some (.int .i64 (i:Int)):=by have hr:=uh HNR;obtain⟨gl,cp',e1,_,_⟩:=iG hr (by rw[<-uh HNL];omega);injection e1 with e1 e2 e3;subst e1 e3;refine⟨gl,rfl,?_⟩;obtain⟨hge,hlt3⟩:=World.ownsRow.lt hr gl (by simp[Value.ownBlock]);rw[e2]at hr;rw[b8 (W:=w3) (a:=⟨gl,q,none⟩) (hI.keep gl hlt3 (by have:=uh HGW;omega)),World.ownsRow.cellAt hr q (by have:=uh HNL;omega),List.getElem?_map,hqi];rfl
   subst hao;have HSTG:=ab (yY (cx:=cx) (sts:=sts) hqi (show (ss.map ax.stg)[i]?=some S.stg by rw[List.getElem?_map,hS];rfl));have hnot:∀s,sts[i]?≠some (some s):=λs hs=>by have h1:=(hI.done i).1 ⟨s,hs⟩;have h2:=(ui (by rw[uh HND];exact yS bs _) hqi).1 h1;omega
   have HWANT:Hid (∀m∈S.ins,m.stage=-1\/∃(k:Nat) (b:SN),m.stage=(k:Int)/\sts[k]?=some (some b)):=ab (λm hm=>by
    have hsi:(ss.map ax.stg)[i]?=some S.stg:=by rw[List.getElem?_map,hS];rfl
    have hmi:m.ins∈S.stg.ins:=List.mem_map.2 ⟨m,hm,rfl⟩;obtain⟨f1,f2⟩:=(uh HNN).fwd i S.stg hsi m.ins hmi;have hst:m.ins.stage=m.stage:=rfl;rw[hst]at f1 f2;by_cases h1:m.stage=-1
    .exact .inl h1
    right;have hk:m.stage=((m.stage.toNat:Nat):Int):=by omega
    have hw:=yj hsi hmi (by rw[hst];exact hk);have hnk:mo (ss.map ax.stg) m.stage.toNat:=.more (((uh HMK).iff i).1 hinp.2) hw;have hb:=((uh HMK).iff _).2 hnk;have hmem:m.stage.toNat∈nd.take q:=(ui (by rw[uh HND];exact yS bs _) hqi).2 ⟨by rw[uh HND];exact vz.2 ⟨by omega,hb⟩,by omega⟩;obtain⟨b,hb'⟩:=(hI.done _).2 hmem;exact⟨_,b,hk,hb'⟩)
   have hk:=hI.mkg.mkr;have k1:=aL 1 hk;have h21r:21<wr.heap.size:=Nat.lt_of_lt_of_le h21 hI.below.size;obtain⟨cs,hcs,hcz,_⟩:=hI.mkg.row;have hgl:=(bY hcs)
   have hmg:mb≠w.heap.size:=λe=>by rw[e]at hk;have hh:=hk.symm.trans hcs;injection hh with hh;injection hh with _ hh _;cases hh
   obtain⟨old,hold⟩:∃old,cs[i]?=some old:=⟨_,Array.getElem?_eq_getElem (by omega)⟩
   have ip:(0:Int)<=(i:Int):=by omega
   have ip2:(i:Int)<((p+1:Nat):Int):=by omega
   have ip3:(i:Int)<(p:Int)+1:=by omega
   have HCS:=ab hcs;have HCP:=ab hold;have HI:=ab hI;have HSS:=ab hS;have HNOT:=ab hnot;have HQI:=ab hqi;clear hcs hold hk hI hS hnot hqi hinp hcz hgB;go_upto_region 5 with fail;go_region_held3 (λw'=>w'.cell? ⟨mb,1,none⟩=some (.slice (some ⟨w.heap.size,0,none⟩) (p+1) (p+1))) (first|exact k1|exact x1|exact y1|go_keep) (first|(go_at_call 45;refine(vE _ (by exact h21r)).mono ?_;rintro e5 w5⟨⟨sb,r,rfl,hsb,HST⟩,hb5⟩;have x1:w5.cell? ⟨mb,1,none⟩=some (.slice (some ⟨w.heap.size,0,none⟩) (p+1) (p+1)):=aM (am hb5) k1;have hc5:=((am hb5).block w.heap.size hgl).trans (uh HCS);have c5:w5.cell? ⟨w.heap.size,i,none⟩=some old:=(aL i hc5).trans (uh HCP);have f5:=frozen_of_row w5 w.heap.size i _ _ hc5;have y1:(w5.setCell ⟨w.heap.size,i,none⟩ (.pointer (some ⟨sb,0,none⟩))).cell? ⟨mb,1,none⟩=some (.slice (some ⟨w.heap.size,0,none⟩) (p+1) (p+1)):=by rw[World.cell?_setCell_other _ _ _ _ (λe=>hmg (by injection e with e;exact e.symm))];exact x1));obtain⟨W6,hW6⟩:=aq (w5.setCell ⟨w.heap.size,i,none⟩ (.pointer (some ⟨sb,0,none⟩)));rw[<-hW6];obtain⟨B,hBe⟩:=aq wr.heap.size;have hb5':Bw wr w5:=am hb5;have HIN:Hid (Ea w w3 B mb (p+1) i sb cp cx q 0 sts S.stg.ins ⟨[],[],[]⟩ W6):=ab (by
    have hI:=uh HI;obtain⟨hM6,hC6⟩:=(hI.mkg.below hb5').put (i:=i) (v:=.pointer (some ⟨sb,0,none⟩)) (uh HNOT);rw[<-hW6]at hM6 hC6;have ho:∀k,k≠w.heap.size->W6.heap[k]?=w5.heap[k]?:=λk hk=>by rw[hW6];exact heap_setCell_other _ _ _ _ hk
    have hz:=hI.size;have hsa:=uh HST;refine⟨?_,λk hk hn=>(ho k hn).trans ((hb5'.block k (by omega)).trans (hI.keep k hk hn)),by rw[hBe];exact hI.size,by rw[hBe];exact hsb,by rw[hBe];exact hM6,hC6 hip,?_,by decide,rfl⟩
    .rw[hW6];exact(hI.below.trans (hb5'.mono hI.below.size)).setCell (bH _) _
    rw[hW6,hBe];exact⟨r,[],⟨#[]⟩,.slice none 0 0,[],hsa.setLow hsb hgl,World.ownsRow_nil _ _ _ _,List.Pairwise.nil,λp hp=>(by cases hp),λp hp=>(by cases hp),rfl,rfl,by decide,rfl,Nat.zero_le _,by decide⟩)
   have hFr:=(uh HFM).below (uh HIN).below;obtain⟨q0,q1⟩:=rJ hFr.row i S (uh HSS);have c6:=hFr.c0;rw[uh HP]at c6;have hok:=hFr.all S (oG (uh HSS));obtain⟨oI,nI,cI,hiv,hnI⟩:=lQ hok;rw[hiv]at q1;have HIV:=ab hiv;have HNI:=ab hnI;have hsI:nI<=24:=by have:=(uh HNN).len (oG (uh HSS));omega
   have hq4:q<=4:=by omega
   have hlI:S.stg.ins.length=S.ins.length:=by simp[ax.stg]
   have HLI:=ab hlI;clear hlI hFr hok hiv hnI q0 x1 y1 hc5 c5 f5 hb5 hb5' HST HCS HCP k1 hW6 hsb hgl hmg hBe;go_wp2_with fail;go_loopw [46] (λjv wr=>NT w w3 B mb (p+1) i sb cp cx q sts S.stg.ins jv wr) (λjv _=>nI-(intOf jv).toNat);case atStart=>exact⟨0,_,Nat.zero_le _,rfl,uh HIN⟩
   case round=>
    clear HIN q1 c6;obtain⟨j,s,hj,rfl,hI⟩:=hrel;by_cases hlt':j<nI
    .obtain⟨m,hm⟩:∃m,S.ins[j]?=some m:=⟨_,pS (by rw[<-uh HNI];exact hlt')⟩
     have hms:=oG hm;have hSm:=oG (uh HSS);have hmx:S.stg.ins[j]?=some m.ins:=by show (S.ins.map cA.ins)[j]?=_;rw[List.getElem?_map,hm];rfl
     have hstep:=(EP (cx:=cx) (sts:=sts) (s:=s) hmx).symm.trans hI.eq;have hFr:=(uh HFM).below hI.below;have hok:=hFr.all S hSm;have hm0:m.Ok w Bf:=((uh HFM).all S hSm).all m hms;have hl2:=tx hm0;obtain⟨y,hy⟩:∃y,m.ws[0]?=some y:=⟨_,pS (by omega)⟩
     have hpl:vd m.ins=y.place:=by unfold vd cA.ins;simp only[List.getElem?_map,hy,Option.map_some];rfl
     rw[hpl]at hstep;have hGm:DD m.ins:=(uh HNN).gd.ins S.stg (List.mem_map.2 ⟨S,hSm,rfl⟩) m.ins (List.mem_map.2 ⟨m,hms,rfl⟩);have hzm:=(uh HNN).sz S hSm m hms;obtain⟨gI,cI2,hvI,_,_⟩:=iG hok.row (by rw[<-uh HNI];omega);have hrow:=hok.row;have hv2:=uh HIV;rw[hvI]at hv2 hrow;injection hv2 with e1 _ e3;subst e1 e3;obtain⟨d0,d1,d2,d3,d4,d5⟩:=Bu hrow j m hm;obtain⟨g2,n2,c2,hwv⟩:∃g2 n2 cap2,m.wv=.slice g2 n2 cap2:=ar (hok.all m hms).ws.row;rw[hwv]at d0;have n0:=World.new_ne wr ⟨gI,j*6,none⟩ d0;obtain⟨W8,hW8⟩:=aq (wr.alloc (.cells #[.slice g2 n2 c2,.int .i64 m.stage,.int .i64 (af m.rule).1,.int .i64 (af m.rule).2.1,aN (af m.rule).2.2.1,aN (af m.rule).2.2.2] 86));have hb8:=dw hW8;have hc8:=em hW8;have hI8:=hI.later (uh HW3) hb8;have hB8:B<=W8.heap.size:=by obtain⟨_,_,_,_,_,h1,_⟩:=hI8.st;exact h1.base
     obtain⟨stv,so,hBs,hSr,hTn⟩:=C5 m y mb sb B w.heap.size (p+1) (24*q+j) Bf cp cx sts s W8 (hm0.below hI8.below) hy hGm hzm hI8.mkg hI8.st (by omega) (uh HWANT m hms);have hwB:=uh HW3;have hwb:=hI8.wB;obtain⟨x,hx⟩:=aq (Eo cx sts s m.ins);have HTU:Hid (∀W,Bw W8 W->Cl 46 #[.pointer (some ⟨mb,0,none⟩),.pointer (some ⟨sb,0,none⟩),.agg #[.slice g2 n2 c2,.int .i64 m.stage,.int .i64 (af m.rule).1,.int .i64 (af m.rule).2.1,aN (af m.rule).2.2.1,aN (af m.rule).2.2.2]] W λev w'=>pV W w' sb m stv so (eZ s.env m.ins) ev/\Bw W w'):=ab (λW hb=>by have:=hTn W hb;unfold cA.val at this;rw[hwv]at this;exact this);have HDO2:Hid (∀W' W e,Bw W8 W->pV W' W sb m stv so (eZ s.env m.ins) e->∃u,e=.returned u/\Cl 27 #[u] W λe w'=>((∃u,e=.returned u)/\Hid (GT w' B sb (24*q+j+1) y.place e x))/\Below B W w'/\eB W w'):=ab (λW' W e hb ⟨v,us,he,hT,hu⟩=>⟨_,he,by
      have:=IG m y sb B (24*q+j) Bf W'.heap.size cx sts s stv so mx v us w W8 W hm0 hy hGm hzm hI8.below (by omega) (uh HG) (uh HMX) (uh HR) hI8.st hI8.sbB hI8.small (by omega) hBs hSr hb hT hu;rw[<-hx]at this;refine this.mono ?_;rintro e w'⟨h1,h2,h3⟩;refine⟨⟨?_,ab h1⟩,h2,h3⟩;cases x with
      |error k=>exact⟨_,h1.choose_spec.1⟩
      |ok s'=>exact⟨_,h1.1⟩⟩)
     have HSK:Hid (∀W,Below B W8 W->W.cell? ⟨mb,1,none⟩=some (.slice (some ⟨w.heap.size,0,none⟩) (p+1) (p+1))/\W.cell? ⟨w.heap.size,i,none⟩=some (.pointer (some ⟨sb,0,none⟩))):=ab (λW hb=>by obtain⟨cs,h1,h2⟩:=hI8.cell;have h3:=(hb.block _ hI8.mkg.gB).trans h1;exact⟨aL 1 ((hb.block _ hI8.mkg.mbB).trans hI8.mkg.mkr),(aL i h3).trans h2⟩);have HE:Hid (∀W:World,W.heap[wr.heap.size]?=some (.cells #[.slice g2 n2 c2,.int .i64 m.stage,.int .i64 (af m.rule).1,.int .i64 (af m.rule).2.1,aN (af m.rule).2.2.1,aN (af m.rule).2.2.2] 86 (0,0))->W.cell? ⟨wr.heap.size,0,none⟩=some (.slice g2 n2 c2)/\W.cell? ⟨wr.heap.size,1,none⟩=some (.int .i64 m.stage)/\W.cell? ⟨wr.heap.size,2,none⟩=some (.int .i64 (af m.rule).1)/\W.cell? ⟨wr.heap.size,3,none⟩=some (.int .i64 (af m.rule).2.1)/\W.cell? ⟨wr.heap.size,4,none⟩=some (aN (af m.rule).2.2.1)/\W.cell? ⟨wr.heap.size,5,none⟩=some (aN (af m.rule).2.2.2)):= ab (λW hW=>⟨aL 0 hW,aL 1 hW,aL 2 hW,aL 3 hW,aL 4 hW,aL 5 hW⟩);have HNX:Hid (∀W s',Below B W8 W->sR W B sb s' (24*q+j+1)->x=.ok s'->Ea w w3 B mb (p+1) i sb cp cx q (j+1) sts S.stg.ins s' W):=ab (λW s' hb hS' he=>by obtain⟨cs,h1,h2⟩:=hI8.cell;refine⟨hI8.below.trans (hb.mono (by omega)),λk hk hn=>(hb.block k (by omega)).trans (hI8.keep k hk hn),hI8.wB,hI8.sbB,(hI8.mkg.below hb).le (by omega),⟨cs,(hb.block _ hI8.mkg.gB).trans h1,h2⟩,hS',ED (hx.symm.trans he),?_⟩;rw[<-hx,he]at hstep;exact hstep);have HER:Hid (∀k,x=.error k->bi cx (ss.map ax.stg) nd (List.replicate (p+1) none)=.error (k,y.place)):=ab (λk he=>by rw[<-(uh HI).eq,uh HSTG,<-hstep,<-hx,he]);have HWW:Hid (∀W,Below B W8 W->Bw w W):=ab (λW hb=>hI8.below.trans (hb.mono (by omega)));obtain⟨k1,k2⟩:=uh HSK W8 (ju _ _);obtain⟨e0,e1,e2,e3,e4,e5⟩:=uh HE W8 hc8;have HC8:=ab hc8;have ip':(0:Int)<=(i:Int):=by omega
     have hes:=cB;have hen':=eQ;have hea:=sx
     obtain⟨st,hst⟩:∃k,k=m.stage:=⟨_,rfl⟩
     obtain⟨ra,hra⟩:∃k,k=(af m.rule).1:=⟨_,rfl⟩
     obtain⟨rb,hrb⟩:∃k,k=(af m.rule).2.1:=⟨_,rfl⟩
     obtain⟨f1,hf1⟩:∃k,k=(af m.rule).2.2.1:=⟨_,rfl⟩
     obtain⟨F,hF⟩:∃k,k=(af m.rule).2.2.2:=⟨_,rfl⟩
     obtain⟨pl,hple⟩:∃k,k=y.place:=⟨_,rfl⟩
     rw[<-hst,<-hra,<-hrb,<-hf1,<-hF]at HTU HE HC8 hW8;rw[<-hple]at HDO2 HER;rw[<-hst]at e1 d1;rw[<-hra]at e2 d2;rw[<-hrb]at e3 d3;rw[<-hf1]at e4 d4;rw[<-hF]at e5 d5;clear hm hms hSm hmx hstep hy hpl hFr hok hm0 hl2 hGm hzm hvI hrow hwv hb8 hc8 hI8 hBs hSr hTn hx hI hst hra hrb hf1 hF hple hwB hwb HWANT;go_upto_region 9 with fail;rw[<-hW8];clear hW8 d0 d1 d2 d3 d4 d5 n0;go_region_held3 (λw'=>w'.cell? ⟨mb,1,none⟩=some (.slice (some ⟨w.heap.size,0,none⟩) (p+1) (p+1))/\w'.cell? ⟨w.heap.size,i,none⟩=some (.pointer (some ⟨sb,0,none⟩))/\w'.cell? ⟨wr.heap.size,0,none⟩=some (.slice g2 n2 c2)/\w'.cell? ⟨wr.heap.size,1,none⟩=some (.int .i64 st)/\w'.cell? ⟨wr.heap.size,2,none⟩=some (.int .i64 ra)/\w'.cell? ⟨wr.heap.size,3,none⟩=some (.int .i64 rb)/\w'.cell? ⟨wr.heap.size,4,none⟩=some (aN f1)/\w'.cell? ⟨wr.heap.size,5,none⟩=some (aN F)) (first|exact y9|exact x9|exact⟨k1,k2,e0,e1,e2,e3,e4,e5⟩|go_keep) (first|(go_at_call 46;refine(uh HTU _ (by exact cU _)).mono ?_;rintro e6 w6⟨hT6,hb6⟩;obtain⟨u6,rfl,hD6⟩:=uh HDO2 _ w6 e6 (am hb6) hT6;clear hT6;have hc9:=((am hb6).block _ (bY (uh HC8))).trans (uh HC8);have x9:=And.intro (uh HSK w6 ((am hb6).mono hB8)).1 (And.intro (uh HSK w6 ((am hb6).mono hB8)).2 (uh HE w6 hc9)))|(go_at_call 27;refine hD6.mono ?_;clear hD6;rintro e7 w7⟨⟨⟨u7,rfl⟩,HV7⟩,hb7,hk7⟩;have hb87:Below B W8 w7:=Below.trans ((am hb6).mono hB8) hb7;have y9:=And.intro (uh HSK w7 hb87).1 (And.intro (uh HSK w7 hb87).2 (uh HE w7 (hk7 _ _ _ _ hc9 (by decide) (by decide) (by decide))))));clear x9 y9 e0 e1 e2 e3 e4 e5 k1 k2 HE HSK HC8 HTU HDO2 hb6 hc9 hk7 hb7;have hV7:=uh HV7;cases x with
     |error k=>obtain⟨qq,hq1,hq2⟩:=hV7;cases hq1;have HO:Hid ((∃bs,fp (ss.map ax.stg) bs/\AR w7 (.returned (.tuple #[.pointer none,.iface 64 (.pointer (some ⟨qq,0,none⟩))])) (rH p (bi cx (ss.map ax.stg) (fq bs (p+1)) (List.replicate (p+1) none))))/\Bw w w7):=ab ⟨⟨bs,uh HMK,by rw[<-uh HND,uh HER k rfl];exact⟨qq,rfl,hq2⟩⟩,uh HWW w7 hb87⟩;clear hq2 HV7 HNX HER HWW hb87;go_wp2_with fail;refine bodyPost_ret (v:=.tuple #[.pointer none,.iface 64 (.pointer (some ⟨qq,0,none⟩))]) (by simp[results,results26,go_sem]) rfl ?_;exact uh HO
     |ok s'=>
      obtain⟨hq1,hS'⟩:=hV7;cases hq1;have HR7:=ab (uh HNX w7 s' hb87 hS' rfl);have hj1:j+1<=S.stg.ins.length:=by have:=uh HNI;have:=uh HLI;omega
      clear hS' HV7 HNX HER HWW hb87;go_wp2_with fail;go_roundw;case rel=>exact⟨j+1,s',hj1,by go_num,uh HR7⟩
      case measure=>simp[intOf];omega
    have hjn:j=S.stg.ins.length:=by have:=uh HNI;have:=uh HLI;omega
    have hfin:mS cx sts S.stg.ins ⟨[],[],[]⟩=.ok s:=by rw[<-hI.eq,hjn,List.drop_length];rfl
    have HNX:Hid (Ly w w3 mb (p+1) cp cx (ss.map ax.stg) nd (q+1) (sts.set i (some s)) wr):=ab (by
     have hB:B<=wr.heap.size:=by obtain⟨_,_,_,_,_,h1,_⟩:=hI.st;exact h1.base
     have hwb:=hI.wB;have hse:=uh HSTG;rw[hfin]at hse;have hj24:j<=24:=by have:=uh HNI;have:=uh HLI;omega
     refine⟨hI.below,hI.keep,by omega,(hI.mkg.done hB hI.st hI.small hI.cell).le (by omega),hse.symm.trans (uh HI).eq,λk=>?_⟩;rw[List.take_add_one,uh HQI];simp only[Option.toList_some,JJ,List.mem_singleton];by_cases hk:i=k
     .subst hk;refine⟨λ_=>.inr rfl,λ_=>⟨s,List.getElem?_set_self (by rw[hI.mkg.len];exact hip)⟩⟩
     rw[List.getElem?_set_ne hk,(uh HI).done k];exact⟨.inl,λh=>h.elim id λe=>absurd e.symm hk⟩)
    have hq1:q+1<=nd.length:=by have:=uh HNL;omega
    clear hI hjn hfin;go_wp2_with fail;go_roundw;case rel=>exact⟨q+1,_,hq1,by go_num,uh HNX⟩
    case measure=>simp[intOf];omega
  have hqn:q=nd.length:=by have:=uh HNL;omega
  have hse:=hI.eq;rw[hqn,List.drop_length]at hse;have hpm:p∈nd:=by rw[uh HND];refine vz.2 ⟨by omega,((uh HMK).iff p).2 ?_⟩;have:=mo.last (st:=ss.map ax.stg);rw[List.length_map,uh HP]at this;exact this
  obtain⟨s,hs⟩:=(hI.done p).2 (by rw[hqn,List.take_length];exact hpm);obtain⟨cs,k1',k2',k3'⟩:=hI.mkg.row;obtain⟨B2,sb,k4,k5,k6⟩:=k3' p s hs;have hq5:q<=5:=by have:=uh HNL;omega
  have HO:Hid (∀W,Bw wr W->(∃bs,fp (ss.map ax.stg) bs/\AR W (.returned (.tuple #[.pointer (some ⟨sb,0,none⟩),.nilIface])) (rH p (bi cx (ss.map ax.stg) (fq bs (p+1)) (List.replicate (p+1) none))))/\Bw w W):=ab (λW hb=>⟨⟨bs,uh HMK,by rw[<-uh HND,<-hse];simp only[bi,rH,hs];exact⟨B2,sb,rfl,(k5.st.below hb).le (by omega),k6⟩⟩,hI.below.trans (hb.mono hI.below.size)⟩);have k1:=aL 1 hI.mkg.mkr;have k2:=(cell_of_row _ _ p _ _ _ k1').trans k4;have c6:=((uh HFM).below hI.below).c0;rw[uh HP]at c6;have ip:(0:Int)<=(p:Int):=by omega
  have ip2:(p:Int)<((p+1:Nat):Int):=by omega
  have ip3:(p:Int)<(p:Int)+1:=by omega
  have i1:IntKind.i64.wrap (((p+1:Nat):Int)-1)=(p:Int):=by rw[show (((p+1:Nat):Int)-1)=((p:Nat):Int) by omega];exact wrap_i64 p (by omega)
  clear hI hs k1' k2' k3' k4 k5 k6 hse hqn hpm;go_upto_region 14 with fail;go_quiet (fail);go_wp2_with fail;refine bodyPost_ret (v:=.tuple #[.pointer (some ⟨sb,0,none⟩),.nilIface]) (by simp[results,results26,go_sem]) rfl ?_;exact uh HO _ (by exact⟨rfl,rfl,rfl,bH _,λk _=>rfl⟩)
end Go.Proofs.YtjhobnjdfhkohaaGreatDoor.T
