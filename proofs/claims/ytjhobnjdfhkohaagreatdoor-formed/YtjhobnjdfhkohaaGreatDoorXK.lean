import Derived.Test.YtjhobnjdfhkohaaGreatDoorXJ
set_option linter.all false
set_option maxHeartbeats 4000000
set_option maxRecDepth 10000
namespace Go.Proofs.YtjhobnjdfhkohaaGreatDoor
open Go.Proofs.Tryz
open Go.RowKit
theorem uP(l:LU)(n:Nat):∀(k:Nat) (acc a:List bM) (t:Nat),l.length-k<=n->cP l acc k=.ok (a,t)->k<=t:=by
 induction n with
 |zero=>intro k acc a t hn h;have he:iJ l k=true:=dk (List.getElem?_eq_none_iff.2 (by omega));rw[eK he]at h;injection h with h;injection h with _ h;omega
 |succ n ih=>
  intro k acc a t hn h;cases he:iJ l k with
  |true=>rw[eK he]at h;injection h with h;injection h with _ h;omega
  |false=>
   cases hc:l[k]? with
   |none=>rw[dk hc]at he;cases he
   |some c=>
    have hlt:=(gL hc)
    rw[dN hc he]at h;split at h
    .split at h
     .cases h
     split at h
     .have:=ih _ _ _ _ (by omega) h;omega
     cases h
    split at h
    .split at h
     .cases h
     split at h
     .have:=ih _ _ _ _ (by omega) h;omega
     cases h
    split at h
    .split at h
     .cases h
     have:=ih _ _ _ _ (by omega) h;omega
    have:=ih _ _ _ _ (by omega) h;omega
theorem Ga{l:LU}{k t:Nat}{acc a:List bM}(he:iJ l k=false)(h:cP l acc k=.ok (a,t)):k<t:=by
 cases hc:l[k]? with
 |none=>rw[dk hc]at he;cases he
 |some c=>
  rw[dN hc he]at h;split at h
  .split at h
   .cases h
   split at h
   .have:=uP l _ _ _ _ _ (nR _) h;omega
   cases h
  split at h
  .split at h
   .cases h
   split at h
   .have:=uP l _ _ _ _ _ (nR _) h;omega
   cases h
  split at h
  .split at h
   .cases h
   have:=uP l _ _ _ _ _ (nR _) h;omega
  have:=uP l _ _ _ _ _ (nR _) h;omega
theorem ez{l:LU}{k:Nat}{ws:List Wd}(h:l[k]?=none):bE l ws k=.ok (ws,k):=by
 rw[bE];split
 .rfl
 rename_i c h';rw[h]at h';cases h'
theorem iA{l:LU}{k:Nat}{ws:List Wd}{c:UInt8}(h:l[k]?=some c):bE l ws k=if c=10 then .ok (ws,k+1) else if ct l k=true then bE l ws (k+2) else if c=32 then bE l ws (k+1) else if c=35/\ws=[] then bE l ws (kr l k) else match cP l [] k with
 |.error e=>.error e
 |.ok (a,t)=>if k<t then bE l (ws++[⟨a,k⟩]) t else .error (5,k):=by
 rw[bE];split
 .rename_i h';rw[h]at h';cases h'
 rename_i d h';rw[h]at h';cases h';simp only[dite_eq_ite];rfl
theorem vf{l:LU}{k:Nat}{ws:List Wd}(h:l[k]?=some 10):bE l ws k=.ok (ws,k+1):=by rw[iA h,if_pos rfl]
def Hy(l:LU)(ws:List Wd)(k:Nat):Prop:=¬l[k]?=some 32/\ct l k=false/\¬(l[k]?=some 35/\ws=[])
theorem rM{l:LU}{k:Nat}{ws:List Wd}{c:UInt8}(h:l[k]?=some c)(h10:¬c=10)(hs:Hy l ws k):bE l ws k=match cP l [] k with
 |.error e=>.error e
 |.ok (a,t)=>if k<t then bE l (ws++[⟨a,k⟩]) t else .error (5,k):=by
 obtain⟨h1,h2,h3⟩:=hs;rw[h]at h1 h3;rw[iA h,if_neg h10,if_neg (by simp[h2]),if_neg (λe=>h1 (by rw[e])),if_neg (λe=>h3 ⟨by rw[e.1],e.2⟩)]
theorem BQ{l:LU}{k:Nat}{ws:List Wd}{c:UInt8}(h:l[k]?=some c)(h10:¬c=10)(hs:Hy l ws k):iJ l k=false:=by
 rw[jJ h];refine dF ?_;rintro(e|e|e)
 .exact h10 e
 .exact hs.1 (by rw[h,e])
 rw[hs.2.1]at e;cases e
theorem J0{l:LU}{k:Nat}(h:l[k]?=some 35):bE l [] k=bE l [] (kr l k):=by
 have hg:ct l k=false:=by unfold ct;rw[h];rfl
 rw[iA h,if_neg (by decide),if_neg (by simp[hg]),if_neg (by decide),if_pos ⟨rfl,rfl⟩]
theorem L0{l:LU}{k:Nat}:l[kr l k]?=none\/l[kr l k]?=some 10:=by
 unfold kr;obtain⟨n,hn⟩:=aq (((l.drop k).takeWhile (λc=>c != 10)).length);have key:∀r:LU,r[(r.takeWhile (λc=>c != 10)).length]?=none\/r[(r.takeWhile (λc=>c != 10)).length]?=some 10:=λr=>by
  induction r with
  |nil=>exact .inl rfl
  |cons a r ih=>
   by_cases ha:a=10
   .subst ha;exact .inr (by simp)
   rw[List.takeWhile_cons_of_pos (p:=λc=>c != 10) (by simpa using ha)];simpa using ih
 have:=key (l.drop k);rw[List.getElem?_drop]at this;exact this
theorem Ik(l:LU)(k:Nat):Hy l [] (kr l k):=by unfold Hy ct;rcases L0 (l:=l) (k:=k)with h|h<;>rw[h]<;>simp
theorem EH{w w':World}{B rb e z n:Nat}{v:Value}{xs:List Value}(h:w.ownsRow B e z v n xs)(hb:Tb w.heap.size rb w w')(hr:rb<B):w'.ownsRow B e z v n xs:= ap h λk hk=>by have:=World.ownsRow.lt h k hk;exact hb.block k this.2 (by omega)
theorem mU.tb{w w':World}{B rb:Nat}{v:Value}{ms:List aw}(h:mU w B v ms)(hb:Tb w.heap.size rb w w')(hr:rb<B):mU w' B v ms:= ⟨EH h.row hb hr,λm hm=>EH (h.all m hm) hb hr⟩
theorem mU.snoc{w w1:World}{o:Obj}{B:Nat}{v v':Value}{ms:List aw}{m:aw}(h:mU w B v ms)(hm:m.Ok w B)(hown:w1.ownsRow B 148 2 v' (ms.length+1) (Ip ms++m.cells))(hg:(w.alloc o).grownBy w1 v.ownBlock):mU w1 B v' (ms++[m]):=by
 refine⟨by rw[Gg,lA];exact hown,λm' hm'=>?_⟩;have hok:m'.Ok w B:=by
  rcases mA.1 hm' with h'|h'
  .exact h.all m' h'
  rw[List.mem_singleton]at h';rw[h'];exact hm
 refine ap hok λk hk=>?_;have hlt:=(World.ownsRow.lt hok k hk).2;refine(hg.block k (by simp;omega) (λe=>?_)).trans (Below.heap_alloc _ _ _ hlt);exact oq hok h.row (by decide) k hk e.symm
def iR(w w':World)(ev:Ending)(rb:Nat)(s:BA)(k:Nat):Prop:=match bE s.data.toList [] k with
 |.error (e,p)=>jm w' ev e p
 |.ok (ws,t)=>∃v ms,ev=.returned v/\mU w' w.heap.size v ms/\ms.map aw.wd=ws/\dB w' rb s t/\k<=t/\(k<s.size->k<t)/\t<=s.size/\ms.length<=t/\∀m∈ms,m.xs.length<=s.size
theorem BH(rb:Nat)(s:BA)(k:Nat)(b:Bool)(w:World)(h:dB w rb s k)(hb:decide (k<s.size)=b): Cl 32 #[.pointer (some ⟨rb,0,none⟩)] w λe w'=>e=.returned (.bool b)/\dB w' rb s k/\Tb w.heap.size rb w w':=by refine(yM rb s k b w h hb).mono ?_;rintro e w'⟨rfl,hr,hb'⟩;exact⟨rfl,hr,Tb.of_below hb'⟩
theorem Bl(rb:Nat)(s p:BA)(k:Nat)(b:Bool)(w:World)(h:dB w rb s k)(hk:k<=s.size)(hs:s.size<=1500)(hb:gM s k p=b): Cl 56 #[.pointer (some ⟨rb,0,none⟩),.string p] w λe w'=>e=.returned (.bool b)/\dB w' rb s (if b=true then k+p.size else k)/\Tb w.heap.size rb w w':=by refine(kL rb s p k w h hk (by omega)).mono ?_;rintro e w'⟨rfl,hr,ht⟩;rw[hb]at hr;exact⟨by rw[hb],hr,ht⟩
theorem bG{B rb:Nat}{a b c:World}(h:Tb B rb a b)(k:Tb b.heap.size rb b c)(hB:B<=a.heap.size):Tb B rb a c:=h.trans (k.mono (nT hB h.size))
theorem sm(rb:Nat)(s:BA)(k:Nat)(m:Int)(w:World)(h:dB w rb s k)(hk:k<=s.size)(hs:s.size<=1500)(hm:w.cell? ⟨1,0,none⟩=some (.int .i64 m))(h1r:1<rb): Cl 33 #[.pointer (some ⟨rb,0,none⟩)] w λev w'=>iR w w' ev rb s k/\Tb w.heap.size rb w w':=by
 obtain⟨i0,hi,hz0,hz1,hz2⟩:=info_parts EY;have hrl:=h.lt;have HM:=ab hm;have hml:=World.block_lt_of_cell? _ _ hm;have hS:=sy rb s k w h hk (by omega);obtain⟨k1,hk1⟩:=aq (gm s.data.toList k);rw[<-hk1]at hS;have hk1l:k1<=s.size:=by rw[hk1,zE];exact zC (by rw[<-zE];exact hk)
 have hk1g:k<=k1:=by rw[hk1];exact zp _ _
 have HL1:Hid (bE s.data.toList [] k=bE s.data.toList [] k1):=ab (by rw[hk1];exact vh _ _ _);have HS1:Hid (¬s.data.toList[k1]?=some 32/\ct s.data.toList k1=false):=ab (by rw[hk1];exact li _ _);clear h hk1 hm;cases hc:(s.data.toList[k1]?==some 35)with
 |false=>
  have hcn:¬s.data.toList[k1]?=some 35:=by simpa using hc
  have mB:=λW (h:dB W rb s k1)=>C4 rb s ⟨#[35]⟩ k1 false W h hk1l (by rw[fP];exact hc);have HL2:=HL1;have HS2:Hid (Hy s.data.toList [] k1):=ab ⟨(uh HS1).1,(uh HS1).2,λe=>hcn e.1⟩;clear hc hcn;go_enter func33,ntmps33;go_wp2_with (first|(go_at_call 53;refine hS.mono ?_;clear hS;rintro ev w1⟨rfl,hR1,hT1⟩;have HR1:=ab hR1;clear hR1)|(go_at_call 54;refine(mB _ (uh HR1)).mono ?_;clear mB;rintro ev w2⟨rfl,hR2,hb2⟩;have HR2:=ab hR2;clear hR2))
  go_loopw [3] (λv wr=>∃(j:Nat) (ms:List aw),mU wr w.heap.size v ms/\dB wr rb s j/\bE s.data.toList [] k=bE s.data.toList (ms.map aw.wd) j/\Hy s.data.toList (ms.map aw.wd) j/\k<=j/\j<=s.size/\ms.length<=j/\Tb w.heap.size rb w wr/\(∀m∈ms,m.xs.length<=s.size)) (λ_ wr=>s.size-xM wr rb);case atStart=>exact⟨k1,[],⟨World.ownsRow_nil _ _ _ _,by simp⟩,uh HR2,uh HL2,uh HS2,hk1g,hk1l,by simp,hT1.trans (Tb.of_below (hb2.mono hT1.size)),by simp⟩
  case round=>
   obtain⟨j,ms,hM,hR,hG,hSt,hkj,hj,hml2,hT,hXL⟩:=hrel;have HXL:=ab hXL;clear hXL;have HA:=ab hR.at
   have HR:=ab hR;have HG:=ab hG;have HMS:=ab hM;have HSt:=ab hSt;clear hR hG hM hSt;cases hc:s.data.toList[j]? with
   |none=>
    have hjs:decide (j<s.size)=false:=by have:=List.getElem?_eq_none_iff.1 hc;rw[<-zE]at this;simp;omega
    have HQ:=ab (ez (ws:=ms.map aw.wd) hc);have mM:=λW (h:dB W rb s j)=>BH rb s j false W h hjs;have hje:j=s.size:=by simp at hjs;omega
    clear hc hjs;go_wp2_with (first|(go_at_call 32;refine(mM _ (uh HR)).mono ?_;clear mM;rintro ev w1⟨rfl,hR1,hT1⟩))
    go_ret;refine⟨?_,bG hT hT1 (nR _)⟩;unfold iR;rw[uh HG,uh HQ];exact⟨_,ms,rfl,(uh HMS).tb hT1 hrl,rfl,hR1,hkj,by omega,hj,hml2,uh HXL⟩
   |some c=>
    obtain⟨hlt,hcv⟩:=jB hc;have mM:=λW (h:dB W rb s j)=>BH rb s j true W h (dT hlt);by_cases h10:c=10
    .have HQ:=ab (vf (ws:=ms.map aw.wd) (by rw[hc,h10]));have mT:=λW (h:dB W rb s j)=>Bl rb s ⟨#[10]⟩ j true W h hj hs (by rw[bJ 10 hc];exact dT h10);clear hc hcv h10;go_wp2_with (first|(go_at_call 32;refine(mM _ (uh HR)).mono ?_;clear mM;rintro ev w1⟨rfl,hR1,hT1⟩;have HR1:=ab hR1;clear hR1)|(go_at_call 56;refine(mT _ (uh HR1)).mono ?_;clear mT;rintro ev w2⟨rfl,hR2,hT2⟩))
     go_ret;refine⟨?_,bG (bG hT hT1 (nR _)) hT2 (nR _)⟩;unfold iR;rw[uh HG,uh HQ];exact⟨_,ms,rfl,((uh HMS).tb hT1 hrl).tb hT2 hrl,rfl,hR2,by omega,by omega,by omega,by omega,uh HXL⟩
    have HQ:=ab (rM hc h10 (uh HSt));have HE:=ab (BQ hc h10 (uh HSt));have mT:=λW (h:dB W rb s j)=>Bl rb s ⟨#[10]⟩ j false W h hj hs (by rw[bJ 10 hc];exact dF h10);have mW:=λW (h:dB W rb s j)=>wW rb s j W h hj hs;unfold jk at mW;cases hw:cP s.data.toList [] j with
    |error x=>
     obtain⟨e,p⟩:=x;rw[hw]at mW;have HQ2:Hid (bE s.data.toList (ms.map aw.wd) j=.error (e,p)):=ab (by rw[uh HQ,hw]);unfold jm at mW;clear hc hcv h10 HQ hw;go_wp2_with (first|(go_at_call 32;refine(mM _ (uh HR)).mono ?_;clear mM;rintro ev w1⟨rfl,hR1,hT1⟩;have HR1:=ab hR1;clear hR1)|(go_at_call 56;refine(mT _ (uh HR1)).mono ?_;clear mT;rintro ev w2⟨rfl,hR2,hT2⟩;have HR2:=ab hR2;clear hR2)|(go_at_call 57;refine(mW _ (uh HR2)).mono ?_;clear mW;rintro ev w3⟨⟨bb,rfl,hc⟩,hT3⟩))
     refine⟨rfl,?_,bG (bG (bG hT hT1 (nR _)) hT2 (nR _)) hT3 (nR _)⟩;unfold iR;rw[uh HG,uh HQ2];exact⟨bb,rfl,hc⟩
    |ok x=>
     obtain⟨a,t⟩:=x;rw[hw]at mW;have hjt:=Ga (uh HE) hw;have HQ2:Hid (bE s.data.toList (ms.map aw.wd) j=bE s.data.toList (ms.map aw.wd++[⟨a,j⟩]) t):=ab (by rw[uh HQ,hw];simp only;rw[if_pos hjt]);clear hc hcv h10 HQ hw;go_upto_region 7 with(first|(go_at_call 32;refine(mM _ (uh HR)).mono ?_;clear mM;rintro ev w1⟨rfl,hR1,hT1⟩;have HR1:=ab hR1;clear hR1)|(go_at_call 56;refine(mT _ (uh HR1)).mono ?_;clear mT;rintro ev w2⟨rfl,hR2,hT2⟩;have HR2:=ab hR2;clear hR2)|(go_at_call 57;refine(mW _ (uh HR2)).mono ?_;clear mW;rintro ev w3⟨⟨v3,rfl,hrow3,hR3,hjt2,hts,hal⟩,hT3⟩;obtain⟨ao,n',cap,rfl⟩:=ar hrow3;have HR3:=ab hR3;have HM3:=ab ((((uh HMS).tb hT1 hrl).tb hT2 hrl).tb hT3 hrl);have HO3:Hid (aw.Ok ⟨j,.slice ao n' cap,a⟩ w3 w.heap.size):=ab (od hrow3 (nT hT.size (nT hT1.size hT2.size)));have HRow:=ab ((uh HM3).row.alloc (.cells #[.int .i64 (j:Int),.slice ao n' cap] 148));have hB3:Tb w.heap.size rb w w3:=bG (bG (bG hT hT1 (nR _)) hT2 (nR _)) hT3 (nR _);clear hR3 hrow3 hT1 hT2 hT3)|(at_builtin;refine wpList_append_own _ rfl _ _ 80 rfl w.heap.size 148 i0 _ 2 32 underlying80 hi hz0 hz1 hz2 rfl (by decide) _ ms.length (Ip ms) rfl (uh HRow) ⟨w3.heap.size,0,none⟩ 1 1 [.int .i64 (j:Int),.slice ao n' cap] rfl rfl (World.news_of_block (cs:=#[.int .i64 (j:Int),.slice ao n' cap]) (t:=148) (fr:=(0,0)) (hN _ _)) (by intro u hu;simp only[mC,List.not_mem_nil,or_false]at hu;rcases hu with rfl|rfl<;>rfl) (by unfold maxLen;omega) (by omega) (by have:=hB3.size;simp;omega) ?_;intro v6 w6 hown6 hgrow6 _;have HM6:=ab ((uh HM3).snoc (m:=⟨j,.slice ao n' cap,a⟩) (uh HO3) hown6 hgrow6);clear hown6))
     have hb6:=((bR _ w3).alloc hB3.size _).grown hgrow6 (by have:=hB3.size;simp;omega) (λq hq=>(World.ownsRow.lt (uh HM3).row q hq).1);have hB6:=hB3.trans (Tb.of_below hb6);have hR6:=(uh HR3).below hb6 hrl;have hSk:=sy rb s t w6 hR6 hts (by omega);obtain⟨t2,ht2⟩:=aq (gm s.data.toList t);rw[<-ht2]at hSk;have ht2l:t2<=s.size:=by rw[ht2,zE];exact zC (by rw[<-zE];exact hts)
     have ht2g:t<=t2:=by rw[ht2];exact zp _ _
     have HXL2:Hid (∀m∈ms++[(⟨j,.slice ao n' cap,a⟩:aw)],m.xs.length<=s.size):=ab (λm hm=>by
      rcases mA.1 hm with h'|h'
      .exact uh HXL m h'
      rw[List.mem_singleton]at h';rw[h'];show a.length<=s.size;omega)
     have HL3:Hid (bE s.data.toList [] k=bE s.data.toList ((ms++[(⟨j,.slice ao n' cap,a⟩:aw)]).map aw.wd) t2):=ab (by rw[uh HG,uh HQ2,vh,<-ht2];simp[aw.wd]);have HS3:Hid (Hy s.data.toList ((ms++[(⟨j,.slice ao n' cap,a⟩:aw)]).map aw.wd) t2):=ab (by rw[ht2];exact⟨(li _ _).1,(li _ _).2,by simp⟩);clear ht2 hR6 hgrow6 hb6;go_wp2_with (first|(go_at_call 53;refine hSk.mono ?_;clear hSk;rintro ev w7⟨rfl,hR7,hT7⟩))
     go_roundw;case rel=>
      first
       |exact⟨t2,ms++[⟨j,.slice ao n' cap,a⟩],(uh HM6).tb hT7 hrl,hR7,uh HL3,uh HS3,by omega,ht2l,by simp;omega,bG hB6 hT7 (nR _),uh HXL2⟩
       |((repeat apply Exists.intro);exact⟨⟨t2,ms++[⟨j,.slice ao n' cap,a⟩],(uh HM6).tb hT7 hrl,hR7,uh HL3,uh HS3,by omega,ht2l,by simp;omega,bG hB6 hT7 (nR _),uh HXL2⟩,rfl⟩)
     case measure=>rw[uh HA,hR7.at];omega
 |true=>
  have hcn:s.data.toList[k1]?=some 35:=by simpa using hc
  have mB:=λW (h:dB W rb s k1)=>C4 rb s ⟨#[35]⟩ k1 true W h hk1l (by rw[fP];exact hc);have mC:=λW (h:dB W rb s k1) (h':W.cell? ⟨1,0,none⟩=some (.int .i64 m))=>yf rb s k1 m W h hk1l hs h';obtain⟨k2,hk2⟩:=aq (kr s.data.toList k1);rw[<-hk2]at mC;have hk2g:k1<=k2:=by rw[hk2];exact Ld _ _
  have hk2l:k2<=s.size:=by rw[hk2,zE];exact vT (by rw[<-zE];exact hk1l)
  have HL2:Hid (bE s.data.toList [] k=bE s.data.toList [] k2):=ab (by rw[uh HL1,hk2];exact J0 hcn);have HS2:Hid (Hy s.data.toList [] k2):=ab (by rw[hk2];exact Ik _ _);clear hc hcn hk2;go_enter func33,ntmps33;go_wp2_with (first|(go_at_call 53;refine hS.mono ?_;clear hS;rintro ev w1⟨rfl,hR1,hT1⟩;have HR1:=ab hR1;clear hR1)|(go_at_call 54;refine(mB _ (uh HR1)).mono ?_;clear mB;rintro ev w2⟨rfl,hR2,hb2⟩;have HR2:=ab hR2;clear hR2)|(go_at_call 55;refine(mC _ (uh HR2) (by rw[World.cell?_of_block ((hT1.trans (Tb.of_below (hb2.mono hT1.size))).block 1 hml (by omega))];exact uh HM)).mono ?_;clear mC;rintro ev w3⟨rfl,hR3,hT3⟩;have HR3:=ab hR3;clear hR3))
  go_loopw [3] (λv wr=>∃(j:Nat) (ms:List aw),mU wr w.heap.size v ms/\dB wr rb s j/\bE s.data.toList [] k=bE s.data.toList (ms.map aw.wd) j/\Hy s.data.toList (ms.map aw.wd) j/\k<=j/\j<=s.size/\ms.length<=j/\Tb w.heap.size rb w wr/\(∀m∈ms,m.xs.length<=s.size)) (λ_ wr=>s.size-xM wr rb);case atStart=>exact⟨k2,[],⟨World.ownsRow_nil _ _ _ _,by simp⟩,uh HR3,uh HL2,uh HS2,(by omega),hk2l,by simp,(hT1.trans (Tb.of_below (hb2.mono hT1.size))).trans (hT3.mono (nT hT1.size hb2.size)),by simp⟩
  case round=>
   obtain⟨j,ms,hM,hR,hG,hSt,hkj,hj,hml2,hT,hXL⟩:=hrel;have HXL:=ab hXL;clear hXL;have HA:=ab hR.at
   have HR:=ab hR;have HG:=ab hG;have HMS:=ab hM;have HSt:=ab hSt;clear hR hG hM hSt;cases hc:s.data.toList[j]? with
   |none=>
    have hjs:decide (j<s.size)=false:=by have:=List.getElem?_eq_none_iff.1 hc;rw[<-zE]at this;simp;omega
    have HQ:=ab (ez (ws:=ms.map aw.wd) hc);have mM:=λW (h:dB W rb s j)=>BH rb s j false W h hjs;have hje:j=s.size:=by simp at hjs;omega
    clear hc hjs;go_wp2_with (first|(go_at_call 32;refine(mM _ (uh HR)).mono ?_;clear mM;rintro ev w1⟨rfl,hR1,hT1⟩))
    go_ret;refine⟨?_,bG hT hT1 (nR _)⟩;unfold iR;rw[uh HG,uh HQ];exact⟨_,ms,rfl,(uh HMS).tb hT1 hrl,rfl,hR1,hkj,by omega,hj,hml2,uh HXL⟩
   |some c=>
    obtain⟨hlt,hcv⟩:=jB hc;have mM:=λW (h:dB W rb s j)=>BH rb s j true W h (dT hlt);by_cases h10:c=10
    .have HQ:=ab (vf (ws:=ms.map aw.wd) (by rw[hc,h10]));have mT:=λW (h:dB W rb s j)=>Bl rb s ⟨#[10]⟩ j true W h hj hs (by rw[bJ 10 hc];exact dT h10);clear hc hcv h10;go_wp2_with (first|(go_at_call 32;refine(mM _ (uh HR)).mono ?_;clear mM;rintro ev w1⟨rfl,hR1,hT1⟩;have HR1:=ab hR1;clear hR1)|(go_at_call 56;refine(mT _ (uh HR1)).mono ?_;clear mT;rintro ev w2⟨rfl,hR2,hT2⟩))
     go_ret;refine⟨?_,bG (bG hT hT1 (nR _)) hT2 (nR _)⟩;unfold iR;rw[uh HG,uh HQ];exact⟨_,ms,rfl,((uh HMS).tb hT1 hrl).tb hT2 hrl,rfl,hR2,by omega,by omega,by omega,by omega,uh HXL⟩
    have HQ:=ab (rM hc h10 (uh HSt));have HE:=ab (BQ hc h10 (uh HSt));have mT:=λW (h:dB W rb s j)=>Bl rb s ⟨#[10]⟩ j false W h hj hs (by rw[bJ 10 hc];exact dF h10);have mW:=λW (h:dB W rb s j)=>wW rb s j W h hj hs;unfold jk at mW;cases hw:cP s.data.toList [] j with
    |error x=>
     obtain⟨e,p⟩:=x;rw[hw]at mW;have HQ2:Hid (bE s.data.toList (ms.map aw.wd) j=.error (e,p)):=ab (by rw[uh HQ,hw]);unfold jm at mW;clear hc hcv h10 HQ hw;go_wp2_with (first|(go_at_call 32;refine(mM _ (uh HR)).mono ?_;clear mM;rintro ev w1⟨rfl,hR1,hT1⟩;have HR1:=ab hR1;clear hR1)|(go_at_call 56;refine(mT _ (uh HR1)).mono ?_;clear mT;rintro ev w2⟨rfl,hR2,hT2⟩;have HR2:=ab hR2;clear hR2)|(go_at_call 57;refine(mW _ (uh HR2)).mono ?_;clear mW;rintro ev w3⟨⟨bb,rfl,hc⟩,hT3⟩))
     refine⟨rfl,?_,bG (bG (bG hT hT1 (nR _)) hT2 (nR _)) hT3 (nR _)⟩;unfold iR;rw[uh HG,uh HQ2];exact⟨bb,rfl,hc⟩
    |ok x=>
     obtain⟨a,t⟩:=x;rw[hw]at mW;have hjt:=Ga (uh HE) hw;have HQ2:Hid (bE s.data.toList (ms.map aw.wd) j=bE s.data.toList (ms.map aw.wd++[⟨a,j⟩]) t):=ab (by rw[uh HQ,hw];simp only;rw[if_pos hjt]);clear hc hcv h10 HQ hw;go_upto_region 7 with(first|(go_at_call 32;refine(mM _ (uh HR)).mono ?_;clear mM;rintro ev w1⟨rfl,hR1,hT1⟩;have HR1:=ab hR1;clear hR1)|(go_at_call 56;refine(mT _ (uh HR1)).mono ?_;clear mT;rintro ev w2⟨rfl,hR2,hT2⟩;have HR2:=ab hR2;clear hR2)|(go_at_call 57;refine(mW _ (uh HR2)).mono ?_;clear mW;rintro ev w3⟨⟨v3,rfl,hrow3,hR3,hjt2,hts,hal⟩,hT3⟩;obtain⟨ao,n',cap,rfl⟩:=ar hrow3;have HR3:=ab hR3;have HM3:=ab ((((uh HMS).tb hT1 hrl).tb hT2 hrl).tb hT3 hrl);have HO3:Hid (aw.Ok ⟨j,.slice ao n' cap,a⟩ w3 w.heap.size):=ab (od hrow3 (nT hT.size (nT hT1.size hT2.size)));have HRow:=ab ((uh HM3).row.alloc (.cells #[.int .i64 (j:Int),.slice ao n' cap] 148));have hB3:Tb w.heap.size rb w w3:=bG (bG (bG hT hT1 (nR _)) hT2 (nR _)) hT3 (nR _);clear hR3 hrow3 hT1 hT2 hT3)|(at_builtin;refine wpList_append_own _ rfl _ _ 80 rfl w.heap.size 148 i0 _ 2 32 underlying80 hi hz0 hz1 hz2 rfl (by decide) _ ms.length (Ip ms) rfl (uh HRow) ⟨w3.heap.size,0,none⟩ 1 1 [.int .i64 (j:Int),.slice ao n' cap] rfl rfl (World.news_of_block (cs:=#[.int .i64 (j:Int),.slice ao n' cap]) (t:=148) (fr:=(0,0)) (hN _ _)) (by intro u hu;simp only[mC,List.not_mem_nil,or_false]at hu;rcases hu with rfl|rfl<;>rfl) (by unfold maxLen;omega) (by omega) (by have:=hB3.size;simp;omega) ?_;intro v6 w6 hown6 hgrow6 _;have HM6:=ab ((uh HM3).snoc (m:=⟨j,.slice ao n' cap,a⟩) (uh HO3) hown6 hgrow6);clear hown6))
     have hb6:=((bR _ w3).alloc hB3.size _).grown hgrow6 (by have:=hB3.size;simp;omega) (λq hq=>(World.ownsRow.lt (uh HM3).row q hq).1);have hB6:=hB3.trans (Tb.of_below hb6);have hR6:=(uh HR3).below hb6 hrl;have hSk:=sy rb s t w6 hR6 hts (by omega);obtain⟨t2,ht2⟩:=aq (gm s.data.toList t);rw[<-ht2]at hSk;have ht2l:t2<=s.size:=by rw[ht2,zE];exact zC (by rw[<-zE];exact hts)
     have ht2g:t<=t2:=by rw[ht2];exact zp _ _
     have HXL2:Hid (∀m∈ms++[(⟨j,.slice ao n' cap,a⟩:aw)],m.xs.length<=s.size):=ab (λm hm=>by
      rcases mA.1 hm with h'|h'
      .exact uh HXL m h'
      rw[List.mem_singleton]at h';rw[h'];show a.length<=s.size;omega)
     have HL3:Hid (bE s.data.toList [] k=bE s.data.toList ((ms++[(⟨j,.slice ao n' cap,a⟩:aw)]).map aw.wd) t2):=ab (by rw[uh HG,uh HQ2,vh,<-ht2];simp[aw.wd]);have HS3:Hid (Hy s.data.toList ((ms++[(⟨j,.slice ao n' cap,a⟩:aw)]).map aw.wd) t2):=ab (by rw[ht2];exact⟨(li _ _).1,(li _ _).2,by simp⟩);clear ht2 hR6 hgrow6 hb6;go_wp2_with (first|(go_at_call 53;refine hSk.mono ?_;clear hSk;rintro ev w7⟨rfl,hR7,hT7⟩))
     go_roundw;case rel=>
      first
       |exact⟨t2,ms++[⟨j,.slice ao n' cap,a⟩],(uh HM6).tb hT7 hrl,hR7,uh HL3,uh HS3,by omega,ht2l,by simp;omega,bG hB6 hT7 (nR _),uh HXL2⟩
       |((repeat apply Exists.intro);exact⟨⟨t2,ms++[⟨j,.slice ao n' cap,a⟩],(uh HM6).tb hT7 hrl,hR7,uh HL3,uh HS3,by omega,ht2l,by simp;omega,bG hB6 hT7 (nR _),uh HXL2⟩,rfl⟩)
     case measure=>rw[uh HA,hR7.at];omega
def qo(l:LU):Nat:=(l.takeWhile iK).length
def pf(w w':World)(ev:Ending)(s:BA):Prop:=
 if 1500<s.size then jm w' ev 10 1500
 else if qo s.data.toList<s.size then jm w' ev 5 (qo s.data.toList)
 else ∃rb,ev=.returned (.pointer (some ⟨rb,0,none⟩))/\w.heap.size<=rb/\dB w' rb s 0
theorem MD(c:UInt8):decide (c.toNat=10\/(32<=c.toNat/\c.toNat<=126))=iK c:=rfl
theorem qc(s:BA)(w:World): Cl 31 #[.string s] w λev w'=>pf w w' ev s/\Bw w w':=by
 by_cases hb:1500<s.size
 .have g1:(1500:Int)<(s.size:Int):=by omega
  have hF:=aZ 10 1500 w;have HN:Hid (∀w' ev,jm w' ev 10 1500->pf w w' ev s):=ab (λw' ev h=>by unfold pf;rw[if_pos hb];exact h);clear hb;go_enter func31,ntmps31;go_wp2_with (go_at_call 35;refine hF.mono ?_;clear hF;rintro ev w8⟨bb,rfl,hc,hb8⟩)
  exact⟨rfl,uh HN _ _ ⟨bb,rfl,hc⟩,hb8⟩
 have g1:¬(1500:Int)<(s.size:Int):=by omega
 have HNB:Hid (¬1500<s.size):=ab hb;have hsl:s.size<=1500:=by omega
 clear hb;go_enter func31,ntmps31;go_wp2_with fail;go_loop [10] (λi=>∃k:Nat,k<=s.size/\i=.int .i64 k/\(s.data.toList.take k).all iK=true) (λi=>s.size-(intOf i).toNat);case atStart=>exact⟨0,Nat.zero_le _,rfl,rfl⟩
 case round=>
  obtain⟨k,hk,rfl,ha⟩:=hrel;have A:=ab ha;clear ha;by_cases hlt:k<s.size
  .have hM:=Ih s[k].toNat w;rw[MD]at hM;cases h1:iK s[k]with
   |true=>
    have B:=ab (gY s k hlt (uh A) h1);rw[h1]at hM;clear h1;go_wp2_with (go_at_call 52;refine hM.mono ?_;clear hM;rintro ev w1⟨rfl,hw⟩;obtain rfl:=hw.symm)
    go_round;case rel=>exact⟨k+1,by omega,by go_num,uh B⟩
    case measure=>simp[intOf];omega
   |false=>
    have B:=ab (BL s.data.toList k (by rw[<-zE];exact hlt) (uh A) h1);have hF:=aZ 5 k w;rw[h1]at hM;clear h1;go_wp2_with (first|(go_at_call 52;refine hM.mono ?_;clear hM;rintro ev w1⟨rfl,hw⟩;obtain rfl:=hw.symm)|(go_at_call 35;refine hF.mono ?_;clear hF;rintro ev w8⟨bb,rfl,hc,hb8⟩))
    refine⟨rfl,?_,hb8⟩;unfold pf;rw[if_neg (uh HNB),show qo s.data.toList=k from uh B,if_pos hlt];exact⟨bb,rfl,hc⟩
  have B:Hid (qo s.data.toList=s.size):=ab (by unfold qo;rw[zE];exact FZ _ (by have:=uh A;rwa [List.take_of_length_le (by rw[<-zE];omega)]at this));go_wp2;go_ret;refine⟨?_,eD⟩;unfold pf;rw[if_neg (uh HNB),uh B,if_neg (Nat.lt_irrefl _)];exact⟨_,rfl,nR _,hN _ _⟩
def an:List bM->Option LU
 |[]=>some []
 |.inl c::r=>(an r).map (c::·)
 |.inr (_,_)::_=>none
theorem zm(xs:List bM)(c:UInt8):an (xs++[.inl c])=(an xs).map (·++[c]):=by
 induction xs with
 |nil=>rfl
 |cons a r ih=>
  cases a with
  |inl d=>simp only[List.cons_append,an,ih,Option.map_map];rfl
  |inr pA=>obtain⟨n,k⟩:=pA;rfl
theorem Ej(xs:List bM)(n:LU)(k:Nat):an (xs++[.inr (n,k)])=none:=by
 induction xs with
 |nil=>rfl
 |cons a r ih=>
  cases a with
  |inl d=>simp only[List.cons_append,an,ih];rfl
  |inr pA=>obtain⟨n,k⟩:=pA;rfl
theorem pF(xs:List bM):(∀l,an xs=some l->(l=[]/\parts xs=[])\/(l≠[]/\parts xs=[⟨bt l,false,0⟩]))/\(an xs=none->∃p∈parts xs,p.isVar=true):=by
 induction xs using lS with
 |h0=>exact⟨λl h=>by cases h;exact .inl ⟨rfl,rfl⟩,λh=>by cases h⟩
 |h1 xs a ih=>
  rw[dJ];cases a with
  |inr pA=>obtain⟨n,k⟩:=pA;rw[Ej];exact⟨λl h=>(by cases h),λ_=>⟨⟨bt n,true,k⟩,by simp[Dl],rfl⟩⟩
  |inl c=>
   rw[zm];refine⟨λl h=>?_,λh=>?_⟩
   .cases hx:an xs with
    |none=>rw[hx]at h;cases h
    |some l0=>
     rw[hx]at h;injection h with h;subst h;rcases ih.1 l0 hx with⟨rfl,e⟩|⟨_,e⟩
     .refine .inr ⟨by simp,?_⟩;rw[e];rfl
     refine .inr ⟨by simp,?_⟩;rw[e];show lU ([]++[⟨bt l0,false,0⟩]) (bt [c])=_;rw[jb rfl,gn];rfl
   cases hx:an xs with
   |some l0=>rw[hx]at h;cases h
   |none=>
    obtain⟨p,hp,hv⟩:=ih.2 hx;rcases eR (parts xs)with hc|⟨qs,q,he,hq⟩
    .refine⟨p,?_,hv⟩;show p∈lU (parts xs) (bt [c]);rw[iC (by
      rintro q hq;rcases hc with h|⟨qs,r,h,hr⟩
      .rw[h]at hq;cases hq
      rw[h]at hq;simp at hq;subst hq;exact hr)]
     simp[hp]
    rw[he]at hp;rcases mA.1 hp with h'|h'
    .refine⟨p,?_,hv⟩;show p∈lU (parts xs) (bt [c]);rw[he,jb hq];simp[h']
    rw[List.mem_singleton]at h';subst h';rw[hq]at hv;cases hv
abbrev aw.val(m:aw):Value:=.agg #[.int .i64 (m.place:Int),m.v]
theorem yw{w:World}{B e z:Nat}{v:Value}{xs:List Value}(h:w.ownsRow B e z v 0 xs):v=.slice none 0 0\/∃g cap,v=.slice (some ⟨g,0,none⟩) 0 cap:=by
 rcases h.2 with⟨rfl,_⟩|⟨g,cap,cur,rfl,_⟩
 .exact .inl rfl
 exact .inr ⟨g,cap,rfl⟩
theorem fC(m:aw)(B:Nat)(w:World)(h:m.Ok w B)(hl:(parts m.xs).length<=1500): Cl 116 #[m.val] w λev w'=>∃t:BA,ev=.returned (.tuple #[.string t,.bool (an m.xs).isSome])/\Hid (t.data.toList=(an m.xs).getD [])/\Bw w w':=by
 obtain⟨place,v,xs⟩:=m;have hp:=pF xs;unfold aw.Ok at h;simp only at h hp hl⊢;cases hx:an xs with
 |some l=>
  rcases hp.1 l hx with⟨rfl,e⟩|⟨hne,e⟩
  .rw[e]at h;rcases yw h with rfl|⟨g,cap,rfl⟩
   all_goals
    clear hp hx h e hl;go_enter func116,ntmps116;go_wp2_with fail;go_ret2;exact⟨_,rfl,ab rfl,eD⟩
  rw[e]at h;obtain⟨g,cap,rfl,_,_⟩:=World.ownsRow.form h (by simp);have q0:w.cell? ⟨g,0,none⟩=some (.string (bt l)):=by rw[World.ownsRow.cellAt h _ (by simp)];rfl
  have q1:w.cell? ⟨g,1,none⟩=some (.bool false):=by rw[World.ownsRow.cellAt h _ (by simp)];rfl
  have n0:=World.new_ne w ⟨g,0,none⟩ q0;clear hp hx h e hl;go_enter func116,ntmps116;go_wp2_with fail;go_ret2;exact⟨_,rfl,ab (aK l),eD⟩
 |none=>
  obtain⟨p,hpm,hv⟩:=hp.2 hx;by_cases h1:(parts xs).length=1
  .have e:parts xs=[p]:=by
    match hq:parts xs,h1 with
    |[q],_=>rw[hq]at hpm;simp at hpm;rw[hpm]
   rw[e]at h;obtain⟨g,cap,rfl,_,_⟩:=World.ownsRow.form h (by simp);have q1:w.cell? ⟨g,1,none⟩=some (.bool true):=by rw[World.ownsRow.cellAt h _ (by simp)];show some (Value.bool p.isVar)=_;rw[hv]
   have n0:=World.new_ne w ⟨g,1,none⟩ q1;clear hp hx h e hl h1 hpm hv;go_enter func116,ntmps116;go_wp2_with fail;go_ret2;exact⟨_,rfl,ab rfl,eD⟩
  obtain⟨n,hn⟩:=aq ((parts xs).length);rw[<-hn]at h h1 hl;have h0:0<n:=by rw[hn];exact List.length_pos_of_mem hpm
  obtain⟨g,cap,rfl,_,_⟩:=World.ownsRow.form h h0;have g1:¬(n:Int)=0:=by omega
  have g2:¬(n:Int)=1:=by omega
  have g3:((n:Int)==0)=false:=by simpa using g1
  have g4:((n:Int)==1)=false:=by simpa using g2
  clear hp hx h hn h1 hpm hv h0 g1 g2;go_enter func116,ntmps116;go_wp2_with fail;go_ret2;exact⟨_,rfl,ab rfl,eD⟩
theorem qg(m:aw)(t:BA)(B:Nat)(w:World)(h:m.Ok w B)(hl:(parts m.xs).length<=1500): Cl 118 #[m.val,.string t] w λev w'=>ev=.returned (.bool (an m.xs==some t.data.toList))/\Bw w w':=by
 have hb0:Bw w (w.alloc (.cells #[.int .i64 (m.place:Int),m.v] 148)):=eD;have hP:=fC m B (w.alloc (.cells #[.int .i64 (m.place:Int),m.v] 148)) (World.ownsRow.alloc h _) hl;obtain⟨ao,n',cap,hv⟩:=ar h;obtain⟨place,v,xs⟩:=m;simp only at hv hP hb0⊢;subst hv;clear h;cases hx:an xs with
 |none=>
  rw[hx]at hP;simp only[Option.isSome_none,Option.getD_none]at hP;clear hx;go_enter func118,ntmps118;go_wp2_with (go_at_call 116;refine hP.mono ?_;clear hP;rintro ev w1⟨u,rfl,HU,hb1⟩)
  go_ret;exact⟨rfl,hb0.trans (hb1.mono hb0.size)⟩
 |some l=>
  rw[hx]at hP;simp only[Option.isSome_some,Option.getD_some]at hP;clear hx;go_enter func118,ntmps118;go_wp2_with (go_at_call 116;refine hP.mono ?_;clear hP;rintro ev w1⟨u,rfl,HU,hb1⟩)
  go_ret;refine⟨ag ?_,hb0.trans (hb1.mono hb0.size)⟩;rw[tD,tD,uh HU,Bool.eq_iff_iff];simp
end Go.Proofs.YtjhobnjdfhkohaaGreatDoor
namespace Go.Proofs.YtjhobnjdfhkohaaGreatDoor
open Go.Proofs.Tryz
open Go.RowKit Go.Maps
def af:Nat->(Int×Int×Nat×Nat)
 |0=>(1,3,137,138)
 |1=>(2,3,139,140)
 |2=>(2,2,141,142)
 |3=>(1,1,141,143)
 |4=>(1,2,144,145)
 |5=>(2,2,141,146)
 |6=>(2,2,147,148)
 |_=>(1,1,141,149)
def gz(i:Nat):Value:=.agg #[.int .i64 (af i).1,.int .i64 (af i).2.1,.func (.func (af i).2.2.1) #[] #[],.func (.func (af i).2.2.2) #[] #[]]
theorem C2:∀i,i<8->∀j,j<8->(af i).2.2.2=(af j).2.2.2->i=j:=by decide
theorem C6{i j:Nat}(hi:i<8)(hj:j<8)(h:gz i=gz j):i=j:=by refine C2 i hi j hj ?_;unfold gz at h;injection h with h;injection h with h;simp only[List.cons.injEq,and_true]at h;obtain⟨_,_,_,h⟩:=h;injection h with h;injection h
def RR:Value->Option (DataW Unit×List MemPlace)
 |.agg ⟨[.int .i64 a,.int .i64 b,.func (.func f) ⟨[]⟩ ⟨[]⟩,.func (.func g) ⟨[]⟩ ⟨[]⟩]⟩=>((List.range 8).find? λi=>decide (af i=(a,b,f,g))).map λi:Nat=>(.lit (.int .i64 (i:Int)),[])
 |_=>none
theorem iZ{i:Nat}(hi:i<8):RR (gz i)=some (.lit (.int .i64 (i:Int)),[]):=by
 rcases i with _|_|_|_|_|_|_|_|i<;>first|rfl|omega
theorem L5{v:Value}{y:DataW Unit×List MemPlace}(h:RR v=some y):∃i:Nat,i<8/\v=gz i/\y.1=.lit (.int .i64 (i:Int)):=by
 unfold RR at h;split at h
 .rename_i a b f g;obtain⟨i,hi,rfl⟩:=Option.map_eq_some_iff.1 h;have h2:=List.find?_some hi;have h1:=List.mem_range.1 (List.mem_of_find?_eq_some hi);rw[decide_eq_true_eq]at h2;exact⟨i,h1,by unfold gz;rw[h2],rfl⟩
 cases h
def DK(L:List (LU×Nat)):DataW Unit:=.map (L.map λp=>(Lit.string p.1,DataW.lit (.int .i64 (p.2:Int))))
theorem yn(L:List (LU×Nat))(x:LU)(zd:DataW Unit):(DK L).atKey (.string x) zd=match L.find? (λp=>p.1==x)with|some p=>.lit (.int .i64 (p.2:Int))|none=>zd:=by
 induction L with
 |nil=>rfl
 |cons p r ih=>
  simp only[DK,DataW.atKey,List.map_cons,List.find?_cons]at ih⊢;by_cases h:p.1=x
  .subst h;simp[Lit.sameKey]
  have h1:(Lit.string p.1).sameKey (Lit.string x)=false:=by simp[Lit.sameKey,h]
  have h2:(p.1==x)=false:=by simp[h]
  rw[h1,h2];exact ih
def CM:List (LU×Nat):=[([65,68,68],2),([67,79,80,89],1),([69,78,86],6),([70,82,79,77],0),([76,73,78,75],5),([77,75,68,73,82],4),([82,77],3),([87,79,82,75,68,73,82],7)]
def wh(t:LU):Option Nat:=(CM.find? (λp=>p.1==t)).map (·.2)
theorem GY{t:LU}{i:Nat}(h:wh t=some i):i<8:=by
 unfold wh at h;cases hf:CM.find? (λp=>p.1==t)with
 |none=>rw[hf]at h;cases h
 |some p=>
  rw[hf]at h;injection h with h;have hm:=List.mem_of_find?_eq_some hf;have:∀p∈CM,p.2<8:=by decide
  rw[<-h];exact this p hm
theorem Iy:((((((((DataW.map (H:=Unit) []).put (.string [70,82,79,77]) (.lit (.int .i64 0))).put (.string [67,79,80,89]) (.lit (.int .i64 1))).put (.string [65,68,68]) (.lit (.int .i64 2))).put (.string [82,77]) (.lit (.int .i64 3))).put (.string [77,75,68,73,82]) (.lit (.int .i64 4))).put (.string [76,73,78,75]) (.lit (.int .i64 5))).put (.string [69,78,86]) (.lit (.int .i64 6))).put (.string [87,79,82,75,68,73,82]) (.lit (.int .i64 7))=DK CM:=by kernel_rfl
def TM(w:World)(b n:Nat):Prop:=w.ownsMap prog 9 RR b n (DK CM)
theorem TM.look{w:World}{b n:Nat}(h:TM w b n)(s:BA)(hs:s.size<=1073741824): (wh s.data.toList=none/\(Instr.lookup 211 (.map (some b)) (.string s) true).run prog w=.ok (.tuple #[.agg #[.int .i64 0,.int .i64 0,.nilFunc,.nilFunc],.bool false]) w)\/∃i:Nat,wh s.data.toList=some i/\(Instr.lookup 211 (.map (some b)) (.string s) true).run prog w=.ok (.tuple #[gz i,.bool true]) w:=by
 obtain⟨es,clock,hb,F,_,hD⟩:=h;have hkey:keyOf prog 9 (.string s)=some (.string s.data.toList):=WideMaps.keyOf_string_mk underlying9 (by unfold maxLen;omega);rcases Maps.fit_look true (Maps.string_keyed underlying9) underlying211 (zeroValue84 w) hb F hkey with⟨hrun,_,hat⟩|⟨e0,y,_,_,hrun,hRv,hat,_⟩
 .refine .inl ⟨?_,hrun⟩;rw[<-hD]at hat
  have h1:=hat .nil;rw[yn]at h1;unfold wh;cases hf:CM.find? (λp=>p.1==s.data.toList)with
  |none=>rfl
  |some z=>rw[hf]at h1;cases h1
 rw[<-hD]at hat
 have h1:=hat .nil;rw[yn]at h1;obtain⟨q,hq,hv,hy⟩:=L5 hRv;unfold wh;cases hf:CM.find? (λp=>p.1==s.data.toList)with
 |none=>rw[hf]at h1;rw[hy]at h1;cases h1
 |some z=>
  rw[hf,hy]at h1;have hz:z.2=q:=by
   have h2:((z.2:Nat):Int)=(q:Int):=by simp only[DataW.lit.injEq,Lit.int.injEq,true_and]at h1;exact h1
   omega
  refine .inr ⟨q,by rw[<-hz];rfl,?_⟩;rw[hrun,hv];rfl
theorem tJ(w:World): Cl 117 #[] w λev w'=>∃b:Nat,ev=.returned (.map (some b))/\w.heap.size<=b/\TM w' b 8/\Bw w w':=by have hmm:=@run_makeMap prog;have o0:=World.ownsMap_made w prog 9 RR;have hb0:Bw w (w.alloc (.map #[] 0)):=eD;obtain⟨w1,r1,o1,g1⟩:=World.ownsMap.update o0 (Maps.string_keyed underlying9) underlying211 (by unfold maxLen;omega) (key:=.string ⟨#[70,82,79,77]⟩) (kl:=.string [70,82,79,77]) (WideMaps.keyOf_string_mk underlying9 (s:=⟨#[70,82,79,77]⟩) (by unfold maxLen;decide)) (iZ (i:=0) (by decide));obtain⟨w2,r2,o2,g2⟩:=World.ownsMap.update o1 (Maps.string_keyed underlying9) underlying211 (by unfold maxLen;omega) (key:=.string ⟨#[67,79,80,89]⟩) (kl:=.string [67,79,80,89]) (WideMaps.keyOf_string_mk underlying9 (s:=⟨#[67,79,80,89]⟩) (by unfold maxLen;decide)) (iZ (i:=1) (by decide));obtain⟨w3,r3,o3,g3⟩:=World.ownsMap.update o2 (Maps.string_keyed underlying9) underlying211 (by unfold maxLen;omega) (key:=.string ⟨#[65,68,68]⟩) (kl:=.string [65,68,68]) (WideMaps.keyOf_string_mk underlying9 (s:=⟨#[65,68,68]⟩) (by unfold maxLen;decide)) (iZ (i:=2) (by decide));obtain⟨w4,r4,o4,g4⟩:=World.ownsMap.update o3 (Maps.string_keyed underlying9) underlying211 (by unfold maxLen;omega) (key:=.string ⟨#[82,77]⟩) (kl:=.string [82,77]) (WideMaps.keyOf_string_mk underlying9 (s:=⟨#[82,77]⟩) (by unfold maxLen;decide)) (iZ (i:=3) (by decide));obtain⟨w5,r5,o5,g5⟩:=World.ownsMap.update o4 (Maps.string_keyed underlying9) underlying211 (by unfold maxLen;omega) (key:=.string ⟨#[77,75,68,73,82]⟩) (kl:=.string [77,75,68,73,82]) (WideMaps.keyOf_string_mk underlying9 (s:=⟨#[77,75,68,73,82]⟩) (by unfold maxLen;decide)) (iZ (i:=4) (by decide));obtain⟨w6,r6,o6,g6⟩:=World.ownsMap.update o5 (Maps.string_keyed underlying9) underlying211 (by unfold maxLen;omega) (key:=.string ⟨#[76,73,78,75]⟩) (kl:=.string [76,73,78,75]) (WideMaps.keyOf_string_mk underlying9 (s:=⟨#[76,73,78,75]⟩) (by unfold maxLen;decide)) (iZ (i:=5) (by decide));obtain⟨w7,r7,o7,g7⟩:=World.ownsMap.update o6 (Maps.string_keyed underlying9) underlying211 (by unfold maxLen;omega) (key:=.string ⟨#[69,78,86]⟩) (kl:=.string [69,78,86]) (WideMaps.keyOf_string_mk underlying9 (s:=⟨#[69,78,86]⟩) (by unfold maxLen;decide)) (iZ (i:=6) (by decide));obtain⟨w8,r8,o8,g8⟩:=World.ownsMap.update o7 (Maps.string_keyed underlying9) underlying211 (by unfold maxLen;omega) (key:=.string ⟨#[87,79,82,75,68,73,82]⟩) (kl:=.string [87,79,82,75,68,73,82]) (WideMaps.keyOf_string_mk underlying9 (s:=⟨#[87,79,82,75,68,73,82]⟩) (by unfold maxLen;decide)) (iZ (i:=7) (by decide));have hB1:=hb0.grown g1 hb0.size (λq hq=>by cases hq;exact nR _);have hB2:=hB1.grown g2 hB1.size (λq hq=>by cases hq;exact nR _);have hB3:=hB2.grown g3 hB2.size (λq hq=>by cases hq;exact nR _);have hB4:=hB3.grown g4 hB3.size (λq hq=>by cases hq;exact nR _);have hB5:=hB4.grown g5 hB4.size (λq hq=>by cases hq;exact nR _);have hB6:=hB5.grown g6 hB5.size (λq hq=>by cases hq;exact nR _);have hB7:=hB6.grown g7 hB6.size (λq hq=>by cases hq;exact nR _);have hB8:=hB7.grown g8 hB7.size (λq hq=>by cases hq;exact nR _);have HO:Hid (TM w8 w.heap.size 8):=ab (by unfold TM;rw[<-Iy];exact o8);unfold gz at r1 r2 r3 r4 r5 r6 r7 r8;simp only[af]at r1 r2 r3 r4 r5 r6 r7 r8;clear o0 o1 o2 o3 o4 o5 o6 o7 o8 g1 g2 g3 g4 g5 g6 g7 g8 hB1 hB2 hB3 hB4 hB5 hB6 hB7 hb0;go_enter func117,ntmps117;go_wp2_with fail;go_ret;exact⟨_,rfl,nR _,uh HO,hB8⟩
end Go.Proofs.YtjhobnjdfhkohaaGreatDoor
