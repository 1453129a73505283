import Derived.Test.YtjhobnjdfhkohaaGreatDoorXI
set_option linter.all false
set_option maxHeartbeats 4000000
set_option maxRecDepth 10000
namespace Go.Proofs.YtjhobnjdfhkohaaGreatDoor
open Go.Proofs.Tryz
open Go.RowKit
theorem ko(B rb wb:Nat)(s p:BA)(k:Nat)(pl:Int)(xs:List bM)(b:Bool)(w:World)(h:RW w B rb wb s k pl xs)(hk:k<=s.size)(hb:gM s k p=b): Cl 54 #[.pointer (some ⟨rb,0,none⟩),.string p] w λe w'=>e=.returned (.bool b)/\RW w' B rb wb s k pl xs/\Tb B rb w w':=by refine(C4 rb s p k b w h.rdr hk hb).mono ?_;rintro e w'⟨rfl,_,hb'⟩;exact⟨rfl,h.below hb',Tb.of_below (hb'.mono h.bl)⟩
theorem KC(B rb wb:Nat)(s:BA)(k:Nat)(pl:Int)(xs:List bM)(b:Bool)(w:World)(h:RW w B rb wb s k pl xs)(hb:decide (k<s.size)=b): Cl 32 #[.pointer (some ⟨rb,0,none⟩)] w λe w'=>e=.returned (.bool b)/\RW w' B rb wb s k pl xs/\Tb B rb w w':=by refine(yM rb s k b w h.rdr hb).mono ?_;rintro e w'⟨rfl,_,hb'⟩;exact⟨rfl,h.below hb',Tb.of_below (hb'.mono h.bl)⟩
theorem tE(B rb wb:Nat)(s p:BA)(k:Nat)(pl:Int)(xs:List bM)(b:Bool)(w:World)(h:RW w B rb wb s k pl xs)(hk:k<=s.size)(hs:s.size<=1500)(hb:gM s k p=b): Cl 56 #[.pointer (some ⟨rb,0,none⟩),.string p] w λe w'=>e=.returned (.bool b)/\RW w' B rb wb s (if b=true then k+p.size else k) pl xs/\Tb B rb w w':=by refine(kL rb s p k w h.rdr hk (by omega)).mono ?_;rintro e w'⟨rfl,hr,ht⟩;rw[hb]at hr;exact⟨by rw[hb],h.to ht hr,ht.mono h.bl⟩
theorem Kr(B rb wb:Nat)(s:BA)(k:Nat)(pl:Int)(xs:List bM)(b:Bool)(w:World)(h:RW w B rb wb s k pl xs)(hk:k<=s.size)(hb:iJ s.data.toList k=b): Cl 83 #[.pointer (some ⟨rb,0,none⟩)] w λe w'=>e=.returned (.bool b)/\RW w' B rb wb s k pl xs/\Tb B rb w w':=by refine(nO rb s k w h.rdr hk).mono ?_;rintro e w'⟨rfl,hb'⟩;exact⟨by rw[hb],h.below hb',Tb.of_below (hb'.mono h.bl)⟩
theorem ff{l:LU}{i k:Nat}{acc:List bM}(h:l[k]?=none):dU l i acc k=.error (5,i):=by
 rw[dU];split
 .rfl
 rename_i c h';rw[h]at h';cases h'
theorem jH{l:LU}{i k:Nat}{acc:List bM}{c:UInt8}(h:l[k]?=some c):dU l i acc k=if c=10 then .error (5,i) else if c=34 then .ok (acc,k+1) else if c=36 then
 match ie l k with
 |none=>.error (5,k)
 |some (n,t)=>if k<t then dU l i (acc++[.inr (n,k)]) t else .error (5,k)
 else if c=92 then
  match l[k+1]? with
  |none=>.error (5,k)
  |some d=>if Ai d=true then dU l i (acc++[.inl d]) (k+2) else .error (5,k)
 else dU l i (acc++[.inl c]) (k+1):=by
 rw[dU];split
 .rename_i h';rw[h]at h';cases h'
 rename_i d h';rw[h]at h';cases h';rfl
theorem bJ{s:BA}{k:Nat}{c:UInt8}(d:UInt8)(h:s.data.toList[k]?=some c):gM s k ⟨#[d]⟩=decide (c=d):=by rw[fP,h,Bool.eq_iff_iff];simp
theorem JG{s:BA}{k:Nat}(d:UInt8)(h:s.data.toList[k]?=none):gM s k ⟨#[d]⟩=false:=by rw[fP,h];rfl
def iy(w:World)(ev:Ending)(B rb wb:Nat)(s:BA)(i:Nat)(pl:Int)(xs:List bM)(k:Nat):Prop:=match dU s.data.toList i xs k with
 |.error (e,p)=>jm w ev e p
 |.ok (ys,t)=>ev=.returned (.tuple #[])/\RW w B rb wb s t pl ys/\k<=t/\t<=s.size/\ys.length<=t
theorem iy.bad{w:World}{ev:Ending}{B rb wb:Nat}{s:BA}{i:Nat}{pl:Int}{xs ys:List bM}{k j e p:Nat}(h:dU s.data.toList i xs k=dU s.data.toList i ys j)(hg:dU s.data.toList i ys j=.error (e,p))(hw:jm w ev e p):iy w ev B rb wb s i pl xs k:=by unfold iy;rw[h,hg];exact hw
theorem jB{s:BA}{k:Nat}{c:UInt8}(h:s.data.toList[k]?=some c):∃hlt:k<s.size,s[k]=c:=by obtain⟨h1,h2⟩:=eL.1 h;exact⟨by rw[zE];exact h1,h2⟩
theorem zk(B rb wb:Nat)(s:BA)(k:Nat)(pl:Int)(xs:List bM)(w:World)(h:RW w B rb wb s k pl xs)(hk:k<s.size)(hs:s.size<=1500)(ha:xs.length<=k): Cl 84 #[.pointer (some ⟨rb,0,none⟩),.pointer (some ⟨wb,0,none⟩)] w λev w'=>iy w' ev B rb wb s k pl xs (k+1)/\Tb B rb w w':=by
 have HW:=ab h;have c1:=h.rdr.c1;have z1:=h.rdr.fz 1;clear h;go_enter func84,ntmps84;go_upto_region 2 with fail;have e:=wrap_i64 (k+1) (by omega);obtain⟨W2,hW2⟩:=aq (w.setCell ⟨rb,1,none⟩ (.int .i64 ((k+1:Nat):Int)));have hT2:Tb w.heap.size rb w W2:=by rw[hW2];exact Tb.to _ _ _ _ _
 have HW2:=ab ((uh HW).to hT2 (by rw[hW2];exact(uh HW).rdr.to (k+1)));rw[show ((k:Int)+1)=((k+1:Nat):Int) by omega,<-hW2];have hB2:=hT2.mono (uh HW).bl;clear hW2 hT2 c1 z1 e;go_loopw [16] (λ_ wr=>∃(j:Nat) (ys:List bM),RW wr B rb wb s j pl ys/\dU s.data.toList k xs (k+1)=dU s.data.toList k ys j/\ys.length<=j/\k<j/\j<=s.size/\Tb B rb w wr) (λ_ wr=>s.size-xM wr rb);case atStart=>exact⟨k+1,xs,uh HW2,rfl,by omega,by omega,by omega,hB2⟩
 case round=>
  obtain⟨j,ys,hR,hG,hy,hkj,hj,hT⟩:=hrel;have hA:=hR.rdr.at
  have HR:=ab hR;have HG:=ab hG;have HA:=ab hA;have hF:=λp w'=>aZ 5 p w';clear hR hG hA;cases hc:s.data.toList[j]? with
  |none=>
   have e0:=JG 34 hc;have hjs:decide (j<s.size)=false:=by have:=List.getElem?_eq_none_iff.1 hc;rw[<-zE]at this;simp;omega
   have HQ:=ab (ff (i:=k) (acc:=ys) hc);have mT:=λW (h:RW W B rb wb s j pl ys)=>tE B rb wb s ⟨#[34]⟩ j pl ys false W h hj hs e0;have mM:=λW (h:RW W B rb wb s j pl ys)=>KC B rb wb s j pl ys false W h hjs;clear hc e0 hjs;go_wp2_with (first|(go_at_call 56;refine(mT _ (uh HR)).mono ?_;clear mT;rintro ev w1⟨rfl,hW1,hT1⟩;have HW1:=ab hW1;clear hW1)|(go_at_call 32;refine(mM _ (uh HW1)).mono ?_;clear mM;rintro ev w2⟨rfl,hW2,hT2⟩;have HW2:=ab hW2;clear hW2)|(go_at_call 35;refine(hF _ _).mono ?_;clear hF;rintro ev w8⟨bb,rfl,hc,hb8⟩))
   exact⟨rfl,iy.bad (uh HG) (uh HQ) ⟨bb,rfl,hc⟩,((hT.trans hT1).trans hT2).trans (Tb.of_below (hb8.mono (uh HW2).bl))⟩
  |some c=>
   obtain⟨hlt,hcv⟩:=jB hc;have HQ:=ab (jH (i:=k) (acc:=ys) hc);have mM:=λW (h:RW W B rb wb s j pl ys)=>KC B rb wb s j pl ys true W h (dT hlt);by_cases hn34:c=34
   .have hcc:=hn34;have mT:=λW (h:RW W B rb wb s j pl ys)=>tE B rb wb s ⟨#[34]⟩ j pl ys true W h hj hs (by rw[bJ 34 hc];exact dT hcc);have HQ2:Hid (dU s.data.toList k ys j=.ok (ys,j+1)):=ab (by rw[uh HQ,if_neg (by rw[hcc];decide),if_pos hcc]);clear hc hcc hn34 hcv mM HQ;go_wp2_with (first|(go_at_call 56;refine(mT _ (uh HR)).mono ?_;clear mT;rintro ev w1⟨rfl,hW1,hT1⟩;have HW1:=ab hW1;clear hW1))
    go_end0;refine⟨?_,hT.trans hT1⟩;unfold iy;rw[uh HG,uh HQ2];exact⟨rfl,uh HW1,by omega,by omega,by omega⟩
   by_cases hn10:c=10
   .have hcc:=hn10;have mT:=λW (h:RW W B rb wb s j pl ys)=>tE B rb wb s ⟨#[34]⟩ j pl ys false W h hj hs (by rw[bJ 34 hc];exact dF hn34);have m10:=λW (h:RW W B rb wb s j pl ys)=>ko B rb wb s ⟨#[10]⟩ j pl ys true W h hj (by rw[bJ 10 hc];exact dT hcc);have HQ2:Hid (dU s.data.toList k ys j=.error (5,k)):=ab (by rw[uh HQ,if_pos hcc]);clear hc hcc hn34 hn10 hcv HQ;go_wp2_with (first|(go_at_call 56;refine(mT _ (uh HR)).mono ?_;clear mT;rintro ev w1⟨rfl,hW1,hT1⟩;have HW1:=ab hW1;clear hW1)|(go_at_call 32;refine(mM _ (uh HW1)).mono ?_;clear mM;rintro ev w2⟨rfl,hW2,hT2⟩;have HW2:=ab hW2;clear hW2)|(go_at_call 54;refine(m10 _ (uh HW2)).mono ?_;clear m10;rintro ev w3⟨rfl,hW3,hT3⟩;have HW3:=ab hW3;clear hW3)|(go_at_call 35;refine(hF _ _).mono ?_;clear hF;rintro ev w8⟨bb,rfl,hc,hb8⟩))
    exact⟨rfl,iy.bad (uh HG) (uh HQ2) ⟨bb,rfl,hc⟩,(((hT.trans hT1).trans hT2).trans hT3).trans (Tb.of_below (hb8.mono (uh HW3).bl))⟩
   by_cases hn36:c=36
   .have hcc:=hn36;have mT:=λW (h:RW W B rb wb s j pl ys)=>tE B rb wb s ⟨#[34]⟩ j pl ys false W h hj hs (by rw[bJ 34 hc];exact dF hn34);have m10:=λW (h:RW W B rb wb s j pl ys)=>ko B rb wb s ⟨#[10]⟩ j pl ys false W h hj (by rw[bJ 10 hc];exact dF hn10);have m36:=λW (h:RW W B rb wb s j pl ys)=>ko B rb wb s ⟨#[36]⟩ j pl ys true W h hj (by rw[bJ 36 hc];exact dT hcc);have hV:=λW (h:RW W B rb wb s j pl ys)=>Bc B rb wb s j pl ys W h hlt hs (by omega);cases hv:ie s.data.toList j with
    |none=>
     have HQ2:Hid (dU s.data.toList k ys j=.error (5,j)):=ab (by rw[uh HQ,if_neg hn10,if_neg hn34,if_pos hcc,hv]);unfold kF at hV;rw[hv]at hV;unfold jm at hV;clear hc hcc hn34 hn10 hn36 hcv HQ hv;go_wp2_with (first|(go_at_call 56;refine(mT _ (uh HR)).mono ?_;clear mT;rintro ev w1⟨rfl,hW1,hT1⟩;have HW1:=ab hW1;clear hW1)|(go_at_call 32;refine(mM _ (uh HW1)).mono ?_;clear mM;rintro ev w2⟨rfl,hW2,hT2⟩;have HW2:=ab hW2;clear hW2)|(go_at_call 54;refine(m10 _ (uh HW2)).mono ?_;clear m10;rintro ev w3⟨rfl,hW3,hT3⟩;have HW3:=ab hW3;clear hW3)|(go_at_call 54;refine(m36 _ (uh HW3)).mono ?_;clear m36;rintro ev w4⟨rfl,hW4,hT4⟩;have HW4:=ab hW4;clear hW4)|(go_at_call 85;refine(hV _ (uh HW4)).mono ?_;clear hV;rintro ev w8⟨⟨bb,rfl,hc⟩,hT8⟩))
     exact⟨rfl,iy.bad (uh HG) (uh HQ2) ⟨bb,rfl,hc⟩,((((hT.trans hT1).trans hT2).trans hT3).trans hT4).trans hT8⟩
    |some q=>
     obtain⟨n,t⟩:=q;unfold kF at hV;rw[hv]at hV;have HQ2:Hid (k<j->j<t->dU s.data.toList k ys j=dU s.data.toList k (ys++[.inr (n,j)]) t):=ab (λ_ ht=>by rw[uh HQ,if_neg hn10,if_neg hn34,if_pos hcc,hv];simp only;rw[if_pos ht]);clear hc hcc hn34 hn10 hn36 hcv HQ hv;go_wp2_with (first|(go_at_call 56;refine(mT _ (uh HR)).mono ?_;clear mT;rintro ev w1⟨rfl,hW1,hT1⟩;have HW1:=ab hW1;clear hW1)|(go_at_call 32;refine(mM _ (uh HW1)).mono ?_;clear mM;rintro ev w2⟨rfl,hW2,hT2⟩;have HW2:=ab hW2;clear hW2)|(go_at_call 54;refine(m10 _ (uh HW2)).mono ?_;clear m10;rintro ev w3⟨rfl,hW3,hT3⟩;have HW3:=ab hW3;clear hW3)|(go_at_call 54;refine(m36 _ (uh HW3)).mono ?_;clear m36;rintro ev w4⟨rfl,hW4,hT4⟩;have HW4:=ab hW4;clear hW4)|(go_at_call 85;refine(hV _ (uh HW4)).mono ?_;clear hV;rintro ev w8⟨⟨rfl,hW8,ht1,ht2⟩,hT8⟩))
     go_roundw;case rel=>
      first
       |exact⟨t,ys++[.inr (n,j)],hW8,(uh HG).trans (uh HQ2 hkj ht1),by simp;omega,by omega,ht2,((((hT.trans hT1).trans hT2).trans hT3).trans hT4).trans hT8⟩
       |((repeat apply Exists.intro);exact⟨⟨t,ys++[.inr (n,j)],hW8,(uh HG).trans (uh HQ2 hkj ht1),by simp;omega,by omega,ht2,((((hT.trans hT1).trans hT2).trans hT3).trans hT4).trans hT8⟩,rfl⟩)
     case measure=>rw[uh HA,hW8.rdr.at];omega
   by_cases hn92:c=92
   .have hcc:=hn92;have mT:=λW (h:RW W B rb wb s j pl ys)=>tE B rb wb s ⟨#[34]⟩ j pl ys false W h hj hs (by rw[bJ 34 hc];exact dF hn34);have m10:=λW (h:RW W B rb wb s j pl ys)=>ko B rb wb s ⟨#[10]⟩ j pl ys false W h hj (by rw[bJ 10 hc];exact dF hn10);have m36:=λW (h:RW W B rb wb s j pl ys)=>ko B rb wb s ⟨#[36]⟩ j pl ys false W h hj (by rw[bJ 36 hc];exact dF hn36);have m92:=λW (h:RW W B rb wb s j pl ys)=>ko B rb wb s ⟨#[92]⟩ j pl ys true W h hj (by rw[bJ 92 hc];exact dT hcc);cases hd:s.data.toList[j+1]? with
    |none=>
     have HQ2:Hid (dU s.data.toList k ys j=.error (5,j)):=ab (by rw[uh HQ,if_neg hn10,if_neg hn34,if_neg hn36,if_pos hcc,hd]);have hE:=λW (h:RW W B rb wb s j pl ys)=>yv B rb wb s j pl ys W h hlt (λh'=>by have:=List.getElem?_eq_none_iff.1 hd;rw[<-zE]at this;omega);unfold jm at hE;clear hc hcc hn34 hn10 hn36 hn92 hcv HQ hd;go_wp2_with (first|(go_at_call 56;refine(mT _ (uh HR)).mono ?_;clear mT;rintro ev w1⟨rfl,hW1,hT1⟩;have HW1:=ab hW1;clear hW1)|(go_at_call 32;refine(mM _ (uh HW1)).mono ?_;clear mM;rintro ev w2⟨rfl,hW2,hT2⟩;have HW2:=ab hW2;clear hW2)|(go_at_call 54;refine(m10 _ (uh HW2)).mono ?_;clear m10;rintro ev w3⟨rfl,hW3,hT3⟩;have HW3:=ab hW3;clear hW3)|(go_at_call 54;refine(m36 _ (uh HW3)).mono ?_;clear m36;rintro ev w4⟨rfl,hW4,hT4⟩;have HW4:=ab hW4;clear hW4)|(go_at_call 54;refine(m92 _ (uh HW4)).mono ?_;clear m92;rintro ev w5⟨rfl,hW5,hT5⟩;have HW5:=ab hW5;clear hW5)|(go_at_call 111;refine(hE _ (uh HW5)).mono ?_;clear hE;rintro ev w8⟨⟨bb,rfl,hc⟩,hT8⟩))
     exact⟨rfl,iy.bad (uh HG) (uh HQ2) ⟨bb,rfl,hc⟩,(((((hT.trans hT1).trans hT2).trans hT3).trans hT4).trans hT5).trans hT8⟩
    |some d=>
     obtain⟨hlt2,hdv⟩:=jB hd;cases hq:Ai d with
     |false=>
      have HQ2:Hid (dU s.data.toList k ys j=.error (5,j)):=ab (by rw[uh HQ,if_neg hn10,if_neg hn34,if_neg hn36,if_pos hcc,hd];simp only;rw[if_neg (by simp[hq])]);have hE:=λW (h:RW W B rb wb s j pl ys)=>yv B rb wb s j pl ys W h hlt (λh'=>by rw[hdv];exact hq);unfold jm at hE;clear hc hcc hn34 hn10 hn36 hn92 hcv HQ hd hdv hq;go_wp2_with (first|(go_at_call 56;refine(mT _ (uh HR)).mono ?_;clear mT;rintro ev w1⟨rfl,hW1,hT1⟩;have HW1:=ab hW1;clear hW1)|(go_at_call 32;refine(mM _ (uh HW1)).mono ?_;clear mM;rintro ev w2⟨rfl,hW2,hT2⟩;have HW2:=ab hW2;clear hW2)|(go_at_call 54;refine(m10 _ (uh HW2)).mono ?_;clear m10;rintro ev w3⟨rfl,hW3,hT3⟩;have HW3:=ab hW3;clear hW3)|(go_at_call 54;refine(m36 _ (uh HW3)).mono ?_;clear m36;rintro ev w4⟨rfl,hW4,hT4⟩;have HW4:=ab hW4;clear hW4)|(go_at_call 54;refine(m92 _ (uh HW4)).mono ?_;clear m92;rintro ev w5⟨rfl,hW5,hT5⟩;have HW5:=ab hW5;clear hW5)|(go_at_call 111;refine(hE _ (uh HW5)).mono ?_;clear hE;rintro ev w8⟨⟨bb,rfl,hc⟩,hT8⟩))
      exact⟨rfl,iy.bad (uh HG) (uh HQ2) ⟨bb,rfl,hc⟩,(((((hT.trans hT1).trans hT2).trans hT3).trans hT4).trans hT5).trans hT8⟩
     |true=>
      have HQ2:Hid (dU s.data.toList k ys j=dU s.data.toList k (ys++[.inl d]) (j+2)):=ab (by rw[uh HQ,if_neg hn10,if_neg hn34,if_neg hn36,if_pos hcc,hd];simp only;rw[if_pos hq]);have hE:=λW (h:RW W B rb wb s j pl ys)=>JD B rb wb s j pl ys W h hlt2 hs (by omega) (by rw[hdv];exact hq);rw[hdv]at hE;clear hc hcc hn34 hn10 hn36 hn92 hcv HQ hd hdv hq;go_wp2_with (first|(go_at_call 56;refine(mT _ (uh HR)).mono ?_;clear mT;rintro ev w1⟨rfl,hW1,hT1⟩;have HW1:=ab hW1;clear hW1)|(go_at_call 32;refine(mM _ (uh HW1)).mono ?_;clear mM;rintro ev w2⟨rfl,hW2,hT2⟩;have HW2:=ab hW2;clear hW2)|(go_at_call 54;refine(m10 _ (uh HW2)).mono ?_;clear m10;rintro ev w3⟨rfl,hW3,hT3⟩;have HW3:=ab hW3;clear hW3)|(go_at_call 54;refine(m36 _ (uh HW3)).mono ?_;clear m36;rintro ev w4⟨rfl,hW4,hT4⟩;have HW4:=ab hW4;clear hW4)|(go_at_call 54;refine(m92 _ (uh HW4)).mono ?_;clear m92;rintro ev w5⟨rfl,hW5,hT5⟩;have HW5:=ab hW5;clear hW5)|(go_at_call 111;refine(hE _ (uh HW5)).mono ?_;clear hE;rintro ev w8⟨rfl,hW8,hT8⟩))
      go_roundw;case rel=>
       first
        |exact⟨j+2,ys++[.inl d],hW8,(uh HG).trans (uh HQ2),by simp;omega,by omega,by omega,(((((hT.trans hT1).trans hT2).trans hT3).trans hT4).trans hT5).trans hT8⟩
        |((repeat apply Exists.intro);exact⟨⟨j+2,ys++[.inl d],hW8,(uh HG).trans (uh HQ2),by simp;omega,by omega,by omega,(((((hT.trans hT1).trans hT2).trans hT3).trans hT4).trans hT5).trans hT8⟩,rfl⟩)
      case measure=>rw[uh HA,hW8.rdr.at];omega
   have mT:=λW (h:RW W B rb wb s j pl ys)=>tE B rb wb s ⟨#[34]⟩ j pl ys false W h hj hs (by rw[bJ 34 hc];exact dF hn34);have m10:=λW (h:RW W B rb wb s j pl ys)=>ko B rb wb s ⟨#[10]⟩ j pl ys false W h hj (by rw[bJ 10 hc];exact dF hn10);have m36:=λW (h:RW W B rb wb s j pl ys)=>ko B rb wb s ⟨#[36]⟩ j pl ys false W h hj (by rw[bJ 36 hc];exact dF hn36);have m92:=λW (h:RW W B rb wb s j pl ys)=>ko B rb wb s ⟨#[92]⟩ j pl ys false W h hj (by rw[bJ 92 hc];exact dF hn92);have HQ2:Hid (dU s.data.toList k ys j=dU s.data.toList k (ys++[.inl c]) (j+1)):=ab (by rw[uh HQ,if_neg hn10,if_neg hn34,if_neg hn36,if_neg hn92]);have hE:=λW (h:RW W B rb wb s j pl ys)=>jX B rb wb s j pl ys W h hlt hs (by omega);rw[hcv]at hE;clear hc hn34 hn10 hn36 hn92 hcv HQ;go_wp2_with (first|(go_at_call 56;refine(mT _ (uh HR)).mono ?_;clear mT;rintro ev w1⟨rfl,hW1,hT1⟩;have HW1:=ab hW1;clear hW1)|(go_at_call 32;refine(mM _ (uh HW1)).mono ?_;clear mM;rintro ev w2⟨rfl,hW2,hT2⟩;have HW2:=ab hW2;clear hW2)|(go_at_call 54;refine(m10 _ (uh HW2)).mono ?_;clear m10;rintro ev w3⟨rfl,hW3,hT3⟩;have HW3:=ab hW3;clear hW3)|(go_at_call 54;refine(m36 _ (uh HW3)).mono ?_;clear m36;rintro ev w4⟨rfl,hW4,hT4⟩;have HW4:=ab hW4;clear hW4)|(go_at_call 54;refine(m92 _ (uh HW4)).mono ?_;clear m92;rintro ev w5⟨rfl,hW5,hT5⟩;have HW5:=ab hW5;clear hW5)|(go_at_call 87;refine(hE _ (uh HW5)).mono ?_;clear hE;rintro ev w8⟨rfl,hW8,hT8⟩))
   go_roundw;case rel=>
    first
     |exact⟨j+1,ys++[.inl c],hW8,(uh HG).trans (uh HQ2),by simp;omega,by omega,by omega,(((((hT.trans hT1).trans hT2).trans hT3).trans hT4).trans hT5).trans hT8⟩
     |((repeat apply Exists.intro);exact⟨⟨j+1,ys++[.inl c],hW8,(uh HG).trans (uh HQ2),by simp;omega,by omega,by omega,(((((hT.trans hT1).trans hT2).trans hT3).trans hT4).trans hT5).trans hT8⟩,rfl⟩)
   case measure=>rw[uh HA,hW8.rdr.at];omega
theorem dk{l:LU}{k:Nat}(h:l[k]?=none):iJ l k=true:=by have:=List.getElem?_eq_none_iff.1 h;unfold iJ;rw[dF (by omega)];rfl
theorem jJ{l:LU}{k:Nat}{c:UInt8}(h:l[k]?=some c):iJ l k=decide (c=10\/c=32\/ct l k=true):=by
 have hlt:=(gL h)
 unfold iJ;rw[dT hlt,h,Bool.eq_iff_iff];simp only[Bool.not_true,Bool.false_or,bO,beq_iff_eq,Option.some.injEq,decide_eq_true_eq];constructor
 .rintro((h|h)|h)
  .exact .inr (.inl h)
  .exact .inl h
  exact .inr (.inr h)
 rintro(h|h|h)
 .exact .inl (.inr h)
 .exact .inl (.inl h)
 exact .inr h
theorem eK{l:LU}{k:Nat}{acc:List bM}(h:iJ l k=true):cP l acc k=.ok (acc,k):=by
 rw[cP];split
 .rfl
 rename_i c hc;rw[jJ hc]at h;simp only;rw[if_pos (of_decide_eq_true h)]
theorem dN{l:LU}{k:Nat}{acc:List bM}{c:UInt8}(h:l[k]?=some c)(he:iJ l k=false):cP l acc k=if c=34 then
 match dU l k acc (k+1)with
 |.error e=>.error e
 |.ok (a,t)=>if k<t then cP l a t else .error (5,k)
 else if c=36 then
  match ie l k with
  |none=>.error (5,k)
  |some (n,t)=>if k<t then cP l (acc++[.inr (n,k)]) t else .error (5,k)
 else if c=92 then
  match l[k+1]? with
  |none=>.error (5,k)
  |some d=>cP l (acc++[.inl d]) (k+2)
 else cP l (acc++[.inl c]) (k+1):=by
 rw[cP];split
 .rename_i h';rw[h]at h';cases h'
 rename_i d h';rw[h]at h';cases h';rw[jJ h]at he;simp only;rw[if_neg (of_decide_eq_false he)];rfl
def jk(w w':World)(ev:Ending)(rb:Nat)(s:BA)(k:Nat):Prop:=match cP s.data.toList [] k with
 |.error (e,p)=>jm w' ev e p
 |.ok (ys,t)=>∃v,ev=.returned (.agg #[.int .i64 (k:Int),v])/\w'.ownsRow w.heap.size 192 3 v (parts ys).length (tf (parts ys))/\dB w' rb s t/\k<=t/\t<=s.size/\ys.length<=t
theorem jk.bad{w w':World}{ev:Ending}{rb:Nat}{s:BA}{ys:List bM}{k j e p:Nat}(h:cP s.data.toList [] k=cP s.data.toList ys j)(hg:cP s.data.toList ys j=.error (e,p))(hw:jm w' ev e p):jk w w' ev rb s k:=by unfold jk;rw[h,hg];exact hw
theorem ar{w:World}{B e z n:Nat}{v:Value}{xs:List Value}(h:w.ownsRow B e z v n xs):∃ao n' cap,v=.slice ao n' cap:=by
 rcases h.2 with⟨rfl,_⟩|⟨g,cap,cur,rfl,_⟩
 .exact⟨_,_,_,rfl⟩
 exact⟨_,_,_,rfl⟩
theorem Tb.down{B B' rb:Nat}{w w':World}(h:Tb B rb w w')(hB:B'<=B):Tb B' rb w w':=h.mono hB
theorem wW(rb:Nat)(s:BA)(k:Nat)(w:World)(h:dB w rb s k)(hk:k<=s.size)(hs:s.size<=1500): Cl 57 #[.pointer (some ⟨rb,0,none⟩)] w λev w'=>jk w w' ev rb s k/\Tb w.heap.size rb w w':=by
 have c1:=h.c1;have hrl:=h.lt;have HW:=ab h;clear h;have n0:=World.new_ne w ⟨rb,1,none⟩ c1;go_enter func57,ntmps57;go_upto_region 2 with fail;obtain⟨W0,hW0⟩:=aq ((w.alloc (.cells #[.int .i64 0,.slice none 0 0] 148)).alloc (.cells #[.int .i64 (k:Int),.slice none 0 0] 148));rw[<-hW0];obtain⟨B,hB⟩:=aq (w.heap.size+1);rw[<-hB];have hz0:W0.heap.size=w.heap.size+2:=by rw[hW0];simp
 have hb0:Bw w W0:=by rw[hW0];exact(eD).alloc (by simp) _
 have HR0:Hid (RW W0 B rb B s k (k:Int) []):=ab ⟨(uh HW).below hb0 hrl,⟨.slice none 0 0,by have:=hN (w.alloc (.cells #[.int .i64 0,.slice none 0 0] 148)) (.cells #[.int .i64 (k:Int),.slice none 0 0] 148);rw[World.size_alloc,<-hB,<-hW0]at this;exact this,World.ownsRow_nil _ _ _ _,nR _,λ_=>rfl⟩,by omega,by omega⟩;have HC0:Hid (W0.heap[w.heap.size]?=some (.cells #[.int .i64 0,.slice none 0 0] 148 (0,0))):=ab (by rw[hW0,Below.heap_alloc _ _ _ (by simp)];exact hN _ _);have HB:=ab hB;have HZ0:=ab hz0;clear hW0 hB hz0 n0 c1;go_loopw [9] (λ_ wr=>∃(j:Nat) (ys:List bM),RW wr B rb B s j (k:Int) ys/\cP s.data.toList [] k=cP s.data.toList ys j/\ys.length<=j/\k<=j/\j<=s.size/\Tb B rb W0 wr) (λ_ wr=>s.size-xM wr rb);case atStart=>exact⟨k,[],uh HR0,rfl,by simp,by omega,by omega,Tb.refl _ _ _⟩
 case round=>
  obtain⟨j,ys,hR,hG,hy,hkj,hj,hT⟩:=hrel;have hA:=hR.rdr.at
  have HR:=ab hR;have HG:=ab hG;have HA:=ab hA;clear hR hG hA;have HT0:Hid (∀w',Tb B rb W0 w'->Tb w.heap.size rb w w'):=ab (λw' h'=>(Tb.of_below hb0).trans (h'.down (by have:=uh HB;omega)));have HCR:Hid (∀w',Tb B rb W0 w'->w'.heap[w.heap.size]?=some (.cells #[.int .i64 0,.slice none 0 0] 148 (0,0))):=ab (λw' h'=>(h'.block _ (by have:=uh HB;omega) (by omega)).trans (uh HC0));cases he:iJ s.data.toList j with
  |true=>
   have HQ:=ab (eK (acc:=ys) he);have mE:=λW (h:RW W B rb B s j k ys)=>Kr B rb B s j k ys true W h hj he;clear he;go_upto_region 10 with(go_at_call 83;refine(mE _ (uh HR)).mono ?_;clear mE;rintro ev w1⟨rfl,hW1,hT1⟩;have HW1:=ab hW1;clear hW1)
   have hT1':=hT.trans hT1;obtain⟨v,hv⟩:=(uh HW1).wrd;have hcr:=uh HCR w1 hT1';have q0:=cq 0 hcr;have q1:=cq 1 hcr;have f0:∀i,w1.frozen? ⟨w.heap.size,i,none⟩=false:=λi=>by simp[World.frozen?,hcr]
   have f1:=f0 0;have f2:=f0 1;have p0:=cq 0 hv.cells;have p1:=cq 1 hv.cells;have HV:=ab hv;have HCRR:=ab hcr;obtain⟨ao,n',cap,rfl⟩:=ar hv.row;clear hv hcr f0;go_wp2_with fail;obtain⟨W9,hW9⟩:=aq ((w1.setCell ⟨w.heap.size,0,none⟩ (.int .i64 (k:Int))).setCell ⟨w.heap.size,1,none⟩ (.slice ao n' cap));rw[<-hW9];have hr9:W9.heap[w.heap.size]?=some (.cells #[.int .i64 (k:Int),.slice ao n' cap] 148 (0,0)):=by rw[hW9];exact hS _ _ 1 _ _ _ (hS _ _ 0 _ _ _ (uh HCRR))
   have r0:=cq 0 hr9;have r1:=cq 1 hr9;have ho9:∀i,i≠w.heap.size->W9.heap[i]?=w1.heap[i]?:=λi hi=>by rw[hW9,Below.heap_setCell _ _ _ _ hi,Below.heap_setCell _ _ _ _ hi]
   have hz9:w1.heap.size=W9.heap.size:=by rw[hW9];simp
   have hs9:W9.os=w1.os/\W9.tape=w1.tape/\W9.output=w1.output:=by rw[hW9];exact⟨rfl,rfl,rfl⟩
   refine bodyPost_ret (v:=.agg #[.int .i64 (k:Int),.slice ao n' cap]) (by simp[results,results57,go_sem,r0,r1]) rfl ?_;have hT9:=uh HT0 w1 hT1';refine⟨?_,⟨hs9.1.trans hT9.os,hs9.2.1.trans hT9.tape,hs9.2.2.trans hT9.output,by rw[<-hz9];exact hT9.size,λi hi hr=>(ho9 i (by omega)).trans (hT9.block i hi hr)⟩⟩;unfold jk;rw[uh HG,uh HQ];refine⟨_,rfl,?_,?_,hkj,hj,hy⟩
   .have hrow:=ap (uh HV).row (w':=W9) (λi hi=>ho9 i (by have:=(World.ownsRow.lt (uh HV).row i hi).1;have:=uh HB;omega));refine⟨hrow.1,?_⟩;rcases hrow.2 with h0|⟨g,cap',cur,h1,h2,h3⟩
    .exact .inl h0
    exact .inr ⟨g,cap',cur,h1,by have:=uh HB;omega,h3⟩
   exact(ho9 rb (by omega)).trans (uh HW1).rdr
  |false=>
   cases hc:s.data.toList[j]? with
   |none=>rw[dk hc]at he;cases he
   |some c=>
   have mE:=λW (h:RW W B rb B s j k ys)=>Kr B rb B s j k ys false W h hj he;obtain⟨hlt,hcv⟩:=jB hc;have HQ:=ab (dN (acc:=ys) hc he);clear he;by_cases hn34:c=34
   .have hcc:=hn34;have m34:=λW (h:RW W B rb B s j k ys)=>ko B rb B s ⟨#[34]⟩ j k ys true W h hj (by rw[bJ 34 hc];exact dT hcc);have hE:=λW (h:RW W B rb B s j k ys)=>zk B rb B s j k ys W h hlt hs hy;unfold iy at hE;cases hq:dU s.data.toList j ys (j+1)with
    |error x=>
     obtain⟨e,p⟩:=x;rw[hq]at hE;have HQ2:Hid (cP s.data.toList ys j=.error (e,p)):=ab (by rw[uh HQ,if_pos hcc,hq]);unfold jm at hE;clear hc hcc hn34 hcv HQ hq;go_wp2_with (first|(go_at_call 83;refine(mE _ (uh HR)).mono ?_;clear mE;rintro ev w1⟨rfl,hW1,hT1⟩;have HW1:=ab hW1;clear hW1)|(go_at_call 54;refine(m34 _ (uh HW1)).mono ?_;clear m34;rintro ev w2⟨rfl,hW2,hT2⟩;have HW2:=ab hW2;clear hW2)|(go_at_call 84;refine(hE _ (uh HW2)).mono ?_;clear hE;rintro ev w8⟨⟨bb,rfl,hc⟩,hT8⟩))
     exact⟨rfl,jk.bad (uh HG) (uh HQ2) ⟨bb,rfl,hc⟩,uh HT0 _ (((hT.trans hT1).trans hT2).trans hT8)⟩
    |ok x=>
     obtain⟨zs,t⟩:=x;rw[hq]at hE;have HQ2:Hid (j<t->cP s.data.toList ys j=cP s.data.toList zs t):=ab (λht=>by rw[uh HQ,if_pos hcc,hq];simp only;rw[if_pos ht]);clear hc hcc hn34 hcv HQ hq;go_wp2_with (first|(go_at_call 83;refine(mE _ (uh HR)).mono ?_;clear mE;rintro ev w1⟨rfl,hW1,hT1⟩;have HW1:=ab hW1;clear hW1)|(go_at_call 54;refine(m34 _ (uh HW1)).mono ?_;clear m34;rintro ev w2⟨rfl,hW2,hT2⟩;have HW2:=ab hW2;clear hW2)|(go_at_call 84;refine(hE _ (uh HW2)).mono ?_;clear hE;rintro ev w8⟨⟨rfl,hW8,ht1,ht2,hzl⟩,hT8⟩))
     go_roundw;case rel=>
      first
       |exact⟨t,zs,hW8,(uh HG).trans (uh HQ2 (by omega)),hzl,by omega,ht2,((hT.trans hT1).trans hT2).trans hT8⟩
       |((repeat apply Exists.intro);exact⟨⟨t,zs,hW8,(uh HG).trans (uh HQ2 (by omega)),hzl,by omega,ht2,((hT.trans hT1).trans hT2).trans hT8⟩,rfl⟩)
     case measure=>rw[uh HA,hW8.rdr.at];omega
   by_cases hn36:c=36
   .have hcc:=hn36;have m34:=λW (h:RW W B rb B s j k ys)=>ko B rb B s ⟨#[34]⟩ j k ys false W h hj (by rw[bJ 34 hc];exact dF hn34);have m36:=λW (h:RW W B rb B s j k ys)=>ko B rb B s ⟨#[36]⟩ j k ys true W h hj (by rw[bJ 36 hc];exact dT hcc);have hV:=λW (h:RW W B rb B s j k ys)=>Bc B rb B s j k ys W h hlt hs (by omega);unfold kF at hV;cases hv:ie s.data.toList j with
    |none=>
     have HQ2:Hid (cP s.data.toList ys j=.error (5,j)):=ab (by rw[uh HQ,if_neg hn34,if_pos hcc,hv]);rw[hv]at hV;unfold jm at hV;clear hc hcc hn34 hn36 hcv HQ hv;go_wp2_with (first|(go_at_call 83;refine(mE _ (uh HR)).mono ?_;clear mE;rintro ev w1⟨rfl,hW1,hT1⟩;have HW1:=ab hW1;clear hW1)|(go_at_call 54;refine(m34 _ (uh HW1)).mono ?_;clear m34;rintro ev w2⟨rfl,hW2,hT2⟩;have HW2:=ab hW2;clear hW2)|(go_at_call 54;refine(m36 _ (uh HW2)).mono ?_;clear m36;rintro ev w3⟨rfl,hW3,hT3⟩;have HW3:=ab hW3;clear hW3)|(go_at_call 85;refine(hV _ (uh HW3)).mono ?_;clear hV;rintro ev w8⟨⟨bb,rfl,hc⟩,hT8⟩))
     exact⟨rfl,jk.bad (uh HG) (uh HQ2) ⟨bb,rfl,hc⟩,uh HT0 _ ((((hT.trans hT1).trans hT2).trans hT3).trans hT8)⟩
    |some q=>
     obtain⟨n,t⟩:=q;rw[hv]at hV;have HQ2:Hid (j<t->cP s.data.toList ys j=cP s.data.toList (ys++[.inr (n,j)]) t):=ab (λht=>by rw[uh HQ,if_neg hn34,if_pos hcc,hv];simp only;rw[if_pos ht]);clear hc hcc hn34 hn36 hcv HQ hv;go_wp2_with (first|(go_at_call 83;refine(mE _ (uh HR)).mono ?_;clear mE;rintro ev w1⟨rfl,hW1,hT1⟩;have HW1:=ab hW1;clear hW1)|(go_at_call 54;refine(m34 _ (uh HW1)).mono ?_;clear m34;rintro ev w2⟨rfl,hW2,hT2⟩;have HW2:=ab hW2;clear hW2)|(go_at_call 54;refine(m36 _ (uh HW2)).mono ?_;clear m36;rintro ev w3⟨rfl,hW3,hT3⟩;have HW3:=ab hW3;clear hW3)|(go_at_call 85;refine(hV _ (uh HW3)).mono ?_;clear hV;rintro ev w8⟨⟨rfl,hW8,ht1,ht2⟩,hT8⟩))
     go_roundw;case rel=>
      first
       |exact⟨t,ys++[.inr (n,j)],hW8,(uh HG).trans (uh HQ2 ht1),by simp;omega,by omega,ht2,(((hT.trans hT1).trans hT2).trans hT3).trans hT8⟩
       |((repeat apply Exists.intro);exact⟨⟨t,ys++[.inr (n,j)],hW8,(uh HG).trans (uh HQ2 ht1),by simp;omega,by omega,ht2,(((hT.trans hT1).trans hT2).trans hT3).trans hT8⟩,rfl⟩)
     case measure=>rw[uh HA,hW8.rdr.at];omega
   by_cases hn92:c=92
   .have hcc:=hn92;have m34:=λW (h:RW W B rb B s j k ys)=>ko B rb B s ⟨#[34]⟩ j k ys false W h hj (by rw[bJ 34 hc];exact dF hn34);have m36:=λW (h:RW W B rb B s j k ys)=>ko B rb B s ⟨#[36]⟩ j k ys false W h hj (by rw[bJ 36 hc];exact dF hn36);have m92:=λW (h:RW W B rb B s j k ys)=>ko B rb B s ⟨#[92]⟩ j k ys true W h hj (by rw[bJ 92 hc];exact dT hcc);cases hd:s.data.toList[j+1]? with
    |none=>
     have HQ2:Hid (cP s.data.toList ys j=.error (5,j)):=ab (by rw[uh HQ,if_neg hn34,if_neg hn36,if_pos hcc,hd]);have hj1:j+1=s.size:=by have:=List.getElem?_eq_none_iff.1 hd;rw[<-zE]at this;omega
     have hE:=λW (h:RW W B rb B s j k ys)=>wC B rb B s j k ys W h hj1;unfold jm at hE;clear hc hcc hn34 hn36 hn92 hcv HQ hd hj1;go_wp2_with (first|(go_at_call 83;refine(mE _ (uh HR)).mono ?_;clear mE;rintro ev w1⟨rfl,hW1,hT1⟩;have HW1:=ab hW1;clear hW1)|(go_at_call 54;refine(m34 _ (uh HW1)).mono ?_;clear m34;rintro ev w2⟨rfl,hW2,hT2⟩;have HW2:=ab hW2;clear hW2)|(go_at_call 54;refine(m36 _ (uh HW2)).mono ?_;clear m36;rintro ev w3⟨rfl,hW3,hT3⟩;have HW3:=ab hW3;clear hW3)|(go_at_call 54;refine(m92 _ (uh HW3)).mono ?_;clear m92;rintro ev w4⟨rfl,hW4,hT4⟩;have HW4:=ab hW4;clear hW4)|(go_at_call 86;refine(hE _ (uh HW4)).mono ?_;clear hE;rintro ev w8⟨⟨bb,rfl,hc⟩,hT8⟩))
     exact⟨rfl,jk.bad (uh HG) (uh HQ2) ⟨bb,rfl,hc⟩,uh HT0 _ (((((hT.trans hT1).trans hT2).trans hT3).trans hT4).trans hT8)⟩
    |some d=>
     obtain⟨hlt2,hdv⟩:=jB hd;have HQ2:Hid (cP s.data.toList ys j=cP s.data.toList (ys++[.inl d]) (j+2)):=ab (by rw[uh HQ,if_neg hn34,if_neg hn36,if_pos hcc,hd]);have hE:=λW (h:RW W B rb B s j k ys)=>zA B rb B s j k ys W h hlt2 hs (by omega);rw[hdv]at hE;clear hc hcc hn34 hn36 hn92 hcv HQ hd hdv;go_wp2_with (first|(go_at_call 83;refine(mE _ (uh HR)).mono ?_;clear mE;rintro ev w1⟨rfl,hW1,hT1⟩;have HW1:=ab hW1;clear hW1)|(go_at_call 54;refine(m34 _ (uh HW1)).mono ?_;clear m34;rintro ev w2⟨rfl,hW2,hT2⟩;have HW2:=ab hW2;clear hW2)|(go_at_call 54;refine(m36 _ (uh HW2)).mono ?_;clear m36;rintro ev w3⟨rfl,hW3,hT3⟩;have HW3:=ab hW3;clear hW3)|(go_at_call 54;refine(m92 _ (uh HW3)).mono ?_;clear m92;rintro ev w4⟨rfl,hW4,hT4⟩;have HW4:=ab hW4;clear hW4)|(go_at_call 86;refine(hE _ (uh HW4)).mono ?_;clear hE;rintro ev w8⟨rfl,hW8,hT8⟩))
     go_roundw;case rel=>
      first
       |exact⟨j+2,ys++[.inl d],hW8,(uh HG).trans (uh HQ2),by simp;omega,by omega,by omega,((((hT.trans hT1).trans hT2).trans hT3).trans hT4).trans hT8⟩
       |((repeat apply Exists.intro);exact⟨⟨j+2,ys++[.inl d],hW8,(uh HG).trans (uh HQ2),by simp;omega,by omega,by omega,((((hT.trans hT1).trans hT2).trans hT3).trans hT4).trans hT8⟩,rfl⟩)
     case measure=>rw[uh HA,hW8.rdr.at];omega
   have m34:=λW (h:RW W B rb B s j k ys)=>ko B rb B s ⟨#[34]⟩ j k ys false W h hj (by rw[bJ 34 hc];exact dF hn34);have m36:=λW (h:RW W B rb B s j k ys)=>ko B rb B s ⟨#[36]⟩ j k ys false W h hj (by rw[bJ 36 hc];exact dF hn36);have m92:=λW (h:RW W B rb B s j k ys)=>ko B rb B s ⟨#[92]⟩ j k ys false W h hj (by rw[bJ 92 hc];exact dF hn92);have HQ2:Hid (cP s.data.toList ys j=cP s.data.toList (ys++[.inl c]) (j+1)):=ab (by rw[uh HQ,if_neg hn34,if_neg hn36,if_neg hn92]);have hE:=λW (h:RW W B rb B s j k ys)=>jX B rb B s j k ys W h hlt hs (by omega);rw[hcv]at hE;clear hc hn34 hn36 hn92 hcv HQ;go_wp2_with (first|(go_at_call 83;refine(mE _ (uh HR)).mono ?_;clear mE;rintro ev w1⟨rfl,hW1,hT1⟩;have HW1:=ab hW1;clear hW1)|(go_at_call 54;refine(m34 _ (uh HW1)).mono ?_;clear m34;rintro ev w2⟨rfl,hW2,hT2⟩;have HW2:=ab hW2;clear hW2)|(go_at_call 54;refine(m36 _ (uh HW2)).mono ?_;clear m36;rintro ev w3⟨rfl,hW3,hT3⟩;have HW3:=ab hW3;clear hW3)|(go_at_call 54;refine(m92 _ (uh HW3)).mono ?_;clear m92;rintro ev w4⟨rfl,hW4,hT4⟩;have HW4:=ab hW4;clear hW4)|(go_at_call 87;refine(hE _ (uh HW4)).mono ?_;clear hE;rintro ev w8⟨rfl,hW8,hT8⟩))
   go_roundw;case rel=>
    first
     |exact⟨j+1,ys++[.inl c],hW8,(uh HG).trans (uh HQ2),by simp;omega,by omega,by omega,((((hT.trans hT1).trans hT2).trans hT3).trans hT4).trans hT8⟩
     |((repeat apply Exists.intro);exact⟨⟨j+1,ys++[.inl c],hW8,(uh HG).trans (uh HQ2),by simp;omega,by omega,by omega,((((hT.trans hT1).trans hT2).trans hT3).trans hT4).trans hT8⟩,rfl⟩)
   case measure=>rw[uh HA,hW8.rdr.at];omega
end Go.Proofs.YtjhobnjdfhkohaaGreatDoor
namespace Go.Proofs
open Go.Proofs.Tryz
open Go.Shelf
def Tryz.lays145_ren:Go.Shelf.Ren:=⟨fun|145=>82|220=>110|219=>133|217=>160|225=>161|224=>162|267=>163|266=>194|314=>195|n=>n,fun|9=>9|4=>4|59=>185|3=>3|5=>5|46=>225|146=>251|51=>250|n=>n,fun|1=>1|n=>n⟩
theorem Tryz.lays145:Go.Proofs.Lays.n145 Tryz.prog Tryz.lays145_ren:={
 mixed:=by kernel_rfl
 f145:=Tryz.func82.trans (congrArg some (by kernel_rfl))
 f217:=Tryz.func160.trans (congrArg some (by kernel_rfl))
 f219:=Tryz.func133.trans (congrArg some (by kernel_rfl))
 f220:=Tryz.func110.trans (congrArg some (by kernel_rfl))
 f224:=Tryz.func162.trans (congrArg some (by kernel_rfl))
 f225:=Tryz.func161.trans (congrArg some (by kernel_rfl))
 f266:=Tryz.func194.trans (congrArg some (by kernel_rfl))
 f267:=Tryz.func163.trans (congrArg some (by kernel_rfl))
 f314:=Tryz.func195.trans (congrArg some (by kernel_rfl))
 t3:=Tryz.underlying3
 a3:=Tryz.isAgg3
 z3:=Tryz.sizeOf3
 v3:=Tryz.zeroValue3
 t4:=Tryz.underlying4
 a4:=Tryz.isAgg4
 z4:=Tryz.sizeOf4
 v4:=Tryz.zeroValue4
 t5:=Tryz.underlying5
 a5:=Tryz.isAgg5
 z5:=Tryz.sizeOf5
 v5:=Tryz.zeroValue5
 t9:=Tryz.underlying9
 a9:=Tryz.isAgg9
 z9:=Tryz.sizeOf9
 v9:=Tryz.zeroValue9
 t46:=Tryz.underlying225
 a46:=Tryz.isAgg225
 z46:=Tryz.sizeOf225
 v46:=Tryz.zeroValue225
 t51:=Tryz.underlying250
 a51:=Tryz.isAgg250
 z51:=Tryz.sizeOf250
 v51:=Tryz.zeroValue250
 t59:=Tryz.underlying185
 a59:=Tryz.isAgg185
 z59:=Tryz.sizeOf185
 v59:=Tryz.zeroValue185
 t146:=Tryz.underlying251
 a146:=Tryz.isAgg251
 z146:=Tryz.sizeOf251
 v146:=Tryz.zeroValue251
 g1:=by kernel_rfl }
open Go.RowKit Go.Lib in
theorem Tryz.strings_Cut(s sep:ByteArray)(m:Int)(w:World)(hs:s.size<4294967281)(hm:w.cell? ⟨1,0,none⟩=some (.int .i64 m)): Calls Tryz.prog 82 #[.string s,.string sep] w λe w'=>e=.returned (.tuple #[.string ⟨(Lib.cut s.data.toList sep.data.toList).1.toArray⟩,.string ⟨(Lib.cut s.data.toList sep.data.toList).2.1.toArray⟩,.bool (Lib.cut s.data.toList sep.data.toList).2.2])/\∃n,w'=w.drewN n:=Any.strings_Cut Tryz.lays145 s sep m w hs hm
def Tryz.lays102_ren:Go.Shelf.Ren:=⟨fun|102=>274|209=>278|207=>201|n=>n,fun|9=>9|4=>4|3=>3|n=>n,fun|n=>n⟩
theorem Tryz.lays102:Go.Proofs.Lays.n102 Tryz.prog Tryz.lays102_ren:={
 mixed:=by kernel_rfl
 f102:=Tryz.func274.trans (congrArg some (by kernel_rfl))
 f207:=Tryz.func201.trans (congrArg some (by kernel_rfl))
 f209:=Tryz.func278.trans (congrArg some (by kernel_rfl))
 t3:=Tryz.underlying3
 a3:=Tryz.isAgg3
 z3:=Tryz.sizeOf3
 v3:=Tryz.zeroValue3
 t4:=Tryz.underlying4
 a4:=Tryz.isAgg4
 z4:=Tryz.sizeOf4
 v4:=Tryz.zeroValue4
 t9:=Tryz.underlying9
 a9:=Tryz.isAgg9
 z9:=Tryz.sizeOf9
 v9:=Tryz.zeroValue9 }
open Go.RowKit Go.Lib in
theorem Tryz.strings_TrimSuffix(s p:ByteArray)(w:World)(hs:s.size<=9223372036854775807): Calls Tryz.prog 274 #[.string s,.string p] w λe w'=>e=.returned (.string ⟨(Lib.trimSuffix s.data.toList p.data.toList).toArray⟩)/\w'=w:=Any.strings_TrimSuffix Tryz.lays102 s p w hs
end Go.Proofs
namespace Go.Proofs.YtjhobnjdfhkohaaGreatDoor
open Go.Proofs.Tryz
open Go.RowKit
theorem Cr(l:LU):(Lib.cut l [10]).1=l.takeWhile (λc=>c != 10):=by
 induction l with
 |nil=>simp[Lib.cut,Lib.index]
 |cons b l ih=>
  by_cases hb:b=10
  .subst hb;simp[Lib.cut,Lib.index,List.isPrefixOf]
  have hp:List.isPrefixOf [10] (b::l)=false:=by simp only[List.isPrefixOf,Bool.and_true,beq_eq_false_iff_ne,ne_eq];exact λe=>hb e.symm
  have hi:Lib.index (b::l) [10]=if Lib.index l [10]==-1 then -1 else Lib.index l [10]+1:=by rw[Lib.index,hp];rfl
  have hge:=Lib.index_ge l [10];have hne:(b != 10)=true:=by simpa using hb
  rw[List.takeWhile_cons_of_pos (p:=λc=>c != 10) hne];unfold Lib.cut at ih⊢;rw[hi];by_cases h1:Lib.index l [10]=-1
  .rw[h1]at ih⊢;simp only[BEq.rfl,if_true];rw[if_neg (by omega)]at ih⊢;simp only at ih⊢;rw[<-ih]
  have h2:(Lib.index l [10]==-1)=false:=by simpa using h1
  rw[h2];simp only[Bool.false_eq_true,if_false];rw[if_pos (by omega)]at ih⊢;simp only at ih⊢;rw[<-ih,show (Lib.index l [10]+1).toNat=(Lib.index l [10]).toNat+1 by omega,List.take_succ_cons]
theorem yf(rb:Nat)(s:BA)(k:Nat)(m:Int)(w:World)(h:dB w rb s k)(hk:k<=s.size)(hs:s.size<=1500)(hm:w.cell? ⟨1,0,none⟩=some (.int .i64 m)): Cl 55 #[.pointer (some ⟨rb,0,none⟩)] w λe w'=>e=.returned (.tuple #[])/\dB w' rb s (kr s.data.toList k)/\Tb w.heap.size rb w w':=by
 have hQ:=kH rb s k w h hk;obtain⟨u,hu⟩:=aq (s.extract k s.size);rw[<-hu]at hQ;have hul:u.data.toList=s.data.toList.drop k:=by rw[hu,gZ]
 have hus:u.size<=1500:=by rw[zE,hul,List.length_drop,<-zE];omega
 have hC:=λ(w':World) (h':w'.cell? ⟨1,0,none⟩=some (.int .i64 m))=>Tryz.strings_Cut u ⟨#[10]⟩ m w' (by omega) h';rw[show (⟨#[10]⟩:BA).data.toList=[10] from rfl,hul,Cr]at hC;obtain⟨d,hd⟩:∃d:BA,d=⟨((s.data.toList.drop k).takeWhile (λc=>c != 10)).toArray⟩:=⟨_,rfl⟩
 obtain⟨d2,hd2⟩:∃d2:BA,d2=⟨(Lib.cut (s.data.toList.drop k) [10]).2.1.toArray⟩:=⟨_,rfl⟩
 obtain⟨d3,hd3⟩:∃d3:Bool,d3=(Lib.cut (s.data.toList.drop k) [10]).2.2:=⟨_,rfl⟩
 rw[<-hd,<-hd2,<-hd3]at hC;have hds:kr s.data.toList k=k+d.size:=by unfold kr;rw[hd,zE]
 have hdl:k+d.size<=s.size:=by rw[<-hds,zE];exact vT (by rw[<-zE];exact hk)
 have HW:=ab h;have HM:=ab hm;have HD:=ab hds;have hml:=World.block_lt_of_cell? _ _ hm;clear h hu hul hus hd hd2 hd3 hds hm;go_enter func55,ntmps55;go_upto_region 1 with(first|(go_at_call 81;refine hQ.mono ?_;clear hQ;rintro ev w1⟨rfl,hb1⟩;have HM1:=ab (cL hb1 (uh HM)))|(go_at_call 82;refine(hC _ (uh HM1)).mono ?_;clear hC;rintro ev w2⟨rfl,⟨n2,rfl⟩⟩))
 have HR2:Hid (dB (w1.drewN n2) rb s k):=ab ((uh HW).tb (below_drewN hb1 n2));have c1:=(uh HR2).c1;have z1:=(uh HR2).fz 1;go_wp2_with fail;go_end0;have e:IntKind.i64.wrap ((k:Int)+(d.size:Int))=((k+d.size:Nat):Int):=by rw[<-Int.natCast_add];exact wrap_i64 _ (by omega)
 refine⟨rfl,by rw[uh HD];exact(uh HR2).to (k+d.size),(Tb.of_below (below_drewN hb1 n2)).trans (Tb.to _ _ _ _ _)⟩
structure aw where
 place:Nat
 v:Value
 xs:List bM
def aw.cells(m:aw):List Value:=[.int .i64 (m.place:Int),m.v]
def aw.wd(m:aw):Wd:=⟨m.xs,m.place⟩
def Ip(l:List aw):List Value:=(l.map aw.cells).flatten
theorem Gg(l:List aw)(a:aw):Ip (l++[a])=Ip l++a.cells:=by simp[Ip]
theorem EY:(prog.info? 148).map (λi=>(i.zero,i.size,i.bytes))=some (some (.agg #[.int .i64 0,.slice none 0 0]),2,32):=by kernel_rfl
def aw.Ok(m:aw)(w:World)(B:Nat):Prop:=w.ownsRow B 192 3 m.v (parts m.xs).length (tf (parts m.xs))
structure mU(w:World)(B:Nat)(v:Value)(ms:List aw):Prop where
 row:w.ownsRow B 148 2 v ms.length (Ip ms)
 all:∀m∈ms,m.Ok w B
theorem od{w:World}{B B' e z n:Nat}{v:Value}{xs:List Value}(h:w.ownsRow B e z v n xs)(hb:B'<=B):w.ownsRow B' e z v n xs:=by
 refine⟨h.1,?_⟩;rcases h.2 with h1|⟨g,cap,cur,h1,h2,h3⟩
 .exact .inl h1
 exact .inr ⟨g,cap,cur,h1,nT hb h2,h3⟩
theorem oq{w:World}{B B' e e' z z' n n':Nat}{v v':Value}{xs xs':List Value}(h:w.ownsRow B e z v n xs)(h':w.ownsRow B' e' z' v' n' xs')(hne:e≠e')(g:Nat)(hg:v.ownBlock=some g):v'.ownBlock≠some g:=by
 intro hg';rcases h.2 with⟨rfl,_⟩|⟨a,cap,cur,rfl,_,ha,_⟩
 .cases hg
 rcases h'.2 with⟨rfl,_⟩|⟨b,cap',cur',rfl,_,hb,_⟩
 .cases hg'
 obtain rfl:a=g:=by simpa[Value.ownBlock]using hg
 obtain rfl:b=a:=by simpa[Value.ownBlock]using hg'
 rw[ha]at hb;injection hb with hb;injection hb with _ hb;exact hne hb
end Go.Proofs.YtjhobnjdfhkohaaGreatDoor
