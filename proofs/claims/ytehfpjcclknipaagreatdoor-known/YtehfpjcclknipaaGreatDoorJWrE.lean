import Derived.Test.YtehfpjcclknipaaGreatDoorJWrA
import Derived.Shelf.Strings.Cut
import Derived.Shelf.Strings.Prefix
import Derived.Test.YtehfpjcclknipaaGreatDoorProg
namespace Go.Proofs.YtehfpjcclknipaaGreatDoor
open Go.RowKit
theorem begW (B rb wb:Nat) (s p:ByteArray) (k:Nat) (pl:Int) (xs:List Atm) (b:Bool) (w:World) (h:RW w B rb wb s k pl xs) (hk:k≤s.size) (hb:begG s k p=b) :
  Calls Tryz.prog 106 #[.pointer (some ⟨rb,0,none⟩),.string p] w fun e w'=>e=.returned (.bool b)∧RW w' B rb wb s k pl xs∧Tb B rb w w':=by
 refine (begR rb s p k b w h.rdr hk hb).mono ?_
 rintro e w' ⟨rfl,_,hb'⟩
 exact ⟨rfl,h.below hb',Tb.of_below (hb'.mono h.bl)⟩
theorem moreW (B rb wb:Nat) (s:ByteArray) (k:Nat) (pl:Int) (xs:List Atm) (b:Bool) (w:World) (h:RW w B rb wb s k pl xs) (hb:decide (k<s.size)=b) :
  Calls Tryz.prog 66 #[.pointer (some ⟨rb,0,none⟩)] w fun e w'=>e=.returned (.bool b)∧RW w' B rb wb s k pl xs∧Tb B rb w w':=by
 refine (moreR rb s k b w h.rdr hb).mono ?_
 rintro e w' ⟨rfl,_,hb'⟩
 exact ⟨rfl,h.below hb',Tb.of_below (hb'.mono h.bl)⟩
theorem takeW (B rb wb:Nat) (s p:ByteArray) (k:Nat) (pl:Int) (xs:List Atm) (b:Bool) (w:World) (h:RW w B rb wb s k pl xs) (hk:k≤s.size) (hs:s.size≤1500) (hb:begG s k p=b) :
  Calls Tryz.prog 108 #[.pointer (some ⟨rb,0,none⟩),.string p] w fun e w'=>e=.returned (.bool b)∧RW w' B rb wb s (if b=true then k+p.size else k) pl xs∧Tb B rb w w':=by
 refine (take_any rb s p k w h.rdr hk (by omega)).mono ?_
 rintro e w' ⟨rfl,hr,ht⟩
 rw [hb] at hr
 exact ⟨by rw [hb],h.to ht hr,ht.mono h.bl⟩
theorem endsW (B rb wb:Nat) (s:ByteArray) (k:Nat) (pl:Int) (xs:List Atm) (b:Bool) (w:World) (h:RW w B rb wb s k pl xs) (hk:k≤s.size) (hb:endG s.data.toList k=b) :
  Calls Tryz.prog 143 #[.pointer (some ⟨rb,0,none⟩)] w fun e w'=>e=.returned (.bool b)∧RW w' B rb wb s k pl xs∧Tb B rb w w':=by
 refine (ends_any rb s k w h.rdr hk).mono ?_
 rintro e w' ⟨rfl,hb'⟩
 exact ⟨by rw [hb],h.below hb',Tb.of_below (hb'.mono h.bl)⟩
theorem quo_none {l:List UInt8}{i k:Nat}{acc:List Atm}(h:l[k]?=none):quoG l i acc k=.error (5,i):=by
 rw [quoG];split
 ·rfl
 ·rename_i c h';rw [h] at h';cases h'
theorem quo_some {l:List UInt8}{i k:Nat}{acc:List Atm}{c:UInt8}(h:l[k]?=some c):quoG l i acc k =
  if c=10 then .error (5,i)
  else if c=34 then .ok (acc,k+1)
  else if c=36 then
   match varG l k with
   | none=>.error (5,k)
   | some (n,t)=>if k<t then quoG l i (acc++[.inr (n, k)]) t else .error (5,k)
  else if c=92 then
   match l[k+1]? with
   | none=>.error (5,k)
   | some d=>if escQ d=true then quoG l i (acc++[.inl d]) (k+2) else .error (5,k)
  else quoG l i (acc++[.inl c]) (k+1):=by
 rw [quoG];split
 ·rename_i h';rw [h] at h';cases h'
 ·rename_i d h';rw [h] at h';cases h';rfl
theorem beg_is {s:ByteArray}{k:Nat}{c:UInt8}(d:UInt8) (h:s.data.toList[k]?=some c):begG s k ⟨#[d]⟩=decide (c=d):=by
 rw [beg_one,h,Bool.eq_iff_iff]
 simp
theorem beg_off {s:ByteArray}{k:Nat}(d:UInt8) (h:s.data.toList[k]?=none):begG s k ⟨#[d]⟩=false:=by
 rw [beg_one,h];rfl
def QuoOut (w:World) (ev:Ending) (B rb wb:Nat) (s:ByteArray) (i:Nat) (pl:Int) (xs:List Atm) (k:Nat):Prop:=match quoG s.data.toList i xs k with
 | .error (e,p)=>Wrg w ev e p
 | .ok (ys,t)=>ev=.returned (.tuple #[])∧RW w B rb wb s t pl ys∧k≤t∧t≤s.size∧ys.length≤t
theorem QuoOut.bad {w:World}{ev:Ending}{B rb wb:Nat}{s:ByteArray}{i:Nat}{pl:Int}{xs ys:List Atm}{k j e p:Nat}(h:quoG s.data.toList i xs k=quoG s.data.toList i ys j) (hg:quoG s.data.toList i ys j=.error (e,p)) (hw:Wrg w ev e p):QuoOut w ev B rb wb s i pl xs k:=by
 unfold QuoOut;rw [h,hg];exact hw
theorem get_some {s:ByteArray}{k:Nat}{c:UInt8}(h:s.data.toList[k]?=some c):∃ hlt:k<s.size,s[k]=c:=by
 obtain ⟨h1,h2⟩:=List.getElem?_eq_some_iff.1 h
 exact ⟨by rw [Lib.size_eq];exact h1,h2⟩
set_option maxHeartbeats 4000000 in
set_option maxRecDepth 10000 in
theorem quoted_any (B rb wb:Nat) (s:ByteArray) (k:Nat) (pl:Int) (xs:List Atm) (w:World) (h:RW w B rb wb s k pl xs) (hk:k<s.size) (hs:s.size≤1500) (ha:xs.length≤k) :
  Calls Tryz.prog 144 #[.pointer (some ⟨rb,0,none⟩),.pointer (some ⟨wb,0,none⟩)] w fun ev w'=>QuoOut w' ev B rb wb s k pl xs (k+1)∧Tb B rb w w':=by
 have HW:=hide h
 have c1:=h.rdr.c1
 have z1:=h.rdr.fz 1
 clear h
 go_enter Tryz.func144,Tryz.ntmps144
 go_upto_region 2 with fail
 have e:IntKind.i64.wrap ((k:Int)+1)=((k+1:Nat):Int):=wrap_i64 (k+1) (by omega)
 obtain ⟨W2,hW2⟩:∃ W2,W2=w.setCell ⟨rb,1,none⟩ (.int .i64 ((k+1:Nat):Int)):=⟨_,rfl⟩
 have hT2:Tb w.heap.size rb w W2:=by rw [hW2];exact Tb.to _ _ _ _ _
 have HW2:=hide ((uh HW).to hT2 (by rw [hW2];exact (uh HW).rdr.to (k+1)))
 rw [show ((k:Int)+1)=((k+1:Nat):Int) by omega,←hW2]
 have hB2:Tb B rb w W2:=hT2.mono (uh HW).bl
 clear hW2 hT2 c1 z1 e
 go_loopw [16] (fun _ wr=>∃ (j:Nat) (ys:List Atm),RW wr B rb wb s j pl ys∧quoG s.data.toList k xs (k+1)=quoG s.data.toList k ys j∧ys.length≤j∧k<j∧j≤s.size∧Tb B rb w wr) (fun _ wr=>s.size-atOf wr rb)
 case atStart=>exact ⟨k+1,xs,uh HW2,rfl,by omega,by omega,by omega,hB2⟩
 case round=>
  obtain ⟨j,ys,hR,hG,hy,hkj,hj,hT⟩:=hrel
  have hA:=hR.rdr.at
  have HR:=hide hR
  have HG:=hide hG
  have HA:=hide hA
  have hF:=fun p w'=>fail_wrg 5 p w'
  clear hR hG hA
  cases hc:s.data.toList[j]? with
  | none=>
    have e0:=beg_off 34 hc
    have hjs:decide (j<s.size)=false:=by
     have:=List.getElem?_eq_none_iff.1 hc
     rw [←Lib.size_eq] at this;simp;omega
    have HQ:=hide (quo_none (i:=k) (acc:=ys) hc)
    have mT:=fun W (h:RW W B rb wb s j pl ys)=>takeW B rb wb s ⟨#[34]⟩ j pl ys false W h hj hs e0
    have mM:=fun W (h:RW W B rb wb s j pl ys)=>moreW B rb wb s j pl ys false W h hjs
    clear hc e0 hjs
    go_wp2_with (first
     | (go_at_call 108;refine (mT _ (uh HR)).mono ?_;clear mT;rintro ev w1 ⟨rfl,hW1,hT1⟩;have HW1:=hide hW1;clear hW1)
     | (go_at_call 66;refine (mM _ (uh HW1)).mono ?_;clear mM;rintro ev w2 ⟨rfl,hW2,hT2⟩;have HW2:=hide hW2;clear hW2)
     | (go_at_call 69;refine (hF _ _).mono ?_;clear hF;rintro ev w8 ⟨bb,rfl,hc,hb8⟩))
    exact ⟨rfl,QuoOut.bad (uh HG) (uh HQ) ⟨bb,rfl,hc⟩,((hT.trans hT1).trans hT2).trans (Tb.of_below (hb8.mono (uh HW2).bl))⟩
  | some c=>
    obtain ⟨hlt,hcv⟩:=get_some hc
    have HQ:=hide (quo_some (i:=k) (acc:=ys) hc)
    have mM:=fun W (h:RW W B rb wb s j pl ys)=>moreW B rb wb s j pl ys true W h (decide_eq_true hlt)
    by_cases hn34:c=34
    ·have hcc:=hn34
     have mT:=fun W (h:RW W B rb wb s j pl ys)=>takeW B rb wb s ⟨#[34]⟩ j pl ys true W h hj hs (by rw [beg_is 34 hc];exact decide_eq_true hcc)
     have HQ2:Hid (quoG s.data.toList k ys j=.ok (ys,j+1)):=hide (by rw [uh HQ,if_neg (by rw [hcc];decide),if_pos hcc])
     clear hc hcc hn34 hcv mM HQ
     go_wp2_with (first
      | (go_at_call 108;refine (mT _ (uh HR)).mono ?_;clear mT;rintro ev w1 ⟨rfl,hW1,hT1⟩;have HW1:=hide hW1;clear hW1))
     go_end0
     refine ⟨?_,hT.trans hT1⟩
     unfold QuoOut
     rw [uh HG,uh HQ2]
     exact ⟨rfl,uh HW1,by omega,by omega,by omega⟩
    by_cases hn10:c=10
    ·have hcc:=hn10
     have mT:=fun W (h:RW W B rb wb s j pl ys)=>takeW B rb wb s ⟨#[34]⟩ j pl ys false W h hj hs (by rw [beg_is 34 hc];exact decide_eq_false hn34)
     have m10:=fun W (h:RW W B rb wb s j pl ys)=>begW B rb wb s ⟨#[10]⟩ j pl ys true W h hj (by rw [beg_is 10 hc];exact decide_eq_true hcc)
     have HQ2:Hid (quoG s.data.toList k ys j=.error (5,k)):=hide (by rw [uh HQ,if_pos hcc])
     clear hc hcc hn34 hn10 hcv HQ
     go_wp2_with (first
      | (go_at_call 108;refine (mT _ (uh HR)).mono ?_;clear mT;rintro ev w1 ⟨rfl,hW1,hT1⟩;have HW1:=hide hW1;clear hW1)
      | (go_at_call 66;refine (mM _ (uh HW1)).mono ?_;clear mM;rintro ev w2 ⟨rfl,hW2,hT2⟩;have HW2:=hide hW2;clear hW2)
      | (go_at_call 106;refine (m10 _ (uh HW2)).mono ?_;clear m10;rintro ev w3 ⟨rfl,hW3,hT3⟩;have HW3:=hide hW3;clear hW3)
      | (go_at_call 69;refine (hF _ _).mono ?_;clear hF;rintro ev w8 ⟨bb,rfl,hc,hb8⟩))
     exact ⟨rfl,QuoOut.bad (uh HG) (uh HQ2) ⟨bb,rfl,hc⟩,(((hT.trans hT1).trans hT2).trans hT3).trans (Tb.of_below (hb8.mono (uh HW3).bl))⟩
    by_cases hn36:c=36
    ·have hcc:=hn36
     have mT:=fun W (h:RW W B rb wb s j pl ys)=>takeW B rb wb s ⟨#[34]⟩ j pl ys false W h hj hs (by rw [beg_is 34 hc];exact decide_eq_false hn34)
     have m10:=fun W (h:RW W B rb wb s j pl ys)=>begW B rb wb s ⟨#[10]⟩ j pl ys false W h hj (by rw [beg_is 10 hc];exact decide_eq_false hn10)
     have m36:=fun W (h:RW W B rb wb s j pl ys)=>begW B rb wb s ⟨#[36]⟩ j pl ys true W h hj (by rw [beg_is 36 hc];exact decide_eq_true hcc)
     have hV:=fun W (h:RW W B rb wb s j pl ys)=>var_any B rb wb s j pl ys W h hlt hs (by omega)
     cases hv:varG s.data.toList j with
     | none=>
       have HQ2:Hid (quoG s.data.toList k ys j=.error (5,j)):=hide (by rw [uh HQ,if_neg hn10,if_neg hn34,if_pos hcc,hv])
       unfold VarOut at hV
       rw [hv] at hV
       unfold Wrg at hV
       clear hc hcc hn34 hn10 hn36 hcv HQ hv
       go_wp2_with (first
        | (go_at_call 108;refine (mT _ (uh HR)).mono ?_;clear mT;rintro ev w1 ⟨rfl,hW1,hT1⟩;have HW1:=hide hW1;clear hW1)
        | (go_at_call 66;refine (mM _ (uh HW1)).mono ?_;clear mM;rintro ev w2 ⟨rfl,hW2,hT2⟩;have HW2:=hide hW2;clear hW2)
        | (go_at_call 106;refine (m10 _ (uh HW2)).mono ?_;clear m10;rintro ev w3 ⟨rfl,hW3,hT3⟩;have HW3:=hide hW3;clear hW3)
        | (go_at_call 106;refine (m36 _ (uh HW3)).mono ?_;clear m36;rintro ev w4 ⟨rfl,hW4,hT4⟩;have HW4:=hide hW4;clear hW4)
        | (go_at_call 145;refine (hV _ (uh HW4)).mono ?_;clear hV;rintro ev w8 ⟨⟨bb,rfl,hc⟩,hT8⟩))
       exact ⟨rfl,QuoOut.bad (uh HG) (uh HQ2) ⟨bb,rfl,hc⟩,((((hT.trans hT1).trans hT2).trans hT3).trans hT4).trans hT8⟩
     | some q=>
       obtain ⟨n,t⟩:=q
       unfold VarOut at hV
       rw [hv] at hV
       have HQ2:Hid (k<j→j<t→quoG s.data.toList k ys j=quoG s.data.toList k (ys++[.inr (n, j)]) t):=hide (fun _ ht=>by
        rw [uh HQ,if_neg hn10,if_neg hn34,if_pos hcc,hv];simp only;rw [if_pos ht])
       clear hc hcc hn34 hn10 hn36 hcv HQ hv
       go_wp2_with (first
        | (go_at_call 108;refine (mT _ (uh HR)).mono ?_;clear mT;rintro ev w1 ⟨rfl,hW1,hT1⟩;have HW1:=hide hW1;clear hW1)
        | (go_at_call 66;refine (mM _ (uh HW1)).mono ?_;clear mM;rintro ev w2 ⟨rfl,hW2,hT2⟩;have HW2:=hide hW2;clear hW2)
        | (go_at_call 106;refine (m10 _ (uh HW2)).mono ?_;clear m10;rintro ev w3 ⟨rfl,hW3,hT3⟩;have HW3:=hide hW3;clear hW3)
        | (go_at_call 106;refine (m36 _ (uh HW3)).mono ?_;clear m36;rintro ev w4 ⟨rfl,hW4,hT4⟩;have HW4:=hide hW4;clear hW4)
        | (go_at_call 145;refine (hV _ (uh HW4)).mono ?_;clear hV;rintro ev w8 ⟨⟨rfl,hW8,ht1,ht2⟩,hT8⟩))
       go_roundw
       case rel=>
        first
         | exact ⟨t,ys++[.inr (n, j)],hW8,(uh HG).trans (uh HQ2 hkj ht1),by simp;omega,by omega,ht2,((((hT.trans hT1).trans hT2).trans hT3).trans hT4).trans hT8⟩
         | ((repeat apply Exists.intro);exact ⟨⟨t,ys++[.inr (n, j)],hW8,(uh HG).trans (uh HQ2 hkj ht1),by simp;omega,by omega,ht2,((((hT.trans hT1).trans hT2).trans hT3).trans hT4).trans hT8⟩,rfl⟩)
       case measure=>rw [uh HA,hW8.rdr.at];omega
    by_cases hn92:c=92
    ·have hcc:=hn92
     have mT:=fun W (h:RW W B rb wb s j pl ys)=>takeW B rb wb s ⟨#[34]⟩ j pl ys false W h hj hs (by rw [beg_is 34 hc];exact decide_eq_false hn34)
     have m10:=fun W (h:RW W B rb wb s j pl ys)=>begW B rb wb s ⟨#[10]⟩ j pl ys false W h hj (by rw [beg_is 10 hc];exact decide_eq_false hn10)
     have m36:=fun W (h:RW W B rb wb s j pl ys)=>begW B rb wb s ⟨#[36]⟩ j pl ys false W h hj (by rw [beg_is 36 hc];exact decide_eq_false hn36)
     have m92:=fun W (h:RW W B rb wb s j pl ys)=>begW B rb wb s ⟨#[92]⟩ j pl ys true W h hj (by rw [beg_is 92 hc];exact decide_eq_true hcc)
     cases hd:s.data.toList[j+1]? with
     | none=>
       have HQ2:Hid (quoG s.data.toList k ys j=.error (5,j)):=hide (by rw [uh HQ,if_neg hn10,if_neg hn34,if_neg hn36,if_pos hcc,hd])
       have hE:=fun W (h:RW W B rb wb s j pl ys)=>escQ_bad B rb wb s j pl ys W h hlt (fun h'=>by
        have:=List.getElem?_eq_none_iff.1 hd
        rw [←Lib.size_eq] at this;omega)
       unfold Wrg at hE
       clear hc hcc hn34 hn10 hn36 hn92 hcv HQ hd
       go_wp2_with (first
        | (go_at_call 108;refine (mT _ (uh HR)).mono ?_;clear mT;rintro ev w1 ⟨rfl,hW1,hT1⟩;have HW1:=hide hW1;clear hW1)
        | (go_at_call 66;refine (mM _ (uh HW1)).mono ?_;clear mM;rintro ev w2 ⟨rfl,hW2,hT2⟩;have HW2:=hide hW2;clear hW2)
        | (go_at_call 106;refine (m10 _ (uh HW2)).mono ?_;clear m10;rintro ev w3 ⟨rfl,hW3,hT3⟩;have HW3:=hide hW3;clear hW3)
        | (go_at_call 106;refine (m36 _ (uh HW3)).mono ?_;clear m36;rintro ev w4 ⟨rfl,hW4,hT4⟩;have HW4:=hide hW4;clear hW4)
        | (go_at_call 106;refine (m92 _ (uh HW4)).mono ?_;clear m92;rintro ev w5 ⟨rfl,hW5,hT5⟩;have HW5:=hide hW5;clear hW5)
        | (go_at_call 182;refine (hE _ (uh HW5)).mono ?_;clear hE;rintro ev w8 ⟨⟨bb,rfl,hc⟩,hT8⟩))
       exact ⟨rfl,QuoOut.bad (uh HG) (uh HQ2) ⟨bb,rfl,hc⟩,(((((hT.trans hT1).trans hT2).trans hT3).trans hT4).trans hT5).trans hT8⟩
     | some d=>
       obtain ⟨hlt2,hdv⟩:=get_some hd
       cases hq:escQ d with
       | false=>
         have HQ2:Hid (quoG s.data.toList k ys j=.error (5,j)):=hide (by rw [uh HQ,if_neg hn10,if_neg hn34,if_neg hn36,if_pos hcc,hd];simp only;rw [if_neg (by simp [hq])])
         have hE:=fun W (h:RW W B rb wb s j pl ys)=>escQ_bad B rb wb s j pl ys W h hlt (fun h'=>by rw [hdv];exact hq)
         unfold Wrg at hE
         clear hc hcc hn34 hn10 hn36 hn92 hcv HQ hd hdv hq
         go_wp2_with (first
          | (go_at_call 108;refine (mT _ (uh HR)).mono ?_;clear mT;rintro ev w1 ⟨rfl,hW1,hT1⟩;have HW1:=hide hW1;clear hW1)
          | (go_at_call 66;refine (mM _ (uh HW1)).mono ?_;clear mM;rintro ev w2 ⟨rfl,hW2,hT2⟩;have HW2:=hide hW2;clear hW2)
          | (go_at_call 106;refine (m10 _ (uh HW2)).mono ?_;clear m10;rintro ev w3 ⟨rfl,hW3,hT3⟩;have HW3:=hide hW3;clear hW3)
          | (go_at_call 106;refine (m36 _ (uh HW3)).mono ?_;clear m36;rintro ev w4 ⟨rfl,hW4,hT4⟩;have HW4:=hide hW4;clear hW4)
          | (go_at_call 106;refine (m92 _ (uh HW4)).mono ?_;clear m92;rintro ev w5 ⟨rfl,hW5,hT5⟩;have HW5:=hide hW5;clear hW5)
          | (go_at_call 182;refine (hE _ (uh HW5)).mono ?_;clear hE;rintro ev w8 ⟨⟨bb,rfl,hc⟩,hT8⟩))
         exact ⟨rfl,QuoOut.bad (uh HG) (uh HQ2) ⟨bb,rfl,hc⟩,(((((hT.trans hT1).trans hT2).trans hT3).trans hT4).trans hT5).trans hT8⟩
       | true=>
         have HQ2:Hid (quoG s.data.toList k ys j=quoG s.data.toList k (ys++[.inl d]) (j+2)):=hide (by rw [uh HQ,if_neg hn10,if_neg hn34,if_neg hn36,if_pos hcc,hd];simp only;rw [if_pos hq])
         have hE:=fun W (h:RW W B rb wb s j pl ys)=>escQ_ok B rb wb s j pl ys W h hlt2 hs (by omega) (by rw [hdv];exact hq)
         rw [hdv] at hE
         clear hc hcc hn34 hn10 hn36 hn92 hcv HQ hd hdv hq
         go_wp2_with (first
          | (go_at_call 108;refine (mT _ (uh HR)).mono ?_;clear mT;rintro ev w1 ⟨rfl,hW1,hT1⟩;have HW1:=hide hW1;clear hW1)
          | (go_at_call 66;refine (mM _ (uh HW1)).mono ?_;clear mM;rintro ev w2 ⟨rfl,hW2,hT2⟩;have HW2:=hide hW2;clear hW2)
          | (go_at_call 106;refine (m10 _ (uh HW2)).mono ?_;clear m10;rintro ev w3 ⟨rfl,hW3,hT3⟩;have HW3:=hide hW3;clear hW3)
          | (go_at_call 106;refine (m36 _ (uh HW3)).mono ?_;clear m36;rintro ev w4 ⟨rfl,hW4,hT4⟩;have HW4:=hide hW4;clear hW4)
          | (go_at_call 106;refine (m92 _ (uh HW4)).mono ?_;clear m92;rintro ev w5 ⟨rfl,hW5,hT5⟩;have HW5:=hide hW5;clear hW5)
          | (go_at_call 182;refine (hE _ (uh HW5)).mono ?_;clear hE;rintro ev w8 ⟨rfl,hW8,hT8⟩))
         go_roundw
         case rel=>
          first
           | exact ⟨j+2,ys++[.inl d],hW8,(uh HG).trans (uh HQ2),by simp;omega,by omega,by omega,(((((hT.trans hT1).trans hT2).trans hT3).trans hT4).trans hT5).trans hT8⟩
           | ((repeat apply Exists.intro);exact ⟨⟨j+2,ys++[.inl d],hW8,(uh HG).trans (uh HQ2),by simp;omega,by omega,by omega,(((((hT.trans hT1).trans hT2).trans hT3).trans hT4).trans hT5).trans hT8⟩,rfl⟩)
         case measure=>rw [uh HA,hW8.rdr.at];omega
    have mT:=fun W (h:RW W B rb wb s j pl ys)=>takeW B rb wb s ⟨#[34]⟩ j pl ys false W h hj hs (by rw [beg_is 34 hc];exact decide_eq_false hn34)
    have m10:=fun W (h:RW W B rb wb s j pl ys)=>begW B rb wb s ⟨#[10]⟩ j pl ys false W h hj (by rw [beg_is 10 hc];exact decide_eq_false hn10)
    have m36:=fun W (h:RW W B rb wb s j pl ys)=>begW B rb wb s ⟨#[36]⟩ j pl ys false W h hj (by rw [beg_is 36 hc];exact decide_eq_false hn36)
    have m92:=fun W (h:RW W B rb wb s j pl ys)=>begW B rb wb s ⟨#[92]⟩ j pl ys false W h hj (by rw [beg_is 92 hc];exact decide_eq_false hn92)
    have HQ2:Hid (quoG s.data.toList k ys j=quoG s.data.toList k (ys++[.inl c]) (j+1)):=hide (by rw [uh HQ,if_neg hn10,if_neg hn34,if_neg hn36,if_neg hn92])
    have hE:=fun W (h:RW W B rb wb s j pl ys)=>itself_any B rb wb s j pl ys W h hlt hs (by omega)
    rw [hcv] at hE
    clear hc hn34 hn10 hn36 hn92 hcv HQ
    go_wp2_with (first
     | (go_at_call 108;refine (mT _ (uh HR)).mono ?_;clear mT;rintro ev w1 ⟨rfl,hW1,hT1⟩;have HW1:=hide hW1;clear hW1)
     | (go_at_call 66;refine (mM _ (uh HW1)).mono ?_;clear mM;rintro ev w2 ⟨rfl,hW2,hT2⟩;have HW2:=hide hW2;clear hW2)
     | (go_at_call 106;refine (m10 _ (uh HW2)).mono ?_;clear m10;rintro ev w3 ⟨rfl,hW3,hT3⟩;have HW3:=hide hW3;clear hW3)
     | (go_at_call 106;refine (m36 _ (uh HW3)).mono ?_;clear m36;rintro ev w4 ⟨rfl,hW4,hT4⟩;have HW4:=hide hW4;clear hW4)
     | (go_at_call 106;refine (m92 _ (uh HW4)).mono ?_;clear m92;rintro ev w5 ⟨rfl,hW5,hT5⟩;have HW5:=hide hW5;clear hW5)
     | (go_at_call 147;refine (hE _ (uh HW5)).mono ?_;clear hE;rintro ev w8 ⟨rfl,hW8,hT8⟩))
    go_roundw
    case rel=>
     first
      | exact ⟨j+1,ys++[.inl c],hW8,(uh HG).trans (uh HQ2),by simp;omega,by omega,by omega,(((((hT.trans hT1).trans hT2).trans hT3).trans hT4).trans hT5).trans hT8⟩
      | ((repeat apply Exists.intro);exact ⟨⟨j+1,ys++[.inl c],hW8,(uh HG).trans (uh HQ2),by simp;omega,by omega,by omega,(((((hT.trans hT1).trans hT2).trans hT3).trans hT4).trans hT5).trans hT8⟩,rfl⟩)
    case measure=>rw [uh HA,hW8.rdr.at];omega
theorem end_none {l:List UInt8}{k:Nat}(h:l[k]?=none):endG l k=true:=by
 have:=List.getElem?_eq_none_iff.1 h
 unfold endG;rw [decide_eq_false (by omega)];rfl
theorem end_some {l:List UInt8}{k:Nat}{c:UInt8}(h:l[k]?=some c):endG l k=decide (c=10∨c=32∨goesG l k=true):=by
 have hlt:=(List.getElem?_eq_some_iff.1 h).1
 unfold endG;rw [decide_eq_true hlt,h,Bool.eq_iff_iff]
 simp only [Bool.not_true,Bool.false_or,Bool.or_eq_true,beq_iff_eq,Option.some.injEq,decide_eq_true_eq]
 constructor
 ·rintro ((h | h) | h)
  ·exact .inr (.inl h)
  ·exact .inl h
  ·exact .inr (.inr h)
 ·rintro (h | h | h)
  ·exact .inl (.inr h)
  ·exact .inl (.inl h)
  ·exact .inr h
theorem wrd_end {l:List UInt8}{k:Nat}{acc:List Atm}(h:endG l k=true):wrdG l acc k=.ok (acc,k):=by
 rw [wrdG];split
 ·rfl
 ·rename_i c hc
  rw [end_some hc] at h
  simp only
  rw [if_pos (of_decide_eq_true h)]
theorem wrd_some {l:List UInt8}{k:Nat}{acc:List Atm}{c:UInt8}(h:l[k]?=some c) (he:endG l k=false):wrdG l acc k =
  if c=34 then
   match quoG l k acc (k+1) with
   | .error e=>.error e
   | .ok (a,t)=>if k<t then wrdG l a t else .error (5,k)
  else if c=36 then
   match varG l k with
   | none=>.error (5,k)
   | some (n,t)=>if k<t then wrdG l (acc++[.inr (n, k)]) t else .error (5,k)
  else if c=92 then
   match l[k+1]? with
   | none=>.error (5,k)
   | some d=>wrdG l (acc++[.inl d]) (k+2)
  else wrdG l (acc++[.inl c]) (k+1):=by
 rw [wrdG];split
 ·rename_i h';rw [h] at h';cases h'
 ·rename_i d h';rw [h] at h';cases h'
  rw [end_some h] at he
  simp only
  rw [if_neg (of_decide_eq_false he)]
  rfl
def WrdOut (w w':World) (ev:Ending) (rb:Nat) (s:ByteArray) (k:Nat):Prop:=match wrdG s.data.toList [] k with
 | .error (e,p)=>Wrg w' ev e p
 | .ok (ys,t)=>∃ v,ev=.returned (.agg #[.int .i64 (k:Int),v])∧w'.ownsRow w.heap.size 217 3 v (parts ys).length (prC (parts ys))∧Rdr w' rb s t∧k≤t∧t≤s.size∧ys.length≤t
theorem WrdOut.bad {w w':World}{ev:Ending}{rb:Nat}{s:ByteArray}{ys:List Atm}{k j e p:Nat}(h:wrdG s.data.toList [] k=wrdG s.data.toList ys j) (hg:wrdG s.data.toList ys j=.error (e,p)) (hw:Wrg w' ev e p):WrdOut w w' ev rb s k:=by
 unfold WrdOut;rw [h,hg];exact hw
theorem row_form {w:World}{B e z n:Nat}{v:Value}{xs:List Value}(h:w.ownsRow B e z v n xs):∃ ao n' cap,v=.slice ao n' cap:=by
 rcases h.2 with ⟨rfl,_⟩ | ⟨g,cap,cur,rfl,_⟩
 ·exact ⟨_,_,_,rfl⟩
 ·exact ⟨_,_,_,rfl⟩
theorem Tb.down {B B' rb:Nat}{w w':World}(h:Tb B rb w w') (hB:B'≤B):Tb B' rb w w':=h.mono hB
set_option maxHeartbeats 4000000 in
set_option maxRecDepth 10000 in
theorem word_any (rb:Nat) (s:ByteArray) (k:Nat) (w:World) (h:Rdr w rb s k) (hk:k≤s.size) (hs:s.size≤1500) :
  Calls Tryz.prog 109 #[.pointer (some ⟨rb,0,none⟩)] w fun ev w'=>WrdOut w w' ev rb s k∧Tb w.heap.size rb w w':=by
 have c1:=h.c1
 have hrl:=h.lt
 have HW:=hide h
 clear h
 have n0:=World.new_ne w ⟨rb,1,none⟩ c1
 go_enter Tryz.func109,Tryz.ntmps109
 go_upto_region 2 with fail
 obtain ⟨W0,hW0⟩:∃ W0,W0=(w.alloc (.cells #[.int .i64 0,.slice none 0 0] 162)).alloc (.cells #[.int .i64 (k:Int),.slice none 0 0] 162):=⟨_,rfl⟩
 rw [←hW0]
 obtain ⟨B,hB⟩:∃ B,B=w.heap.size+1:=⟨_,rfl⟩
 rw [←hB]
 have hz0:W0.heap.size=w.heap.size+2:=by rw [hW0];simp
 have hb0:Below w.heap.size w W0:=by rw [hW0];exact ((Below.refl _ _).alloc (Nat.le_refl _) _).alloc (by simp) _
 have HR0:Hid (RW W0 B rb B s k (k:Int) []):=hide ⟨(uh HW).below hb0 hrl,⟨.slice none 0 0,by
  have:=heap_alloc_new (w.alloc (.cells #[.int .i64 0,.slice none 0 0] 162)) (.cells #[.int .i64 (k:Int),.slice none 0 0] 162)
  rw [World.size_alloc,←hB,←hW0] at this
  exact this,World.ownsRow_nil _ _ _ _,Nat.le_refl _,fun _=>rfl⟩,by omega,by omega⟩
 have HC0:Hid (W0.heap[w.heap.size]?=some (.cells #[.int .i64 0,.slice none 0 0] 162 (0,0))):=hide (by
  rw [hW0,Below.heap_alloc _ _ _ (by simp)];exact heap_alloc_new _ _)
 have HB:=hide hB
 have HZ0:=hide hz0
 clear hW0 hB hz0 n0 c1
 go_loopw [9] (fun _ wr=>∃ (j:Nat) (ys:List Atm),RW wr B rb B s j (k:Int) ys∧wrdG s.data.toList [] k=wrdG s.data.toList ys j∧ys.length≤j∧k≤j∧j≤s.size∧Tb B rb W0 wr) (fun _ wr=>s.size-atOf wr rb)
 case atStart=>exact ⟨k,[],uh HR0,rfl,by simp,by omega,by omega,Tb.refl _ _ _⟩
 case round=>
  obtain ⟨j,ys,hR,hG,hy,hkj,hj,hT⟩:=hrel
  have hA:=hR.rdr.at
  have HR:=hide hR
  have HG:=hide hG
  have HA:=hide hA
  clear hR hG hA
  have HT0:Hid (∀ w',Tb B rb W0 w'→Tb w.heap.size rb w w'):=hide (fun w' h'=>(Tb.of_below hb0).trans (h'.down (by have:=uh HB;omega)))
  have HCR:Hid (∀ w',Tb B rb W0 w'→w'.heap[w.heap.size]?=some (.cells #[.int .i64 0,.slice none 0 0] 162 (0,0))):=hide (fun w' h'=>(h'.block _ (by have:=uh HB;omega) (by omega)).trans (uh HC0))
  cases he:endG s.data.toList j with
  | true=>
    have HQ:=hide (wrd_end (acc:=ys) he)
    have mE:=fun W (h:RW W B rb B s j k ys)=>endsW B rb B s j k ys true W h hj he
    clear he
    go_upto_region 10 with (go_at_call 143;refine (mE _ (uh HR)).mono ?_;clear mE;rintro ev w1 ⟨rfl,hW1,hT1⟩;have HW1:=hide hW1;clear hW1)
    have hT1':=hT.trans hT1
    obtain ⟨v,hv⟩:=(uh HW1).wrd
    have hcr:=uh HCR w1 hT1'
    have q0:w1.cell? ⟨w.heap.size,0,none⟩=some (.int .i64 0):=cq 0 hcr
    have q1:w1.cell? ⟨w.heap.size,1,none⟩=some (.slice none 0 0):=cq 1 hcr
    have f0:∀ i,w1.frozen? ⟨w.heap.size,i,none⟩=false:=fun i=>by simp [World.frozen?,hcr]
    have f1:=f0 0
    have f2:=f0 1
    have p0:w1.cell? ⟨B,0,none⟩=some (.int .i64 (k:Int)):=cq 0 hv.cells
    have p1:w1.cell? ⟨B,1,none⟩=some v:=cq 1 hv.cells
    have HV:=hide hv
    have HCRR:=hide hcr
    obtain ⟨ao,n',cap,rfl⟩:=row_form hv.row
    clear hv hcr f0
    go_wp2_with fail
    obtain ⟨W9,hW9⟩:∃ W9,W9=(w1.setCell ⟨w.heap.size,0,none⟩ (.int .i64 (k:Int))).setCell ⟨w.heap.size,1,none⟩ (.slice ao n' cap):=⟨_,rfl⟩
    rw [←hW9]
    have hr9:W9.heap[w.heap.size]?=some (.cells #[.int .i64 (k:Int),.slice ao n' cap] 162 (0,0)):=by
     rw [hW9]
     exact heap_setCell_same _ _ 1 _ _ _ (heap_setCell_same _ _ 0 _ _ _ (uh HCRR))
    have r0:W9.cell? ⟨w.heap.size,0,none⟩=some (.int .i64 (k:Int)):=cq 0 hr9
    have r1:W9.cell? ⟨w.heap.size,1,none⟩=some (.slice ao n' cap):=cq 1 hr9
    have ho9:∀ i,i≠w.heap.size→W9.heap[i]?=w1.heap[i]?:=fun i hi=>by
     rw [hW9,Below.heap_setCell _ _ _ _ hi,Below.heap_setCell _ _ _ _ hi]
    have hz9:w1.heap.size=W9.heap.size:=by rw [hW9];simp
    have hs9:W9.os=w1.os∧W9.tape=w1.tape∧W9.output=w1.output:=by rw [hW9];exact ⟨rfl,rfl,rfl⟩
    refine bodyPost_ret (v:=.agg #[.int .i64 (k:Int),.slice ao n' cap]) (by simp [results,Tryz.results109,go_sem,r0,r1]) rfl ?_
    have hT9:=uh HT0 w1 hT1'
    refine ⟨?_,⟨hs9.1.trans hT9.os,hs9.2.1.trans hT9.tape,hs9.2.2.trans hT9.output,by rw [←hz9];exact hT9.size,fun i hi hr=>(ho9 i (by omega)).trans (hT9.block i hi hr)⟩⟩
    unfold WrdOut
    rw [uh HG,uh HQ]
    refine ⟨_,rfl,?_,?_,hkj,hj,hy⟩
    ·have hrow:=row_same (uh HV).row (w':=W9) (fun i hi=>ho9 i (by
      have:=(World.ownsRow.lt (uh HV).row i hi).1
      have:=uh HB;omega))
     refine ⟨hrow.1,?_⟩
     rcases hrow.2 with h0 | ⟨g,cap',cur,h1,h2,h3⟩
     ·exact .inl h0
     ·exact .inr ⟨g,cap',cur,h1,by have:=uh HB;omega,h3⟩
    ·exact (ho9 rb (by omega)).trans (uh HW1).rdr
  | false=>
    cases hc:s.data.toList[j]? with
    | none=>rw [end_none hc] at he;cases he
    | some c=>
    have mE:=fun W (h:RW W B rb B s j k ys)=>endsW B rb B s j k ys false W h hj he
    obtain ⟨hlt,hcv⟩:=get_some hc
    have HQ:=hide (wrd_some (acc:=ys) hc he)
    clear he
    by_cases hn34:c=34
    ·have hcc:=hn34
     have m34:=fun W (h:RW W B rb B s j k ys)=>begW B rb B s ⟨#[34]⟩ j k ys true W h hj (by rw [beg_is 34 hc];exact decide_eq_true hcc)
     have hE:=fun W (h:RW W B rb B s j k ys)=>quoted_any B rb B s j k ys W h hlt hs hy
     unfold QuoOut at hE
     cases hq:quoG s.data.toList j ys (j+1) with
     | error x=>
       obtain ⟨e,p⟩:=x
       rw [hq] at hE
       have HQ2:Hid (wrdG s.data.toList ys j=.error (e,p)):=hide (by rw [uh HQ,if_pos hcc,hq])
       unfold Wrg at hE
       clear hc hcc hn34 hcv HQ hq
       go_wp2_with (first
        | (go_at_call 143;refine (mE _ (uh HR)).mono ?_;clear mE;rintro ev w1 ⟨rfl,hW1,hT1⟩;have HW1:=hide hW1;clear hW1)
        | (go_at_call 106;refine (m34 _ (uh HW1)).mono ?_;clear m34;rintro ev w2 ⟨rfl,hW2,hT2⟩;have HW2:=hide hW2;clear hW2)
        | (go_at_call 144;refine (hE _ (uh HW2)).mono ?_;clear hE;rintro ev w8 ⟨⟨bb,rfl,hc⟩,hT8⟩))
       exact ⟨rfl,WrdOut.bad (uh HG) (uh HQ2) ⟨bb,rfl,hc⟩,uh HT0 _ (((hT.trans hT1).trans hT2).trans hT8)⟩
     | ok x=>
       obtain ⟨zs,t⟩:=x
       rw [hq] at hE
       have HQ2:Hid (j<t→wrdG s.data.toList ys j=wrdG s.data.toList zs t):=hide (fun ht=>by rw [uh HQ,if_pos hcc,hq];simp only;rw [if_pos ht])
       clear hc hcc hn34 hcv HQ hq
       go_wp2_with (first
        | (go_at_call 143;refine (mE _ (uh HR)).mono ?_;clear mE;rintro ev w1 ⟨rfl,hW1,hT1⟩;have HW1:=hide hW1;clear hW1)
        | (go_at_call 106;refine (m34 _ (uh HW1)).mono ?_;clear m34;rintro ev w2 ⟨rfl,hW2,hT2⟩;have HW2:=hide hW2;clear hW2)
        | (go_at_call 144;refine (hE _ (uh HW2)).mono ?_;clear hE;rintro ev w8 ⟨⟨rfl,hW8,ht1,ht2,hzl⟩,hT8⟩))
       go_roundw
       case rel=>
        first
         | exact ⟨t,zs,hW8,(uh HG).trans (uh HQ2 (by omega)),hzl,by omega,ht2,((hT.trans hT1).trans hT2).trans hT8⟩
         | ((repeat apply Exists.intro);exact ⟨⟨t,zs,hW8,(uh HG).trans (uh HQ2 (by omega)),hzl,by omega,ht2,((hT.trans hT1).trans hT2).trans hT8⟩,rfl⟩)
       case measure=>rw [uh HA,hW8.rdr.at];omega
    by_cases hn36:c=36
    ·have hcc:=hn36
     have m34:=fun W (h:RW W B rb B s j k ys)=>begW B rb B s ⟨#[34]⟩ j k ys false W h hj (by rw [beg_is 34 hc];exact decide_eq_false hn34)
     have m36:=fun W (h:RW W B rb B s j k ys)=>begW B rb B s ⟨#[36]⟩ j k ys true W h hj (by rw [beg_is 36 hc];exact decide_eq_true hcc)
     have hV:=fun W (h:RW W B rb B s j k ys)=>var_any B rb B s j k ys W h hlt hs (by omega)
     unfold VarOut at hV
     cases hv:varG s.data.toList j with
     | none=>
       have HQ2:Hid (wrdG s.data.toList ys j=.error (5,j)):=hide (by rw [uh HQ,if_neg hn34,if_pos hcc,hv])
       rw [hv] at hV
       unfold Wrg at hV
       clear hc hcc hn34 hn36 hcv HQ hv
       go_wp2_with (first
        | (go_at_call 143;refine (mE _ (uh HR)).mono ?_;clear mE;rintro ev w1 ⟨rfl,hW1,hT1⟩;have HW1:=hide hW1;clear hW1)
        | (go_at_call 106;refine (m34 _ (uh HW1)).mono ?_;clear m34;rintro ev w2 ⟨rfl,hW2,hT2⟩;have HW2:=hide hW2;clear hW2)
        | (go_at_call 106;refine (m36 _ (uh HW2)).mono ?_;clear m36;rintro ev w3 ⟨rfl,hW3,hT3⟩;have HW3:=hide hW3;clear hW3)
        | (go_at_call 145;refine (hV _ (uh HW3)).mono ?_;clear hV;rintro ev w8 ⟨⟨bb,rfl,hc⟩,hT8⟩))
       exact ⟨rfl,WrdOut.bad (uh HG) (uh HQ2) ⟨bb,rfl,hc⟩,uh HT0 _ ((((hT.trans hT1).trans hT2).trans hT3).trans hT8)⟩
     | some q=>
       obtain ⟨n,t⟩:=q
       rw [hv] at hV
       have HQ2:Hid (j<t→wrdG s.data.toList ys j=wrdG s.data.toList (ys++[.inr (n, j)]) t):=hide (fun ht=>by
        rw [uh HQ,if_neg hn34,if_pos hcc,hv];simp only;rw [if_pos ht])
       clear hc hcc hn34 hn36 hcv HQ hv
       go_wp2_with (first
        | (go_at_call 143;refine (mE _ (uh HR)).mono ?_;clear mE;rintro ev w1 ⟨rfl,hW1,hT1⟩;have HW1:=hide hW1;clear hW1)
        | (go_at_call 106;refine (m34 _ (uh HW1)).mono ?_;clear m34;rintro ev w2 ⟨rfl,hW2,hT2⟩;have HW2:=hide hW2;clear hW2)
        | (go_at_call 106;refine (m36 _ (uh HW2)).mono ?_;clear m36;rintro ev w3 ⟨rfl,hW3,hT3⟩;have HW3:=hide hW3;clear hW3)
        | (go_at_call 145;refine (hV _ (uh HW3)).mono ?_;clear hV;rintro ev w8 ⟨⟨rfl,hW8,ht1,ht2⟩,hT8⟩))
       go_roundw
       case rel=>
        first
         | exact ⟨t,ys++[.inr (n, j)],hW8,(uh HG).trans (uh HQ2 ht1),by simp;omega,by omega,ht2,(((hT.trans hT1).trans hT2).trans hT3).trans hT8⟩
         | ((repeat apply Exists.intro);exact ⟨⟨t,ys++[.inr (n, j)],hW8,(uh HG).trans (uh HQ2 ht1),by simp;omega,by omega,ht2,(((hT.trans hT1).trans hT2).trans hT3).trans hT8⟩,rfl⟩)
       case measure=>rw [uh HA,hW8.rdr.at];omega
    by_cases hn92:c=92
    ·have hcc:=hn92
     have m34:=fun W (h:RW W B rb B s j k ys)=>begW B rb B s ⟨#[34]⟩ j k ys false W h hj (by rw [beg_is 34 hc];exact decide_eq_false hn34)
     have m36:=fun W (h:RW W B rb B s j k ys)=>begW B rb B s ⟨#[36]⟩ j k ys false W h hj (by rw [beg_is 36 hc];exact decide_eq_false hn36)
     have m92:=fun W (h:RW W B rb B s j k ys)=>begW B rb B s ⟨#[92]⟩ j k ys true W h hj (by rw [beg_is 92 hc];exact decide_eq_true hcc)
     cases hd:s.data.toList[j+1]? with
     | none=>
       have HQ2:Hid (wrdG s.data.toList ys j=.error (5,j)):=hide (by rw [uh HQ,if_neg hn34,if_neg hn36,if_pos hcc,hd])
       have hj1:j+1=s.size:=by
        have:=List.getElem?_eq_none_iff.1 hd
        rw [←Lib.size_eq] at this;omega
       have hE:=fun W (h:RW W B rb B s j k ys)=>escaped_bad B rb B s j k ys W h hj1
       unfold Wrg at hE
       clear hc hcc hn34 hn36 hn92 hcv HQ hd hj1
       go_wp2_with (first
        | (go_at_call 143;refine (mE _ (uh HR)).mono ?_;clear mE;rintro ev w1 ⟨rfl,hW1,hT1⟩;have HW1:=hide hW1;clear hW1)
        | (go_at_call 106;refine (m34 _ (uh HW1)).mono ?_;clear m34;rintro ev w2 ⟨rfl,hW2,hT2⟩;have HW2:=hide hW2;clear hW2)
        | (go_at_call 106;refine (m36 _ (uh HW2)).mono ?_;clear m36;rintro ev w3 ⟨rfl,hW3,hT3⟩;have HW3:=hide hW3;clear hW3)
        | (go_at_call 106;refine (m92 _ (uh HW3)).mono ?_;clear m92;rintro ev w4 ⟨rfl,hW4,hT4⟩;have HW4:=hide hW4;clear hW4)
        | (go_at_call 146;refine (hE _ (uh HW4)).mono ?_;clear hE;rintro ev w8 ⟨⟨bb,rfl,hc⟩,hT8⟩))
       exact ⟨rfl,WrdOut.bad (uh HG) (uh HQ2) ⟨bb,rfl,hc⟩,uh HT0 _ (((((hT.trans hT1).trans hT2).trans hT3).trans hT4).trans hT8)⟩
     | some d=>
       obtain ⟨hlt2,hdv⟩:=get_some hd
       have HQ2:Hid (wrdG s.data.toList ys j=wrdG s.data.toList (ys++[.inl d]) (j+2)):=hide (by rw [uh HQ,if_neg hn34,if_neg hn36,if_pos hcc,hd])
       have hE:=fun W (h:RW W B rb B s j k ys)=>escaped_ok B rb B s j k ys W h hlt2 hs (by omega)
       rw [hdv] at hE
       clear hc hcc hn34 hn36 hn92 hcv HQ hd hdv
       go_wp2_with (first
        | (go_at_call 143;refine (mE _ (uh HR)).mono ?_;clear mE;rintro ev w1 ⟨rfl,hW1,hT1⟩;have HW1:=hide hW1;clear hW1)
        | (go_at_call 106;refine (m34 _ (uh HW1)).mono ?_;clear m34;rintro ev w2 ⟨rfl,hW2,hT2⟩;have HW2:=hide hW2;clear hW2)
        | (go_at_call 106;refine (m36 _ (uh HW2)).mono ?_;clear m36;rintro ev w3 ⟨rfl,hW3,hT3⟩;have HW3:=hide hW3;clear hW3)
        | (go_at_call 106;refine (m92 _ (uh HW3)).mono ?_;clear m92;rintro ev w4 ⟨rfl,hW4,hT4⟩;have HW4:=hide hW4;clear hW4)
        | (go_at_call 146;refine (hE _ (uh HW4)).mono ?_;clear hE;rintro ev w8 ⟨rfl,hW8,hT8⟩))
       go_roundw
       case rel=>
        first
         | exact ⟨j+2,ys++[.inl d],hW8,(uh HG).trans (uh HQ2),by simp;omega,by omega,by omega,((((hT.trans hT1).trans hT2).trans hT3).trans hT4).trans hT8⟩
         | ((repeat apply Exists.intro);exact ⟨⟨j+2,ys++[.inl d],hW8,(uh HG).trans (uh HQ2),by simp;omega,by omega,by omega,((((hT.trans hT1).trans hT2).trans hT3).trans hT4).trans hT8⟩,rfl⟩)
       case measure=>rw [uh HA,hW8.rdr.at];omega
    have m34:=fun W (h:RW W B rb B s j k ys)=>begW B rb B s ⟨#[34]⟩ j k ys false W h hj (by rw [beg_is 34 hc];exact decide_eq_false hn34)
    have m36:=fun W (h:RW W B rb B s j k ys)=>begW B rb B s ⟨#[36]⟩ j k ys false W h hj (by rw [beg_is 36 hc];exact decide_eq_false hn36)
    have m92:=fun W (h:RW W B rb B s j k ys)=>begW B rb B s ⟨#[92]⟩ j k ys false W h hj (by rw [beg_is 92 hc];exact decide_eq_false hn92)
    have HQ2:Hid (wrdG s.data.toList ys j=wrdG s.data.toList (ys++[.inl c]) (j+1)):=hide (by rw [uh HQ,if_neg hn34,if_neg hn36,if_neg hn92])
    have hE:=fun W (h:RW W B rb B s j k ys)=>itself_any B rb B s j k ys W h hlt hs (by omega)
    rw [hcv] at hE
    clear hc hn34 hn36 hn92 hcv HQ
    go_wp2_with (first
     | (go_at_call 143;refine (mE _ (uh HR)).mono ?_;clear mE;rintro ev w1 ⟨rfl,hW1,hT1⟩;have HW1:=hide hW1;clear hW1)
     | (go_at_call 106;refine (m34 _ (uh HW1)).mono ?_;clear m34;rintro ev w2 ⟨rfl,hW2,hT2⟩;have HW2:=hide hW2;clear hW2)
     | (go_at_call 106;refine (m36 _ (uh HW2)).mono ?_;clear m36;rintro ev w3 ⟨rfl,hW3,hT3⟩;have HW3:=hide hW3;clear hW3)
     | (go_at_call 106;refine (m92 _ (uh HW3)).mono ?_;clear m92;rintro ev w4 ⟨rfl,hW4,hT4⟩;have HW4:=hide hW4;clear hW4)
     | (go_at_call 147;refine (hE _ (uh HW4)).mono ?_;clear hE;rintro ev w8 ⟨rfl,hW8,hT8⟩))
    go_roundw
    case rel=>
     first
      | exact ⟨j+1,ys++[.inl c],hW8,(uh HG).trans (uh HQ2),by simp;omega,by omega,by omega,((((hT.trans hT1).trans hT2).trans hT3).trans hT4).trans hT8⟩
      | ((repeat apply Exists.intro);exact ⟨⟨j+1,ys++[.inl c],hW8,(uh HG).trans (uh HQ2),by simp;omega,by omega,by omega,((((hT.trans hT1).trans hT2).trans hT3).trans hT4).trans hT8⟩,rfl⟩)
    case measure=>rw [uh HA,hW8.rdr.at];omega
end Go.Proofs.YtehfpjcclknipaaGreatDoor
namespace Go.Proofs
open Go.Shelf
def Tryz.lays145_ren:Go.Shelf.Ren:=⟨fun | 145=>142 | 220=>181 | 219=>209 | 217=>245 | 225=>246 | 224=>247 | 267=>248 | 266=>276 | 314=>277 | n=>n,fun | 9=>9 | 4=>4 | 59=>237 | 3=>3 | 5=>5 | 46=>223 | 146=>274 | 51=>256 | n=>n,fun | 1=>14 | n=>n⟩
theorem Tryz.lays145:Go.Proofs.Lays.n145 Tryz.prog Tryz.lays145_ren:={
 mixed:=by kernel_rfl
 f145:=Tryz.func142.trans (congrArg some (by kernel_rfl))
 f217:=Tryz.func245.trans (congrArg some (by kernel_rfl))
 f219:=Tryz.func209.trans (congrArg some (by kernel_rfl))
 f220:=Tryz.func181.trans (congrArg some (by kernel_rfl))
 f224:=Tryz.func247.trans (congrArg some (by kernel_rfl))
 f225:=Tryz.func246.trans (congrArg some (by kernel_rfl))
 f266:=Tryz.func276.trans (congrArg some (by kernel_rfl))
 f267:=Tryz.func248.trans (congrArg some (by kernel_rfl))
 f314:=Tryz.func277.trans (congrArg some (by kernel_rfl))
 t3:=Tryz.underlying3
 a3:=Tryz.isAgg3
 z3:=Tryz.sizeOf3
 v3:=Tryz.zeroValue3
 t4:=Tryz.underlying4
 a4:=Tryz.isAgg4
 z4:=Tryz.sizeOf4
 v4:=Tryz.zeroValue4
 t5:=Tryz.underlying5
 a5:=Tryz.isAgg5
 z5:=Tryz.sizeOf5
 v5:=Tryz.zeroValue5
 t9:=Tryz.underlying9
 a9:=Tryz.isAgg9
 z9:=Tryz.sizeOf9
 v9:=Tryz.zeroValue9
 t46:=Tryz.underlying223
 a46:=Tryz.isAgg223
 z46:=Tryz.sizeOf223
 v46:=Tryz.zeroValue223
 t51:=Tryz.underlying256
 a51:=Tryz.isAgg256
 z51:=Tryz.sizeOf256
 v51:=Tryz.zeroValue256
 t59:=Tryz.underlying237
 a59:=Tryz.isAgg237
 z59:=Tryz.sizeOf237
 v59:=Tryz.zeroValue237
 t146:=Tryz.underlying274
 a146:=Tryz.isAgg274
 z146:=Tryz.sizeOf274
 v146:=Tryz.zeroValue274
 g1:=by kernel_rfl }
open Go.RowKit Go.Lib in
theorem Tryz.strings_Cut (s sep:ByteArray) (m:Int) (w:World) (hs:s.size<4294967281) (hm:w.cell? ⟨14,0,none⟩=some (.int .i64 m)) :
  Calls Tryz.prog 142 #[.string s,.string sep] w fun e w'=>e=.returned (.tuple #[.string ⟨(Lib.cut s.data.toList sep.data.toList).1.toArray⟩,.string ⟨(Lib.cut s.data.toList sep.data.toList).2.1.toArray⟩,.bool (Lib.cut s.data.toList sep.data.toList).2.2])∧∃ n,w'=w.drewN n:=Any.strings_Cut Tryz.lays145 s sep m w hs hm
end Go.Proofs
namespace Go.Proofs.YtehfpjcclknipaaGreatDoor
open Go.RowKit
theorem cut_first (l:List UInt8):(Lib.cut l [10]).1=l.takeWhile (fun c=>c != 10):=by
 induction l with
 | nil=>simp [Lib.cut,Lib.index]
 | cons b l ih=>
   by_cases hb:b=10
   ·subst hb
    simp [Lib.cut,Lib.index,List.isPrefixOf]
   ·have hp:List.isPrefixOf [10] (b :: l)=false:=by
     simp only [List.isPrefixOf,Bool.and_true,beq_eq_false_iff_ne,ne_eq]
     exact fun e=>hb e.symm
    have hi:Lib.index (b :: l) [10]=if Lib.index l [10]==-1 then -1 else Lib.index l [10]+1:=by
     rw [Lib.index,hp];rfl
    have hge:=Lib.index_ge l [10]
    have hne:(b != 10)=true:=by simpa using hb
    rw [List.takeWhile_cons_of_pos (p:=fun c=>c != 10) hne]
    unfold Lib.cut at ih ⊢
    rw [hi]
    by_cases h1:Lib.index l [10]=-1
    ·rw [h1] at ih ⊢
     simp only [BEq.rfl,if_true]
     rw [if_neg (by omega)] at ih ⊢
     simp only at ih ⊢
     rw [←ih]
    ·have h2:(Lib.index l [10]==-1)=false:=by simpa using h1
     rw [h2]
     simp only [Bool.false_eq_true,if_false]
     rw [if_pos (by omega)] at ih ⊢
     simp only at ih ⊢
     rw [←ih,show (Lib.index l [10]+1).toNat=(Lib.index l [10]).toNat+1 by omega,List.take_succ_cons]
set_option maxHeartbeats 1000000 in
set_option maxRecDepth 10000 in
theorem comment_any (rb:Nat) (s:ByteArray) (k:Nat) (m:Int) (w:World) (h:Rdr w rb s k) (hk:k≤s.size) (hs:s.size≤1500) (hm:w.cell? ⟨14,0,none⟩=some (.int .i64 m)) :
  Calls Tryz.prog 107 #[.pointer (some ⟨rb,0,none⟩)] w fun e w'=>e=.returned (.tuple #[])∧Rdr w' rb s (cmtG s.data.toList k)∧Tb w.heap.size rb w w':=by
 have hQ:=rest_any rb s k w h hk
 obtain ⟨u,hu⟩:∃ u,u=s.extract k s.size:=⟨_,rfl⟩
 rw [←hu] at hQ
 have hul:u.data.toList=s.data.toList.drop k:=by rw [hu,ext_list]
 have hus:u.size≤1500:=by rw [Lib.size_eq,hul,List.length_drop,←Lib.size_eq];omega
 have hC:=fun (w':World) (h':w'.cell? ⟨14,0,none⟩=some (.int .i64 m))=>Tryz.strings_Cut u ⟨#[10]⟩ m w' (by omega) h'
 rw [show (⟨#[10]⟩:ByteArray).data.toList=[10] from rfl,hul,cut_first] at hC
 obtain ⟨d,hd⟩:∃ d:ByteArray,d=⟨((s.data.toList.drop k).takeWhile (fun c=>c != 10)).toArray⟩:=⟨_,rfl⟩
 obtain ⟨d2,hd2⟩:∃ d2:ByteArray,d2=⟨(Lib.cut (s.data.toList.drop k) [10]).2.1.toArray⟩:=⟨_,rfl⟩
 obtain ⟨d3,hd3⟩:∃ d3:Bool,d3=(Lib.cut (s.data.toList.drop k) [10]).2.2:=⟨_,rfl⟩
 rw [←hd,←hd2,←hd3] at hC
 have hds:cmtG s.data.toList k=k+d.size:=by
  unfold cmtG;rw [hd,Lib.size_eq]
 have hdl:k+d.size≤s.size:=by rw [←hds,Lib.size_eq];exact cmt_len (by rw [←Lib.size_eq];exact hk)
 have HW:=hide h
 have HM:=hide hm
 have HD:=hide hds
 have hml:(14:Nat)<w.heap.size:=World.block_lt_of_cell? _ _ hm
 clear h hu hul hus hd hd2 hd3 hds hm
 go_enter Tryz.func107,Tryz.ntmps107
 go_upto_region 1 with (first
  | (go_at_call 141;refine hQ.mono ?_;clear hQ;rintro ev w1 ⟨rfl,hb1⟩;have HM1:=hide (cell_later hb1 (uh HM)))
  | (go_at_call 142;refine (hC _ (uh HM1)).mono ?_;clear hC;rintro ev w2 ⟨rfl,⟨n2,rfl⟩⟩))
 have HR2:Hid (Rdr (w1.drewN n2) rb s k):=hide ((uh HW).tb (below_drewN hb1 n2))
 have c1:=(uh HR2).c1
 have z1:=(uh HR2).fz 1
 go_wp2_with fail
 go_end0
 have e:IntKind.i64.wrap ((k:Int)+(d.size:Int))=((k+d.size:Nat):Int):=by rw [←Int.natCast_add];exact wrap_i64 _ (by omega)
 refine ⟨rfl,by rw [uh HD];exact (uh HR2).to (k+d.size),(Tb.of_below (below_drewN hb1 n2)).trans (Tb.to _ _ _ _ _)⟩
structure WdM where
 place:Nat
 v:Value
 xs:List Atm
def WdM.cells (m:WdM):List Value:=[.int .i64 (m.place:Int),m.v]
def WdM.wd (m:WdM):Wd:=⟨m.xs,m.place⟩
def wdC (l:List WdM):List Value:=(l.map WdM.cells).flatten
theorem wdC_snoc (l:List WdM) (a:WdM):wdC (l++[a])=wdC l++a.cells:=by simp [wdC]
theorem info138w:(Tryz.prog.info? 162).map (fun i=>(i.zero,i.size,i.bytes))=some (some (.agg #[.int .i64 0,.slice none 0 0]),2,32):=by kernel_rfl
def WdM.Ok (m:WdM) (w:World) (B:Nat):Prop:=w.ownsRow B 217 3 m.v (parts m.xs).length (prC (parts m.xs))
structure WsM (w:World) (B:Nat) (v:Value) (ms:List WdM):Prop where
 row:w.ownsRow B 162 2 v ms.length (wdC ms)
 all:∀ m∈ms,m.Ok w B
theorem row_base {w:World}{B B' e z n:Nat}{v:Value}{xs:List Value}(h:w.ownsRow B e z v n xs) (hb:B'≤B):w.ownsRow B' e z v n xs:=by
 refine ⟨h.1,?_⟩
 rcases h.2 with h1 | ⟨g,cap,cur,h1,h2,h3⟩
 ·exact .inl h1
 ·exact .inr ⟨g,cap,cur,h1,Nat.le_trans hb h2,h3⟩
theorem row_apart {w:World}{B B' e e' z z' n n':Nat}{v v':Value}{xs xs':List Value}(h:w.ownsRow B e z v n xs) (h':w.ownsRow B' e' z' v' n' xs') (hne:e≠e') (g:Nat) (hg:v.ownBlock=some g):v'.ownBlock≠some g:=by
 intro hg'
 rcases h.2 with ⟨rfl,_⟩ | ⟨a,cap,cur,rfl,_,ha,_⟩
 ·cases hg
 rcases h'.2 with ⟨rfl,_⟩ | ⟨b,cap',cur',rfl,_,hb,_⟩
 ·cases hg'
 obtain rfl:a=g:=by simpa [Value.ownBlock] using hg
 obtain rfl:b=a:=by simpa [Value.ownBlock] using hg'
 rw [ha] at hb
 injection hb with hb
 injection hb with _ hb
 exact hne hb
end Go.Proofs.YtehfpjcclknipaaGreatDoor
