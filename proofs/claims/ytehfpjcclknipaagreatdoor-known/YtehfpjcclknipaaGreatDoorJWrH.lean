import Derived.Test.YtehfpjcclknipaaGreatDoorJWrE
import Derived.Maps.Own
import Derived.Maps.OwnOps
import Derived.Maps.Keyed
import Derived.MapViews
import Derived.StringKeys
namespace Go.Proofs.YtehfpjcclknipaaGreatDoor
open Go.RowKit
theorem wrd_ge (l:List UInt8) (n:Nat):∀ (k:Nat) (acc a:List Atm) (t:Nat),l.length-k≤n→wrdG l acc k=.ok (a,t)→k≤t:=by
 induction n with
 | zero=>
   intro k acc a t hn h
   have he:endG l k=true:=end_none (List.getElem?_eq_none_iff.2 (by omega))
   rw [wrd_end he] at h
   injection h with h;injection h with _ h;omega
 | succ n ih=>
   intro k acc a t hn h
   cases he:endG l k with
   | true=>rw [wrd_end he] at h;injection h with h;injection h with _ h;omega
   | false=>
     cases hc:l[k]? with
     | none=>rw [end_none hc] at he;cases he
     | some c=>
       have hlt:=(List.getElem?_eq_some_iff.1 hc).1
       rw [wrd_some hc he] at h
       split at h
       ·split at h
        ·cases h
        ·split at h
         ·have:=ih _ _ _ _ (by omega) h;omega
         ·cases h
       ·split at h
        ·split at h
         ·cases h
         ·split at h
          ·have:=ih _ _ _ _ (by omega) h;omega
          ·cases h
        ·split at h
         ·split at h
          ·cases h
          ·have:=ih _ _ _ _ (by omega) h;omega
         ·have:=ih _ _ _ _ (by omega) h;omega
theorem wrd_gt {l:List UInt8}{k t:Nat}{acc a:List Atm}(he:endG l k=false) (h:wrdG l acc k=.ok (a,t)):k<t:=by
 cases hc:l[k]? with
 | none=>rw [end_none hc] at he;cases he
 | some c=>
   rw [wrd_some hc he] at h
   split at h
   ·split at h
    ·cases h
    ·split at h
     ·have:=wrd_ge l _ _ _ _ _ (Nat.le_refl _) h;omega
     ·cases h
   ·split at h
    ·split at h
     ·cases h
     ·split at h
      ·have:=wrd_ge l _ _ _ _ _ (Nat.le_refl _) h;omega
      ·cases h
    ·split at h
     ·split at h
      ·cases h
      ·have:=wrd_ge l _ _ _ _ _ (Nat.le_refl _) h;omega
     ·have:=wrd_ge l _ _ _ _ _ (Nat.le_refl _) h;omega
theorem lin_none {l:List UInt8}{k:Nat}{ws:List Wd}(h:l[k]?=none):linG l ws k=.ok (ws,k):=by
 rw [linG];split
 ·rfl
 ·rename_i c h';rw [h] at h';cases h'
theorem lin_some {l:List UInt8}{k:Nat}{ws:List Wd}{c:UInt8}(h:l[k]?=some c):linG l ws k =
  if c=10 then .ok (ws,k+1)
  else if goesG l k=true then linG l ws (k+2)
  else if c=32 then linG l ws (k+1)
  else if c=35∧ws=[] then linG l ws (cmtG l k)
  else match wrdG l [] k with
   | .error e=>.error e
   | .ok (a,t)=>if k<t then linG l (ws++[⟨a,k⟩]) t else .error (5,k):=by
 rw [linG];split
 ·rename_i h';rw [h] at h';cases h'
 ·rename_i d h';rw [h] at h';cases h'
  simp only [dite_eq_ite]
  rfl
theorem lin_nl {l:List UInt8}{k:Nat}{ws:List Wd}(h:l[k]?=some 10):linG l ws k=.ok (ws,k+1):=by
 rw [lin_some h,if_pos rfl]
def Stp (l:List UInt8) (ws:List Wd) (k:Nat):Prop:=¬ l[k]?=some 32∧goesG l k=false∧¬ (l[k]?=some 35∧ws=[])
theorem lin_word {l:List UInt8}{k:Nat}{ws:List Wd}{c:UInt8}(h:l[k]?=some c) (h10:¬ c=10) (hs:Stp l ws k):linG l ws k=match wrdG l [] k with
   | .error e=>.error e
   | .ok (a,t)=>if k<t then linG l (ws++[⟨a,k⟩]) t else .error (5,k):=by
 obtain ⟨h1,h2,h3⟩:=hs
 rw [h] at h1 h3
 rw [lin_some h,if_neg h10,if_neg (by simp [h2]),if_neg (fun e=>h1 (by rw [e])),if_neg (fun e=>h3 ⟨by rw [e.1],e.2⟩)]
theorem stp_end {l:List UInt8}{k:Nat}{ws:List Wd}{c:UInt8}(h:l[k]?=some c) (h10:¬ c=10) (hs:Stp l ws k):endG l k=false:=by
 rw [end_some h]
 refine decide_eq_false ?_
 rintro (e | e | e)
 ·exact h10 e
 ·exact hs.1 (by rw [h,e])
 ·rw [hs.2.1] at e;cases e
theorem lin_cmt {l:List UInt8}{k:Nat}(h:l[k]?=some 35):linG l [] k=linG l [] (cmtG l k):=by
 have hg:goesG l k=false:=by unfold goesG;rw [h];rfl
 rw [lin_some h,if_neg (by decide),if_neg (by simp [hg]),if_neg (by decide),if_pos ⟨rfl,rfl⟩]
theorem cmt_at {l:List UInt8}{k:Nat}:l[cmtG l k]?=none∨l[cmtG l k]?=some 10:=by
 unfold cmtG
 obtain ⟨n,hn⟩:∃ n,n=((l.drop k).takeWhile (fun c=>c != 10)).length:=⟨_,rfl⟩
 have key:∀ r:List UInt8,r[(r.takeWhile (fun c=>c != 10)).length]?=none∨r[(r.takeWhile (fun c=>c != 10)).length]?=some 10:=fun r=>by
  induction r with
  | nil=>exact .inl rfl
  | cons a r ih=>
    by_cases ha:a=10
    ·subst ha;exact .inr (by simp)
    ·rw [List.takeWhile_cons_of_pos (p:=fun c=>c != 10) (by simpa using ha)]
     simpa using ih
 have:=key (l.drop k)
 rw [List.getElem?_drop] at this
 exact this
theorem cmt_stp (l:List UInt8) (k:Nat):Stp l [] (cmtG l k):=by
 unfold Stp goesG
 rcases cmt_at (l:=l) (k:=k) with h | h <;> rw [h] <;> simp
theorem row_tb {w w':World}{B rb e z n:Nat}{v:Value}{xs:List Value}(h:w.ownsRow B e z v n xs) (hb:Tb w.heap.size rb w w') (hr:rb<B):w'.ownsRow B e z v n xs:=
 row_same h fun k hk=>by
  have:=World.ownsRow.lt h k hk
  exact hb.block k this.2 (by omega)
theorem WsM.tb {w w':World}{B rb:Nat}{v:Value}{ms:List WdM}(h:WsM w B v ms) (hb:Tb w.heap.size rb w w') (hr:rb<B):WsM w' B v ms:=
 ⟨row_tb h.row hb hr,fun m hm=>row_tb (h.all m hm) hb hr⟩
theorem WsM.snoc {w w1:World}{o:Obj}{B:Nat}{v v':Value}{ms:List WdM}{m:WdM}(h:WsM w B v ms) (hm:m.Ok w B) (hown:w1.ownsRow B 162 2 v' (ms.length+1) (wdC ms++m.cells)) (hg:(w.alloc o).grownBy w1 v.ownBlock):WsM w1 B v' (ms++[m]):=by
 refine ⟨by rw [wdC_snoc,List.length_append];exact hown,fun m' hm'=>?_⟩
 have hok:m'.Ok w B:=by
  rcases List.mem_append.1 hm' with h' | h'
  ·exact h.all m' h'
  ·rw [List.mem_singleton] at h';rw [h'];exact hm
 refine row_same hok fun k hk=>?_
 have hlt:=(World.ownsRow.lt hok k hk).2
 refine (hg.block k (by simp;omega) (fun e=>?_)).trans (Below.heap_alloc _ _ _ hlt)
 exact row_apart hok h.row (by decide) k hk e.symm
def LineOut (w w':World) (ev:Ending) (rb:Nat) (s:ByteArray) (k:Nat):Prop:=match linG s.data.toList [] k with
 | .error (e,p)=>Wrg w' ev e p
 | .ok (ws,t)=>∃ v ms,ev=.returned v∧WsM w' w.heap.size v ms∧ms.map WdM.wd=ws∧Rdr w' rb s t∧k≤t∧(k<s.size→k<t)∧t≤s.size∧ms.length≤t∧∀ m∈ms,m.xs.length≤s.size
theorem moreT (rb:Nat) (s:ByteArray) (k:Nat) (b:Bool) (w:World) (h:Rdr w rb s k) (hb:decide (k<s.size)=b) :
  Calls Tryz.prog 66 #[.pointer (some ⟨rb,0,none⟩)] w fun e w'=>e=.returned (.bool b)∧Rdr w' rb s k∧Tb w.heap.size rb w w':=by
 refine (moreR rb s k b w h hb).mono ?_
 rintro e w' ⟨rfl,hr,hb'⟩
 exact ⟨rfl,hr,Tb.of_below hb'⟩
theorem takeT (rb:Nat) (s p:ByteArray) (k:Nat) (b:Bool) (w:World) (h:Rdr w rb s k) (hk:k≤s.size) (hs:s.size≤1500) (hb:begG s k p=b) :
  Calls Tryz.prog 108 #[.pointer (some ⟨rb,0,none⟩),.string p] w fun e w'=>e=.returned (.bool b)∧Rdr w' rb s (if b=true then k+p.size else k)∧Tb w.heap.size rb w w':=by
 refine (take_any rb s p k w h hk (by omega)).mono ?_
 rintro e w' ⟨rfl,hr,ht⟩
 rw [hb] at hr
 exact ⟨by rw [hb],hr,ht⟩
theorem list_tb {B rb:Nat}{a b c:World}(h:Tb B rb a b) (k:Tb b.heap.size rb b c) (hB:B≤a.heap.size):Tb B rb a c:=h.trans (k.mono (Nat.le_trans hB h.size))
set_option maxHeartbeats 4000000 in
set_option maxRecDepth 10000 in
theorem line_any (rb:Nat) (s:ByteArray) (k:Nat) (m:Int) (w:World) (h:Rdr w rb s k) (hk:k≤s.size) (hs:s.size≤1500) (hm:w.cell? ⟨14,0,none⟩=some (.int .i64 m)) (h1r:14<rb) :
  Calls Tryz.prog 67 #[.pointer (some ⟨rb,0,none⟩)] w fun ev w'=>LineOut w w' ev rb s k∧Tb w.heap.size rb w w':=by
 obtain ⟨i0,hi,hz0,hz1,hz2⟩:=info_parts info138w
 have hrl:=h.lt
 have HM:=hide hm
 have hml:(14:Nat)<w.heap.size:=World.block_lt_of_cell? _ _ hm
 have hS:=skip_any rb s k w h hk (by omega)
 obtain ⟨k1,hk1⟩:∃ k1,k1=skpG s.data.toList k:=⟨_,rfl⟩
 rw [←hk1] at hS
 have hk1l:k1≤s.size:=by rw [hk1,Lib.size_eq];exact skp_le (by rw [←Lib.size_eq];exact hk)
 have hk1g:k≤k1:=by rw [hk1];exact skp_ge _ _
 have HL1:Hid (linG s.data.toList [] k=linG s.data.toList [] k1):=hide (by rw [hk1];exact lin_skp _ _ _)
 have HS1:Hid (¬ s.data.toList[k1]?=some 32∧goesG s.data.toList k1=false):=hide (by rw [hk1];exact skp_stop _ _)
 clear h hk1 hm
 cases hc:(s.data.toList[k1]?==some 35) with
 | false=>
   have hcn:¬ s.data.toList[k1]?=some 35:=by simpa using hc
   have mB:=fun W (h:Rdr W rb s k1)=>begR rb s ⟨#[35]⟩ k1 false W h hk1l (by rw [beg_one];exact hc)
   have HL2:=HL1
   have HS2:Hid (Stp s.data.toList [] k1):=hide ⟨(uh HS1).1,(uh HS1).2,fun e=>hcn e.1⟩
   clear hc hcn
   go_enter Tryz.func67,Tryz.ntmps67
   go_wp2_with (first
    | (go_at_call 105;refine hS.mono ?_;clear hS;rintro ev w1 ⟨rfl,hR1,hT1⟩;have HR1:=hide hR1;clear hR1)
    | (go_at_call 106;refine (mB _ (uh HR1)).mono ?_;clear mB;rintro ev w2 ⟨rfl,hR2,hb2⟩;have HR2:=hide hR2;clear hR2))
   go_loopw [3] (fun v wr=>∃ (j:Nat) (ms:List WdM),WsM wr w.heap.size v ms∧Rdr wr rb s j∧linG s.data.toList [] k=linG s.data.toList (ms.map WdM.wd) j∧Stp s.data.toList (ms.map WdM.wd) j∧k≤j∧j≤s.size∧ms.length≤j∧Tb w.heap.size rb w wr∧(∀ m∈ms,m.xs.length≤s.size)) (fun _ wr=>s.size-atOf wr rb)
   case atStart=>exact ⟨k1,[],⟨World.ownsRow_nil _ _ _ _,by simp⟩,uh HR2,uh HL2,uh HS2,hk1g,hk1l,by simp,hT1.trans (Tb.of_below (hb2.mono hT1.size)),by simp⟩
   case round=>
    obtain ⟨j,ms,hM,hR,hG,hSt,hkj,hj,hml2,hT,hXL⟩:=hrel
    have HXL:=hide hXL
    clear hXL
    have HA:=hide hR.at
    have HR:=hide hR
    have HG:=hide hG
    have HMS:=hide hM
    have HSt:=hide hSt
    clear hR hG hM hSt
    cases hc:s.data.toList[j]? with
    | none=>
      have hjs:decide (j<s.size)=false:=by
       have:=List.getElem?_eq_none_iff.1 hc
       rw [←Lib.size_eq] at this;simp;omega
      have HQ:=hide (lin_none (ws:=ms.map WdM.wd) hc)
      have mM:=fun W (h:Rdr W rb s j)=>moreT rb s j false W h hjs
      have hje:j=s.size:=by simp at hjs;omega
      clear hc hjs
      go_wp2_with (first
       | (go_at_call 66;refine (mM _ (uh HR)).mono ?_;clear mM;rintro ev w1 ⟨rfl,hR1,hT1⟩))
      go_ret
      refine ⟨?_,list_tb hT hT1 (Nat.le_refl _)⟩
      unfold LineOut
      rw [uh HG,uh HQ]
      exact ⟨_,ms,rfl,(uh HMS).tb hT1 hrl,rfl,hR1,hkj,by omega,hj,hml2,uh HXL⟩
    | some c=>
      obtain ⟨hlt,hcv⟩:=get_some hc
      have mM:=fun W (h:Rdr W rb s j)=>moreT rb s j true W h (decide_eq_true hlt)
      by_cases h10:c=10
      ·have HQ:=hide (lin_nl (ws:=ms.map WdM.wd) (by rw [hc,h10]))
       have mT:=fun W (h:Rdr W rb s j)=>takeT rb s ⟨#[10]⟩ j true W h hj hs (by rw [beg_is 10 hc];exact decide_eq_true h10)
       clear hc hcv h10
       go_wp2_with (first
        | (go_at_call 66;refine (mM _ (uh HR)).mono ?_;clear mM;rintro ev w1 ⟨rfl,hR1,hT1⟩;have HR1:=hide hR1;clear hR1)
        | (go_at_call 108;refine (mT _ (uh HR1)).mono ?_;clear mT;rintro ev w2 ⟨rfl,hR2,hT2⟩))
       go_ret
       refine ⟨?_,list_tb (list_tb hT hT1 (Nat.le_refl _)) hT2 (Nat.le_refl _)⟩
       unfold LineOut
       rw [uh HG,uh HQ]
       exact ⟨_,ms,rfl,((uh HMS).tb hT1 hrl).tb hT2 hrl,rfl,hR2,by omega,by omega,by omega,by omega,uh HXL⟩
      have HQ:=hide (lin_word hc h10 (uh HSt))
      have HE:=hide (stp_end hc h10 (uh HSt))
      have mT:=fun W (h:Rdr W rb s j)=>takeT rb s ⟨#[10]⟩ j false W h hj hs (by rw [beg_is 10 hc];exact decide_eq_false h10)
      have mW:=fun W (h:Rdr W rb s j)=>word_any rb s j W h hj hs
      unfold WrdOut at mW
      cases hw:wrdG s.data.toList [] j with
      | error x=>
        obtain ⟨e,p⟩:=x
        rw [hw] at mW
        have HQ2:Hid (linG s.data.toList (ms.map WdM.wd) j=.error (e,p)):=hide (by rw [uh HQ,hw])
        unfold Wrg at mW
        clear hc hcv h10 HQ hw
        go_wp2_with (first
         | (go_at_call 66;refine (mM _ (uh HR)).mono ?_;clear mM;rintro ev w1 ⟨rfl,hR1,hT1⟩;have HR1:=hide hR1;clear hR1)
         | (go_at_call 108;refine (mT _ (uh HR1)).mono ?_;clear mT;rintro ev w2 ⟨rfl,hR2,hT2⟩;have HR2:=hide hR2;clear hR2)
         | (go_at_call 109;refine (mW _ (uh HR2)).mono ?_;clear mW;rintro ev w3 ⟨⟨bb,rfl,hc⟩,hT3⟩))
        refine ⟨rfl,?_,list_tb (list_tb (list_tb hT hT1 (Nat.le_refl _)) hT2 (Nat.le_refl _)) hT3 (Nat.le_refl _)⟩
        unfold LineOut
        rw [uh HG,uh HQ2]
        exact ⟨bb,rfl,hc⟩
      | ok x=>
        obtain ⟨a,t⟩:=x
        rw [hw] at mW
        have hjt:=wrd_gt (uh HE) hw
        have HQ2:Hid (linG s.data.toList (ms.map WdM.wd) j=linG s.data.toList (ms.map WdM.wd++[⟨a,j⟩]) t):=hide (by rw [uh HQ,hw];simp only;rw [if_pos hjt])
        clear hc hcv h10 HQ hw
        go_upto_region 7 with (first
         | (go_at_call 66;refine (mM _ (uh HR)).mono ?_;clear mM;rintro ev w1 ⟨rfl,hR1,hT1⟩;have HR1:=hide hR1;clear hR1)
         | (go_at_call 108;refine (mT _ (uh HR1)).mono ?_;clear mT;rintro ev w2 ⟨rfl,hR2,hT2⟩;have HR2:=hide hR2;clear hR2)
         | (go_at_call 109;refine (mW _ (uh HR2)).mono ?_;clear mW;rintro ev w3 ⟨⟨v3,rfl,hrow3,hR3,hjt2,hts,hal⟩,hT3⟩;obtain ⟨ao,n',cap,rfl⟩:=row_form hrow3;have HR3:=hide hR3;have HM3:=hide ((((uh HMS).tb hT1 hrl).tb hT2 hrl).tb hT3 hrl);have HO3:Hid (WdM.Ok ⟨j,.slice ao n' cap,a⟩ w3 w.heap.size):=hide (row_base hrow3 (Nat.le_trans hT.size (Nat.le_trans hT1.size hT2.size)));have HRow:=hide ((uh HM3).row.alloc (.cells #[.int .i64 (j:Int),.slice ao n' cap] 162));have hB3:Tb w.heap.size rb w w3:=list_tb (list_tb (list_tb hT hT1 (Nat.le_refl _)) hT2 (Nat.le_refl _)) hT3 (Nat.le_refl _);clear hR3 hrow3 hT1 hT2 hT3)
         | (at_builtin;refine wpList_append_own _ rfl _ _ 70 rfl w.heap.size 162 i0 _ 2 32 Tryz.underlying70 hi hz0 hz1 hz2 rfl (by decide) _ ms.length (wdC ms) rfl (uh HRow) ⟨w3.heap.size,0,none⟩ 1 1 [.int .i64 (j:Int),.slice ao n' cap] rfl rfl (World.news_of_block (cs:=#[.int .i64 (j:Int),.slice ao n' cap]) (t:=162) (fr:=(0,0)) (heap_alloc_new _ _)) (by intro u hu;simp only [List.mem_cons,List.not_mem_nil,or_false] at hu;rcases hu with rfl | rfl <;> rfl) (by unfold maxLen;omega) (by omega) (by have:=hB3.size;simp;omega) ?_;intro v6 w6 hown6 hgrow6 _;have HM6:=hide ((uh HM3).snoc (m:=⟨j,.slice ao n' cap,a⟩) (uh HO3) hown6 hgrow6);clear hown6))
        have hb6:Below w.heap.size w3 w6:=((Below.refl _ w3).alloc hB3.size _).grown hgrow6 (by have:=hB3.size;simp;omega) (fun q hq=>(World.ownsRow.lt (uh HM3).row q hq).1)
        have hB6:Tb w.heap.size rb w w6:=hB3.trans (Tb.of_below hb6)
        have hR6:Rdr w6 rb s t:=(uh HR3).below hb6 hrl
        have hSk:=skip_any rb s t w6 hR6 hts (by omega)
        obtain ⟨t2,ht2⟩:∃ t2,t2=skpG s.data.toList t:=⟨_,rfl⟩
        rw [←ht2] at hSk
        have ht2l:t2≤s.size:=by rw [ht2,Lib.size_eq];exact skp_le (by rw [←Lib.size_eq];exact hts)
        have ht2g:t≤t2:=by rw [ht2];exact skp_ge _ _
        have HXL2:Hid (∀ m∈ms++[(⟨j,.slice ao n' cap,a⟩:WdM)],m.xs.length≤s.size):=hide (fun m hm=>by
         rcases List.mem_append.1 hm with h' | h'
         ·exact uh HXL m h'
         ·rw [List.mem_singleton] at h';rw [h'];show a.length≤s.size;omega)
        have HL3:Hid (linG s.data.toList [] k=linG s.data.toList ((ms++[(⟨j,.slice ao n' cap,a⟩:WdM)]).map WdM.wd) t2):=hide (by
         rw [uh HG,uh HQ2,lin_skp,←ht2];simp [WdM.wd])
        have HS3:Hid (Stp s.data.toList ((ms++[(⟨j,.slice ao n' cap,a⟩:WdM)]).map WdM.wd) t2):=hide (by
         rw [ht2];exact ⟨(skp_stop _ _).1,(skp_stop _ _).2,by simp⟩)
        clear ht2 hR6 hgrow6 hb6
        go_wp2_with (first
         | (go_at_call 105;refine hSk.mono ?_;clear hSk;rintro ev w7 ⟨rfl,hR7,hT7⟩))
        go_roundw
        case rel=>
         first
          | exact ⟨t2,ms++[⟨j,.slice ao n' cap,a⟩],(uh HM6).tb hT7 hrl,hR7,uh HL3,uh HS3,by omega,ht2l,by simp;omega,list_tb hB6 hT7 (Nat.le_refl _),uh HXL2⟩
          | ((repeat apply Exists.intro);exact ⟨⟨t2,ms++[⟨j,.slice ao n' cap,a⟩],(uh HM6).tb hT7 hrl,hR7,uh HL3,uh HS3,by omega,ht2l,by simp;omega,list_tb hB6 hT7 (Nat.le_refl _),uh HXL2⟩,rfl⟩)
        case measure=>rw [uh HA,hR7.at];omega
 | true=>
   have hcn:s.data.toList[k1]?=some 35:=by simpa using hc
   have mB:=fun W (h:Rdr W rb s k1)=>begR rb s ⟨#[35]⟩ k1 true W h hk1l (by rw [beg_one];exact hc)
   have mC:=fun W (h:Rdr W rb s k1) (h':W.cell? ⟨14,0,none⟩=some (.int .i64 m))=>comment_any rb s k1 m W h hk1l hs h'
   obtain ⟨k2,hk2⟩:∃ k2,k2=cmtG s.data.toList k1:=⟨_,rfl⟩
   rw [←hk2] at mC
   have hk2g:k1≤k2:=by rw [hk2];exact cmt_le _ _
   have hk2l:k2≤s.size:=by rw [hk2,Lib.size_eq];exact cmt_len (by rw [←Lib.size_eq];exact hk1l)
   have HL2:Hid (linG s.data.toList [] k=linG s.data.toList [] k2):=hide (by rw [uh HL1,hk2];exact lin_cmt hcn)
   have HS2:Hid (Stp s.data.toList [] k2):=hide (by rw [hk2];exact cmt_stp _ _)
   clear hc hcn hk2
   go_enter Tryz.func67,Tryz.ntmps67
   go_wp2_with (first
    | (go_at_call 105;refine hS.mono ?_;clear hS;rintro ev w1 ⟨rfl,hR1,hT1⟩;have HR1:=hide hR1;clear hR1)
    | (go_at_call 106;refine (mB _ (uh HR1)).mono ?_;clear mB;rintro ev w2 ⟨rfl,hR2,hb2⟩;have HR2:=hide hR2;clear hR2)
    | (go_at_call 107;refine (mC _ (uh HR2) (by rw [World.cell?_of_block ((hT1.trans (Tb.of_below (hb2.mono hT1.size))).block 14 hml (by omega))];exact uh HM)).mono ?_;clear mC;rintro ev w3 ⟨rfl,hR3,hT3⟩;have HR3:=hide hR3;clear hR3))
   go_loopw [3] (fun v wr=>∃ (j:Nat) (ms:List WdM),WsM wr w.heap.size v ms∧Rdr wr rb s j∧linG s.data.toList [] k=linG s.data.toList (ms.map WdM.wd) j∧Stp s.data.toList (ms.map WdM.wd) j∧k≤j∧j≤s.size∧ms.length≤j∧Tb w.heap.size rb w wr∧(∀ m∈ms,m.xs.length≤s.size)) (fun _ wr=>s.size-atOf wr rb)
   case atStart=>exact ⟨k2,[],⟨World.ownsRow_nil _ _ _ _,by simp⟩,uh HR3,uh HL2,uh HS2,(by omega),hk2l,by simp,(hT1.trans (Tb.of_below (hb2.mono hT1.size))).trans (hT3.mono (Nat.le_trans hT1.size hb2.size)),by simp⟩
   case round=>
    obtain ⟨j,ms,hM,hR,hG,hSt,hkj,hj,hml2,hT,hXL⟩:=hrel
    have HXL:=hide hXL
    clear hXL
    have HA:=hide hR.at
    have HR:=hide hR
    have HG:=hide hG
    have HMS:=hide hM
    have HSt:=hide hSt
    clear hR hG hM hSt
    cases hc:s.data.toList[j]? with
    | none=>
      have hjs:decide (j<s.size)=false:=by
       have:=List.getElem?_eq_none_iff.1 hc
       rw [←Lib.size_eq] at this;simp;omega
      have HQ:=hide (lin_none (ws:=ms.map WdM.wd) hc)
      have mM:=fun W (h:Rdr W rb s j)=>moreT rb s j false W h hjs
      have hje:j=s.size:=by simp at hjs;omega
      clear hc hjs
      go_wp2_with (first
       | (go_at_call 66;refine (mM _ (uh HR)).mono ?_;clear mM;rintro ev w1 ⟨rfl,hR1,hT1⟩))
      go_ret
      refine ⟨?_,list_tb hT hT1 (Nat.le_refl _)⟩
      unfold LineOut
      rw [uh HG,uh HQ]
      exact ⟨_,ms,rfl,(uh HMS).tb hT1 hrl,rfl,hR1,hkj,by omega,hj,hml2,uh HXL⟩
    | some c=>
      obtain ⟨hlt,hcv⟩:=get_some hc
      have mM:=fun W (h:Rdr W rb s j)=>moreT rb s j true W h (decide_eq_true hlt)
      by_cases h10:c=10
      ·have HQ:=hide (lin_nl (ws:=ms.map WdM.wd) (by rw [hc,h10]))
       have mT:=fun W (h:Rdr W rb s j)=>takeT rb s ⟨#[10]⟩ j true W h hj hs (by rw [beg_is 10 hc];exact decide_eq_true h10)
       clear hc hcv h10
       go_wp2_with (first
        | (go_at_call 66;refine (mM _ (uh HR)).mono ?_;clear mM;rintro ev w1 ⟨rfl,hR1,hT1⟩;have HR1:=hide hR1;clear hR1)
        | (go_at_call 108;refine (mT _ (uh HR1)).mono ?_;clear mT;rintro ev w2 ⟨rfl,hR2,hT2⟩))
       go_ret
       refine ⟨?_,list_tb (list_tb hT hT1 (Nat.le_refl _)) hT2 (Nat.le_refl _)⟩
       unfold LineOut
       rw [uh HG,uh HQ]
       exact ⟨_,ms,rfl,((uh HMS).tb hT1 hrl).tb hT2 hrl,rfl,hR2,by omega,by omega,by omega,by omega,uh HXL⟩
      have HQ:=hide (lin_word hc h10 (uh HSt))
      have HE:=hide (stp_end hc h10 (uh HSt))
      have mT:=fun W (h:Rdr W rb s j)=>takeT rb s ⟨#[10]⟩ j false W h hj hs (by rw [beg_is 10 hc];exact decide_eq_false h10)
      have mW:=fun W (h:Rdr W rb s j)=>word_any rb s j W h hj hs
      unfold WrdOut at mW
      cases hw:wrdG s.data.toList [] j with
      | error x=>
        obtain ⟨e,p⟩:=x
        rw [hw] at mW
        have HQ2:Hid (linG s.data.toList (ms.map WdM.wd) j=.error (e,p)):=hide (by rw [uh HQ,hw])
        unfold Wrg at mW
        clear hc hcv h10 HQ hw
        go_wp2_with (first
         | (go_at_call 66;refine (mM _ (uh HR)).mono ?_;clear mM;rintro ev w1 ⟨rfl,hR1,hT1⟩;have HR1:=hide hR1;clear hR1)
         | (go_at_call 108;refine (mT _ (uh HR1)).mono ?_;clear mT;rintro ev w2 ⟨rfl,hR2,hT2⟩;have HR2:=hide hR2;clear hR2)
         | (go_at_call 109;refine (mW _ (uh HR2)).mono ?_;clear mW;rintro ev w3 ⟨⟨bb,rfl,hc⟩,hT3⟩))
        refine ⟨rfl,?_,list_tb (list_tb (list_tb hT hT1 (Nat.le_refl _)) hT2 (Nat.le_refl _)) hT3 (Nat.le_refl _)⟩
        unfold LineOut
        rw [uh HG,uh HQ2]
        exact ⟨bb,rfl,hc⟩
      | ok x=>
        obtain ⟨a,t⟩:=x
        rw [hw] at mW
        have hjt:=wrd_gt (uh HE) hw
        have HQ2:Hid (linG s.data.toList (ms.map WdM.wd) j=linG s.data.toList (ms.map WdM.wd++[⟨a,j⟩]) t):=hide (by rw [uh HQ,hw];simp only;rw [if_pos hjt])
        clear hc hcv h10 HQ hw
        go_upto_region 7 with (first
         | (go_at_call 66;refine (mM _ (uh HR)).mono ?_;clear mM;rintro ev w1 ⟨rfl,hR1,hT1⟩;have HR1:=hide hR1;clear hR1)
         | (go_at_call 108;refine (mT _ (uh HR1)).mono ?_;clear mT;rintro ev w2 ⟨rfl,hR2,hT2⟩;have HR2:=hide hR2;clear hR2)
         | (go_at_call 109;refine (mW _ (uh HR2)).mono ?_;clear mW;rintro ev w3 ⟨⟨v3,rfl,hrow3,hR3,hjt2,hts,hal⟩,hT3⟩;obtain ⟨ao,n',cap,rfl⟩:=row_form hrow3;have HR3:=hide hR3;have HM3:=hide ((((uh HMS).tb hT1 hrl).tb hT2 hrl).tb hT3 hrl);have HO3:Hid (WdM.Ok ⟨j,.slice ao n' cap,a⟩ w3 w.heap.size):=hide (row_base hrow3 (Nat.le_trans hT.size (Nat.le_trans hT1.size hT2.size)));have HRow:=hide ((uh HM3).row.alloc (.cells #[.int .i64 (j:Int),.slice ao n' cap] 162));have hB3:Tb w.heap.size rb w w3:=list_tb (list_tb (list_tb hT hT1 (Nat.le_refl _)) hT2 (Nat.le_refl _)) hT3 (Nat.le_refl _);clear hR3 hrow3 hT1 hT2 hT3)
         | (at_builtin;refine wpList_append_own _ rfl _ _ 70 rfl w.heap.size 162 i0 _ 2 32 Tryz.underlying70 hi hz0 hz1 hz2 rfl (by decide) _ ms.length (wdC ms) rfl (uh HRow) ⟨w3.heap.size,0,none⟩ 1 1 [.int .i64 (j:Int),.slice ao n' cap] rfl rfl (World.news_of_block (cs:=#[.int .i64 (j:Int),.slice ao n' cap]) (t:=162) (fr:=(0,0)) (heap_alloc_new _ _)) (by intro u hu;simp only [List.mem_cons,List.not_mem_nil,or_false] at hu;rcases hu with rfl | rfl <;> rfl) (by unfold maxLen;omega) (by omega) (by have:=hB3.size;simp;omega) ?_;intro v6 w6 hown6 hgrow6 _;have HM6:=hide ((uh HM3).snoc (m:=⟨j,.slice ao n' cap,a⟩) (uh HO3) hown6 hgrow6);clear hown6))
        have hb6:Below w.heap.size w3 w6:=((Below.refl _ w3).alloc hB3.size _).grown hgrow6 (by have:=hB3.size;simp;omega) (fun q hq=>(World.ownsRow.lt (uh HM3).row q hq).1)
        have hB6:Tb w.heap.size rb w w6:=hB3.trans (Tb.of_below hb6)
        have hR6:Rdr w6 rb s t:=(uh HR3).below hb6 hrl
        have hSk:=skip_any rb s t w6 hR6 hts (by omega)
        obtain ⟨t2,ht2⟩:∃ t2,t2=skpG s.data.toList t:=⟨_,rfl⟩
        rw [←ht2] at hSk
        have ht2l:t2≤s.size:=by rw [ht2,Lib.size_eq];exact skp_le (by rw [←Lib.size_eq];exact hts)
        have ht2g:t≤t2:=by rw [ht2];exact skp_ge _ _
        have HXL2:Hid (∀ m∈ms++[(⟨j,.slice ao n' cap,a⟩:WdM)],m.xs.length≤s.size):=hide (fun m hm=>by
         rcases List.mem_append.1 hm with h' | h'
         ·exact uh HXL m h'
         ·rw [List.mem_singleton] at h';rw [h'];show a.length≤s.size;omega)
        have HL3:Hid (linG s.data.toList [] k=linG s.data.toList ((ms++[(⟨j,.slice ao n' cap,a⟩:WdM)]).map WdM.wd) t2):=hide (by
         rw [uh HG,uh HQ2,lin_skp,←ht2];simp [WdM.wd])
        have HS3:Hid (Stp s.data.toList ((ms++[(⟨j,.slice ao n' cap,a⟩:WdM)]).map WdM.wd) t2):=hide (by
         rw [ht2];exact ⟨(skp_stop _ _).1,(skp_stop _ _).2,by simp⟩)
        clear ht2 hR6 hgrow6 hb6
        go_wp2_with (first
         | (go_at_call 105;refine hSk.mono ?_;clear hSk;rintro ev w7 ⟨rfl,hR7,hT7⟩))
        go_roundw
        case rel=>
         first
          | exact ⟨t2,ms++[⟨j,.slice ao n' cap,a⟩],(uh HM6).tb hT7 hrl,hR7,uh HL3,uh HS3,by omega,ht2l,by simp;omega,list_tb hB6 hT7 (Nat.le_refl _),uh HXL2⟩
          | ((repeat apply Exists.intro);exact ⟨⟨t2,ms++[⟨j,.slice ao n' cap,a⟩],(uh HM6).tb hT7 hrl,hR7,uh HL3,uh HS3,by omega,ht2l,by simp;omega,list_tb hB6 hT7 (Nat.le_refl _),uh HXL2⟩,rfl⟩)
        case measure=>rw [uh HA,hR7.at];omega
def mayN (l:List UInt8):Nat:=(l.takeWhile mayC).length
def NewOut (w w':World) (ev:Ending) (s:ByteArray):Prop:=
 if 1500<s.size then Wrg w' ev 10 1500
 else if mayN s.data.toList<s.size then Wrg w' ev 5 (mayN s.data.toList)
 else ∃ rb,ev=.returned (.pointer (some ⟨rb,0,none⟩))∧w.heap.size≤rb∧Rdr w' rb s 0
theorem mayCN (c:UInt8):decide (c.toNat=10∨(32≤c.toNat∧c.toNat≤126))=mayC c:=rfl
set_option maxHeartbeats 1000000 in
set_option maxRecDepth 10000 in
theorem new_any (s:ByteArray) (w:World) :
  Calls Tryz.prog 65 #[.string s] w fun ev w'=>NewOut w w' ev s∧Below w.heap.size w w':=by
 by_cases hb:1500<s.size
 ·have g1:(1500:Int)<(s.size:Int):=by omega
  have hF:=fail_wrg 10 1500 w
  have HN:Hid (∀ w' ev,Wrg w' ev 10 1500→NewOut w w' ev s):=hide (fun w' ev h=>by unfold NewOut;rw [if_pos hb];exact h)
  clear hb
  go_enter Tryz.func65,Tryz.ntmps65
  go_wp2_with (go_at_call 69;refine hF.mono ?_;clear hF;rintro ev w8 ⟨bb,rfl,hc,hb8⟩)
  exact ⟨rfl,uh HN _ _ ⟨bb,rfl,hc⟩,hb8⟩
 ·have g1:¬ (1500:Int)<(s.size:Int):=by omega
  have HNB:Hid (¬ 1500<s.size):=hide hb
  have hsl:s.size≤1500:=by omega
  clear hb
  go_enter Tryz.func65,Tryz.ntmps65
  go_wp2_with fail
  go_loop [10] (fun i=>∃ k:Nat,k≤s.size∧i=.int .i64 k∧(s.data.toList.take k).all mayC=true) (fun i=>s.size-(intOf i).toNat)
  case atStart=>exact ⟨0,Nat.zero_le _,rfl,rfl⟩
  case round=>
   obtain ⟨k,hk,rfl,ha⟩:=hrel
   have A:=hide ha
   clear ha
   by_cases hlt:k<s.size
   ·have hM:=may_any s[k].toNat w
    rw [mayCN] at hM
    cases h1:mayC s[k] with
    | true=>
      have B:=hide (all_more s k hlt (uh A) h1)
      rw [h1] at hM
      clear h1
      go_wp2_with (go_at_call 104;refine hM.mono ?_;clear hM;rintro ev w1 ⟨rfl,hw⟩;obtain rfl:=hw.symm)
      go_round
      case rel=>exact ⟨k+1,by omega,by go_num,uh B⟩
      case measure=>simp [intOf];omega
    | false=>
      have B:=hide (tw_stop s.data.toList k (by rw [←Lib.size_eq];exact hlt) (uh A) h1)
      have hF:=fail_wrg 5 k w
      rw [h1] at hM
      clear h1
      go_wp2_with (first
       | (go_at_call 104;refine hM.mono ?_;clear hM;rintro ev w1 ⟨rfl,hw⟩;obtain rfl:=hw.symm)
       | (go_at_call 69;refine hF.mono ?_;clear hF;rintro ev w8 ⟨bb,rfl,hc,hb8⟩))
      refine ⟨rfl,?_,hb8⟩
      unfold NewOut
      rw [if_neg (uh HNB),show mayN s.data.toList=k from uh B,if_pos hlt]
      exact ⟨bb,rfl,hc⟩
   ·have B:Hid (mayN s.data.toList=s.size):=hide (by
     unfold mayN
     rw [Lib.size_eq];exact tw_all _ (by have:=uh A;rwa [List.take_of_length_le (by rw [←Lib.size_eq];omega)] at this))
    go_wp2
    go_ret
    refine ⟨?_,(Below.refl _ _).alloc (Nat.le_refl _) _⟩
    unfold NewOut
    rw [if_neg (uh HNB),uh B,if_neg (Nat.lt_irrefl _)]
    exact ⟨_,rfl,Nat.le_refl _,heap_alloc_new _ _⟩
def plainW:List Atm→Option (List UInt8)
 | []=>some []
 | .inl c :: r=>(plainW r).map (c :: ·)
 | .inr (_, _) :: _=>none
theorem plain_byte (xs:List Atm) (c:UInt8):plainW (xs++[.inl c])=(plainW xs).map (·++[c]):=by
 induction xs with
 | nil=>rfl
 | cons a r ih=>
   cases a with
   | inl d =>simp only [List.cons_append,plainW,ih,Option.map_map];rfl
   | inr pA => obtain ⟨n, k⟩ := pA; rfl
theorem plain_var (xs:List Atm) (n:List UInt8) (k:Nat):plainW (xs++[.inr (n, k)])=none:=by
 induction xs with
 | nil=>rfl
 | cons a r ih=>
   cases a with
   | inl d =>simp only [List.cons_append,plainW,ih];rfl
   | inr pA => obtain ⟨n, k⟩ := pA; rfl
theorem parts_plain (xs:List Atm):(∀ l,plainW xs=some l→(l=[]∧parts xs=[])∨(l≠[]∧parts xs=[⟨bt l,false,0⟩]))∧(plainW xs=none→∃ p∈parts xs,p.isVar=true):=by
 induction xs using rev_ind with
 | h0=>exact ⟨fun l h=>by cases h;exact .inl ⟨rfl,rfl⟩,fun h=>by cases h⟩
 | h1 xs a ih=>
   rw [parts_snoc]
   cases a with
   | inr pA =>
     obtain ⟨n, k⟩ := pA
     rw [plain_var]
     exact ⟨fun l h=>(by cases h),fun _=>⟨⟨bt n,true,k⟩,by simp [addA],rfl⟩⟩
   | inl c =>
     rw [plain_byte]
     refine ⟨fun l h=>?_,fun h=>?_⟩
     ·cases hx:plainW xs with
      | none=>rw [hx] at h;cases h
      | some l0=>
        rw [hx] at h
        injection h with h
        subst h
        rcases ih.1 l0 hx with ⟨rfl,e⟩ | ⟨_,e⟩
        ·refine .inr ⟨by simp,?_⟩
         rw [e];rfl
        ·refine .inr ⟨by simp,?_⟩
         rw [e]
         show addT ([]++[⟨bt l0,false,0⟩]) (bt [c])=_
         rw [addT_on rfl,bt_app];rfl
     ·cases hx:plainW xs with
      | some l0=>rw [hx] at h;cases h
      | none=>
        obtain ⟨p,hp,hv⟩:=ih.2 hx
        rcases last_cases (parts xs) with hc | ⟨qs,q,he,hq⟩
        ·refine ⟨p,?_,hv⟩
         show p∈addT (parts xs) (bt [c])
         rw [addT_new (by
          rintro q hq
          rcases hc with h | ⟨qs,r,h,hr⟩
          ·rw [h] at hq;cases hq
          ·rw [h] at hq;simp at hq;subst hq;exact hr)]
         simp [hp]
        ·rw [he] at hp
         rcases List.mem_append.1 hp with h' | h'
         ·refine ⟨p,?_,hv⟩
          show p∈addT (parts xs) (bt [c])
          rw [he,addT_on hq];simp [h']
         ·rw [List.mem_singleton] at h';subst h';rw [hq] at hv;cases hv
abbrev WdM.val (m:WdM):Value:=.agg #[.int .i64 (m.place:Int),m.v]
theorem row_nil0 {w:World}{B e z:Nat}{v:Value}{xs:List Value}(h:w.ownsRow B e z v 0 xs):v=.slice none 0 0∨∃ g cap,v=.slice (some ⟨g,0,none⟩) 0 cap:=by
 rcases h.2 with ⟨rfl,_⟩ | ⟨g,cap,cur,rfl,_⟩
 ·exact .inl rfl
 ·exact .inr ⟨g,cap,rfl⟩
set_option maxHeartbeats 1000000 in
set_option maxRecDepth 10000 in
theorem plainM_any (m:WdM) (B:Nat) (w:World) (h:m.Ok w B) (hl:(parts m.xs).length≤1500) :
  Calls Tryz.prog 187 #[m.val] w fun ev w'=>∃ t:ByteArray,ev=.returned (.tuple #[.string t,.bool (plainW m.xs).isSome])∧Hid (t.data.toList=(plainW m.xs).getD [])∧Below w.heap.size w w':=by
 obtain ⟨place,v,xs⟩:=m
 have hp:=parts_plain xs
 unfold WdM.Ok at h
 simp only at h hp hl ⊢
 cases hx:plainW xs with
 | some l=>
   rcases hp.1 l hx with ⟨rfl,e⟩ | ⟨hne,e⟩
   ·rw [e] at h
    rcases row_nil0 h with rfl | ⟨g,cap,rfl⟩
    all_goals
     clear hp hx h e hl
     go_enter Tryz.func187,Tryz.ntmps187
     go_wp2_with fail
     go_ret2
     exact ⟨_,rfl,hide rfl,(Below.refl _ _).alloc (Nat.le_refl _) _⟩
   ·rw [e] at h
    obtain ⟨g,cap,rfl,_,_⟩:=World.ownsRow.form h (by simp)
    have q0:w.cell? ⟨g,0,none⟩=some (.string (bt l)):=by rw [World.ownsRow.cellAt h _ (by simp)];rfl
    have q1:w.cell? ⟨g,1,none⟩=some (.bool false):=by rw [World.ownsRow.cellAt h _ (by simp)];rfl
    have n0:=World.new_ne w ⟨g,0,none⟩ q0
    clear hp hx h e hl
    go_enter Tryz.func187,Tryz.ntmps187
    go_wp2_with fail
    go_ret2
    exact ⟨_,rfl,hide (bt_list l),(Below.refl _ _).alloc (Nat.le_refl _) _⟩
 | none=>
   obtain ⟨p,hpm,hv⟩:=hp.2 hx
   by_cases h1:(parts xs).length=1
   ·have e:parts xs=[p]:=by
     match hq:parts xs,h1 with
     | [q],_=>rw [hq] at hpm;simp at hpm;rw [hpm]
    rw [e] at h
    obtain ⟨g,cap,rfl,_,_⟩:=World.ownsRow.form h (by simp)
    have q1:w.cell? ⟨g,1,none⟩=some (.bool true):=by rw [World.ownsRow.cellAt h _ (by simp)];show some (Value.bool p.isVar)=_;rw [hv]
    have n0:=World.new_ne w ⟨g,1,none⟩ q1
    clear hp hx h e hl h1 hpm hv
    go_enter Tryz.func187,Tryz.ntmps187
    go_wp2_with fail
    go_ret2
    exact ⟨_,rfl,hide rfl,(Below.refl _ _).alloc (Nat.le_refl _) _⟩
   ·obtain ⟨n,hn⟩:∃ n,n=(parts xs).length:=⟨_,rfl⟩
    rw [←hn] at h h1 hl
    have h0:0<n:=by rw [hn];exact List.length_pos_of_mem hpm
    obtain ⟨g,cap,rfl,_,_⟩:=World.ownsRow.form h h0
    have g1:¬ (n:Int)=0:=by omega
    have g2:¬ (n:Int)=1:=by omega
    have g3:((n:Int)==0)=false:=by simpa using g1
    have g4:((n:Int)==1)=false:=by simpa using g2
    clear hp hx h hn h1 hpm hv h0 g1 g2
    go_enter Tryz.func187,Tryz.ntmps187
    go_wp2_with fail
    go_ret2
    exact ⟨_,rfl,hide rfl,(Below.refl _ _).alloc (Nat.le_refl _) _⟩
set_option maxHeartbeats 1000000 in
set_option maxRecDepth 10000 in
theorem isM_any (m:WdM) (t:ByteArray) (B:Nat) (w:World) (h:m.Ok w B) (hl:(parts m.xs).length≤1500) :
  Calls Tryz.prog 152 #[m.val,.string t] w fun ev w'=>ev=.returned (.bool (plainW m.xs==some t.data.toList))∧Below w.heap.size w w':=by
 have hb0:Below w.heap.size w (w.alloc (.cells #[.int .i64 (m.place:Int),m.v] 162)):=(Below.refl _ _).alloc (Nat.le_refl _) _
 have hP:=plainM_any m B (w.alloc (.cells #[.int .i64 (m.place:Int),m.v] 162)) (World.ownsRow.alloc h _) hl
 obtain ⟨ao,n',cap,hv⟩:=row_form h
 obtain ⟨place,v,xs⟩:=m
 simp only at hv hP hb0 ⊢
 subst hv
 clear h
 cases hx:plainW xs with
 | none=>
   rw [hx] at hP
   simp only [Option.isSome_none,Option.getD_none] at hP
   clear hx
   go_enter Tryz.func152,Tryz.ntmps152
   go_wp2_with (go_at_call 187;refine hP.mono ?_;clear hP;rintro ev w1 ⟨u,rfl,HU,hb1⟩)
   go_ret
   exact ⟨rfl,hb0.trans (hb1.mono hb0.size)⟩
 | some l=>
   rw [hx] at hP
   simp only [Option.isSome_some,Option.getD_some] at hP
   clear hx
   go_enter Tryz.func152,Tryz.ntmps152
   go_wp2_with (go_at_call 187;refine hP.mono ?_;clear hP;rintro ev w1 ⟨u,rfl,HU,hb1⟩)
   go_ret
   refine ⟨ret_bool ?_,hb0.trans (hb1.mono hb0.size)⟩
   rw [Lib.toList_data,Lib.toList_data,uh HU,Bool.eq_iff_iff];simp
end Go.Proofs.YtehfpjcclknipaaGreatDoor
namespace Go.Proofs.YtehfpjcclknipaaGreatDoor
open Go.RowKit Go.Maps
def ruleT:Nat→(Int × Int × Nat × Nat)
 | 0=>(1,3,213,214)
 | 1=>(2,3,215,216)
 | 2=>(2,2,217,218)
 | 3=>(1,1,217,219)
 | 4=>(1,2,220,221)
 | 5=>(2,2,217,222)
 | 6=>(2,2,223,224)
 | _=>(1,1,217,225)
def ruleV (i:Nat):Value:=.agg #[.int .i64 (ruleT i).1,.int .i64 (ruleT i).2.1,.func (.func (ruleT i).2.2.1) #[] #[],.func (.func (ruleT i).2.2.2) #[] #[]]
theorem ruleT_inj:∀ i,i<8→∀ j,j<8→(ruleT i).2.2.2=(ruleT j).2.2.2→i=j:=by decide
theorem ruleV_inj {i j:Nat}(hi:i<8) (hj:j<8) (h:ruleV i=ruleV j):i=j:=by
 refine ruleT_inj i hi j hj ?_
 unfold ruleV at h
 injection h with h
 injection h with h
 simp only [List.cons.injEq,and_true] at h
 obtain ⟨_,_,_,h⟩:=h
 injection h with h
 injection h
def RR : Value → Option (DataW Unit × List MemPlace)
  | .agg ⟨[.int .i64 a, .int .i64 b, .func (.func f) ⟨[]⟩ ⟨[]⟩, .func (.func g) ⟨[]⟩ ⟨[]⟩]⟩ => ((List.range 8).find? fun i => decide (ruleT i = (a, b, f, g))).map fun i : Nat => (.lit (.int .i64 (i : Int)), [])
  | _ => none
theorem RR_rule {i : Nat} (hi : i < 8) : RR (ruleV i) = some (.lit (.int .i64 (i : Int)), []) := by
  rcases i with _ | _ | _ | _ | _ | _ | _ | _ | i <;> first | rfl | omega
theorem RR_inv {v : Value} {y : DataW Unit × List MemPlace} (h : RR v = some y) : ∃ i : Nat, i < 8 ∧ v = ruleV i ∧ y.1 = .lit (.int .i64 (i : Int)) := by
  unfold RR at h
  split at h
  · rename_i a b f g
    obtain ⟨i, hi, rfl⟩ := Option.map_eq_some_iff.1 h
    have h2 := List.find?_some hi
    have h1 := List.mem_range.1 (List.mem_of_find?_eq_some hi)
    rw [decide_eq_true_eq] at h2
    exact ⟨i, h1, by unfold ruleV; rw [h2], rfl⟩
  · cases h
def DK (L:List (List UInt8 × Nat)):DataW Unit:=.map (L.map fun p=>(Lit.string p.1,DataW.lit (.int .i64 (p.2:Int))))
theorem DK_at (L:List (List UInt8 × Nat)) (x:List UInt8) (zd:DataW Unit):(DK L).atKey (.string x) zd=match L.find? (fun p=>p.1==x) with | some p=>.lit (.int .i64 (p.2:Int)) | none=>zd:=by
 induction L with
 | nil=>rfl
 | cons p r ih=>
   simp only [DK,DataW.atKey,List.map_cons,List.find?_cons] at ih ⊢
   by_cases h:p.1=x
   ·subst h;simp [Lit.sameKey]
   ·have h1:(Lit.string p.1).sameKey (Lit.string x)=false:=by simp [Lit.sameKey,h]
    have h2:(p.1==x)=false:=by simp [h]
    rw [h1,h2]
    exact ih
def tbl:List (List UInt8 × Nat):=[([65,68,68],2),([67,79,80,89],1),([69,78,86],6),([70,82,79,77],0),([76,73,78,75],5),([77,75,68,73,82],4),([82,77],3),([87,79,82,75,68,73,82],7)]
def opN (t:List UInt8):Option Nat:=(tbl.find? (fun p=>p.1==t)).map (·.2)
theorem opN_lt {t:List UInt8}{i:Nat}(h:opN t=some i):i<8:=by
 unfold opN at h
 cases hf:tbl.find? (fun p=>p.1==t) with
 | none=>rw [hf] at h;cases h
 | some p=>
   rw [hf] at h
   injection h with h
   have hm:=List.mem_of_find?_eq_some hf
   have:∀ p∈tbl,p.2<8:=by decide
   rw [←h];exact this p hm
theorem tbl_put:((((((((DataW.map (H:=Unit) []).put (.string [70,82,79,77]) (.lit (.int .i64 0))).put (.string [67,79,80,89]) (.lit (.int .i64 1))).put (.string [65,68,68]) (.lit (.int .i64 2))).put (.string [82,77]) (.lit (.int .i64 3))).put (.string [77,75,68,73,82]) (.lit (.int .i64 4))).put (.string [76,73,78,75]) (.lit (.int .i64 5))).put (.string [69,78,86]) (.lit (.int .i64 6))).put (.string [87,79,82,75,68,73,82]) (.lit (.int .i64 7))=DK tbl:=by kernel_rfl
def TM (w:World) (b n:Nat):Prop:=w.ownsMap Tryz.prog 9 RR b n (DK tbl)
theorem TM.look {w:World}{b n:Nat}(h:TM w b n) (s:ByteArray) (hs:s.size≤1073741824) :
  (opN s.data.toList=none∧(Instr.lookup 270 (.map (some b)) (.string s) true).run Tryz.prog w=.ok (.tuple #[.agg #[.int .i64 0,.int .i64 0,.nilFunc,.nilFunc],.bool false]) w) ∨
  ∃ i:Nat,opN s.data.toList=some i∧(Instr.lookup 270 (.map (some b)) (.string s) true).run Tryz.prog w=.ok (.tuple #[ruleV i,.bool true]) w:=by
 obtain ⟨es,clock,hb,F,_,hD⟩:=h
 have hkey:keyOf Tryz.prog 9 (.string s)=some (.string s.data.toList):=WideMaps.keyOf_string_mk Tryz.underlying9 (by unfold maxLen;omega)
 rcases Maps.fit_look true (Maps.string_keyed Tryz.underlying9) Tryz.underlying270 (Tryz.zeroValue74 w) hb F hkey with ⟨hrun,_,hat⟩ | ⟨e0,y,_,_,hrun,hRv,hat,_⟩
 ·refine .inl ⟨?_,hrun⟩
  rw [←hD] at hat
  have h1:=hat .nil
  rw [DK_at] at h1
  unfold opN
  cases hf:tbl.find? (fun p=>p.1==s.data.toList) with
  | none=>rfl
  | some z=>rw [hf] at h1;cases h1
 ·rw [←hD] at hat
  have h1:=hat .nil
  rw [DK_at] at h1
  obtain ⟨q,hq,hv,hy⟩:=RR_inv hRv
  unfold opN
  cases hf:tbl.find? (fun p=>p.1==s.data.toList) with
  | none=>
    rw [hf] at h1
    rw [hy] at h1
    cases h1
  | some z=>
    rw [hf,hy] at h1
    have hz:z.2=q:=by
     have h2:((z.2:Nat):Int)=(q:Int):=by
      simp only [DataW.lit.injEq,Lit.int.injEq,true_and] at h1
      exact h1
     omega
    refine .inr ⟨q,by rw [←hz];rfl,?_⟩
    rw [hrun,hv];rfl
set_option maxHeartbeats 2000000 in
set_option maxRecDepth 10000 in
theorem rules_any (w:World) :
  Calls Tryz.prog 188 #[] w fun ev w'=>∃ b:Nat,ev=.returned (.map (some b))∧w.heap.size≤b∧TM w' b 8∧Below w.heap.size w w':=by
 have hmm:=@run_makeMap Tryz.prog
 have o0:=World.ownsMap_made w Tryz.prog 9 RR
 have hb0:Below w.heap.size w (w.alloc (.map #[] 0)):=(Below.refl _ _).alloc (Nat.le_refl _) _
 obtain ⟨w1,r1,o1,g1⟩:=World.ownsMap.update o0 (Maps.string_keyed Tryz.underlying9) Tryz.underlying270 (by unfold maxLen;omega) (key:=.string ⟨#[70,82,79,77]⟩) (kl:=.string [70,82,79,77]) (WideMaps.keyOf_string_mk Tryz.underlying9 (s:=⟨#[70,82,79,77]⟩) (by unfold maxLen;decide)) (RR_rule (i:=0) (by decide))
 obtain ⟨w2,r2,o2,g2⟩:=World.ownsMap.update o1 (Maps.string_keyed Tryz.underlying9) Tryz.underlying270 (by unfold maxLen;omega) (key:=.string ⟨#[67,79,80,89]⟩) (kl:=.string [67,79,80,89]) (WideMaps.keyOf_string_mk Tryz.underlying9 (s:=⟨#[67,79,80,89]⟩) (by unfold maxLen;decide)) (RR_rule (i:=1) (by decide))
 obtain ⟨w3,r3,o3,g3⟩:=World.ownsMap.update o2 (Maps.string_keyed Tryz.underlying9) Tryz.underlying270 (by unfold maxLen;omega) (key:=.string ⟨#[65,68,68]⟩) (kl:=.string [65,68,68]) (WideMaps.keyOf_string_mk Tryz.underlying9 (s:=⟨#[65,68,68]⟩) (by unfold maxLen;decide)) (RR_rule (i:=2) (by decide))
 obtain ⟨w4,r4,o4,g4⟩:=World.ownsMap.update o3 (Maps.string_keyed Tryz.underlying9) Tryz.underlying270 (by unfold maxLen;omega) (key:=.string ⟨#[82,77]⟩) (kl:=.string [82,77]) (WideMaps.keyOf_string_mk Tryz.underlying9 (s:=⟨#[82,77]⟩) (by unfold maxLen;decide)) (RR_rule (i:=3) (by decide))
 obtain ⟨w5,r5,o5,g5⟩:=World.ownsMap.update o4 (Maps.string_keyed Tryz.underlying9) Tryz.underlying270 (by unfold maxLen;omega) (key:=.string ⟨#[77,75,68,73,82]⟩) (kl:=.string [77,75,68,73,82]) (WideMaps.keyOf_string_mk Tryz.underlying9 (s:=⟨#[77,75,68,73,82]⟩) (by unfold maxLen;decide)) (RR_rule (i:=4) (by decide))
 obtain ⟨w6,r6,o6,g6⟩:=World.ownsMap.update o5 (Maps.string_keyed Tryz.underlying9) Tryz.underlying270 (by unfold maxLen;omega) (key:=.string ⟨#[76,73,78,75]⟩) (kl:=.string [76,73,78,75]) (WideMaps.keyOf_string_mk Tryz.underlying9 (s:=⟨#[76,73,78,75]⟩) (by unfold maxLen;decide)) (RR_rule (i:=5) (by decide))
 obtain ⟨w7,r7,o7,g7⟩:=World.ownsMap.update o6 (Maps.string_keyed Tryz.underlying9) Tryz.underlying270 (by unfold maxLen;omega) (key:=.string ⟨#[69,78,86]⟩) (kl:=.string [69,78,86]) (WideMaps.keyOf_string_mk Tryz.underlying9 (s:=⟨#[69,78,86]⟩) (by unfold maxLen;decide)) (RR_rule (i:=6) (by decide))
 obtain ⟨w8,r8,o8,g8⟩:=World.ownsMap.update o7 (Maps.string_keyed Tryz.underlying9) Tryz.underlying270 (by unfold maxLen;omega) (key:=.string ⟨#[87,79,82,75,68,73,82]⟩) (kl:=.string [87,79,82,75,68,73,82]) (WideMaps.keyOf_string_mk Tryz.underlying9 (s:=⟨#[87,79,82,75,68,73,82]⟩) (by unfold maxLen;decide)) (RR_rule (i:=7) (by decide))
 have hB1:=hb0.grown g1 hb0.size (fun q hq=>by cases hq;exact Nat.le_refl _)
 have hB2:=hB1.grown g2 hB1.size (fun q hq=>by cases hq;exact Nat.le_refl _)
 have hB3:=hB2.grown g3 hB2.size (fun q hq=>by cases hq;exact Nat.le_refl _)
 have hB4:=hB3.grown g4 hB3.size (fun q hq=>by cases hq;exact Nat.le_refl _)
 have hB5:=hB4.grown g5 hB4.size (fun q hq=>by cases hq;exact Nat.le_refl _)
 have hB6:=hB5.grown g6 hB5.size (fun q hq=>by cases hq;exact Nat.le_refl _)
 have hB7:=hB6.grown g7 hB6.size (fun q hq=>by cases hq;exact Nat.le_refl _)
 have hB8:=hB7.grown g8 hB7.size (fun q hq=>by cases hq;exact Nat.le_refl _)
 have HO:Hid (TM w8 w.heap.size 8):=hide (by unfold TM;rw [←tbl_put];exact o8)
 unfold ruleV at r1 r2 r3 r4 r5 r6 r7 r8
 simp only [ruleT] at r1 r2 r3 r4 r5 r6 r7 r8
 clear o0 o1 o2 o3 o4 o5 o6 o7 o8 g1 g2 g3 g4 g5 g6 g7 g8 hB1 hB2 hB3 hB4 hB5 hB6 hB7 hb0
 go_enter Tryz.func188,Tryz.ntmps188
 go_wp2_with fail
 go_ret
 exact ⟨_,rfl,Nat.le_refl _,uh HO,hB8⟩
end Go.Proofs.YtehfpjcclknipaaGreatDoor
