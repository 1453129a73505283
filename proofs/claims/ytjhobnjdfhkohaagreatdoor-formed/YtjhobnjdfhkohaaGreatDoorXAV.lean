import Derived.Test.YtjhobnjdfhkohaaGreatDoorXAS
import Derived.Test.YtjhobnjdfhkohaaGreatDoorXAU
set_option linter.all false
set_option maxHeartbeats 8000000
set_option maxRecDepth 100000
namespace Go.Proofs.YtjhobnjdfhkohaaGreatDoor.T
open Go.Proofs.Tryz
open Go.RowKit Go.Maps
structure Nr(w:World):Prop where
 hm:∃m:Int,w.cell? ⟨1,0,none⟩=some (.int .i64 m)
 hg:w.cell? ⟨0,0,none⟩=some (.iface 157 (.agg #[.pointer (some ⟨22,45,none⟩)]))
 rd:Rd w
 lim:21<w.heap.size
theorem Nr.below{w w':World}(h:Nr w)(hb:Bw w w'):Nr w':=by obtain⟨m,hm⟩:=h.hm;exact⟨⟨m,aM hb hm⟩,aM hb h.hg,h.rd.below hb,Nat.lt_of_lt_of_le h.lim hb.size⟩
theorem Ev(es:List aj):∃r,cG es r:=by
 by_cases h:∀i,i<es.length->fE es i=true
 .exact⟨-1,.inl ⟨rfl,h⟩⟩
 have:∃n,∃i,i<=n/\i<es.length/\fE es i=false:=by
  false_or_by_contra;rename_i hn;exact h λi hi=>by
   cases e:fE es i with
   |true=>rfl
   |false=>exact absurd ⟨i,i,bH _,hi,e⟩ hn
 obtain⟨n,hn⟩:=this;clear h;induction n with
 |zero=>
  obtain⟨i,h1,h2,h3⟩:=hn;obtain rfl:i=0:=by omega
  exact⟨(0:Nat),.inr ⟨0,rfl,h2,h3,λj hj=>absurd hj (Nat.not_lt_zero _)⟩⟩
 |succ n ih=>
  by_cases hq:∃i,i<=n/\i<es.length/\fE es i=false
  .exact ih hq
  obtain⟨i,h1,h2,h3⟩:=hn;refine⟨(i:Nat),.inr ⟨i,rfl,h2,h3,λj hj=>?_⟩⟩;cases e:fE es j with
  |true=>rfl
  |false=>exact absurd ⟨j,by omega,by omega,e⟩ hq
def rR(cs:List Tg):List aj:=qp cs 17
theorem Nm(st:List aU):fv st=fv st:=rfl
theorem KA{W:World}{b g i:Nat}{v0 v1 v2 u:Value}(h:g≠b)(hc:W.cell? ⟨g,i,none⟩=some u):(((W.setCell ⟨b,0,none⟩ v0).setCell ⟨b,1,none⟩ v1).setCell ⟨b,2,none⟩ v2).cell? ⟨g,i,none⟩=some u:=by
 rw[b8 (W:=W) (a:=⟨g,i,none⟩)]
 .exact hc
 rw[heap_setCell_other _ ⟨b,2,none⟩ g _ h,heap_setCell_other _ ⟨b,1,none⟩ g _ h,heap_setCell_other _ ⟨b,0,none⟩ g _ h]
theorem kV.below{w w':World}{v:Value}{E:List LU}{wk:LU}{t:List aj}(h:kV w v E wk t)(hb:Bw w w'):kV w' v E wk t:=by obtain⟨eo,en,ec,us,s2,ao,n,cap,rfl,⟨B,k1⟩,k2,k3,k4,k5,k6⟩:=h;exact⟨eo,en,ec,us,s2,ao,n,cap,rfl,⟨B,ap k1 λq hq=>hb.block q (World.ownsRow.lt k1 q hq).2⟩,k2,k3,k4,k5.below hb,k6⟩
def R3(w W5:World)(iv:Value)(wr:World):Prop:=∃i:Nat,i<=2/\iv=.int .i64 (i:Int)/\Bw W5 wr
theorem Is(a:BA)(lo co:OA)(ln lc cn cc:Nat)(ls cs:List Tg)(w:World)(hl:TgRow w lo ls)(hc:TgRow w co cs)(HL:Hid (ln=ls.length))(HC:Hid (cn=cs.length))(hcn:cn<=140737488351232)(hd:∀x∈ls,x.d.size<=9223372036854775807)(hLd:Nr w): Cl 3 #[.string a,.slice lo ln lc,.slice co cn cc] w λe w'=>e=.returned (.bool true)/\Bw w w':=by
 obtain⟨hCh⟩:=chN;obtain⟨m,hm⟩:=hLd.hm;have hMe:=Dd m w hm hLd.hg hLd.rd hLd.lim;have HTX:Hid (∀W,Bw w W->Cl 5 #[.slice lo ln lc] W λev w'=>(∃t:BA,ev=.returned (.string t)/\t.size<=100000)/\Bw W w'):=ab (λW hb=>yO lo lc ln ls W (hl.below hb) HL hd);have HTR:Hid (∀W,Bw w W->Cl 8 #[.slice co cn cc] W λev w'=>(∃(vo:OA) (vc vn:Nat),ev=.returned (.slice vo vn vc)/\Hid (vn=(rR cs).length/\fB w' vo (rR cs)/\ix (rR cs)/\vn<=17))/\Bw W w'):=ab (λW hb=>
  (wJ co cc cn cs W (hc.below hb) HC hcn).mono λev w' ⟨vo,vc,vn,es,h1,h2,h3,_,h5,h6⟩=>by have he:=(uh h5).2;have hln:=(uh h5).1.len;have hsm:=(uh h5).1.sizes;subst he;exact⟨⟨vo,vc,vn,h1,ab ⟨uh h2,h3,hsm,by rw[uh h2];exact hln⟩⟩,h6⟩)
 have HPR:Hid (∀(s:BA) W,Bw w W->Cl 6 #[.string s] W λev w'=>oB ev (aI s.data.toList)/\Bw W w'):=ab (λs W hb=>pK s m W (aM hb hm) (aM hb hLd.hg));obtain⟨r0,hr0⟩:=Ev (rR cs);have HMK:Hid (∀(s:BA) (x:Except (Nat×Nat) SN) (vo:OA) (vc vn:Nat) W,Bw w W->nj s.data.toList (rR cs) r0 x->(vn=(rR cs).length/\fB W vo (rR cs)/\ix (rR cs)/\vn<=17)->Cl 7 #[.string s,.slice vo vn vc] W λe w'=>(∃v,e=.returned (.tuple #[v,.int .i64 (yt x),.int .i64 (Nk x)])/\kV w' v (pO x) (rL x) (qW x))/\Bw W w'):=ab (λs x vo vc vn W hb hx ⟨h1,h2,h3,h4⟩=>
  ES s vo vn vc (rR cs) m x W h2 (ab h1) (by omega) (ab h3) r0 hr0 (aM hb hm) (aM hb hLd.hg) (hLd.rd.below hb) (Nat.lt_of_lt_of_le hLd.lim hb.size) hx)
 clear hl hc hd hLd hm hr0 HL HC hcn;go_enter func3,ntmps3;go_upto_region 4 with(go_at_call 4;refine hMe.mono ?_;clear hMe;rintro e1 w1⟨rfl,hb1⟩)
 go_upto_region 5 with(go_at_call 5;refine(uh HTX _ hb1).mono ?_;rintro e2 w2⟨⟨t,rfl,hts⟩,hb2⟩)
 obtain⟨W5,hW5⟩:=aq (w2.alloc (.cells #[.string a,.string t] 9));have hb5:=dw hW5;have hc5:=em hW5;have hB2:Bw w w2:=hb1.trans (hb2.mono hb1.size);have hB5:Bw w W5:=hB2.trans (hb5.mono hB2.size);obtain⟨gl,hgl⟩:=aq w2.heap.size;rw[<-hW5];rw[<-hgl]at hc5⊢;have HS:Hid (∀i,i<2->∃s:BA,∀W,Bw W5 W->W.cell? ⟨gl,i,none⟩=some (.string s)):=ab (λi hi=>by
  obtain rfl|rfl:i=0\/i=1:=by omega
  .exact⟨a,λW hb=>aM hb (aL 0 hc5)⟩
  exact⟨t,λW hb=>aM hb (aL 1 hc5)⟩)
 have HB5:=ab hB5;clear hW5 hb5 hc5 hB2 hB5 hb1 hb2 hgl hts HTX;go_upto_region 6 with fail;go_loopw [9] (λiv wr=>R3 w W5 iv wr) (λiv _=>2-(intOf iv).toNat);case atStart=>exact⟨0,by decide,rfl,ju _ _⟩
 case round=>
  obtain⟨i,hi,rfl,hb⟩:=hrel;have hBw:Bw w wr:=(uh HB5).trans (hb.mono (uh HB5).size);by_cases hlt:i<2
  .obtain⟨s,hs⟩:=uh HS i hlt;have c0:=hs wr hb;have n0:=World.new_ne wr ⟨gl,i,none⟩ c0;have i2:(i:Int)<2:=by omega
   have hP:=uh HPR s wr hBw;have HCS:=ab hs;have HBW:=ab hBw;have HB:=ab hb;clear hs hBw hb;cases hp:aI s.data.toList with
   |error kp=>
    obtain⟨k,p⟩:=kp;have hk0:((k:Int) != 0)=true:=by have:=NZ hp;simp;omega
    rw[hp]at hP;unfold oB at hP;dsimp only at hP;clear hp;go_wp2_with (go_at_call 6;refine hP.mono ?_;clear hP;rintro e3 w3⟨rfl,hb3⟩)
    go_roundw;case rel=>exact⟨i+1,by omega,by go_num,(uh HB).trans (hb3.mono (uh HB).size)⟩
    case measure=>simp[intOf];omega
   |ok st=>
    rw[hp]at hP;unfold oB at hP;dsimp only at hP;have HP:=ab hp;clear hp;go_upto_region 9 with(go_at_call 6;refine hP.mono ?_;clear hP;rintro e3 w3⟨⟨u,rfl,hu⟩,hb3⟩)
    have hB3:Bw W5 w3:=(uh HB).trans (hb3.mono (uh HB).size);have hBw3:Bw w w3:=(uh HB5).trans (hB3.mono (uh HB5).size);by_cases hbig:u.size<=1500
    .have hlen:(fv st).length<=1500:=by rw[<-hu,<-im];exact hbig
     obtain⟨st',h1,h2,h3⟩:=qD (uh HP) hlen;have hP2:=uh HPR u w3 hBw3;rw[hu,h1]at hP2;unfold oB at hP2;dsimp only at hP2;have hP3:Cl 6 #[.string u] w3 λev w'=>ev=.returned (.tuple #[.string u,.int .i64 0,.int .i64 (-1)])/\Bw w3 w':=hP2.mono λev w' ⟨⟨u',e1,e2⟩,e3⟩=>by
      have:u'=u:=by apply ByteArray.ext;exact Array.toList_inj.1 (e2.trans (h3.trans hu.symm))
      subst this;exact⟨e1,e3⟩
     obtain⟨x,hx⟩:=KD s.data.toList (rR cs) r0;obtain⟨y,hy⟩:=KD u.data.toList (rR cs) r0;have hxy:=IW (uh HP) hlen hx (by rw[<-hu];exact hy);have HX:=ab hx;have HY:=ab hy;have HXY:=ab hxy;have HB3:=ab hB3;have HBW3:=ab hBw3;clear h1 h2 h3 hP2 hx hy hxy hB3 hBw3 hlen hu hb3 c0 n0;go_upto_region 11 with(go_at_call 6;refine hP3.mono ?_;clear hP3;rintro e4 w4⟨rfl,hb4⟩)
     have hB4:Bw W5 w4:=(uh HB3).trans (hb4.mono (uh HB3).size);have hBw4:Bw w w4:=(uh HB5).trans (hB4.mono (uh HB5).size);have c0:=uh HCS w4 hB4;have n0:=World.new_ne w4 ⟨gl,i,none⟩ c0;have HBW4:=ab hBw4;have HB4:=ab hB4;clear hb4 hB4 hBw4;go_cut [16,17,18] from 30 to 95 (λbv kv pv wx=>∃(b:Nat) (eo:OA) (en ec:Nat) (s2:BA) (ao:OA) (n cap:Nat),bv=.pointer (some ⟨b,0,none⟩)/\kv=.int .i64 (yt x)/\pv=.int .i64 (Nk x)/\Hid (wx.heap[b]?=some (.cells #[.slice eo en ec,.string s2,.slice ao n cap] 32 (0,0))/\Bw w4 wx/\kV wx (.agg #[.slice eo en ec,.string s2,.slice ao n cap]) (pO x) (rL x) (qW x)))
     case first=>
      clear HPR HXY HY HP HB3 HBW3;go_region_held3 (λw'=>w'.cell? ⟨gl,i,none⟩=some (.string s)) (first|exact c0|exact x8|exact x7|exact KA (Nat.ne_of_lt (World.block_lt_of_cell? _ _ x8)) x7|exact KA (Nat.ne_of_lt (World.block_lt_of_cell? _ _ c0)) x7|go_keep) (first|(go_at_call 8;refine(uh HTR _ (by first|exact mw (uh HBW4)|exact mw ((uh HBW4).alloc (uh HBW4).size _))).mono ?_;rintro e8 w8⟨⟨vo,vc,vn,rfl,HV⟩,hb8⟩;have hb48:Bw w4 w8:=(by first|exact am hb8|exact mu hb8);have x8:=aM hb48 c0;have HB8:=ab ((uh HBW4).trans (hb48.mono (uh HBW4).size)))|(go_at_call 7;refine(uh HMK s x vo vc vn _ (by first|exact uh HB8|exact(uh HB8).alloc (uh HB8).size _) (uh HX) (by first|exact uh HV|exact⟨(uh HV).1,(uh HV).2.1.below (eD),(uh HV).2.2⟩)).mono ?_;rintro e7 w7⟨⟨v,rfl,eo,en,ec,us,s2,ao,n,cap,rfl,hIm⟩,hb7⟩;have HIM:=ab hIm;clear hIm;have hb87:Bw w8 w7:=(by first|exact hb7|exact(eD).trans (hb7.mono (by simp)));have x7:=aM hb87 x8;first|(have hz:=(hb87.block w4.heap.size (bY (rO hb8))).trans (rO hb8);have z0:=aL 0 hz;have z1:=aL 1 hz;have z2:=aL 2 hz;have f0:=frozen_of_row w7 w4.heap.size 0 _ _ hz;have f1:=frozen_of_row w7 w4.heap.size 1 _ _ hz;have f2:=frozen_of_row w7 w4.heap.size 2 _ _ hz)|(have hz:=(hb7.block w8.heap.size (by simp)).trans (ft w8 _);have z0:=aL 0 hz;have z1:=aL 1 hz;have z2:=aL 2 hz;have f0:=frozen_of_row w7 w8.heap.size 0 _ _ hz;have f1:=frozen_of_row w7 w8.heap.size 1 _ _ hz;have f2:=frozen_of_row w7 w8.heap.size 2 _ _ hz)|skip));all_goals first
       |(obtain⟨W9,hW9⟩:∃W9,W9=w7.alloc (.cells #[.slice eo en ec,.string s2,.slice ao n cap] 32):=⟨_,rfl⟩
         rw[<-hW9];obtain⟨b,hbe⟩:=aq w7.heap.size;rw[<-hbe];have hc9:W9.heap[b]?=some (.cells #[.slice eo en ec,.string s2,.slice ao n cap] 32 (0,0)):=by rw[hW9,hbe];exact ft _ _
         have hb79:Bw w7 W9:=by rw[hW9];exact eD
         have hB9:Bw w4 W9:=(hb48.trans (hb87.mono hb48.size)).trans (hb79.mono (dz hb48.size hb87.size));have HI9:Hid (kV W9 (.agg #[.slice eo en ec,.string s2,.slice ao n cap]) (pO x) (rL x) (qW x)):=ab (by obtain⟨⟨B,k1⟩,k2,k3,k4,k5,k6⟩:=uh HIM;exact⟨eo,en,ec,us,s2,ao,n,cap,rfl,⟨B,ap k1 λq hq=>hb79.block q (World.ownsRow.lt k1 q hq).2⟩,k2,k3,k4,k5.below hb79,k6⟩);clear hW9 hbe hb79 HIM hb7 hb87 hb8 hb48 x7 x8 HV HB8)
       |(obtain⟨W9,hW9⟩:∃W9,W9=((w7.setCell ⟨w8.heap.size,0,none⟩ (.slice eo en ec)).setCell ⟨w8.heap.size,1,none⟩ (.string s2)).setCell ⟨w8.heap.size,2,none⟩ (.slice ao n cap):=⟨_,rfl⟩
         rw[<-hW9];obtain⟨b,hbe⟩:=aq w8.heap.size;rw[<-hbe]at hz hW9⊢;have hc9:W9.heap[b]?=some (.cells #[.slice eo en ec,.string s2,.slice ao n cap] 32 (0,0)):=by rw[hW9];exact rP _ _ _ hz
         have hb47:=hb48.trans (hb87.mono hb48.size);have hbb:w4.heap.size<=b:=by rw[hbe];exact hb48.size
         have hB9:Bw w4 W9:=by rw[hW9];exact((hb47.setCell (p:=⟨b,0,none⟩) hbb _).setCell (p:=⟨b,1,none⟩) hbb _).setCell (p:=⟨b,2,none⟩) hbb _
         have HI9:Hid (kV W9 (.agg #[.slice eo en ec,.string s2,.slice ao n cap]) (pO x) (rL x) (qW x)):=ab (by obtain⟨⟨B,k1⟩,k2,k3,k4,k5,k6⟩:=uh HIM;exact⟨eo,en,ec,us,s2,ao,n,cap,rfl,⟨B,by rw[hW9];exact vI k1 hz⟩,k2,k3,k4,by rw[hW9];exact kS k5 hz,k6⟩);clear hW9 hbe hbb hb47 HIM hb7 hb87 hb8 hb48 x7 x8 HV HB8 hz z0 z1 z2 f0 f1 f2)
       |(obtain⟨W9,hW9⟩:∃W9,W9=((w7.setCell ⟨w4.heap.size,0,none⟩ (.slice eo en ec)).setCell ⟨w4.heap.size,1,none⟩ (.string s2)).setCell ⟨w4.heap.size,2,none⟩ (.slice ao n cap):=⟨_,rfl⟩
         rw[<-hW9];obtain⟨b,hbe⟩:=aq w4.heap.size;have hbb:w4.heap.size<=b:=Nat.le_of_eq hbe.symm;have hb47:=hb48.trans (hb87.mono hb48.size);have hB9:Bw w4 W9:=by rw[hW9];exact((hb47.setCell (p:=⟨w4.heap.size,0,none⟩) (bH _) _).setCell (p:=⟨w4.heap.size,1,none⟩) (bH _) _).setCell (p:=⟨w4.heap.size,2,none⟩) (bH _) _
         have HI9:Hid (kV W9 (.agg #[.slice eo en ec,.string s2,.slice ao n cap]) (pO x) (rL x) (qW x)):=ab (by obtain⟨⟨B,k1⟩,k2,k3,k4,k5,k6⟩:=uh HIM;exact⟨eo,en,ec,us,s2,ao,n,cap,rfl,⟨B,by rw[hW9];exact vI k1 hz⟩,k2,k3,k4,by rw[hW9];exact kS k5 hz,k6⟩);have hc9:W9.heap[w4.heap.size]?=some (.cells #[.slice eo en ec,.string s2,.slice ao n cap] 32 (0,0)):=by rw[hW9];exact rP _ _ _ hz
         rw[<-hbe]at hc9⊢;clear hW9 hbe hbb hb47 HIM hb7 hb87 hb8 hb48 x7 x8 HV HB8 hz z0 z1 z2 f0 f1 f2)
      all_goals
       have HF9:=ab (And.intro hc9 (And.intro hB9 (uh HI9)));clear hc9 hB9 HI9;first|(go_wp2_with fail;go_meet;exact⟨b,eo,en,ec,s2,ao,n,cap,rfl,rfl,rfl,HF9⟩)|(go_meet;exact⟨b,eo,en,ec,s2,ao,n,cap,rfl,rfl,rfl,HF9⟩)|(refine Met.intro ?_;dsimp only;(repeat apply Exists.intro);refine⟨?_,rfl⟩;exact⟨b,eo,en,ec,s2,ao,n,cap,rfl,rfl,rfl,HF9⟩)
     case rest=>
      obtain⟨b,eo,en,ec,s2,ao,n,cap,rfl,rfl,rfl,HF9⟩:=hcut;obtain⟨hc9,hB9,hI9⟩:=uh HF9;have hBw9:Bw w wc:=(uh HBW4).trans (hB9.mono (uh HBW4).size);have hB59:Bw W5 wc:=(uh HB4).trans (hB9.mono (uh HB4).size);have HTR9:=ab (uh HTR wc hBw9);have HBW9:=ab hBw9;have HB59:=ab hB59;have HC9:=ab hc9;have HI9:=ab hI9;clear hBw9 hB59 hB9 c0 n0 hc9 hI9 HF9;go_upto_region 13 with(first|(go_at_call 8;refine(uh HTR9).mono ?_;rintro e8 w8⟨⟨vo,vc,vn,rfl,HV⟩,hb8⟩;have HB8:=ab ((uh HBW9).trans (hb8.mono (uh HBW9).size)))|(go_at_call 7;refine(uh HMK u y vo vc vn _ (uh HB8) (uh HY) (uh HV)).mono ?_;rintro e7 w7⟨⟨v',rfl,fo,fn,fc,us',s3,bo,n3,cap3,rfl,hIm'⟩,hb7⟩;have HIM':=ab hIm';clear hIm'))
      obtain⟨W10,hW10⟩:=aq (w7.alloc (.cells #[.slice fo fn fc,.string s3,.slice bo n3 cap3] 32));have hb10:=dw hW10;have hc10:=em hW10;have hb97:Bw wc w7:=hb8.trans (hb7.mono hb8.size);have hb910:Bw wc W10:=hb97.trans (hb10.mono hb97.size);have hcb:=(hb910.block b (bY (uh HC9))).trans (uh HC9);rw[<-hW10];obtain⟨d,hde⟩:=aq w7.heap.size;rw[<-hde]at hc10⊢;have g0:W10.cell? ⟨b,0,none⟩=some (.slice eo en ec):=aL 0 hcb;have g1:W10.cell? ⟨b,1,none⟩=some (.string s2):=aL 1 hcb;have g2:W10.cell? ⟨b,2,none⟩=some (.slice ao n cap):=aL 2 hcb;have k0:W10.cell? ⟨d,0,none⟩=some (.slice fo fn fc):=aL 0 hc10;have k1:W10.cell? ⟨d,1,none⟩=some (.string s3):=aL 1 hc10;have k2:W10.cell? ⟨d,2,none⟩=some (.slice bo n3 cap3):=aL 2 hc10;have hI1:kV W10 (.agg #[.slice eo en ec,.string s2,.slice ao n cap]) (pO x) (rL x) (qW x):=(uh HI9).below hb910;obtain⟨x1,x2,x3,x4⟩:=uh HXY;have hI2:kV W10 (.agg #[.slice fo fn fc,.string s3,.slice bo n3 cap3]) (pO x) (rL x) (qW x):=by rw[x2,x3,x4];exact kV.below ⟨fo,fn,fc,us',s3,bo,n3,cap3,rfl,uh HIM'⟩ hb10
      have hSI:=sO _ _ _ _ _ W10 hI1 hI2;have HR10:Hid (Bw W5 W10):=ab ((uh HB59).trans (hb910.mono (uh HB59).size));have hxe:(yt x != yt y)=false:=by rw[x1];simp
      clear hI1 hI2 x1 x2 x3 x4 hW10 hc10 hcb hb10 hb97 hb910 hde hb7 hb8;go_upto_region 14 with(go_at_call 9;refine hSI.mono ?_;clear hSI;rintro e9 w9⟨rfl,hb9⟩)
      clear g0 g1 g2 k0 k1 k2;go_wp2_with fail;go_roundw;case rel=>exact⟨i+1,by omega,by go_num,(uh HR10).trans (hb9.mono (uh HR10).size)⟩
      case measure=>simp[intOf];omega
    have hb15:(1500:Int)<(u.size:Int):=by omega
    have HR3:Hid (Bw W5 w3):=ab hB3;clear hu hbig hb3 hB3 hBw3;go_wp2_with fail;go_roundw;case rel=>exact⟨i+1,by omega,by go_num,uh HR3⟩
    case measure=>simp[intOf];omega
  have hi2:i=2:=by omega
  subst hi2;go_wp2_with fail;go_ret;exact⟨rfl,hBw⟩
end Go.Proofs.YtjhobnjdfhkohaaGreatDoor.T
