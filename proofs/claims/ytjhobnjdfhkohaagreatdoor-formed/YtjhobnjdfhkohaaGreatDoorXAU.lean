import Derived.Test.YtjhobnjdfhkohaaGreatDoorXAT
set_option linter.all false
set_option maxHeartbeats 8000000
set_option maxRecDepth 100000
namespace Go.Proofs.YtjhobnjdfhkohaaGreatDoor.T
open Go.Proofs.Tryz
open Go.RowKit
theorem oh(l:Array UInt8):(⟨l⟩:BA).size=l.size:=rfl
theorem jy(c n:Int)(h0:0<n):∃k:Nat,bI c n=(k:Int)/\(k:Int)<n:=by obtain⟨h1,h2⟩:=wi c n h0;exact⟨(bI c n).toNat,by omega,by omega⟩
theorem Bq{w:World}{g:Nat}{ps:List BA}(h:nW w (some ⟨g,0,none⟩) ps){k:Nat}{p:BA}(hp:ps[k]?=some p):w.cell? ⟨g,k,none⟩=some (.string p):=by obtain⟨g',hg,hc⟩:=h k p hp;cases hg;exact hc
theorem sm(op a b st:Int)(s:BA)(w:World)(hs:s.size<=9223372036854775807)(h0:0<=st)(h3:st<=3): Cl 10 #[.agg #[.int .i64 op,.int .i64 a,.int .i64 b,.string s],.int .i64 st] w λev w'=>(∃t:BA,ev=.returned (.string t)/\t.size<=1000)/\Bw w w':=by
 obtain⟨W0,hW0⟩:=aq (w.alloc (.cells #[.int .i64 op,.int .i64 a,.int .i64 b,.string s] 41));have hb0:=dw hW0;have hc0:=em hW0;obtain⟨ia,hia,hla⟩:=jy a 17 (by decide);obtain⟨ib,hib,hlb⟩:=jy b 17 (by decide);obtain⟨i3,hi3,hl3⟩:=jy a 3 (by decide);obtain⟨io,hio,hlo⟩:=jy op 9 (by decide);obtain⟨p1,hp1⟩:∃p,places[ia]?=some p:=⟨_,gG (by rw[qV];omega)⟩
 obtain⟨p2,hp2⟩:∃p,places[ib]?=some p:=⟨_,gG (by rw[qV];omega)⟩
 have hz1:=pG p1 (mG hp1);have hz2:=pG p2 (mG hp2);have HSF:=ab (λw=>He s w hs);have HP1:Hid (∀w g,nW w (some ⟨g,0,none⟩) (Lj (lY 12))->w.cell? ⟨g,ia,none⟩=some (.string p1)/\w.cell? ⟨g,ib,none⟩=some (.string p2)):=ab (λw g h=>⟨Bq h hp1,Bq h hp2⟩);have j1:(0:Int)<=(ia:Int):=by omega
 have j2:(0:Int)<=(ib:Int):=by omega
 have HC:=ab hc0;clear hc0 hp1 hp2 hs;go_enter func10,ntmps10;go_upto_region 1 with fail;rw[<-hW0];clear hW0;go_upto_region 2 with(go_at_call 15;refine(nY _).mono ?_;rintro e1 w1⟨g,rfl,hT,hb1⟩)
 obtain⟨q1,q2⟩:=uh HP1 w1 g hT;have hc1:=(hb1.block _ (gA (uh HC))).trans (uh HC);have r0:=cq 0 hc1;have r1:=cq 1 hc1;have r2:=cq 2 hc1;have r3:=cq 3 hc1;have HB:Hid (Bw w w1):=ab (hb0.trans (hb1.mono hb0.size));clear hT hc1 HC hb1 hb0 HP1;have hn1:=World.new_ne w1 ⟨g,ia,none⟩ q1;have hn2:=World.new_ne w1 ⟨g,ib,none⟩ q2;go_upto_region 5 with(go_at_call 11;refine(gE _ _ _ (by omega) (by omega)).mono ?_;rintro e2 w2⟨rfl,hw2⟩;obtain rfl:=hw2.symm)
 have fin:∀t:BA,t.size<=1000->∀w',w'=w1->(∃u:BA,Ending.returned (.string t)=.returned (.string u)/\u.size<=1000)/\Bw w w':=λt ht w' hw=>by subst hw;exact⟨⟨t,rfl,ht⟩,uh HB⟩
 have FIN:=ab fin;clear fin q1 q2 hn1 hn2;have HPO:Hid (∀w,Cl 11 #[.int .i64 op,.int .i64 9] w λev w'=>ev=.returned (.int .i64 (io:Int))/\w'=w):=ab (λw=>by have:=gE op 9 w (by omega) (by omega);rw[hio]at this;exact this);have HP3:Hid (∀w,Cl 11 #[.int .i64 a,.int .i64 3] w λev w'=>ev=.returned (.int .i64 (i3:Int))/\w'=w):=ab (λw=>by have:=gE a 3 w (by omega) (by omega);rw[hi3]at this;exact this);clear hio hi3 hl3 hia hib hla hlb;by_cases hst:st=0
 .subst hst;clear h0 h3;go_upto_region 7 with fail;clear r1 r2;go_upto_region 8 with(go_at_call 11;refine(uh HPO _).mono ?_;rintro e2 w2⟨rfl,hw2⟩;obtain rfl:=hw2.symm)
  clear r0;obtain rfl|rfl|rfl|rfl|rfl|rfl|rfl|rfl|rfl:io=0\/io=1\/io=2\/io=3\/io=4\/io=5\/io=6\/io=7\/io=8:=by omega
  all_goals clear hlo
  .go_wp2;go_ret;exact uh FIN _ (by simp only[ByteArray.size_append,oh,sZ,lC,lN];omega) _ rfl
  .go_wp2;go_ret;exact uh FIN _ (by simp only[ByteArray.size_append,oh,sZ,lC,lN];omega) _ rfl
  .go_wp2;go_ret;exact uh FIN _ (by simp only[ByteArray.size_append,oh,sZ,lC,lN];omega) _ rfl
  .go_wp2;go_ret;exact uh FIN _ (by simp only[ByteArray.size_append,oh,sZ,lC,lN];omega) _ rfl
  .go_wp2;go_ret;exact uh FIN _ (by simp only[ByteArray.size_append,oh,sZ,lC,lN];omega) _ rfl
  .go_wp2;go_ret;exact uh FIN _ (by simp only[ByteArray.size_append,oh,sZ,lC,lN];omega) _ rfl
  .go_wp2_with (go_at_call 20;refine(uh HSF _).mono ?_;rintro e9 w9⟨t9,rfl,ht9,hw9⟩;obtain rfl:=hw9.symm)
   go_ret;exact uh FIN _ (by simp only[ByteArray.size_append,oh,sZ,lC,lN];omega) _ rfl
  .go_wp2;go_ret;exact uh FIN _ (by simp only[ByteArray.size_append,oh,sZ,lC,lN];omega) _ rfl
  go_wp2;go_ret;exact uh FIN _ (by simp only[ByteArray.size_append,oh,sZ,lC,lN];omega) _ rfl
 have hs0:0<st:=by omega
 obtain⟨is,his,hls⟩:=jy b st hs0;have HPS:Hid (∀w,Cl 11 #[.int .i64 b,.int .i64 st] w λev w'=>ev=.returned (.int .i64 (is:Int))/\w'=w):=ab (λw=>by have:=gE b st w (by omega) (by omega);rw[his]at this;exact this);have HIS:Hid (is+1<=10):=ab (by omega);clear h0 h3 hst his hls;by_cases h30:i3=0
 .subst h30;go_upto_region 6 with(go_at_call 11;refine(uh HP3 _).mono ?_;rintro e2 w2⟨rfl,hw2⟩;obtain rfl:=hw2.symm)
  have hi10:=uh HIS;have hw:wrap64 ((is:Int)+1)=(is:Int)+1:=Ms _ (by omega) (by omega);have q0:(0:Int)<=(is:Int):=by omega
  have q1:(is:Int)+1<=10:=by omega
  have q2:(0:Int)<=(is:Int)+1:=by omega
  have HR0:=ab r0;have HR3:=ab r3;clear hs0 r0 r1 r3;go_quiet ((go_at_call 11;exact Calls.quiet_of_same (uh HPS _)));obtain⟨W2,hW2⟩:=aq (w1.drewN nq);rw[<-hW2];have r0:W2.cell? ⟨w.heap.size,0,none⟩=some (.int .i64 op):=by rw[hW2];exact cL (below_drewN _ (bR _ _)) (uh HR0)
  have r3:W2.cell? ⟨w.heap.size,3,none⟩=some (.string s):=by rw[hW2];exact cL (below_drewN _ (bR _ _)) (uh HR3)
  have FIN2:Hid (∀t:BA,t.size<=1000->∀w',w'=W2->(∃u:BA,Ending.returned (.string t)=.returned (.string u)/\u.size<=1000)/\Bw w w'):=ab (λt ht w' hw=>by rw[hw,hW2];exact⟨⟨t,rfl,ht⟩,below_drewN _ (uh HB)⟩);clear FIN hW2 r2;have FIN:=FIN2;clear FIN2;have hcu:=uG is hi10;clear hw q0 q1 q2 hi10;go_upto_region 7 with fail;go_upto_region 8 with(go_at_call 11;refine(uh HPO _).mono ?_;rintro e2 w2⟨rfl,hw2⟩;obtain rfl:=hw2.symm)
  clear r0;obtain rfl|rfl|rfl|rfl|rfl|rfl|rfl|rfl|rfl:io=0\/io=1\/io=2\/io=3\/io=4\/io=5\/io=6\/io=7\/io=8:=by omega
  all_goals clear hlo
  .go_wp2;go_ret;exact uh FIN _ (by simp only[ByteArray.size_append,oh,sZ,lC,lN];omega) _ rfl
  .go_wp2;go_ret;exact uh FIN _ (by simp only[ByteArray.size_append,oh,sZ,lC,lN];omega) _ rfl
  .go_wp2;go_ret;exact uh FIN _ (by simp only[ByteArray.size_append,oh,sZ,lC,lN];omega) _ rfl
  .go_wp2;go_ret;exact uh FIN _ (by simp only[ByteArray.size_append,oh,sZ,lC,lN];omega) _ rfl
  .go_wp2;go_ret;exact uh FIN _ (by simp only[ByteArray.size_append,oh,sZ,lC,lN];omega) _ rfl
  .go_wp2;go_ret;exact uh FIN _ (by simp only[ByteArray.size_append,oh,sZ,lC,lN];omega) _ rfl
  .go_wp2_with (go_at_call 20;refine(uh HSF _).mono ?_;rintro e9 w9⟨t9,rfl,ht9,hw9⟩;obtain rfl:=hw9.symm)
   go_ret;exact uh FIN _ (by simp only[ByteArray.size_append,oh,sZ,lC,lN];omega) _ rfl
  .go_wp2;go_ret;exact uh FIN _ (by simp only[ByteArray.size_append,oh,sZ,lC,lN];omega) _ rfl
  go_wp2;go_ret;exact uh FIN _ (by simp only[ByteArray.size_append,oh,sZ,lC,lN];omega) _ rfl
 have h30':((i3:Int)==0)=false:=by simp;omega
 go_upto_region 7 with(go_at_call 11;refine(uh HP3 _).mono ?_;rintro e2 w2⟨rfl,hw2⟩;obtain rfl:=hw2.symm)
 clear r1 r2 h30' h30 hs0;go_upto_region 8 with(go_at_call 11;refine(uh HPO _).mono ?_;rintro e2 w2⟨rfl,hw2⟩;obtain rfl:=hw2.symm)
 clear r0;obtain rfl|rfl|rfl|rfl|rfl|rfl|rfl|rfl|rfl:io=0\/io=1\/io=2\/io=3\/io=4\/io=5\/io=6\/io=7\/io=8:=by omega
 all_goals clear hlo
 .go_wp2;go_ret;exact uh FIN _ (by simp only[ByteArray.size_append,oh,sZ,lC,lN];omega) _ rfl
 .go_wp2;go_ret;exact uh FIN _ (by simp only[ByteArray.size_append,oh,sZ,lC,lN];omega) _ rfl
 .go_wp2;go_ret;exact uh FIN _ (by simp only[ByteArray.size_append,oh,sZ,lC,lN];omega) _ rfl
 .go_wp2;go_ret;exact uh FIN _ (by simp only[ByteArray.size_append,oh,sZ,lC,lN];omega) _ rfl
 .go_wp2;go_ret;exact uh FIN _ (by simp only[ByteArray.size_append,oh,sZ,lC,lN];omega) _ rfl
 .go_wp2;go_ret;exact uh FIN _ (by simp only[ByteArray.size_append,oh,sZ,lC,lN];omega) _ rfl
 .go_wp2_with (go_at_call 20;refine(uh HSF _).mono ?_;rintro e9 w9⟨t9,rfl,ht9,hw9⟩;obtain rfl:=hw9.symm)
  go_ret;exact uh FIN _ (by simp only[ByteArray.size_append,oh,sZ,lC,lN];omega) _ rfl
 .go_wp2;go_ret;exact uh FIN _ (by simp only[ByteArray.size_append,oh,sZ,lC,lN];omega) _ rfl
 go_wp2;go_ret;exact uh FIN _ (by simp only[ByteArray.size_append,oh,sZ,lC,lN];omega) _ rfl
def R5(w:World)(n:Nat)(sv nv iv:Value)(wr:World):Prop:=∃(i q:Nat) (t:BA),i<=16/\i<=n/\q<=3/\sv=.string t/\nv=.int .i64 (q:Int)/\iv=.int .i64 (i:Int)/\t.size<=100+1100*i/\Bw w wr
theorem yO(ao:OA)(cap n:Nat)(xs:List Tg)(w:World)(hr:TgRow w ao xs)(HN:Hid (n=xs.length))(hd:∀x∈xs,x.d.size<=9223372036854775807): Cl 5 #[.slice ao n cap] w λev w'=>(∃t:BA,ev=.returned (.string t)/\t.size<=100000)/\Bw w w':=by
 have HR:=ab hr;have HD:=ab hd;clear hr hd;go_enter func5,ntmps5;go_upto_region 4 with fail;go_loopw [3,4,5] (λsv nv iv wr=>R5 w n sv nv iv wr) (λ_ _ iv _=>16-(intOf iv).toNat);case atStart=>exact⟨0,0,_,Nat.zero_le _,Nat.zero_le _,Nat.zero_le _,rfl,rfl,rfl,by decide,bR _ _⟩
 case round=>
  obtain⟨i,q,t,h16,hin,hq,rfl,rfl,rfl,ht,hb⟩:=hrel;by_cases h1:i<n
  .by_cases h2:i<16
   .have j1:(i:Int)<16:=by omega
    obtain⟨x,hx⟩:∃x,xs[i]?=some x:=⟨_,gG (by rw[<-uh HN];exact h1)⟩
    have hdx:=uh HD x (mG hx);have HRW:Hid (∀W,Bw w W->∃g o,ao=some ⟨g,o,none⟩/\W.cell? ⟨g,o+i*4,none⟩=some (.int .i64 x.a)/\W.cell? ⟨g,o+i*4+1,none⟩=some (.int .i64 x.b)/\W.cell? ⟨g,o+i*4+2,none⟩=some (.int .i64 x.c)/\W.cell? ⟨g,o+i*4+3,none⟩=some (.string x.d)):=ab (λW hB=>((uh HR).below hB) i x hx);obtain⟨g,o,rfl,c0,c1,c2,c3⟩:=uh HRW wr hb;have n0:=World.new_ne wr ⟨g,o+i*4,none⟩ c0;have HL:=ab (λW=>sm x.a x.b x.c (q:Int) x.d W hdx (by omega) (by omega));have HB:=ab hb;have hz:t.size<=20000:=by omega
    have HT:=ab ht;have HQ:=ab hq;clear hx hdx hb ht hq h16 hin;go_upto_region 8 with(go_at_call 10;refine(uh HL _).mono ?_;rintro e1 w1⟨⟨u,rfl,hu⟩,hb1⟩)
    have hB1:Bw w w1:=(uh HB).trans (hb1.mono (uh HB).size);obtain⟨g',o',hg',c0',c1',c2',c3'⟩:=uh HRW w1 hB1;cases hg';have hsz:(t++u).size<=100+1100*i+1000:=by rw[ByteArray.size_append];have:=uh HT;omega
    have hq:=uh HQ;obtain⟨t1,ht1⟩:=aq (t++u);rw[<-ht1]at hsz⊢;clear c0 c1 c2 c3 n0 HL hb1 hu ht1 hz HT HQ c0' c2' c3';have hz:t1.size<=20000:=by omega
    have HSZ:=ab hsz;have HH1:=ab h1;have HH2:=ab h2;have HB1:=ab hB1;clear hsz hB1;have n0:=World.new_ne w1 ⟨g,o+i*4+1,none⟩ c1';clear n0;by_cases h5:i%6=5
    .have hm:(i:Int).tmod 6=5:=by rw[Int.tmod_eq_emod_of_nonneg (by omega)];omega
     by_cases h3:q<3
     .have j3:(q:Int)<3:=by omega
      have hwq:wrap64 ((q:Int)+1)=(q:Int)+1:=Ms _ (by omega) (by omega);obtain⟨k,hk,hlk⟩:=jy x.b ((q:Int)+1) (by omega);have HPK:Hid (∀w,Cl 11 #[.int .i64 x.b,.int .i64 ((q:Int)+1)] w λev w'=>ev=.returned (.int .i64 (k:Int))/\w'=w):=ab (λw=>by have:=gE x.b ((q:Int)+1) w (by omega) (by omega);rw[hk]at this;exact this);have HK10:Hid (k+1<=10):=ab (by omega);have HQ3:Hid (q<3):=ab h3;have H5:=ab h5;clear hk hlk h3 hq h5;go_upto_region 10 with fail;have hk10:=uh HK10;have hw:wrap64 ((k:Int)+1)=(k:Int)+1:=Ms _ (by omega) (by omega);have q0:(0:Int)<=(k:Int):=by omega
      have q1:(k:Int)+1<=10:=by omega
      have q2:(0:Int)<=(k:Int)+1:=by omega
      have HWQ:=ab hwq;clear hk10 hwq j3 hm hz h2 j1;go_quiet ((go_at_call 11;exact Calls.quiet_of_same (uh HPK _)));clear hw q0 q1 q2;go_upto_region 11 with fail;have hcu:=uG k (uh HK10);obtain⟨du,hdu⟩:∃d:BA,d=(⟨#[48,49,50,51,52,53,54,55,56,57]⟩:BA).extract k (k+1):=⟨_,rfl⟩
      rw[<-hdu]at hcu⊢;clear hdu;have hq3:=uh HQ3;have hcv:=uG (q+1) (by omega);have hw2:wrap64 ((q:Int)+1+1)=(q:Int)+1+1:=Ms _ (by omega) (by omega);have p0:(0:Int)<=(q:Int)+1:=by omega
      have p1:(q:Int)+1+1<=10:=by omega
      have p2:(0:Int)<=(q:Int)+1+1:=by omega
      have hz:t1.size<=20000:=by have:=uh HSZ;have:=uh HH2;omega
      have h2:=uh HH2;clear hq3 h1 c1' HPK HRW;go_wp2;go_roundw;case rel=>exact⟨i+1,q+1,_,by have:=uh HH2;omega,by have:=uh HH1;omega,by have:=uh HQ3;omega,rfl,by go_num,by go_num,by simp only[ByteArray.size_append,oh,sZ,lC,lN];have:=uh HSZ;omega,below_drewN _ (uh HB1)⟩
      case measure=>have:=uh HH2;simp[intOf];omega
     have hq3:q=3:=by omega
     subst hq3;go_wp2;go_roundw;case rel=>exact⟨i+1,3,t1,by omega,by omega,by omega,rfl,rfl,by go_num,by have:=uh HSZ;omega,uh HB1⟩
     case measure=>simp[intOf];omega
    have hm:((i:Int).tmod 6==5)=false:=by rw[Int.tmod_eq_emod_of_nonneg (by omega)];simp;omega
    go_wp2;go_roundw;case rel=>exact⟨i+1,q,t1,by omega,by omega,by omega,rfl,rfl,by go_num,by have:=uh HSZ;omega,uh HB1⟩
    case measure=>simp[intOf];omega
   have hi:i=16:=by omega
   subst hi;go_wp2;go_ret;exact⟨⟨t,rfl,by omega⟩,hb⟩
  have hi:i=n:=by omega
  go_wp2;go_ret;exact⟨⟨t,rfl,by omega⟩,hb⟩
end Go.Proofs.YtjhobnjdfhkohaaGreatDoor.T
