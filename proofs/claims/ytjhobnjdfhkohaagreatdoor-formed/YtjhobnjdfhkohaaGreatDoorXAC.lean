import Derived.Test.YtjhobnjdfhkohaaGreatDoorXAB
import Derived.Deep.DrawnRows
set_option linter.all false
set_option maxHeartbeats 4000000
set_option maxRecDepth 10000
namespace Go.Proofs.YtjhobnjdfhkohaaGreatDoor.T
open Go.Proofs.Tryz
open Go.RowKit
structure Pk(w:World):Prop where
 flds:Flds w
 bru:w.cell? ⟨21,7,none⟩=some (.int .u8 3)
 max:∃m:Int,w.cell? ⟨1,0,none⟩=some (.int .i64 m)
theorem Pk.below{w w':World}(h:Pk w)(hb:Bw w w'):Pk w':=by obtain⟨m,hm⟩:=h.max;exact⟨h.flds.below hb,cL hb h.bru,m,cL hb hm⟩
theorem Pk.grown{w w':World}{b:Nat}(h:Pk w)(hg:w.grownBy w' (some b))(hb:21<b):Pk w':=by obtain⟨m,hm⟩:=h.max;exact⟨h.flds.grown hg (by omega),cj hg h.bru (by show 21≠b;omega),m,cj hg hm (by show 1≠b;omega)⟩
theorem Pk.f{w:World}(h:Pk w){b o n:Nat}(ht:(b,o,n)∈fieldTab):w.cell? ⟨b,0,none⟩=some (.int .i64 (o:Nat))/\w.cell? ⟨b,1,none⟩=some (.int .i64 (n:Nat)):=h.flds.at ht
theorem rX{s:BA}{X:LU}{n:Nat}(hX:X.length=n)(hs:s.size<=n):(s.data.toList++X.drop s.size).length=n:=by rw[lA,List.length_drop,<-zE];omega
theorem wX(h:Hd)(ok:da h)(l:LU)(b:Nat)(w:World)(hk:fe w b (dD h))(hP:Pk w)(hb:21<b)(hl:l.length<=1048576)(hp:l.length<=100\/∃i,cT l (l.length-101)=some i)(hr:(aR l).2.length<=100)(ha:(aR l).1.length<=155): Cl 260 #[.pointer (some ⟨b,0,none⟩),.string (bt l)] w λev w'=>ev=.returned (.tuple #[])/\Hid (fe w' b (dD { h with ah:=(aR l).1++h.ah.drop (aR l).1.length,nm:=(aR l).2++h.nm.drop (aR l).2.length }))/\w.grownBy w' (some b):=by
 obtain⟨mx,hm⟩:=hP.max;have hQ:=Ac l mx w hl hP.flds hm hp;have HK:=ab hk;have HP:=ab hP;clear hk hP hm hp;go_enter func260,ntmps260;go_upto_region 1 with(go_at_call 275;refine hQ.mono ?_;clear hQ;rintro ev w1⟨rfl,hb1⟩)
 obtain⟨sa,hsa⟩:=aq (bt (aR l).1);obtain⟨sr,hsr⟩:=aq (bt (aR l).2);rw[<-hsa,<-hsr];have haz:sa.size=(aR l).1.length:=by rw[hsa,bF]
 have hrz:sr.size=(aR l).2.length:=by rw[hsr,bF]
 have hP1:=(uh HP).below hb1;have f0:w1.cell? ⟨5,0,none⟩=some (.int .i64 345):=(hP1.f (b:=5) (o:=345) (n:=155) (by decide)).1;have f1:w1.cell? ⟨5,1,none⟩=some (.int .i64 155):=(hP1.f (b:=5) (o:=345) (n:=155) (by decide)).2;have hT:=Lt h ok sa b w1 ((uh HK).below hb1) (by omega);have HP1:=ab hP1;have HSA:=ab hsa;have HSR:=ab hsr;have HAZ:=ab haz;have HRZ:=ab hrz;have hr2:sr.size<=100:=by omega
 clear hP1 hsa hsr haz hrz;go_upto_region 2 with(go_at_call 264;refine hT.mono ?_;clear hT;rintro ev w2⟨rfl,HB2,hg2⟩)
 have hP2:=(uh HP1).grown hg2 hb;have g0:w2.cell? ⟨6,0,none⟩=some (.int .i64 0):=(hP2.f (b:=6) (o:=0) (n:=100) (by decide)).1;have g1:w2.cell? ⟨6,1,none⟩=some (.int .i64 100):=(hP2.f (b:=6) (o:=0) (n:=100) (by decide)).2;have ok2:da { h with ah:=sa.data.toList++h.ah.drop sa.size }:={ ok with ah:=rX ok.ah (by have:=uh HAZ;omega) }
 have hT2:=Lu _ ok2 sr b w2 (uh HB2) hr2;clear hP2 f0 f1;go_wp2_with (go_at_call 264;refine hT2.mono ?_;clear hT2;rintro ev w3⟨rfl,HB3,hg3⟩)
 go_end0;refine⟨rfl,ab ?_,bN (dM hb1) (bN hg2 hg3)⟩;have h9:=uh HB3;rw[show sa.data.toList=(aR l).1 by rw[uh HSA,aK],show sr.data.toList=(aR l).2 by rw[uh HSR,aK],uh HAZ,uh HRZ]at h9;exact h9
def iT(h:Hd)(c:aj):Hd:=
 if c.kind=1 then { h with kd:=[53] }
 else if c.kind=3 then { h with lk:=c.data.data.toList++h.lk.drop c.data.size,kd:=[50] }
 else if c.kind=2 then { h with sz:=bq c.data.size 11,kd:=[48] }
 else { h with kd:=[48] }
theorem uB{h:Hd}(ok:da h)(x:UInt8):(⟨#[x]⟩:BA).data.toList++h.kd.drop (⟨#[x]⟩:BA).size=[x]:=by rw[List.drop_of_length_le (by rw[ok.kd];exact nR _)];rfl
theorem yo(h:Hd)(ok:da h)(c:aj)(b:Nat)(w:World)(hk:fe w b (dD h))(hP:Pk w)(hb:21<b)(hkd:c.kind=1\/c.kind=2\/c.kind=3\/c.kind=4\/c.kind=5)(hl:c.kind=3->c.data.size<=100)(hf:c.kind=2->c.data.size<=4096): Cl 263 #[.pointer (some ⟨b,0,none⟩),.agg #[.string c.path,.int .i64 c.kind,.int .i64 c.mode,.string c.data]] w λev w'=>ev=.returned (.tuple #[])/\Hid (fe w' b (dD (iT h c)))/\w.grownBy w' (some b):=by
 have hbl:b<w.heap.size:=(gA hk.1)
 obtain⟨W0,hW0⟩:=aq (w.alloc (.cells #[.string c.path,.int .i64 c.kind,.int .i64 c.mode,.string c.data] 246));have hB0:=dw hW0;have q1:W0.cell? ⟨w.heap.size,1,none⟩=some (.int .i64 c.kind):=by rw[hW0];exact cq 1 (hN _ _)
 have q3:W0.cell? ⟨w.heap.size,3,none⟩=some (.string c.data):=by rw[hW0];exact cq 3 (hN _ _)
 have hk0:=hk.below hB0;have hP0:=hP.below hB0;have f0:W0.cell? ⟨8,0,none⟩=some (.int .i64 156):=(hP0.f (b:=8) (o:=156) (n:=1) (by decide)).1;have f1:W0.cell? ⟨8,1,none⟩=some (.int .i64 1):=(hP0.f (b:=8) (o:=156) (n:=1) (by decide)).2;have HK0:=ab hk0;have HP0:=ab hP0;have hne:w.heap.size≠b:=by omega
 clear hk hP hk0 hP0;go_enter func263,ntmps263;go_upto_region 1 with fail;rw[<-hW0];clear hW0;by_cases h1:c.kind=1
 .have HF:Hid (iT h c={ h with kd:=[53] }):=ab (by rw[iT,if_pos h1]);have hT:=vF h ok ⟨#[53]⟩ b W0 (uh HK0) (by decide);rw[uB ok]at hT;rw[h1]at q1;clear h1 hkd hl hf;go_wp2_with (go_at_call 264;refine hT.mono ?_;clear hT;rintro ev w2⟨rfl,HB2,hg2⟩)
  go_end0;exact⟨rfl,ab (by rw[uh HF];exact uh HB2),bN (dM hB0) hg2⟩
 have h1':(c.kind==1)=false:=by simp[h1]
 by_cases h3:c.kind=3
 .have HF:Hid (iT h c={ h with lk:=c.data.data.toList++h.lk.drop c.data.size,kd:=[50] }):=ab (by rw[iT,if_neg h1,if_pos h3]);have hd:=hl h3;have g0:W0.cell? ⟨9,0,none⟩=some (.int .i64 157):=((uh HP0).f (b:=9) (o:=157) (n:=100) (by decide)).1;have g1:W0.cell? ⟨9,1,none⟩=some (.int .i64 100):=((uh HP0).f (b:=9) (o:=157) (n:=100) (by decide)).2;have hT:=Me h ok c.data b W0 (uh HK0) hd;have ok2:da { h with lk:=c.data.data.toList++h.lk.drop c.data.size }:={ ok with lk:=rX ok.lk hd }
  have hT2:=λw2 hk2=>vF _ ok2 ⟨#[50]⟩ b w2 hk2 (by decide);rw[h3]at q1;clear h1 h3 h1' hkd hl hf;go_wp2_with (first|(go_at_call_of 264 (Value.string c.data);refine hT.mono ?_;clear hT;rintro ev w2⟨rfl,HB2,hg2⟩;have f0:=cj hg2 f0 (by show 8≠b;omega);have f1:=cj hg2 f1 (by show 8≠b;omega))|(go_at_call 264;refine(hT2 w2 (uh HB2)).mono ?_;rintro ev w3⟨rfl,HB3,hg3⟩))
  go_end0;refine⟨rfl,ab ?_,bN (dM hB0) (bN hg2 hg3)⟩;rw[uh HF];have h9:=uh HB3;rw[uB ok2]at h9;exact h9
 have h3':(c.kind==3)=false:=by simp[h3]
 by_cases h2:c.kind=2
 .have HF:Hid (iT h c={ h with sz:=bq c.data.size 11,kd:=[48] }):=ab (by rw[iT,if_neg h1,if_neg h3,if_pos h2]);have hd:=hf h2;have g0:W0.cell? ⟨2,0,none⟩=some (.int .i64 124):=((uh HP0).f (b:=2) (o:=124) (n:=12) (by decide)).1;have g1:W0.cell? ⟨2,1,none⟩=some (.int .i64 12):=((uh HP0).f (b:=2) (o:=124) (n:=12) (by decide)).2;have hT:=Ex h ok c.data.size b W0 (uh HK0) (by omega) (uh HP0).bru;have ok2:da { h with sz:=bq c.data.size 11 }:={ ok with sz:=bg (by have:=aW 4 c.data.size (by simp;omega);omega) }
  have hT2:=λw2 hk2=>vF _ ok2 ⟨#[48]⟩ b w2 hk2 (by decide);rw[h2]at q1;clear h1 h3 h1' h3' h2 hkd hl hf;go_wp2_with (first|(go_at_call 262;refine hT.mono ?_;clear hT;rintro ev w2⟨rfl,HB2,hg2⟩;have f0:=cj hg2 f0 (by show 8≠b;omega);have f1:=cj hg2 f1 (by show 8≠b;omega))|(go_at_call 264;refine(hT2 w2 (uh HB2)).mono ?_;rintro ev w3⟨rfl,HB3,hg3⟩))
  go_end0;refine⟨rfl,ab ?_,bN (dM hB0) (bN hg2 hg3)⟩;rw[uh HF];have h9:=uh HB3;rw[uB ok2]at h9;exact h9
 have HF:Hid (iT h c={ h with kd:=[48] }):=ab (by rw[iT,if_neg h1,if_neg h3,if_neg h2]);have hT:=vF h ok ⟨#[48]⟩ b W0 (uh HK0) (by decide);rw[uB ok]at hT;have h45:c.kind=4\/c.kind=5:=by omega
 rcases h45 with h4|h4;all_goals
  rw[h4]at q1;clear h1 h3 h2 h1' h3' hkd hl hf h4;go_wp2_with (go_at_call 264;refine hT.mono ?_;clear hT;rintro ev w2⟨rfl,HB2,hg2⟩)
  go_end0;exact⟨rfl,ab (by rw[uh HF];exact uh HB2),bN (dM hB0) hg2⟩
def rp(h:Hd):Hd:={ h with ck:=List.replicate 8 32 }
def Ad(h:Hd):Hd:={ h with ck:=bq (gJ (dD (rp h))) 6++[32] }
theorem sA{w:World}{b:Nat}{xs:LU}(h:fe w b xs){k:Nat}(hk:k<xs.length):w.cell? ⟨b,k,none⟩=some (.int .u8 (xs[k].toNat:Int)):=by refine(cq k h.1).trans ?_;rw[List.getElem?_toArray,Lib.byteCells,List.getElem?_map,gG hk];rfl
theorem xq(h:Hd)(x:LU)(y:UInt8):dD { h with ck:=x++[y] }=(h.nm++h.md++h.us++h.gr++h.sz++h.tm)++x++([y]++(h.kd++h.lk++h.mg++h.nn++h.d1++h.d2++h.ah++h.en)):=by simp[dD,aA]
theorem uY(h:Hd)(ok:da h)(b:Nat)(w:World)(hk:fe w b (dD h))(hP:Pk w)(hb:21<b): Cl 265 #[.pointer (some ⟨b,0,none⟩)] w λev w'=>ev=.returned (.tuple #[])/\Hid (fe w' b (dD (Ad h)))/\w.grownBy w' (some b):=by
 have f0:=(hP.f (b:=18) (o:=148) (n:=8) (by decide)).1;have f1:=(hP.f (b:=18) (o:=148) (n:=8) (by decide)).2;have HK:=ab hk;have HP:=ab hP;obtain⟨bl,hbl⟩:=aq (bt (List.replicate 8 32));have hblz:bl.size=8:=by rw[hbl,bF];rfl
 have hRp:∀w0:World,Cl 235 #[.string ⟨#[32]⟩,.int .i64 8] w0 λev w'=>ev=.returned (.string bl)/\Bw w0 w':=λw0=>by rw[hbl];exact mJ 32 8 w0 (by omega)
 have HRp:=ab hRp;have HBL:=ab hbl;clear hk hP hbl hRp;go_enter func265,ntmps265;go_upto_region 0 with fail;go_region_held3 (λw'=>w'.cell? ⟨18,0,none⟩=some (.int .i64 148)/\w'.cell? ⟨18,1,none⟩=some (.int .i64 8)) (first|(with_reducible exact⟨f0,f1⟩)|(with_reducible exact⟨p0,p1⟩)|(with_reducible exact⟨r0,r1⟩)|go_keep) (first|(go_at_call 235;refine(uh HRp _).mono ?_;rintro ev w1⟨rfl,hb1⟩;have p0:=cL (am hb1) f0;have p1:=cL (am hb1) f1)|(go_at_call 264;refine(Mb h ok bl b w1 ((uh HK).below (am hb1)) (by omega)).mono ?_;rintro ev w2⟨rfl,HB2,hg2⟩;have r0:=cj hg2 p0 (by show 18≠b;omega);have r1:=cj hg2 p1 (by show 18≠b;omega)));have HB3:Hid (fe w2 b (dD (rp h))):=ab (by have h9:=uh HB2;rw[hblz,List.drop_of_length_le (by rw[ok.ck];exact nR _),List.append_nil,uh HBL,aK]at h9;exact h9);obtain⟨xs,hxs⟩:=aq (dD (rp h));have HXS:=ab hxs;rw[<-hxs]at HB3;have hxl:=(uh HB3).2;clear HB2 hxs;go_wp2_with fail;go_loop [2,15] (λt i=>∃k:Nat,k<=512/\i=.int .i64 k/\t=.int .i64 ((gJ (xs.take k):Nat):Int)) (λ_ i=>512-(intOf i).toNat);case atStart=>exact⟨0,by omega,rfl,by simp[gJ]⟩
 case round=>
  obtain⟨k,hk,rfl,rfl⟩:=hrel;have hsl:gJ (xs.take k)<=130560:=by have:=uQ (xs.take k);rw[List.length_take]at this;omega
  obtain⟨t0,ht0⟩:=aq (gJ (xs.take k));have ht1:t0<=130560:=by omega
  by_cases hlt:k<512
  .have hkl:k<xs.length:=by omega
   have hc:=sA (uh HB3) hkl;obtain⟨y,hy,hy2⟩:∃y:Nat,y=xs[k].toNat/\y<256:=⟨_,rfl,xs[k].toNat_lt⟩
   rw[<-hy]at hc;have HSt:Hid (gJ (xs.take (k+1))=t0+y):=ab (by rw[DS hkl,ht0,hy]);have k0:(0:Int)<=(k:Int):=by omega
   have k1:(k:Int)<512:=by omega
   rw[<-ht0];clear ht0 hsl hy hkl hxl;go_wp2;go_round;case rel=>exact⟨k+1,by omega,by go_num,by rw[uh HSt];go_num⟩
   case measure=>simp[intOf];omega
  have HTt:Hid (t0=gJ xs):=ab (by rw[ht0,List.take_of_length_le (by omega)]);rw[<-ht0];have hcs:(cW t0).length+1<=7:=by have:=aW 5 t0 (by simp;omega);omega
  have hN:=b7 b 148 7 t0 (h.nm++h.md++h.us++h.gr++h.sz++h.tm) (List.replicate 7 32) ([32]++(h.kd++h.lk++h.mg++h.nn++h.d1++h.d2++h.ah++h.en)) w2 (by rw[<-xq];have h9:=uh HB3;rw[uh HXS]at h9;exact h9) (by simp[ok.nm,ok.md,ok.us,ok.gr,ok.sz,ok.tm]) (by simp) (by omega) (by omega) hcs (cj hg2 (cL (am hb1) (uh HP).bru) (by show 21≠b;omega));rw[<-xq]at hN;have k9:¬(k:Int)<512:=by omega
  clear ht0 hsl hxl hcs hk hlt;go_wp2_with (go_at_call 262;refine hN.mono ?_;clear hN;rintro ev w3⟨rfl,HB4,hg3⟩)
  go_end0;refine⟨rfl,ab ?_,bN (dM (am hb1)) (bN hg2 hg3)⟩;have h9:=uh HB4;rw[uh HTt,uh HXS]at h9;exact h9
structure C0(c:aj)(m:Nat):Prop where
 mode:c.mode=(m:Int)
 m512:m<512
 path:c.path.size<=1048576
 data:c.data.size<=1048576
 gone:c.kind=4->c.path.data.toList≠[]
 name:(aD c).length<=1048576
 rest:(aR (aD c)).2.length<=100
 ahead:(aR (aD c)).1.length<=155
 link:(eY c).length<=100
 file:(cu c).length<=4096
theorem mV{c:aj}{m:Nat}(h:C0 c m):(ig c).length=148:=by
 have h0:(cW 0).length<=7:=by rw[cW,if_pos (by omega)];simp
 have h1:(cW c.mode.toNat).length<=7:=by
  have:=aW 2 c.mode.toNat (by have:=h.mode;have:=h.m512;simp;omega)
  omega
 have h2:(cW (cu c).length).length<=11:=by have:=aW 4 (cu c).length (by have:=h.file;simp;omega);omega
 simp only[ig,lA,gV h.rest,bg h1,bg h0,bg h2,bg (v:=0) (n:=11) (by omega)]
theorem oe{c:aj}{m:Nat}(h:C0 c m):(iD c).length=356:=by
 have h0:(cW 0).length<=7:=by rw[cW,if_pos (by omega)];simp
 simp only[iD,lA,gV h.link,gV h.ahead,bg h0,List.length_replicate,lC,lN,oO]
theorem qr{c:aj}{m:Nat}(h:C0 c m):fH c<262144:=by have h1:=uQ (ig c);have h2:=uQ (iD c);rw[mV h]at h1;rw[oe h]at h2;rw[fH];omega
attribute [local go_sem] cJ dP
end Go.Proofs.YtjhobnjdfhkohaaGreatDoor.T
namespace Go.Proofs.YtjhobnjdfhkohaaGreatDoor.T
open Go.Proofs.Tryz
open Go.RowKit
theorem jz{g:Nat}{t:TypeId}:∀(vs:List Value) (o:Nat) (old:Array Value) (w:World),w.heap[g]?=some (.cells old t (0,0))->o+vs.length<=old.size->(w.setCells g o vs).heap[g]?=some (.cells (old.toList.take o++vs++old.toList.drop (o+vs.length)).toArray t (0,0))
 |[],o,old,w,h,_=>by simp[World.setCells,h]
 |v::r,o,old,w,h,hl=>by
  have hl':o+1+r.length<=old.size:=by simp at hl;omega
  rw[World.setCells,jz r (o+1) _ _ (hS w g o old t v h) (by simpa using hl')];have ho:o<old.toList.length:=by simp;omega
  congr 3;rw[Array.toList_setIfInBounds,List.take_set,List.drop_set_of_lt (by omega),List.take_succ_eq_append_getElem ho];have e:(old.toList.take o).length=o:=by rw[List.length_take,Nat.min_eq_left (by omega)]
  rw[List.set_append_right _ _ (by omega),e,Nat.sub_self];simp[Nat.add_assoc,Nat.add_comm 1]
theorem iO{g:Nat}{t:TypeId}{cs old:Array Value}{w:World}(h:w.heap[g]?=some (.cells old t (0,0)))(hs:cs.size=old.size):(w.setCells g 0 cs.toList).heap[g]?=some (.cells cs t (0,0)):=by rw[jz cs.toList 0 old w h (by simp;omega)];rw[List.drop_of_length_le (by simp;omega)];simp
theorem ir{B:Nat}{a:World}{g:Nat}(hg:B<=g):∀(vs:List Value) (o:Nat) (w:World),Below B a w->Below B a (w.setCells g o vs)
 |[],_,_,h=>h
 |v::r,o,w,h=>ir hg r (o+1) _ (h.setCell (by exact hg) v)
theorem tY{w:World}{g:Nat}{t:TypeId}{old:Array Value}(h:w.heap[g]?=some (.cells old t (0,0)))(n:Nat)(hn:n<=old.size):w.there g 0 n:=λj hj=>by refine⟨?_,frozen_of_row w g _ _ _ h⟩;rw[cell_of_row w g _ _ t _ h,Nat.zero_add,Array.getElem?_eq_getElem (by omega)];rfl
theorem Ku(a b c d:Nat):IntKind.u32.wrap (IntKind.u32.wrap (IntKind.u32.wrap ((a:Int)+(b:Int))+(c:Int))+(d:Int))=(((a+b+c+d)%4294967296:Nat):Int):=by rw[IntKind.wrap_u32',IntKind.wrap_u32',IntKind.wrap_u32'];omega
attribute [local go_sem] cJ dP
attribute [local go_sem] Go.wp_at_zero Go.wp_at_succ
end Go.Proofs.YtjhobnjdfhkohaaGreatDoor.T
namespace Go.Proofs.YtjhobnjdfhkohaaGreatDoor.T
open Go.Proofs.Tryz
open Go.RowKit
def eO(c:aj):LU:=ig c++bq (fH c) 6++[32]++iD c
theorem tX{c:aj}{m:Nat}(h:C0 c m):(eO c).length=512:=by have h1:=aW 5 (fH c) (by have:=qr h;simp;omega);simp only[eO,lA,mV h,oe h,bg h1,lC,lN]
theorem pc{s:LU}{n:Nat}:s++(List.replicate n (0:UInt8)).drop s.length=eC s n:=by rw[List.drop_replicate,eC]
def ee(c:aj):Hd:=⟨eC (aR (aD c)).2 100,bq c.mode.toNat 7,bq 0 7,bq 0 7,bq (cu c).length 11,bq 0 11,List.replicate 8 0,[gu c],eC (eY c) 100,oO,List.replicate 64 0,bq 0 7,bq 0 7,eC (aR (aD c)).1 155,List.replicate 12 0⟩
theorem Fd(h:Hd)(x:LU):dD { h with ck:=x }=(h.nm++h.md++h.us++h.gr++h.sz++h.tm)++x++(h.kd++h.lk++h.mg++h.nn++h.d1++h.d2++h.ah++h.en):=by simp[dD,aA]
theorem Cv(c:aj):dD (Ad (ee c))=eO c:=by
 have hs:gJ (dD (rp (ee c)))=fH c:=by
  rw[rp,Fd,nN,nN,fH];have h8:gJ (List.replicate 8 (32:UInt8))=256:=by decide
  rw[h8];have e1:(ee c).nm++(ee c).md++(ee c).us++(ee c).gr++(ee c).sz++(ee c).tm=ig c:=rfl;have e2:(ee c).kd++(ee c).lk++(ee c).mg++(ee c).nn++(ee c).d1++(ee c).d2++(ee c).ah++(ee c).en=iD c:=rfl;rw[e1,e2];omega
 rw[Ad,hs,Fd,eO];have e1:(ee c).nm++(ee c).md++(ee c).us++(ee c).gr++(ee c).sz++(ee c).tm=ig c:=rfl;have e2:(ee c).kd++(ee c).lk++(ee c).mg++(ee c).nn++(ee c).d1++(ee c).d2++(ee c).ah++(ee c).en=iD c:=rfl;rw[e1,e2];simp[aA]
theorem pY:Tryz.zeroCells284=(Lib.byteCells (List.replicate 512 0)).toArray:=by kernel_rfl
theorem Bo:(prog.info? 284).map (·.size)=some 512:=by kernel_rfl
theorem tQ(l:LU):(Lib.byteCells l).toArray.all (·.oneCell')=true:=by simp[Lib.byteCells,Value.oneCell']
theorem kY{w w':World}{b k:Nat}{o:Obj}(hg:w.grownBy w' (some b))(h:w.heap[k]?=some o)(hne:k≠b):w'.heap[k]?=some o:= (hg.block k (gA h) (λe=>hne (Option.some.inj e))).trans h
structure NB(c:aj)(w:World)(b:Nat)(W:World)(h:Hd):Prop where
 at':b=w.heap.size+1+1
 b20:21<b
 ok:da h
 blk:fe W b (dD h)
 q:W.heap[w.heap.size]?=some (.cells #[.string c.path,.int .i64 c.kind,.int .i64 c.mode,.string c.data] 246 (0,0))
 r:W.heap[w.heap.size+1]?=some (.cells Tryz.zeroCells284 284 (0,0))
 pk:Pk W
 below:Bw w W
theorem NB.grown{c:aj}{w W V:World}{b:Nat}{h n:Hd}(H:NB c w b W h)(hg:W.grownBy V (some b))(hk:fe V b (dD n))(ok:da n):NB c w b V n:=by
 have hb:=H.at';exact⟨hb,H.b20,ok,hk,kY hg H.q (by omega),kY hg H.r (by omega),H.pk.grown hg H.b20,
  H.below.grown hg H.below.size (λq hq=>by cases hq;omega)⟩
theorem NB.under{c:aj}{w W V:World}{b:Nat}{h:Hd}(H:NB c w b W h)(hb:Bw W V):NB c w b V h:= ⟨H.at',H.b20,H.ok,H.blk.below hb,(hb.block _ (eA.1 H.q).1).trans H.q,(hb.block _ (eA.1 H.r).1).trans H.r,H.pk.below hb,H.below.trans (hb.mono H.below.size)⟩
theorem NB.c0{c:aj}{w W:World}{b:Nat}{h:Hd}(H:NB c w b W h):W.cell? ⟨w.heap.size,0,none⟩=some (.string c.path):=cq 0 H.q
theorem NB.c1{c:aj}{w W:World}{b:Nat}{h:Hd}(H:NB c w b W h):W.cell? ⟨w.heap.size,1,none⟩=some (.int .i64 c.kind):=cq 1 H.q
theorem NB.c2{c:aj}{w W:World}{b:Nat}{h:Hd}(H:NB c w b W h):W.cell? ⟨w.heap.size,2,none⟩=some (.int .i64 c.mode):=cq 2 H.q
theorem NB.c3{c:aj}{w W:World}{b:Nat}{h:Hd}(H:NB c w b W h):W.cell? ⟨w.heap.size,3,none⟩=some (.string c.data):=cq 3 H.q
def kX(c:aj):Hd:={ hd0 with ah:=(aR (aD c)).1++hd0.ah.drop (aR (aD c)).1.length,nm:=(aR (aD c)).2++hd0.nm.drop (aR (aD c)).2.length }
theorem Hn{c:aj}{m:Nat}(h:C0 c m):da (kX c):= { qO with
 nm:=(by show (_++_:LU).length=100;have:=h.rest;rw[lA,List.length_drop,qO.nm];omega),
 ah:=(by show (_++_:LU).length=155;have:=h.ahead;rw[lA,List.length_drop,qO.ah];omega) }
theorem BO{c:aj}{m:Nat}(h:C0 c m)(hk:c.kind=3):c.data.size<=100:=by have:=h.link;rw[eY,if_pos hk,<-zE]at this;exact this
theorem Bj{c:aj}{m:Nat}(h:C0 c m)(hk:c.kind=2):c.data.size<=4096:=by have:=h.file;rw[cu,if_pos hk,<-zE]at this;exact this
theorem Fj{c:aj}{m:Nat}{h:Hd}(hc:C0 c m)(ok:da h):da (iT h c):=by
 unfold iT;split
 .exact { ok with kd:=rfl }
 split
 .rename_i hk;have:=BO hc hk;exact { ok with kd:=rfl,lk:=(by show (_++_:LU).length=100;rw[lA,List.length_drop,ok.lk,<-zE];omega) }
 split
 .rename_i hk;have:=Bj hc hk;exact { ok with kd:=rfl,sz:=(by show (bq c.data.size 11).length=12;exact bg (by have:=aW 5 c.data.size (by simp;omega);omega)) }
 exact { ok with kd:=rfl }
def xz(c:aj)(m:Nat):Hd:={ { { { { kX c with md:=bq m 7 } with us:=bq 0 7 } with gr:=bq 0 7 } with sz:=bq 0 11 } with tm:=bq 0 11 }
def mv:BA:=⟨#[117,115,116,97,114,0,48,48]⟩
def xQ(h:Hd):Hd:={ { { h with mg:=mv.data.toList++h.mg.drop mv.size } with d1:=bq 0 7 } with d2:=bq 0 7 }
theorem yN{c:aj}{m:Nat}(h:C0 c m):xQ (iT (xz c m) c)=ee c:=by
 have hm:c.mode.toNat=m:=by rw[h.mode];rfl
 have e1:(aR (aD c)).1++(List.replicate 155 (0:UInt8)).drop (aR (aD c)).1.length=eC (aR (aD c)).1 155:=pc;have e2:(aR (aD c)).2++(List.replicate 100 (0:UInt8)).drop (aR (aD c)).2.length=eC (aR (aD c)).2 100:=pc;have e3:c.data.data.toList++(List.replicate 100 (0:UInt8)).drop c.data.size=eC c.data.data.toList 100:=by rw[zE];exact pc
 have e4:mv.data.toList++(List.replicate 8 (0:UInt8)).drop mv.size=oO:=by decide
 have e5:eC [] 100=List.replicate 100 (0:UInt8):=rfl;unfold iT ee gu eY cu;rw[hm];by_cases k1:c.kind=1
 .have k2:c.kind≠2:=by omega
  have k3:c.kind≠3:=by omega
  simp only[if_pos k1,if_neg k2,if_neg k3,xQ,xz,kX,hd0,e1,e2,e4,e5,lN]
 by_cases k3:c.kind=3
 .have k2:c.kind≠2:=by omega
  simp only[if_neg k1,if_pos k3,if_neg k2,xQ,xz,kX,hd0,e1,e2,e3,e4,lN]
 by_cases k2:c.kind=2
 .simp only[if_neg k1,if_neg k3,if_pos k2,xQ,xz,kX,hd0,e1,e2,e4,e5];rw[zE]
 simp only[if_neg k1,if_neg k3,if_neg k2,xQ,xz,kX,hd0,e1,e2,e4,e5,lN]
theorem uJ(c:aj)(m:Nat)(w:World)(HPk:Hid (C0 c m))(hP:Pk w)(hkd:c.kind=1\/c.kind=2\/c.kind=3\/c.kind=4\/c.kind=5)(hp:(aD c).length<=100\/∃i,cT (aD c) ((aD c).length-101)=some i): Cl 241 #[.agg #[.string c.path,.int .i64 c.kind,.int .i64 c.mode,.string c.data]] w λev w'=>ev=.returned (.agg (Lib.byteCells (eO c)).toArray)/\Bw w w':=by
 have hw20:21<w.heap.size:=World.block_lt_of_cell? _ _ hP.bru;obtain⟨W0,hW0⟩:=aq (((w.alloc (.cells #[.string c.path,.int .i64 c.kind,.int .i64 c.mode,.string c.data] 246)).alloc (.cells Tryz.zeroCells284 284)).alloc (.cells Tryz.zeroCells284 284));obtain⟨b,hb⟩:=aq (w.heap.size+1+1);have H0:Hid (NB c w b W0 hd0):=by
  have hB0:Bw w W0:=by rw[hW0];exact((eD).alloc (by simp) _).alloc (by simp;omega) _
  refine ab ⟨hb,by omega,qO,?_,?_,?_,hP.below hB0,hB0⟩
  .rw[K1,hb];refine⟨?_,by simp⟩;rw[<-pY,hW0];have:=hN ((w.alloc (.cells #[.string c.path,.int .i64 c.kind,.int .i64 c.mode,.string c.data] 246)).alloc (.cells Tryz.zeroCells284 284)) (.cells Tryz.zeroCells284 284);rw[World.size_alloc,World.size_alloc]at this;exact this
  .rw[hW0];exact(Below.heap_alloc _ _ _ (by simp;omega)).trans ((Below.heap_alloc _ _ _ (by simp)).trans (hN _ _))
  rw[hW0];refine(Below.heap_alloc _ _ _ (by simp)).trans ?_;have:=hN (w.alloc (.cells #[.string c.path,.int .i64 c.kind,.int .i64 c.mode,.string c.data] 246)) (.cells Tryz.zeroCells284 284);rw[World.size_alloc]at this;exact this
 have hNm:=AL c W0 (uh HPk).path;clear hP;go_enter func241,ntmps241;go_upto_region 2 with fail;rw[<-hW0,<-hb];clear hW0 hb hw20;have q0:=(uh H0).c0;have q1:=(uh H0).c1;have q2:=(uh H0).c2;have q3:=(uh H0).c3;have hm5:=(uh HPk).m512;have HSn:=ab (λw1 hk1 hP1=>wX hd0 qO (aD c) b w1 hk1 hP1 (uh H0).b20 (uh HPk).name hp (uh HPk).rest (uh HPk).ahead);clear hp;go_upto_region 3 with(first|(go_at_call 261;refine hNm.mono ?_;clear hNm;rintro ev w1⟨rfl,hb1⟩)|(go_at_call 260;refine(uh HSn w1 ((uh H0).under hb1).blk ((uh H0).under hb1).pk).mono ?_;rintro ev W2⟨rfl,HK,hg⟩))
 have H2:Hid (NB c w b W2 (kX c)):=ab (((uh H0).under hb1).grown hg (uh HK) (Hn (uh HPk)));obtain⟨h2,e2⟩:∃x,x=kX c:=⟨_,rfl⟩
 rw[<-e2]at H2;have E2:=ab e2;clear hg hb1 q0 q1 q2 q3 HSn H0 HK e2;have f0:W2.cell? ⟨7,0,none⟩=some (.int .i64 100):=((uh H2).pk.f (b:=7) (o:=100) (n:=8) (by decide)).1;have f1:W2.cell? ⟨7,1,none⟩=some (.int .i64 8):=((uh H2).pk.f (b:=7) (o:=100) (n:=8) (by decide)).2;have q2:W2.cell? ⟨w.heap.size,2,none⟩=some (.int .i64 (m:Int)):=by rw[<-(uh HPk).mode];exact(uh H2).c2
 have hT:=KR h2 (uh H2).ok m b W2 (uh H2).blk (by omega) (uh H2).pk.bru;go_upto_region 4 with(go_at_call 262;refine hT.mono ?_;clear hT;rintro ev W3⟨rfl,HV,hg⟩)
 obtain⟨h3,e⟩:∃x,x={ h2 with md:=bq m 7 }:=⟨_,rfl⟩
 rw[<-e]at HV;have H3:Hid (NB c w b W3 h3):=ab ((uh H2).grown hg (uh HV) (by rw[e];exact { (uh H2).ok with md:=bg (by have:=aW 5 m (by first|decide|(simp;omega));omega) }));have E3:=ab e;clear e f0 f1 q2 HV hg H2;have f0:W3.cell? ⟨10,0,none⟩=some (.int .i64 108):=((uh H3).pk.f (b:=10) (o:=108) (n:=8) (by decide)).1;have f1:W3.cell? ⟨10,1,none⟩=some (.int .i64 8):=((uh H3).pk.f (b:=10) (o:=108) (n:=8) (by decide)).2;have hT:=KF h3 (uh H3).ok 0 b W3 (uh H3).blk (by omega) (uh H3).pk.bru;go_upto_region 5 with(go_at_call 262;refine hT.mono ?_;clear hT;rintro ev W4⟨rfl,HV,hg⟩)
 obtain⟨h4,e⟩:∃x,x={ h3 with us:=bq 0 7 }:=⟨_,rfl⟩
 rw[<-e]at HV;have H4:Hid (NB c w b W4 h4):=ab ((uh H3).grown hg (uh HV) (by rw[e];exact { (uh H3).ok with us:=bg (by have:=aW 5 0 (by first|decide|(simp;omega));omega) }));have E4:=ab e;clear e f0 f1 HV hg H3;have f0:W4.cell? ⟨11,0,none⟩=some (.int .i64 116):=((uh H4).pk.f (b:=11) (o:=116) (n:=8) (by decide)).1;have f1:W4.cell? ⟨11,1,none⟩=some (.int .i64 8):=((uh H4).pk.f (b:=11) (o:=116) (n:=8) (by decide)).2;have hT:=LP h4 (uh H4).ok 0 b W4 (uh H4).blk (by omega) (uh H4).pk.bru;go_upto_region 6 with(go_at_call 262;refine hT.mono ?_;clear hT;rintro ev W5⟨rfl,HV,hg⟩)
 obtain⟨h5,e⟩:∃x,x={ h4 with gr:=bq 0 7 }:=⟨_,rfl⟩
 rw[<-e]at HV;have H5:Hid (NB c w b W5 h5):=ab ((uh H4).grown hg (uh HV) (by rw[e];exact { (uh H4).ok with gr:=bg (by have:=aW 5 0 (by first|decide|(simp;omega));omega) }));have E5:=ab e;clear e f0 f1 HV hg H4;have f0:W5.cell? ⟨2,0,none⟩=some (.int .i64 124):=((uh H5).pk.f (b:=2) (o:=124) (n:=12) (by decide)).1;have f1:W5.cell? ⟨2,1,none⟩=some (.int .i64 12):=((uh H5).pk.f (b:=2) (o:=124) (n:=12) (by decide)).2;have hT:=Ex h5 (uh H5).ok 0 b W5 (uh H5).blk (by omega) (uh H5).pk.bru;go_upto_region 7 with(go_at_call 262;refine hT.mono ?_;clear hT;rintro ev W6⟨rfl,HV,hg⟩)
 obtain⟨h6,e⟩:∃x,x={ h5 with sz:=bq 0 11 }:=⟨_,rfl⟩
 rw[<-e]at HV;have H6:Hid (NB c w b W6 h6):=ab ((uh H5).grown hg (uh HV) (by rw[e];exact { (uh H5).ok with sz:=bg (by have:=aW 5 0 (by first|decide|(simp;omega));omega) }));have E6:=ab e;clear e f0 f1 HV hg H5;have f0:W6.cell? ⟨12,0,none⟩=some (.int .i64 136):=((uh H6).pk.f (b:=12) (o:=136) (n:=12) (by decide)).1;have f1:W6.cell? ⟨12,1,none⟩=some (.int .i64 12):=((uh H6).pk.f (b:=12) (o:=136) (n:=12) (by decide)).2;have hT:=LB h6 (uh H6).ok 0 b W6 (uh H6).blk (by omega) (uh H6).pk.bru;go_upto_region 8 with(go_at_call 262;refine hT.mono ?_;clear hT;rintro ev W7⟨rfl,HV,hg⟩)
 obtain⟨h7,e⟩:∃x,x={ h6 with tm:=bq 0 11 }:=⟨_,rfl⟩
 rw[<-e]at HV;have H7:Hid (NB c w b W7 h7):=ab ((uh H6).grown hg (uh HV) (by rw[e];exact { (uh H6).ok with tm:=bg (by have:=aW 5 0 (by first|decide|(simp;omega));omega) }));have E7:=ab e;clear e f0 f1 HV hg H6;have q0:=(uh H7).c0;have q1:=(uh H7).c1;have q2:=(uh H7).c2;have q3:=(uh H7).c3;have hT:=yo h7 (uh H7).ok c b W7 (uh H7).blk (uh H7).pk (uh H7).b20 hkd (λhk=>BO (uh HPk) hk) (λhk=>Bj (uh HPk) hk);clear hkd;go_upto_region 9 with(go_at_call 263;refine hT.mono ?_;clear hT;rintro ev W8⟨rfl,HV,hg⟩)
 obtain⟨h8,e⟩:∃x,x=iT h7 c:=⟨_,rfl⟩
 rw[<-e]at HV;have H8:Hid (NB c w b W8 h8):=ab ((uh H7).grown hg (uh HV) (by rw[e];exact Fj (uh HPk) (uh H7).ok));have E8:=ab e;clear e q0 q1 q2 q3 HV hg H7;have f0:W8.cell? ⟨13,0,none⟩=some (.int .i64 257):=((uh H8).pk.f (b:=13) (o:=257) (n:=8) (by decide)).1;have f1:W8.cell? ⟨13,1,none⟩=some (.int .i64 8):=((uh H8).pk.f (b:=13) (o:=257) (n:=8) (by decide)).2;have hT:=K7 h8 (uh H8).ok mv b W8 (uh H8).blk (by decide);go_upto_region 10 with(go_at_call 264;refine hT.mono ?_;clear hT;rintro ev W9⟨rfl,HV,hg⟩)
 obtain⟨h9,e⟩:∃x,x={ h8 with mg:=mv.data.toList++h8.mg.drop mv.size }:=⟨_,rfl⟩
 rw[<-e]at HV;have H9:Hid (NB c w b W9 h9):=ab ((uh H8).grown hg (uh HV) (by rw[e];exact { (uh H8).ok with mg:=rX (uh H8).ok.mg (by decide) }));have E9:=ab e;clear e f0 f1 HV hg H8;have f0:W9.cell? ⟨14,0,none⟩=some (.int .i64 329):=((uh H9).pk.f (b:=14) (o:=329) (n:=8) (by decide)).1;have f1:W9.cell? ⟨14,1,none⟩=some (.int .i64 8):=((uh H9).pk.f (b:=14) (o:=329) (n:=8) (by decide)).2;have hT:=LI h9 (uh H9).ok 0 b W9 (uh H9).blk (by omega) (uh H9).pk.bru;go_upto_region 11 with(go_at_call 262;refine hT.mono ?_;clear hT;rintro ev W10⟨rfl,HV,hg⟩)
 obtain⟨h10,e⟩:∃x,x={ h9 with d1:=bq 0 7 }:=⟨_,rfl⟩
 rw[<-e]at HV;have H10:Hid (NB c w b W10 h10):=ab ((uh H9).grown hg (uh HV) (by rw[e];exact { (uh H9).ok with d1:=bg (by have:=aW 5 0 (by first|decide|(simp;omega));omega) }));have E10:=ab e;clear e f0 f1 HV hg H9;have f0:W10.cell? ⟨15,0,none⟩=some (.int .i64 337):=((uh H10).pk.f (b:=15) (o:=337) (n:=8) (by decide)).1;have f1:W10.cell? ⟨15,1,none⟩=some (.int .i64 8):=((uh H10).pk.f (b:=15) (o:=337) (n:=8) (by decide)).2;have hT:=Mp h10 (uh H10).ok 0 b W10 (uh H10).blk (by omega) (uh H10).pk.bru;go_upto_region 12 with(go_at_call 262;refine hT.mono ?_;clear hT;rintro ev W11⟨rfl,HV,hg⟩)
 obtain⟨h11,e⟩:∃x,x={ h10 with d2:=bq 0 7 }:=⟨_,rfl⟩
 rw[<-e]at HV;have H11:Hid (NB c w b W11 h11):=ab ((uh H10).grown hg (uh HV) (by rw[e];exact { (uh H10).ok with d2:=bg (by have:=aW 5 0 (by first|decide|(simp;omega));omega) }));have E11:=ab e;clear e f0 f1 HV hg H10;have hT:=uY h11 (uh H11).ok b W11 (uh H11).blk (uh H11).pk (uh H11).b20;have eP:h11=ee c:=by rw[<-yN (uh HPk),uh E11,uh E10,uh E9,uh E8,uh E7,uh E6,uh E5,uh E4,uh E3,uh E2];rfl
 go_upto_region 13 with(go_at_call 265;refine hT.mono ?_;clear hT;rintro ev V⟨rfl,HV,hg⟩)
 have hBk:fe V b (eO c):=by rw[<-Cv,<-eP];exact uh HV
 have hR:=kY hg (uh H11).r (by have:=(uh H11).at';omega);have hB:=(uh H11).below.grown hg (uh H11).below.size (λq hq=>by cases hq;have:=(uh H11).at';omega);have hab:=(uh H11).at';clear eP hg HV H11 E11 E10 E9 E8 E7 E6 E5 E4 E3 E2;have hl:=tX (uh HPk);obtain⟨U,hU⟩:=aq ((Lib.byteCells (eO c)).toArray);have hsz:U.size=512:=by rw[hU];simp[Lib.byteCells,hl]
 have hin:(prog.info? 284).map (·.size)=some U.size:=by rw[hsz];exact Bo
 have hz:Tryz.zeroCells284.size=512:=by rw[pY];simp[Lib.byteCells]
 have hth:=tY hR U.size (by rw[hsz,hz];exact nR _);have hon:U.all (·.oneCell')=true:=by rw[hU];exact tQ _
 have hfin:Hid ((V.setCells (w.heap.size+1) 0 U.toList).heap[w.heap.size+1]?=some (.cells U 284 (0,0))):=ab (iO hR (by rw[hsz,hz]));have hbel:Hid (Bw w (V.setCells (w.heap.size+1) 0 U.toList)):=ab (ir (by omega) _ _ _ hB);have hblk2:V.heap[b]?=some (.cells U 284 (0,0)):=by rw[hU];exact hBk.1
 have HU:=ab hU;clear hBk hR hB hl hsz hz hU hab HPk hm5;go_wp2_with (first|(refine wpList_load_row rfl 284 (.tmp 3) rfl b rfl 284 _ (0,0) _ hblk2 underlying284 rfl hin ?_)|(refine wpList_store_mid rfl 284 (.tmp 2) (.tmp 28) rfl (w.heap.size+1) 0 U rfl rfl hth hin hon ?_))
 refine bodyPost_ret (v:=.agg U) (results_cell_row results241 _ _ (w.heap.size+1) 284 U (0,0) _ rfl (uh hfin) underlying284 rfl hin) rfl ⟨by rw[uh HU],uh hbel⟩
theorem px(n:Nat)(w:World)(hn:n<=1048576): Cl 215 #[.int .i64 n] w λev w'=>ev=.returned (.string (bt (List.replicate n 0)))/\Bw w w':=by
 have h:=mJ 0 n w hn;go_enter func215,ntmps215;go_wp2_with (go_at_call 235;refine h.mono ?_;clear h;rintro ev w1⟨rfl,hb1⟩)
 go_ret;exact⟨rfl,hb1⟩
theorem zI(w:World): Cl 202 #[] w λev w'=>ev=.returned (.string (bt (List.replicate 1024 0)))/\Bw w w':=by
 obtain⟨T,hT⟩:=aq (bt (List.replicate 1024 0));have h:Cl 215 #[.int .i64 1024] w λev w'=>ev=.returned (.string T)/\Bw w w':=by rw[hT];exact px 1024 w (by omega)
 rw[<-hT];clear hT;go_enter func202,ntmps202;go_wp2_with (go_at_call 215;refine h.mono ?_;clear h;rintro ev w1⟨rfl,hb1⟩)
 go_ret;exact⟨rfl,hb1⟩
theorem pt(s:BA)(w:World)(hs:s.size<=1048576): Cl 242 #[.string s] w λev w'=>ev=.returned (.string (bt (s.data.toList++List.replicate (ox s.size) 0)))/\Bw w w':=by
 obtain⟨r,hr⟩:=aq (s.size%512);have e1:(s.size:Int).tmod 512=(r:Int):=by rw[hr];exact Int.ofNat_tmod s.size 512
 have r5:r<512:=by rw[hr];exact Nat.mod_lt _ (by omega)
 have HR:=ab hr;clear hr;by_cases h0:r=0
 .subst h0;have hp:ox s.size=0:=by rw[ox,<-uh HR]
  have HF:Hid (bt (s.data.toList++List.replicate (ox s.size) 0)=s):=ab (by rw[hp];simp[cF]);clear hp r5;go_enter func242,ntmps242;go_wp2;go_ret;exact⟨by rw[uh HF];rfl,bR _ _⟩
 have hp:ox s.size=512-r:=by rw[ox,<-uh HR];exact Nat.mod_eq_of_lt (by omega)
 obtain⟨p,hpp⟩:∃p,p=512-r:=⟨_,rfl⟩
 have e2:(512:Int)-(r:Int)=(p:Int):=by omega
 have p5:p<=512:=by omega
 have h:=px p w (by omega);have HF:Hid (bt (s.data.toList++List.replicate (ox s.size) 0)=s++bt (List.replicate p 0)):=ab (by rw[hp,<-hpp,<-gn,cF]);clear hp hpp;have hz:(bt (List.replicate p 0)).size<=512:=by rw[bF,List.length_replicate];exact p5
 go_enter func242,ntmps242;go_wp2_with (go_at_call 215;refine h.mono ?_;clear h;rintro ev w1⟨rfl,hb1⟩)
 go_ret;exact⟨by rw[uh HF];rfl,hb1⟩
theorem rG{w:World}{b:Nat}{xs:LU}(h:fe w b xs):(convert 101 9 (.slice (some ⟨b,0,none⟩) 512 512)).run prog w=.ok (.string (bt xs)) w:=by have:=run_convert_bytes_back (P:=prog) w 101 9 5 ⟨b,0,none⟩ 512 xs underlying101 underlying5 underlying9 (λj hj=>by rw[Addr.add_lit,Nat.zero_add];exact sA h hj);rw[h.2]at this;exact this
theorem wE{c:aj}(h:c.kind≠2):az c=eO c:=by
 have e:cu c=[]:=by rw[cu,if_neg h]
 rw[az,e,eO];simp[ox]
theorem zl{c:aj}(h:c.kind=2):az c=eO c++(c.data.data.toList++List.replicate (ox c.data.size) 0):=by
 have e:cu c=c.data.data.toList:=by rw[cu,if_pos h]
 rw[az,e,eO,zE];simp[aA]
theorem wU(c:aj)(m:Nat)(w:World)(HPk:Hid (C0 c m))(hP:Pk w)(hkd:c.kind=1\/c.kind=2\/c.kind=3\/c.kind=4\/c.kind=5)(hp:(aD c).length<=100\/∃i,cT (aD c) ((aD c).length-101)=some i): Cl 218 #[.agg #[.string c.path,.int .i64 c.kind,.int .i64 c.mode,.string c.data]] w λev w'=>ev=.returned (.string (bt (az c)))/\Bw w w':=by
 obtain⟨W0,hW0⟩:=aq (w.alloc (.cells #[.string c.path,.int .i64 c.kind,.int .i64 c.mode,.string c.data] 246));have hB0:=dw hW0;have hs0:W0.heap.size=w.heap.size+1:=by rw[hW0,World.size_alloc]
 have q0:W0.cell? ⟨w.heap.size,0,none⟩=some (.string c.path):=by rw[hW0];exact cq 0 (hN _ _)
 have q1:W0.cell? ⟨w.heap.size,1,none⟩=some (.int .i64 c.kind):=by rw[hW0];exact cq 1 (hN _ _)
 have q2:W0.cell? ⟨w.heap.size,2,none⟩=some (.int .i64 c.mode):=by rw[hW0];exact cq 2 (hN _ _)
 have q3:W0.cell? ⟨w.heap.size,3,none⟩=some (.string c.data):=by rw[hW0];exact cq 3 (hN _ _)
 have hN:=uJ c m W0 HPk (hP.below hB0) hkd hp;have hl:=tX (uh HPk);obtain⟨U,hU⟩:=aq ((Lib.byteCells (eO c)).toArray);rw[<-hU]at hN;have hsz:U.size=512:=by rw[hU];simp[Lib.byteCells,hl]
 have hin:(prog.info? 284).map (·.size)=some U.size:=by rw[hsz];exact Bo
 have hon:U.all (·.oneCell')=true:=by rw[hU];exact tQ _
 have HL:=ab hl;have HU:=ab hU;clear hl hU hP hkd hp;go_enter func218,ntmps218;go_upto_region 1 with fail;rw[<-hW0];clear hW0;go_upto_region 2 with(first|(go_at_call 241;refine hN.mono ?_;clear hN;rintro ev w1⟨rfl,hb1⟩;have q1:=cL hb1 q1;have q3:=cL hb1 q3;have hz:Tryz.zeroCells284.size=512:=(by rw[pY];simp[Lib.byteCells]);have hR:=hN w1 (.cells Tryz.zeroCells284 284);have hth:=tY hR U.size (by rw[hsz,hz];exact nR _))|(refine wpList_store_mid rfl 284 (.tmp 3) (.tmp 5) rfl w1.heap.size 0 U rfl rfl hth hin hon ?_))
 obtain⟨V,hV⟩:=aq ((w1.alloc (.cells Tryz.zeroCells284 284)).setCells w1.heap.size 0 U.toList);have hb2:Bw w1 V:=by rw[hV];exact ir (nR _) _ _ _ (eD)
 have hK:fe V w1.heap.size (eO c):=⟨by rw[<-uh HU,hV];exact iO hR (by rw[hsz,hz]),uh HL⟩
 have hback:=rG hK;have q1:=cL hb2 q1;have q3:=cL hb2 q3;have hB1:=hB0.trans (hb1.mono hB0.size);have hB2:=hB1.trans (hb2.mono hB1.size);rw[<-hV];clear hV hth hR hz hin hon hsz HU;by_cases hk:c.kind=2
 .have HF:=ab (zl hk);rw[hk]at q1;have hfl:=pt c.data V (by have:=(uh HPk).data;omega);go_upto_region 4 with fail;have hK':fe V.drew w1.heap.size (eO c):=hK;have hback':=rG hK';have hd:=(uh HPk).data;have hpd:ox c.data.size<512:=Nat.mod_lt _ (by omega);obtain⟨T,hT⟩:=aq (bt (c.data.data.toList++List.replicate (ox c.data.size) 0));obtain⟨S,hS⟩:=aq (bt (eO c));have hTz:T.size<=1049088:=by rw[hT,bF,lA,List.length_replicate,<-zE];omega
  have hSz:S.size=512:=by rw[hS,bF];exact uh HL
  have n1:¬9223372036854775807<S.size+T.size:=by omega
  have HE:Hid (S++T=bt (az c)):=ab (by rw[hS,hT,gn,<-uh HF]);rw[<-hT]at hfl;rw[<-hS]at hback';have HT:=ab hT;have HS:=ab hS;clear hfl hback hT hS hTz hSz hpd;go_region_with (go_at_call 242;refine(pt c.data _ hd).mono ?_;rw[<-uh HT];rintro ev w2⟨rfl,hb3⟩;have hback2:=rG (hK.below (am hb3));rw[<-uh HS]at hback2)
  all_goals
   go_wp2;go_ret;exact⟨by rw[<-uh HE];rfl,hB2.trans ((am hb3).mono hB2.size)⟩
 have HF:=ab (wE hk);have hk':(c.kind==2)=false:=by simp[hk]
 go_wp2;go_ret;exact⟨by rw[uh HF];rfl,hB2⟩
end Go.Proofs.YtjhobnjdfhkohaaGreatDoor.T
namespace Go.Proofs.YtjhobnjdfhkohaaGreatDoor.T
open Go.Proofs.Tryz
open Go.RowKit Go.Maps
theorem zo{es:List aj}(h:aO es):ix es:=λe he=>by
 have:=h.ent e he;unfold bK at this;simp only[bA]at this;obtain⟨⟨_,hp⟩,hg⟩:=this;refine⟨by rw[zE];have:=(cR hp).1;omega,?_⟩;unfold bc at hg;split at hg
 .simp only[bA,beq_iff_eq]at hg;rw[zE,hg.2];simp
 split at hg
 .simp only[bA,decide_eq_true_eq]at hg;omega
 split at hg
 .simp only[bA,decide_eq_true_eq]at hg;have:=hg.2;unfold wm at this;simp only[bA,decide_eq_true_eq]at this;rw[zE];omega
 cases hg
theorem ut{es:List aj}(h:aO es)(hl:es.length<=600):jo es:=⟨h.ok,hl,zo h⟩
theorem qP(sb:Nat)(r:Nd)(ns:List Nd)(work:BA)(ev:Value)(B:Nat)(w:World)(h:ed w B sb r ns work ev)(hn:ns.length<=600): Cl 77 #[.pointer (some ⟨sb,0,none⟩)] w λe w'=>e=.returned (if 40<ns.length then .iface 27 (.int .i64 10) else .nilIface)/\Bw w w':=by
 have hB:=CW w h.mem (ab rfl) (ab (ut h.tree (by simpa[ac]using hn)));have c0:=h.c0;obtain⟨n,hnn⟩:=aq ns.length;rw[<-hnn]at hB hn⊢;clear h hnn;by_cases h40:40<n
 .rw[if_pos h40];have i1:(40:Int)<(n:Int):=by omega
  clear h40;go_enter func77,ntmps77;go_wp2_with (go_at_call 105;refine hB.mono ?_;clear hB;rintro e w1⟨rfl,hb1⟩)
  go_ret;exact⟨rfl,hb1⟩
 rw[if_neg h40];have i1:¬(40:Int)<(n:Int):=by omega
 clear h40;go_enter func77,ntmps77;go_wp2_with (go_at_call 105;refine hB.mono ?_;clear hB;rintro e w1⟨rfl,hb1⟩)
 go_ret;exact⟨rfl,hb1⟩
def nz(l:LU):Bool:=l.getLast?==some 47
theorem IH(s:BA)(w:World)(hs:s.size<=1073741824):Cl 173 #[.string s,.string ⟨#[47]⟩] w λe w'=>e=.returned (.bool (nz s.data.toList))/\w'=w:=by
 have hS:Cl 201 #[.string s,.string ⟨#[47]⟩] w λe w'=>e=.returned (.bool (nz s.data.toList))/\w'=w:=by
  by_cases h0:s.size=0
  .have HR:Hid (nz s.data.toList=false):=ab (by have:s.data.toList=[]:=List.length_eq_zero_iff.1 (by rw[<-zE];exact h0);rw[this];rfl);have i1:¬(1:Int)<=(s.size:Int):=by omega
   clear h0;go_enter func201,ntmps201;go_wp2_with fail;go_ret;exact⟨by rw[uh HR];rfl,rfl⟩
  obtain⟨n,hn⟩:∃n,s.size=n+1:=⟨s.size-1,by omega⟩
  have HR:Hid (((s.extract n s.size).toList==[47])=nz s.data.toList):=ab (by
   unfold nz;rw[tD,nu,aK];have hl:s.data.toList.length=n+1:=by rw[<-zE];exact hn
   obtain⟨a,x,e⟩:∃a x,s.data.toList=a++[x]:=⟨_,_,(List.dropLast_concat_getLast (λe=>by rw[e]at hl;simp at hl)).symm⟩
   have ha:a.length=n:=by rw[e]at hl;simpa using hl
   rw[e,<-ha,List.drop_left,List.getLast?_concat];rw[Bool.eq_iff_iff];simp)
  have i1:(1:Int)<=(s.size:Int):=by omega
  have i2:IntKind.i64.wrap ((s.size:Int)-1)=(n:Int):=by rw[hn,show (((n+1:Nat):Int)-1)=((n:Nat):Int) by omega];exact wrap_i64 n (by omega)
  have i3:(0:Int)<=(n:Int)/\(n:Int)<=(s.size:Int):=by omega
  clear h0 hn;go_enter func201,ntmps201;go_wp2_with fail;go_ret;exact⟨by rw[uh HR];rfl,rfl⟩
 obtain⟨b,hb⟩:=aq (nz s.data.toList);rw[<-hb]at hS⊢;clear hb;go_enter func173,ntmps173;go_wp2_with (go_at_call 201;refine hS.mono ?_;clear hS;rintro e w1⟨rfl,hw⟩;obtain rfl:=hw.symm)
 go_ret;exact⟨rfl,rfl⟩
def iL(p q:LU):LU:=if p=[] then q else q.drop (p.length+1)
def fd(e:aj)(q:LU):aj:={ e with path:=bs q }
def zZ(d p:LU):List aj->List aj->Except Nat (List aj)
 |t,[]=>.ok t
 |t,e::r=>match eT t (fd e (gj d (iL p e.path.data.toList)))with
  |.error k=>.error k
  |.ok t'=>zZ d p t' r
def kN(t src:List aj)(p d:LU):Except Nat (List aj):=match cK t d with
 |.error k=>.error k
 |.ok t'=>zZ d p t' (src.filter λe=>j4 p e.path.data.toList)
def iY(work:LU)(x:Except Nat (List aj)):Except Nat (List aj×LU):=match x with
 |.error k=>.error k
 |.ok t=>.ok (t,work)
def bC(t src:List aj)(work a b:LU):Except Nat (List aj×LU):=match gv src work a b with
 |.error k=>.error k
 |.ok (p,d)=>match (if p=[] then some de else nC src p)with
  |none=>.error 8
  |some f=>if f.kind=1 then iY work (kN t src p d) else iY work (aS t (fd f (if nz b=true\/bd t d=1 then gj d (ai p) else d)))
end Go.Proofs.YtjhobnjdfhkohaaGreatDoor.T
