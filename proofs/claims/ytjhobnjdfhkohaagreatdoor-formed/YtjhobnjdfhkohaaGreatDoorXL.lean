import Derived.Test.YtjhobnjdfhkohaaGreatDoorXK
import Derived.Laws.EntriesVeiled
set_option linter.all false
set_option maxHeartbeats 2000000
set_option maxRecDepth 10000
namespace Go.Proofs.YtjhobnjdfhkohaaGreatDoor
open Go.Proofs.Tryz
open Go.RowKit Go.Maps
abbrev KE:Value:=.agg #[.int .i64 0,.int .i64 0,.nilFunc,.nilFunc]
def lX(xs:List bM):Option Nat:=(an xs).bind wh
theorem yA{w:World}{b:Nat}{t:TypeId}{a0 a1 a2 a3:Value}(b0 b1 b2 b3:Value)(h:w.heap[b]?=some (.cells #[a0,a1,a2,a3] t (0,0))): ((((w.setCell ⟨b,0,none⟩ b0).setCell ⟨b,1,none⟩ b1).setCell ⟨b,2,none⟩ b2).setCell ⟨b,3,none⟩ b3).heap[b]?=some (.cells #[b0,b1,b2,b3] t (0,0)):= hS _ _ 3 _ _ _ (hS _ _ 2 _ _ _ (hS _ _ 1 _ _ _ (hS _ _ 0 _ _ _ h)))
theorem ij{B:Nat}{w w1:World}{b:Nat}(b0 b1 b2 b3:Value)(h:Below B w w1)(hb:B<=b):Below B w ((((w1.setCell ⟨b,0,none⟩ b0).setCell ⟨b,1,none⟩ b1).setCell ⟨b,2,none⟩ b2).setCell ⟨b,3,none⟩ b3):= (((h.setCell (p:=⟨b,0,none⟩) hb _).setCell (p:=⟨b,1,none⟩) hb _).setCell (p:=⟨b,2,none⟩) hb _).setCell (p:=⟨b,3,none⟩) hb _
theorem xS(m:aw)(B:Nat)(w:World)(h:m.Ok w B)(hl:(parts m.xs).length<=1500)(hz:∀t,an m.xs=some t->t.length<=1500)(ho:lX m.xs=none): Cl 88 #[m.val] w λev w'=>ev=.returned (.tuple #[KE,.bool false])/\Bw w w':=by
 obtain⟨W0,hW0⟩:=aq ((w.alloc (.cells #[.int .i64 (m.place:Int),m.v] 148)).alloc (.cells #[.int .i64 0,.int .i64 0,.nilFunc,.nilFunc] 84));have hb0:Bw w W0:=by rw[hW0];exact(eD).alloc (by simp) _
 have hP:=fC m B W0 (by rw[hW0];exact World.ownsRow.alloc (World.ownsRow.alloc h _) _) hl;have hc0:W0.heap[w.heap.size]?=some (.cells #[.int .i64 (m.place:Int),m.v] 148 (0,0)):=by rw[hW0,Below.heap_alloc _ _ _ (by simp)];exact hN _ _
 have hr0:W0.heap[w.heap.size+1]?=some (.cells #[.int .i64 0,.int .i64 0,.nilFunc,.nilFunc] 84 (0,0)):=by have:=hN (w.alloc (.cells #[.int .i64 (m.place:Int),m.v] 148)) (.cells #[.int .i64 0,.int .i64 0,.nilFunc,.nilFunc] 84);rw[World.size_alloc,<-hW0]at this;exact this
 have hz0:W0.heap.size=w.heap.size+2:=by rw[hW0];simp
 obtain⟨ao,n',cap,hv⟩:=ar h;obtain⟨place,v,xs⟩:=m;simp only at hv hP hc0 hW0 ho hz⊢;subst hv;have q0:=cq 0 hc0;have q1:=cq 1 hc0;have HR0:=ab hr0;have HZ0:=ab hz0;clear h hc0 hr0 hz0;go_enter func88,ntmps88;go_upto_region 1 with fail;rw[<-hW0];clear hW0;have fin:∀w1,Bw W0 w1->w1.heap[w.heap.size+1]?=some (.cells #[.int .i64 0,.int .i64 0,.nilFunc,.nilFunc] 84 (0,0)):=λw1 hb1=>(hb1.block _ (by have:=uh HZ0;omega)).trans (uh HR0);have FIN:=ab fin;clear fin;cases hx:an xs with
 |none=>
  rw[hx]at hP;simp only[Option.isSome_none,Option.getD_none]at hP;clear hx;go_upto_region 3 with(go_at_call 116;refine hP.mono ?_;clear hP;rintro ev w1⟨u,rfl,HU,hb1⟩)
  have hr1:=uh FIN w1 hb1;have c0:=cq 0 hr1;have c1:=cq 1 hr1;have c2:=cq 2 hr1;have c3:=cq 3 hr1;have f:∀i,w1.frozen? ⟨w.heap.size+1,i,none⟩=false:=λi=>by simp[World.frozen?,hr1]
  have f0:=f 0;have f1:=f 1;have f2:=f 2;have f3:=f 3;have HR1:=ab hr1;clear f hr1;go_wp2_with fail;obtain⟨W9,hW9⟩:=aq ((((w1.setCell ⟨w.heap.size+1,0,none⟩ (.int .i64 0)).setCell ⟨w.heap.size+1,1,none⟩ (.int .i64 0)).setCell ⟨w.heap.size+1,2,none⟩ .nilFunc).setCell ⟨w.heap.size+1,3,none⟩ .nilFunc);rw[<-hW9];have hr9:W9.heap[w.heap.size+1]?=some (.cells #[.int .i64 0,.int .i64 0,.nilFunc,.nilFunc] 84 (0,0)):=by rw[hW9];exact yA _ _ _ _ (uh HR1)
  have d0:=cq 0 hr9;have d1:=cq 1 hr9;have d2:=cq 2 hr9;have d3:=cq 3 hr9;refine bodyPost_ret (v:=.tuple #[KE,.bool false]) (by simp[results,results88,go_sem,d0,d1,d2,d3]) rfl ⟨rfl,?_⟩;rw[hW9];exact ij _ _ _ _ (hb0.trans (hb1.mono hb0.size)) (by omega)
 |some t=>
  rw[hx]at hP;simp only[Option.isSome_some,Option.getD_some]at hP;have hot:wh t=none:=by unfold lX at ho;rw[hx]at ho;exact ho
  have htl:=hz t hx;have hRu:=λw'=>tJ w';clear hx ho;go_upto_region 5 with(first|(go_at_call 116;refine hP.mono ?_;clear hP;rintro ev w1⟨u,rfl,HU,hb1⟩;have HUS:Hid (u.size<=1500):=ab (by rw[zE,uh HU];omega))|(go_at_call 117;refine(hRu _).mono ?_;clear hRu;rintro ev w2⟨mb,rfl,hmb,hTM,hb2⟩;have hlk:(Instr.lookup 211 (.map (some mb)) (.string u) true).run prog w2=.ok (.tuple #[.agg #[.int .i64 0,.int .i64 0,.nilFunc,.nilFunc],.bool false]) w2:=(by rcases hTM.look u (by have:=uh HUS;omega)with h|⟨i,h,_⟩;exact h.2;rw[uh HU,hot]at h;cases h);clear hTM))
  obtain⟨W3,hW3⟩:=aq (w2.alloc (.cells #[.int .i64 0,.int .i64 0,.nilFunc,.nilFunc] 84));rw[<-hW3];have hb3:=dw hW3;have hl3:=em hW3;have hb13:=(hb1.trans (hb2.mono hb1.size)).trans (hb3.mono (nT hb1.size hb2.size));have hr1:=uh FIN W3 hb13;have hne:w.heap.size+1≠w2.heap.size:=by have:=uh HZ0;have:=hb1.size;have:=hb2.size;omega
  have p0:=cq 0 hl3;have p1:=cq 1 hl3;have p2:=cq 2 hl3;have p3:=cq 3 hl3;have c0:=cq 0 hr1;have c1:=cq 1 hr1;have c2:=cq 2 hr1;have c3:=cq 3 hr1;have f:∀i,W3.frozen? ⟨w.heap.size+1,i,none⟩=false:=λi=>by simp[World.frozen?,hr1]
  have f0:=f 0;have f1:=f 1;have f2:=f 2;have f3:=f 3;have HR1:=ab hr1;clear f hr1 hl3 hW3;go_wp2_with fail;obtain⟨W9,hW9⟩:=aq ((((W3.setCell ⟨w.heap.size+1,0,none⟩ (.int .i64 0)).setCell ⟨w.heap.size+1,1,none⟩ (.int .i64 0)).setCell ⟨w.heap.size+1,2,none⟩ (.nilFunc)).setCell ⟨w.heap.size+1,3,none⟩ (.nilFunc));rw[<-hW9];have hr9:W9.heap[w.heap.size+1]?=some (.cells #[.int .i64 0,.int .i64 0,.nilFunc,.nilFunc] 84 (0,0)):=by rw[hW9];exact yA _ _ _ _ (uh HR1)
  have d0:=cq 0 hr9;have d1:=cq 1 hr9;have d2:=cq 2 hr9;have d3:=cq 3 hr9;refine bodyPost_ret (v:=.tuple #[.agg #[.int .i64 0,.int .i64 0,.nilFunc,.nilFunc],.bool false]) (by simp[results,results88,go_sem,d0,d1,d2,d3]) rfl ⟨rfl,?_⟩;rw[hW9];exact ij _ _ _ _ (hb0.trans (hb13.mono hb0.size)) (by omega)
theorem xh(m:aw)(B:Nat)(w:World)(h:m.Ok w B)(hl:(parts m.xs).length<=1500)(hz:∀t,an m.xs=some t->t.length<=1500)(t:LU)(i:Nat)(hx:an m.xs=some t)(hot:wh t=some i): Cl 88 #[m.val] w λev w'=>ev=.returned (.tuple #[gz i,.bool true])/\Bw w w':=by
 obtain⟨W0,hW0⟩:=aq ((w.alloc (.cells #[.int .i64 (m.place:Int),m.v] 148)).alloc (.cells #[.int .i64 0,.int .i64 0,.nilFunc,.nilFunc] 84));have hb0:Bw w W0:=by rw[hW0];exact(eD).alloc (by simp) _
 have hP:=fC m B W0 (by rw[hW0];exact World.ownsRow.alloc (World.ownsRow.alloc h _) _) hl;have hc0:W0.heap[w.heap.size]?=some (.cells #[.int .i64 (m.place:Int),m.v] 148 (0,0)):=by rw[hW0,Below.heap_alloc _ _ _ (by simp)];exact hN _ _
 have hr0:W0.heap[w.heap.size+1]?=some (.cells #[.int .i64 0,.int .i64 0,.nilFunc,.nilFunc] 84 (0,0)):=by have:=hN (w.alloc (.cells #[.int .i64 (m.place:Int),m.v] 148)) (.cells #[.int .i64 0,.int .i64 0,.nilFunc,.nilFunc] 84);rw[World.size_alloc,<-hW0]at this;exact this
 have hz0:W0.heap.size=w.heap.size+2:=by rw[hW0];simp
 obtain⟨ao,n',cap,hv⟩:=ar h;obtain⟨place,v,xs⟩:=m;simp only at hv hP hc0 hW0 hx hz⊢;subst hv;have q0:=cq 0 hc0;have q1:=cq 1 hc0;have HR0:=ab hr0;have HZ0:=ab hz0;clear h hc0 hr0 hz0;have htl:=hz t hx;obtain⟨ra,rbb,rf,rg,hrv⟩:∃ra rbb rf rg,gz i=.agg #[.int .i64 ra,.int .i64 rbb,.func (.func rf) #[] #[],.func (.func rg) #[] #[]]:=⟨_,_,_,_,rfl⟩
 rw[hx]at hP;simp only[Option.isSome_some,Option.getD_some]at hP;have hRu:=λw'=>tJ w';have HRV:=ab hrv;rw[hrv];clear hx hrv;go_enter func88,ntmps88;go_upto_region 1 with fail;rw[<-hW0];clear hW0;have fin:∀w1,Bw W0 w1->w1.heap[w.heap.size+1]?=some (.cells #[.int .i64 0,.int .i64 0,.nilFunc,.nilFunc] 84 (0,0)):=λw1 hb1=>(hb1.block _ (by have:=uh HZ0;omega)).trans (uh HR0);have FIN:=ab fin;clear fin;go_upto_region 5 with(first|(go_at_call 116;refine hP.mono ?_;clear hP;rintro ev w1⟨u,rfl,HU,hb1⟩;have HUS:Hid (u.size<=1500):=ab (by rw[zE,uh HU];omega))|(go_at_call 117;refine(hRu _).mono ?_;clear hRu;rintro ev w2⟨mb,rfl,hmb,hTM,hb2⟩;have hlk:(Instr.lookup 211 (.map (some mb)) (.string u) true).run prog w2=.ok (.tuple #[.agg #[.int .i64 ra,.int .i64 rbb,.func (.func rf) #[] #[],.func (.func rg) #[] #[]],.bool true]) w2:=(by rcases hTM.look u (by have:=uh HUS;omega)with h|⟨i',h,h'⟩;rw[uh HU,hot]at h;cases h.1;rw[uh HU,hot]at h;cases h;rw[h',uh HRV]);clear hTM))
 obtain⟨W3,hW3⟩:=aq (w2.alloc (.cells #[.int .i64 ra,.int .i64 rbb,.func (.func rf) #[] #[],.func (.func rg) #[] #[]] 84));rw[<-hW3];have hb3:=dw hW3;have hl3:=em hW3;have hb13:=(hb1.trans (hb2.mono hb1.size)).trans (hb3.mono (nT hb1.size hb2.size));have hr1:=uh FIN W3 hb13;have hne:w.heap.size+1≠w2.heap.size:=by have:=uh HZ0;have:=hb1.size;have:=hb2.size;omega
 have p0:=cq 0 hl3;have p1:=cq 1 hl3;have p2:=cq 2 hl3;have p3:=cq 3 hl3;have c0:=cq 0 hr1;have c1:=cq 1 hr1;have c2:=cq 2 hr1;have c3:=cq 3 hr1;have f:∀i,W3.frozen? ⟨w.heap.size+1,i,none⟩=false:=λi=>by simp[World.frozen?,hr1]
 have f0:=f 0;have f1:=f 1;have f2:=f 2;have f3:=f 3;have HR1:=ab hr1;clear f hr1 hl3 hW3;go_wp2_with fail;obtain⟨W9,hW9⟩:=aq ((((W3.setCell ⟨w.heap.size+1,0,none⟩ (.int .i64 ra)).setCell ⟨w.heap.size+1,1,none⟩ (.int .i64 rbb)).setCell ⟨w.heap.size+1,2,none⟩ (.func (.func rf) #[] #[])).setCell ⟨w.heap.size+1,3,none⟩ (.func (.func rg) #[] #[]));rw[<-hW9];have hr9:W9.heap[w.heap.size+1]?=some (.cells #[.int .i64 ra,.int .i64 rbb,.func (.func rf) #[] #[],.func (.func rg) #[] #[]] 84 (0,0)):=by rw[hW9];exact yA _ _ _ _ (uh HR1)
 have d0:=cq 0 hr9;have d1:=cq 1 hr9;have d2:=cq 2 hr9;have d3:=cq 3 hr9;refine bodyPost_ret (v:=.tuple #[.agg #[.int .i64 ra,.int .i64 rbb,.func (.func rf) #[] #[],.func (.func rg) #[] #[]],.bool true]) (by simp[results,results88,go_sem,d0,d1,d2,d3]) rfl ⟨rfl,?_⟩;rw[hW9];exact ij _ _ _ _ (hb0.trans (hb13.mono hb0.size)) (by omega)
theorem LK:(prog.info? 86).map (λi=>(i.zero,i.size,i.bytes))=some (some (.agg #[.slice none 0 0,.int .i64 0,.int .i64 0,.int .i64 0,.nilFunc,.nilFunc]),6,64):=by kernel_rfl
theorem IJ:(prog.info? 106).map (λi=>(i.zero,i.size,i.bytes))=some (some (.agg #[.string ByteArray.empty,.slice none 0 0]),2,40):=by kernel_rfl
structure cA where
 wv:Value
 ws:List aw
 stage:Int
 rule:Nat
abbrev aN(f:Nat):Value:=.func (.func f) #[] #[]
def cA.cells(m:cA):List Value:=[m.wv,.int .i64 m.stage,.int .i64 (af m.rule).1,.int .i64 (af m.rule).2.1,aN (af m.rule).2.2.1,aN (af m.rule).2.2.2]
abbrev cA.val(m:cA):Value:=.agg #[m.wv,.int .i64 m.stage,.int .i64 (af m.rule).1,.int .i64 (af m.rule).2.1,aN (af m.rule).2.2.1,aN (af m.rule).2.2.2]
theorem kg{w:World}{B:Nat}{v:Value}{ms:List aw}(h:mU w B v ms)(i:Nat)(m:aw)(hm:ms[i]?=some m):∃g cap,v=.slice (some ⟨g,0,none⟩) ms.length cap/\w.cell? ⟨g,i*2,none⟩=some (.int .i64 (m.place:Int))/\w.cell? ⟨g,i*2+1,none⟩=some m.v/\g<w.heap.size:=by
 have hi:=(gL hm)
 obtain⟨g,cap,rfl,_,hg⟩:=World.ownsRow.form h.row (by omega);have key:∀(l:List aw) (i:Nat) (m:aw),l[i]?=some m->(Ip l)[i*2]?=some (.int .i64 (m.place:Int))/\(Ip l)[i*2+1]?=some m.v:=by
  intro l;induction l with
  |nil=>intro i m h;simp at h
  |cons a r ih=>
   intro i m h;cases i with
   |zero=>simp at h;subst h;exact⟨rfl,rfl⟩
   |succ i=>have:=ih i m (by simpa using h);rw[show (i+1)*2=i*2+2 by omega];exact⟨this.1,this.2⟩
 have k:=key ms i m hm;exact⟨g,cap,rfl,by rw[World.ownsRow.cellAt h.row _ (by omega)];exact k.1,by rw[World.ownsRow.cellAt h.row _ (by omega)];exact k.2,hg⟩
theorem CV(m:cA)(m0:aw)(B:Nat)(w:World)(h:mU w B m.wv m.ws)(h0:m.ws[0]?=some m0): Cl 61 #[m.val] w λev w'=>ev=.returned (.int .i64 (m0.place:Int))/\Bw w w':=by
 obtain⟨g,cap,hv,q0,q1,hg⟩:=kg h 0 m0 h0;have hl:=(gL h0)
 obtain⟨wv,ws,stage,rule⟩:=m;simp only at hv hl h0⊢;subst hv;have hn:ws.length≠0:=by omega
 have n0:=World.new_ne w ⟨g,0,none⟩ q0;have HL:=ab hl;obtain⟨n,hn⟩:=aq ws.length;rw[<-hn]at HL⊢;have i1:(0:Int)<(n:Int):=by have:=uh HL;omega
 clear h h0 hl hn;go_enter func61,ntmps61;go_wp2_with fail;go_ret;exact⟨rfl,eD⟩
def Kn(c:UInt8):Bool:=decide (97<=c.toNat/\c.toNat<=122)
def Gj(c:UInt8):Bool:=Kn c||oJ c
def dy(l:List UInt8):Bool:=decide (l.length<=10)&&(match l with
 |[]=>false
 |c::_=>Kn c)&&l.all Gj
def wn(c:UInt8):Bool:=decide (48<=c.toNat/\c.toNat<=55)
def fU(l:List UInt8):Bool:=decide (l.length=3)&&l.all wn
theorem tU(n:Nat)(w:World):Cl 198 #[.int .u8 (n:Int)] w λe w'=>e=.returned (.bool (decide (97<=n/\n<=122)))/\w'=w:=by
 go_enter func198,ntmps198;go_wp2;all_goals
  go_ret;exact⟨ag (by rw[Bool.eq_iff_iff];simp<;>omega),rfl⟩
theorem NR(c:UInt8):decide (97<=c.toNat/\c.toNat<=122)=Kn c:=rfl
theorem rN{p:UInt8->Bool}(s:ByteArray)(k:Nat)(h:k<s.size)(hc:p s[k]=false):s.data.toList.all p=false:=by rw[<-List.take_append_drop (k+1) s.data.toList,List.all_append,fw s k h,List.all_append];simp[hc]
theorem pq(s:ByteArray)(w:World)(hs:s.size<=1073741824): Cl 170 #[.string s] w λe w'=>e=.returned (.bool (dy s.data.toList))/\w'=w:=by
 by_cases he:s.data.toList=[]
 .have g1:s.toList.isEmpty=true:=by rw[Nf,he];rfl
  have HN:Hid (dy s.data.toList=false):=ab (by rw[he];rfl);clear he;go_enter func170,ntmps170;go_wp2_with fail;go_ret;exact⟨ag (uh HN).symm,rfl⟩
 have g1:s.toList.isEmpty=false:=by rw[Nf];simpa using he
 have h0:0<s.size:=by rw[im];exact List.length_pos_iff.2 he
 by_cases h10:s.size<=10
 .have g2:¬(10:Int)<(s.size:Int):=by omega
  have c0:=tU s[0].toNat w;rw[NR]at c0;have hfirst:(match s.data.toList with|[]=>false|c::_=>Kn c)=Kn s[0]:=by
   have h1:s.data.toList=s[0]::s.data.toList.drop 1:=by have:=List.drop_eq_getElem_cons (l:=s.data.toList) (i:=0) (by rw[<-im];exact h0);rw[List.drop_zero]at this;exact this
   rw[h1]
  have HN:Hid (dy s.data.toList=(Kn s[0]&&s.data.toList.all Gj)):=ab (by rw[dy.eq_def,hfirst,<-im,EV h10];rfl);clear he hfirst;cases hc:Kn s[0]with
  |false=>
   have HN2:Hid (dy s.data.toList=false):=ab (by rw[uh HN,hc];rfl);rw[hc]at c0;clear HN hc;go_enter func170,ntmps170;go_wp2_with (go_at_call 198;refine c0.mono ?_;clear c0;rintro ev w1⟨rfl,hw⟩;obtain rfl:=hw.symm)
   go_ret;exact⟨ag (uh HN2).symm,rfl⟩
  |true=>
   have HN2:Hid (dy s.data.toList=s.data.toList.all Gj):=ab (by rw[uh HN,hc];rfl);rw[hc]at c0;clear HN hc;go_enter func170,ntmps170;go_wp2_with (go_at_call 198;refine c0.mono ?_;clear c0;rintro ev w1⟨rfl,hw⟩;obtain rfl:=hw.symm)
   go_loop [19] (λi=>∃k:Nat,k<=s.size/\i=.int .i64 k/\(s.data.toList.take k).all Gj=true) (λi=>s.size-(intOf i).toNat);case atStart=>exact⟨0,Nat.zero_le _,rfl,rfl⟩
   case round=>
    obtain⟨k,hk,rfl,ha⟩:=hrel;have A:=ab ha;clear ha;by_cases hlt:k<s.size
    .have c1:=tU s[k].toNat w;rw[NR]at c1;cases h1:Kn s[k]with
     |true=>
      have B:=ab (gY s k hlt (uh A) (show Gj s[k]=true by simp[Gj,h1]));rw[h1]at c1;clear h1;go_wp2_with (go_at_call 198;refine c1.mono ?_;clear c1;rintro ev w1⟨rfl,hw⟩;obtain rfl:=hw.symm)
      go_round;case rel=>exact⟨k+1,by omega,by go_num,uh B⟩
      case measure=>simp[intOf];omega
     |false=>
      rw[h1]at c1;cases h2:oJ s[k]with
      |true=>
       have B:=ab (gY s k hlt (uh A) (show Gj s[k]=true by simp[Gj,h2]));have h2':=of_decide_eq_true h2;have g3:¬(s[k].toNat:Int)<48:=by omega
       have g4:¬(57:Int)<(s[k].toNat:Int):=by omega
       clear h1 h2 h2';go_wp2_with (go_at_call 198;refine c1.mono ?_;clear c1;rintro ev w1⟨rfl,hw⟩;obtain rfl:=hw.symm)
       go_round;case rel=>exact⟨k+1,by omega,by go_num,uh B⟩
       case measure=>simp[intOf];omega
      |false=>
       have B:=ab (rN (p:=Gj) s k hlt (by simp[Gj,h1,h2]));have h2':=of_decide_eq_false h2;by_cases g3:(s[k].toNat:Int)<48
       .clear h1 h2 h2';go_wp2_with (go_at_call 198;refine c1.mono ?_;clear c1;rintro ev w1⟨rfl,hw⟩;obtain rfl:=hw.symm)
        go_ret;exact⟨ag (by rw[uh HN2,uh B]),rfl⟩
       have g4:(57:Int)<(s[k].toNat:Int):=by omega
       clear h1 h2 h2';go_wp2_with (go_at_call 198;refine c1.mono ?_;clear c1;rintro ev w1⟨rfl,hw⟩;obtain rfl:=hw.symm)
       go_ret;exact⟨ag (by rw[uh HN2,uh B]),rfl⟩
    have B:Hid (s.data.toList.all Gj=true):=ab (by have:=uh A;rwa [List.take_of_length_le (by rw[<-im];omega)]at this);go_wp2;go_ret;exact⟨ag (by rw[uh HN2,uh B]),rfl⟩
 have g2:(10:Int)<(s.size:Int):=by omega
 have HN:Hid (dy s.data.toList=false):=ab (by rw[dy.eq_def,<-im,EJ h10];rfl);clear he h10;go_enter func170,ntmps170;go_wp2_with fail;go_ret;exact⟨ag (uh HN).symm,rfl⟩
theorem EN(s:ByteArray)(w:World): Cl 182 #[.string s] w λe w'=>e=.returned (.bool (fU s.data.toList))/\w'=w:=by
 by_cases h3:s.size=3
 .have g2:((s.size:Int) != 3)=false:=by simp;omega
  have HN2:Hid (fU s.data.toList=s.data.toList.all wn):=ab (by rw[fU,<-im,EV h3];rfl);have hsz:s.size<=3:=by omega
  clear h3;go_enter func182,ntmps182;go_wp2_with fail;go_loop [9] (λi=>∃k:Nat,k<=s.size/\i=.int .i64 k/\(s.data.toList.take k).all wn=true) (λi=>s.size-(intOf i).toNat);case atStart=>exact⟨0,Nat.zero_le _,rfl,rfl⟩
  case round=>
   obtain⟨k,hk,rfl,ha⟩:=hrel;have A:=ab ha;clear ha;by_cases hlt:k<s.size
   .by_cases g3:(s[k].toNat:Int)<48
    .have B:=ab (rN (p:=wn) s k hlt (EJ (by omega)));go_wp2_with fail;go_ret;exact⟨ag (by rw[uh HN2,uh B]),rfl⟩
    by_cases g4:(55:Int)<(s[k].toNat:Int)
    .have B:=ab (rN (p:=wn) s k hlt (EJ (by omega)));go_wp2_with fail;go_ret;exact⟨ag (by rw[uh HN2,uh B]),rfl⟩
    have B:=ab (gY s k hlt (uh A) (show wn s[k]=true from EV (by omega)));go_wp2_with fail;go_round;case rel=>exact⟨k+1,by omega,by go_num,uh B⟩
    case measure=>simp[intOf];omega
   have B:Hid (s.data.toList.all wn=true):=ab (by have:=uh A;rwa [List.take_of_length_le (by rw[<-im];omega)]at this);go_wp2;go_ret;exact⟨ag (by rw[uh HN2,uh B]),rfl⟩
 have g2:((s.size:Int) != 3)=true:=by simp;omega
 have HN:Hid (fU s.data.toList=false):=ab (by rw[fU,<-im,EJ h3];rfl);clear h3;go_enter func182,ntmps182;go_wp2_with fail;go_ret;exact⟨ag (uh HN).symm,rfl⟩
theorem zY{s p:BA}(h:Lib.hasPrefix s.data.toList p.data.toList=true):p.size<=s.size:=by rw[Lib.hasPrefix,List.isPrefixOf_iff_prefix]at h;rw[zE,zE];exact h.length_le
theorem Hh(s p:BA)(w:World): Cl 109 #[.string s,.string p] w λe w'=>e=.returned (.bool (Lib.hasPrefix s.data.toList p.data.toList))/\w'=w:=by
 have H:=ab (Lib.hasPrefix_raw s p);go_enter func109,ntmps109;go_wp2
 .go_ret;exact⟨ag (by rw[<-uh H];simp[*]),rfl⟩
 go_ret;exact⟨ag (by rw[<-uh H];simp[*]),rfl⟩
theorem jW(s p:BA)(w:World): Cl 197 #[.string s,.string p] w λev w'=>∃t:BA,ev=.returned (.tuple #[.string t,.bool (Lib.hasPrefix s.data.toList p.data.toList)])/\Hid (Lib.hasPrefix s.data.toList p.data.toList=true->t.data.toList=s.data.toList.drop p.size)/\w'=w:=by
 have hI:Cl 213 #[.string s,.string p] w λev w'=>∃t:BA,ev=.returned (.tuple #[.string t,.bool (Lib.hasPrefix s.data.toList p.data.toList)])/\Hid (Lib.hasPrefix s.data.toList p.data.toList=true->t.data.toList=s.data.toList.drop p.size)/\w'=w:=by
  have hP:=Hh s p w;cases hh:Lib.hasPrefix s.data.toList p.data.toList with
  |false=>
   rw[hh]at hP;clear hh;go_enter func213,ntmps213;go_wp2_with (go_at_call 109;refine hP.mono ?_;clear hP;rintro ev w1⟨rfl,hw⟩;obtain rfl:=hw.symm)
   go_ret2;exact⟨_,rfl,ab (λh=>by cases h),rfl⟩
  |true=>
   have hle:=zY hh;have i0:(0:Int)<=(p.size:Int):=by omega
   have i1:(p.size:Int)<=(s.size:Int):=by omega
   rw[hh]at hP;clear hh;go_enter func213,ntmps213;go_wp2_with (go_at_call 109;refine hP.mono ?_;clear hP;rintro ev w1⟨rfl,hw⟩;obtain rfl:=hw.symm)
   go_ret2;exact⟨_,rfl,ab (λ_=>gZ s p.size),rfl⟩
 go_enter func197,ntmps197;go_wp2_with (go_at_call 213;refine hI.mono ?_;clear hI;rintro ev w1⟨t,rfl,HT,hw⟩;obtain rfl:=hw.symm)
 go_ret2;exact⟨t,rfl,HT,rfl⟩
def cH(xs:List bM):Option LU:=match an xs with
 |some t=>if dy t=true then some t else none
 |none=>none
def eW(xs:List bM):Option LU:=match an xs with
 |some t=>if Lib.hasPrefix t [45,45,102,114,111,109,61]=true then some (t.drop 7) else none
 |none=>none
theorem sQ(m:aw)(B:Nat)(w:World)(h:m.Ok w B)(hl:(parts m.xs).length<=1500)(hz:∀t,an m.xs=some t->t.length<=1500): Cl 196 #[m.val] w λev w'=>(cH m.xs=none/\jm w' ev 5 m.place\/∃u:BA,cH m.xs=some u.data.toList/\ev=.returned (.string u))/\Bw w w':=by
 obtain⟨W0,hW0⟩:=aq (w.alloc (.cells #[.int .i64 (m.place:Int),m.v] 148));have hb0:=dw hW0;have hP:=fC m B W0 (by rw[hW0];exact World.ownsRow.alloc h _) hl;have hc0:=em hW0;have hz0:w.heap.size<W0.heap.size:=by rw[hW0];simp
 obtain⟨ao,n',cap,hv⟩:=ar h;obtain⟨place,v,xs⟩:=m;simp only at hv hP hc0 hW0 hz⊢;subst hv;have q0:=cq 0 hc0;have q1:=cq 1 hc0;have HQ:Hid (∀w1,Bw W0 w1->w1.cell? ⟨w.heap.size,0,none⟩=some (.int .i64 (place:Int))):=ab (λw1 hb1=>cL hb1 q0);have hF:=λw'=>aZ 5 place w';clear h hc0;cases hx:an xs with
 |none=>
  have HN:Hid (cH xs=none):=ab (by rw[cH,hx]);rw[hx]at hP;simp only[Option.isSome_none,Option.getD_none]at hP;clear hx;go_enter func196,ntmps196;go_upto_region 1 with fail;rw[<-hW0];clear hW0;go_wp2_with (first|(go_at_call 116;refine hP.mono ?_;clear hP;rintro ev w1⟨u,rfl,HU,hb1⟩;have p0:=uh HQ w1 hb1)|(go_at_call 35;refine(hF _).mono ?_;clear hF;rintro ev w8⟨bb,rfl,hc,hb8⟩))
  exact⟨rfl,.inl ⟨uh HN,⟨bb,rfl,hc⟩⟩,(hb0.trans (hb1.mono hb0.size)).trans (hb8.mono (nT hb0.size hb1.size))⟩
 |some t=>
  have htl:=hz t hx;rw[hx]at hP;simp only[Option.isSome_some,Option.getD_some]at hP;have hS:=λ(u:BA) (hu:u.data.toList=t) w'=>pq u w' (by rw[zE,hu];omega);cases hn:dy t with
  |false=>
   have HN:Hid (cH xs=none):=ab (by rw[cH,hx];simp[hn]);have HS:Hid (∀(u:BA),u.data.toList=t->∀w',Cl 170 #[.string u] w' λe w''=>e=.returned (.bool false)/\w''=w'):=ab (λu hu w'=>by have:=hS u hu w';rw[hu,hn]at this;exact this);clear hx hS hn;go_enter func196,ntmps196;go_upto_region 1 with fail;rw[<-hW0];clear hW0;go_wp2_with (first|(go_at_call 116;refine hP.mono ?_;clear hP;rintro ev w1⟨u,rfl,HU,hb1⟩;have p0:=uh HQ w1 hb1)|(go_at_call 170;refine(uh HS u (uh HU) _).mono ?_;rintro ev w2⟨rfl,hw⟩;obtain rfl:=hw.symm)|(go_at_call 35;refine(hF _).mono ?_;clear hF;rintro ev w8⟨bb,rfl,hc,hb8⟩))
   exact⟨rfl,.inl ⟨uh HN,⟨bb,rfl,hc⟩⟩,(hb0.trans (hb1.mono hb0.size)).trans (hb8.mono (nT hb0.size hb1.size))⟩
  |true=>
   have HN:Hid (cH xs=some t):=ab (by rw[cH,hx];simp[hn]);have HS:Hid (∀(u:BA),u.data.toList=t->∀w',Cl 170 #[.string u] w' λe w''=>e=.returned (.bool true)/\w''=w'):=ab (λu hu w'=>by have:=hS u hu w';rw[hu,hn]at this;exact this);clear hx hS hn;go_enter func196,ntmps196;go_upto_region 1 with fail;rw[<-hW0];clear hW0;go_wp2_with (first|(go_at_call 116;refine hP.mono ?_;clear hP;rintro ev w1⟨u,rfl,HU,hb1⟩)|(go_at_call 170;refine(uh HS u (uh HU) _).mono ?_;rintro ev w2⟨rfl,hw⟩;obtain rfl:=hw.symm))
   go_ret;exact⟨.inr ⟨u,by rw[uh HU];exact uh HN,rfl⟩,hb0.trans (hb1.mono hb0.size)⟩
theorem yc(m:aw)(B:Nat)(w:World)(h:m.Ok w B)(hl:(parts m.xs).length<=1500): Cl 169 #[m.val] w λev w'=>∃u:BA,ev=.returned (.tuple #[.string u,.bool (eW m.xs).isSome])/\Hid (∀t,eW m.xs=some t->u.data.toList=t)/\Bw w w':=by
 obtain⟨W0,hW0⟩:=aq (w.alloc (.cells #[.int .i64 (m.place:Int),m.v] 148));have hb0:=dw hW0;have hP:=fC m B W0 (by rw[hW0];exact World.ownsRow.alloc h _) hl;have hc0:=em hW0;obtain⟨ao,n',cap,hv⟩:=ar h;obtain⟨place,v,xs⟩:=m;simp only at hv hP hc0 hW0⊢;subst hv;have q0:=cq 0 hc0;have q1:=cq 1 hc0;clear h hc0;cases hx:an xs with
 |none=>
  have HN:eW xs=none:=by rw[eW,hx]
  rw[HN];rw[hx]at hP;simp only[Option.isSome_none,Option.getD_none]at hP⊢;clear hx HN;go_enter func169,ntmps169;go_upto_region 1 with fail;rw[<-hW0];clear hW0;go_wp2_with (go_at_call 116;refine hP.mono ?_;clear hP;rintro ev w1⟨u,rfl,HU,hb1⟩)
  go_ret2;exact⟨_,rfl,ab (λt h=>by cases h),hb0.trans (hb1.mono hb0.size)⟩
 |some t=>
  rw[hx]at hP;simp only[Option.isSome_some,Option.getD_some]at hP;have hC:∀(u:BA),u.data.toList=t->∀w',Cl 197 #[.string u,.string ⟨#[45,45,102,114,111,109,61]⟩] w' λev w''=>∃t':BA,ev=.returned (.tuple #[.string t',.bool (eW xs).isSome])/\Hid (∀t,eW xs=some t->t'.data.toList=t)/\w''=w':=λu hu w'=>by
   refine(jW u ⟨#[45,45,102,114,111,109,61]⟩ w').mono ?_;rintro ev w''⟨t',rfl,HT,rfl⟩;have e:Lib.hasPrefix u.data.toList (⟨#[45,45,102,114,111,109,61]⟩:BA).data.toList=(eW xs).isSome:=by rw[hu,eW,hx];show Lib.hasPrefix t [45,45,102,114,111,109,61]=_;simp only;cases Lib.hasPrefix t [45,45,102,114,111,109,61]<;>rfl
   refine⟨t',by rw[e],ab (λt2 h2=>?_),rfl⟩;rw[uh HT (by rw[e,h2];rfl),hu];rw[eW,hx]at h2;simp only at h2;split at h2
   .injection h2
   cases h2
  have HC:=ab hC;clear hx hC;obtain⟨bb,hbb⟩:=aq ((eW xs).isSome);rw[<-hbb]at HC⊢;clear hbb;go_enter func169,ntmps169;go_upto_region 1 with fail;rw[<-hW0];clear hW0;go_wp2_with (first|(go_at_call 116;refine hP.mono ?_;clear hP;rintro ev w1⟨u,rfl,HU,hb1⟩)|(go_at_call 197;refine(uh HC u (uh HU) _).mono ?_;rintro ev w2⟨t2,rfl,HT2,hw⟩;obtain rfl:=hw.symm))
  go_ret2;exact⟨t2,rfl,HT2,hb0.trans (hb1.mono hb0.size)⟩
structure ki where
 ws:List Wd
 stage:Int
structure aU where
 name:LU
 ins:List ki
abbrev yF:LU:=[70,82,79,77]
abbrev vq:LU:=[69,78,86]
abbrev L8:LU:=[65,83]
abbrev a6:LU:=[115,99,114,97,116,99,104]
def plc(ws:List Wd)(i:Nat):Nat:=match ws[i]? with
 |some x=>x.place
 |none=>0
def pln(ws:List Wd)(i:Nat):Option LU:=match ws[i]? with
 |some x=>an x.atoms
 |none=>none
def l9(s:aU)(nm:LU):Bool:=s.ins.any λi=>pln i.ws 0==some vq&&pln i.ws 1==some nm
def j5(s:aU):Int:=match s.ins with
 |[]=>-1
 |i::_=>i.stage
def eM(st:List aU):Nat->Int->LU->Bool
 |0,_,_=>false
 |f+1,i,nm=>if i=-1 then false else match st[i.toNat]? with
  |none=>false
  |some s=>l9 s nm||eM st f (j5 s) nm
def dg(st:List aU)(nm:LU):Bool:=eM st st.length ((st.length:Int)-1) nm
def bf(st:List aU)(nm:LU):Int:=match st.findIdx? (λs=>s.name==nm)with
 |some i=>i
 |none=>-1
def ea(st:List aU):Nat:=(st.map λs=>s.ins.length).sum
def zK(ws:List Wd)(i:Nat):Option LU:=match ws[i]? with
 |some x=>cH x.atoms
 |none=>none
def bp(ws:List Wd):lW (LU×LU):=
 if 2<ws.length/\pln ws 2≠some L8 then .error (5,plc ws 2)
 else if ws.length=3 then .error (5,plc ws 0)
 else if ws.length=4 then match zK ws 3 with
  |none=>.error (5,plc ws 3)
  |some n=>match zK ws 1 with
   |none=>.error (5,plc ws 1)
   |some b=>.ok (b,n)
 else match zK ws 1 with
  |none=>.error (5,plc ws 1)
  |some b=>.ok (b,[])
def ba(st:List aU)(ws:List Wd):lW (List aU×Int):=
 match bp ws with
 |.error e=>.error e
 |.ok (b,n)=>
  if b≠a6/\bf st b=-1 then .error (6,plc ws 1)
  else if n=a6\/(n≠[]/\bf st n≠-1) then .error (6,plc ws 3)
  else if 5<=st.length then .error (10,plc ws 0)
  else .ok (st++[⟨n,[]⟩],if b=a6 then -1 else bf st b)
def bC(st:List aU)(ws:List Wd):lW (List aU×Int):=
 match (match ws[1]? with|some x=>eW x.atoms|none=>none)with
 |none=>if ws.length=4 then .error (5,plc ws 0) else .ok (st,-1)
 |some n=>
  if ws.length≠4 then .error (5,plc ws 0)
  else if dy n=false then .error (5,plc ws 1)
  else if bf st n=-1\/bf st n=(st.length:Int)-1 then .error (6,plc ws 1)
  else .ok (st,bf st n)
def br(op:Nat)(st:List aU)(ws:List Wd):lW (List aU×Int):=
 match op with
 |0=>ba st ws
 |1=>bC st ws
 |4=>if ws.length<3 then .ok (st,-1) else match pln ws 2 with
  |some t=>if fU t=true then .ok (st,-1) else .error (5,plc ws 2)
  |none=>.error (5,plc ws 2)
 |6=>match pln ws 1 with
  |some t=>if fN t=true then .ok (st,-1) else .error (5,plc ws 1)
  |none=>.error (5,plc ws 1)
 |_=>.ok (st,-1)
def bj(set:LU->Bool):List bM->Option Nat
 |[]=>none
 |.inl _::r=>bj set r
 |.inr (n,k)::r=>if set n=true then bj set r else some k
def cS(set:LU->Bool):List Wd->Option Nat
 |[]=>none
 |x::r=>match bj set x.atoms with
  |some k=>some k
  |none=>cS set r
def di(st:List aU)(i:ki):List aU:=match st.getLast? with
 |none=>st
 |some s=>st.dropLast++[⟨s.name,s.ins++[i]⟩]
def bB(st:List aU)(ws:List Wd):lW (List aU):=
 match (match ws[0]? with|some x=>lX x.atoms|none=>none)with
 |none=>.error (5,plc ws 0)
 |some op=>
  if ((ws.length:Int)-1<(af op).1)\/((af op).2.1<(ws.length:Int)-1)\/(st=[]/\op≠0) then .error (5,plc ws 0)
  else match br op st ws with
   |.error e=>.error e
   |.ok (st',k)=>match cS (dg st') ws with
    |some p=>.error (7,p)
    |none=>if 24<=ea st' then .error (10,plc ws 0) else .ok (di st' ⟨ws,k⟩)
def bU(l:LU)(st:List aU)(k:Nat):lW (List aU):=
 if k<l.length then
  match bE l [] k with
  |.error e=>.error e
  |.ok (ws,t)=>if _:k<t then (if ws=[] then bU l st t else match bB st ws with
   |.error e=>.error e
   |.ok st'=>bU l st' t) else .error (5,k)
 else if st=[] then .error (5,l.length) else .ok st
def aI(l:LU):lW (List aU):=
 if 1500<l.length then .error (10,1500)
 else if qo l<l.length then .error (5,qo l)
 else bU l [] 0
def cA.ins(m:cA):ki:=⟨m.ws.map aw.wd,m.stage⟩
structure ax where
 name:BA
 iv:Value
 ins:List cA
def ax.cells(s:ax):List Value:=[.string s.name,s.iv]
def ax.stg(s:ax):aU:=⟨s.name.data.toList,s.ins.map cA.ins⟩
def Ib(l:List cA):List Value:=(l.map cA.cells).flatten
def sD(l:List ax):List Value:=(l.map ax.cells).flatten
theorem J6(l:List ax):(sD l).length=l.length*2:=by
 induction l with
 |nil=>rfl
 |cons a r ih=>simp only[sD,List.map_cons,List.flatten_cons,lA,lC]at ih⊢;rw[ih];simp[ax.cells];omega
theorem GU(l:List cA)(a:cA):Ib (l++[a])=Ib l++a.cells:=by simp[Ib]
theorem kE(l:List ax)(a:ax):sD (l++[a])=sD l++a.cells:=by simp[sD]
theorem GB:∀(l:List cA) (i:Nat) (m:cA),l[i]?=some m->∀j,j<6->(Ib l)[i*6+j]?=m.cells[j]?:=by
 intro l;induction l with
 |nil=>intro i m h;simp at h
 |cons a r ih=>
  intro i m h j hj;have ha:a.cells.length=6:=rfl;show (a.cells++Ib r)[i*6+j]?=_;cases i with
  |zero=>simp at h;subst h;rw[Nat.zero_mul,Nat.zero_add,List.getElem?_append_left (by omega)]
  |succ i=>rw[List.getElem?_append_right (by omega),ha,show (i+1)*6+j-6=i*6+j by omega];exact ih i m (by simpa using h) j hj
theorem EF:∀(l:List ax) (i:Nat) (m:ax),l[i]?=some m->∀j,j<2->(sD l)[i*2+j]?=m.cells[j]?:=by
 intro l;induction l with
 |nil=>intro i m h;simp at h
 |cons a r ih=>
  intro i m h j hj;have ha:a.cells.length=2:=rfl;show (a.cells++sD r)[i*2+j]?=_;cases i with
  |zero=>simp at h;subst h;rw[Nat.zero_mul,Nat.zero_add,List.getElem?_append_left (by omega)]
  |succ i=>rw[List.getElem?_append_right (by omega),ha,show (i+1)*2+j-2=i*2+j by omega];exact ih i m (by simpa using h) j hj
structure cA.Ok(m:cA)(w:World)(B:Nat):Prop where
 ws:mU w B m.wv m.ws
 op:(match m.ws[0]? with|some x=>lX x.xs|none=>none)=some m.rule
 least:(af m.rule).1<=(m.ws.length:Int)-1
 small:∀x∈m.ws,(parts x.xs).length<=1500/\∀t,an x.xs=some t->t.length<=1500
 short:m.ws.length<=1500
structure ax.Ok(s:ax)(w:World)(B:Nat):Prop where
 row:w.ownsRow B 86 6 s.iv s.ins.length (Ib s.ins)
 all:∀m∈s.ins,m.Ok w B
 short:s.ins.length<=1500
structure aQ(w:World)(B fb:Nat)(sv:Value)(ss:List ax):Prop where
 cells:w.heap[fb]?=some (.cells #[sv] 93 (0,0))
 base:B<=fb
 row:w.ownsRow B 106 2 sv ss.length (sD ss)
 all:∀s∈ss,s.Ok w B
 short:ss.length<=5
theorem mU.below{w w':World}{B:Nat}{v:Value}{ms:List aw}(h:mU w B v ms)(hb:Bw w w'):mU w' B v ms:= ⟨ap h.row λk hk=>hb.block k (World.ownsRow.lt h.row k hk).2,λm hm=>ap (h.all m hm) λk hk=>hb.block k (World.ownsRow.lt (h.all m hm) k hk).2⟩
theorem cA.Ok.below{m:cA}{w w':World}{B:Nat}(h:m.Ok w B)(hb:Bw w w'):m.Ok w' B:=⟨h.ws.below hb,h.op,h.least,h.small,h.short⟩
theorem ax.Ok.below{s:ax}{w w':World}{B:Nat}(h:s.Ok w B)(hb:Bw w w'):s.Ok w' B:= ⟨ap h.row λk hk=>hb.block k (World.ownsRow.lt h.row k hk).2,λm hm=>(h.all m hm).below hb,h.short⟩
theorem aQ.lt{w:World}{B fb:Nat}{sv:Value}{ss:List ax}(h:aQ w B fb sv ss):fb<w.heap.size:=(eA.1 h.cells).1
theorem aQ.below{w w':World}{B fb:Nat}{sv:Value}{ss:List ax}(h:aQ w B fb sv ss)(hb:Bw w w'):aQ w' B fb sv ss:= ⟨(hb.block fb h.lt).trans h.cells,h.base,ap h.row λk hk=>hb.block k (World.ownsRow.lt h.row k hk).2,λs hs=>(h.all s hs).below hb,h.short⟩
theorem aQ.c0{w:World}{B fb:Nat}{sv:Value}{ss:List ax}(h:aQ w B fb sv ss):w.cell? ⟨fb,0,none⟩=some sv:=cq 0 h.cells
theorem rJ{w:World}{B g cap:Nat}{ss:List ax}(h:w.ownsRow B 106 2 (.slice (some ⟨g,0,none⟩) ss.length cap) ss.length (sD ss))(i:Nat)(s:ax)(hs:ss[i]?=some s):w.cell? ⟨g,i*2,none⟩=some (.string s.name)/\w.cell? ⟨g,i*2+1,none⟩=some s.iv:=by
 have hi:=(gL hs)
 refine⟨?_,?_⟩
 .rw[World.ownsRow.cellAt h _ (by omega)];exact EF ss i s hs 0 (by omega)
 rw[World.ownsRow.cellAt h _ (by omega)];exact EF ss i s hs 1 (by omega)
theorem lQ{w:World}{B:Nat}{s:ax}(h:s.Ok w B):∃ao n cap,s.iv=.slice ao n cap/\n=s.ins.length:=by
 rcases h.row.2 with⟨e,h0⟩|⟨g,cap,cur,e,_⟩
 .exact⟨_,_,_,e,h0.symm⟩
 exact⟨_,_,_,e,rfl⟩
theorem uX{α:Type}{p:α->Bool}{l:List α}(h:∀(i:Nat) (a:α),l[i]?=some a->p a=false):l.findIdx? p=none:=by rw[List.findIdx?_eq_none_iff];intro x hx;obtain⟨i,hi,rfl⟩:=List.mem_iff_getElem.1 hx;exact h i _ (gG hi)
theorem vQ{α:Type}{p:α->Bool}{l:List α}{k:Nat}{a:α}(hk:l[k]?=some a)(ha:p a=true)(h:∀(i:Nat) (b:α),i<k->l[i]?=some b->p b=false):l.findIdx? p=some k:=by obtain⟨hlt,e⟩:=eL.1 hk;rw[List.findIdx?_eq_some_iff_getElem];refine⟨hlt,by rw[e];exact ha,λj hj=>?_⟩;have:=h j _ hj (gG (by omega));simp[this]
theorem zX{ss:List ax}{nm:LU}(h:∀(i:Nat) s,ss[i]?=some s->s.name.data.toList≠nm):bf (ss.map ax.stg) nm=-1:=by
 unfold bf;rw[uX (λi a ha=>?_)];rw[List.getElem?_map]at ha;cases hs:ss[i]? with
 |none=>rw[hs]at ha;cases ha
 |some s=>rw[hs]at ha;cases ha;simpa[ax.stg]using h i s hs
theorem zx{ss:List ax}{nm:LU}{k:Nat}{s:ax}(hk:ss[k]?=some s)(hn:s.name.data.toList=nm)(h:∀(i:Nat) s,i<k->ss[i]?=some s->s.name.data.toList≠nm):bf (ss.map ax.stg) nm=k:=by
 unfold bf;rw[vQ (k:=k) (a:=s.stg) (by rw[List.getElem?_map,hk];rfl) (by simp[ax.stg,hn]) (λi b hi hb=>?_)];rw[List.getElem?_map]at hb;cases hs:ss[i]? with
 |none=>rw[hs]at hb;cases hb
 |some s'=>rw[hs]at hb;cases hb;simpa[ax.stg]using h i s' hi hs
theorem cY(B fb:Nat)(sv:Value)(ss:List ax)(nm:BA)(w:World)(h:aQ w B fb sv ss): Cl 165 #[.pointer (some ⟨fb,0,none⟩),.string nm] w λev w'=>ev=.returned (.int .i64 (bf (ss.map ax.stg) nm.data.toList))/\Bw w w':=by
 have c0:=h.c0;have hsh:=h.short;rcases h.row.2 with⟨rfl,h0⟩|⟨g,cap,cur,rfl,_⟩
 .have e:ss=[]:=List.length_eq_zero_iff.1 h0;subst e;have HF:Hid (bf (([]:List ax).map ax.stg) nm.data.toList=-1):=ab rfl;clear h;go_enter func165,ntmps165;go_wp2_with fail;go_loop [12] (λi=>i=.int .i64 0) (λ_=>0);case atStart=>rfl
  case round=>subst hrel;go_wp2;go_ret;exact⟨rfl,bR _ _⟩
 have HF:=ab h;obtain⟨n,hn⟩:=aq ss.length;have HN:=ab hn;have HROW:=ab h.row;rw[<-hn]at c0 hsh;clear h;go_enter func165,ntmps165;go_wp2_with fail;go_loopw [12] (λi wr=>∃k:Nat,k<=n/\i=.int .i64 k/\Bw w wr/\(∀(i:Nat) s,i<k->ss[i]?=some s->s.name.data.toList≠nm.data.toList)) (λi _=>n-(intOf i).toNat);case atStart=>exact⟨0,Nat.zero_le _,rfl,bR _ _,λi s hi=>by omega⟩
 case round=>
  obtain⟨k,hk,rfl,hb,ha⟩:=hrel;have A:=ab ha;clear ha;by_cases hlt:k<n
  .have hlt':k<ss.length:=by rw[<-uh HN];exact hlt
   obtain⟨s,hs⟩:∃s,ss[k]?=some s:=⟨_,gG hlt'⟩
   have hok:=(uh HF).all s (mG hs);obtain⟨q0,q1⟩:=rJ (ap (uh HROW) (w':=wr) λj hj=>hb.block j (World.ownsRow.lt (uh HROW) j hj).2) k s hs;obtain⟨ao,n2,cap2,hiv,_⟩:=lQ hok;rw[hiv]at q1;have n0:=World.new_ne wr ⟨g,k*2,none⟩ q0;clear hok hiv;by_cases he:s.name.data.toList=nm.data.toList
   .have HR:Hid (bf (ss.map ax.stg) nm.data.toList=(k:Int)):=ab (zx hs he (uh A));have g1:(s.name.toList==nm.toList)=true:=by rw[tD,tD,he];simp
    clear he hs;go_wp2_with fail;go_ret;exact⟨by rw[uh HR];rfl,hb.alloc hb.size _⟩
   have A2:Hid (∀(i:Nat) s,i<k+1->ss[i]?=some s->s.name.data.toList≠nm.data.toList):=ab (λi s' hi hs'=>by
    by_cases hik:i=k
    .subst hik;rw[hs]at hs';cases hs';exact he
    exact uh A i s' (by omega) hs')
   have g1:(s.name.toList==nm.toList)=false:=by rw[tD,tD];simpa using he
   clear he hs;go_wp2_with fail;go_roundw;case rel=>
    first
     |exact⟨k+1,by omega,by go_num,hb.alloc hb.size _,uh A2⟩
     |((repeat apply Exists.intro);exact⟨⟨k+1,by omega,by go_num,hb.alloc hb.size _,uh A2⟩,rfl⟩)
   case measure=>simp[intOf];omega
  have HR:Hid (bf (ss.map ax.stg) nm.data.toList=-1):=ab (zX (λi s hs=>uh A i s (by
   have:=(gL hs)
   rw[<-uh HN]at this;omega) hs))
  go_wp2_with fail
  go_ret;exact⟨by rw[uh HR];rfl,hb⟩
end Go.Proofs.YtjhobnjdfhkohaaGreatDoor
