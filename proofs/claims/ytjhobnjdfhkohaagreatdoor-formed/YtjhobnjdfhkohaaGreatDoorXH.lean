import Derived.Test.YtjhobnjdfhkohaaGreatDoorXC
import Derived.Test.YtjhobnjdfhkohaaGreatDoorXG
import Derived.Deep.AppendLies
import Derived.Deep.RegionHeld3
import Derived.WalkLawsBesides
set_option linter.all false
set_option maxHeartbeats 4000000
namespace Go.Proofs.YtjhobnjdfhkohaaGreatDoor
open Go.Proofs.Tryz
open Go.RowKit Go.Extern.Stop Go.Stop Go.Extern
theorem IL(q t:Addr)(old:Value)(w:World)(hg:w.cell? ⟨0,0,none⟩=some (.iface 157 (.agg #[.pointer (some ⟨22,45,none⟩)])))(ht0:w.cell? t=some old)(hf0:w.frozen? t=false): Cl 24 #[.iface 137 (.pointer (some q)),.iface 139 (.pointer (some t))] w λev w'=>ev=.returned (.bool true)/\w'=((((w.alloc (.cells #[.pointer (some t)] 139)).alloc (.cells #[.pointer (some ⟨22,139,none⟩),.pointer (some ⟨w.heap.size,0,none⟩),.int .u64 150] 112)).alloc (.cells #[.pointer (some ⟨22,139,none⟩),.pointer (some ⟨w.heap.size,0,none⟩),.int .u64 150] 112)).alloc (.cells #[.pointer (some q)] 137)).setCell t (.pointer (some q)):=by
 have h55:=@run_callFunc_extern prog 39 _ (λargs=>ReflectliteValue.unpack (args.getD 0 (.tuple #[]))) func39 (by kernel_rfl) (by kernel_rfl) (by kernel_rfl) (by kernel_rfl);have h56:=@run_callFunc_extern prog 40 _ (ReflectliteValue.methodAny (ReflectliteValue.valueError "reflectlite.Value.Type" 0) (λt _ _ _=>ReflectliteType.toType t)) func40 (by kernel_rfl) (by kernel_rfl) (by kernel_rfl) (by kernel_rfl);have h57:=@run_callFunc_extern prog 41 _ (ReflectliteValue.method (ReflectliteValue.valueError "reflectlite.Value.IsNil" 0) ReflectliteValue.isNil) func41 (by kernel_rfl) (by kernel_rfl) (by kernel_rfl) (by kernel_rfl);have h219:=@run_callFunc_extern prog 304 _ (ReflectliteType.abiMethod λt=>do pure (.int .u8 (<- Rtype.kind t))) func304 (by kernel_rfl) (by kernel_rfl) (by kernel_rfl) (by kernel_rfl);have h232:=@run_callFunc_extern prog 324 _ (ReflectliteType.method ReflectliteType.elem) func324 (by kernel_rfl) (by kernel_rfl) (by kernel_rfl) (by kernel_rfl);have h233:=@run_callFunc_extern prog 325 _ (ReflectliteType.relation "Implements" ReflectliteType.implements_) func325 (by kernel_rfl) (by kernel_rfl) (by kernel_rfl) (by kernel_rfl);have h90:=@run_callFunc_extern prog 66 _ ReflectliteType.typeOf func66 (by kernel_rfl) (by kernel_rfl) (by kernel_rfl) (by kernel_rfl);have h230:=@run_callFunc_extern prog 322 _ (ReflectliteType.relation "AssignableTo" ReflectliteType.assignableTo) func322 (by kernel_rfl) (by kernel_rfl) (by kernel_rfl) (by kernel_rfl);have h91:=@run_callFunc_extern prog 67 _ (ReflectliteValue.method (ReflectliteValue.valueError "reflectlite.Value.Elem" 0) ReflectliteValue.elem) func67 (by kernel_rfl) (by kernel_rfl) (by kernel_rfl) (by kernel_rfl);have h92:=@run_callFunc_extern prog 68 _ ReflectliteValue.set func68 (by kernel_rfl) (by kernel_rfl) (by kernel_rfl) (by kernel_rfl);have tO:=Tryz.typeOf137;have mA:=Tryz.methodAssignableTo;have a49:=Tryz.assignable137;have v49:=Tryz.valueOf137;have f6:=Tryz.valueOf139;have f7:=Tryz.type139;have mK:=Tryz.methodKind;have mE:=Tryz.methodElem;have mI:=Tryz.methodImplements;have k51:=Tryz.kind139;have k49:=Tryz.kind137;have e51:=Tryz.elem139;have i49:=Tryz.implements137;have n8:=Tryz.isNil139 ⟨w.heap.size,0,none⟩ t ((w.alloc (.cells #[.pointer (some t)] 139)).alloc (.cells #[.pointer (some ⟨22,139,none⟩),.pointer (some ⟨w.heap.size,0,none⟩),.int .u64 150] 112)) (by simp);have hlt:0<w.heap.size:=by
  rcases Nat.eq_zero_or_pos w.heap.size with h0|h
  .simp[World.cell?,h0]at hg
  exact h
 have hg2:((w.alloc (.cells #[.pointer (some t)] 139)).alloc (.cells #[.pointer (some ⟨22,139,none⟩),.pointer (some ⟨w.heap.size,0,none⟩),.int .u64 150] 112)).cell? ⟨0,0,none⟩=some (.iface 157 (.agg #[.pointer (some ⟨22,45,none⟩)])):=by rw[World.cell?_alloc_lt _ _ ⟨0,0,none⟩ (by simp),World.cell?_alloc_lt _ _ ⟨0,0,none⟩ hlt];exact hg
 have htl:t.block<w.heap.size:=by
  rcases Nat.lt_or_ge t.block w.heap.size with h|h
  .exact h
  simp[World.cell?,Array.getElem?_eq_none h]at ht0
 have el:=Tryz.elemV139 ⟨w.heap.size,0,none⟩ t (((w.alloc (.cells #[.pointer (some t)] 139)).alloc (.cells #[.pointer (some ⟨22,139,none⟩),.pointer (some ⟨w.heap.size,0,none⟩),.int .u64 150] 112)).alloc (.cells #[.pointer (some ⟨22,139,none⟩),.pointer (some ⟨w.heap.size,0,none⟩),.int .u64 150] 112)) (by rw[World.cell?_alloc_lt _ _ ⟨w.heap.size,0,none⟩ (by simp;omega)];simp);have st:=Tryz.set137 t ⟨w.heap.size+1+1+1,0,none⟩ q old ((((w.alloc (.cells #[.pointer (some t)] 139)).alloc (.cells #[.pointer (some ⟨22,139,none⟩),.pointer (some ⟨w.heap.size,0,none⟩),.int .u64 150] 112)).alloc (.cells #[.pointer (some ⟨22,139,none⟩),.pointer (some ⟨w.heap.size,0,none⟩),.int .u64 150] 112)).alloc (.cells #[.pointer (some q)] 137)) (by rw[World.cell?_alloc_at _ _ _ _ (by simp)];rfl) (by rw[World.cell?_alloc_lt _ _ t (by simp;omega),World.cell?_alloc_lt _ _ t (by simp;omega),World.cell?_alloc_lt _ _ t (by simp;omega),World.cell?_alloc_lt _ _ t htl];exact ht0) (by rw[World.frozen?_alloc_old _ _ t (by simp;omega),World.frozen?_alloc_old _ _ t (by simp;omega),World.frozen?_alloc_old _ _ t (by simp;omega),World.frozen?_alloc_old _ _ t (Nat.ne_of_lt htl)];exact hf0);go_enter func24,ntmps24;go_wp2;refine wp_loop_rounds 1 ?_;rw[rounds_succ];go_wp2;go_ret;exact⟨rfl,rfl⟩
end Go.Proofs.YtjhobnjdfhkohaaGreatDoor
namespace Go.Proofs.YtjhobnjdfhkohaaGreatDoor
open Go.Proofs.Tryz
open Go Go.RowKit
abbrev bM:=Sum UInt8 (LU×Nat)
abbrev lW(α:Type):=Except (Nat×Nat) α
def iF(c:UInt8):Bool:=decide (65<=c.toNat/\c.toNat<=90)
def oJ(c:UInt8):Bool:=decide (48<=c.toNat/\c.toNat<=57)
def c9(c:UInt8):Bool:=iF c||oJ c||c==95
def aC(l:LU):Nat:=match l with
 |[]=>0
 |c::_=>if iF c=true then (l.takeWhile c9).length else 0
def fN(l:LU):Bool:=l != []&&decide (l.length<=10)&&aC l==l.length
def ie(l:LU)(k:Nat):Option (LU×Nat):=
 let b:=l[k+1]?==some 123
 let f:=if b then k+2 else k+1
 let n:=aC (l.drop f)
 if n=0\/10<n\/(b=true/\l[f+n]?≠some 125) then none
 else some ((l.drop f).take n,if b then f+n+1 else f+n)
def ct(l:LU)(k:Nat):Bool:=l[k]?==some 92&&l[k+1]?==some 10
def Ai(c:UInt8):Bool:=c==34||c==92||c==36
def dU(l:LU)(i:Nat)(acc:List bM)(k:Nat):lW (List bM×Nat):=
 match hk:l[k]? with
 |none=>.error (5,i)
 |some c=>
  have hlt:=(gL hk)
  if c=10 then .error (5,i)
  else if c=34 then .ok (acc,k+1)
  else if c=36 then
   match ie l k with
   |none=>.error (5,k)
   |some (n,t)=>if h:k<t then dU l i (acc++[.inr (n,k)]) t else .error (5,k)
  else if c=92 then
   match l[k+1]? with
   |none=>.error (5,k)
   |some d=>if Ai d=true then dU l i (acc++[.inl d]) (k+2) else .error (5,k)
  else dU l i (acc++[.inl c]) (k+1)
def cP(l:LU)(acc:List bM)(k:Nat):lW (List bM×Nat):=
 match hk:l[k]? with
 |none=>.ok (acc,k)
 |some c=>
  have hlt:=(gL hk)
  if c=10\/c=32\/ct l k=true then .ok (acc,k)
  else if c=34 then
   match dU l k acc (k+1)with
   |.error e=>.error e
   |.ok (a,t)=>if _:k<t then cP l a t else .error (5,k)
  else if c=36 then
   match ie l k with
   |none=>.error (5,k)
   |some (n,t)=>if h:k<t then cP l (acc++[.inr (n,k)]) t else .error (5,k)
  else if c=92 then
   match l[k+1]? with
   |none=>.error (5,k)
   |some d=>cP l (acc++[.inl d]) (k+2)
  else cP l (acc++[.inl c]) (k+1)
structure Wd where
 atoms:List bM
 place:Nat
def kr(l:LU)(k:Nat):Nat:=k+((l.drop k).takeWhile (λc=>c != 10)).length
theorem Ld(l:LU)(k:Nat):k<=kr l k:=by unfold kr;omega
theorem vT{l:LU}{k:Nat}(h:k<=l.length):kr l k<=l.length:=by unfold kr;have:=(List.takeWhile_prefix (p:=λc=>c != 10) (l:=l.drop k)).length_le;rw[List.length_drop]at this;omega
theorem qK{l:LU}{k:Nat}(h:l[k]?=some 35):k<kr l k:=by
 unfold kr;have hlt:=(gL h)
 rw[List.drop_eq_getElem_cons hlt];have:l[k]=35:=(eL.1 h).2;rw[this];simp
def bE(l:LU)(ws:List Wd)(k:Nat):lW (List Wd×Nat):=
 match hk:l[k]? with
 |none=>.ok (ws,k)
 |some c=>
  have hlt:=(gL hk)
  if c=10 then .ok (ws,k+1)
  else if ct l k=true then bE l ws (k+2)
  else if c=32 then bE l ws (k+1)
  else if h35:c=35/\ws=[] then
   have hc:=qK (by rw[hk,h35.1])
   bE l ws (kr l k)
  else match cP l [] k with
   |.error e=>.error e
   |.ok (a,t)=>if h:k<t then bE l (ws++[⟨a,k⟩]) t else .error (5,k)
end Go.Proofs.YtjhobnjdfhkohaaGreatDoor
namespace Go.Proofs.YtjhobnjdfhkohaaGreatDoor
open Go.Proofs.Tryz
open Go.RowKit
def dB(w:World)(rb:Nat)(s:BA)(k:Nat):Prop:=w.heap[rb]?=some (.cells #[.string s,.int .i64 (k:Int)] 144 (0,0))
theorem dB.c0{w:World}{rb:Nat}{s:BA}{k:Nat}(h:dB w rb s k):w.cell? ⟨rb,0,none⟩=some (.string s):=cq 0 h
theorem dB.c1{w:World}{rb:Nat}{s:BA}{k:Nat}(h:dB w rb s k):w.cell? ⟨rb,1,none⟩=some (.int .i64 (k:Int)):=cq 1 h
theorem dB.fz{w:World}{rb:Nat}{s:BA}{k:Nat}(h:dB w rb s k)(i:Nat):w.frozen? ⟨rb,i,none⟩=false:=by unfold dB at h;simp[World.frozen?,h]
theorem dB.lt{w:World}{rb:Nat}{s:BA}{k:Nat}(h:dB w rb s k):rb<w.heap.size:=(bY h)
theorem dB.to{w:World}{rb:Nat}{s:BA}{k:Nat}(h:dB w rb s k)(k':Nat):dB (w.setCell ⟨rb,1,none⟩ (.int .i64 (k':Int))) rb s k':= oX _ _ 1 _ _ _ h
structure Tb(B rb:Nat)(w w':World):Prop where
 os:w'.os=w.os
 tape:w'.tape=w.tape
 output:w'.output=w.output
 size:w.heap.size<=w'.heap.size
 block:∀k,k<B->k≠rb->w'.heap[k]?=w.heap[k]?
theorem Tb.refl(B rb:Nat)(w:World):Tb B rb w w:=⟨rfl,rfl,rfl,bH _,λ_ _ _=>rfl⟩
theorem Tb.trans{B rb:Nat}{a b c:World}(h:Tb B rb a b)(k:Tb B rb b c):Tb B rb a c:= ⟨k.os.trans h.os,k.tape.trans h.tape,k.output.trans h.output,dz h.size k.size,λi hi hr=>(k.block i hi hr).trans (h.block i hi hr)⟩
theorem Tb.mono{B B' rb:Nat}{w w':World}(h:Tb B rb w w')(hB:B'<=B):Tb B' rb w w':=⟨h.os,h.tape,h.output,h.size,λk hk=>h.block k (Nat.lt_of_lt_of_le hk hB)⟩
theorem Tb.of_below{B rb:Nat}{w w':World}(h:Below B w w'):Tb B rb w w':=⟨h.os,h.tape,h.output,h.size,λk hk _=>h.block k hk⟩
theorem Tb.below{B rb:Nat}{w w':World}(h:Tb B rb w w')(hr:B<=rb):Below B w w':=⟨h.os,h.tape,h.output,h.size,λk hk=>h.block k hk (by omega)⟩
theorem Tb.to(B rb:Nat)(w:World)(i:Nat)(v:Value):Tb B rb w (w.setCell ⟨rb,i,none⟩ v):= ⟨rfl,rfl,rfl,by simp,λk _ hr=>Below.heap_setCell _ _ _ _ hr⟩
theorem dB.below{w w':World}{rb B:Nat}{s:BA}{k:Nat}(h:dB w rb s k)(hb:Below B w w')(hl:rb<B):dB w' rb s k:=(hb.block rb hl).trans h
theorem below_drewN{B:Nat}{a w:World}(h:Below B a w)(n:Nat):Below B a (w.drewN n):=⟨h.os,h.tape,h.output,h.size,h.block⟩
theorem kH(rb:Nat)(s:BA)(k:Nat)(w:World)(h:dB w rb s k)(hk:k<=s.size): Cl 81 #[.pointer (some ⟨rb,0,none⟩)] w λe w'=>e=.returned (.string (s.extract k s.size))/\Bw w w':=by
 have h0:=h.c0;have h1:=h.c1;have i0:(0:Int)<=(k:Int):=by omega
 have i1:(k:Int)<=(s.size:Int):=by omega
 clear h;go_enter func81,ntmps81;go_upto_region 1 with fail;go_quiet (fail);go_wp2;go_ret;exact⟨rfl,below_drewN (ju _ _) _⟩
theorem Hl(rb:Nat)(s:BA)(k:Nat)(w:World)(h:dB w rb s k): Cl 32 #[.pointer (some ⟨rb,0,none⟩)] w λe w'=>e=.returned (.bool (decide (k<s.size)))/\Bw w w':=by have h0:=h.c0;have h1:=h.c1;clear h;go_enter func32,ntmps32;go_upto_region 1 with fail;go_quiet (fail);go_wp2;go_ret;exact⟨ag (by simp),below_drewN (ju _ _) _⟩
theorem J8(s p:BA)(w:World): Cl 80 #[.string s,.string p] w λe w'=>e=.returned (.bool (Lib.hasPrefix s.data.toList p.data.toList))/\w'=w:=by
 have hI:Cl 109 #[.string s,.string p] w λe w'=>e=.returned (.bool (Lib.hasPrefix s.data.toList p.data.toList))/\w'=w:=by
  have H:=ab (Lib.hasPrefix_raw s p);go_enter func109,ntmps109;go_wp2
  .go_ret;exact⟨ag (by rw[<-uh H];simp[*]),rfl⟩
  go_ret;exact⟨ag (by rw[<-uh H];simp[*]),rfl⟩
 first
  |(go_enter func80,ntmps80
    go_wp2_with (go_at_call 109;refine hI.mono ?_;clear hI;rintro ev w1⟨rfl,hw⟩;obtain rfl:=hw.symm)
    go_ret;exact⟨rfl,rfl⟩)
theorem gZ(s:BA)(k:Nat):(s.extract k s.size).data.toList=s.data.toList.drop k:=by rw[ByteArray.data_extract,Array.toList_extract,List.extract_eq_take_drop];exact List.take_of_length_le (by rw[List.length_drop,<-im];omega)
def gM(s:BA)(k:Nat)(p:BA):Bool:=Lib.hasPrefix (s.data.toList.drop k) p.data.toList
theorem mq(rb:Nat)(s p:BA)(k:Nat)(w:World)(h:dB w rb s k)(hk:k<=s.size): Cl 54 #[.pointer (some ⟨rb,0,none⟩),.string p] w λe w'=>e=.returned (.bool (gM s k p))/\Bw w w':=by
 have hR:=kH rb s k w h hk;have hP:=λw1=>J8 (s.extract k s.size) p w1;rw[gZ]at hP;clear h;go_enter func54,ntmps54;go_wp2_with (first|(go_at_call 81;refine hR.mono ?_;clear hR;rintro ev w1⟨rfl,hb1⟩)|(go_at_call 80;refine(hP _).mono ?_;clear hP;rintro ev w2⟨rfl,hw⟩;obtain rfl:=hw.symm))
 go_ret;exact⟨rfl,hb1⟩
theorem Bg(rb:Nat)(s p:BA)(k:Nat)(w:World)(h:dB w rb s k)(hk:k<=s.size)(hp:gM s k p=false): Cl 56 #[.pointer (some ⟨rb,0,none⟩),.string p] w λe w'=>e=.returned (.bool false)/\Bw w w':=by
 have hB:=mq rb s p k w h hk;rw[hp]at hB;clear h hp;go_enter func56,ntmps56;go_wp2_with (go_at_call 54;refine hB.mono ?_;clear hB;rintro ev w1⟨rfl,hb1⟩)
 go_ret;exact⟨rfl,hb1⟩
theorem Lv{s p:BA}{k:Nat}(hk:k<=s.size)(hp:gM s k p=true):k+p.size<=s.size:=by rw[gM,Lib.hasPrefix,List.isPrefixOf_iff_prefix]at hp;have:=hp.length_le;rw[List.length_drop,<-im,<-im]at this;omega
theorem xP(rb:Nat)(s p:BA)(k:Nat)(w:World)(h:dB w rb s k)(hk:k<=s.size)(hs:s.size<=1073741824)(hp:gM s k p=true): Cl 56 #[.pointer (some ⟨rb,0,none⟩),.string p] w λe w'=>e=.returned (.bool true)/\dB w' rb s (k+p.size)/\Tb w.heap.size rb w w':=by
 have hB:=mq rb s p k w h hk;have hle:=Lv hk hp;rw[hp]at hB;have H:=ab h;clear h hp;go_enter func56,ntmps56;go_upto_region 3 with(go_at_call 54;refine hB.mono ?_;clear hB;rintro ev w1⟨rfl,hb1⟩)
 have h':=(uh H).below hb1 (uh H).lt;have HR:=ab h';have h1:=h'.c1;have z1:=h'.fz 1;clear h';go_wp2_with fail;go_ret;have e:IntKind.i64.wrap ((k:Int)+(p.size:Int))=((k+p.size:Nat):Int):=by rw[<-Int.natCast_add];exact wrap_i64 _ (by omega)
 exact⟨rfl,(uh HR).to _,(Tb.of_below hb1).trans (Tb.to _ _ _ _ _)⟩
theorem ye(c:UInt8)(l p:LU):Lib.hasPrefix l (c::p)=(match l with|[]=>false|d::r=>c==d&&Lib.hasPrefix r p):=by
 cases l with
 |nil=>rfl
 |cons d r=>simp[Lib.hasPrefix,List.isPrefixOf]
theorem IR(l:LU):Lib.hasPrefix l []=true:=by simp[Lib.hasPrefix,List.isPrefixOf]
theorem xk(c d:UInt8):(c==d)=(some d==some c):=by rw[Bool.eq_iff_iff,beq_iff_eq,beq_iff_eq];exact⟨λh=>by rw[h],λh=>by injection h with h;exact h.symm⟩
theorem fP(s:BA)(k:Nat)(c:UInt8):gM s k ⟨#[c]⟩=(s.data.toList[k]?==some c):=by
 unfold gM;show Lib.hasPrefix _ [c]=_;rw[ye];cases h:s.data.toList[k]? with
 |none=>rw[List.drop_eq_nil_of_le (by simpa using h)];rfl
 |some d=>obtain⟨h1,h2⟩:=eL.1 h;rw[List.drop_eq_getElem_cons h1,h2];simp only[IR,Bool.and_true];exact xk c d
theorem uV(s:BA)(k:Nat):gM s k ⟨#[92,10]⟩=ct s.data.toList k:=by
 unfold gM ct;show Lib.hasPrefix _ [92,10]=_;rw[ye];cases h:s.data.toList[k]? with
 |none=>rw[List.drop_eq_nil_of_le (by simpa using h)];rfl
 |some d=>obtain⟨h1,h2⟩:=eL.1 h;rw[List.drop_eq_getElem_cons h1,h2];simp only;have:=fP s (k+1) 10;unfold gM at this;rw[show (⟨#[10]⟩:BA).data.toList=[10] from rfl]at this;rw[this];rw[xk 92 d]
def gm(l:LU)(k:Nat):Nat:=
 if hk:l[k]?=some 32 then
  have hlt:=(gL hk)
  gm l (k+1)
 else if hg:ct l k=true then
  have hlt:k<l.length:=by unfold ct at hg;simp only[bA,beq_iff_eq]at hg;exact(gL hg.1)
  gm l (k+2)
 else k
theorem BJ{l:LU}{k:Nat}(hg:ct l k=true):k+1<l.length:=by unfold ct at hg;simp only[bA,beq_iff_eq]at hg;exact(gL hg.2)
theorem DB{l:LU}{k:Nat}(h:l[k]?=some 32):gm l k=gm l (k+1):=by rw[gm,dif_pos h]
theorem Gs{l:LU}{k:Nat}(h:ct l k=true):gm l k=gm l (k+2):=by
 rw[gm];have hn:¬l[k]?=some 32:=by unfold ct at h;simp only[bA,beq_iff_eq]at h;rw[h.1];simp
 rw[dif_neg hn,dif_pos h]
theorem Ir{l:LU}{k:Nat}(h:¬l[k]?=some 32)(hg:ct l k=false):gm l k=k:=by rw[gm,dif_neg h,dif_neg (by simp[hg])]
theorem zp(l:LU)(k:Nat):k<=gm l k:=by fun_induction gm l k<;>omega
theorem zC{l:LU}{k:Nat}(h:k<=l.length):gm l k<=l.length:=by
 fun_induction gm l k with
 |case1 k hk hlt ih=>exact ih (by omega)
 |case2 k hk hg hlt ih=>exact ih (by have:=BJ hg;omega)
 |case3=>exact h
theorem li(l:LU)(k:Nat):¬l[gm l k]?=some 32/\ct l (gm l k)=false:=by
 fun_induction gm l k with
 |case1 k hk hlt ih=>exact ih
 |case2 k hk hg hlt ih=>exact ih
 |case3 k hk hg=>exact⟨hk,by simpa using hg⟩
theorem vh(l:LU)(ws:List Wd)(k:Nat):bE l ws k=bE l ws (gm l k):=by
 fun_induction gm l k with
 |case1 k hk hlt ih=>
  rw[<-ih]
  conv=>lhs;rw[bE]
  split
  .rename_i h;rw[hk]at h;cases h
  .rename_i c h;rw[hk]at h;cases h;have:ct l k=false:=by unfold ct;rw[hk];rfl
   simp[this]
 |case2 k hk hg hlt ih=>
  rw[<-ih]
  have h0:l[k]?=some 92:=by unfold ct at hg;simp only[bA,beq_iff_eq]at hg;exact hg.1
  conv=>lhs;rw[bE]
  split
  .rename_i h;rw[h0]at h;cases h
  .rename_i c h;rw[h0]at h;cases h;simp[hg]
 |case3=>rfl
def xM(w:World)(rb:Nat):Nat:=match w.cell? ⟨rb,1,none⟩with
 |some (.int _ q)=>q.toNat
 |_=>0
theorem dB.at{w:World}{rb:Nat}{s:BA}{k:Nat}(h:dB w rb s k):xM w rb=k:=by unfold xM;rw[h.c1];simp
theorem kL(rb:Nat)(s p:BA)(k:Nat)(w:World)(h:dB w rb s k)(hk:k<=s.size)(hs:s.size<=1073741824): Cl 56 #[.pointer (some ⟨rb,0,none⟩),.string p] w λe w'=>e=.returned (.bool (gM s k p))/\dB w' rb s (if gM s k p=true then k+p.size else k)/\Tb w.heap.size rb w w':=by
 cases hp:gM s k p with
 |true=>exact xP rb s p k w h hk hs hp
 |false=>refine(Bg rb s p k w h hk hp).mono ?_;rintro e w'⟨rfl,hb⟩;exact⟨rfl,by simpa using h.below hb h.lt,Tb.of_below hb⟩
theorem sy(rb:Nat)(s:BA)(k:Nat)(w:World)(h:dB w rb s k)(hk:k<=s.size)(hs:s.size<=1073741824): Cl 53 #[.pointer (some ⟨rb,0,none⟩)] w λe w'=>e=.returned (.tuple #[])/\dB w' rb s (gm s.data.toList k)/\Tb w.heap.size rb w w':=by
 have H:=ab h;clear h;go_enter func53,ntmps53;go_wp2_with fail;go_loopw [2] (λ_ wr=>∃j:Nat,j<=s.size/\dB wr rb s j/\gm s.data.toList k=gm s.data.toList j/\Tb w.heap.size rb w wr) (λ_ wr=>s.size-xM wr rb);case atStart=>exact⟨k,hk,uh H,rfl,Tb.refl _ _ _⟩
 case round=>
  obtain⟨j,hj,hR,hG,hT⟩:=hrel;have HR:=ab hR;have HG:=ab hG;have hA:=hR.at
  have hT1:=kL rb s ⟨#[32]⟩ j wr hR hj hs;rw[fP]at hT1;clear hR hG;by_cases h1:s.data.toList[j]?=some 32
  .have hlt:j<s.size:=by rw[zE];exact(gL h1)
   have HE:=ab (DB h1);rw[h1]at hT1;simp only[BEq.rfl,if_true]at hT1;clear h1;go_wp2_with (go_at_call 56;refine hT1.mono ?_;clear hT1;rintro ev w1⟨rfl,hR1,hT2⟩)
   go_roundw;case rel=>exact⟨j+1,by omega,hR1,(uh HG).trans (uh HE),hT.trans (hT2.mono hT.size)⟩
   case measure=>rw[hA,hR1.at];show s.size-(j+1)<_;omega
  have hT1':Cl 56 #[.pointer (some ⟨rb,0,none⟩),.string ⟨#[32]⟩] wr λe w'=>e=.returned (.bool false)/\dB w' rb s j/\Tb wr.heap.size rb wr w':=by
   have e:(s.data.toList[j]?==some 32)=false:=by simpa using h1
   rw[e]at hT1;simpa using hT1
  clear hT1;cases hg:ct s.data.toList j with
  |true=>
   have HE:=ab (Gs hg);have hlt:j+1<s.size:=by rw[zE];exact BJ hg
   have hb2:gM s j ⟨#[92,10]⟩=true:=by rw[uV,hg]
   clear h1 hg;go_wp2_with (first|(go_at_call 56;refine hT1'.mono ?_;clear hT1';rintro ev w1⟨rfl,hR1,hT2⟩;have hT3:=xP rb s ⟨#[92,10]⟩ j w1 hR1 hj hs hb2)|(go_at_call 56;refine hT3.mono ?_;clear hT3;rintro ev w2⟨rfl,hR2,hT4⟩))
   go_roundw;case rel=>exact⟨j+2,by omega,hR2,(uh HG).trans (uh HE),(hT.trans (hT2.mono hT.size)).trans (hT4.mono (nT hT.size hT2.size))⟩
   case measure=>rw[hA,hR2.at];show s.size-(j+2)<_;omega
  |false=>
   have HE:=ab (Ir h1 hg);have hb2:gM s j ⟨#[92,10]⟩=false:=by rw[uV,hg]
   clear h1 hg;go_wp2_with (first|(go_at_call 56;refine hT1'.mono ?_;clear hT1';rintro ev w1⟨rfl,hR1,hT2⟩;have hT3:=Bg rb s ⟨#[92,10]⟩ j w1 hR1 hj hb2)|(go_at_call 56;refine hT3.mono ?_;clear hT3;rintro ev w2⟨rfl,hb4⟩))
   go_end0;exact⟨rfl,by rw[uh HG,uh HE];exact hR1.below hb4 hR1.lt,(hT.trans (hT2.mono hT.size)).trans (Tb.of_below (hb4.mono (nT hT.size hT2.size)))⟩
theorem EW(e p:Int)(w:World): Cl 35 #[.int .i64 e,.int .i64 p] w λev w'=>ev=.panicked [{ v:=.iface 137 (.pointer (some ⟨w.heap.size,0,none⟩)),recovered:=false }]/\w'=w.alloc (.cells #[.int .i64 e,.int .i64 p] 140):=by go_enter func35,ntmps35;go_wp2;exact⟨rfl,rfl,rfl⟩
theorem C4(rb:Nat)(s p:BA)(k:Nat)(b:Bool)(w:World)(h:dB w rb s k)(hk:k<=s.size)(hb:gM s k p=b): Cl 54 #[.pointer (some ⟨rb,0,none⟩),.string p] w λe w'=>e=.returned (.bool b)/\dB w' rb s k/\Bw w w':=by refine(mq rb s p k w h hk).mono ?_;rintro e w'⟨rfl,hb'⟩;exact⟨by rw[hb],h.below hb' h.lt,hb'⟩
theorem yM(rb:Nat)(s:BA)(k:Nat)(b:Bool)(w:World)(h:dB w rb s k)(hb:decide (k<s.size)=b): Cl 32 #[.pointer (some ⟨rb,0,none⟩)] w λe w'=>e=.returned (.bool b)/\dB w' rb s k/\Bw w w':=by refine(Hl rb s k w h).mono ?_;rintro e w'⟨rfl,hb'⟩;exact⟨by rw[hb],h.below hb' h.lt,hb'⟩
def iJ(l:LU)(k:Nat):Bool:=!decide (k<l.length)||l[k]?==some 32||l[k]?==some 10||ct l k
theorem nO(rb:Nat)(s:BA)(k:Nat)(w:World)(h:dB w rb s k)(hk:k<=s.size): Cl 83 #[.pointer (some ⟨rb,0,none⟩)] w λe w'=>e=.returned (.bool (iJ s.data.toList k))/\Bw w w':=by
 obtain⟨b0,e0⟩:∃b,decide (k<s.size)=b:=⟨_,rfl⟩
 obtain⟨b1,e1⟩:∃b,gM s k ⟨#[32]⟩=b:=⟨_,rfl⟩
 obtain⟨b2,e2⟩:∃b,gM s k ⟨#[10]⟩=b:=⟨_,rfl⟩
 obtain⟨b3,e3⟩:∃b,gM s k ⟨#[92,10]⟩=b:=⟨_,rfl⟩
 have HE:Hid (iJ s.data.toList k=(!b0||b1||b2||b3)):=ab (by unfold iJ;rw[<-e0,<-e1,<-e2,<-e3,fP,fP,uV,zE]);have m0:=yM rb s k b0 w h e0;have m1:=λw' (h':dB w' rb s k)=>C4 rb s ⟨#[32]⟩ k b1 w' h' hk e1;have m2:=λw' (h':dB w' rb s k)=>C4 rb s ⟨#[10]⟩ k b2 w' h' hk e2;have m3:=λw' (h':dB w' rb s k)=>C4 rb s ⟨#[92,10]⟩ k b3 w' h' hk e3;clear e0 e1 e2 e3 h;have done:∀b,(!b0||b1||b2||b3)=b->iJ s.data.toList k=b:=λb e=>(uh HE).trans e;have HD:=ab done;clear done HE;cases b0<;>cases b1<;>cases b2<;>cases b3;all_goals
  have D:=ab (uh HD _ rfl);clear HD;go_enter func83,ntmps83;go_wp2_with (first|(go_at_call 32;refine m0.mono ?_;clear m0;rintro ev w1⟨rfl,hR1,hb1⟩)|(go_at_call 54;refine(m1 _ hR1).mono ?_;clear m1;rintro ev w2⟨rfl,hR2,hb2⟩)|(go_at_call 54;refine(m2 _ hR2).mono ?_;clear m2;rintro ev w3⟨rfl,hR3,hb3⟩)|(go_at_call 54;refine(m3 _ hR3).mono ?_;clear m3;rintro ev w4⟨rfl,hR4,hb4⟩))
  go_ret;first
   |exact⟨ag (uh D).symm,hb1⟩
   |exact⟨ag (uh D).symm,hb1.trans (hb2.mono hb1.size)⟩
   |exact⟨ag (uh D).symm,(hb1.trans (hb2.mono hb1.size)).trans (hb3.mono (nT hb1.size hb2.size))⟩
   |exact⟨ag (uh D).symm,((hb1.trans (hb2.mono hb1.size)).trans (hb3.mono (nT hb1.size hb2.size))).trans (hb4.mono (nT hb1.size (nT hb2.size hb3.size)))⟩
theorem vw(n:Nat)(w:World):Cl 135 #[.int .u8 (n:Int)] w λe w'=>e=.returned (.bool (decide (65<=n/\n<=90)))/\w'=w:=by
 go_enter func135,ntmps135;go_wp2;all_goals
  go_ret;exact⟨ag (by rw[Bool.eq_iff_iff];simp<;>omega),rfl⟩
theorem AW(n:Nat)(w:World):Cl 136 #[.int .u8 (n:Int)] w λe w'=>e=.returned (.bool (decide (48<=n/\n<=57)))/\w'=w:=by
 go_enter func136,ntmps136;go_wp2;all_goals
  go_ret;exact⟨ag (by rw[Bool.eq_iff_iff];simp<;>omega),rfl⟩
def iK(c:UInt8):Bool:=decide (c.toNat=10\/(32<=c.toNat/\c.toNat<=126))
theorem Ih(n:Nat)(w:World):Cl 52 #[.int .u8 (n:Int)] w λe w'=>e=.returned (.bool (decide (n=10\/(32<=n/\n<=126))))/\w'=w:=by
 go_enter func52,ntmps52;go_wp2;all_goals
  go_ret;exact⟨ag (by rw[Bool.eq_iff_iff];simp at*<;> omega),rfl⟩
theorem BL{p:UInt8->Bool}(l:LU)(k:Nat)(h:k<l.length)(ha:(l.take k).all p=true)(hc:p l[k]=false):(l.takeWhile p).length=k:=by
 have e:l=l.take k++l[k]::l.drop (k+1):=by rw[<-List.drop_eq_getElem_cons h,List.take_append_drop]
 conv=>lhs;rw[e]
 rw[List.takeWhile_append_of_pos (λa ha'=>List.all_eq_true.1 ha a ha'),List.takeWhile_cons_of_neg (by simp[hc])];simp;omega
theorem FZ{p:UInt8->Bool}(l:LU)(ha:l.all p=true):(l.takeWhile p).length=l.length:=by have:=List.takeWhile_append_of_pos (l₁:=l) (l₂:=[]) (p:=p) (λa ha'=>List.all_eq_true.1 ha a ha');rw[List.append_nil]at this;rw[this];simp
theorem gY{p:UInt8->Bool}(s:BA)(k:Nat)(h:k<s.size)(h1:(s.data.toList.take k).all p=true)(h2:p s[k]=true):(s.data.toList.take (k+1)).all p=true:=by rw[fw s k h,List.all_append,h1];simp[h2]
theorem Di{l:LU}(h0:0<l.length)(h:iF l[0]=true):aC l=(l.takeWhile c9).length:=by
 cases l with
 |nil=>simp at h0
 |cons c r=>simp only[List.getElem_cons_zero]at h;simp[aC,h]
theorem D8{l:LU}(h0:0<l.length)(h:iF l[0]=false):aC l=0:=by
 cases l with
 |nil=>simp at h0
 |cons c r=>simp only[List.getElem_cons_zero]at h;simp[aC,h]
theorem KN{c:UInt8}(h:c=95):c9 c=true:=by subst h;decide
theorem yK(s:BA)(k:Nat)(h:k<s.size):s.data.toList[k]'(by rw[<-zE];exact h)=s[k]:=rfl
theorem MN(c:UInt8):decide (65<=c.toNat/\c.toNat<=90)=iF c:=rfl
theorem qY(c:UInt8):decide (48<=c.toNat/\c.toNat<=57)=oJ c:=rfl
theorem yg(s:BA)(w:World)(hs:s.size<=1073741824): Cl 112 #[.string s] w λe w'=>e=.returned (.int .i64 (aC s.data.toList:Nat))/\w'=w:=by
 by_cases he:s.data.toList=[]
 .have g1:s.toList.isEmpty=true:=by rw[tD,he];rfl
  have HN:Hid (aC s.data.toList=0):=ab (by rw[he];rfl);clear he;go_enter func112,ntmps112;go_wp2;go_ret;exact⟨by rw[uh HN];rfl,rfl⟩
 have g1:s.toList.isEmpty=false:=by rw[tD];simpa using he
 have h0:0<s.size:=by rw[zE];exact List.length_pos_iff.2 he
 have c0:=vw s[0].toNat w;rw[MN]at c0;cases hc:iF s[0]with
 |false=>
  have HN:Hid (aC s.data.toList=0):=ab (D8 (by rw[<-zE];exact h0) hc);rw[hc]at c0;clear he hc;go_enter func112,ntmps112;go_wp2_with (go_at_call 135;refine c0.mono ?_;clear c0;rintro ev w1⟨rfl,hw⟩;obtain rfl:=hw.symm)
  go_ret;exact⟨by rw[uh HN];rfl,rfl⟩
 |true=>
  have HN:Hid (aC s.data.toList=(s.data.toList.takeWhile c9).length):=ab (Di (by rw[<-zE];exact h0) hc);rw[hc]at c0;clear he hc;go_enter func112,ntmps112;go_wp2_with (go_at_call 135;refine c0.mono ?_;clear c0;rintro ev w1⟨rfl,hw⟩;obtain rfl:=hw.symm)
  go_loop [14] (λi=>∃k:Nat,k<=s.size/\i=.int .i64 k/\(s.data.toList.take k).all c9=true) (λi=>s.size-(intOf i).toNat);case atStart=>exact⟨0,Nat.zero_le _,rfl,rfl⟩
  case round=>
   obtain⟨k,hk,rfl,ha⟩:=hrel;have A:=ab ha;clear ha;by_cases hlt:k<s.size
   .have c1:=vw s[k].toNat w;have c2:=AW s[k].toNat w;rw[MN]at c1;rw[qY]at c2;cases h1:iF s[k]with
    |true=>
     have B:=ab (gY s k hlt (uh A) (show c9 s[k]=true by simp[c9,h1]));rw[h1]at c1;clear c2 h1;go_wp2_with (go_at_call 135;refine c1.mono ?_;clear c1;rintro ev w1⟨rfl,hw⟩;obtain rfl:=hw.symm)
     go_round;case rel=>exact⟨k+1,by omega,by go_num,uh B⟩
     case measure=>simp[intOf];omega
    |false=>
     rw[h1]at c1;cases h2:oJ s[k]with
     |true=>
      have B:=ab (gY s k hlt (uh A) (show c9 s[k]=true by simp[c9,h2]));rw[h2]at c2;clear h1 h2;go_wp2_with (first|(go_at_call 135;refine c1.mono ?_;clear c1;rintro ev w1⟨rfl,hw⟩;obtain rfl:=hw.symm)|(go_at_call 136;refine c2.mono ?_;clear c2;rintro ev w1⟨rfl,hw⟩;obtain rfl:=hw.symm))
      go_round;case rel=>exact⟨k+1,by omega,by go_num,uh B⟩
      case measure=>simp[intOf];omega
     |false=>
      rw[h2]at c2;by_cases h3:s[k]=95
      .have B:=ab (gY s k hlt (uh A) (KN h3));have e3:=congrArg UInt8.toNat h3;have g3:((s[k].toNat:Int) != 95)=false:=by rw[e3];decide
       clear e3;clear h1 h2 h3;go_wp2_with (first|(go_at_call 135;refine c1.mono ?_;clear c1;rintro ev w1⟨rfl,hw⟩;obtain rfl:=hw.symm)|(go_at_call 136;refine c2.mono ?_;clear c2;rintro ev w1⟨rfl,hw⟩;obtain rfl:=hw.symm))
       go_round;case rel=>exact⟨k+1,by omega,by go_num,uh B⟩
       case measure=>simp[intOf];omega
      have B:=ab (BL s.data.toList k (by rw[<-zE];exact hlt) (uh A) (show c9 s[k]=false by simp[c9,h1,h2,h3]));have g3:¬(s[k].toNat:Int)=95:=λe=>h3 (UInt8.toNat_inj.1 (by show s[k].toNat=95;omega));have g4:((s[k].toNat:Int) != 95)=true:=by simpa using g3
      clear h1 h2 h3 g3;go_wp2_with (first|(go_at_call 135;refine c1.mono ?_;clear c1;rintro ev w1⟨rfl,hw⟩;obtain rfl:=hw.symm)|(go_at_call 136;refine c2.mono ?_;clear c2;rintro ev w1⟨rfl,hw⟩;obtain rfl:=hw.symm))
      go_ret;exact⟨by rw[uh HN,uh B];rfl,rfl⟩
   have B:Hid ((s.data.toList.takeWhile c9).length=s.size):=ab (by rw[zE];exact FZ _ (by have:=uh A;rwa [List.take_of_length_le (by rw[<-zE];omega)]at this));go_wp2;go_ret;exact⟨by rw[uh HN,uh B];rfl,rfl⟩
theorem tK(s:BA)(w:World)(hs:s.size<=1073741824): Cl 113 #[.string s] w λe w'=>e=.returned (.bool (fN s.data.toList))/\w'=w:=by
 have hN:=yg s w hs;by_cases he:s.data.toList=[]
 .have g1:s.toList.isEmpty=true:=by rw[tD,he];rfl
  have HV:Hid (fN s.data.toList=false):=ab (by rw[he];rfl);clear he;go_enter func113,ntmps113;go_wp2_with fail;go_ret;exact⟨ag (uh HV).symm,rfl⟩
 have g1:s.toList.isEmpty=false:=by rw[tD];simpa using he
 have e1:(s.data.toList != [])=true:=by simpa using he
 by_cases h2:s.size<=10
 .have HV:Hid (fN s.data.toList=decide ((aC s.data.toList:Int)=(s.size:Int))):=ab (by rw[fN,e1,<-zE,dT h2];rw[Bool.eq_iff_iff];simp;omega);have g2:(s.size:Int)<=10:=by omega
  clear he e1 h2;go_enter func113,ntmps113;go_wp2_with (go_at_call 112;refine hN.mono ?_;clear hN;rintro ev w1⟨rfl,hw⟩;obtain rfl:=hw.symm)
  go_ret;exact⟨ag (by rw[uh HV];try (rw[Bool.eq_iff_iff];simp)),rfl⟩
 have HV:Hid (fN s.data.toList=false):=ab (by rw[fN,<-zE,dF h2];simp);have g2:¬(s.size:Int)<=10:=by omega
 clear he e1 h2;go_enter func113,ntmps113;go_wp2_with fail;go_ret;exact⟨ag (uh HV).symm,rfl⟩
end Go.Proofs.YtjhobnjdfhkohaaGreatDoor
