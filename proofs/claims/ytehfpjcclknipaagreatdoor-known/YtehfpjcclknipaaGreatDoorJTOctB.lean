import Derived.Test.YtehfpjcclknipaaGreatDoorJTEach
import Derived.Laws.BitsAllLaws
import Derived.Test.YtehfpjcclknipaaGreatDoorJTUpA
import Derived.Test.YtehfpjcclknipaaGreatDoorJTPlaina
import Derived.Test.YtehfpjcclknipaaGreatDoorJRdX
import Derived.Shelf.Strings.Builder1
import Derived.Shelf.Strings.Builder2
import Derived.Shelf.Small.Bits
import Derived.Shelf.Strings.BuilderF
import Derived.Shelf.Strings.BuilderK
import Derived.Shelf.Utf8.RuneCount
import Derived.Shelf.Strconv.Itoa0
import Derived.Shelf.Strconv.Itoa1
import Derived.Shelf.LaysM
import Derived.Shelf.Strconv.Itoa2
import Derived.Shelf.Strconv.Itoa3
import Derived.Shelf.Strconv.Itoa4
import Derived.Shelf.Strings.Search1
import Derived.Shelf.Strings.Search2
import Derived.Shelf.Strings.Search3
import Derived.Shelf.Strings.Count
import Derived.Shelf.Strings.Shaped
import Derived.Shelf.Strings.LastIndex
import Derived.Shelf.Strings.Prefix
import Derived.Shelf.Strings.Split
import Derived.Shelf.Strings.SplitShaped
import Derived.Shelf.Unicode.Decode
import Derived.Shelf.Strings.RuneCount
import Derived.Shelf.Strings.Explode
import Derived.Shelf.Bits.Mul64
import Derived.Shelf.Strings.Repeat
import Derived.Shelf.Unicode.DecodeSlow
import Derived.Shelf.Unicode.DecodeAny
import Derived.Deep.CutBlock
import Derived.Test.YtehfpjcclknipaaGreatDoorProg
import Derived.WalkKit
import Derived.WalkSpells
import Derived.Deep.QuietTactic
import Derived.BigQuiet
import Derived.WalkSmall
import Derived.Deep.RegionHeld3
import Derived.Deep.DrawnRows
namespace Go.Proofs.YtehfpjcclknipaaGreatDoor.T
open Go.RowKit
def digs:ByteArray:=⟨#[48,49,50,51,52,53,54,55,56,57,97,98,99,100,101,102,103,104,105,106,107,108,109,110,111,112,113,114,115,116,117,118,119,120,121,122]⟩
theorem digs_lt {m:Nat}(h:m<8):m<digs.size:=Nat.lt_of_lt_of_le h (by decide)
theorem digs_at:∀ (m:Nat) (h:m<8),digs[m]'(digs_lt h)=UInt8.ofNat (48+m)
 | 0,_=>rfl
 | 1,_=>rfl
 | 2,_=>rfl
 | 3,_=>rfl
 | 4,_=>rfl
 | 5,_=>rfl
 | 6,_=>rfl
 | 7,_=>rfl
theorem and7 (m:Nat) (h:m<262144):bits .and .u64 (m:Int) 7=((m % 8:Nat):Int):=by
 have hx:m &&& 7=m % 8:=Nat.and_two_pow_sub_one_eq_mod m 3
 show IntKind.u64.wrap ((BitVec.ofInt 64 (m:Int) &&& BitVec.ofInt 64 ((7:Nat):Int)).toNat:Int)=_
 rw [BitVec.toNat_and,ofInt_i64 m (by omega),ofInt_i64 7 (by omega),hx]
 simp [IntKind.wrap,IntKind.bits,IntKind.signed]
 omega
theorem wp_atW {P:Program}{c:Code}{Q:Exit→Act→World→Prop}{a:Act}{W W':World}(h:W'=W) (hw:Code.wp P c Q a W'):Code.wp P c Q a W:=h ▸ hw
def encU (b:UInt8):Value:=.int .u8 (b.toNat:Int)
def OctIn (w:World) (B k:Nat) (ds:List UInt8):Prop:=w.heap[B]?=some (.cells (List.replicate k (Value.int .u8 0)++ds.map encU).toArray 319 (0,0))∧k+ds.length=65
theorem oct_start (w:World):OctIn (w.alloc (Obj.cells Tryz.zeroCells319 319)) w.heap.size 65 []:=⟨(heap_alloc_new _ _).trans rfl,rfl⟩
theorem set_mid (z:Nat) (x v:Value) (l:List Value):(List.replicate (z+1) x++l).set z v=List.replicate z x++v :: l:=by
 rw [List.replicate_succ',List.append_assoc,List.set_append_right _ _ (by simp)]
 simp
theorem oct_put {w:World}{B z:Nat}{ds:List UInt8}(h:OctIn w B (z+1) ds) (d:UInt8):OctIn (w.setCell ⟨B,z,none⟩ (encU d)) B z (d :: ds):=by
 refine ⟨?_,by have:=h.2;simp only [List.length_cons];omega⟩
 rw [heap_setCell_same _ _ _ _ _ _ h.1,List.setIfInBounds_toArray,set_mid]
 rfl
theorem oct_cell {w:World}{B z:Nat}{ds:List UInt8}(h:OctIn w B (z+1) ds):w.cell? ⟨B,z,none⟩=some (.int .u8 0)∧w.frozen? ⟨B,z,none⟩=false:=by
 refine ⟨?_,frozen_of_row _ _ _ _ _ h.1⟩
 rw [cell_of_row _ _ _ _ _ _ h.1]
 simp [List.getElem?_append]
theorem oct_back {w:World}{B z:Nat}{ds:List UInt8}(h:OctIn w B z ds) (cap:Nat):(convert 145 9 (.slice (some ⟨B,z,none⟩) ds.length cap)).run Tryz.prog w=.ok (.string ⟨ds.toArray⟩) w:=by
 refine run_convert_bytes_back (P:=Tryz.prog) w 145 9 5 ⟨B,z,none⟩ cap ds Tryz.underlying145 Tryz.underlying5 Tryz.underlying9 (fun j hj=>?_)
 rw [Addr.add_lit]
 rw [cell_of_row _ _ _ _ _ _ h.1]
 simp [hj,encU]
set_option maxRecDepth 100000 in
theorem bits_any (n:Nat) (w:World) (hn:n<262144) (h:w.cell? ⟨19,7,none⟩=some (.int .u8 3)):Calls Tryz.prog 244 #[.slice none 0 0,.int .u64 (n:Int),.int .i64 8,.bool false,.bool false] w fun ev w'=>∃ s:ByteArray,ev=.returned (.tuple #[.slice none 0 0,.string s])∧Hid (s.data.toList=octL n)∧Below w.heap.size w w':=by
 have hb0:Below w.heap.size w (w.alloc (Obj.cells Tryz.zeroCells319 319)):=(Below.refl _ _).alloc (Nat.le_refl _) _
 have h7:(w.alloc (Obj.cells Tryz.zeroCells319 319)).cell? ⟨19,7,none⟩=some (.int .u8 3):=cell_later hb0 h
 have ho0:=hide (oct_start w)
 go_enter Tryz.func244,Tryz.ntmps244
 go_wp2_with (first | (go_at_call 274;refine (pow2_8 _).mono ?_;rintro ev w1 ⟨rfl,rfl⟩) | (go_at_call 275;refine (tz_8 _ h7).mono ?_;rintro ev w1 ⟨rfl,rfl⟩))
 go_loopw [1,13] (fun u i wr=>∃ (m k:Nat) (ds:List UInt8),u=.int .u64 (m:Int)∧i=.int .i64 (k:Int)∧Hid (OctIn wr w.heap.size k ds)∧Below w.heap.size w wr∧Hid (octL n=octL m++ds)∧(k=65∧m<262144∨k=64∧m<32768∨k=63∧m<4096∨k=62∧m<512∨k=61∧m<64∨k=60∧m<8)) (fun u _ _=>(intOf u).toNat)
 case atStart=>exact ⟨n,65,[],rfl,rfl,ho0,hb0,hide (by simp),.inl ⟨rfl,hn⟩⟩
 case round=>
  obtain ⟨m,k,ds,rfl,rfl,HO,hb,HL,hc⟩:=hrel
  obtain ⟨z,HZ⟩:∃ z,Hid (k=z+1):=⟨k-1,hide (by omega)⟩
  have w1:IntKind.i64.wrap ((k:Int)-1)=(z:Int):=by have:=uh HZ;rw [IntKind.wrap_i64] <;> omega
  have z0:(0:Int)≤(z:Int):=by omega
  have z1:(z:Int)<65:=by have:=uh HZ;omega
  have z2:z≤65:=by omega
  have HO2:Hid (OctIn wr w.heap.size (z+1) ds):=hide (by rw [←uh HZ];exact uh HO)
  have c1:=(oct_cell (uh HO2)).1
  have c2:=(oct_cell (uh HO2)).2
  have HC:=hide hc
  clear hc HO
  by_cases hm:m<8
  ·have hm2:(m:Int)<8:=by omega
   have m0:(0:Int)≤(m:Int):=by omega
   have m1:(m:Int)<36:=by omega
   have z3:(z:Int)≤65:=by omega
   have z4:¬ 65=z:=by omega
   have z5:¬ z=65:=by omega
   go_upto_region 30 with fail
   obtain ⟨W',hW⟩:∃ W',W'=wr.setCell ⟨w.heap.size,z,none⟩ (.int .u8 ((digs[m]'(digs_lt hm)).toNat:Int)):=⟨_,rfl⟩
   have HW:Hid (OctIn W' w.heap.size z (UInt8.ofNat (48+m) :: ds)):=hide (by rw [hW,digs_at m hm];exact oct_put (uh HO2) _)
   have hbW:Below w.heap.size w W':=by rw [hW];exact hb.setCell (p:=⟨w.heap.size,z,none⟩) (Nat.le_refl _) _
   refine wp_atW hW ?_
   clear hW
   have hcv:=oct_back (uh HW) (65-z)
   have hlen:(UInt8.ofNat (48+m) :: ds).length=65-z:=by have:=(uh HW).2;omega
   rw [hlen] at hcv
   have HF:Hid ((UInt8.ofNat (48+m) :: ds).toArray.toList=octL n):=hide (by rw [uh HL,octL,if_pos hm];simp)
   generalize (UInt8.ofNat (48+m) :: ds).toArray=fin at hcv HF
   clear hlen
   go_wp2
   go_ret2
   exact ⟨_,rfl,HF,hbW⟩
  ·have hm2:(8:Int)≤(m:Int):=by omega
   obtain ⟨r,er⟩:∃ r,r=m % 8:=⟨_,rfl⟩
   obtain ⟨q,eq⟩:∃ q,q=m / 8:=⟨_,rfl⟩
   have r8:r<8:=by omega
   have m0:(0:Int)≤(r:Int):=by omega
   have m1:(r:Int)<36:=by omega
   have m512:m<262144:=by have:=uh HC;omega
   have a7:bits .and .u64 (m:Int) 7=(r:Int):=by rw [and7 m m512,←er]
   have d8:(m:Int) / 8=(q:Int):=by omega
   have HR:Hid (octL m=octL q++[UInt8.ofNat (48+r)]):=hide (by rw [octL,if_neg hm,←er,←eq])
   have HQ:Hid (q<m∧(z=64∧q<32768∨z=63∧q<4096∨z=62∧q<512∨z=61∧q<64∨z=60∧q<8)):=hide (by have:=uh HC;have:=uh HZ;omega)
   clear er eq
   go_wp2
   go_roundw
   case rel=>exact ⟨q,z,_,rfl,rfl,hide (oct_put (uh HO2) _),hb.setCell (p:=⟨w.heap.size,z,none⟩) (Nat.le_refl _) _,hide (by rw [uh HL,uh HR,←digs_at r r8];simp;rfl),by have:=uh HQ;omega⟩
   case measure=>have:=(uh HQ).1;simp [intOf];omega
set_option maxRecDepth 100000 in
theorem fmtB_any (n:Nat) (w:World) (hn:n<262144) (h:w.cell? ⟨19,7,none⟩=some (.int .u8 3)):Calls Tryz.prog 206 #[.int .i64 (n:Int),.int .i64 8] w fun ev w'=>∃ s:ByteArray,ev=.returned (.string s)∧Hid (s.data.toList=octL n)∧Below w.heap.size w w':=by
 have e1:IntKind.u64.wrap (n:Int)=(n:Int):=by rw [IntKind.wrap_u64];omega
 have e2:(0:Int)≤(n:Int):=by omega
 have e3:¬ (n:Int)<0:=by omega
 go_enter Tryz.func206,Tryz.ntmps206
 go_wp2_with (go_at_call 244;refine (bits_any n _ hn h).mono ?_;rintro ev w1 ⟨s,rfl,HS,hb⟩)
 go_ret
 exact ⟨_,rfl,HS,hb⟩
theorem fmt_any (n:Nat) (w:World) (hn:n<262144) (h:w.cell? ⟨19,7,none⟩=some (.int .u8 3)):Calls Tryz.prog 176 #[.int .i64 (n:Int),.int .i64 8] w fun ev w'=>∃ s:ByteArray,ev=.returned (.string s)∧Hid (s.data.toList=octL n)∧Below w.heap.size w w':=by
 go_enter Tryz.func176,Tryz.ntmps176
 go_wp2_with (go_at_call 206;refine (fmtB_any n _ hn h).mono ?_;rintro ev w1 ⟨s,rfl,HS,hb⟩)
 go_ret
 exact ⟨_,rfl,HS,hb⟩
end Go.Proofs.YtehfpjcclknipaaGreatDoor.T
namespace Go.Proofs
open Go.Shelf
def Tryz.lays105_ren:Go.Shelf.Ren:=⟨fun | 105=>139 | 212=>178 | 99=>140 | 165=>151 | 166=>59 | 170=>179 | 169=>62 | 263=>207 | 264=>208 | 206=>180 | 240=>100 | 241=>193 | 276=>132 | 277=>226 | n=>n,fun | 9=>9 | 3=>3 | 4=>4 | 20=>20 | 0=>0 | 46=>223 | 109=>264 | 5=>5 | 72=>147 | 76=>148 | 51=>256 | 146=>274 | 53=>258 | 148=>285 | 70=>144 | 37=>145 | 75=>47 | 127=>201 | 164=>113 | 80=>93 | n=>n,fun | n=>n⟩
theorem Tryz.lays105:Go.Proofs.Lays.n105 Tryz.prog Tryz.lays105_ren:={
 mixed:=by kernel_rfl
 f99:=Tryz.func140.trans (congrArg some (by kernel_rfl))
 f105:=Tryz.func139.trans (congrArg some (by kernel_rfl))
 f165:=Tryz.func151.trans (congrArg some (by kernel_rfl))
 f166:=Tryz.func59.trans (congrArg some (by kernel_rfl))
 f169:=Tryz.func62.trans (congrArg some (by kernel_rfl))
 f170:=Tryz.func179.trans (congrArg some (by kernel_rfl))
 f206:=Tryz.func180.trans (congrArg some (by kernel_rfl))
 f212:=Tryz.func178.trans (congrArg some (by kernel_rfl))
 f240:=Tryz.func100.trans (congrArg some (by kernel_rfl))
 f241:=Tryz.func193.trans (congrArg some (by kernel_rfl))
 f263:=Tryz.func207.trans (congrArg some (by kernel_rfl))
 f264:=Tryz.func208.trans (congrArg some (by kernel_rfl))
 f276:=Tryz.func132.trans (congrArg some (by kernel_rfl))
 f277:=Tryz.func226.trans (congrArg some (by kernel_rfl))
 t0:=Tryz.underlying0
 a0:=Tryz.isAgg0
 z0:=Tryz.sizeOf0
 v0:=Tryz.zeroValue0
 t3:=Tryz.underlying3
 a3:=Tryz.isAgg3
 z3:=Tryz.sizeOf3
 v3:=Tryz.zeroValue3
 t4:=Tryz.underlying4
 a4:=Tryz.isAgg4
 z4:=Tryz.sizeOf4
 v4:=Tryz.zeroValue4
 t5:=Tryz.underlying5
 a5:=Tryz.isAgg5
 z5:=Tryz.sizeOf5
 v5:=Tryz.zeroValue5
 t9:=Tryz.underlying9
 a9:=Tryz.isAgg9
 z9:=Tryz.sizeOf9
 v9:=Tryz.zeroValue9
 t20:=Tryz.underlying20
 a20:=Tryz.isAgg20
 z20:=Tryz.sizeOf20
 v20:=Tryz.zeroValue20
 t37:=Tryz.underlying145
 a37:=Tryz.isAgg145
 z37:=Tryz.sizeOf145
 v37:=Tryz.zeroValue145
 t46:=Tryz.underlying223
 a46:=Tryz.isAgg223
 z46:=Tryz.sizeOf223
 v46:=Tryz.zeroValue223
 t51:=Tryz.underlying256
 a51:=Tryz.isAgg256
 z51:=Tryz.sizeOf256
 v51:=Tryz.zeroValue256
 t53:=Tryz.underlying258
 a53:=Tryz.isAgg258
 z53:=Tryz.sizeOf258
 v53:=Tryz.zeroValue258
 t70:=Tryz.underlying144
 a70:=Tryz.isAgg144
 z70:=Tryz.sizeOf144
 v70:=Tryz.zeroValue144
 t72:=Tryz.underlying147
 a72:=Tryz.isAgg147
 z72:=Tryz.sizeOf147
 v72:=Tryz.zeroValue147
 t75:=Tryz.underlying47
 a75:=Tryz.isAgg47
 z75:=Tryz.sizeOf47
 v75:=Tryz.zeroValue47
 t76:=Tryz.underlying148
 a76:=Tryz.isAgg148
 z76:=Tryz.sizeOf148
 v76:=Tryz.zeroValue148
 t109:=Tryz.underlying264
 a109:=Tryz.isAgg264
 z109:=Tryz.sizeOf264
 v109:=Tryz.zeroValue264
 t127:=Tryz.underlying201
 a127:=Tryz.isAgg201
 z127:=Tryz.sizeOf201
 v127:=Tryz.zeroValue201
 t146:=Tryz.underlying274
 a146:=Tryz.isAgg274
 z146:=Tryz.sizeOf274
 v146:=Tryz.zeroValue274
 t148:=Tryz.underlying285
 a148:=Tryz.isAgg285
 z148:=Tryz.sizeOf285
 v148:=Tryz.zeroValue285
 t164:=Tryz.underlying113
 a164:=Tryz.isAgg113
 z164:=Tryz.sizeOf113
 v164:=Tryz.zeroValue113 }
theorem Tryz.Builder_Extra_105:Builder.Extra Tryz.prog Tryz.lays105_ren:={
 sizeBuilder:=by kernel_rfl
 liesBuilder:=by kernel_rfl
 t5:=Tryz.underlying5
 a5:=Tryz.isAgg5
 z5:=Tryz.sizeOf5
 v5:=Tryz.zeroValue5
 infoByte:=by kernel_rfl
 cellsByte:=by kernel_rfl
 sizeByte:=by kernel_rfl
 neB5:=by decide }
open Go.RowKit Go.Lib in
theorem Tryz.strings_Repeat (s:ByteArray) (c:Nat) (w:World) (hc:c≤9223372036854775807) (hlen:s.size*c≤140737488355328) :
  Calls Tryz.prog 139 #[.string s,.int .i64 c] w fun e w'=>e=.returned (.string ⟨(Lib.repeatL s.data.toList c).toArray⟩)∧Below w.heap.size w w':=Any.strings_Repeat Tryz.lays105 Tryz.Builder_Extra_105 s c w hc hlen
end Go.Proofs
namespace Go.Proofs.YtehfpjcclknipaaGreatDoor.T
open Go.RowKit
theorem rep_one (x:UInt8) (c:Nat):Lib.repeatL [x] c=List.replicate c x:=by
 induction c with
 | zero=>rfl
 | succ c ih=>simp [Lib.repeatL,List.replicate_succ] at ih ⊢;exact ih
theorem repeat_any (x:UInt8) (c:Nat) (w:World) (hc:c≤1048576) :
  Calls Tryz.prog 139 #[.string ⟨#[x]⟩,.int .i64 c] w fun ev w'=>ev=.returned (.string (bt (List.replicate c x)))∧Below w.heap.size w w':=by
 refine (Tryz.strings_Repeat ⟨#[x]⟩ c w (by omega) (by show 1*c≤_;omega)).mono ?_
 rintro e w' ⟨rfl,hb⟩
 refine ⟨?_,hb⟩
 rw [show (⟨#[x]⟩:ByteArray).data.toList=[x] from rfl,rep_one];rfl
set_option maxHeartbeats 1000000 in
set_option maxRecDepth 10000 in
theorem setNumber_any (b o n v:Nat) (A X B:List UInt8) (w:World) (hk:Blk w b (A++X++B)) (hA:A.length=o) (hX:X.length=n) (h0:0<n) (hv:v<262144) (hd:(octL v).length+1≤n) (h20:w.cell? ⟨19,7,none⟩=some (.int .u8 3)) :
  Calls Tryz.prog 135 #[.pointer (some ⟨b,0,none⟩),.agg #[.int .i64 (o:Nat),.int .i64 (n:Nat)],.int .i64 v] w fun ev w'=>ev=.returned (.tuple #[])∧Hid (Blk w' b (A++digL v (n-1)++B))∧w.grownBy w' (some b):=by
 have hl:=hk.2
 simp only [List.length_append] at hl
 have hn5:n≤512:=by omega
 have HK:=hide hk
 have HA:=hide hA
 have HX:=hide hX
 obtain ⟨W0,hW0⟩:∃ W0,W0=w.alloc (.cells #[.int .i64 (o:Nat),.int .i64 (n:Nat)] 233):=⟨_,rfl⟩
 have hB0:Below w.heap.size w W0:=by rw [hW0];exact (Below.refl _ _).alloc (Nat.le_refl _) _
 have q0:W0.cell? ⟨w.heap.size,0,none⟩=some (.int .i64 (o:Nat)):=by rw [hW0];exact cq 0 (heap_alloc_new _ _)
 have q1:W0.cell? ⟨w.heap.size,1,none⟩=some (.int .i64 (n:Nat)):=by rw [hW0];exact cq 1 (heap_alloc_new _ _)
 have hf:=fmt_any v W0 hv (cell_later hB0 h20)
 clear hk hA hX hl h20
 go_enter Tryz.func135,Tryz.ntmps135
 go_upto_region 1 with fail
 rw [←hW0]
 clear hW0
 go_upto_region 2 with (go_at_call 176;refine hf.mono ?_;clear hf;rintro ev w1 ⟨ds,rfl,HDS,hb1⟩;have q0:=cell_later hb1 q0;have q1:=cell_later hb1 q1)
 have hdz:ds.size=(octL v).length:=by rw [Lib.size_eq,uh HDS]
 obtain ⟨z,hz⟩:∃ z:Nat,z=n-1-(octL v).length:=⟨_,rfl⟩
 have e1:(n:Int)-1-(ds.size:Int)=(z:Int):=by omega
 have hz5:z≤512:=by omega
 have HZ:=hide hz
 have HDZ:=hide hdz
 have hds5:ds.size≤512:=by omega
 have hB1:=hB0.trans (hb1.mono hB0.size)
 clear hz hd hdz
 have hRp:=repeat_any 48 z w1 (by omega)
 go_upto_region 3 with (go_at_call 139;refine hRp.mono ?_;clear hRp;rintro ev w2 ⟨rfl,hb2⟩;have q0:=cell_later hb2 q0;have q1:=cell_later hb2 q1)
 obtain ⟨zs,hzs⟩:∃ zs,zs=bt (List.replicate z 48):=⟨_,rfl⟩
 rw [←hzs]
 have hzz:zs.size=z:=by rw [hzs,bt_size,List.length_replicate]
 have hB2:=hB1.trans (hb2.mono hB1.size)
 have HT:Hid ((zs++ds++(⟨#[0]⟩:ByteArray)).data.toList=digL v (n-1)):=hide (by
  rw [hzs,←bt_of ds,uh HDS,show (⟨#[0]⟩:ByteArray)=bt [0] from rfl,bt_app,bt_app,bt_list,digL,uh HZ])
 have hsz:(zs++ds++(⟨#[0]⟩:ByteArray)).size=n:=by
  have:=uh HZ
  have:=uh HDZ
  rw [ByteArray.size_append,ByteArray.size_append,hzz]
  show z+ds.size+1=n
  omega
 have hS:=setText_any b o n A X B (zs++ds++(⟨#[0]⟩:ByteArray)) w2 ((uh HK).below hB2) (uh HA) (uh HX) (by omega) h0
 have HSZ:=hide hsz
 clear hzs hsz
 go_wp2_with (go_at_call 137;refine hS.mono ?_;clear hS;rintro ev w3 ⟨rfl,HB3,hg3⟩)
 go_end0
 refine ⟨rfl,hide ?_,grown_trans (grown_below hB2) hg3⟩
 have h:=uh HB3
 rw [uh HT,uh HSZ,List.drop_of_length_le (by rw [uh HX];exact Nat.le_refl _),List.append_nil] at h
 exact h
structure Hd where
 nm:List UInt8
 md:List UInt8
 us:List UInt8
 gr:List UInt8
 sz:List UInt8
 tm:List UInt8
 ck:List UInt8
 kd:List UInt8
 lk:List UInt8
 mg:List UInt8
 nn:List UInt8
 d1:List UInt8
 d2:List UInt8
 ah:List UInt8
 en:List UInt8
def hdB (h:Hd):List UInt8:=h.nm++(h.md++(h.us++(h.gr++(h.sz++(h.tm++(h.ck++(h.kd++(h.lk++(h.mg++(h.nn++(h.d1++(h.d2++(h.ah++(h.en))))))))))))))
structure HdOk (h:Hd):Prop where
 nm:h.nm.length=100
 md:h.md.length=8
 us:h.us.length=8
 gr:h.gr.length=8
 sz:h.sz.length=12
 tm:h.tm.length=12
 ck:h.ck.length=8
 kd:h.kd.length=1
 lk:h.lk.length=100
 mg:h.mg.length=8
 nn:h.nn.length=64
 d1:h.d1.length=8
 d2:h.d2.length=8
 ah:h.ah.length=155
 en:h.en.length=12
def hd0:Hd:=⟨List.replicate 100 0,List.replicate 8 0,List.replicate 8 0,List.replicate 8 0,List.replicate 12 0,List.replicate 12 0,List.replicate 8 0,List.replicate 1 0,List.replicate 100 0,List.replicate 8 0,List.replicate 64 0,List.replicate 8 0,List.replicate 8 0,List.replicate 155 0,List.replicate 12 0⟩
theorem hd0_ok:HdOk hd0:=⟨rfl,rfl,rfl,rfl,rfl,rfl,rfl,rfl,rfl,rfl,rfl,rfl,rfl,rfl,rfl⟩
theorem hd0_eq:hdB hd0=List.replicate 512 0:=by decide +kernel
theorem hdr_nm (h:Hd) (x:List UInt8):hdB { h with nm:=x }=(([]:List UInt8))++x++(h.md++h.us++h.gr++h.sz++h.tm++h.ck++h.kd++h.lk++h.mg++h.nn++h.d1++h.d2++h.ah++h.en):=by
 simp [hdB,List.append_assoc]
theorem at_nm {h:Hd}(_:HdOk h):(([]:List UInt8)).length=0:=by
 simp []
theorem txt_nm (h:Hd) (ok:HdOk h) (s:ByteArray) (b:Nat) (w:World) (hk:Blk w b (hdB h)) (hs:s.size≤100) :
  Calls Tryz.prog 137 #[.pointer (some ⟨b,0,none⟩),.agg #[.int .i64 0,.int .i64 100],.string s] w fun ev w'=>ev=.returned (.tuple #[])∧Hid (Blk w' b (hdB { h with nm:=s.data.toList++h.nm.drop s.size }))∧w.grownBy w' (some b):=by
 rw [hdr_nm]
 exact setText_any b 0 100 _ h.nm _ s w (by rw [←hdr_nm];exact hk) (at_nm ok) ok.nm hs (by omega)
theorem hdr_md (h:Hd) (x:List UInt8):hdB { h with md:=x }=(h.nm)++x++(h.us++h.gr++h.sz++h.tm++h.ck++h.kd++h.lk++h.mg++h.nn++h.d1++h.d2++h.ah++h.en):=by
 simp [hdB,List.append_assoc]
theorem at_md {h:Hd}(ok:HdOk h):(h.nm).length=100:=by
 simp [ok.nm]
theorem txt_md (h:Hd) (ok:HdOk h) (s:ByteArray) (b:Nat) (w:World) (hk:Blk w b (hdB h)) (hs:s.size≤8) :
  Calls Tryz.prog 137 #[.pointer (some ⟨b,0,none⟩),.agg #[.int .i64 100,.int .i64 8],.string s] w fun ev w'=>ev=.returned (.tuple #[])∧Hid (Blk w' b (hdB { h with md:=s.data.toList++h.md.drop s.size }))∧w.grownBy w' (some b):=by
 rw [hdr_md]
 exact setText_any b 100 8 _ h.md _ s w (by rw [←hdr_md];exact hk) (at_md ok) ok.md hs (by omega)
theorem num_md (h:Hd) (ok:HdOk h) (v b:Nat) (w:World) (hk:Blk w b (hdB h)) (hv:v<262144) (h20:w.cell? ⟨19,7,none⟩=some (.int .u8 3)) :
  Calls Tryz.prog 135 #[.pointer (some ⟨b,0,none⟩),.agg #[.int .i64 100,.int .i64 8],.int .i64 v] w fun ev w'=>ev=.returned (.tuple #[])∧Hid (Blk w' b (hdB { h with md:=digL v 7 }))∧w.grownBy w' (some b):=by
 rw [hdr_md]
 exact setNumber_any b 100 8 v _ h.md _ w (by rw [←hdr_md];exact hk) (at_md ok) ok.md (by omega) hv (by have:=octL_lt 5 v (by simpa using hv);omega) h20
theorem hdr_us (h:Hd) (x:List UInt8):hdB { h with us:=x }=(h.nm++h.md)++x++(h.gr++h.sz++h.tm++h.ck++h.kd++h.lk++h.mg++h.nn++h.d1++h.d2++h.ah++h.en):=by
 simp [hdB,List.append_assoc]
theorem at_us {h:Hd}(ok:HdOk h):(h.nm++h.md).length=108:=by
 simp [ok.nm,ok.md]
theorem num_us (h:Hd) (ok:HdOk h) (v b:Nat) (w:World) (hk:Blk w b (hdB h)) (hv:v<262144) (h20:w.cell? ⟨19,7,none⟩=some (.int .u8 3)) :
  Calls Tryz.prog 135 #[.pointer (some ⟨b,0,none⟩),.agg #[.int .i64 108,.int .i64 8],.int .i64 v] w fun ev w'=>ev=.returned (.tuple #[])∧Hid (Blk w' b (hdB { h with us:=digL v 7 }))∧w.grownBy w' (some b):=by
 rw [hdr_us]
 exact setNumber_any b 108 8 v _ h.us _ w (by rw [←hdr_us];exact hk) (at_us ok) ok.us (by omega) hv (by have:=octL_lt 5 v (by simpa using hv);omega) h20
theorem hdr_gr (h:Hd) (x:List UInt8):hdB { h with gr:=x }=(h.nm++h.md++h.us)++x++(h.sz++h.tm++h.ck++h.kd++h.lk++h.mg++h.nn++h.d1++h.d2++h.ah++h.en):=by
 simp [hdB,List.append_assoc]
theorem at_gr {h:Hd}(ok:HdOk h):(h.nm++h.md++h.us).length=116:=by
 simp [ok.nm,ok.md,ok.us]
theorem num_gr (h:Hd) (ok:HdOk h) (v b:Nat) (w:World) (hk:Blk w b (hdB h)) (hv:v<262144) (h20:w.cell? ⟨19,7,none⟩=some (.int .u8 3)) :
  Calls Tryz.prog 135 #[.pointer (some ⟨b,0,none⟩),.agg #[.int .i64 116,.int .i64 8],.int .i64 v] w fun ev w'=>ev=.returned (.tuple #[])∧Hid (Blk w' b (hdB { h with gr:=digL v 7 }))∧w.grownBy w' (some b):=by
 rw [hdr_gr]
 exact setNumber_any b 116 8 v _ h.gr _ w (by rw [←hdr_gr];exact hk) (at_gr ok) ok.gr (by omega) hv (by have:=octL_lt 5 v (by simpa using hv);omega) h20
theorem hdr_sz (h:Hd) (x:List UInt8):hdB { h with sz:=x }=(h.nm++h.md++h.us++h.gr)++x++(h.tm++h.ck++h.kd++h.lk++h.mg++h.nn++h.d1++h.d2++h.ah++h.en):=by
 simp [hdB,List.append_assoc]
theorem at_sz {h:Hd}(ok:HdOk h):(h.nm++h.md++h.us++h.gr).length=124:=by
 simp [ok.nm,ok.md,ok.us,ok.gr]
theorem num_sz (h:Hd) (ok:HdOk h) (v b:Nat) (w:World) (hk:Blk w b (hdB h)) (hv:v<262144) (h20:w.cell? ⟨19,7,none⟩=some (.int .u8 3)) :
  Calls Tryz.prog 135 #[.pointer (some ⟨b,0,none⟩),.agg #[.int .i64 124,.int .i64 12],.int .i64 v] w fun ev w'=>ev=.returned (.tuple #[])∧Hid (Blk w' b (hdB { h with sz:=digL v 11 }))∧w.grownBy w' (some b):=by
 rw [hdr_sz]
 exact setNumber_any b 124 12 v _ h.sz _ w (by rw [←hdr_sz];exact hk) (at_sz ok) ok.sz (by omega) hv (by have:=octL_lt 5 v (by simpa using hv);omega) h20
theorem hdr_tm (h:Hd) (x:List UInt8):hdB { h with tm:=x }=(h.nm++h.md++h.us++h.gr++h.sz)++x++(h.ck++h.kd++h.lk++h.mg++h.nn++h.d1++h.d2++h.ah++h.en):=by
 simp [hdB,List.append_assoc]
theorem at_tm {h:Hd}(ok:HdOk h):(h.nm++h.md++h.us++h.gr++h.sz).length=136:=by
 simp [ok.nm,ok.md,ok.us,ok.gr,ok.sz]
theorem num_tm (h:Hd) (ok:HdOk h) (v b:Nat) (w:World) (hk:Blk w b (hdB h)) (hv:v<262144) (h20:w.cell? ⟨19,7,none⟩=some (.int .u8 3)) :
  Calls Tryz.prog 135 #[.pointer (some ⟨b,0,none⟩),.agg #[.int .i64 136,.int .i64 12],.int .i64 v] w fun ev w'=>ev=.returned (.tuple #[])∧Hid (Blk w' b (hdB { h with tm:=digL v 11 }))∧w.grownBy w' (some b):=by
 rw [hdr_tm]
 exact setNumber_any b 136 12 v _ h.tm _ w (by rw [←hdr_tm];exact hk) (at_tm ok) ok.tm (by omega) hv (by have:=octL_lt 5 v (by simpa using hv);omega) h20
theorem hdr_ck (h:Hd) (x:List UInt8):hdB { h with ck:=x }=(h.nm++h.md++h.us++h.gr++h.sz++h.tm)++x++(h.kd++h.lk++h.mg++h.nn++h.d1++h.d2++h.ah++h.en):=by
 simp [hdB,List.append_assoc]
theorem at_ck {h:Hd}(ok:HdOk h):(h.nm++h.md++h.us++h.gr++h.sz++h.tm).length=148:=by
 simp [ok.nm,ok.md,ok.us,ok.gr,ok.sz,ok.tm]
theorem txt_ck (h:Hd) (ok:HdOk h) (s:ByteArray) (b:Nat) (w:World) (hk:Blk w b (hdB h)) (hs:s.size≤8) :
  Calls Tryz.prog 137 #[.pointer (some ⟨b,0,none⟩),.agg #[.int .i64 148,.int .i64 8],.string s] w fun ev w'=>ev=.returned (.tuple #[])∧Hid (Blk w' b (hdB { h with ck:=s.data.toList++h.ck.drop s.size }))∧w.grownBy w' (some b):=by
 rw [hdr_ck]
 exact setText_any b 148 8 _ h.ck _ s w (by rw [←hdr_ck];exact hk) (at_ck ok) ok.ck hs (by omega)
theorem hdr_kd (h:Hd) (x:List UInt8):hdB { h with kd:=x }=(h.nm++h.md++h.us++h.gr++h.sz++h.tm++h.ck)++x++(h.lk++h.mg++h.nn++h.d1++h.d2++h.ah++h.en):=by
 simp [hdB,List.append_assoc]
theorem at_kd {h:Hd}(ok:HdOk h):(h.nm++h.md++h.us++h.gr++h.sz++h.tm++h.ck).length=156:=by
 simp [ok.nm,ok.md,ok.us,ok.gr,ok.sz,ok.tm,ok.ck]
theorem txt_kd (h:Hd) (ok:HdOk h) (s:ByteArray) (b:Nat) (w:World) (hk:Blk w b (hdB h)) (hs:s.size≤1) :
  Calls Tryz.prog 137 #[.pointer (some ⟨b,0,none⟩),.agg #[.int .i64 156,.int .i64 1],.string s] w fun ev w'=>ev=.returned (.tuple #[])∧Hid (Blk w' b (hdB { h with kd:=s.data.toList++h.kd.drop s.size }))∧w.grownBy w' (some b):=by
 rw [hdr_kd]
 exact setText_any b 156 1 _ h.kd _ s w (by rw [←hdr_kd];exact hk) (at_kd ok) ok.kd hs (by omega)
theorem hdr_lk (h:Hd) (x:List UInt8):hdB { h with lk:=x }=(h.nm++h.md++h.us++h.gr++h.sz++h.tm++h.ck++h.kd)++x++(h.mg++h.nn++h.d1++h.d2++h.ah++h.en):=by
 simp [hdB,List.append_assoc]
theorem at_lk {h:Hd}(ok:HdOk h):(h.nm++h.md++h.us++h.gr++h.sz++h.tm++h.ck++h.kd).length=157:=by
 simp [ok.nm,ok.md,ok.us,ok.gr,ok.sz,ok.tm,ok.ck,ok.kd]
theorem txt_lk (h:Hd) (ok:HdOk h) (s:ByteArray) (b:Nat) (w:World) (hk:Blk w b (hdB h)) (hs:s.size≤100) :
  Calls Tryz.prog 137 #[.pointer (some ⟨b,0,none⟩),.agg #[.int .i64 157,.int .i64 100],.string s] w fun ev w'=>ev=.returned (.tuple #[])∧Hid (Blk w' b (hdB { h with lk:=s.data.toList++h.lk.drop s.size }))∧w.grownBy w' (some b):=by
 rw [hdr_lk]
 exact setText_any b 157 100 _ h.lk _ s w (by rw [←hdr_lk];exact hk) (at_lk ok) ok.lk hs (by omega)
theorem hdr_mg (h:Hd) (x:List UInt8):hdB { h with mg:=x }=(h.nm++h.md++h.us++h.gr++h.sz++h.tm++h.ck++h.kd++h.lk)++x++(h.nn++h.d1++h.d2++h.ah++h.en):=by
 simp [hdB,List.append_assoc]
theorem at_mg {h:Hd}(ok:HdOk h):(h.nm++h.md++h.us++h.gr++h.sz++h.tm++h.ck++h.kd++h.lk).length=257:=by
 simp [ok.nm,ok.md,ok.us,ok.gr,ok.sz,ok.tm,ok.ck,ok.kd,ok.lk]
theorem txt_mg (h:Hd) (ok:HdOk h) (s:ByteArray) (b:Nat) (w:World) (hk:Blk w b (hdB h)) (hs:s.size≤8) :
  Calls Tryz.prog 137 #[.pointer (some ⟨b,0,none⟩),.agg #[.int .i64 257,.int .i64 8],.string s] w fun ev w'=>ev=.returned (.tuple #[])∧Hid (Blk w' b (hdB { h with mg:=s.data.toList++h.mg.drop s.size }))∧w.grownBy w' (some b):=by
 rw [hdr_mg]
 exact setText_any b 257 8 _ h.mg _ s w (by rw [←hdr_mg];exact hk) (at_mg ok) ok.mg hs (by omega)
theorem hdr_d1 (h:Hd) (x:List UInt8):hdB { h with d1:=x }=(h.nm++h.md++h.us++h.gr++h.sz++h.tm++h.ck++h.kd++h.lk++h.mg++h.nn)++x++(h.d2++h.ah++h.en):=by
 simp [hdB,List.append_assoc]
theorem at_d1 {h:Hd}(ok:HdOk h):(h.nm++h.md++h.us++h.gr++h.sz++h.tm++h.ck++h.kd++h.lk++h.mg++h.nn).length=329:=by
 simp [ok.nm,ok.md,ok.us,ok.gr,ok.sz,ok.tm,ok.ck,ok.kd,ok.lk,ok.mg,ok.nn]
theorem num_d1 (h:Hd) (ok:HdOk h) (v b:Nat) (w:World) (hk:Blk w b (hdB h)) (hv:v<262144) (h20:w.cell? ⟨19,7,none⟩=some (.int .u8 3)) :
  Calls Tryz.prog 135 #[.pointer (some ⟨b,0,none⟩),.agg #[.int .i64 329,.int .i64 8],.int .i64 v] w fun ev w'=>ev=.returned (.tuple #[])∧Hid (Blk w' b (hdB { h with d1:=digL v 7 }))∧w.grownBy w' (some b):=by
 rw [hdr_d1]
 exact setNumber_any b 329 8 v _ h.d1 _ w (by rw [←hdr_d1];exact hk) (at_d1 ok) ok.d1 (by omega) hv (by have:=octL_lt 5 v (by simpa using hv);omega) h20
theorem hdr_d2 (h:Hd) (x:List UInt8):hdB { h with d2:=x }=(h.nm++h.md++h.us++h.gr++h.sz++h.tm++h.ck++h.kd++h.lk++h.mg++h.nn++h.d1)++x++(h.ah++h.en):=by
 simp [hdB,List.append_assoc]
theorem at_d2 {h:Hd}(ok:HdOk h):(h.nm++h.md++h.us++h.gr++h.sz++h.tm++h.ck++h.kd++h.lk++h.mg++h.nn++h.d1).length=337:=by
 simp [ok.nm,ok.md,ok.us,ok.gr,ok.sz,ok.tm,ok.ck,ok.kd,ok.lk,ok.mg,ok.nn,ok.d1]
theorem num_d2 (h:Hd) (ok:HdOk h) (v b:Nat) (w:World) (hk:Blk w b (hdB h)) (hv:v<262144) (h20:w.cell? ⟨19,7,none⟩=some (.int .u8 3)) :
  Calls Tryz.prog 135 #[.pointer (some ⟨b,0,none⟩),.agg #[.int .i64 337,.int .i64 8],.int .i64 v] w fun ev w'=>ev=.returned (.tuple #[])∧Hid (Blk w' b (hdB { h with d2:=digL v 7 }))∧w.grownBy w' (some b):=by
 rw [hdr_d2]
 exact setNumber_any b 337 8 v _ h.d2 _ w (by rw [←hdr_d2];exact hk) (at_d2 ok) ok.d2 (by omega) hv (by have:=octL_lt 5 v (by simpa using hv);omega) h20
theorem hdr_ah (h:Hd) (x:List UInt8):hdB { h with ah:=x }=(h.nm++h.md++h.us++h.gr++h.sz++h.tm++h.ck++h.kd++h.lk++h.mg++h.nn++h.d1++h.d2)++x++(h.en):=by
 simp [hdB,List.append_assoc]
theorem at_ah {h:Hd}(ok:HdOk h):(h.nm++h.md++h.us++h.gr++h.sz++h.tm++h.ck++h.kd++h.lk++h.mg++h.nn++h.d1++h.d2).length=345:=by
 simp [ok.nm,ok.md,ok.us,ok.gr,ok.sz,ok.tm,ok.ck,ok.kd,ok.lk,ok.mg,ok.nn,ok.d1,ok.d2]
theorem txt_ah (h:Hd) (ok:HdOk h) (s:ByteArray) (b:Nat) (w:World) (hk:Blk w b (hdB h)) (hs:s.size≤155) :
  Calls Tryz.prog 137 #[.pointer (some ⟨b,0,none⟩),.agg #[.int .i64 345,.int .i64 155],.string s] w fun ev w'=>ev=.returned (.tuple #[])∧Hid (Blk w' b (hdB { h with ah:=s.data.toList++h.ah.drop s.size }))∧w.grownBy w' (some b):=by
 rw [hdr_ah]
 exact setText_any b 345 155 _ h.ah _ s w (by rw [←hdr_ah];exact hk) (at_ah ok) ok.ah hs (by omega)
structure Pk (w:World):Prop where
 flds:Flds w
 bru:w.cell? ⟨19,7,none⟩=some (.int .u8 3)
 max:∃ m:Int,w.cell? ⟨14,0,none⟩=some (.int .i64 m)
theorem Pk.below {w w':World}(h:Pk w) (hb:Below w.heap.size w w'):Pk w':=by
 obtain ⟨m,hm⟩:=h.max
 exact ⟨h.flds.below hb,cell_later hb h.bru,m,cell_later hb hm⟩
theorem Pk.grown {w w':World}{b:Nat}(h:Pk w) (hg:w.grownBy w' (some b)) (hb:19<b):Pk w':=by
 obtain ⟨m,hm⟩:=h.max
 exact ⟨h.flds.grown hg (by omega),cell_grown hg h.bru (by show 19≠b;omega),m,cell_grown hg hm (by show 14≠b;omega)⟩
theorem Pk.f {w:World}(h:Pk w) {b o n:Nat}(ht:(b,o,n)∈fieldTab):w.cell? ⟨b,0,none⟩=some (.int .i64 (o:Nat))∧w.cell? ⟨b,1,none⟩=some (.int .i64 (n:Nat)):=h.flds.at ht
theorem over_len {s:ByteArray}{X:List UInt8}{n:Nat}(hX:X.length=n) (hs:s.size≤n):(s.data.toList++X.drop s.size).length=n:=by
 rw [List.length_append,List.length_drop,←Lib.size_eq];omega
set_option maxHeartbeats 1000000 in
set_option maxRecDepth 10000 in
theorem setName_any (h:Hd) (ok:HdOk h) (l:List UInt8) (b:Nat) (w:World) (hk:Blk w b (hdB h)) (hP:Pk w) (hb:19<b) (hl:l.length≤1048576) (hp:l.length≤100∨∃ i,slashFrom l (l.length-101)=some i) (hr:(partL l).2.length≤100) (ha:(partL l).1.length≤155) :
  Calls Tryz.prog 133 #[.pointer (some ⟨b,0,none⟩),.string (bt l)] w fun ev w'=>ev=.returned (.tuple #[])∧Hid (Blk w' b (hdB { h with ah:=(partL l).1++h.ah.drop (partL l).1.length,nm:=(partL l).2++h.nm.drop (partL l).2.length }))∧w.grownBy w' (some b):=by
 obtain ⟨mx,hm⟩:=hP.max
 have hQ:=parted_any l mx w hl hP.flds hm hp
 have HK:=hide hk
 have HP:=hide hP
 clear hk hP hm hp
 go_enter Tryz.func133,Tryz.ntmps133
 go_upto_region 1 with (go_at_call 174;refine hQ.mono ?_;clear hQ;rintro ev w1 ⟨rfl,hb1⟩)
 obtain ⟨sa,hsa⟩:∃ sa,sa=bt (partL l).1:=⟨_,rfl⟩
 obtain ⟨sr,hsr⟩:∃ sr,sr=bt (partL l).2:=⟨_,rfl⟩
 rw [←hsa,←hsr]
 have haz:sa.size=(partL l).1.length:=by rw [hsa,bt_size]
 have hrz:sr.size=(partL l).2.length:=by rw [hsr,bt_size]
 have hP1:=(uh HP).below hb1
 have f0:w1.cell? ⟨9,0,none⟩=some (.int .i64 345):=(hP1.f (b:=9) (o:=345) (n:=155) (by decide)).1
 have f1:w1.cell? ⟨9,1,none⟩=some (.int .i64 155):=(hP1.f (b:=9) (o:=345) (n:=155) (by decide)).2
 have hT:=txt_ah h ok sa b w1 ((uh HK).below hb1) (by omega)
 have HP1:=hide hP1
 have HSA:=hide hsa
 have HSR:=hide hsr
 have HAZ:=hide haz
 have HRZ:=hide hrz
 have hr2:sr.size≤100:=by omega
 clear hP1 hsa hsr haz hrz
 go_upto_region 2 with (go_at_call 137;refine hT.mono ?_;clear hT;rintro ev w2 ⟨rfl,HB2,hg2⟩)
 have hP2:=(uh HP1).grown hg2 hb
 have g0:w2.cell? ⟨10,0,none⟩=some (.int .i64 0):=(hP2.f (b:=10) (o:=0) (n:=100) (by decide)).1
 have g1:w2.cell? ⟨10,1,none⟩=some (.int .i64 100):=(hP2.f (b:=10) (o:=0) (n:=100) (by decide)).2
 have ok2:HdOk { h with ah:=sa.data.toList++h.ah.drop sa.size }:={ ok with ah:=over_len ok.ah (by have:=uh HAZ;omega) }
 have hT2:=txt_nm _ ok2 sr b w2 (uh HB2) hr2
 clear hP2 f0 f1
 go_wp2_with (go_at_call 137;refine hT2.mono ?_;clear hT2;rintro ev w3 ⟨rfl,HB3,hg3⟩)
 go_end0
 refine ⟨rfl,hide ?_,grown_trans (grown_below hb1) (grown_trans hg2 hg3)⟩
 have h9:=uh HB3
 rw [show sa.data.toList=(partL l).1 by rw [uh HSA,bt_list],show sr.data.toList=(partL l).2 by rw [uh HSR,bt_list],uh HAZ,uh HRZ] at h9
 exact h9
def kindH (h:Hd) (c:Ent):Hd:=
 if c.kind=1 then { h with kd:=[53] }
 else if c.kind=3 then { h with lk:=c.data.data.toList++h.lk.drop c.data.size,kd:=[50] }
 else if c.kind=2 then { h with sz:=digL c.data.size 11,kd:=[48] }
 else { h with kd:=[48] }
theorem kd_one {h:Hd}(ok:HdOk h) (x:UInt8):(⟨#[x]⟩:ByteArray).data.toList++h.kd.drop (⟨#[x]⟩:ByteArray).size=[x]:=by
 rw [List.drop_of_length_le (by rw [ok.kd];exact Nat.le_refl _)];rfl
set_option maxHeartbeats 1000000 in
set_option maxRecDepth 10000 in
theorem setKind_any (h:Hd) (ok:HdOk h) (c:Ent) (b:Nat) (w:World) (hk:Blk w b (hdB h)) (hP:Pk w) (hb:19<b) (hkd:c.kind=1∨c.kind=2∨c.kind=3∨c.kind=4∨c.kind=5) (hl:c.kind=3→c.data.size≤100) (hf:c.kind=2→c.data.size≤4096) :
  Calls Tryz.prog 136 #[.pointer (some ⟨b,0,none⟩),.agg #[.string c.path,.int .i64 c.kind,.int .i64 c.mode,.string c.data]] w fun ev w'=>ev=.returned (.tuple #[])∧Hid (Blk w' b (hdB (kindH h c)))∧w.grownBy w' (some b):=by
 have hbl:b<w.heap.size:=(Array.getElem?_eq_some_iff.1 hk.1).1
 obtain ⟨W0,hW0⟩:∃ W0,W0=w.alloc (.cells #[.string c.path,.int .i64 c.kind,.int .i64 c.mode,.string c.data] 41):=⟨_,rfl⟩
 have hB0:Below w.heap.size w W0:=by rw [hW0];exact (Below.refl _ _).alloc (Nat.le_refl _) _
 have q1:W0.cell? ⟨w.heap.size,1,none⟩=some (.int .i64 c.kind):=by rw [hW0];exact cq 1 (heap_alloc_new _ _)
 have q3:W0.cell? ⟨w.heap.size,3,none⟩=some (.string c.data):=by rw [hW0];exact cq 3 (heap_alloc_new _ _)
 have hk0:=hk.below hB0
 have hP0:=hP.below hB0
 have f0:W0.cell? ⟨11,0,none⟩=some (.int .i64 156):=(hP0.f (b:=11) (o:=156) (n:=1) (by decide)).1
 have f1:W0.cell? ⟨11,1,none⟩=some (.int .i64 1):=(hP0.f (b:=11) (o:=156) (n:=1) (by decide)).2
 have HK0:=hide hk0
 have HP0:=hide hP0
 have hne:w.heap.size≠b:=by omega
 clear hk hP hk0 hP0
 go_enter Tryz.func136,Tryz.ntmps136
 go_upto_region 1 with fail
 rw [←hW0]
 clear hW0
 by_cases h1:c.kind=1
 ·have HF:Hid (kindH h c={ h with kd:=[53] }):=hide (by rw [kindH,if_pos h1])
  have hT:=txt_kd h ok ⟨#[53]⟩ b W0 (uh HK0) (by decide)
  rw [kd_one ok] at hT
  rw [h1] at q1
  clear h1 hkd hl hf
  go_wp2_with (go_at_call 137;refine hT.mono ?_;clear hT;rintro ev w2 ⟨rfl,HB2,hg2⟩)
  go_end0
  exact ⟨rfl,hide (by rw [uh HF];exact uh HB2),grown_trans (grown_below hB0) hg2⟩
 ·have h1':(c.kind==1)=false:=by simp [h1]
  by_cases h3:c.kind=3
  ·have HF:Hid (kindH h c={ h with lk:=c.data.data.toList++h.lk.drop c.data.size,kd:=[50] }):=hide (by rw [kindH,if_neg h1,if_pos h3])
   have hd:=hl h3
   have g0:W0.cell? ⟨12,0,none⟩=some (.int .i64 157):=((uh HP0).f (b:=12) (o:=157) (n:=100) (by decide)).1
   have g1:W0.cell? ⟨12,1,none⟩=some (.int .i64 100):=((uh HP0).f (b:=12) (o:=157) (n:=100) (by decide)).2
   have hT:=txt_lk h ok c.data b W0 (uh HK0) hd
   have ok2:HdOk { h with lk:=c.data.data.toList++h.lk.drop c.data.size }:={ ok with lk:=over_len ok.lk hd }
   have hT2:=fun w2 hk2=>txt_kd _ ok2 ⟨#[50]⟩ b w2 hk2 (by decide)
   rw [h3] at q1
   clear h1 h3 h1' hkd hl hf
   go_wp2_with (first
    | (go_at_call_of 137 (Value.string c.data);refine hT.mono ?_;clear hT;rintro ev w2 ⟨rfl,HB2,hg2⟩;have f0:=cell_grown hg2 f0 (by show 11≠b;omega);have f1:=cell_grown hg2 f1 (by show 11≠b;omega))
    | (go_at_call 137;refine (hT2 w2 (uh HB2)).mono ?_;rintro ev w3 ⟨rfl,HB3,hg3⟩))
   go_end0
   refine ⟨rfl,hide ?_,grown_trans (grown_below hB0) (grown_trans hg2 hg3)⟩
   rw [uh HF]
   have h9:=uh HB3
   rw [kd_one ok2] at h9
   exact h9
  ·have h3':(c.kind==3)=false:=by simp [h3]
   by_cases h2:c.kind=2
   ·have HF:Hid (kindH h c={ h with sz:=digL c.data.size 11,kd:=[48] }):=hide (by rw [kindH,if_neg h1,if_neg h3,if_pos h2])
    have hd:=hf h2
    have g0:W0.cell? ⟨4,0,none⟩=some (.int .i64 124):=((uh HP0).f (b:=4) (o:=124) (n:=12) (by decide)).1
    have g1:W0.cell? ⟨4,1,none⟩=some (.int .i64 12):=((uh HP0).f (b:=4) (o:=124) (n:=12) (by decide)).2
    have hT:=num_sz h ok c.data.size b W0 (uh HK0) (by omega) (uh HP0).bru
    have ok2:HdOk { h with sz:=digL c.data.size 11 }:={ ok with sz:=digL_len (by have:=octL_lt 4 c.data.size (by simp;omega);omega) }
    have hT2:=fun w2 hk2=>txt_kd _ ok2 ⟨#[48]⟩ b w2 hk2 (by decide)
    rw [h2] at q1
    clear h1 h3 h1' h3' h2 hkd hl hf
    go_wp2_with (first
     | (go_at_call 135;refine hT.mono ?_;clear hT;rintro ev w2 ⟨rfl,HB2,hg2⟩;have f0:=cell_grown hg2 f0 (by show 11≠b;omega);have f1:=cell_grown hg2 f1 (by show 11≠b;omega))
     | (go_at_call 137;refine (hT2 w2 (uh HB2)).mono ?_;rintro ev w3 ⟨rfl,HB3,hg3⟩))
    go_end0
    refine ⟨rfl,hide ?_,grown_trans (grown_below hB0) (grown_trans hg2 hg3)⟩
    rw [uh HF]
    have h9:=uh HB3
    rw [kd_one ok2] at h9
    exact h9
   ·have HF:Hid (kindH h c={ h with kd:=[48] }):=hide (by rw [kindH,if_neg h1,if_neg h3,if_neg h2])
    have hT:=txt_kd h ok ⟨#[48]⟩ b W0 (uh HK0) (by decide)
    rw [kd_one ok] at hT
    have h45:c.kind=4∨c.kind=5:=by omega
    rcases h45 with h4 | h4
    all_goals
     rw [h4] at q1
     clear h1 h3 h2 h1' h3' hkd hl hf h4
     go_wp2_with (go_at_call 137;refine hT.mono ?_;clear hT;rintro ev w2 ⟨rfl,HB2,hg2⟩)
     go_end0
     exact ⟨rfl,hide (by rw [uh HF];exact uh HB2),grown_trans (grown_below hB0) hg2⟩
def blankH (h:Hd):Hd:={ h with ck:=List.replicate 8 32 }
def checkH (h:Hd):Hd:={ h with ck:=digL (sumL (hdB (blankH h))) 6++[32] }
theorem blk_cell {w:World}{b:Nat}{xs:List UInt8}(h:Blk w b xs) {k:Nat}(hk:k<xs.length):w.cell? ⟨b,k,none⟩=some (.int .u8 (xs[k].toNat:Int)):=by
 refine (cq k h.1).trans ?_
 rw [List.getElem?_toArray,Lib.byteCells,List.getElem?_map,List.getElem?_eq_getElem hk];rfl
theorem check_eq (h:Hd) (x:List UInt8) (y:UInt8):hdB { h with ck:=x++[y] }=(h.nm++h.md++h.us++h.gr++h.sz++h.tm)++x++([y]++(h.kd++h.lk++h.mg++h.nn++h.d1++h.d2++h.ah++h.en)):=by
 simp [hdB,List.append_assoc]
set_option maxHeartbeats 1000000 in
set_option maxRecDepth 10000 in
theorem setCheck_any (h:Hd) (ok:HdOk h) (b:Nat) (w:World) (hk:Blk w b (hdB h)) (hP:Pk w) (hb:19<b) :
  Calls Tryz.prog 138 #[.pointer (some ⟨b,0,none⟩)] w fun ev w'=>ev=.returned (.tuple #[])∧Hid (Blk w' b (hdB (checkH h)))∧w.grownBy w' (some b):=by
 have f0:w.cell? ⟨13,0,none⟩=some (.int .i64 148):=(hP.f (b:=13) (o:=148) (n:=8) (by decide)).1
 have f1:w.cell? ⟨13,1,none⟩=some (.int .i64 8):=(hP.f (b:=13) (o:=148) (n:=8) (by decide)).2
 have HK:=hide hk
 have HP:=hide hP
 obtain ⟨bl,hbl⟩:∃ bl,bl=bt (List.replicate 8 32):=⟨_,rfl⟩
 have hblz:bl.size=8:=by rw [hbl,bt_size];rfl
 have hRp:∀ w0:World,Calls Tryz.prog 139 #[.string ⟨#[32]⟩,.int .i64 8] w0 fun ev w'=>ev=.returned (.string bl)∧Below w0.heap.size w0 w':=fun w0=>by
  rw [hbl];exact repeat_any 32 8 w0 (by omega)
 have HRp:=hide hRp
 have HBL:=hide hbl
 clear hk hP hbl hRp
 go_enter Tryz.func138,Tryz.ntmps138
 go_upto_region 0 with fail
 go_region_held3 (fun w'=>w'.cell? ⟨13,0,none⟩=some (.int .i64 148)∧w'.cell? ⟨13,1,none⟩=some (.int .i64 8)) (first | (with_reducible exact ⟨f0,f1⟩) | (with_reducible exact ⟨p0,p1⟩) | (with_reducible exact ⟨r0,r1⟩) | go_keep)
  (first
    | (go_at_call 139;refine (uh HRp _).mono ?_;rintro ev w1 ⟨rfl,hb1⟩;have p0:=cell_later (chain0 hb1) f0;have p1:=cell_later (chain0 hb1) f1)
    | (go_at_call 137;refine (txt_ck h ok bl b w1 ((uh HK).below (chain0 hb1)) (by omega)).mono ?_;rintro ev w2 ⟨rfl,HB2,hg2⟩;have r0:=cell_grown hg2 p0 (by show 13≠b;omega);have r1:=cell_grown hg2 p1 (by show 13≠b;omega)))
 have HB3:Hid (Blk w2 b (hdB (blankH h))):=hide (by
  have h9:=uh HB2
  rw [hblz,List.drop_of_length_le (by rw [ok.ck];exact Nat.le_refl _),List.append_nil,uh HBL,bt_list] at h9
  exact h9)
 obtain ⟨xs,hxs⟩:∃ xs,xs=hdB (blankH h):=⟨_,rfl⟩
 have HXS:=hide hxs
 rw [←hxs] at HB3
 have hxl:=(uh HB3).2
 clear HB2 hxs
 go_wp2_with fail
 go_loop [2,15] (fun t i=>∃ k:Nat,k≤512∧i=.int .i64 k∧t=.int .i64 ((sumL (xs.take k):Nat):Int)) (fun _ i=>512-(intOf i).toNat)
 case atStart=>exact ⟨0,by omega,rfl,by simp [sumL]⟩
 case round=>
  obtain ⟨k,hk,rfl,rfl⟩:=hrel
  have hsl:sumL (xs.take k)≤130560:=by
   have:=sumL_le (xs.take k)
   rw [List.length_take] at this
   omega
  obtain ⟨t0,ht0⟩:∃ t0,t0=sumL (xs.take k):=⟨_,rfl⟩
  have ht1:t0≤130560:=by omega
  by_cases hlt:k<512
  ·have hkl:k<xs.length:=by omega
   have hc:=blk_cell (uh HB3) hkl
   obtain ⟨y,hy,hy2⟩:∃ y:Nat,y=xs[k].toNat∧y<256:=⟨_,rfl,xs[k].toNat_lt⟩
   rw [←hy] at hc
   have HSt:Hid (sumL (xs.take (k+1))=t0+y):=hide (by rw [sumL_take hkl,ht0,hy])
   have k0:(0:Int)≤(k:Int):=by omega
   have k1:(k:Int)<512:=by omega
   rw [←ht0]
   clear ht0 hsl hy hkl hxl
   go_wp2
   go_round
   case rel=>exact ⟨k+1,by omega,by go_num,by rw [uh HSt];go_num⟩
   case measure=>simp [intOf];omega
  ·have HTt:Hid (t0=sumL xs):=hide (by rw [ht0,List.take_of_length_le (by omega)])
   rw [←ht0]
   have hcs:(octL t0).length+1≤7:=by have:=octL_lt 5 t0 (by simp;omega);omega
   have hN:=setNumber_any b 148 7 t0 (h.nm++h.md++h.us++h.gr++h.sz++h.tm) (List.replicate 7 32) ([32]++(h.kd++h.lk++h.mg++h.nn++h.d1++h.d2++h.ah++h.en)) w2
    (by rw [←check_eq];have h9:=uh HB3;rw [uh HXS] at h9;exact h9) (by simp [ok.nm,ok.md,ok.us,ok.gr,ok.sz,ok.tm]) (by simp) (by omega) (by omega) hcs (cell_grown hg2 (cell_later (chain0 hb1) (uh HP).bru) (by show 19≠b;omega))
   rw [←check_eq] at hN
   have k9:¬ (k:Int)<512:=by omega
   clear ht0 hsl hxl hcs hk hlt
   go_wp2_with (go_at_call 135;refine hN.mono ?_;clear hN;rintro ev w3 ⟨rfl,HB4,hg3⟩)
   go_end0
   refine ⟨rfl,hide ?_,grown_trans (grown_below (chain0 hb1)) (grown_trans hg2 hg3)⟩
   have h9:=uh HB4
   rw [uh HTt,uh HXS] at h9
   exact h9
structure PkC (c:Ent) (m:Nat):Prop where
 mode:c.mode=(m:Int)
 m512:m<512
 path:c.path.size≤1048576
 data:c.data.size≤1048576
 gone:c.kind=4→c.path.data.toList≠[]
 name:(nameL c).length≤1048576
 rest:(partL (nameL c)).2.length≤100
 ahead:(partL (nameL c)).1.length≤155
 link:(linkL c).length≤100
 file:(dataL c).length≤4096
theorem head_len {c:Ent}{m:Nat}(h:PkC c m):(headL c).length=148:=by
 have h0:(octL 0).length≤7:=by rw [octL,if_pos (by omega)];simp
 have h1:(octL c.mode.toNat).length≤7:=by
  have:=octL_lt 2 c.mode.toNat (by have:=h.mode;have:=h.m512;simp;omega)
  omega
 have h2:(octL (dataL c).length).length≤11:=by
  have:=octL_lt 4 (dataL c).length (by have:=h.file;simp;omega)
  omega
 simp only [headL,List.length_append,fillL_len h.rest,digL_len h1,digL_len h0,digL_len h2,digL_len (v:=0) (n:=11) (by omega)]
theorem tail_len {c:Ent}{m:Nat}(h:PkC c m):(tailL c).length=356:=by
 have h0:(octL 0).length≤7:=by rw [octL,if_pos (by omega)];simp
 simp only [tailL,List.length_append,fillL_len h.link,fillL_len h.ahead,digL_len h0,List.length_replicate,List.length_cons,List.length_nil,magicL]
theorem total_lt {c:Ent}{m:Nat}(h:PkC c m):totalL c<262144:=by
 have h1:=sumL_le (headL c)
 have h2:=sumL_le (tailL c)
 rw [head_len h] at h1
 rw [tail_len h] at h2
 rw [totalL];omega
attribute [local go_sem] setCell_drewN alloc_drewN
end Go.Proofs.YtehfpjcclknipaaGreatDoor.T
namespace Go.Proofs.YtehfpjcclknipaaGreatDoor.T
open Go.RowKit
theorem heap_setCells_at {g:Nat}{t:TypeId}:∀ (vs:List Value) (o:Nat) (old:Array Value) (w:World),w.heap[g]?=some (.cells old t (0,0))→o+vs.length≤old.size →
  (w.setCells g o vs).heap[g]?=some (.cells (old.toList.take o++vs++old.toList.drop (o+vs.length)).toArray t (0,0))
 | [],o,old,w,h,_=>by simp [World.setCells,h]
 | v :: r,o,old,w,h,hl=>by
   have hl':o+1+r.length≤old.size:=by simp at hl;omega
   rw [World.setCells,heap_setCells_at r (o+1) _ _ (heap_setCell_same w g o old t v h) (by simpa using hl')]
   have ho:o<old.toList.length:=by simp;omega
   congr 3
   rw [Array.toList_setIfInBounds,List.take_set,List.drop_set_of_lt (by omega),List.take_succ_eq_append_getElem ho]
   have e:(old.toList.take o).length=o:=by rw [List.length_take,Nat.min_eq_left (by omega)]
   rw [List.set_append_right _ _ (by omega),e,Nat.sub_self]
   simp [Nat.add_assoc,Nat.add_comm 1]
theorem heap_setCells_all {g:Nat}{t:TypeId}{cs old:Array Value}{w:World}(h:w.heap[g]?=some (.cells old t (0,0))) (hs:cs.size=old.size):(w.setCells g 0 cs.toList).heap[g]?=some (.cells cs t (0,0)):=by
 rw [heap_setCells_at cs.toList 0 old w h (by simp;omega)]
 rw [List.drop_of_length_le (by simp;omega)]
 simp
theorem below_setCells {B:Nat}{a:World}{g:Nat}(hg:B≤g):∀ (vs:List Value) (o:Nat) (w:World),Below B a w→Below B a (w.setCells g o vs)
 | [],_,_,h=>h
 | v :: r,o,w,h=>below_setCells hg r (o+1) _ (h.setCell (by exact hg) v)
theorem there_all {w:World}{g:Nat}{t:TypeId}{old:Array Value}(h:w.heap[g]?=some (.cells old t (0,0))) (n:Nat) (hn:n≤old.size):w.there g 0 n:=fun j hj=>by
 refine ⟨?_,frozen_of_row w g _ _ _ h⟩
 rw [cell_of_row w g _ _ t _ h,Nat.zero_add,Array.getElem?_eq_getElem (by omega)];rfl
theorem wrap3 (a b c d:Nat):IntKind.u32.wrap (IntKind.u32.wrap (IntKind.u32.wrap ((a:Int)+(b:Int))+(c:Int))+(d:Int))=(((a+b+c+d) % 4294967296:Nat):Int):=by
 rw [IntKind.wrap_u32',IntKind.wrap_u32',IntKind.wrap_u32'];omega
attribute [local go_sem] setCell_drewN alloc_drewN
attribute [local go_sem] Go.wp_at_zero Go.wp_at_succ
end Go.Proofs.YtehfpjcclknipaaGreatDoor.T
