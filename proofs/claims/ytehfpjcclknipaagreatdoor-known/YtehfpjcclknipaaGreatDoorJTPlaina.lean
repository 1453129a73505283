import Derived.Test.YtehfpjcclknipaaGreatDoorJPlain
import Derived.Test.YtehfpjcclknipaaGreatDoorProg
import Derived.WalkKit
import Derived.WalkSpells
import Derived.WalkSmall
import Derived.Shelf.Strings.Builder1
import Derived.Shelf.Strings.Builder2
import Derived.Shelf.Small.Bits
import Derived.Shelf.Strconv.Itoa0
import Derived.Shelf.LaysM
import Derived.Shelf.Strconv.Clone
import Derived.Shelf.Strings.Search1
import Derived.Shelf.Strings.Search2
import Derived.Shelf.Strings.Search3
import Derived.Shelf.Strings.Count
import Derived.Shelf.Strings.Shaped
import Derived.Shelf.Strings.LastIndex
import Derived.Shelf.Strings.Prefix
import Derived.Shelf.Strings.Split
import Derived.Shelf.Strings.SplitShaped
import Derived.Shelf.Bits.Mul64
import Derived.Shelf.Unicode.DecodeSlow
import Derived.Shelf.Slices.CompactS
import Derived.Sort.Grow
import Derived.Deep.QuietTactic
import Derived.BigQuiet
import Derived.Deep.DeepCutAuto
import Derived.Deep.RegionWith
import Derived.Deep.Draws
namespace Go.Proofs.YtehfpjcclknipaaGreatDoor.T
open Go Go.RowKit
theorem splitK_one:∀ l:List UInt8,Lib.splitK [47] 0 (Lib.count l [47]) l=spl l
 | []=>by rw [Lib.count_miss (by simp [Lib.index])];rfl
 | c :: r=>by
   have ih:=splitK_one r
   by_cases h:c=47
   ·subst h
    have hix:Lib.index (47 :: r) [47]=((0:Nat):Int):=by rw [Lib.index];simp [List.isPrefixOf]
    rw [Lib.count_cons_eq,Nat.add_comm,Lib.splitK,hix,spl,if_pos rfl,←ih]
    simp
   ·have hp:([47]:List UInt8).isPrefixOf (c :: r)=false:=by simp [List.isPrefixOf,Ne.symm h]
    have hix:Lib.index (c :: r) [47]=if Lib.index r [47]==-1 then -1 else Lib.index r [47]+1:=by rw [Lib.index,hp];simp
    rw [Lib.count_cons_ne c 47 r h,spl,if_neg h,←ih]
    by_cases hm:Lib.index r [47]=-1
    ·rw [Lib.count_miss hm];simp [Lib.splitK]
    ·have hge:=Lib.index_ge r [47]
     obtain ⟨j,hj⟩:∃ j:Nat,Lib.index r [47]=j:=⟨(Lib.index r [47]).toNat,by omega⟩
     have hix':Lib.index (c :: r) [47]=((j+1:Nat):Int):=by rw [hix,if_neg (fun e=>hm (beq_iff_eq.1 e)),hj];omega
     have hm1:¬ ((((j+1:Nat):Int)==-1)=true):=fun e=>by have:=beq_iff_eq.1 e;omega
     have hm2:¬ (((j:Int)==-1)=true):=fun e=>by have:=beq_iff_eq.1 e;omega
     rw [Lib.count_hit (by simp) hj,Nat.add_comm,Lib.splitK,Lib.splitK,hix',hj,if_neg hm1,if_neg hm2,Int.toNat_natCast,Int.toNat_natCast]
     simp
def prt (l:List UInt8):List (List UInt8):=if l=[] then [] else spl l
def isP (l:List UInt8):Bool:=decide (l.length≤170)&&decide ((prt l).length≤12)&&(prt l).all elt
theorem prt_nil:prt []=[]:=rfl
theorem prt_ne {l:List UInt8}(h:l≠[]):prt l=spl l:=if_neg h
theorem isP_long {l:List UInt8}(h:170<l.length):isP l=false:=by simp [isP,Nat.not_le.2 h]
theorem isP_not {l:List UInt8}{k:Nat}{b:List UInt8}(hk:(prt l)[k]?=some b) (hb:elt b=false):isP l=false:=by
 have:(prt l).all elt=false:=by
  rw [Bool.eq_false_iff];intro h
  rw [List.all_eq_true] at h
  have:=h b (List.mem_of_getElem? hk)
  rw [hb] at this;cases this
 simp [isP,this]
theorem isP_yes {l:List UInt8}(h1:l.length≤170) (h2:(prt l).all elt=true):isP l=decide ((prt l).length≤12):=by simp [isP,h1,h2]
theorem all_take_succ {xs:List (List UInt8)}{k:Nat}{b:List UInt8}(hk:xs[k]?=some b) (h:(xs.take k).all elt=true) (hb:elt b=true):(xs.take (k+1)).all elt=true:=by
 rw [List.take_add_one,hk,List.all_append,h];simp [hb]
def jn (k:Nat) (xs:List (List UInt8)):List UInt8:=Lib.join (xs.take k) [47]
theorem jn_zero (xs:List (List UInt8)):jn 0 xs=[]:=rfl
theorem jn_succ (xs:List (List UInt8)) (k:Nat) (y:List UInt8) (h:xs[k]?=some y):jn (k+1) xs=if k=0 then y else jn k xs++[47]++y:=by
 cases xs with
 | nil=>simp at h
 | cons x r=>
   cases k with
   | zero=>simp at h;subst h;simp [jn,Lib.join_one]
   | succ j=>
     rw [if_neg (by omega)]
     simp only [jn,List.take_succ_cons,Lib.join_cons]
     rw [Lib.joinTail_take_succ [47] r j y (by simpa using h)]
     simp
theorem jn_le (xs:List (List UInt8)) (k:Nat):(jn k xs).length≤(Lib.join xs [47]).length:=by
 cases xs with
 | nil=>simp [jn]
 | cons x r=>
   cases k with
   | zero=>simp [jn,Lib.join_nil]
   | succ j=>
     simp only [jn,List.take_succ_cons,Lib.join_cons,List.length_append]
     have:=Lib.joinTail_take_le [47] r j
     omega
end Go.Proofs.YtehfpjcclknipaaGreatDoor.T
namespace Go.Proofs.YtehfpjcclknipaaGreatDoor.T
open Go.RowKit
set_option maxHeartbeats 400000 in
theorem hasPrefix_any (s p:ByteArray) (w:World) :
  Calls Tryz.prog 140 #[.string s,.string p] w fun e w'=>e=.returned (.bool (Lib.hasPrefix s.data.toList p.data.toList))∧w'=w:=by
 have H:=hide (Lib.hasPrefix_raw s p)
 go_enter Tryz.func140,Tryz.ntmps140
 go_wp2
 ·go_ret
  exact ⟨ret_bool (by rw [←uh H];simp [*]),rfl⟩
 ·go_ret
  exact ⟨ret_bool (by rw [←uh H];simp [*]),rfl⟩
set_option maxHeartbeats 400000 in
theorem elByte_any (n:Int) (w:World)  :
  Calls Tryz.prog 156 #[.int .u8 n] w fun e w'=>e=.returned (.bool (okN n))∧w'=w:=by
 go_enter Tryz.func156,Tryz.ntmps156
 go_wp2
 all_goals
  go_ret
  exact ⟨ret_bool (by rw [Bool.eq_iff_iff];simp [okN] <;> omega),rfl⟩
set_option maxHeartbeats 400000 in
theorem isEl_bad (s:ByteArray) (w:World) (h:hdr s.data.toList=true) :
  Calls Tryz.prog 119 #[.string s] w fun e w'=>e=.returned (.bool (elt s.data.toList))∧w'=w:=by
 rw [elt_hdr h]
 have H:=hide h
 clear h
 go_enter Tryz.func119,Tryz.ntmps119
 go_wp2_with (go_at_call 140;refine (hasPrefix_any _ _ _).mono ?_;rintro e w' ⟨rfl,rfl⟩)
 all_goals first
  | (go_ret;exact ⟨rfl,rfl⟩)
  | exact absurd (uh H) (by rw [hdr_false s (by assumption)];simp)
set_option maxHeartbeats 400000 in
theorem isEl_good (s:ByteArray) (w:World) (h:hdr s.data.toList=false) :
  Calls Tryz.prog 119 #[.string s] w fun e w'=>e=.returned (.bool (elt s.data.toList))∧w'=w:=by
 obtain ⟨h1,h2,h3,h4,h5⟩:=hdr_parts h
 have H:=hide h
 have g1:s.toList.isEmpty=false:=by rw [Lib.toList_data];simpa using h1
 have g2:(s.size:Int)≤60:=by have:=Lib.size_eq s;omega
 have g3:(s.toList==[46])=false:=by rw [Lib.toList_data];simpa using h3
 have g4:(s.toList==[46,46])=false:=by rw [Lib.toList_data];simpa using h4
 clear h h1 h2 h3 h4
 go_enter Tryz.func119,Tryz.ntmps119
 go_wp2_with (go_at_call 140;refine (hasPrefix_any _ _ _).mono ?_;rintro e w' ⟨rfl,rfl⟩)
 go_loop [25] (fun i=>∃ k:Nat,k≤s.size∧i=.int .i64 k∧(s.data.toList.take k).all okC=true) (fun i=>s.size-(intOf i).toNat)
 case atStart=>exact ⟨0,Nat.zero_le _,rfl,rfl⟩
 case round=>
  obtain ⟨k,hk,rfl,ha⟩:=hrel
  have A:=hide ha
  clear ha
  by_cases hlt:k<s.size
  ·cases hok:okN (s[k].toNat:Int)
   ·have B:=hide (elt_bad s k hlt hok)
    go_wp2_with (go_at_call 156;refine (elByte_any _ _).mono ?_;rintro e w' ⟨rfl,rfl⟩)
    go_ret
    exact ⟨ret_bool (uh B).symm,rfl⟩
   ·have B:=hide (all_snoc s k hlt (uh A) hok)
    go_wp2_with (go_at_call 156;refine (elByte_any _ _).mono ?_;rintro e w' ⟨rfl,rfl⟩)
    go_round
    case rel=>exact ⟨k+1,by omega,by go_num,uh B⟩
    case measure=>simp [intOf];omega
  ·have B:=hide (elt_good s k (by omega) (uh A) (uh H))
   go_wp2
   go_ret
   exact ⟨ret_bool (uh B).symm,rfl⟩
theorem isEl_any (s:ByteArray) (w:World) :
  Calls Tryz.prog 119 #[.string s] w fun e w'=>e=.returned (.bool (elt s.data.toList))∧w'=w:=by
 cases h:hdr s.data.toList
 ·exact isEl_good s w h
 ·exact isEl_bad s w h
theorem Tryz.info9:(Tryz.prog.info? 9).map (fun i=>(i.zero,i.size,i.bytes))=some (some (.string ByteArray.empty),1,16):=by kernel_rfl
def Own (w:World) (B:Nat) (v:Value) (ps:List ByteArray):Prop:=w.ownsRow B 9 1 v ps.length (ps.map Value.string)
def txts (ps:List ByteArray):List (List UInt8):=ps.map (·.data.toList)
end Go.Proofs.YtehfpjcclknipaaGreatDoor.T
namespace Go.Proofs
open Go.Shelf
def Tryz.laysM316_ren:Go.Shelf.Ren:=⟨fun | 316=>125 | n=>n,fun | 9=>9 | 3=>3 | 4=>4 | 37=>145 | 0=>0 | 127=>201 | 5=>5 | n=>n,fun | n=>n⟩
theorem Tryz.laysM316:Go.Proofs.LaysM.n316 Tryz.prog Tryz.laysM316_ren:={
 mixed:=by kernel_rfl
 f316:=Tryz.func125.trans (congrArg some (by kernel_rfl))
 t0:=Tryz.underlying0
 a0:=Tryz.isAgg0
 z0:=Tryz.sizeOf0
 v0:=Tryz.zeroValue0
 t3:=Tryz.underlying3
 a3:=Tryz.isAgg3
 z3:=Tryz.sizeOf3
 v3:=Tryz.zeroValue3
 t4:=Tryz.underlying4
 a4:=Tryz.isAgg4
 z4:=Tryz.sizeOf4
 v4:=Tryz.zeroValue4
 t9:=Tryz.underlying9
 a9:=Tryz.isAgg9
 z9:=Tryz.sizeOf9
 v9:=Tryz.zeroValue9
 t37:=Tryz.underlying145
 a37:=Tryz.isAgg145
 z37:=Tryz.sizeOf145
 v37:=Tryz.zeroValue145
 t127:=Tryz.underlying201
 a127:=Tryz.isAgg201
 z127:=Tryz.sizeOf201
 v127:=Tryz.zeroValue201
 t5:=Tryz.underlying5
 a5:=Tryz.isAgg5
 z5:=Tryz.sizeOf5
 v5:=Tryz.zeroValue5
 i0:=by kernel_rfl
 i3:=by kernel_rfl
 i4:=by kernel_rfl
 i5:=by kernel_rfl
 i9:=by kernel_rfl
 i37:=by kernel_rfl
 i127:=by kernel_rfl }
open Go.RowKit in
theorem Tryz.stringslite_Clone (s:ByteArray) (w:World) (hlim:s.size≤281474976710656) :
  Calls Tryz.prog 125 #[.string s] w fun e w'=>e=.returned (.string s)∧Below w.heap.size w w':=Any.stringslite_Clone Tryz.laysM316 s w hlim
def Tryz.lays148_ren:Go.Shelf.Ren:=⟨fun | 148=>122 | 222=>159 | 223=>160 | 269=>198 | n=>n,fun | 9=>9 | 3=>3 | 4=>4 | 5=>5 | 146=>274 | 51=>256 | 46=>223 | n=>n,fun | n=>n⟩
theorem Tryz.lays148:Go.Proofs.Lays.n148 Tryz.prog Tryz.lays148_ren:={
 mixed:=by kernel_rfl
 f148:=Tryz.func122.trans (congrArg some (by kernel_rfl))
 f222:=Tryz.func159.trans (congrArg some (by kernel_rfl))
 f223:=Tryz.func160.trans (congrArg some (by kernel_rfl))
 f269:=Tryz.func198.trans (congrArg some (by kernel_rfl))
 t3:=Tryz.underlying3
 a3:=Tryz.isAgg3
 z3:=Tryz.sizeOf3
 v3:=Tryz.zeroValue3
 t4:=Tryz.underlying4
 a4:=Tryz.isAgg4
 z4:=Tryz.sizeOf4
 v4:=Tryz.zeroValue4
 t5:=Tryz.underlying5
 a5:=Tryz.isAgg5
 z5:=Tryz.sizeOf5
 v5:=Tryz.zeroValue5
 t9:=Tryz.underlying9
 a9:=Tryz.isAgg9
 z9:=Tryz.sizeOf9
 v9:=Tryz.zeroValue9
 t46:=Tryz.underlying223
 a46:=Tryz.isAgg223
 z46:=Tryz.sizeOf223
 v46:=Tryz.zeroValue223
 t51:=Tryz.underlying256
 a51:=Tryz.isAgg256
 z51:=Tryz.sizeOf256
 v51:=Tryz.zeroValue256
 t146:=Tryz.underlying274
 a146:=Tryz.isAgg274
 z146:=Tryz.sizeOf274
 v146:=Tryz.zeroValue274 }
open Go.RowKit Go.Lib in
theorem Tryz.strings_LastIndex_one (s sub:ByteArray) (h1:sub.size=1) (hs:s.size<4611686018427387904) (w:World) :
  Calls Tryz.prog 122 #[.string s,.string sub] w fun e w'=>e=.returned (.int .i64 (Lib.lastIndexByte s ((sub[0]'(by omega)).toNat:Int)))∧w'=w:=Any.strings_LastIndex_one Tryz.lays148 s sub h1 hs w
def Tryz.lays146_ren:Go.Shelf.Ren:=⟨fun | 146=>121 | 221=>158 | 268=>195 | 138=>196 | 143=>197 | 195=>228 | 197=>229 | 218=>230 | 219=>209 | 260=>268 | 217=>245 | 225=>246 | 224=>247 | 267=>248 | 266=>276 | 314=>277 | n=>n,fun | 9=>9 | 31=>27 | 3=>3 | 4=>4 | 0=>0 | 105=>289 | 21=>21 | 5=>5 | 46=>223 | 119=>329 | 139=>332 | 138=>331 | 146=>274 | 51=>256 | n=>n,fun | 1=>14 | 3=>16 | 4=>17 | n=>n⟩
theorem Tryz.lays146:Go.Proofs.Lays.n146 Tryz.prog Tryz.lays146_ren:={
 mixed:=by kernel_rfl
 f138:=Tryz.func196.trans (congrArg some (by kernel_rfl))
 f143:=Tryz.func197.trans (congrArg some (by kernel_rfl))
 f146:=Tryz.func121.trans (congrArg some (by kernel_rfl))
 f195:=Tryz.func228.trans (congrArg some (by kernel_rfl))
 f197:=Tryz.func229.trans (congrArg some (by kernel_rfl))
 f217:=Tryz.func245.trans (congrArg some (by kernel_rfl))
 f218:=Tryz.func230.trans (congrArg some (by kernel_rfl))
 f219:=Tryz.func209.trans (congrArg some (by kernel_rfl))
 f221:=Tryz.func158.trans (congrArg some (by kernel_rfl))
 f224:=Tryz.func247.trans (congrArg some (by kernel_rfl))
 f225:=Tryz.func246.trans (congrArg some (by kernel_rfl))
 f260:=Tryz.func268.trans (congrArg some (by kernel_rfl))
 f266:=Tryz.func276.trans (congrArg some (by kernel_rfl))
 f267:=Tryz.func248.trans (congrArg some (by kernel_rfl))
 f268:=Tryz.func195.trans (congrArg some (by kernel_rfl))
 f314:=Tryz.func277.trans (congrArg some (by kernel_rfl))
 t0:=Tryz.underlying0
 a0:=Tryz.isAgg0
 z0:=Tryz.sizeOf0
 v0:=Tryz.zeroValue0
 t3:=Tryz.underlying3
 a3:=Tryz.isAgg3
 z3:=Tryz.sizeOf3
 v3:=Tryz.zeroValue3
 t4:=Tryz.underlying4
 a4:=Tryz.isAgg4
 z4:=Tryz.sizeOf4
 v4:=Tryz.zeroValue4
 t5:=Tryz.underlying5
 a5:=Tryz.isAgg5
 z5:=Tryz.sizeOf5
 v5:=Tryz.zeroValue5
 t9:=Tryz.underlying9
 a9:=Tryz.isAgg9
 z9:=Tryz.sizeOf9
 v9:=Tryz.zeroValue9
 t21:=Tryz.underlying21
 a21:=Tryz.isAgg21
 z21:=Tryz.sizeOf21
 v21:=Tryz.zeroValue21
 t31:=Tryz.underlying27
 a31:=Tryz.isAgg27
 z31:=Tryz.sizeOf27
 v31:=Tryz.zeroValue27
 t46:=Tryz.underlying223
 a46:=Tryz.isAgg223
 z46:=Tryz.sizeOf223
 v46:=Tryz.zeroValue223
 t51:=Tryz.underlying256
 a51:=Tryz.isAgg256
 z51:=Tryz.sizeOf256
 v51:=Tryz.zeroValue256
 t105:=Tryz.underlying289
 a105:=Tryz.isAgg289
 z105:=Tryz.sizeOf289
 v105:=Tryz.zeroValue289
 t119:=Tryz.underlying329
 a119:=Tryz.isAgg329
 z119:=Tryz.sizeOf329
 t138:=Tryz.underlying331
 a138:=Tryz.isAgg331
 z138:=Tryz.sizeOf331
 v138:=Tryz.zeroValue331
 t139:=Tryz.underlying332
 a139:=Tryz.isAgg332
 z139:=Tryz.sizeOf332
 v139:=Tryz.zeroValue332
 t146:=Tryz.underlying274
 a146:=Tryz.isAgg274
 z146:=Tryz.sizeOf274
 v146:=Tryz.zeroValue274
 g1:=by kernel_rfl
 g3:=by kernel_rfl
 g4:=by kernel_rfl }
open Go.RowKit Go.Lib in
theorem Tryz.strings_Split (s sep:ByteArray) (m:Int) (w:World) (hs:s.size<4294967281) (hm:w.cell? ⟨14,0,none⟩=some (.int .i64 m)) (h1:1≤sep.size) :
  Calls Tryz.prog 121 #[.string s,.string sep] w fun e w'=>
   e=.returned (.slice (some ⟨w.heap.size,0,none⟩) (Lib.countB s sep+1) (Lib.countB s sep+1))∧w'=w.alloc (.cells ((Lib.splitB sep 0 (Lib.countB s sep) s).map Value.string).toArray 9):=Any.strings_Split Tryz.lays146 (by kernel_rfl) s sep m w hs hm h1
def Tryz.lays194_ren:Go.Shelf.Ren:=⟨fun | 194=>89 | n=>n,fun | 31=>27 | 9=>9 | 3=>3 | 4=>4 | 0=>0 | n=>n,fun | n=>n⟩
theorem Tryz.lays194:Go.Proofs.Lays.n194 Tryz.prog Tryz.lays194_ren:={
 mixed:=by kernel_rfl
 f194:=Tryz.func89.trans (congrArg some (by kernel_rfl))
 t0:=Tryz.underlying0
 a0:=Tryz.isAgg0
 z0:=Tryz.sizeOf0
 v0:=Tryz.zeroValue0
 t3:=Tryz.underlying3
 a3:=Tryz.isAgg3
 z3:=Tryz.sizeOf3
 v3:=Tryz.zeroValue3
 t4:=Tryz.underlying4
 a4:=Tryz.isAgg4
 z4:=Tryz.sizeOf4
 v4:=Tryz.zeroValue4
 t9:=Tryz.underlying9
 a9:=Tryz.isAgg9
 z9:=Tryz.sizeOf9
 v9:=Tryz.zeroValue9
 t31:=Tryz.underlying27
 a31:=Tryz.isAgg27
 z31:=Tryz.sizeOf27
 v31:=Tryz.zeroValue27 }
open Go.RowKit Go.Lib Go.Sort in
theorem Tryz.slices_Compact_string (blk off cap:Nat) (zs:List (List UInt8)) (w:World) (hH:Holds encStr w blk off zs.toArray) (hsz:zs.length≤9223372036854775807) (hcap:zs.length≤cap) :
  Calls Tryz.prog 89 #[.slice (some ⟨blk,off,none⟩) zs.length cap] w fun e w'=>e=.returned (.slice (some ⟨blk,off,none⟩) (Lib.compact zs).length cap)∧∃ q,w'=putRow encStr (Sort.ahead w q) blk off (Lib.compact zs++List.replicate (zs.length-(Lib.compact zs).length) []).toArray:=Any.slices_Compact_string Tryz.lays194 blk off cap zs w hH hsz hcap
end Go.Proofs
namespace Go.Proofs.YtehfpjcclknipaaGreatDoor.T
open Go.RowKit
theorem txts_len (ps:List ByteArray):(txts ps).length=ps.length:=by simp [txts]
theorem txts_get {ps:List ByteArray}{k:Nat}{b:ByteArray}(h:ps[k]?=some b):(txts ps)[k]?=some b.data.toList:=by simp [txts,h]
theorem own_cell {w:World}{B g cap:Nat}{ps:List ByteArray}(h:Own w B (.slice (some ⟨g,0,none⟩) ps.length cap) ps) {k:Nat}{b:ByteArray}(hk:ps[k]?=some b):w.cell? ⟨g,k,none⟩=some (.string b):=by
 have hl:k<ps.length:=(List.getElem?_eq_some_iff.1 hk).1
 rw [World.ownsRow.cellAt h k (by omega)];simp [hk]
theorem own_form {w:World}{B:Nat}{v:Value}{ps:List ByteArray}(h:Own w B v ps) (hn:ps≠[]):∃ g cap,v=.slice (some ⟨g,0,none⟩) ps.length cap:=by
 rcases h.2 with ⟨_,h0⟩ | ⟨g,cap,cur,hv,_⟩
 ·exact absurd (List.length_eq_zero_iff.1 h0) hn
 ·exact ⟨g,cap,hv⟩
set_option maxHeartbeats 400000 in
theorem elems_nil (s:ByteArray) (w:World) (h:s.data.toList=[]) :
  Calls Tryz.prog 85 #[.string s] w fun e w'=>e=.returned (.slice none 0 0)∧w'=w:=by
 have g:s.toList.isEmpty=true:=by rw [Lib.toList_data,h];rfl
 clear h
 go_enter Tryz.func85,Tryz.ntmps85
 go_wp2
 go_ret
 exact ⟨rfl,rfl⟩
theorem split_any (s:ByteArray) (m:Int) (w:World) (hs:s.size≤4294967280) (hm:w.cell? ⟨14,0,none⟩=some (.int .i64 m)) :
  Calls Tryz.prog 121 #[.string s,.string ⟨#[47]⟩] w fun e w'=>∃ g cap ps,e=.returned (.slice (some ⟨g,0,none⟩) ps.length cap)∧Own w' w.heap.size (.slice (some ⟨g,0,none⟩) ps.length cap) ps∧txts ps=spl s.data.toList∧Below w.heap.size w w'∧∃ os,w'=Go.Sort.grow w os:=by
 refine (Tryz.strings_Split s ⟨#[47]⟩ m w (by omega) hm (by decide)).mono ?_
 rintro e w' ⟨rfl,rfl⟩
 have hl:=Lib.splitB_all ⟨#[47]⟩ (by decide) 0 _ s rfl
 have hc:=Lib.countB_le ⟨#[47]⟩ (by decide) s.size s (Nat.le_refl _)
 refine ⟨w.heap.size,_,Lib.splitB ⟨#[47]⟩ 0 (Lib.countB s ⟨#[47]⟩) s,by rw [hl],?_,?_,(Below.refl _ _).alloc (Nat.le_refl _) _,_,Go.Sort.alloc_eq_grow _ _⟩
 ·have:=World.ownsRow_lit (base:=w.heap.size) (e:=9) (size:=1) w ((Lib.splitB ⟨#[47]⟩ 0 (Lib.countB s ⟨#[47]⟩) s).map Value.string).toArray (Lib.countB s ⟨#[47]⟩+1) (Nat.le_refl _) (by unfold maxLen;omega) (by simp [hl])
  rw [←hl] at this ⊢
  simpa [Own] using this
 ·exact (Lib.splitB_data ⟨#[47]⟩ 0 _ s).trans (splitK_one s.data.toList)
set_option maxHeartbeats 400000 in
theorem elems_some (s:ByteArray) (m:Int) (w:World) (hs:s.size≤4294967280) (hm:w.cell? ⟨14,0,none⟩=some (.int .i64 m)) (h:s.data.toList≠[]) :
  Calls Tryz.prog 85 #[.string s] w fun e w'=>∃ g cap ps,e=.returned (.slice (some ⟨g,0,none⟩) ps.length cap)∧Own w' w.heap.size (.slice (some ⟨g,0,none⟩) ps.length cap) ps∧txts ps=spl s.data.toList∧Below w.heap.size w w'∧∃ os,w'=Go.Sort.grow w os:=by
 have g:s.toList.isEmpty=false:=by rw [Lib.toList_data];simpa using h
 clear h
 go_enter Tryz.func85,Tryz.ntmps85
 go_wp2_with (go_at_call 121;refine (split_any _ m _ hs hm).mono ?_;rintro e w' ⟨g,cap,ps,rfl,hown,ht,hb,hgr⟩)
 go_ret
 exact ⟨_,_,_,rfl,hown,ht,hb,hgr⟩
set_option maxHeartbeats 400000 in
theorem is_long (s:ByteArray) (w:World) (h:170<s.size) :
  Calls Tryz.prog 81 #[.string s] w fun e w'=>e=.returned (.bool (isP s.data.toList))∧Below w.heap.size w w':=by
 have B:=hide (isP_long (l:=s.data.toList) (by have:=Lib.size_eq s;omega))
 go_enter Tryz.func81,Tryz.ntmps81
 go_wp2
 go_ret
 exact ⟨ret_bool (uh B).symm,Below.refl _ _⟩
set_option maxHeartbeats 400000 in
theorem is_nil (s:ByteArray) (w:World) (h:s.data.toList=[]) :
  Calls Tryz.prog 81 #[.string s] w fun e w'=>e=.returned (.bool (isP s.data.toList))∧Below w.heap.size w w':=by
 have B:Hid (isP s.data.toList=true):=by rw [h];exact hide (by decide)
 have hz:(s.size:Int)≤170:=by rw [Lib.size_eq s,h];decide
 have H:=hide h
 clear h
 go_enter Tryz.func81,Tryz.ntmps81
 go_wp2_with (go_at_call 85;refine (elems_nil _ _ (uh H)).mono ?_;rintro e w' ⟨rfl,rfl⟩)
 refine wp_loop_rounds 1 ?_
 rw [rounds_succ]
 go_wp2
 go_ret
 exact ⟨ret_bool (uh B).symm,Below.refl _ _⟩
set_option maxHeartbeats 800000 in
theorem is_some (s:ByteArray) (m:Int) (w:World) (hs:s.size≤170) (hm:w.cell? ⟨14,0,none⟩=some (.int .i64 m)) (h:s.data.toList≠[]) :
  Calls Tryz.prog 81 #[.string s] w fun e w'=>e=.returned (.bool (isP s.data.toList))∧Below w.heap.size w w':=by
 have H:=hide h
 have hl0:Hid ((spl s.data.toList).length≤s.size+1):=hide (by have:=spl_len s.data.toList;have:=Lib.size_eq s;omega)
 have HP:=hide (prt_ne h)
 clear h
 go_enter Tryz.func81,Tryz.ntmps81
 go_wp2_with (go_at_call 85;refine (elems_some _ m _ (by omega) hm (uh H)).mono ?_;rintro e w1 ⟨g,cap,ps,rfl,hown,ht,hb,_⟩)
 have hlen:ps.length≤171:=by have:=txts_len ps;rw [ht] at this;have:=uh hl0;omega
 have HT:=hide ht
 clear ht hl0
 go_loop [13] (fun i=>∃ k:Nat,k≤ps.length∧i=.int .i64 k∧Hid (((txts ps).take k).all elt=true)) (fun i=>ps.length-(intOf i).toNat)
 case atStart=>exact ⟨0,Nat.zero_le _,rfl,hide rfl⟩
 case round=>
  obtain ⟨k,hk,rfl,HA⟩:=hrel
  by_cases hlt:k<ps.length
  ·obtain ⟨b,hbk⟩:∃ b,ps[k]?=some b:=⟨ps[k],List.getElem?_eq_getElem hlt⟩
   have hcell:=own_cell hown hbk
   have HB:=hide hbk
   clear hbk
   cases hok:elt b.data.toList
   ·have B:=hide (isP_not (l:=s.data.toList) (by rw [uh HP,←uh HT];exact txts_get (uh HB)) hok)
    go_wp2_with (go_at_call 119;refine (isEl_any _ _).mono ?_;rintro e w' ⟨rfl,rfl⟩)
    go_ret
    exact ⟨ret_bool (uh B).symm,hb⟩
   ·have B:=hide (all_take_succ (txts_get (uh HB)) (uh HA) hok)
    go_wp2_with (go_at_call 119;refine (isEl_any _ _).mono ?_;rintro e w' ⟨rfl,rfl⟩)
    go_round
    case rel=>exact ⟨k+1,by omega,by go_num,B⟩
    case measure=>simp [intOf];omega
  ·have B:Hid (isP s.data.toList=decide (ps.length≤12)):=by
    have ha:=uh HA
    have ht:=uh HT
    rw [List.take_of_length_le (by rw [txts_len];omega)] at ha
    have:=isP_yes (l:=s.data.toList) (by have:=Lib.size_eq s;omega) (by rw [uh HP,←ht];exact ha)
    rw [uh HP,←ht,txts_len] at this
    exact hide this
   go_wp2
   go_ret
   exact ⟨ret_bool (by rw [uh B];exact decide_eq_decide.2 (by omega)),hb⟩
theorem is_any (s:ByteArray) (m:Int) (w:World) (hm:w.cell? ⟨14,0,none⟩=some (.int .i64 m)) :
  Calls Tryz.prog 81 #[.string s] w fun e w'=>e=.returned (.bool (isP s.data.toList))∧Below w.heap.size w w':=by
 by_cases h1:170<s.size
 ·exact is_long s w h1
 ·by_cases h2:s.data.toList=[]
  ·exact is_nil s w h2
  ·exact is_some s m w (by omega) hm h2
def bs (l:List UInt8):ByteArray:=⟨l.toArray⟩
theorem data_bs (l:List UInt8):(bs l).data.toList=l:=rfl
theorem data_append (a b:ByteArray):(a++b).data.toList=a.data.toList++b.data.toList:=by simp
structure Ent where
 path:ByteArray
 kind:Int
 mode:Int
 data:ByteArray
def tgC (c:UInt8):Bool:=decide (33≤(c.toNat:Int)∧(c.toNat:Int)≤126)
def tgt (l:List UInt8):Bool:=l.all tgC&&l != []&&decide (l.length≤100)
def modeOk (m:Int):Bool:=decide (0≤m∧m≤511)
def goodE (e:Ent):Bool:=
 if e.kind=1 then modeOk e.mode&&e.data.data.toList==[]
 else if e.kind=2 then modeOk e.mode&&decide (e.data.size≤4096)
 else if e.kind=3 then decide (e.mode=0)&&tgt e.data.data.toList
 else false
theorem tg_snoc (s:ByteArray) (k:Nat) (h:k<s.size) (h1:(s.data.toList.take k).all tgC=true) (h2:33≤(s[k].toNat:Int)∧(s[k].toNat:Int)≤126):(s.data.toList.take (k+1)).all tgC=true:=by
 rw [take_snoc s k h,List.all_append,h1];simpa [tgC] using h2
theorem tg_bad (s:ByteArray) (k:Nat) (h:k<s.size) (h2:¬ (33≤(s[k].toNat:Int)∧(s[k].toNat:Int)≤126)):tgt s.data.toList=false:=by
 have:s.data.toList.all tgC=false:=by
  rw [List.all_eq_false]
  refine ⟨s[k],?_,by simpa [tgC] using h2⟩
  rw [show s[k]=s.data[k] from rfl];simp
 simp [tgt,this]
theorem tg_good (s:ByteArray) (k:Nat) (h:s.size≤k) (h1:(s.data.toList.take k).all tgC=true):s.data.toList.all tgC=true:=by
 rw [List.take_of_length_le (by have:=Lib.size_eq s;omega)] at h1;exact h1
set_option maxHeartbeats 400000 in
theorem isTg_any (s:ByteArray) (w:World) :
  Calls Tryz.prog 83 #[.string s] w fun e w'=>e=.returned (.bool (tgt s.data.toList))∧w'=w:=by
 by_cases h0:s.data.toList=[]
 ·have C:Hid (tgt s.data.toList=false):=hide (by rw [h0];rfl)
  have g1:s.toList.isEmpty=true:=by rw [Lib.toList_data,h0];rfl
  clear h0
  go_enter Tryz.func83,Tryz.ntmps83
  go_wp2
  go_ret
  exact ⟨ret_bool (uh C).symm,rfl⟩
 ·have g1:s.toList.isEmpty=false:=by rw [Lib.toList_data];simpa using h0
  by_cases h1:(s.size:Int)≤100
  ·have D:Hid (s.data.toList.all tgC=true→tgt s.data.toList=true):=hide (fun h=>by rw [tgt,h];have:=Lib.size_eq s;simp [h0];omega)
   clear h0
   go_enter Tryz.func83,Tryz.ntmps83
   go_wp2
   go_loop [13] (fun i=>∃ k:Nat,k≤s.size∧i=.int .i64 k∧(s.data.toList.take k).all tgC=true) (fun i=>s.size-(intOf i).toNat)
   case atStart=>exact ⟨0,Nat.zero_le _,rfl,rfl⟩
   case round=>
    obtain ⟨k,hk,rfl,ha⟩:=hrel
    have A:=hide ha
    clear ha
    by_cases hlt:k<s.size
    ·by_cases hc:33≤(s[k].toNat:Int)∧(s[k].toNat:Int)≤126
     ·have B:=hide (tg_snoc s k hlt (uh A) hc)
      obtain ⟨hc1,hc2⟩:=hc
      go_wp2
      go_round
      case rel=>exact ⟨k+1,by omega,by go_num,uh B⟩
      case measure=>simp [intOf];omega
     ·have B:=hide (tg_bad s k hlt hc)
      have hc2:(s[k].toNat:Int)<33∨126<(s[k].toNat:Int):=by omega
      clear hc
      rcases hc2 with hc | hc
      all_goals
       go_wp2
       go_ret
       exact ⟨ret_bool (uh B).symm,rfl⟩
    ·have B:=hide (uh D (tg_good s k (by omega) (uh A)))
     go_wp2
     go_ret
     exact ⟨ret_bool (uh B).symm,rfl⟩
  ·have C:Hid (tgt s.data.toList=false):=hide (by rw [tgt];have:=Lib.size_eq s;simp;omega)
   clear h0
   go_enter Tryz.func83,Tryz.ntmps83
   go_wp2
   go_ret
   exact ⟨ret_bool (uh C).symm,rfl⟩
theorem isMode_any (n:Int) (w:World) :
  Calls Tryz.prog 82 #[.int .i64 n] w fun e w'=>e=.returned (.bool (modeOk n))∧w'=w:=by
 by_cases h0:0≤n
 ·by_cases h1:n≤511
  ·have C:Hid (modeOk n=true):=hide (by simp [modeOk,h0,h1])
   go_enter Tryz.func82,Tryz.ntmps82
   go_wp2
   go_ret
   exact ⟨ret_bool (uh C).symm,rfl⟩
  ·have C:Hid (modeOk n=false):=hide (by simp [modeOk,h1])
   go_enter Tryz.func82,Tryz.ntmps82
   go_wp2
   go_ret
   exact ⟨ret_bool (uh C).symm,rfl⟩
 ·have C:Hid (modeOk n=false):=hide (by simp [modeOk,h0])
  go_enter Tryz.func82,Tryz.ntmps82
  go_wp2
  go_ret
  exact ⟨ret_bool (uh C).symm,rfl⟩
def entOk (e:Ent):Bool:=e.path.data.toList != []&&isP e.path.data.toList&&goodE e
set_option maxHeartbeats 1000000 in
theorem isEntry_any (e:Ent) (m:Int) (w:World) (hm:w.cell? ⟨14,0,none⟩=some (.int .i64 m)) :
  Calls Tryz.prog 43 #[.agg #[.string e.path,.int .i64 e.kind,.int .i64 e.mode,.string e.data]] w fun ev w'=>ev=.returned (.bool (entOk e))∧Below w.heap.size w w':=by
 obtain ⟨path,kind,mode,data⟩:=e
 simp only at ⊢
 have hml:=World.block_lt_of_cell? _ _ hm
 have HB:∀ o,Below w.heap.size w (w.alloc o):=fun o=>(Below.refl _ _).alloc (Nat.le_refl _) o
 have HM:Hid (∀ o,(w.alloc o).cell? ⟨14,0,none⟩=some (.int .i64 m)):=hide (fun o=>cell_later (HB o) hm)
 clear hm
 by_cases p0:path.data.toList=[]
 ·have C:Hid (entOk ⟨path,kind,mode,data⟩=false):=hide (by simp [entOk,p0])
  have g1:path.toList.isEmpty=true:=by rw [Lib.toList_data,p0];rfl
  clear p0
  go_enter Tryz.func43,Tryz.ntmps43
  go_wp2
  go_ret
  exact ⟨ret_bool (uh C).symm,HB _⟩
 ·have g1:path.toList.isEmpty=false:=by rw [Lib.toList_data];simpa using p0
  cases hp:isP path.data.toList
  ·have C:Hid (entOk ⟨path,kind,mode,data⟩=false):=hide (by simp [entOk,hp])
   clear p0
   go_enter Tryz.func43,Tryz.ntmps43
   go_wp2_with (go_at_call 81;refine (is_any _ m _ (uh HM _)).mono ?_;rintro ev w1 ⟨rfl,hb1⟩)
   go_ret
   exact ⟨ret_bool (uh C).symm,(HB _).trans (hb1.mono (by simp))⟩
  ·have CC:Hid (entOk ⟨path,kind,mode,data⟩=goodE ⟨path,kind,mode,data⟩):=hide (by simp [entOk,hp,p0])
   clear p0
   go_enter Tryz.func43,Tryz.ntmps43
   go_upto_region 3 with (go_at_call 81;refine (is_any _ m _ (uh HM _)).mono ?_;rintro ev w1 ⟨rfl,hb1⟩)
   have hq:=(hb1.block w.heap.size (by simp)).trans (heap_alloc_new _ _)
   have q1:=cell_of_row w1 w.heap.size 1 _ _ _ hq
   have q2:=cell_of_row w1 w.heap.size 2 _ _ _ hq
   have q3:=cell_of_row w1 w.heap.size 3 _ _ _ hq
   simp only [List.getElem?_toArray,List.getElem?_cons_succ,List.getElem?_cons_zero] at q1 q2 q3
   have hB1:Below w.heap.size w w1:=(HB _).trans (hb1.mono (by simp))
   clear hq hb1 HB HM
   by_cases k1:kind=1
   ·subst k1
    by_cases h0:data.data.toList=[]
    ·have C:Hid (goodE ⟨path,1,mode,data⟩=modeOk mode):=hide (by simp [goodE,h0])
     have g2:data.toList.isEmpty=true:=by rw [Lib.toList_data,h0];rfl
     clear h0
     cases hmo:modeOk mode
     all_goals
      go_wp2_with (go_at_call 82;refine (isMode_any _ _).mono ?_;rintro ev w' ⟨rfl,hw⟩;obtain rfl:=hw.symm)
      go_ret
      exact ⟨ret_bool (by rw [uh CC,uh C,hmo]),hB1⟩
    ·have C:Hid (goodE ⟨path,1,mode,data⟩=false):=hide (by simp only [goodE,if_true,beq_eq_false_iff_ne.2 h0,Bool.and_false])
     have g2:data.toList.isEmpty=false:=by rw [Lib.toList_data];simpa using h0
     clear h0
     cases hmo:modeOk mode
     all_goals
      go_wp2_with (go_at_call 82;refine (isMode_any _ _).mono ?_;rintro ev w' ⟨rfl,hw⟩;obtain rfl:=hw.symm)
      go_ret
      exact ⟨ret_bool (by rw [uh CC,uh C]),hB1⟩
   ·by_cases k2:kind=2
    ·subst k2
     clear k1
     by_cases h0:(data.size:Int)≤4096
     ·have C:Hid (goodE ⟨path,2,mode,data⟩=modeOk mode):=hide (by have:data.size≤4096:=(by omega);simp [goodE,this])
      cases hmo:modeOk mode
      all_goals
       go_wp2_with (go_at_call 82;refine (isMode_any _ _).mono ?_;rintro ev w' ⟨rfl,hw⟩;obtain rfl:=hw.symm)
       go_ret
       exact ⟨ret_bool (by rw [uh CC,uh C,hmo]),hB1⟩
     ·have C:Hid (goodE ⟨path,2,mode,data⟩=false):=hide (by simp [goodE];intro _;omega)
      cases hmo:modeOk mode
      all_goals
       go_wp2_with (go_at_call 82;refine (isMode_any _ _).mono ?_;rintro ev w' ⟨rfl,hw⟩;obtain rfl:=hw.symm)
       go_ret
       exact ⟨ret_bool (by rw [uh CC,uh C];try exact decide_eq_false (by omega)),hB1⟩
    ·by_cases k3:kind=3
     ·subst k3
      clear k1 k2
      by_cases hz:mode=0
      ·subst hz
       have C:Hid (goodE ⟨path,3,0,data⟩=tgt data.data.toList):=hide (by simp [goodE])
       go_wp2_with (go_at_call 83;refine (isTg_any _ _).mono ?_;rintro ev w' ⟨rfl,hw⟩;obtain rfl:=hw.symm)
       go_ret
       exact ⟨ret_bool (by rw [uh CC,uh C]),hB1⟩
      ·have C:Hid (goodE ⟨path,3,mode,data⟩=false):=hide (by simp [goodE,hz])
       go_wp2
       go_ret
       exact ⟨ret_bool (by rw [uh CC,uh C]),hB1⟩
     ·have C:Hid (goodE ⟨path,kind,mode,data⟩=false):=hide (by simp [goodE,k1,k2,k3])
      go_wp2
      go_ret
      exact ⟨ret_bool (by rw [uh CC,uh C]),hB1⟩
def ltL:List (List UInt8)→List (List UInt8)→Bool
 | _,[]=>false
 | [],_ :: _=>true
 | x :: xs,y :: ys=>Op.bytesLess x y || (x==y&&ltL xs ys)
theorem drop_at {α:Type}{l:List α}{k:Nat}{a:α}(h:l[k]?=some a):l.drop k=a :: l.drop (k+1):=by
 obtain ⟨hk,rfl⟩:=List.getElem?_eq_some_iff.1 h
 exact List.drop_eq_getElem_cons hk
theorem ltL_at {x y:List (List UInt8)}{k:Nat}{a b:List UInt8}(ha:x[k]?=some a) (hb:y[k]?=some b):ltL (x.drop k) (y.drop k)=(Op.bytesLess a b || (a==b&&ltL (x.drop (k+1)) (y.drop (k+1)))):=by
 rw [drop_at ha,drop_at hb,ltL]
theorem ltL_end {x y:List (List UInt8)}{k:Nat}(h:x.length≤k∨y.length≤k):ltL (x.drop k) (y.drop k)=decide (x.length≤k∧k<y.length):=by
 by_cases h2:y.length≤k
 ·rw [List.drop_of_length_le (l:=y) h2]
  have:¬ (x.length≤k∧k<y.length):=by omega
  simp only [this,decide_false]
  cases x.drop k <;> rfl
 ·have hx:x.length≤k:=by omega
  have hy:k<y.length:=by omega
  rw [List.drop_of_length_le (l:=x) hx,List.drop_eq_getElem_cons hy,ltL]
  simp [hx,hy]
def cmpT (x y:List (List UInt8)):Int:=if ltL x y=true then -1 else if x=y then 0 else 1
theorem cmpT_at {x y:List (List UInt8)}{k:Nat}{a b:List UInt8}(ha:x[k]?=some a) (hb:y[k]?=some b):cmpT (x.drop k) (y.drop k)=if Op.bytesLess a b=true then -1 else if (a==b)=true then cmpT (x.drop (k+1)) (y.drop (k+1)) else 1:=by
 unfold cmpT
 rw [ltL_at ha hb,drop_at ha,drop_at hb]
 cases h1:Op.bytesLess a b with
 | true=>simp
 | false=>
   cases h2:(a==b) with
   | false=>
     have:a≠b:=by simpa using h2
     simp [this]
   | true=>
     have:a=b:=by simpa using h2
     simp [this]
theorem cmpT_end {x y:List (List UInt8)}{k:Nat}(h:x.length≤k∨y.length≤k) (hx:k≤x.length) (hy:k≤y.length):cmpT (x.drop k) (y.drop k)=if x.length<y.length then -1 else if x.length=y.length then 0 else 1:=by
 unfold cmpT
 rw [ltL_end h]
 by_cases h1:x.length<y.length
 ·have:x.length≤k∧k<y.length:=by omega
  simp [h1,this]
 ·have:¬ (x.length≤k∧k<y.length):=by omega
  by_cases h2:x.length=y.length
  ·rw [List.drop_of_length_le (l:=x) (by omega),List.drop_of_length_le (l:=y) (by omega)]
   simp [h2]
  ·have hne:x.drop k≠y.drop k:=fun e=>by
    have:=congrArg List.length e
    rw [List.length_drop,List.length_drop] at this
    omega
   simp [this,h1,h2,hne]
theorem cmpT_lt {x y:List (List UInt8)}:cmpT x y<0↔ltL x y=true:=by
 unfold cmpT
 split
 ·rename_i h;simp [h]
 ·rename_i h
  split <;> simp [h]
def TRow (w:World) (ao:Option Addr) (ps:List ByteArray):Prop:=∀ k b,ps[k]?=some b→∃ g,ao=some ⟨g,0,none⟩∧w.cell? ⟨g,k,none⟩=some (.string b)
theorem TRow.below {w w':World}{ao:Option Addr}{ps:List ByteArray}(h:TRow w ao ps) (hb:Below w.heap.size w w'):TRow w' ao ps:=fun k b hk=>by
 obtain ⟨g,h1,h2⟩:=h k b hk
 exact ⟨g,h1,cell_later hb h2⟩
theorem trow_of_own {w:World}{B g cap:Nat}{ps:List ByteArray}(h:Own w B (.slice (some ⟨g,0,none⟩) ps.length cap) ps):TRow w (some ⟨g,0,none⟩) ps:=fun _ _ hk=>⟨g,rfl,own_cell h hk⟩
theorem trow_nil (w:World) (ao:Option Addr):TRow w ao []:=fun k b hk=>by simp at hk
theorem elems_any (s:ByteArray) (m:Int) (w:World) (hs:s.size≤4294967280) (hm:w.cell? ⟨14,0,none⟩=some (.int .i64 m)) :
  Calls Tryz.prog 85 #[.string s] w fun e w'=>∃ ao cap n ps,e=.returned (.slice ao n cap)∧TRow w' ao ps∧Hid (txts ps=prt s.data.toList)∧Hid (n=ps.length)∧n≤s.size+1∧Below w.heap.size w w':=by
 by_cases h:s.data.toList=[]
 ·refine (elems_nil s w h).mono ?_
  rintro e w' ⟨rfl,hw⟩
  obtain rfl:=hw.symm
  exact ⟨none,0,0,[],rfl,trow_nil _ _,hide (by rw [h];rfl),hide rfl,by omega,Below.refl _ _⟩
 ·refine (elems_some s m w hs hm h).mono ?_
  rintro e w' ⟨g,cap,ps,rfl,h1,h2,h3,_⟩
  have hl:ps.length≤s.size+1:=by have:=spl_len s.data.toList;rw [←h2,txts_len,←Lib.size_eq] at this;exact this
  exact ⟨_,cap,_,ps,rfl,trow_of_own h1,hide (by rw [prt_ne h];exact h2),hide rfl,hl,h3⟩
theorem str_gtr (t:TypeId) (a b:ByteArray):binOp .gtr t (.string a) (.string b)=pure (.bool !(Op.bytesLess a.toList b.toList || a.toList==b.toList)):=by simp [binOp,Op.stringOp]
attribute [local go_sem] str_gtr
theorem bl_ne {a b:List UInt8}(h:Op.bytesLess a b=true):(a==b)=false:=by
 rw [beq_eq_false_iff_ne]
 rintro rfl
 induction a with
 | nil=>simp [Op.bytesLess] at h
 | cons c r ih=>simp [Op.bytesLess] at h;exact ih h
theorem isNaN_any (s:ByteArray) (w:World):Calls Tryz.prog 157 #[.string s] w fun e w'=>e=.returned (.bool false)∧w'=w:=by
 go_enter Tryz.func157,Tryz.ntmps157
 go_wp2
 go_ret
 exact ⟨rfl,rfl⟩
def cmpS (a b:List UInt8):Int:=if Op.bytesLess a b=true then -1 else if (a==b)=true then 0 else 1
theorem cmp_any (a b:ByteArray) (w:World):Calls Tryz.prog 120 #[.string a,.string b] w fun e w'=>e=.returned (.int .i64 (cmpS a.toList b.toList))∧w'=w:=by
 cases h1:Op.bytesLess a.toList b.toList
 ·cases h2:(a.toList==b.toList)
  ·have C:Hid (cmpS a.toList b.toList=1):=hide (by simp [cmpS,h1,h2])
   go_enter Tryz.func120,Tryz.ntmps120
   go_wp2_with (go_at_call 157;refine (isNaN_any _ _).mono ?_;rintro ev w' ⟨rfl,hw⟩;obtain rfl:=hw.symm)
   go_ret
   exact ⟨by rw [uh C];rfl,rfl⟩
  ·have C:Hid (cmpS a.toList b.toList=0):=hide (by simp [cmpS,h1,h2])
   go_enter Tryz.func120,Tryz.ntmps120
   go_wp2_with (go_at_call 157;refine (isNaN_any _ _).mono ?_;rintro ev w' ⟨rfl,hw⟩;obtain rfl:=hw.symm)
   go_ret
   exact ⟨by rw [uh C];rfl,rfl⟩
 ·have C:Hid (cmpS a.toList b.toList=-1):=hide (by simp [cmpS,h1])
  go_enter Tryz.func120,Tryz.ntmps120
  go_wp2_with (go_at_call 157;refine (isNaN_any _ _).mono ?_;rintro ev w' ⟨rfl,hw⟩;obtain rfl:=hw.symm)
  go_ret
  exact ⟨by rw [uh C];rfl,rfl⟩
end Go.Proofs.YtehfpjcclknipaaGreatDoor.T
namespace Go.Proofs.YtehfpjcclknipaaGreatDoor.T
open Go.RowKit
attribute [local go_sem] str_gtr
theorem get_lt {ps:List ByteArray}{n k:Nat}(hn:n=ps.length) (hk:k<n):∃ b,ps[k]?=some b:=⟨ps[k]'(by omega),List.getElem?_eq_getElem (by omega)⟩
set_option maxHeartbeats 1000000 in
theorem scmp_any (ao1 ao2:Option Addr) (cap1 cap2 n1 n2:Nat) (ps1 ps2:List ByteArray) (w:World) (ht1:TRow w ao1 ps1) (ht2:TRow w ao2 ps2) (HN1:Hid (n1=ps1.length)) (HN2:Hid (n2=ps2.length)) (hl1:n1≤4294967280) (hl2:n2≤4294967280) :
  Calls Tryz.prog 84 #[.slice ao1 n1 cap1,.slice ao2 n2 cap2] w fun e w'=>e=.returned (.int .i64 (cmpT (txts ps1) (txts ps2)))∧w'=w:=by
 have L1:Hid ((txts ps1).length=n1):=hide (by rw [txts_len,uh HN1])
 have L2:Hid ((txts ps2).length=n2):=hide (by rw [txts_len,uh HN2])
 go_enter Tryz.func84,Tryz.ntmps84
 go_wp2
 go_loop [11] (fun i=>∃ k:Nat,k≤n1∧k≤n2∧i=.int .i64 k∧Hid (cmpT (txts ps1) (txts ps2)=cmpT ((txts ps1).drop k) ((txts ps2).drop k))) (fun i=>n1-(intOf i).toNat)
 case atStart=>exact ⟨0,by omega,by omega,rfl,hide rfl⟩
 case round=>
  obtain ⟨k,hk1,hk2,rfl,HK⟩:=hrel
  by_cases hlt:k<n1
  ·obtain ⟨x,hx⟩:=get_lt (uh HN1) hlt
   obtain ⟨g1,rfl,c1⟩:=ht1 k x hx
   have i1:(k:Int)<n1:=by omega
   have i0:(0:Int)≤k:=by omega
   by_cases hlt2:k<n2
   ·obtain ⟨y,hy⟩:=get_lt (uh HN2) hlt2
    obtain ⟨g2,rfl,c2⟩:=ht2 k y hy
    have HA:=hide (cmpT_at (txts_get hx) (txts_get hy))
    have i2:(k:Int)<n2:=by omega
    clear hx hy
    cases h1:Op.bytesLess x.toList y.toList
    ·cases h2:(x.toList==y.toList)
     ·have e:cmpS x.toList y.toList=1:=by simp [cmpS,h1,h2]
      go_wp2_with (go_at_call 120;refine (cmp_any _ _ _).mono ?_;rintro ev w' ⟨rfl,hw⟩;obtain rfl:=hw.symm)
      go_ret
      have R:cmpT (txts ps1) (txts ps2)=1:=by rw [uh HK,uh HA,←Lib.toList_data x,←Lib.toList_data y,h1,h2];simp
      exact ⟨by (rw [R];try rfl),rfl⟩
     ·have e:cmpS x.toList y.toList=0:=by simp [cmpS,h1,h2]
      go_wp2_with (go_at_call 120;refine (cmp_any _ _ _).mono ?_;rintro ev w' ⟨rfl,hw⟩;obtain rfl:=hw.symm)
      go_round
      case rel=>
       have R:cmpT (txts ps1) (txts ps2)=cmpT ((txts ps1).drop (k+1)) ((txts ps2).drop (k+1)):=by
        rw [uh HK,uh HA,←Lib.toList_data x,←Lib.toList_data y,h1,h2];simp
       exact ⟨k+1,by omega,by omega,by go_num,hide R⟩
      case measure=>simp [intOf];omega
    ·have e:cmpS x.toList y.toList=-1:=by simp [cmpS,h1]
     go_wp2_with (go_at_call 120;refine (cmp_any _ _ _).mono ?_;rintro ev w' ⟨rfl,hw⟩;obtain rfl:=hw.symm)
     go_ret
     have R:cmpT (txts ps1) (txts ps2)=-1:=by rw [uh HK,uh HA,←Lib.toList_data x,←Lib.toList_data y,h1];simp
     exact ⟨by (rw [R];try rfl),rfl⟩
   ·have HA:=hide (cmpT_end (x:=txts ps1) (y:=txts ps2) (k:=k) (by rw [uh L1,uh L2];omega) (by rw [uh L1];omega) (by rw [uh L2];omega))
    clear hx
    go_wp2
    go_ret
    have R:cmpT (txts ps1) (txts ps2)=1:=by
     rw [uh HK,uh HA,uh L1,uh L2]
     split <;> (try split) <;> omega
    exact ⟨by (rw [R];try rfl),rfl⟩
  ·have HA:=hide (cmpT_end (x:=txts ps1) (y:=txts ps2) (k:=k) (by rw [uh L1,uh L2];omega) (by rw [uh L1];omega) (by rw [uh L2];omega))
   by_cases hl:(n1:Int)<n2
   ·go_wp2
    go_ret
    have R:cmpT (txts ps1) (txts ps2)=-1:=by
     rw [uh HK,uh HA,uh L1,uh L2]
     split <;> (try split) <;> omega
    exact ⟨by (rw [R];try rfl),rfl⟩
   ·go_wp2
    go_ret
    have R:cmpT (txts ps1) (txts ps2)=0:=by
     rw [uh HK,uh HA,uh L1,uh L2]
     split <;> (try split) <;> omega
    exact ⟨by (rw [R];try rfl),rfl⟩
theorem elems_grow (s:ByteArray) (m:Int) (w:World) (hs:s.size≤4294967280) (hm:w.cell? ⟨14,0,none⟩=some (.int .i64 m)) :
  Calls Tryz.prog 85 #[.string s] w fun e w'=>∃ ao cap n ps,e=.returned (.slice ao n cap)∧TRow w' ao ps∧Hid (txts ps=prt s.data.toList)∧Hid (n=ps.length)∧n≤s.size+1∧Below w.heap.size w w'∧Hid (∃ os,w'=Go.Sort.grow w os):=by
 by_cases h:s.data.toList=[]
 ·refine (elems_nil s w h).mono ?_
  rintro e w' ⟨rfl,hw⟩
  obtain rfl:=hw.symm
  exact ⟨none,0,0,[],rfl,trow_nil _ _,hide (by rw [h];rfl),hide rfl,by omega,Below.refl _ _,hide ⟨#[],(Go.Sort.grow_empty w).symm⟩⟩
 ·refine (elems_some s m w hs hm h).mono ?_
  rintro e w' ⟨g,cap,ps,rfl,h1,h2,h3,h4⟩
  have hl:ps.length≤s.size+1:=by have:=spl_len s.data.toList;rw [←h2,txts_len,←Lib.size_eq] at this;exact this
  exact ⟨_,cap,_,ps,rfl,trow_of_own h1,hide (by rw [prt_ne h];exact h2),hide rfl,hl,h3,hide h4⟩
set_option maxHeartbeats 400000 in
theorem compare_grow (a b:ByteArray) (m:Int) (w:World) (ha:a.size≤1073741824) (hb:b.size≤1073741824) (hm:w.cell? ⟨14,0,none⟩=some (.int .i64 m)) :
  Calls Tryz.prog 44 #[.string a,.string b] w fun e w'=>e=.returned (.int .i64 (cmpT (prt a.data.toList) (prt b.data.toList)))∧(∃ os,w'=Go.Sort.grow w os)∧Below w.heap.size w w':=by
 have HM:=hide hm
 clear hm
 go_enter Tryz.func44,Tryz.ntmps44
 go_wp2_with (first
  | (go_at_call_of 85 (Value.string a);refine (elems_grow a m _ (by omega) (uh HM)).mono ?_;rintro ev w1 ⟨ao1,cap1,n1,ps1,rfl,ht1,HE1,HN1,hl1,hb1,HG1⟩)
  | (go_at_call_of 85 (Value.string b);refine (elems_grow b m _ (by omega) (cell_later hb1 (uh HM))).mono ?_;rintro ev w2 ⟨ao2,cap2,n2,ps2,rfl,ht2,HE2,HN2,hl2,hb2,HG2⟩)
  | (go_at_call 84;refine (scmp_any _ _ _ _ _ _ ps1 ps2 _ (ht1.below hb2) ht2 HN1 HN2 (by omega) (by omega)).mono ?_;rintro ev w3 ⟨rfl,hw⟩;obtain rfl:=hw.symm))
 go_ret
 obtain ⟨o1,h1⟩:=uh HG1
 obtain ⟨o2,h2⟩:=uh HG2
 refine ⟨by rw [←uh HE1,←uh HE2];rfl,⟨o1++o2,?_⟩,hb1.trans (hb2.mono hb1.size)⟩
 rw [h2,h1,Go.Sort.grow_grow]
theorem compare_any (a b:ByteArray) (m:Int) (w:World) (ha:a.size≤1073741824) (hb:b.size≤1073741824) (hm:w.cell? ⟨14,0,none⟩=some (.int .i64 m)) :
  Calls Tryz.prog 44 #[.string a,.string b] w fun e w'=>∃ n:Int,e=.returned (.int .i64 n)∧(n<0↔ltL (prt a.data.toList) (prt b.data.toList)=true)∧Below w.heap.size w w':=by
 refine (compare_grow a b m w ha hb hm).mono ?_
 rintro e w' ⟨rfl,_,hb⟩
 exact ⟨_,rfl,cmpT_lt,hb⟩
end Go.Proofs.YtehfpjcclknipaaGreatDoor.T
