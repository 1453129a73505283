import Derived.Test.YtehfpjcclknipaaGreatDoorJAs
import Derived.Test.YtehfpjcclknipaaGreatDoorJBfS
import Derived.Defers
import Derived.Recover
import Derived.Shelf.Strings.OnBuilder
import Derived.Shelf.Strings.Builder1
import Derived.Shelf.Strings.BuilderF
import Derived.Shelf.Strings.BuilderK
import Derived.Test.YtehfpjcclknipaaGreatDoorProg
import Derived.Test.YtehfpjcclknipaaGreatDoorJWrI
import Derived.Test.YtehfpjcclknipaaGreatDoorJBfH
namespace Go.Proofs.YtehfpjcclknipaaGreatDoor
open Go.RowKit Go.Maps
theorem assert_err (v:Value) (w:World):(Instr.typeAssert (.iface 203 v) 20 47 true).run Tryz.prog w=.ok (.tuple #[.iface 203 v,.bool true]) w:=by kernel_rfl
set_option maxHeartbeats 2000000 in
set_option maxRecDepth 10000 in
theorem wrong_any (b:Nat) (e p:Nat) (w:World) (hb:w.heap[b]?=some (.cells #[.int .i64 (e:Int),.int .i64 (p:Int)] 206 (0,0))) (hg:w.cell? ⟨0,0,none⟩=some (.iface 168 (.agg #[.pointer (some ⟨22,47,none⟩)]))) :
  Calls Tryz.prog 64 #[.iface 203 (.pointer (some ⟨b,0,none⟩))] w fun ev w'=>∃ a:Nat,ev=.returned (.iface 80 (.pointer (some ⟨a,0,none⟩)))∧w'.heap[a]?=some (.cells #[.int .i64 (e:Int),.int .i64 (p:Int)] 84 (0,0))∧Below w.heap.size w w':=by
 have hA:=assert_err (.pointer (some ⟨b,0,none⟩))
 obtain ⟨W0,hW0⟩:∃ W0,W0=(w.alloc (.cells #[.pointer none] 203)).alloc (.cells #[.pointer none] 204):=⟨_,rfl⟩
 have hb0:Below w.heap.size w W0:=by rw [hW0]; exact ((Below.refl _ _).alloc (Nat.le_refl _) _).alloc (by simp) _
 have hc0:W0.heap[w.heap.size]?=some (.cells #[.pointer none] 203 (0,0)):=by
  rw [hW0,Below.heap_alloc _ _ _ (by simp)]; exact heap_alloc_new _ _
 have hH:=as_hitW ⟨b,0,none⟩ ⟨w.heap.size,0,none⟩ (.pointer none) W0 (cell_later hb0 hg) (cq 0 hc0) (by simp [World.frozen?,hc0])
 have hz0:w.heap.size<W0.heap.size:=by rw [hW0]; simp; omega
 have hH2:Calls Tryz.prog 22 #[.iface 203 (.pointer (some ⟨b,0,none⟩)),.iface 205 (.pointer (some ⟨w.heap.size,0,none⟩))] W0 fun ev w'=>ev=.returned (.bool true)∧w'.cell? ⟨w.heap.size,0,none⟩=some (.pointer (some ⟨b,0,none⟩))∧Below w.heap.size W0 w':=by
  refine hH.mono ?_
  rintro ev w' ⟨rfl,rfl⟩
  refine ⟨rfl,?_,?_⟩
  ·refine cq 0 (heap_setCell_same _ _ 0 #[.pointer none] 203 _ ?_)
   rw [Below.heap_alloc _ _ _ (by simp; omega),Below.heap_alloc _ _ _ (by simp; omega),Below.heap_alloc _ _ _ (by simp; omega),Below.heap_alloc _ _ _ hz0]
   exact hc0
  ·exact ((((Below.refl _ W0).alloc (Nat.le_of_lt hz0) _).alloc (by simp; omega) _).alloc (by simp; omega) _ |>.alloc (by simp; omega) _).setCell (p:=⟨w.heap.size,0,none⟩) (Nat.le_refl _) _
 clear hH
 have HB0:=hide hb0
 have HC0:=hide hc0
 have HB:=hide hb
 clear hb hb0 hc0 hg
 go_enter Tryz.func64,Tryz.ntmps64
 go_upto_region 5 with fail
 rw [← hW0]
 clear hW0
 go_upto_region 6 with (go_at_call 22; refine hH2.mono ?_; clear hH2; rintro ev w2 ⟨rfl,k0,hb2⟩)
 have hB2:Below w.heap.size w w2:=(uh HB0).trans hb2
 have hbl:b<w.heap.size:=(Array.getElem?_eq_some_iff.1 (uh HB)).1
 have hc2:w2.heap[b]?=some (.cells #[.int .i64 (e:Int),.int .i64 (p:Int)] 206 (0,0)):=(hB2.block b hbl).trans (uh HB)
 have q0:w2.cell? ⟨b,0,none⟩=some (.int .i64 (e:Int)):=cq 0 hc2
 have q1:w2.cell? ⟨b,1,none⟩=some (.int .i64 (p:Int)):=cq 1 hc2
 have HB2:=hide hB2
 clear hb2 hB2 hc2
 go_region
 all_goals
  try go_wp2_with fail
  go_ret
  exact ⟨_,rfl,heap_alloc_new _ _,((uh HB2).alloc (uh HB2).size _).drew⟩
theorem any_nil (w:World):(binOp BinOp.neq 20 .nilIface .nilIface).run Tryz.prog w=.ok (.bool false) w:=by kernel_rfl
theorem any_some (v:Value) (w:World):(binOp BinOp.neq 20 (.iface 203 v) .nilIface).run Tryz.prog w=.ok (.bool true) w:=by kernel_rfl
theorem catch_idle (p:Addr) (w:World) :
  CallsD Tryz.prog 63 #[.pointer (some p)] .returning w fun e u' w'=>e=.returned (.tuple #[])∧u'=.returning∧w'=w:=by
 have hn:=any_nil
 refine callsD_of_wpS Tryz.func63 rfl fun c₀ cs hu=>?_
 apply wpS_seq
 apply wpS_region
 simp [wpOpsS,go_sem,recoverD,hu,Tryz.ntmps63,Exit.thenS]
 apply wpS_seq
 apply wpS_region
 simp [wpOpsS,go_sem,Exit.thenS,hn]
 refine wpS_cond (t:=false) (by simp [Act.eval,Array.replicate]) ?_
 simp only [if_neg Bool.false_ne_true]
 refine wpS_of_wp ?_
 go_wp2
 cases c₀
 simp_all [bodyPostS,results,Tryz.results63]
set_option maxHeartbeats 2000000 in
theorem catch_wrong (B r b e p:Nat) (w:World) (hb:w.heap[b]?=some (.cells #[.int .i64 (e:Int),.int .i64 (p:Int)] 206 (0,0))) (hg:w.cell? ⟨0,0,none⟩=some (.iface 168 (.agg #[.pointer (some ⟨22,47,none⟩)]))) (hr:w.heap[r]?=some (.cells #[.nilIface] 47 (0,0))) (hB:B≤r) :
  CallsD Tryz.prog 63 #[.pointer (some ⟨r,0,none⟩)] (.panicking [{ v:=.iface 203 (.pointer (some ⟨b,0,none⟩)),recovered:=false }]) w fun ev u' w'=>ev=.returned (.tuple #[])∧u'=.panicking [{ v:=.iface 203 (.pointer (some ⟨b,0,none⟩)),recovered:=true }]∧∃ a:Nat,w'.heap[r]?=some (.cells #[.iface 80 (.pointer (some ⟨a,0,none⟩))] 47 (0,0))∧w'.heap[a]?=some (.cells #[.int .i64 (e:Int),.int .i64 (p:Int)] 84 (0,0))∧Below B w w':=by
 have hn:=any_some (.pointer (some ⟨b,0,none⟩))
 have hW:=wrong_any b e p w hb hg
 have hrl:r<w.heap.size:=(Array.getElem?_eq_some_iff.1 hr).1
 refine callsD_of_wpS Tryz.func63 rfl fun c₀ cs hu=>?_
 apply wpS_seq
 apply wpS_region
 simp [wpOpsS,go_sem,recoverD,hu,Tryz.ntmps63,Exit.thenS]
 apply wpS_seq
 apply wpS_region
 simp [wpOpsS,go_sem,Exit.thenS,hn]
 refine wpS_cond (t:=true) (by simp [Act.eval,Array.replicate]) ?_
 simp only [if_true]
 refine wpS_of_wp ?_
 have HR:=hide hr
 clear hb hg hr
 go_wp2_with (go_at_call 64; refine hW.mono ?_; clear hW; rintro ev w2 ⟨a,rfl,ha,hb2⟩; have hr2:=(hb2.block r hrl).trans (uh HR); have q0:=cq 0 hr2; have q1:w2.frozen? ⟨r,0,none⟩=false:=by simp [World.frozen?,hr2])
 have hne:a≠r:=by
  rintro rfl
  rw [hr2] at ha
  injection ha with ha
  injection ha with _ ha
  cases ha
 have hA:=heap_setCell_same w2 r 0 _ _ (.iface 80 (.pointer (some ⟨a,0,none⟩))) hr2
 have hA2:=heap_setCell_other w2 ⟨r,0,none⟩ a (.iface 80 (.pointer (some ⟨a,0,none⟩))) hne
 rw [ha] at hA2
 have hBB:Below B w (w2.setCell ⟨r,0,none⟩ (.iface 80 (.pointer (some ⟨a,0,none⟩)))):=(hb2.mono (by omega)).setCell (p:=⟨r,0,none⟩) hB _
 obtain ⟨W,hW⟩:∃ W,W=w2.setCell ⟨r,0,none⟩ (.iface 80 (.pointer (some ⟨a,0,none⟩))):=⟨_,rfl⟩
 rw [← hW] at hA hA2 hBB ⊢
 clear hW q0 q1 hr2 hb2 ha HR hn
 cases c₀
 simp [bodyPostS,results,Tryz.results63]
 exact ⟨a,hA,hA2,hBB⟩
theorem FileM.er {w w':World} {B fb q:Nat} {sv:Value} {ss:List StM} {c:Array Value} (h:FileM w B fb sv ss) (hq:w.heap[q]?=some (.cells c 47 (0,0))) (ht:Tb w.heap.size q w w'):FileM w' B fb sv ss:=by
 have hne:fb≠q:=by
  rintro rfl
  have:=h.cells
  rw [hq] at this
  injection this with this
  injection this with _ this
  cases this
 exact ⟨(ht.block fb h.lt hne).trans h.cells,h.base,row_off h.row ht (row_tag h.row hq (by decide)),fun s hs=>⟨row_off (h.all s hs).row ht (row_tag (h.all s hs).row hq (by decide)),fun m hm=>((h.all s hs).all m hm).off hq (by decide) (by decide) ht,(h.all s hs).short⟩,h.short⟩
def ReadOut (w':World) (ev:Ending) (r:Res (List Stg)):Prop:=match r with
 | .error (e,p)=>∃ a:Nat,ev=.returned (.tuple #[.pointer none,.iface 80 (.pointer (some ⟨a,0,none⟩))])∧w'.heap[a]?=some (.cells #[.int .i64 (e:Int),.int .i64 (p:Int)] 84 (0,0))
 | .ok st=>∃ B fb sv ss,ev=.returned (.tuple #[.pointer (some ⟨fb,0,none⟩),.nilIface])∧FileM w' B fb sv ss∧ss.map StM.stg=st
set_option maxHeartbeats 2000000 in
set_option maxRecDepth 10000 in
theorem read_any (s:ByteArray) (m:Int) (w:World) (hm:w.cell? ⟨14,0,none⟩=some (.int .i64 m)) (hg:w.cell? ⟨0,0,none⟩=some (.iface 168 (.agg #[.pointer (some ⟨22,47,none⟩)]))) :
  Calls Tryz.prog 28 #[.string s,.func (.func 29) #[] #[]] w fun ev w'=>ReadOut w' ev (parseG s.data.toList)∧Below w.heap.size w w':=by
 have hmf:∀ (fn:Fn) (first cap:Array Value) (w:World),(Instr.makeFunc fn first cap).run Tryz.prog w=.ok (.func fn first cap) w:=fun _ _ _ _=>rfl
 have hbl:=World.block_lt_of_cell? _ _ hg
 obtain ⟨W0,hW0⟩:∃ W0,W0=w.alloc (.cells #[.nilIface] 47):=⟨_,rfl⟩
 have hb0:Below w.heap.size w W0:=by rw [hW0]; exact (Below.refl _ _).alloc (Nat.le_refl _) _
 have hr0:W0.heap[w.heap.size]?=some (.cells #[.nilIface] 47 (0,0)):=by rw [hW0]; exact heap_alloc_new _ _
 have hz0:W0.heap.size=w.heap.size+1:=by rw [hW0]; simp
 have hF:=read_file s m W0 (cell_later hb0 hm)
 have hg0:=cell_later hb0 hg
 cases hp:parseG s.data.toList with
 | error ep=>
  obtain ⟨e,p⟩:=ep
  rw [hp] at hF
  unfold FileOut Wrg at hF
  have HR:=hide hr0
  have HG:=hide hg0
  have HB:=hide hb0
  clear hr0 hg0 hb0 hp hm hg
  go_enter_defers Tryz.func28,Tryz.ntmps28
  go_upto_region 2 with fail
  rw [← hW0]
  clear hW0
  go_wp2_with (go_at_call 29; refine hF.mono ?_; clear hF; rintro ev w2 ⟨⟨b,rfl,hc⟩,hb2⟩)
  have hr2:=(hb2.block w.heap.size (by omega)).trans (uh HR)
  have hC:=catch_wrong w.heap.size w.heap.size b e p w2 hc (cell_later hb2 (uh HG)) hr2 (Nat.le_refl _)
  refine leaves_cons (f:=63) (args:=#[.pointer (some ⟨w.heap.size,0,none⟩)]) (by simp) (by simp [go_sem]) ?_
  refine hC.mono ?_
  rintro ev u' w3 ⟨rfl,rfl,a,ha,ha2,hb3⟩
  have q0:w3.cell? ⟨w.heap.size,0,none⟩=some (.iface 80 (.pointer (some ⟨a,0,none⟩))):=cq 0 ha
  have hBB:Below w.heap.size w w3:=((uh HB).trans (hb2.mono (by omega))).trans hb3
  simp [Leaves,settle,results,Tryz.results28,go_sem,q0]
  exact ⟨⟨a,rfl,ha2⟩,hBB⟩
 | ok st=>
  rw [hp] at hF
  unfold FileOut at hF
  have HR:=hide hr0
  have HB:=hide hb0
  clear hr0 hg0 hb0 hp hm hg
  go_enter_defers Tryz.func28,Tryz.ntmps28
  go_upto_region 2 with fail
  rw [← hW0]
  clear hW0
  go_wp2_with (go_at_call 29; refine hF.mono ?_; clear hF; rintro ev w2 ⟨⟨fb,sv,ss,rfl,hFM,hst⟩,hb2⟩; have hr2:=(hb2.block w.heap.size (by omega)).trans (uh HR); have q0:w2.cell? ⟨w.heap.size,0,none⟩=some .nilIface:=cq 0 hr2; have q1:w2.frozen? ⟨w.heap.size,0,none⟩=false:=by simp [World.frozen?,hr2])
  have hFM3:=hFM.er hr2 (Tb.to w2.heap.size w.heap.size w2 0 .nilIface)
  have hr3:=heap_setCell_same w2 w.heap.size 0 _ _ .nilIface hr2
  have hBB:Below w.heap.size w (w2.setCell ⟨w.heap.size,0,none⟩ .nilIface):=((uh HB).trans (hb2.mono (by omega))).setCell (p:=⟨w.heap.size,0,none⟩) (Nat.le_refl _) _
  obtain ⟨W,hW⟩:∃ W,W=w2.setCell ⟨w.heap.size,0,none⟩ .nilIface:=⟨_,rfl⟩
  rw [← hW] at hFM3 hr3 hBB ⊢
  clear hW q0 q1
  refine leaves_cons (f:=63) (args:=#[.pointer (some ⟨w.heap.size,0,none⟩)]) (by simp) (by simp [go_sem]) ?_
  refine (catch_idle ⟨w.heap.size,0,none⟩ _).mono ?_
  rintro ev u' w3 ⟨rfl,rfl,rfl⟩
  have q0:w3.cell? ⟨w.heap.size,0,none⟩=some .nilIface:=cq 0 hr3
  simp [Leaves,settle,results,Tryz.results28,go_sem,q0]
  exact ⟨⟨_,fb,sv,ss,rfl,hFM3,hst⟩,hBB⟩
def unchN (n:Nat):Bool:=decide (65≤n∧n≤90) || decide (48≤n∧n≤57) || decide (97≤n∧n≤122) || decide (0≤Lib.indexByte [46,47,95,61,58,45] n.toUInt8)
set_option maxHeartbeats 1000000 in
theorem unch_any (n:Nat) (w:World):Calls Tryz.prog 191 #[.int .u8 (n:Int)] w fun e w'=>e=.returned (.bool (unchN n))∧w'=w:=by
 have mC:=cap_any n w
 have mD:=dig_any n w
 have mI:=idx_any ⟨#[46,47,95,61,58,45]⟩ (n:Int) w
 have HD:Hid (unchN n=(decide (65≤n∧n≤90) || decide (48≤n∧n≤57) || decide (97≤n∧n≤122) || decide (0≤Lib.indexByte [46,47,95,61,58,45] n.toUInt8))):=hide rfl
 simp only [Int.toNat_natCast] at mI
 generalize hI:Lib.indexByte (ByteArray.mk #[46,47,95,61,58,45]).data.toList n.toUInt8=I at mI
 have hI2:Lib.indexByte [46,47,95,61,58,45] n.toUInt8=I:=hI
 rw [hI2] at HD
 generalize hc:decide (65≤n∧n≤90)=cc at mC HD
 generalize hd:decide (48≤n∧n≤57)=dd at mD HD
 clear hI hI2 hc hd
 go_enter Tryz.func191,Tryz.ntmps191
 go_wp2_with (first
  | (go_at_call 211; refine mC.mono ?_; clear mC; rintro ev w2 ⟨rfl,rfl⟩)
  | (go_at_call 212; refine mD.mono ?_; clear mD; rintro ev w2 ⟨rfl,rfl⟩)
  | (go_at_call 210; refine mI.mono ?_; clear mI; rintro ev w2 ⟨rfl,rfl⟩))
 all_goals
  go_ret
  exact ⟨ret_bool (by rw [uh HD]; rw [Bool.eq_iff_iff]; simp_all <;> omega),rfl⟩
end Go.Proofs.YtehfpjcclknipaaGreatDoor
namespace Go.Proofs
open Go.Shelf Go.RowKit
def Tryz.lays156_ren:Go.Shelf.Ren:=⟨fun | 156=>115 | 165=>151 | 166=>59 | 169=>62 | 240=>100 | 241=>193 | 276=>132 | 277=>226 | n=>n,fun | 31=>27 | 9=>9 | 3=>3 | 4=>4 | 0=>0 | 20=>20 | 72=>147 | 76=>148 | 70=>144 | 37=>145 | 75=>47 | 127=>201 | 164=>113 | 5=>5 | 80=>93 | n=>n,fun | n=>n⟩
theorem Tryz.lays156:Go.Proofs.Lays.n156 Tryz.prog Tryz.lays156_ren:={
 mixed:=by kernel_rfl
 f156:=Tryz.func115.trans (congrArg some (by kernel_rfl))
 f165:=Tryz.func151.trans (congrArg some (by kernel_rfl))
 f166:=Tryz.func59.trans (congrArg some (by kernel_rfl))
 f169:=Tryz.func62.trans (congrArg some (by kernel_rfl))
 f240:=Tryz.func100.trans (congrArg some (by kernel_rfl))
 f241:=Tryz.func193.trans (congrArg some (by kernel_rfl))
 f276:=Tryz.func132.trans (congrArg some (by kernel_rfl))
 f277:=Tryz.func226.trans (congrArg some (by kernel_rfl))
 t0:=Tryz.underlying0
 a0:=Tryz.isAgg0
 z0:=Tryz.sizeOf0
 v0:=Tryz.zeroValue0
 t3:=Tryz.underlying3
 a3:=Tryz.isAgg3
 z3:=Tryz.sizeOf3
 v3:=Tryz.zeroValue3
 t4:=Tryz.underlying4
 a4:=Tryz.isAgg4
 z4:=Tryz.sizeOf4
 v4:=Tryz.zeroValue4
 t9:=Tryz.underlying9
 a9:=Tryz.isAgg9
 z9:=Tryz.sizeOf9
 v9:=Tryz.zeroValue9
 t20:=Tryz.underlying20
 a20:=Tryz.isAgg20
 z20:=Tryz.sizeOf20
 v20:=Tryz.zeroValue20
 t31:=Tryz.underlying27
 a31:=Tryz.isAgg27
 z31:=Tryz.sizeOf27
 v31:=Tryz.zeroValue27
 t37:=Tryz.underlying145
 a37:=Tryz.isAgg145
 z37:=Tryz.sizeOf145
 v37:=Tryz.zeroValue145
 t70:=Tryz.underlying144
 a70:=Tryz.isAgg144
 z70:=Tryz.sizeOf144
 v70:=Tryz.zeroValue144
 t72:=Tryz.underlying147
 a72:=Tryz.isAgg147
 z72:=Tryz.sizeOf147
 v72:=Tryz.zeroValue147
 t75:=Tryz.underlying47
 a75:=Tryz.isAgg47
 z75:=Tryz.sizeOf47
 v75:=Tryz.zeroValue47
 t76:=Tryz.underlying148
 a76:=Tryz.isAgg148
 z76:=Tryz.sizeOf148
 v76:=Tryz.zeroValue148
 t127:=Tryz.underlying201
 a127:=Tryz.isAgg201
 z127:=Tryz.sizeOf201
 v127:=Tryz.zeroValue201
 t164:=Tryz.underlying113
 a164:=Tryz.isAgg113
 z164:=Tryz.sizeOf113
 v164:=Tryz.zeroValue113 }
theorem Tryz.Builder_Extra_156:Builder.Extra Tryz.prog Tryz.lays156_ren:={
 sizeBuilder:=by kernel_rfl
 liesBuilder:=by kernel_rfl
 t5:=Tryz.underlying5
 a5:=Tryz.isAgg5
 z5:=Tryz.sizeOf5
 v5:=Tryz.zeroValue5
 infoByte:=by kernel_rfl
 cellsByte:=by kernel_rfl
 sizeByte:=by kernel_rfl
 neB5:=by decide }
open Go.RowKit in
theorem Tryz.strings_Join_none (a:Option Addr) (c:Nat) (sep:ByteArray) (w:World) :
  Calls Tryz.prog 115 #[.slice a 0 c,.string sep] w fun e w'=>e=.returned (.string ⟨#[]⟩)∧w'=w:=Any.strings_Join_none Tryz.lays156 Tryz.Builder_Extra_156 a c sep w
open Go.RowKit in
theorem Tryz.strings_Join (bk o c:Nat) (xs:List ByteArray) (sep:ByteArray) (w:World) (hcells:∀ (j:Nat) x,xs[j]?=some x→w.cell? ⟨bk,o+j,none⟩=some (.string x)) (hbk:bk<w.heap.size) (hN:xs.length≤140737488355328) (hcap:xs.length≤c) (hlen:(Lib.join (xs.map (·.data.toList)) sep.data.toList).length≤140737488355328) :
  Calls Tryz.prog 115 #[.slice (some ⟨bk,o,none⟩) xs.length c,.string sep] w fun e w'=>e=.returned (.string ⟨(Lib.join (xs.map (·.data.toList)) sep.data.toList).toArray⟩)∧Below w.heap.size w w':=Any.strings_Join Tryz.lays156 Tryz.Builder_Extra_156 bk o c xs sep w hcells hbk hN hcap hlen
def Tryz.renB:Go.Shelf.Ren:=⟨fun | 167=>192 | n=>Tryz.lays156_ren.f n,Tryz.lays156_ren.t,Tryz.lays156_ren.g⟩
theorem Tryz.laysB:Go.Proofs.Lays.n167 Tryz.prog Tryz.renB:={
 mixed:=Tryz.lays156.mixed
 f167:=Tryz.func192.trans (congrArg some (by kernel_rfl))
 f240:=Tryz.func100.trans (congrArg some (by kernel_rfl))
 f276:=Tryz.func132.trans (congrArg some (by kernel_rfl))
 t0:=Tryz.lays156.t0
 a0:=Tryz.lays156.a0
 z0:=Tryz.lays156.z0
 v0:=Tryz.lays156.v0
 t4:=Tryz.lays156.t4
 a4:=Tryz.lays156.a4
 z4:=Tryz.lays156.z4
 v4:=Tryz.lays156.v4
 t5:=Tryz.underlying5
 a5:=Tryz.isAgg5
 z5:=Tryz.sizeOf5
 v5:=Tryz.zeroValue5
 t9:=Tryz.lays156.t9
 a9:=Tryz.lays156.a9
 z9:=Tryz.lays156.z9
 v9:=Tryz.lays156.v9
 t20:=Tryz.lays156.t20
 a20:=Tryz.lays156.a20
 z20:=Tryz.lays156.z20
 v20:=Tryz.lays156.v20
 t37:=Tryz.lays156.t37
 a37:=Tryz.lays156.a37
 z37:=Tryz.lays156.z37
 v37:=Tryz.lays156.v37
 t70:=Tryz.lays156.t70
 a70:=Tryz.lays156.a70
 z70:=Tryz.lays156.z70
 v70:=Tryz.lays156.v70
 t72:=Tryz.lays156.t72
 a72:=Tryz.lays156.a72
 z72:=Tryz.lays156.z72
 v72:=Tryz.lays156.v72
 t75:=Tryz.lays156.t75
 a75:=Tryz.lays156.a75
 z75:=Tryz.lays156.z75
 v75:=Tryz.lays156.v75
 t164:=Tryz.lays156.t164
 a164:=Tryz.lays156.a164
 z164:=Tryz.lays156.z164
 v164:=Tryz.lays156.v164 }
theorem Tryz.extraB:Builder.Extra Tryz.prog Tryz.renB:={
 sizeBuilder:=by kernel_rfl
 liesBuilder:=by kernel_rfl
 t5:=Tryz.underlying5
 a5:=Tryz.isAgg5
 z5:=Tryz.sizeOf5
 v5:=Tryz.zeroValue5
 infoByte:=by kernel_rfl
 cellsByte:=by kernel_rfl
 sizeByte:=by kernel_rfl
 neB5:=by decide }
theorem Tryz.Builder_WriteByte (B b:Nat) (bs:List Value) (c:Int) (w:World) (h:Lib.IsBuilder 147 5 B b bs w) (hlen:bs.length+1≤140737488355328) (hBw:B≤w.heap.size) :
  Calls Tryz.prog 192 #[.pointer (some ⟨b,0,none⟩),.int .u8 c] w fun e w'=>e=.returned .nilIface∧(Lib.BuilderAt 147 5 B b (.pointer (some ⟨b,0,none⟩)) (bs++[.int .u8 c]) w'∧Below B w w'):=Any.Builder_WriteByte Tryz.laysB Tryz.extraB B b bs c w h hlen hBw
theorem Tryz.Builder_WriteString (B b:Nat) (bs:List Value) (s:ByteArray) (w:World) (h:Lib.IsBuilder 147 5 B b bs w) (hlen:bs.length+s.size≤140737488355328) (hBw:B≤w.heap.size) :
  Calls Tryz.prog 59 #[.pointer (some ⟨b,0,none⟩),.string s] w fun e w'=>e=.returned (.tuple #[.int .i64 s.size,.nilIface])∧(Lib.BuilderAt 147 5 B b (.pointer (some ⟨b,0,none⟩)) (bs++Lib.strCells s) w'∧Below B w w'):=Any.Builder_WriteString { Tryz.lays156 with } Tryz.Builder_Extra_156 B b bs s w h hlen hBw
theorem Tryz.Builder_String_any (B b:Nat) (l:List UInt8) (w:World) (h:Lib.IsBuilder 147 5 B b (Lib.byteCells l) w) (hBw:B≤w.heap.size) :
  Calls Tryz.prog 62 #[.pointer (some ⟨b,0,none⟩)] w fun e w'=>e=.returned (.string ⟨l.toArray⟩)∧Below B w w':=Any.Builder_String_any { Tryz.lays156 with } Tryz.Builder_Extra_156 B b l w h hBw
end Go.Proofs
namespace Go.Proofs.YtehfpjcclknipaaGreatDoor
open Go.RowKit Go.Maps
theorem builder_later {T e:TypeId} {B b:Nat} {p:Value} {bs:List Value} {w w':World} (h:Lib.BuilderAt T e B b p bs w) (hb:Below w.heap.size w w'):Lib.BuilderAt T e B b p bs w':=by
 obtain ⟨h1,v,h2,h3,h4⟩:=h
 refine ⟨h1,v,(hb.block b (Array.getElem?_eq_some_iff.1 h2).1).trans h2,h3.kept (grown_of_below hb) ?_,h4⟩
 cases hv:v.ownBlock <;> simp
def Bld (B b:Nat) (l:List UInt8) (w:World):Prop:=Lib.IsBuilder 147 5 B b (Lib.byteCells l) w∧B≤w.heap.size
theorem Bld.later {B b:Nat} {l:List UInt8} {w w':World} (h:Bld B b l w) (hb:Below w.heap.size w w'):Bld B b l w':=by
 refine ⟨?_,Nat.le_trans h.2 hb.size⟩
 rcases h.1 with h1 | h1
 ·exact .inl (builder_later h1 hb)
 ·exact .inr (builder_later h1 hb)
theorem bld_new (w:World):Bld w.heap.size w.heap.size [] (w.alloc (.cells #[.pointer none,.slice none 0 0] 147)):=
 ⟨.inl ⟨Nat.le_refl _,.slice none 0 0,heap_alloc_new _ _,World.ownsRow_nil _ _ _ _,by simp [Value.ownBlock]⟩,by simp⟩
theorem byteCells_len (l:List UInt8):(Lib.byteCells l).length=l.length:=by simp [Lib.byteCells]
theorem wbB (B b:Nat) (l:List UInt8) (c:Int) (x:UInt8) (w:World) (h:Bld B b l w) (hc:c=(x.toNat:Int)) (hl:l.length≤4294967296) :
  Calls Tryz.prog 192 #[.pointer (some ⟨b,0,none⟩),.int .u8 c] w fun e w'=>e=.returned .nilIface∧Bld B b (l++[x]) w'∧Below B w w':=by
 subst hc
 refine (Tryz.Builder_WriteByte B b _ _ w h.1 (by rw [byteCells_len]; omega) h.2).mono ?_
 rintro e w' ⟨rfl,hb,hbl⟩
 refine ⟨rfl,⟨.inr ?_,Nat.le_trans h.2 hbl.size⟩,hbl⟩
 simpa [Lib.byteCells] using hb
theorem wsB (B b:Nat) (l:List UInt8) (s:ByteArray) (w:World) (h:Bld B b l w) (hl:l.length+s.size≤4294967296) :
  Calls Tryz.prog 59 #[.pointer (some ⟨b,0,none⟩),.string s] w fun e w'=>e=.returned (.tuple #[.int .i64 s.size,.nilIface])∧Bld B b (l++s.data.toList) w'∧Below B w w':=by
 refine (Tryz.Builder_WriteString B b _ _ w h.1 (by rw [byteCells_len]; omega) h.2).mono ?_
 rintro e w' ⟨rfl,hb,hbl⟩
 refine ⟨rfl,⟨.inr ?_,Nat.le_trans h.2 hbl.size⟩,hbl⟩
 simpa [Lib.byteCells,Lib.strCells] using hb
theorem wstr (B b:Nat) (l:List UInt8) (w:World) (h:Bld B b l w) :
  Calls Tryz.prog 62 #[.pointer (some ⟨b,0,none⟩)] w fun e w'=>e=.returned (.string ⟨l.toArray⟩)∧Below B w w':=
 Tryz.Builder_String_any B b l w h.1 h.2
def byteF (c:UInt8):List UInt8:=if unchN c.toNat then [c] else [92,c]
def bytesF (l:List UInt8):List UInt8:=(l.map byteF).flatten
def textF (l:List UInt8):List UInt8:=if l=[] then [34,34] else bytesF l
theorem bytesF_len (l:List UInt8):(bytesF l).length≤2*l.length:=by
 induction l with
 | nil=>simp [bytesF]
 | cons a r ih=>
  have h1:bytesF (a :: r)=byteF a++bytesF r:=by simp [bytesF]
  rw [h1,List.length_append,List.length_cons]
  have:(byteF a).length≤2:=by unfold byteF; split <;> simp
  omega
theorem bytesF_snoc (l:List UInt8) (c:UInt8):bytesF (l++[c])=bytesF l++byteF c:=by simp [bytesF]
theorem byteF_yes {c:UInt8} (h:unchN c.toNat=true):byteF c=[c]:=by simp [byteF,h]
theorem byteF_no {c:UInt8} (h:unchN c.toNat=false):byteF c=[92]++[c]:=by simp [byteF,h]
set_option maxHeartbeats 2000000 in
set_option maxRecDepth 10000 in
theorem text_any (s:ByteArray) (w:World) (hs:s.size≤1073741824) :
  Calls Tryz.prog 150 #[.string s] w fun e w'=>(∃ u:ByteArray,e=.returned (.string u)∧u.data.toList=textF s.data.toList)∧Below w.heap.size w w':=by
 by_cases he:s.data.toList=[]
 ·have g1:s.toList.isEmpty=true:=by rw [Lib.toList_data,he]; rfl
  have HN:Hid (textF s.data.toList=[34,34]):=hide (by rw [he]; rfl)
  clear he
  go_enter Tryz.func150,Tryz.ntmps150
  go_wp2_with fail
  go_ret
  exact ⟨⟨_,rfl,(uh HN).symm⟩,Below.refl _ _⟩
 ·have g1:s.toList.isEmpty=false:=by rw [Lib.toList_data]; simpa using he
  have HN:Hid (textF s.data.toList=bytesF s.data.toList):=hide (by unfold textF; rw [if_neg he])
  clear he
  obtain ⟨W0,hW0⟩:∃ W0,W0=w.alloc (.cells #[.pointer none,.slice none 0 0] 147):=⟨_,rfl⟩
  have hb0:Below w.heap.size w W0:=by rw [hW0]; exact (Below.refl _ _).alloc (Nat.le_refl _) _
  have hB0:Bld w.heap.size w.heap.size [] W0:=by rw [hW0]; exact bld_new w
  go_enter Tryz.func150,Tryz.ntmps150
  go_wp2_with fail
  rw [← hW0]
  clear hW0
  go_loopw [9] (fun i wr=>∃ k:Nat,k≤s.size∧i=.int .i64 k∧Bld w.heap.size w.heap.size (bytesF (s.data.toList.take k)) wr∧Below w.heap.size w wr) (fun i _=>s.size-(intOf i).toNat)
  case atStart=>exact ⟨0,Nat.zero_le _,rfl,hB0,hb0⟩
  case round=>
   obtain ⟨k,hk,rfl,hB,hb⟩:=hrel
   have HB:=hide hB
   have Hb:=hide hb
   clear hB hb hB0 hb0
   by_cases hlt:k<s.size
   ·have hl:(bytesF (s.data.toList.take k)).length≤2147483648:=by
     have:=bytesF_len (s.data.toList.take k)
     rw [List.length_take] at this
     omega
    have HL:=hide hl
    clear hl
    have hU:=unch_any s[k].toNat wr
    cases hu:unchN s[k].toNat with
    | true=>
     rw [hu] at hU
     have HS:Hid (bytesF (s.data.toList.take (k+1))=bytesF (s.data.toList.take k)++[s[k]]):=hide (by rw [take_snoc s k hlt,bytesF_snoc,byteF_yes hu])
     clear hu
     have hW:=fun w2 h=>wbB w.heap.size w.heap.size (bytesF (s.data.toList.take k)) (s[k].toNat:Int) s[k] w2 h rfl (by have:=uh HL; omega)
     go_wp2_with (first
      | (go_at_call 191; refine hU.mono ?_; clear hU; rintro ev w2 ⟨rfl,hw⟩; obtain rfl:=hw.symm)
      | (go_at_call 192; refine (hW _ (uh HB)).mono ?_; clear hW; rintro ev w3 ⟨rfl,hB3,hb3⟩))
     go_roundw
     case rel=>exact ⟨k+1,hlt,by go_num,by rw [uh HS]; exact hB3,(uh Hb).trans hb3⟩
     case measure=>simp [intOf]; omega
    | false=>
     rw [hu] at hU
     have HS:Hid (bytesF (s.data.toList.take (k+1))=bytesF (s.data.toList.take k)++[92]++[s[k]]):=hide (by rw [take_snoc s k hlt,bytesF_snoc,byteF_no hu,List.append_assoc])
     clear hu
     have hV:=fun w2 h=>wsB w.heap.size w.heap.size (bytesF (s.data.toList.take k)) ⟨#[92]⟩ w2 h (by have:=uh HL; have h1:(ByteArray.mk #[92]).size=1:=rfl; omega)
     have hW:=fun w2 h=>wbB w.heap.size w.heap.size (bytesF (s.data.toList.take k)++[92]) (s[k].toNat:Int) s[k] w2 h rfl (by have:=uh HL; simp; omega)
     go_wp2_with (first
      | (go_at_call 191; refine hU.mono ?_; clear hU; rintro ev w2 ⟨rfl,hw⟩; obtain rfl:=hw.symm)
      | (go_at_call 59; refine (hV _ (uh HB)).mono ?_; clear hV; rintro ev w3 ⟨rfl,hB3,hb3⟩)
      | (go_at_call 192; refine (hW _ hB3).mono ?_; clear hW; rintro ev w4 ⟨rfl,hB4,hb4⟩))
     go_roundw
     case rel=>exact ⟨k+1,hlt,by go_num,by rw [uh HS]; exact hB4,((uh Hb).trans hb3).trans hb4⟩
     case measure=>simp [intOf]; omega
   ·have hke:k=s.size:=by omega
    have hW:=wstr w.heap.size w.heap.size _ wr (uh HB)
    have HS:Hid (bytesF (s.data.toList.take k)=textF s.data.toList):=hide (by rw [uh HN,List.take_of_length_le (by rw [hke,Lib.size_eq]; exact Nat.le_refl _)])
    clear hke
    go_wp2_with (go_at_call 62; refine hW.mono ?_; clear hW; rintro ev w3 ⟨rfl,hb3⟩)
    go_ret
    exact ⟨⟨_,rfl,(List.toList_toArray).trans (uh HS)⟩,(uh Hb).trans hb3⟩
def partF (p:Prt):List UInt8:=if p.isVar then [36,123]++p.text.data.toList++[125] else textF p.text.data.toList
def partsF (l:List Prt):List UInt8:=(l.map partF).flatten
def formW (l:List Prt):List UInt8:=if l=[] then [34,34] else partsF l
def szP (l:List Prt):Nat:=(l.map fun p=>2*p.text.size+3).sum
theorem textF_len (l:List UInt8):(textF l).length≤2*l.length+2:=by
 unfold textF
 split
 ·simp
 ·have:=bytesF_len l; omega
theorem partF_len (p:Prt):(partF p).length≤2*p.text.size+3:=by
 unfold partF
 split
 ·have:=Lib.size_eq p.text; rw [List.length_append,List.length_append,← this]; simp; omega
 ·have:=textF_len p.text.data.toList; rw [← Lib.size_eq] at this; omega
theorem partsF_snoc (l:List Prt) (p:Prt):partsF (l++[p])=partsF l++partF p:=by simp [partsF]
theorem partsF_len (l:List Prt):(partsF l).length≤szP l:=by
 induction l with
 | nil=>simp [partsF,szP]
 | cons a r ih=>
  have h1:partsF (a :: r)=partF a++partsF r:=by simp [partsF]
  have h2:szP (a :: r)=2*a.text.size+3+szP r:=by simp [szP]
  rw [h1,h2,List.length_append]
  have:=partF_len a
  omega
theorem szP_app (l r:List Prt):szP (l++r)=szP l+szP r:=by simp [szP]
theorem szP_take (l:List Prt) (k:Nat):szP (l.take k)≤szP l:=by
 have:=szP_app (l.take k) (l.drop k)
 rw [List.take_append_drop] at this
 omega
theorem szP_mem {l:List Prt} {k:Nat} {p:Prt} (h:l[k]?=some p):szP (l.take k)+(2*p.text.size+3)≤szP l:=by
 have h1:l.take (k+1)=l.take k++[p]:=by rw [List.take_add_one,h]; rfl
 have h2:=szP_take l (k+1)
 rw [h1,szP_app] at h2
 have h3:szP [p]=2*p.text.size+3:=by simp [szP]
 omega
set_option maxHeartbeats 4000000 in
set_option maxRecDepth 10000 in
theorem form_word (m:WdM) (B:Nat) (w:World) (h:m.Ok w B) (hl:(parts m.xs).length≤1500) (hz:szP (parts m.xs)≤268435456) :
  Calls Tryz.prog 114 #[m.val] w fun ev w'=>(∃ u:ByteArray,ev=.returned (.string u)∧u.data.toList=formW (parts m.xs))∧Below w.heap.size w w':=by
 obtain ⟨place,v,xs⟩:=m
 unfold WdM.Ok at h
 simp only at h hl hz ⊢
 obtain ⟨ps,hps⟩:∃ ps,ps=parts xs:=⟨_,rfl⟩
 rw [← hps] at h hl hz ⊢
 clear hps
 obtain ⟨W0,hW0⟩:∃ W0,W0=w.alloc (.cells #[.int .i64 (place:Int),v] 162):=⟨_,rfl⟩
 have hb0:Below w.heap.size w W0:=by rw [hW0]; exact (Below.refl _ _).alloc (Nat.le_refl _) _
 have hz0:W0.heap.size=w.heap.size+1:=by rw [hW0]; simp
 have hc0:W0.heap[w.heap.size]?=some (.cells #[.int .i64 (place:Int),v] 162 (0,0)):=by rw [hW0]; exact heap_alloc_new _ _
 have p1:W0.cell? ⟨w.heap.size,1,none⟩=some v:=cq 1 hc0
 by_cases he:ps=[]
 ·subst he
  have HB:=hide hb0
  have hT:=text_any ⟨#[]⟩ W0 (by decide)
  have HF:Hid (formW []=textF (ByteArray.mk #[]).data.toList):=hide rfl
  rcases row_nil0 h with rfl | ⟨g,cap,rfl⟩
  all_goals
   clear h hl hz hb0 hc0
   go_enter Tryz.func114,Tryz.ntmps114
   go_upto_region 1 with fail
   rw [← hW0]
   clear hW0
   go_wp2_with (go_at_call 150; refine hT.mono ?_; clear hT; rintro ev w2 ⟨⟨u,rfl,hu⟩,hb2⟩)
   go_ret
   exact ⟨⟨_,rfl,by rw [uh HF]; exact hu⟩,(uh HB).trans (hb2.mono (by omega))⟩
 ·have hpos:0<ps.length:=List.length_pos_iff.2 he
  obtain ⟨g,cap,rfl,_,hgl⟩:=World.ownsRow.form h hpos
  have HF:Hid (formW ps=partsF ps):=hide (by unfold formW; rw [if_neg he])
  clear he
  obtain ⟨n,hn⟩:∃ n,n=ps.length:=⟨_,rfl⟩
  have HN:=hide hn
  have HROW:=hide h
  have HZ:=hide hz
  have HG:=hide hgl
  rw [← hn] at p1 hl hpos hW0 ⊢
  have g0:((n:Int)==0)=false:=by simp; omega
  obtain ⟨W1,hW1⟩:∃ W1,W1=W0.alloc (.cells #[.pointer none,.slice none 0 0] 147):=⟨_,rfl⟩
  have HB1:Hid (Below (w.heap.size+1) W0 W1):=hide (by rw [hW1]; exact (Below.refl _ _).alloc (by omega) _)
  have HBl:Hid (Bld (w.heap.size+1) (w.heap.size+1) [] W1):=hide (by rw [hW1,← hz0]; exact bld_new W0)
  have p2:W1.cell? ⟨w.heap.size,1,none⟩=some (.slice (some ⟨g,0,none⟩) n cap):=cell_later ((uh HB1).mono (by omega)) p1
  have HB0:=hide hb0
  clear h hz hgl hc0 hb0 hn
  go_enter Tryz.func114,Tryz.ntmps114
  go_upto_region 1 with fail
  rw [← hW0]
  clear hW0
  go_upto_region 4 with fail
  rw [← hW1]
  clear hW1
  go_wp2_with fail
  clear p1 p2
  go_loopw [14] (fun i wr=>∃ k:Nat,k≤n∧i=.int .i64 k∧Bld (w.heap.size+1) (w.heap.size+1) (partsF (ps.take k)) wr∧Below (w.heap.size+1) W0 wr) (fun i _=>n-(intOf i).toNat)
  case atStart=>exact ⟨0,Nat.zero_le _,rfl,uh HBl,uh HB1⟩
  case round=>
   obtain ⟨k,hk,rfl,hB,hb⟩:=hrel
   have HB:=hide hB
   have Hb:=hide hb
   clear hB HBl HB1
   by_cases hlt:k<n
   ·obtain ⟨p,hp⟩:∃ p,ps[k]?=some p:=⟨_,List.getElem?_eq_getElem (by rw [← uh HN]; exact hlt)⟩
    have hbw:Below w.heap.size w wr:=(uh HB0).trans (hb.mono (by omega))
    have hrow3:=row_same (uh HROW) (w':=wr) (fun i hi=>hbw.block i (World.ownsRow.lt (uh HROW) i hi).2)
    obtain ⟨t0,t1,t2⟩:=prC_get _ k p hp
    have hjl:k<ps.length:=by rw [← uh HN]; exact hlt
    have u0:wr.cell? ⟨g,k*3,none⟩=some (.string p.text):=by rw [World.ownsRow.cellAt hrow3 _ (by omega)]; exact t0
    have u1:wr.cell? ⟨g,k*3+1,none⟩=some (.bool p.isVar):=by rw [World.ownsRow.cellAt hrow3 _ (by omega)]; exact t1
    have u2:wr.cell? ⟨g,k*3+2,none⟩=some (.int .i64 p.place):=by rw [World.ownsRow.cellAt hrow3 _ (by omega)]; exact t2
    have hsp:=szP_mem hp
    have hsz:p.text.size≤1073741824∧(partsF (ps.take k)).length+(2*p.text.size+3)≤268435456:=by
     have h1:=partsF_len (ps.take k)
     have h2:=uh HZ
     omega
    have HSZ:=hide hsz
    have HS:Hid (partsF (ps.take (k+1))=partsF (ps.take k)++partF p):=hide (by rw [List.take_add_one,hp]; exact partsF_snoc _ _)
    have n0:=World.new_ne wr ⟨g,k*3,none⟩ u0
    obtain ⟨W2,hW2⟩:∃ W2,W2=wr.alloc (.cells #[.string p.text,.bool p.isVar,.int .i64 p.place] 217):=⟨_,rfl⟩
    have hb2:Below wr.heap.size wr W2:=by rw [hW2]; exact (Below.refl _ _).alloc (Nat.le_refl _) _
    have HB2:Hid (Below (w.heap.size+1) W0 W2):=hide (hb.trans (hb2.mono (by have:=hb.size; omega)))
    have HL2:Hid (Bld (w.heap.size+1) (w.heap.size+1) (partsF (ps.take k)) W2):=hide ((uh HB).later hb2)
    have hc2:W2.heap[wr.heap.size]?=some (.cells #[.string p.text,.bool p.isVar,.int .i64 p.place] 217 (0,0)):=by rw [hW2]; exact heap_alloc_new _ _
    have q0:W2.cell? ⟨wr.heap.size,0,none⟩=some (.string p.text):=cq 0 hc2
    have q1:W2.cell? ⟨wr.heap.size,1,none⟩=some (.bool p.isVar):=cq 1 hc2
    clear hp hbw hrow3 t0 t1 t2 hjl hsp hsz hb2 hc2 hb HB Hb
    go_upto_region 7 with fail
    rw [← hW2]
    clear hW2 u0 u1 u2 n0
    cases hv:p.isVar with
    | true=>
     rw [hv] at q1
     have HP:Hid (partF p=[36,123]++p.text.data.toList++[125]):=hide (by unfold partF; rw [hv]; rfl)
     clear hv
     have HV:Hid (({ data:=#[36,123] }++p.text++{ data:=#[125] }:ByteArray).size=p.text.size+3):=hide (by
      rw [ByteArray.size_append,ByteArray.size_append]
      have h1:(ByteArray.mk #[36,123]).size=2:=rfl
      have h2:(ByteArray.mk #[125]).size=1:=rfl
      omega)
     have hps1:p.text.size≤1073741824:=(uh HSZ).1
     go_wp2_with (go_at_call 59; refine (wsB _ _ _ _ _ (uh HL2) ?_).mono ?_; (have hh:=(uh HSZ).2; rw [uh HV]; omega); rintro ev w3 ⟨rfl,hB3,hb3⟩)
     go_roundw
     case rel=>exact ⟨k+1,hlt,by go_num,by rw [uh HS,uh HP]; simpa using hB3,(uh HB2).trans hb3⟩
     case measure=>simp [intOf]; omega
    | false=>
     rw [hv] at q1
     have HP:Hid (partF p=textF p.text.data.toList):=hide (by unfold partF; rw [hv]; rfl)
     clear hv
     have hT:=text_any p.text W2 (uh HSZ).1
     have hlen:=textF_len p.text.data.toList
     have HLE:=hide hlen
     clear hlen
     go_wp2_with (first
      | (go_at_call 150; refine hT.mono ?_; clear hT; rintro ev w3 ⟨⟨u,rfl,hu⟩,hb3⟩; have HU:=hide hu; have HL3:=hide ((uh HL2).later hb3); clear hu)
      | (go_at_call 59; refine (wsB _ _ _ _ _ (uh HL3) ?_).mono ?_; (have hh:=(uh HSZ).2; have h2:=uh HLE; rw [← uh HU,← Lib.size_eq,← Lib.size_eq] at h2; omega); rintro ev w4 ⟨rfl,hB4,hb4⟩))
     go_roundw
     case rel=>exact ⟨k+1,hlt,by go_num,by rw [uh HS,uh HP,← uh HU]; exact hB4,((uh HB2).trans (hb3.mono (by have:=(uh HB2).size; omega))).trans hb4⟩
     case measure=>simp [intOf]; omega
   ·have hke:k=n:=by omega
    have hW:=wstr _ _ _ wr (uh HB)
    have HS:Hid (partsF (ps.take k)=formW ps):=hide (by rw [uh HF,List.take_of_length_le (by rw [hke,uh HN]; exact Nat.le_refl _)])
    clear hke hb
    go_wp2_with (go_at_call 62; refine hW.mono ?_; clear hW; rintro ev w3 ⟨rfl,hb3⟩)
    go_ret
    exact ⟨⟨_,rfl,(List.toList_toArray).trans (uh HS)⟩,((uh HB0).trans ((uh Hb).mono (by omega))).trans (hb3.mono (by omega))⟩
def txtP (l:List Prt):List UInt8:=(l.map fun p=>p.text.data.toList).flatten
theorem txtP_snoc (l:List Prt) (p:Prt):txtP (l++[p])=txtP l++p.text.data.toList:=by simp [txtP]
theorem txtP_len (l:List Prt):(txtP l).length≤szP l:=by
 induction l with
 | nil=>simp [txtP,szP]
 | cons a r ih=>
  have h1:txtP (a :: r)=a.text.data.toList++txtP r:=by simp [txtP]
  have h2:szP (a :: r)=2*a.text.size+3+szP r:=by simp [szP]
  rw [h1,h2,List.length_append,← Lib.size_eq]
  omega
theorem row_lenz {w:World} {B e z n:Nat} {ao:Option Addr} {n' cap:Nat} {xs:List Value} (h:w.ownsRow B e z (.slice ao n' cap) n xs):n'=n:=by
 rcases h.2 with ⟨e,h0⟩ | ⟨g,c,cur,e,_⟩
 ·injection e with _ e _; omega
 ·injection e
set_option maxHeartbeats 4000000 in
set_option maxRecDepth 10000 in
theorem filled_plain (m:WdM) (fv:Value) (B:Nat) (w:World) (h:m.Ok w B) (hl:(parts m.xs).length≤1500) (hz:szP (parts m.xs)≤268435456) (hpl:∀ p∈parts m.xs,p.isVar=false) :
  Calls Tryz.prog 73 #[m.val,fv] w fun ev w'=>(∃ u:ByteArray,ev=.returned (.string u)∧u.data.toList=txtP (parts m.xs))∧Below w.heap.size w w':=by
 obtain ⟨place,v,xs⟩:=m
 unfold WdM.Ok at h
 simp only at h hl hz hpl ⊢
 obtain ⟨ps,hps⟩:∃ ps,ps=parts xs:=⟨_,rfl⟩
 rw [← hps] at h hl hz hpl ⊢
 clear hps
 obtain ⟨ao,n',cap,hv⟩:=row_form h
 have hn':n'=ps.length:=by rw [hv] at h; exact row_lenz h
 subst hv
 obtain ⟨W0,hW0⟩:∃ W0,W0=w.alloc (.cells #[.int .i64 (place:Int),.slice ao n' cap] 162):=⟨_,rfl⟩
 have hb0:Below w.heap.size w W0:=by rw [hW0]; exact (Below.refl _ _).alloc (Nat.le_refl _) _
 have hz0:W0.heap.size=w.heap.size+1:=by rw [hW0]; simp
 have hc0:W0.heap[w.heap.size]?=some (.cells #[.int .i64 (place:Int),.slice ao n' cap] 162 (0,0)):=by rw [hW0]; exact heap_alloc_new _ _
 have p1:W0.cell? ⟨w.heap.size,1,none⟩=some (.slice ao n' cap):=cq 1 hc0
 have HN:=hide hn'
 have HROW:=hide h
 have HZ:=hide hz
 have HPL:=hide hpl
 obtain ⟨W1,hW1⟩:∃ W1,W1=W0.alloc (.cells #[.pointer none,.slice none 0 0] 147):=⟨_,rfl⟩
 have HB1:Hid (Below (w.heap.size+1) W0 W1):=hide (by rw [hW1]; exact (Below.refl _ _).alloc (by omega) _)
 have HBl:Hid (Bld (w.heap.size+1) (w.heap.size+1) [] W1):=hide (by rw [hW1,← hz0]; exact bld_new W0)
 have p2:W1.cell? ⟨w.heap.size,1,none⟩=some (.slice ao n' cap):=cell_later ((uh HB1).mono (by omega)) p1
 have HB0:=hide hb0
 have hn15:n'≤1500:=by omega
 clear h hz hc0 hb0 hn' hl hpl
 go_enter Tryz.func73,Tryz.ntmps73
 go_upto_region 1 with fail
 rw [← hW0]
 clear hW0
 go_upto_region 2 with fail
 rw [← hW1]
 clear hW1
 go_wp2_with fail
 clear p1 p2
 go_loopw [11] (fun i wr=>∃ k:Nat,k≤n'∧i=.int .i64 k∧Bld (w.heap.size+1) (w.heap.size+1) (txtP (ps.take k)) wr∧Below (w.heap.size+1) W0 wr) (fun i _=>n'-(intOf i).toNat)
 case atStart=>exact ⟨0,Nat.zero_le _,rfl,uh HBl,uh HB1⟩
 case round=>
  obtain ⟨k,hk,rfl,hB,hb⟩:=hrel
  have HB:=hide hB
  have Hb:=hide hb
  clear hB HBl HB1
  by_cases hlt:k<n'
  ·obtain ⟨p,hp⟩:∃ p,ps[k]?=some p:=⟨_,List.getElem?_eq_getElem (by rw [← uh HN]; exact hlt)⟩
   have hbw:Below w.heap.size w wr:=(uh HB0).trans (hb.mono (by omega))
   have hrow3:=row_same (uh HROW) (w':=wr) (fun i hi=>hbw.block i (World.ownsRow.lt (uh HROW) i hi).2)
   obtain ⟨g,cp,hv,_,_⟩:=World.ownsRow.form hrow3 (by rw [← uh HN]; omega)
   injection hv with e1 e2 e3
   subst e1 e3
   rw [e2] at hrow3
   obtain ⟨t0,t1,t2⟩:=prC_get _ k p hp
   have hjl:k<ps.length:=by rw [← uh HN]; exact hlt
   have u0:wr.cell? ⟨g,k*3,none⟩=some (.string p.text):=by rw [World.ownsRow.cellAt hrow3 _ (by omega)]; exact t0
   have u1:wr.cell? ⟨g,k*3+1,none⟩=some (.bool false):=by rw [World.ownsRow.cellAt hrow3 _ (by omega),← uh HPL p (List.mem_of_getElem? hp)]; exact t1
   have u2:wr.cell? ⟨g,k*3+2,none⟩=some (.int .i64 p.place):=by rw [World.ownsRow.cellAt hrow3 _ (by omega)]; exact t2
   have hsp:=szP_mem hp
   have hsz:p.text.size≤1073741824∧(txtP (ps.take k)).length+p.text.size≤268435456:=by
    have h1:=txtP_len (ps.take k)
    have h2:=uh HZ
    omega
   have HSZ:=hide hsz
   have HS:Hid (txtP (ps.take (k+1))=txtP (ps.take k)++p.text.data.toList):=hide (by rw [List.take_add_one,hp]; exact txtP_snoc _ _)
   have n0:=World.new_ne wr ⟨g,k*3,none⟩ u0
   obtain ⟨W2,hW2⟩:∃ W2,W2=wr.alloc (.cells #[.string p.text,.bool false,.int .i64 p.place] 217):=⟨_,rfl⟩
   have hb2:Below wr.heap.size wr W2:=by rw [hW2]; exact (Below.refl _ _).alloc (Nat.le_refl _) _
   have HB2:Hid (Below (w.heap.size+1) W0 W2):=hide (hb.trans (hb2.mono (by have:=hb.size; omega)))
   have HL2:Hid (Bld (w.heap.size+1) (w.heap.size+1) (txtP (ps.take k)) W2):=hide ((uh HB).later hb2)
   have hc2:W2.heap[wr.heap.size]?=some (.cells #[.string p.text,.bool false,.int .i64 p.place] 217 (0,0)):=by rw [hW2]; exact heap_alloc_new _ _
   have q0:W2.cell? ⟨wr.heap.size,0,none⟩=some (.string p.text):=cq 0 hc2
   have q1:W2.cell? ⟨wr.heap.size,1,none⟩=some (.bool false):=cq 1 hc2
   clear hp hbw hrow3 t0 t1 t2 hjl hsp hsz hb2 hc2 hb HB Hb e2
   go_upto_region 5 with fail
   rw [← hW2]
   clear hW2 u0 u1 u2 n0
   go_wp2_with (go_at_call 59; refine (wsB _ _ _ _ _ (uh HL2) ?_).mono ?_; (have hh:=(uh HSZ).2; omega); rintro ev w3 ⟨rfl,hB3,hb3⟩)
   go_roundw
   case rel=>
    first
     | exact ⟨k+1,hlt,by go_num,by rw [uh HS]; exact hB3,(uh HB2).trans hb3⟩
     | ((repeat apply Exists.intro); exact ⟨⟨k+1,hlt,by go_num,by rw [uh HS]; exact hB3,(uh HB2).trans hb3⟩,rfl⟩)
   case measure=>simp [intOf]; omega
  ·have hke:k=n':=by omega
   have hW:=wstr _ _ _ wr (uh HB)
   have HS:Hid (txtP (ps.take k)=txtP ps):=hide (by rw [List.take_of_length_le (by rw [hke,uh HN]; exact Nat.le_refl _)])
   clear hke hb
   go_wp2_with (go_at_call 62; refine hW.mono ?_; clear hW; rintro ev w3 ⟨rfl,hb3⟩)
   go_ret
   exact ⟨⟨_,rfl,(List.toList_toArray).trans (uh HS)⟩,((uh HB0).trans ((uh Hb).mono (by omega))).trans (hb3.mono (by omega))⟩
abbrev wCOPY:List UInt8:=[67,79,80,89]
abbrev wADD:List UInt8:=[65,68,68]
def InM.arr (m:InM):Array Value:=#[m.wv,.int .i64 m.stage,.int .i64 (ruleT m.rule).1,.int .i64 (ruleT m.rule).2.1,fnV (ruleT m.rule).2.2.1,fnV (ruleT m.rule).2.2.2]
theorem row_capw {w:World} {B e z n:Nat} {v:Value} {xs:List Value} (h:w.ownsRow B e z v n xs) (hn:0<n):∃ g cap,v=.slice (some ⟨g,0,none⟩) n cap∧n≤cap∧cap≤maxLen:=by
 rcases h.2 with ⟨_,h0⟩ | ⟨g,cap,cur,hv,_,_,h1,h2,_⟩
 ·omega
 ·exact ⟨g,cap,hv,h1,h2⟩
theorem rule_pos (i:Nat):1≤(ruleT i).1:=by unfold ruleT; split <;> decide
def OpsOut (m:InM) (ev:Ending):Prop:=∃ g cap,m.wv=.slice (some ⟨g,0,none⟩) m.ws.length cap∧ev=.returned (.slice (some ⟨g,2,none⟩) (m.ws.length-1) (cap-1))
set_option maxHeartbeats 2000000 in
set_option maxRecDepth 10000 in
theorem operands_none (m:InM) (x:WdM) (B:Nat) (w:World) (h:m.Ok w B) (h0:m.ws[0]?=some x) (hst:m.stage=-1) :
  Calls Tryz.prog 72 #[m.val] w fun ev w'=>OpsOut m ev∧Below w.heap.size w w':=by
 have hl0:=(List.getElem?_eq_some_iff.1 h0).1
 obtain ⟨g,cap,hcp,hc1,hc2⟩:=row_capw h.ws.row (by omega)
 have hsh:=h.short
 have hle:=h.least
 have hrp:=rule_pos m.rule
 obtain ⟨W0,hW0⟩:∃ W0,W0=w.alloc (.cells #[m.wv,.int .i64 m.stage,.int .i64 (ruleT m.rule).1,.int .i64 (ruleT m.rule).2.1,fnV (ruleT m.rule).2.2.1,fnV (ruleT m.rule).2.2.2] 76):=⟨_,rfl⟩
 have hb0:Below w.heap.size w W0:=by rw [hW0]; exact (Below.refl _ _).alloc (Nat.le_refl _) _
 have hc0:W0.heap[w.heap.size]?=some (.cells #[m.wv,.int .i64 m.stage,.int .i64 (ruleT m.rule).1,.int .i64 (ruleT m.rule).2.1,fnV (ruleT m.rule).2.2.1,fnV (ruleT m.rule).2.2.2] 76 (0,0)):=by rw [hW0]; exact heap_alloc_new _ _
 have hIs:=in_is m x ⟨#[67,79,80,89]⟩ B W0 (h.below hb0).ws h0 (h.small x (List.mem_of_getElem? h0)).1
 obtain ⟨b,hb⟩:∃ b,b=(plainW x.xs==some (⟨#[67,79,80,89]⟩:ByteArray).data.toList):=⟨_,rfl⟩
 rw [← hb] at hIs
 obtain ⟨wv,ws,stage,rule⟩:=m
 simp only at hcp hst hIs hc0 hl0 hc1 hsh hW0 hle hrp ⊢
 subst hcp hst
 unfold InM.val at hIs ⊢
 simp only at hIs ⊢
 have r0:=cq 0 hc0
 have r1:=cq 1 hc0
 have r2:=cq 2 hc0
 have r3:=cq 3 hc0
 have r4:=cq 4 hc0
 have r5:=cq 5 hc0
 obtain ⟨n,hn⟩:∃ n,ws.length=n+1:=⟨ws.length-1,by omega⟩
 obtain ⟨c,hc⟩:∃ c,cap=c+1:=⟨cap-1,by omega⟩
 rw [hn] at hIs hW0 r0 hc0 hc1 hsh ⊢
 subst hc
 have HC:=hide hc0
 have hc00:¬ c=0:=by omega
 have HO:Hid (∀ ev,ev=.returned (.slice (some ⟨g,2,none⟩) n c)→OpsOut ⟨.slice (some ⟨g,0,none⟩) (n+1) (c+1),ws,-1,rule⟩ ev):=hide (fun ev he=>⟨g,c+1,by rw [hn],by rw [he]; simp [hn]⟩)
 obtain ⟨OO,hOO⟩:∃ OO,OO=OpsOut ⟨.slice (some ⟨g,0,none⟩) (n+1) (c+1),ws,-1,rule⟩:=⟨_,rfl⟩
 rw [← hOO] at HO ⊢
 have i1:(1:Int)≤(n:Int)+1∧(n:Int)+1≤(c:Int)+1:=by omega
 clear h h0 hb hc0 hn hl0 hc1 hc2 hsh hle hrp hOO
 cases b with
 | false=>
  go_enter Tryz.func72,Tryz.ntmps72
  go_upto_region 1 with fail
  rw [← hW0]
  clear hW0
  go_upto_region 3 with (go_at_call 116; refine hIs.mono ?_; clear hIs; rintro e1 w1 ⟨rfl,hb1⟩)
  have q0:w1.cell? ⟨w.heap.size,0,none⟩=some (.slice (some ⟨g,0,none⟩) (n+1) (c+1)):=cell_later hb1 r0
  clear r0 r1 r2 r3 r4 r5
  go_wp2_with fail
  go_ret
  exact ⟨uh HO _ rfl,hb0.trans (hb1.mono hb0.size)⟩
 | true=>
  have HK:Hid (∀ W,Below W0.heap.size W0 W→W.cell? ⟨w.heap.size,1,none⟩=some (.int .i64 (-1))∧W.cell? ⟨w.heap.size,0,none⟩=some (.slice (some ⟨g,0,none⟩) (n+1) (c+1))):=hide (fun W hB=>⟨cell_later hB r1,cell_later hB r0⟩)
  go_enter Tryz.func72,Tryz.ntmps72
  go_upto_region 1 with fail
  rw [← hW0]
  clear hW0
  go_wp2_with (go_at_call 116; refine hIs.mono ?_; clear hIs; rintro e1 w1 ⟨rfl,hb1⟩; obtain ⟨q1,q0⟩:=uh HK w1 hb1)
  go_ret
  exact ⟨uh HO _ rfl,hb0.trans (hb1.mono hb0.size)⟩
end Go.Proofs.YtehfpjcclknipaaGreatDoor
