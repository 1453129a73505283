import Derived.Test.YtehfpjcclknipaaGreatDoorTelW
import Derived.Test.YtehfpjcclknipaaGreatDoorJBfS
import Derived.Defers
import Derived.Recover
import Derived.Shelf.Strings.OnBuilder
import Derived.Shelf.Strings.Builder1
import Derived.Shelf.Strings.BuilderF
import Derived.Shelf.Strings.BuilderK
import Derived.Test.YtehfpjcclknipaaGreatDoorProg
namespace Go.Proofs.YtehfpjcclknipaaGreatDoor
open Go.RowKit Go.Maps
theorem assert_err (v:Value) (w:World):(Instr.typeAssert (.iface 203 v) 20 47 true).run Tryz.prog w=.ok (.tuple #[.iface 203 v,.bool true]) w:=by kernel_rfl
set_option maxHeartbeats 2000000 in
set_option maxRecDepth 10000 in
theorem wrong_any (b:Nat) (e p:Nat) (w:World) (hb:w.heap[b]?=some (.cells #[.int .i64 (e:Int),.int .i64 (p:Int)] 206 (0,0))) (hg:w.cell? ⟨0,0,none⟩=some (.iface 168 (.agg #[.pointer (some ⟨22,47,none⟩)]))) :
  Calls Tryz.prog 64 #[.iface 203 (.pointer (some ⟨b,0,none⟩))] w fun ev w'=>∃ a:Nat,ev=.returned (.iface 80 (.pointer (some ⟨a,0,none⟩)))∧w'.heap[a]?=some (.cells #[.int .i64 (e:Int),.int .i64 (p:Int)] 84 (0,0))∧Below w.heap.size w w':=by
 have hA:=assert_err (.pointer (some ⟨b,0,none⟩))
 obtain ⟨W0,hW0⟩:∃ W0,W0=(w.alloc (.cells #[.pointer none] 203)).alloc (.cells #[.pointer none] 204):=⟨_,rfl⟩
 have hb0:Below w.heap.size w W0:=by rw [hW0];exact ((Below.refl _ _).alloc (Nat.le_refl _) _).alloc (by simp) _
 have hc0:W0.heap[w.heap.size]?=some (.cells #[.pointer none] 203 (0,0)):=by
  rw [hW0,Below.heap_alloc _ _ _ (by simp)];exact heap_alloc_new _ _
 have hH:=as_hitW ⟨b,0,none⟩ ⟨w.heap.size,0,none⟩ (.pointer none) W0 (cell_later hb0 hg) (cq 0 hc0) (by simp [World.frozen?,hc0])
 have hz0:w.heap.size<W0.heap.size:=by rw [hW0];simp;omega
 have hH2:Calls Tryz.prog 22 #[.iface 203 (.pointer (some ⟨b,0,none⟩)),.iface 205 (.pointer (some ⟨w.heap.size,0,none⟩))] W0 fun ev w'=>ev=.returned (.bool true)∧w'.cell? ⟨w.heap.size,0,none⟩=some (.pointer (some ⟨b,0,none⟩))∧Below w.heap.size W0 w':=by
  refine hH.mono ?_
  rintro ev w' ⟨rfl,rfl⟩
  refine ⟨rfl,?_,?_⟩
  ·refine cq 0 (heap_setCell_same _ _ 0 #[.pointer none] 203 _ ?_)
   rw [Below.heap_alloc _ _ _ (by simp;omega),Below.heap_alloc _ _ _ (by simp;omega),Below.heap_alloc _ _ _ (by simp;omega),Below.heap_alloc _ _ _ hz0]
   exact hc0
  ·exact ((((Below.refl _ W0).alloc (Nat.le_of_lt hz0) _).alloc (by simp;omega) _).alloc (by simp;omega) _ |>.alloc (by simp;omega) _).setCell (p:=⟨w.heap.size,0,none⟩) (Nat.le_refl _) _
 clear hH
 have HB0:=hide hb0
 have HC0:=hide hc0
 have HB:=hide hb
 clear hb hb0 hc0 hg
 go_enter Tryz.func64,Tryz.ntmps64
 go_upto_region 5 with fail
 rw [←hW0]
 clear hW0
 go_upto_region 6 with (go_at_call 22;refine hH2.mono ?_;clear hH2;rintro ev w2 ⟨rfl,k0,hb2⟩)
 have hB2:Below w.heap.size w w2:=(uh HB0).trans hb2
 have hbl:b<w.heap.size:=(Array.getElem?_eq_some_iff.1 (uh HB)).1
 have hc2:w2.heap[b]?=some (.cells #[.int .i64 (e:Int),.int .i64 (p:Int)] 206 (0,0)):=(hB2.block b hbl).trans (uh HB)
 have q0:w2.cell? ⟨b,0,none⟩=some (.int .i64 (e:Int)):=cq 0 hc2
 have q1:w2.cell? ⟨b,1,none⟩=some (.int .i64 (p:Int)):=cq 1 hc2
 have HB2:=hide hB2
 clear hb2 hB2 hc2
 go_region
 all_goals
  try go_wp2_with fail
  go_ret
  exact ⟨_,rfl,heap_alloc_new _ _,((uh HB2).alloc (uh HB2).size _).drew⟩
theorem any_nil (w:World):(binOp BinOp.neq 20 .nilIface .nilIface).run Tryz.prog w=.ok (.bool false) w:=by kernel_rfl
theorem any_some (v:Value) (w:World):(binOp BinOp.neq 20 (.iface 203 v) .nilIface).run Tryz.prog w=.ok (.bool true) w:=by kernel_rfl
theorem catch_idle (p:Addr) (w:World) :
  CallsD Tryz.prog 63 #[.pointer (some p)] .returning w fun e u' w'=>e=.returned (.tuple #[])∧u'=.returning∧w'=w:=by
 have hn:=any_nil
 refine callsD_of_wpS Tryz.func63 rfl fun c₀ cs hu=>?_
 apply wpS_seq
 apply wpS_region
 simp [wpOpsS,go_sem,recoverD,hu,Tryz.ntmps63,Exit.thenS]
 apply wpS_seq
 apply wpS_region
 simp [wpOpsS,go_sem,Exit.thenS,hn]
 refine wpS_cond (t:=false) (by simp [Act.eval,Array.replicate]) ?_
 simp only [if_neg Bool.false_ne_true]
 refine wpS_of_wp ?_
 go_wp2
 cases c₀
 simp_all [bodyPostS,results,Tryz.results63]
set_option maxHeartbeats 2000000 in
theorem catch_wrong (B r b e p:Nat) (w:World) (hb:w.heap[b]?=some (.cells #[.int .i64 (e:Int),.int .i64 (p:Int)] 206 (0,0))) (hg:w.cell? ⟨0,0,none⟩=some (.iface 168 (.agg #[.pointer (some ⟨22,47,none⟩)]))) (hr:w.heap[r]?=some (.cells #[.nilIface] 47 (0,0))) (hB:B≤r) :
  CallsD Tryz.prog 63 #[.pointer (some ⟨r,0,none⟩)] (.panicking [{ v:=.iface 203 (.pointer (some ⟨b,0,none⟩)),recovered:=false }]) w fun ev u' w'=>ev=.returned (.tuple #[])∧u'=.panicking [{ v:=.iface 203 (.pointer (some ⟨b,0,none⟩)),recovered:=true }]∧∃ a:Nat,w'.heap[r]?=some (.cells #[.iface 80 (.pointer (some ⟨a,0,none⟩))] 47 (0,0))∧w'.heap[a]?=some (.cells #[.int .i64 (e:Int),.int .i64 (p:Int)] 84 (0,0))∧Below B w w':=by
 have hn:=any_some (.pointer (some ⟨b,0,none⟩))
 have hW:=wrong_any b e p w hb hg
 have hrl:r<w.heap.size:=(Array.getElem?_eq_some_iff.1 hr).1
 refine callsD_of_wpS Tryz.func63 rfl fun c₀ cs hu=>?_
 apply wpS_seq
 apply wpS_region
 simp [wpOpsS,go_sem,recoverD,hu,Tryz.ntmps63,Exit.thenS]
 apply wpS_seq
 apply wpS_region
 simp [wpOpsS,go_sem,Exit.thenS,hn]
 refine wpS_cond (t:=true) (by simp [Act.eval,Array.replicate]) ?_
 simp only [if_true]
 refine wpS_of_wp ?_
 have HR:=hide hr
 clear hb hg hr
 go_wp2_with (go_at_call 64;refine hW.mono ?_;clear hW;rintro ev w2 ⟨a,rfl,ha,hb2⟩;have hr2:=(hb2.block r hrl).trans (uh HR);have q0:=cq 0 hr2;have q1:w2.frozen? ⟨r,0,none⟩=false:=by simp [World.frozen?,hr2])
 have hne:a≠r:=by
  rintro rfl
  rw [hr2] at ha
  injection ha with ha
  injection ha with _ ha
  cases ha
 have hA:=heap_setCell_same w2 r 0 _ _ (.iface 80 (.pointer (some ⟨a,0,none⟩))) hr2
 have hA2:=heap_setCell_other w2 ⟨r,0,none⟩ a (.iface 80 (.pointer (some ⟨a,0,none⟩))) hne
 rw [ha] at hA2
 have hBB:Below B w (w2.setCell ⟨r,0,none⟩ (.iface 80 (.pointer (some ⟨a,0,none⟩)))):=(hb2.mono (by omega)).setCell (p:=⟨r,0,none⟩) hB _
 obtain ⟨W,hW⟩:∃ W,W=w2.setCell ⟨r,0,none⟩ (.iface 80 (.pointer (some ⟨a,0,none⟩))):=⟨_,rfl⟩
 rw [←hW] at hA hA2 hBB ⊢
 clear hW q0 q1 hr2 hb2 ha HR hn
 cases c₀
 simp [bodyPostS,results,Tryz.results63]
 exact ⟨a,hA,hA2,hBB⟩
theorem FileM.er {w w':World}{B fb q:Nat}{sv:Value}{ss:List StM}{c:Array Value}(h:FileM w B fb sv ss) (hq:w.heap[q]?=some (.cells c 47 (0,0))) (ht:Tb w.heap.size q w w'):FileM w' B fb sv ss:=by
 have hne:fb≠q:=by
  rintro rfl
  have:=h.cells
  rw [hq] at this
  injection this with this
  injection this with _ this
  cases this
 exact ⟨(ht.block fb h.lt hne).trans h.cells,h.base,row_off h.row ht (row_tag h.row hq (by decide)),fun s hs=>⟨row_off (h.all s hs).row ht (row_tag (h.all s hs).row hq (by decide)),fun m hm=>((h.all s hs).all m hm).off hq (by decide) (by decide) ht,(h.all s hs).short⟩,h.short⟩
def ReadOut (w':World) (ev:Ending) (r:Res (List Stg)):Prop:=match r with
 | .error (e,p)=>∃ a:Nat,ev=.returned (.tuple #[.pointer none,.iface 80 (.pointer (some ⟨a,0,none⟩))])∧w'.heap[a]?=some (.cells #[.int .i64 (e:Int),.int .i64 (p:Int)] 84 (0,0))
 | .ok st=>∃ B fb sv ss,ev=.returned (.tuple #[.pointer (some ⟨fb,0,none⟩),.nilIface])∧FileM w' B fb sv ss∧ss.map StM.stg=st
set_option maxHeartbeats 2000000 in
set_option maxRecDepth 10000 in
theorem read_any (s:ByteArray) (m:Int) (w:World) (hm:w.cell? ⟨14,0,none⟩=some (.int .i64 m)) (hg:w.cell? ⟨0,0,none⟩=some (.iface 168 (.agg #[.pointer (some ⟨22,47,none⟩)]))) :
  Calls Tryz.prog 28 #[.string s,.func (.func 29) #[] #[]] w fun ev w'=>ReadOut w' ev (parseG s.data.toList)∧Below w.heap.size w w':=by
 have hmf:∀ (fn:Fn) (first cap:Array Value) (w:World),(Instr.makeFunc fn first cap).run Tryz.prog w=.ok (.func fn first cap) w:=fun _ _ _ _=>rfl
 have hbl:=World.block_lt_of_cell? _ _ hg
 obtain ⟨W0,hW0⟩:∃ W0,W0=w.alloc (.cells #[.nilIface] 47):=⟨_,rfl⟩
 have hb0:Below w.heap.size w W0:=by rw [hW0];exact (Below.refl _ _).alloc (Nat.le_refl _) _
 have hr0:W0.heap[w.heap.size]?=some (.cells #[.nilIface] 47 (0,0)):=by rw [hW0];exact heap_alloc_new _ _
 have hz0:W0.heap.size=w.heap.size+1:=by rw [hW0];simp
 have hF:=read_file s m W0 (cell_later hb0 hm)
 have hg0:=cell_later hb0 hg
 cases hp:parseG s.data.toList with
 | error ep=>
   obtain ⟨e,p⟩:=ep
   rw [hp] at hF
   unfold FileOut Wrg at hF
   have HR:=hide hr0
   have HG:=hide hg0
   have HB:=hide hb0
   clear hr0 hg0 hb0 hp hm hg
   go_enter_defers Tryz.func28,Tryz.ntmps28
   go_upto_region 2 with fail
   rw [←hW0]
   clear hW0
   go_wp2_with (go_at_call 29;refine hF.mono ?_;clear hF;rintro ev w2 ⟨⟨b,rfl,hc⟩,hb2⟩)
   have hr2:=(hb2.block w.heap.size (by omega)).trans (uh HR)
   have hC:=catch_wrong w.heap.size w.heap.size b e p w2 hc (cell_later hb2 (uh HG)) hr2 (Nat.le_refl _)
   refine leaves_cons (f:=63) (args:=#[.pointer (some ⟨w.heap.size,0,none⟩)]) (by simp) (by simp [go_sem]) ?_
   refine hC.mono ?_
   rintro ev u' w3 ⟨rfl,rfl,a,ha,ha2,hb3⟩
   have q0:w3.cell? ⟨w.heap.size,0,none⟩=some (.iface 80 (.pointer (some ⟨a,0,none⟩))):=cq 0 ha
   have hBB:Below w.heap.size w w3:=((uh HB).trans (hb2.mono (by omega))).trans hb3
   simp [Leaves,settle,results,Tryz.results28,go_sem,q0]
   exact ⟨⟨a,rfl,ha2⟩,hBB⟩
 | ok st=>
   rw [hp] at hF
   unfold FileOut at hF
   have HR:=hide hr0
   have HB:=hide hb0
   clear hr0 hg0 hb0 hp hm hg
   go_enter_defers Tryz.func28,Tryz.ntmps28
   go_upto_region 2 with fail
   rw [←hW0]
   clear hW0
   go_wp2_with (go_at_call 29;refine hF.mono ?_;clear hF;rintro ev w2 ⟨⟨fb,sv,ss,rfl,hFM,hst⟩,hb2⟩;have hr2:=(hb2.block w.heap.size (by omega)).trans (uh HR);have q0:w2.cell? ⟨w.heap.size,0,none⟩=some .nilIface:=cq 0 hr2;have q1:w2.frozen? ⟨w.heap.size,0,none⟩=false:=by simp [World.frozen?,hr2])
   have hFM3:=hFM.er hr2 (Tb.to w2.heap.size w.heap.size w2 0 .nilIface)
   have hr3:=heap_setCell_same w2 w.heap.size 0 _ _ .nilIface hr2
   have hBB:Below w.heap.size w (w2.setCell ⟨w.heap.size,0,none⟩ .nilIface):=((uh HB).trans (hb2.mono (by omega))).setCell (p:=⟨w.heap.size,0,none⟩) (Nat.le_refl _) _
   obtain ⟨W,hW⟩:∃ W,W=w2.setCell ⟨w.heap.size,0,none⟩ .nilIface:=⟨_,rfl⟩
   rw [←hW] at hFM3 hr3 hBB ⊢
   clear hW q0 q1
   refine leaves_cons (f:=63) (args:=#[.pointer (some ⟨w.heap.size,0,none⟩)]) (by simp) (by simp [go_sem]) ?_
   refine (catch_idle ⟨w.heap.size,0,none⟩ _).mono ?_
   rintro ev u' w3 ⟨rfl,rfl,rfl⟩
   have q0:w3.cell? ⟨w.heap.size,0,none⟩=some .nilIface:=cq 0 hr3
   simp [Leaves,settle,results,Tryz.results28,go_sem,q0]
   exact ⟨⟨_,fb,sv,ss,rfl,hFM3,hst⟩,hBB⟩
def unchN (n:Nat):Bool:=decide (65≤n∧n≤90) || decide (48≤n∧n≤57) || decide (97≤n∧n≤122) || decide (0≤Lib.indexByte [46,47,95,61,58,45] n.toUInt8)
set_option maxHeartbeats 1000000 in
theorem unch_any (n:Nat) (w:World):Calls Tryz.prog 191 #[.int .u8 (n:Int)] w fun e w'=>e=.returned (.bool (unchN n))∧w'=w:=by
 have mC:=cap_any n w
 have mD:=dig_any n w
 have mI:=idx_any ⟨#[46,47,95,61,58,45]⟩ (n:Int) w
 have HD:Hid (unchN n=(decide (65≤n∧n≤90) || decide (48≤n∧n≤57) || decide (97≤n∧n≤122) || decide (0≤Lib.indexByte [46,47,95,61,58,45] n.toUInt8))):=hide rfl
 simp only [Int.toNat_natCast] at mI
 generalize hI:Lib.indexByte (ByteArray.mk #[46,47,95,61,58,45]).data.toList n.toUInt8=I at mI
 have hI2:Lib.indexByte [46,47,95,61,58,45] n.toUInt8=I:=hI
 rw [hI2] at HD
 generalize hc:decide (65≤n∧n≤90)=cc at mC HD
 generalize hd:decide (48≤n∧n≤57)=dd at mD HD
 clear hI hI2 hc hd
 go_enter Tryz.func191,Tryz.ntmps191
 go_wp2_with (first
  | (go_at_call 211;refine mC.mono ?_;clear mC;rintro ev w2 ⟨rfl,rfl⟩)
  | (go_at_call 212;refine mD.mono ?_;clear mD;rintro ev w2 ⟨rfl,rfl⟩)
  | (go_at_call 210;refine mI.mono ?_;clear mI;rintro ev w2 ⟨rfl,rfl⟩))
 all_goals
  go_ret
  exact ⟨ret_bool (by rw [uh HD];rw [Bool.eq_iff_iff];simp_all <;> omega),rfl⟩
end Go.Proofs.YtehfpjcclknipaaGreatDoor
namespace Go.Proofs
open Go.Shelf Go.RowKit
def Tryz.lays156_ren:Go.Shelf.Ren:=⟨fun | 156=>115 | 165=>151 | 166=>59 | 169=>62 | 240=>100 | 241=>193 | 276=>132 | 277=>226 | n=>n,fun | 31=>27 | 9=>9 | 3=>3 | 4=>4 | 0=>0 | 20=>20 | 72=>147 | 76=>148 | 70=>144 | 37=>145 | 75=>47 | 127=>201 | 164=>113 | 5=>5 | 80=>93 | n=>n,fun | n=>n⟩
theorem Tryz.lays156:Go.Proofs.Lays.n156 Tryz.prog Tryz.lays156_ren:={
 mixed:=by kernel_rfl
 f156:=Tryz.func115.trans (congrArg some (by kernel_rfl))
 f165:=Tryz.func151.trans (congrArg some (by kernel_rfl))
 f166:=Tryz.func59.trans (congrArg some (by kernel_rfl))
 f169:=Tryz.func62.trans (congrArg some (by kernel_rfl))
 f240:=Tryz.func100.trans (congrArg some (by kernel_rfl))
 f241:=Tryz.func193.trans (congrArg some (by kernel_rfl))
 f276:=Tryz.func132.trans (congrArg some (by kernel_rfl))
 f277:=Tryz.func226.trans (congrArg some (by kernel_rfl))
 t0:=Tryz.underlying0
 a0:=Tryz.isAgg0
 z0:=Tryz.sizeOf0
 v0:=Tryz.zeroValue0
 t3:=Tryz.underlying3
 a3:=Tryz.isAgg3
 z3:=Tryz.sizeOf3
 v3:=Tryz.zeroValue3
 t4:=Tryz.underlying4
 a4:=Tryz.isAgg4
 z4:=Tryz.sizeOf4
 v4:=Tryz.zeroValue4
 t9:=Tryz.underlying9
 a9:=Tryz.isAgg9
 z9:=Tryz.sizeOf9
 v9:=Tryz.zeroValue9
 t20:=Tryz.underlying20
 a20:=Tryz.isAgg20
 z20:=Tryz.sizeOf20
 v20:=Tryz.zeroValue20
 t31:=Tryz.underlying27
 a31:=Tryz.isAgg27
 z31:=Tryz.sizeOf27
 v31:=Tryz.zeroValue27
 t37:=Tryz.underlying145
 a37:=Tryz.isAgg145
 z37:=Tryz.sizeOf145
 v37:=Tryz.zeroValue145
 t70:=Tryz.underlying144
 a70:=Tryz.isAgg144
 z70:=Tryz.sizeOf144
 v70:=Tryz.zeroValue144
 t72:=Tryz.underlying147
 a72:=Tryz.isAgg147
 z72:=Tryz.sizeOf147
 v72:=Tryz.zeroValue147
 t75:=Tryz.underlying47
 a75:=Tryz.isAgg47
 z75:=Tryz.sizeOf47
 v75:=Tryz.zeroValue47
 t76:=Tryz.underlying148
 a76:=Tryz.isAgg148
 z76:=Tryz.sizeOf148
 v76:=Tryz.zeroValue148
 t127:=Tryz.underlying201
 a127:=Tryz.isAgg201
 z127:=Tryz.sizeOf201
 v127:=Tryz.zeroValue201
 t164:=Tryz.underlying113
 a164:=Tryz.isAgg113
 z164:=Tryz.sizeOf113
 v164:=Tryz.zeroValue113 }
theorem Tryz.Builder_Extra_156:Builder.Extra Tryz.prog Tryz.lays156_ren:={
 sizeBuilder:=by kernel_rfl
 liesBuilder:=by kernel_rfl
 t5:=Tryz.underlying5
 a5:=Tryz.isAgg5
 z5:=Tryz.sizeOf5
 v5:=Tryz.zeroValue5
 infoByte:=by kernel_rfl
 cellsByte:=by kernel_rfl
 sizeByte:=by kernel_rfl
 neB5:=by decide }
open Go.RowKit in
theorem Tryz.strings_Join_none (a:Option Addr) (c:Nat) (sep:ByteArray) (w:World) :
  Calls Tryz.prog 115 #[.slice a 0 c,.string sep] w fun e w'=>e=.returned (.string ⟨#[]⟩)∧w'=w:=Any.strings_Join_none Tryz.lays156 Tryz.Builder_Extra_156 a c sep w
open Go.RowKit in
theorem Tryz.strings_Join (bk o c:Nat) (xs:List ByteArray) (sep:ByteArray) (w:World) (hcells:∀ (j:Nat) x,xs[j]?=some x→w.cell? ⟨bk,o+j,none⟩=some (.string x)) (hbk:bk<w.heap.size) (hN:xs.length≤140737488355328) (hcap:xs.length≤c) (hlen:(Lib.join (xs.map (·.data.toList)) sep.data.toList).length≤140737488355328) :
  Calls Tryz.prog 115 #[.slice (some ⟨bk,o,none⟩) xs.length c,.string sep] w fun e w'=>e=.returned (.string ⟨(Lib.join (xs.map (·.data.toList)) sep.data.toList).toArray⟩)∧Below w.heap.size w w':=Any.strings_Join Tryz.lays156 Tryz.Builder_Extra_156 bk o c xs sep w hcells hbk hN hcap hlen
def Tryz.renB:Go.Shelf.Ren:=⟨fun | 167=>192 | n=>Tryz.lays156_ren.f n,Tryz.lays156_ren.t,Tryz.lays156_ren.g⟩
theorem Tryz.laysB:Go.Proofs.Lays.n167 Tryz.prog Tryz.renB:={
 mixed:=Tryz.lays156.mixed
 f167:=Tryz.func192.trans (congrArg some (by kernel_rfl))
 f240:=Tryz.func100.trans (congrArg some (by kernel_rfl))
 f276:=Tryz.func132.trans (congrArg some (by kernel_rfl))
 t0:=Tryz.lays156.t0
 a0:=Tryz.lays156.a0
 z0:=Tryz.lays156.z0
 v0:=Tryz.lays156.v0
 t4:=Tryz.lays156.t4
 a4:=Tryz.lays156.a4
 z4:=Tryz.lays156.z4
 v4:=Tryz.lays156.v4
 t5:=Tryz.underlying5
 a5:=Tryz.isAgg5
 z5:=Tryz.sizeOf5
 v5:=Tryz.zeroValue5
 t9:=Tryz.lays156.t9
 a9:=Tryz.lays156.a9
 z9:=Tryz.lays156.z9
 v9:=Tryz.lays156.v9
 t20:=Tryz.lays156.t20
 a20:=Tryz.lays156.a20
 z20:=Tryz.lays156.z20
 v20:=Tryz.lays156.v20
 t37:=Tryz.lays156.t37
 a37:=Tryz.lays156.a37
 z37:=Tryz.lays156.z37
 v37:=Tryz.lays156.v37
 t70:=Tryz.lays156.t70
 a70:=Tryz.lays156.a70
 z70:=Tryz.lays156.z70
 v70:=Tryz.lays156.v70
 t72:=Tryz.lays156.t72
 a72:=Tryz.lays156.a72
 z72:=Tryz.lays156.z72
 v72:=Tryz.lays156.v72
 t75:=Tryz.lays156.t75
 a75:=Tryz.lays156.a75
 z75:=Tryz.lays156.z75
 v75:=Tryz.lays156.v75
 t164:=Tryz.lays156.t164
 a164:=Tryz.lays156.a164
 z164:=Tryz.lays156.z164
 v164:=Tryz.lays156.v164 }
theorem Tryz.extraB:Builder.Extra Tryz.prog Tryz.renB:={
 sizeBuilder:=by kernel_rfl
 liesBuilder:=by kernel_rfl
 t5:=Tryz.underlying5
 a5:=Tryz.isAgg5
 z5:=Tryz.sizeOf5
 v5:=Tryz.zeroValue5
 infoByte:=by kernel_rfl
 cellsByte:=by kernel_rfl
 sizeByte:=by kernel_rfl
 neB5:=by decide }
theorem Tryz.Builder_WriteByte (B b:Nat) (bs:List Value) (c:Int) (w:World) (h:Lib.IsBuilder 147 5 B b bs w) (hlen:bs.length+1≤140737488355328) (hBw:B≤w.heap.size) :
  Calls Tryz.prog 192 #[.pointer (some ⟨b,0,none⟩),.int .u8 c] w fun e w'=>e=.returned .nilIface∧(Lib.BuilderAt 147 5 B b (.pointer (some ⟨b,0,none⟩)) (bs++[.int .u8 c]) w'∧Below B w w'):=Any.Builder_WriteByte Tryz.laysB Tryz.extraB B b bs c w h hlen hBw
theorem Tryz.Builder_WriteString (B b:Nat) (bs:List Value) (s:ByteArray) (w:World) (h:Lib.IsBuilder 147 5 B b bs w) (hlen:bs.length+s.size≤140737488355328) (hBw:B≤w.heap.size) :
  Calls Tryz.prog 59 #[.pointer (some ⟨b,0,none⟩),.string s] w fun e w'=>e=.returned (.tuple #[.int .i64 s.size,.nilIface])∧(Lib.BuilderAt 147 5 B b (.pointer (some ⟨b,0,none⟩)) (bs++Lib.strCells s) w'∧Below B w w'):=Any.Builder_WriteString { Tryz.lays156 with } Tryz.Builder_Extra_156 B b bs s w h hlen hBw
theorem Tryz.Builder_String_any (B b:Nat) (l:List UInt8) (w:World) (h:Lib.IsBuilder 147 5 B b (Lib.byteCells l) w) (hBw:B≤w.heap.size) :
  Calls Tryz.prog 62 #[.pointer (some ⟨b,0,none⟩)] w fun e w'=>e=.returned (.string ⟨l.toArray⟩)∧Below B w w':=Any.Builder_String_any { Tryz.lays156 with } Tryz.Builder_Extra_156 B b l w h hBw
end Go.Proofs
