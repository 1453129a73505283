import Derived.Maps.AppendAt
import Derived.Deep.RegionLaw
import Derived.Test.YtehfpjcclknipaaGreatDoorJFmB
import Derived.Test.YtehfpjcclknipaaGreatDoorJSpB
namespace Go.Proofs.YtehfpjcclknipaaGreatDoor
open Go.RowKit Go.Maps
def opsT (ws:List WdM):List (List UInt8):=(ws.drop 1).map fun x=>txtP (parts x.xs)
abbrev TxR (w:World) (B:Nat) (v:Value) (us:List ByteArray):Prop:=w.ownsRow B 9 1 v us.length (us.map Value.string)
theorem info9z:(Tryz.prog.info? 9).map (fun i=>(i.zero,i.size,i.bytes))=some (some (.string ByteArray.empty),1,16):=by kernel_rfl
theorem txt_grown {w7 w8:World}{B0:Nat}{us:List ByteArray}{v:Value}{o:Obj}(h:TxR w7 B0 v us) (hg:(w7.alloc o).grownBy w8 v.ownBlock) (hB:B0≤w7.heap.size):Below B0 w7 w8∧∀ (q:Nat) (cs:Array Value) (t:Nat) (f:Nat × Nat),w7.heap[q]?=some (.cells cs t f)→t≠9→w8.heap[q]?=some (.cells cs t f):=by
 refine ⟨((Below.refl _ _).alloc hB _).grown hg (by simp;omega) (fun q hq=>(World.ownsRow.lt h q hq).1),fun q cs t f hq ht=>?_⟩
 have hlt:=(Array.getElem?_eq_some_iff.1 hq).1
 refine (hg.block q (by simp;omega) (fun e=>?_)).trans ((Below.heap_alloc _ _ q hlt).trans hq)
 rcases h.2 with ⟨e',_⟩ | ⟨g',cap,cur,e',_,hg',_⟩
 ·rw [e'] at e;cases e
 ·rw [e'] at e
  have:q=g':=by simpa [Value.ownBlock] using e
  subst this
  rw [hq] at hg'
  injection hg' with hg'
  injection hg' with _ hg' _
  exact ht hg'
def res0:Array Value:=#[.pointer none,.slice none 0 0,.pointer none,.pointer none,.slice none 0 0,.int .i64 0,.int .i64 0,.int .i64 0,.nilFunc,.nilFunc]
structure In33 (w wr:World) (B mb sb tb:Nat) (m:InM) (src:Value) (us:List ByteArray) (k:Nat):Prop where
 ok:m.Ok wr B
 below:Below w.heap.size w wr
 inb:wr.heap[w.heap.size]?=some (.cells m.arr 76 (0,0))
 res:wr.heap[w.heap.size+1]?=some (.cells res0 78 (0,0))
 tsk:∃ v,wr.heap[tb]?=some (.cells #[v,.pointer none,src] 69 (0,0))∧TxR wr w.heap.size v us
 tb0:w.heap.size+1<tb
 len:us.length=k
 txt:us.map (fun u=>u.data.toList)=(opsT m.ws).take k
theorem In33.below2 {w wr w2:World}{B mb sb tb:Nat}{m:InM}{src:Value}{us:List ByteArray}{k:Nat}(h:In33 w wr B mb sb tb m src us k) (hb:Below wr.heap.size wr w2):In33 w w2 B mb sb tb m src us k:=by
 obtain ⟨v,h3,h4⟩:=h.tsk
 have up:∀ {g:Nat}{o:Obj},wr.heap[g]?=some o→w2.heap[g]?=some o:=fun hg=>(hb.block _ (Array.getElem?_eq_some_iff.1 hg).1).trans hg
 exact ⟨h.ok.below hb,h.below.trans (hb.mono h.below.size),up h.inb,up h.res,⟨v,up h3,row_same h4 fun q hq=>hb.block q (World.ownsRow.lt h4 q hq).2⟩,h.tb0,h.len,h.txt⟩
theorem set10 {w:World}{b:Nat}{u0 u1 u2 u3 u4 u5 u6 u7 u8 u9:Value}(v0 v1 v2 v3 v4 v5 v6 v7 v8 v9:Value) (h:w.heap[b]?=some (.cells #[u0,u1,u2,u3,u4,u5,u6,u7,u8,u9] 78 (0,0))) :
  ((((((((((w.setCell ⟨b,0,none⟩ v0).setCell ⟨b,1,none⟩ v1).setCell ⟨b,2,none⟩ v2).setCell ⟨b,3,none⟩ v3).setCell ⟨b,4,none⟩ v4).setCell ⟨b,5,none⟩ v5).setCell ⟨b,6,none⟩ v6).setCell ⟨b,7,none⟩ v7).setCell ⟨b,8,none⟩ v8).setCell ⟨b,9,none⟩ v9).heap[b]?=some (.cells #[v0,v1,v2,v3,v4,v5,v6,v7,v8,v9] 78 (0,0)):=by
 have h0:(w.setCell ⟨b,0,none⟩ v0).heap[b]?=some (.cells #[v0,u1,u2,u3,u4,u5,u6,u7,u8,u9] 78 (0,0)):=heap_setCell_same w b 0 _ _ v0 h
 obtain ⟨w0,e0⟩:∃ w',w'=(w.setCell ⟨b,0,none⟩ v0):=⟨_,rfl⟩
 rw [←e0] at h0 ⊢
 have h1:(w0.setCell ⟨b,1,none⟩ v1).heap[b]?=some (.cells #[v0,v1,u2,u3,u4,u5,u6,u7,u8,u9] 78 (0,0)):=heap_setCell_same w0 b 1 _ _ v1 h0
 obtain ⟨w1,e1⟩:∃ w',w'=(w0.setCell ⟨b,1,none⟩ v1):=⟨_,rfl⟩
 rw [←e1] at h1 ⊢
 have h2:(w1.setCell ⟨b,2,none⟩ v2).heap[b]?=some (.cells #[v0,v1,v2,u3,u4,u5,u6,u7,u8,u9] 78 (0,0)):=heap_setCell_same w1 b 2 _ _ v2 h1
 obtain ⟨w2,e2⟩:∃ w',w'=(w1.setCell ⟨b,2,none⟩ v2):=⟨_,rfl⟩
 rw [←e2] at h2 ⊢
 have h3:(w2.setCell ⟨b,3,none⟩ v3).heap[b]?=some (.cells #[v0,v1,v2,v3,u4,u5,u6,u7,u8,u9] 78 (0,0)):=heap_setCell_same w2 b 3 _ _ v3 h2
 obtain ⟨w3,e3⟩:∃ w',w'=(w2.setCell ⟨b,3,none⟩ v3):=⟨_,rfl⟩
 rw [←e3] at h3 ⊢
 have h4:(w3.setCell ⟨b,4,none⟩ v4).heap[b]?=some (.cells #[v0,v1,v2,v3,v4,u5,u6,u7,u8,u9] 78 (0,0)):=heap_setCell_same w3 b 4 _ _ v4 h3
 obtain ⟨w4,e4⟩:∃ w',w'=(w3.setCell ⟨b,4,none⟩ v4):=⟨_,rfl⟩
 rw [←e4] at h4 ⊢
 have h5:(w4.setCell ⟨b,5,none⟩ v5).heap[b]?=some (.cells #[v0,v1,v2,v3,v4,v5,u6,u7,u8,u9] 78 (0,0)):=heap_setCell_same w4 b 5 _ _ v5 h4
 obtain ⟨w5,e5⟩:∃ w',w'=(w4.setCell ⟨b,5,none⟩ v5):=⟨_,rfl⟩
 rw [←e5] at h5 ⊢
 have h6:(w5.setCell ⟨b,6,none⟩ v6).heap[b]?=some (.cells #[v0,v1,v2,v3,v4,v5,v6,u7,u8,u9] 78 (0,0)):=heap_setCell_same w5 b 6 _ _ v6 h5
 obtain ⟨w6,e6⟩:∃ w',w'=(w5.setCell ⟨b,6,none⟩ v6):=⟨_,rfl⟩
 rw [←e6] at h6 ⊢
 have h7:(w6.setCell ⟨b,7,none⟩ v7).heap[b]?=some (.cells #[v0,v1,v2,v3,v4,v5,v6,v7,u8,u9] 78 (0,0)):=heap_setCell_same w6 b 7 _ _ v7 h6
 obtain ⟨w7,e7⟩:∃ w',w'=(w6.setCell ⟨b,7,none⟩ v7):=⟨_,rfl⟩
 rw [←e7] at h7 ⊢
 have h8:(w7.setCell ⟨b,8,none⟩ v8).heap[b]?=some (.cells #[v0,v1,v2,v3,v4,v5,v6,v7,v8,u9] 78 (0,0)):=heap_setCell_same w7 b 8 _ _ v8 h7
 obtain ⟨w8,e8⟩:∃ w',w'=(w7.setCell ⟨b,8,none⟩ v8):=⟨_,rfl⟩
 rw [←e8] at h8 ⊢
 have h9:(w8.setCell ⟨b,9,none⟩ v9).heap[b]?=some (.cells #[v0,v1,v2,v3,v4,v5,v6,v7,v8,v9] 78 (0,0)):=heap_setCell_same w8 b 9 _ _ v9 h8
 exact h9
theorem below_set10 {B:Nat}{w w1:World}{b:Nat}(v0 v1 v2 v3 v4 v5 v6 v7 v8 v9:Value) (h:Below B w w1) (hb:B≤b):Below B w ((((((((((w1.setCell ⟨b,0,none⟩ v0).setCell ⟨b,1,none⟩ v1).setCell ⟨b,2,none⟩ v2).setCell ⟨b,3,none⟩ v3).setCell ⟨b,4,none⟩ v4).setCell ⟨b,5,none⟩ v5).setCell ⟨b,6,none⟩ v6).setCell ⟨b,7,none⟩ v7).setCell ⟨b,8,none⟩ v8).setCell ⟨b,9,none⟩ v9):=by
 repeat refine Below.setCell ?_ (p:=⟨b,_,none⟩) hb _
 exact h
theorem txt_off {w:World}{B tb:Nat}{v u:Value}{us:List ByteArray}{cs:Array Value}(h:TxR w B v us) (ht:w.heap[tb]?=some (.cells cs 69 (0,0))):TxR (w.setCell ⟨tb,0,none⟩ u) B v us:=by
 refine row_same h fun q hq=>heap_setCell_other w ⟨tb,0,none⟩ q u fun e=>?_
 rcases h.2 with ⟨e',_⟩ | ⟨g',cap,cur,e',_,hg',_⟩
 ·rw [e'] at hq;cases hq
 ·rw [e'] at hq
  have:g'=q:=by simpa [Value.ownBlock] using hq
  subst this
  rw [e] at hg'
  have hh:=ht.symm.trans hg'
  injection hh with hh
  injection hh with _ hh _
  cases hh
theorem In33.step {w wr w7 w8:World}{B mb sb tb:Nat}{m:InM}{src v v8:Value}{us:List ByteArray}{k:Nat}{u:ByteArray}{y:WdM}(h:In33 w wr B mb sb tb m src us k) (hok:m.Ok w B) (hb7:Below wr.heap.size wr w7)
  (ht:TxR w7 w.heap.size v us) (hg:(w7.alloc (.cells #[.string u] 9)).grownBy w8 v.ownBlock)
  (k8:w8.heap[tb]?=some (.cells #[v,.pointer none,src] 69 (0,0))) (ho:w8.ownsRow w.heap.size 9 1 v8 (us.length+1) (us.map Value.string++[.string u])) (hu:u.data.toList=txtP (parts y.xs)) (hy:m.ws[k+1]?=some y) :
  In33 w (w8.setCell ⟨tb,0,none⟩ v8) B mb sb tb m src (us++[u]) (k+1):=by
 have hx:=txt_grown ht hg (Nat.le_trans h.below.size hb7.size)
 have hb8:Below w.heap.size w w8:=(h.below.trans (hb7.mono h.below.size)).trans hx.1
 have hb9:Below w.heap.size w (w8.setCell ⟨tb,0,none⟩ v8):=hb8.setCell (by have:=h.tb0;simp only;omega) _
 have up:∀ {q:Nat}{cs:Array Value}{t:Nat},wr.heap[q]?=some (.cells cs t (0,0))→t≠9→q≠tb→(w8.setCell ⟨tb,0,none⟩ v8).heap[q]?=some (.cells cs t (0,0)):=fun hq h9 hn=>
  (heap_setCell_other w8 ⟨tb,0,none⟩ _ v8 hn).trans (hx.2 _ _ _ _ ((hb7.block _ (Array.getElem?_eq_some_iff.1 hq).1).trans hq) h9)
 refine ⟨hok.below hb9,hb9,up h.inb (by decide) (by have:=h.tb0;omega),up h.res (by decide) (by have:=h.tb0;omega),⟨v8,heap_setCell_same w8 tb 0 _ _ v8 k8,?_⟩,h.tb0,by simp [h.len],?_⟩
 ·have:=txt_off (u:=v8) (us:=us++[u]) (v:=v8) (by simpa [TxR] using ho) k8
  exact this
 ·have e:(opsT m.ws)[k]?=some (txtP (parts y.xs)):=by
   unfold opsT
   rw [List.getElem?_map,List.getElem?_drop,Nat.add_comm 1 k,hy];rfl
  rw [List.map_append,h.txt,List.take_add_one,e]
  simp [hu]
def R33 (w:World) (B mb sb tb n:Nat) (m:InM) (src iv:Value) (wr:World):Prop:=∃ (k:Nat) (us:List ByteArray),k≤n∧iv=.int .i64 (k:Int)∧In33 w wr B mb sb tb m src us k
def TurnOut (w w':World) (sb:Nat) (m:InM) (src:Value) (ev:Ending):Prop:=∃ v us,ev=.returned (.agg #[.pointer (some ⟨sb,0,none⟩),v,.pointer none,src,m.wv,.int .i64 m.stage,.int .i64 (ruleT m.rule).1,.int .i64 (ruleT m.rule).2.1,fnV (ruleT m.rule).2.2.1,fnV (ruleT m.rule).2.2.2])∧TxR w' w.heap.size v us∧us.map (fun u=>u.data.toList)=opsT m.ws
set_option maxHeartbeats 8000000 in
set_option maxRecDepth 10000 in
theorem turn_none (m:InM) (x:WdM) (mb sb:Nat) (cv:Option Addr) (B:Nat) (w:World) (hcv:w.cell? ⟨mb,0,none⟩=some (.pointer cv)) (h:m.Ok w B) (h0:m.ws[0]?=some x) (hst:m.stage=-1) (hpl:∀ y∈m.ws.drop 1,∀ p∈parts y.xs,p.isVar=false) (hsz:∀ y∈m.ws,szP (parts y.xs)≤1000000) :
  Calls Tryz.prog 33 #[.pointer (some ⟨mb,0,none⟩),.pointer (some ⟨sb,0,none⟩),m.val] w fun ev w'=>TurnOut w w' sb m (.pointer (if takesW x.xs=true then cv else none)) ev∧Below w.heap.size w w':=by
 obtain ⟨src,hsrc⟩:∃ src:Value,src=.pointer (if takesW x.xs=true then cv else none):=⟨_,rfl⟩
 obtain ⟨so,hso⟩:∃ so:Option Addr,so=if takesW x.xs=true then cv else none:=⟨_,rfl⟩
 have hs2:src=.pointer so:=by rw [hsrc,hso]
 have hl0:=(List.getElem?_eq_some_iff.1 h0).1
 obtain ⟨g,cap,hwv,hcap,_⟩:=row_capw h.ws.row (by omega)
 have hsh:=h.short
 obtain ⟨wv,ws,stage,rule⟩:=m
 simp only at hwv hst hl0 hcap hsh h0 hpl hsz
 subst hwv hst
 obtain ⟨n,hn⟩:∃ n,ws.length=n+1:=⟨ws.length-1,by omega⟩
 obtain ⟨m,hm⟩:∃ m:InM,m=⟨.slice (some ⟨g,0,none⟩) ws.length cap,ws,-1,rule⟩:=⟨_,rfl⟩
 have HMS:Hid (m.stage=-1∧m.ws=ws∧m.wv=.slice (some ⟨g,0,none⟩) (n+1) cap∧m.rule=rule∧m.val=.agg #[.slice (some ⟨g,0,none⟩) (n+1) cap,.int .i64 (-1),.int .i64 (ruleT rule).1,.int .i64 (ruleT rule).2.1,fnV (ruleT rule).2.2.1,fnV (ruleT rule).2.2.2]∧m.arr=#[.slice (some ⟨g,0,none⟩) (n+1) cap,.int .i64 (-1),.int .i64 (ruleT rule).1,.int .i64 (ruleT rule).2.1,fnV (ruleT rule).2.2.1,fnV (ruleT rule).2.2.2]):=hide (by rw [hm,hn];exact ⟨rfl,rfl,rfl,rfl,rfl,rfl⟩)
 rw [←hso]
 rw [←hm] at h ⊢
 rw [(uh HMS).2.2.2.2.1]
 obtain ⟨W0,hW0⟩:∃ W0,W0=w.alloc (.cells #[.slice (some ⟨g,0,none⟩) (n+1) cap,.int .i64 (-1),.int .i64 (ruleT rule).1,.int .i64 (ruleT rule).2.1,fnV (ruleT rule).2.2.1,fnV (ruleT rule).2.2.2] 76):=⟨_,rfl⟩
 obtain ⟨W1,hW1⟩:∃ W1,W1=W0.alloc (.cells #[.pointer none,.slice none 0 0,.pointer none,.pointer none,.slice none 0 0,.int .i64 0,.int .i64 0,.int .i64 0,.nilFunc,.nilFunc] 78):=⟨_,rfl⟩
 have hb0:Below w.heap.size w W0:=by rw [hW0];exact (Below.refl _ _).alloc (Nat.le_refl _) _
 have hz0:W0.heap.size=w.heap.size+1:=by rw [hW0];simp
 have hc0:W0.heap[w.heap.size]?=some (.cells m.arr 76 (0,0)):=by rw [hW0,(uh HMS).2.2.2.2.2];exact heap_alloc_new _ _
 have hb1:Below W0.heap.size W0 W1:=by rw [hW1];exact (Below.refl _ _).alloc (Nat.le_refl _) _
 have hB1:Below w.heap.size w W1:=hb0.trans (hb1.mono hb0.size)
 have hc1:W1.heap[w.heap.size]?=some (.cells m.arr 76 (0,0)):=(hb1.block w.heap.size (by omega)).trans hc0
 have hr1:W1.heap[w.heap.size+1]?=some (.cells #[.pointer none,.slice none 0 0,.pointer none,.pointer none,.slice none 0 0,.int .i64 0,.int .i64 0,.int .i64 0,.nilFunc,.nilFunc] 78 (0,0)):=by rw [hW1,←hz0];exact heap_alloc_new _ _
 have hz1:W1.heap.size=w.heap.size+2:=by rw [hW1];simp [hz0]
 have hok1:=h.below hB1
 have hS:=source_none m x mb cv B W1 (cell_later hB1 hcv) hok1 (by rw [(uh HMS).2.1];exact h0) (uh HMS).1
 rw [←hso,(uh HMS).2.2.2.2.1] at hS
 have HC:Hid (∀ W:World,W.heap[w.heap.size]?=some (.cells m.arr 76 (0,0))→W.cell? ⟨w.heap.size,0,none⟩=some (.slice (some ⟨g,0,none⟩) (n+1) cap)∧W.cell? ⟨w.heap.size,1,none⟩=some (.int .i64 (-1))∧W.cell? ⟨w.heap.size,2,none⟩=some (.int .i64 (ruleT rule).1)∧W.cell? ⟨w.heap.size,3,none⟩=some (.int .i64 (ruleT rule).2.1)∧W.cell? ⟨w.heap.size,4,none⟩=some (fnV (ruleT rule).2.2.1)∧W.cell? ⟨w.heap.size,5,none⟩=some (fnV (ruleT rule).2.2.2)):=hide (fun W hW=>by
  rw [(uh HMS).2.2.2.2.2] at hW
  exact ⟨cq 0 hW,cq 1 hW,cq 2 hW,cq 3 hW,cq 4 hW,cq 5 hW⟩)
 obtain ⟨r0,r1,r2,r3,r4,r5⟩:=uh HC W1 hc1
 have HOK1:=hide hok1
 have HOK0:=hide h
 have HC1:=hide hc1
 have HR1:=hide hr1
 have HB1:=hide hB1
 have HPL:=hide hpl
 have HSZ:=hide hsz
 have HN:=hide hn
 have HZ1:=hide hz1
 have HSO:=hide hs2
 have H0:=hide h0
 clear h hc0 hb0 hz0 hb1 hB1 hc1 hr1 hz1 hok1 hcv hpl hsz hn hl0 hsrc hso hs2 h0 hm
 go_enter Tryz.func33,Tryz.ntmps33
 go_upto_region 1 with fail
 rw [←hW0,←hW1]
 clear hW0 hW1
 go_upto_region 2 with (go_at_call 71;refine hS.mono ?_;clear hS;rintro e2 w2 ⟨rfl,hb2⟩)
 obtain ⟨W3,hW3⟩:∃ W3,W3=w2.alloc (.cells #[.slice none 0 0,.pointer none,.pointer so] 69):=⟨_,rfl⟩
 have hb3:Below w2.heap.size w2 W3:=by rw [hW3];exact (Below.refl _ _).alloc (Nat.le_refl _) _
 have hb13:Below W1.heap.size W1 W3:=hb2.trans (hb3.mono hb2.size)
 have ht3:W3.heap[w2.heap.size]?=some (.cells #[.slice none 0 0,.pointer none,.pointer so] 69 (0,0)):=by rw [hW3];exact heap_alloc_new _ _
 have up:∀ {q:Nat}{o:Obj},W1.heap[q]?=some o→W3.heap[q]?=some o:=fun hg=>(hb13.block _ (Array.getElem?_eq_some_iff.1 hg).1).trans hg
 have hI3:In33 w W3 B mb sb w2.heap.size m (.pointer so) [] 0:=⟨(uh HOK1).below hb13,(uh HB1).trans (hb13.mono (uh HB1).size),up (uh HC1),up (uh HR1),⟨_,ht3,World.ownsRow_nil _ _ _ _⟩,by have:=hb2.size;have:=uh HZ1;omega,rfl,by simp⟩
 rw [←hW3]
 obtain ⟨s0,s1,s2,s3,s4,s5⟩:=uh HC W3 hI3.inb
 have hO:=operands_none m x B W3 hI3.ok (by rw [(uh HMS).2.1];exact uh H0) (uh HMS).1
 rw [(uh HMS).2.2.2.2.1] at hO
 have HO':Hid (∀ ev,OpsOut m ev→ev=.returned (.slice (some ⟨g,2,none⟩) n (cap-1))):=hide (fun ev ⟨g',c',e1,e2⟩=>by
  rw [(uh HMS).2.2.1,(uh HMS).2.1,uh HN] at e1
  injection e1 with e3 _ e4
  injection e3 with e3
  injection e3 with e3
  subst e3 e4
  rw [e2,(uh HMS).2.1,uh HN];rfl)
 have HI3:=hide hI3
 clear hW3 hb3 hb13 ht3 up hI3 r0 r1 r2 r3 r4 r5 hb2 HC1 HR1 HOK1
 go_upto_region 5 with (go_at_call 72;refine hO.mono ?_;clear hO;rintro e4 w4 ⟨hop,hb4⟩;obtain rfl:=uh HO' _ hop;clear hop)
 have HI4:Hid (In33 w w4 B mb sb w2.heap.size m (.pointer so) [] 0):=hide ((uh HI3).below2 hb4)
 obtain ⟨tb,htb⟩:∃ tb,tb=w2.heap.size:=⟨_,rfl⟩
 rw [←htb] at HI4 ⊢
 have hn15:n≤1500:=by have:=uh HN;omega
 clear s0 s1 s2 s3 s4 s5 HI3 htb hb4
 go_loopw [29] (fun iv wr=>R33 w B mb sb tb n m (.pointer so) iv wr) (fun iv _=>n-(intOf iv).toNat)
 case atStart=>exact ⟨0,[],Nat.zero_le _,rfl,uh HI4⟩
 case round=>
  obtain ⟨k,us,hk,rfl,hI⟩:=hrel
  clear HI4
  by_cases hlt:k<n
  ·obtain ⟨y,hy⟩:∃ y,ws[k+1]?=some y:=⟨_,List.getElem?_eq_getElem (by rw [uh HN];omega)⟩
   obtain ⟨g',c',hv',z0,z1,_⟩:=wd_at hI.ok.ws (k+1) y (by rw [(uh HMS).2.1];exact hy)
   rw [(uh HMS).2.2.1] at hv'
   injection hv' with e1 _ e3
   injection e1 with e1
   injection e1 with e1
   subst e1
   rw [show (k+1)*2=2+k*2 by omega] at z0 z1
   have hyo:=hI.ok.ws.all y (List.mem_of_getElem? (by rw [(uh HMS).2.1];exact hy))
   obtain ⟨ao,ny,cy,hyv⟩:=row_form hyo
   rw [hyv] at z1
   have n0:=World.new_ne wr ⟨g,2+k*2,none⟩ z0
   obtain ⟨v,ht,hu⟩:=hI.tsk
   obtain ⟨va,vn,vc,hvv⟩:=row_form hu
   subst hvv
   have t0:wr.cell? ⟨tb,0,none⟩=some (.slice va vn vc):=cq 0 ht
   have HI:=hide hI
   have HY:=hide hy
   obtain ⟨W5,hW5⟩:∃ W5,W5=wr.alloc (.cells #[.int .i64 (y.place:Int),.slice ao ny cy] 162):=⟨_,rfl⟩
   have hb5:Below wr.heap.size wr W5:=by rw [hW5];exact (Below.refl _ _).alloc (Nat.le_refl _) _
   have hc5:W5.heap[wr.heap.size]?=some (.cells #[.int .i64 (y.place:Int),.slice ao ny cy] 162 (0,0)):=by rw [hW5];exact heap_alloc_new _ _
   have y0:W5.cell? ⟨wr.heap.size,0,none⟩=some (.int .i64 (y.place:Int)):=cq 0 hc5
   have y1:W5.cell? ⟨wr.heap.size,1,none⟩=some (.slice ao ny cy):=cq 1 hc5
   have t5:W5.cell? ⟨tb,0,none⟩=some (.slice va vn vc):=cell_later hb5 t0
   have hmf:∀ (fn:Fn) (first cap:Array Value) (w:World),(Instr.makeFunc fn first cap).run Tryz.prog w=.ok (.func fn first cap) w:=fun _ _ _ _=>rfl
   obtain ⟨i0,hi,hz0,hz1,hz2⟩:=info_parts info9z
   have hsy:=uh HSZ y (List.mem_of_getElem? hy)
   have HF:Hid (∀ W fv,Below W5.heap.size W5 W→Calls Tryz.prog 73 #[.agg #[.int .i64 (y.place:Int),.slice ao ny cy],fv] W fun ev w'=>(∃ u:ByteArray,ev=.returned (.string u)∧u.data.toList=txtP (parts y.xs))∧Below W.heap.size W w'):=hide (fun W fv hB=>by
    have:=filled_plain y fv B W ((((uh HI).ok.below hb5).below hB).ws.all y (List.mem_of_getElem? (by rw [(uh HMS).2.1];exact hy))) (((uh HI).ok.small y (List.mem_of_getElem? (by rw [(uh HMS).2.1];exact hy))).1) (by omega) (uh HPL y (by rw [List.mem_iff_getElem?];exact ⟨k,by rw [List.getElem?_drop,Nat.add_comm];exact hy⟩))
    unfold WdM.val at this
    rw [hyv] at this
    exact this)
   have HX7:Hid (∀ W,Below W5.heap.size W5 W→w.heap.size≤W.heap.size∧TxR W w.heap.size (.slice va vn vc) us∧us.length≤3000∧W.heap[tb]?=some (.cells #[.slice va vn vc,.pointer none,.pointer so] 69 (0,0))∧W.heap[wr.heap.size]?=some (.cells #[.int .i64 (y.place:Int),.slice ao ny cy] 162 (0,0))):=hide (fun W hB=>by
    have hb:Below wr.heap.size wr W:=hb5.trans (hB.mono hb5.size)
    exact ⟨Nat.le_trans (uh HI).below.size hb.size,row_same hu fun q hq=>hb.block q (World.ownsRow.lt hu q hq).2,by have:=(uh HI).len;omega,(hb.block tb (Array.getElem?_eq_some_iff.1 ht).1).trans ht,(hB.block _ (Array.getElem?_eq_some_iff.1 hc5).1).trans hc5⟩)
   have htbn:wr.heap.size≠tb:=by have:=(Array.getElem?_eq_some_iff.1 ht).1;omega
   clear hI hy hyo hyv ht hu hc5 hsy
   go_upto_region 7 with fail
   rw [←hW5]
   clear hW5 z0 z1 n0 t0
   go_region_law
    (first
      | (go_simp;go_at_call 73;refine (uh HF _ _ (by exact T.drew_b _)).mono ?_;rintro e7 w7 ⟨⟨u,rfl,hu⟩,hb7⟩;have x0:=cell_later (chain0 hb7) t5;have x1:=cell_later (chain0 hb7) y0;have x2:=cell_later (chain0 hb7) y1;have hx7:=uh HX7 w7 (chain0 hb7);have HR7:Hid ((w7.alloc (.cells #[.string u] 9)).ownsRow w.heap.size 9 1 (.slice va vn vc) us.length (us.map Value.string)):=hide (row_same hx7.2.1 fun q hq=>Below.heap_alloc _ _ q (World.ownsRow.lt hx7.2.1 q hq).2);have HX:=hide hx7;have hs7:=hx7.1;have hus:=hx7.2.2.1;have j7:(w7.alloc (.cells #[.string u] 9)).heap[wr.heap.size]?=_:=(Below.heap_alloc _ _ _ (Array.getElem?_eq_some_iff.1 hx7.2.2.2.2).1).trans hx7.2.2.2.2;have q7:(w7.alloc (.cells #[.string u] 9)).cell? ⟨tb,0,none⟩=some (.slice va vn vc):=cq 0 ((Below.heap_alloc _ _ _ (Array.getElem?_eq_some_iff.1 hx7.2.2.2.1).1).trans hx7.2.2.2.1);clear hx7)
      | (refine step_append_lies _ (by rfl) _ _ _ (by rfl) w.heap.size 9 i0 _ 1 16 Tryz.underlying27 hi hz0 hz1 hz2 rfl (by decide) (.slice va vn vc) us.length (us.map Value.string) (by rfl) (by exact uh HR7) ⟨w7.heap.size,0,none⟩ 1 1 [.string u] (by rfl) (by rfl) (by exact World.news_of_block (cs:=#[.string u]) (t:=9) (fr:=(0,0)) (heap_alloc_new _ _)) (by intro u hu;rw [List.mem_singleton] at hu;subst hu;rfl) (by omega) (by unfold maxLen;omega) (by omega) (by show w.heap.size≤(w7.alloc _).heap.size;simp;omega) (w7.heap.size+1) (by simp) ?_;intro g8 c8 w8 hown8 hgrow8 hat8 hlt8;have hx8:=txt_grown (uh HX).2.1 hgrow8 (uh HX).1;have k8:=hx8.2 _ _ _ _ (uh HX).2.2.2.1 (by decide);have j8:=hx8.2 _ _ _ _ (uh HX).2.2.2.2 (by decide);have f8:=frozen_of_row w8 tb 0 _ _ k8;have p8:w8.cell? ⟨tb,0,none⟩=some (.slice va vn vc):=cq 0 k8;have j9:=(heap_setCell_other w8 ⟨tb,0,none⟩ wr.heap.size (.slice (some ⟨g8,0,none⟩) (us.length+1) c8) htbn).trans j8))
   all_goals
    have HI9:=hide ((uh HI).step (uh HOK0) (hb5.trans (Below.mono (chain0 hb7) hb5.size)) (uh HX).2.1 hgrow8 k8 hown8 hu (by rw [(uh HMS).2.1];exact uh HY))
    clear hgrow8 hown8 hx8 k8 j8 f8 p8 j9 HX HR7 x0 x1 x2 hb7 HF HX7 hat8
    go_wp2
    go_roundw
    case rel=>
     exact ⟨k+1,_,hlt,by go_num,uh HI9⟩
    case measure=>simp [intOf];omega
  ·have hkn:k=n:=by omega
   subst hkn
   obtain ⟨v,ht,hu⟩:=hI.tsk
   obtain ⟨va,vn,vc,hvv⟩:=row_form hu
   subst hvv
   obtain ⟨s0,s1,s2,s3,s4,s5⟩:=uh HC wr hI.inb
   have t0:wr.cell? ⟨tb,0,none⟩=some (.slice va vn vc):=cq 0 ht
   have t1:wr.cell? ⟨tb,1,none⟩=some (.pointer none):=cq 1 ht
   have t2:wr.cell? ⟨tb,2,none⟩=some (.pointer so):=cq 2 ht
   have HU:=hide hu
   have hr:=hI.res
   unfold res0 at hr
   have f:∀ i,wr.frozen? ⟨w.heap.size+1,i,none⟩=false:=fun i=>by simp [World.frozen?,hr]
   have r0:wr.cell? ⟨w.heap.size+1,0,none⟩=_:=cq 0 hr
   have r1:wr.cell? ⟨w.heap.size+1,1,none⟩=_:=cq 1 hr
   have r2:wr.cell? ⟨w.heap.size+1,2,none⟩=_:=cq 2 hr
   have r3:wr.cell? ⟨w.heap.size+1,3,none⟩=_:=cq 3 hr
   have r4:wr.cell? ⟨w.heap.size+1,4,none⟩=_:=cq 4 hr
   have r5:wr.cell? ⟨w.heap.size+1,5,none⟩=_:=cq 5 hr
   have r6:wr.cell? ⟨w.heap.size+1,6,none⟩=_:=cq 6 hr
   have r7:wr.cell? ⟨w.heap.size+1,7,none⟩=_:=cq 7 hr
   have r8:wr.cell? ⟨w.heap.size+1,8,none⟩=_:=cq 8 hr
   have r9:wr.cell? ⟨w.heap.size+1,9,none⟩=_:=cq 9 hr
   simp only [List.getElem?_toArray,List.getElem?_cons_zero,List.getElem?_cons_succ] at r0 r1 r2 r3 r4 r5 r6 r7 r8 r9
   have f0:=f 0
   have f1:=f 1
   have f2:=f 2
   have f3:=f 3
   have f4:=f 4
   have f5:=f 5
   have f6:=f 6
   have f7:=f 7
   have f8:=f 8
   have f9:=f 9
   have HI:=hide hI
   have HR:=hide hr
   clear hI ht hu f hr
   go_wp2_with fail
   obtain ⟨W9,hW9⟩:∃ W9,W9=((((((((((wr.setCell ⟨w.heap.size+1,0,none⟩ (.pointer (some ⟨sb,0,none⟩))).setCell ⟨w.heap.size+1,1,none⟩ (.slice va vn vc)).setCell ⟨w.heap.size+1,2,none⟩ (.pointer none)).setCell ⟨w.heap.size+1,3,none⟩ (.pointer so)).setCell ⟨w.heap.size+1,4,none⟩ (.slice (some ⟨g,0,none⟩) (k+1) cap)).setCell ⟨w.heap.size+1,5,none⟩ (.int .i64 (-1))).setCell ⟨w.heap.size+1,6,none⟩ (.int .i64 (ruleT rule).1)).setCell ⟨w.heap.size+1,7,none⟩ (.int .i64 (ruleT rule).2.1)).setCell ⟨w.heap.size+1,8,none⟩ (fnV (ruleT rule).2.2.1)).setCell ⟨w.heap.size+1,9,none⟩ (fnV (ruleT rule).2.2.2)):=⟨_,rfl⟩
   rw [←hW9]
   have hr9:W9.heap[w.heap.size+1]?=some (.cells #[.pointer (some ⟨sb,0,none⟩),.slice va vn vc,.pointer none,.pointer so,.slice (some ⟨g,0,none⟩) (k+1) cap,.int .i64 (-1),.int .i64 (ruleT rule).1,.int .i64 (ruleT rule).2.1,fnV (ruleT rule).2.2.1,fnV (ruleT rule).2.2.2] 78 (0,0)):=by rw [hW9];exact set10 _ _ _ _ _ _ _ _ _ _ (uh HR)
   have hb9:Below w.heap.size w W9:=by rw [hW9];exact below_set10 _ _ _ _ _ _ _ _ _ _ (uh HI).below (Nat.le_succ _)
   have hT9:TxR W9 w.heap.size (.slice va vn vc) us:=by
    refine row_same (uh HU) fun q hq=>?_
    have hq9:q≠w.heap.size+1:=fun e=>by
     subst e
     rcases (uh HU).2 with ⟨e',_⟩ | ⟨g',cap',cur,e',_,hg',_⟩
     ·rw [e'] at hq;cases hq
     ·rw [e'] at hq
      have:g'=w.heap.size+1:=by simpa [Value.ownBlock] using hq
      subst this
      have hh:=(uh HR).symm.trans hg'
      injection hh with hh
      injection hh with _ hh _
      cases hh
    rw [hW9]
    rw [heap_setCell_other _ ⟨w.heap.size+1,9,none⟩ q _ hq9,heap_setCell_other _ ⟨w.heap.size+1,8,none⟩ q _ hq9,heap_setCell_other _ ⟨w.heap.size+1,7,none⟩ q _ hq9,heap_setCell_other _ ⟨w.heap.size+1,6,none⟩ q _ hq9,heap_setCell_other _ ⟨w.heap.size+1,5,none⟩ q _ hq9,heap_setCell_other _ ⟨w.heap.size+1,4,none⟩ q _ hq9,heap_setCell_other _ ⟨w.heap.size+1,3,none⟩ q _ hq9,heap_setCell_other _ ⟨w.heap.size+1,2,none⟩ q _ hq9,heap_setCell_other _ ⟨w.heap.size+1,1,none⟩ q _ hq9,heap_setCell_other _ ⟨w.heap.size+1,0,none⟩ q _ hq9]
   have d0:W9.cell? ⟨w.heap.size+1,0,none⟩=some (.pointer (some ⟨sb,0,none⟩)):=cq 0 hr9
   have d1:W9.cell? ⟨w.heap.size+1,1,none⟩=some (.slice va vn vc):=cq 1 hr9
   have d2:W9.cell? ⟨w.heap.size+1,2,none⟩=some (.pointer none):=cq 2 hr9
   have d3:W9.cell? ⟨w.heap.size+1,3,none⟩=some (.pointer so):=cq 3 hr9
   have d4:W9.cell? ⟨w.heap.size+1,4,none⟩=some (.slice (some ⟨g,0,none⟩) (k+1) cap):=cq 4 hr9
   have d5:W9.cell? ⟨w.heap.size+1,5,none⟩=some (.int .i64 (-1)):=cq 5 hr9
   have d6:W9.cell? ⟨w.heap.size+1,6,none⟩=some (.int .i64 (ruleT rule).1):=cq 6 hr9
   have d7:W9.cell? ⟨w.heap.size+1,7,none⟩=some (.int .i64 (ruleT rule).2.1):=cq 7 hr9
   have d8:W9.cell? ⟨w.heap.size+1,8,none⟩=some (fnV (ruleT rule).2.2.1):=cq 8 hr9
   have d9:W9.cell? ⟨w.heap.size+1,9,none⟩=some (fnV (ruleT rule).2.2.2):=cq 9 hr9
   refine bodyPost_ret (v:=.agg #[.pointer (some ⟨sb,0,none⟩),.slice va vn vc,.pointer none,.pointer so,.slice (some ⟨g,0,none⟩) (k+1) cap,.int .i64 (-1),.int .i64 (ruleT rule).1,.int .i64 (ruleT rule).2.1,fnV (ruleT rule).2.2.1,fnV (ruleT rule).2.2.2]) (by simp [results,Tryz.results33,go_sem,d0,d1,d2,d3,d4,d5,d6,d7,d8,d9]) rfl ⟨⟨_,us,?_,hT9,?_⟩,hb9⟩
   ·rw [(uh HMS).2.2.1,(uh HMS).1,(uh HMS).2.2.2.1]
   ·have e:=(uh HI).txt
    rw [e,List.take_of_length_le]
    unfold opsT
    rw [(uh HMS).2.1,List.length_map,List.length_drop,uh HN]
    omega
end Go.Proofs.YtehfpjcclknipaaGreatDoor
namespace Go.Proofs.YtehfpjcclknipaaGreatDoor.T
open Go.RowKit Go.Maps
theorem er_some (v:Value) (w:World):(binOp BinOp.neq 47 (.iface 22 v) .nilIface).run Tryz.prog w=.ok (.bool true) w:=by kernel_rfl
theorem er_nil (w:World):(binOp BinOp.neq 47 .nilIface .nilIface).run Tryz.prog w=.ok (.bool false) w:=by kernel_rfl
theorem stA_lim {w w':World}{B:Nat}{m:Int}(hm:w.cell? ⟨14,0,none⟩=some (.int .i64 m)) (hl:14<B) (hb:Below B w w'):w'.cell? ⟨14,0,none⟩=some (.int .i64 m):=(hb.cell (p:=⟨14,0,none⟩) hl).trans hm
set_option maxHeartbeats 2000000 in
set_option maxRecDepth 10000 in
theorem layInMade_any (sb:Nat) (r:Nd) (ns:List Nd) (work:ByteArray) (ev:Value) (e:Ent) (B:Nat) (m:Int) (w:World) (h:StA w B sb r ns work ev) (hn:ns.length≤900) (hp:e.path.size≤1048576) (HG:Hid (goodE e=true)) (HP:Hid (e.path.data.toList≠[])) (hm:w.cell? ⟨14,0,none⟩=some (.int .i64 m)) :
  Calls Tryz.prog 259 #[.pointer (some ⟨sb,0,none⟩),.agg #[.string e.path,.int .i64 e.kind,.int .i64 e.mode,.string e.data]] w fun v w'=>TrOut w w' B sb r ns work ev 13 v (layMadeG (entsN ns) e)∧Below B w w'∧KeepX w w':=by
 obtain ⟨W0,hW0⟩:∃ W0,W0=w.alloc (.cells #[.string e.path,.int .i64 e.kind,.int .i64 e.mode,.string e.data] 38):=⟨_,rfl⟩
 have hb0:Below w.heap.size w W0:=by rw [hW0];exact (Below.refl _ _).alloc (Nat.le_refl _) _
 have hc0:W0.heap[w.heap.size]?=some (.cells #[.string e.path,.int .i64 e.kind,.int .i64 e.mode,.string e.data] 38 (0,0)):=by rw [hW0];exact heap_alloc_new _ _
 have hst0:=h.below hb0
 have hm0:=cell_later hb0 hm
 have hBw:=h.base
 have hlim:=h.lim
 have q0:W0.cell? ⟨w.heap.size,0,none⟩=some (.string e.path):=cq 0 hc0
 have HST:=hide hst0
 have HM:=hide hm0
 have HC:=hide hc0
 have HB0:=hide hb0
 have hes:=er_some
 have hen:=er_nil
 clear h hm hst0 hm0 hc0 hb0
 go_enter Tryz.func259,Tryz.ntmps259
 go_upto_region 1 with fail
 rw [←hW0]
 clear hW0
 go_upto_region 2 with (go_at_call 86;refine (last_any e.path _ (by omega)).mono ?_;rintro v1 w1 ⟨dd,nn,rfl,HD,_,hb1⟩)
 have hb01:Below w.heap.size w w1:=(uh HB0).trans (hb1.mono (uh HB0).size)
 have hst1:=(uh HST).below hb1
 have hc1:w1.heap[w.heap.size]?=some (.cells #[.string e.path,.int .i64 e.kind,.int .i64 e.mode,.string e.data] 38 (0,0)):=(hb1.block w.heap.size (Array.getElem?_eq_some_iff.1 (uh HC)).1).trans (uh HC)
 have hdd:dd.size≤1048576:=by rw [Lib.size_eq,uh HD];exact Nat.le_trans (dir_le _) (by rw [←Lib.size_eq];exact hp)
 have hMk:=makeDir_any sb r ns work dd ev B m w1 hst1 hn hdd (cell_later hb1 (uh HM))
 have HM1:=hide (cell_later hb1 (uh HM))
 have HC1:=hide hc1
 have HST1:=hide hst1
 have hB1:B≤w1.heap.size:=hst1.base
 rw [uh HD] at hMk
 clear hb1 HST HM HC HB0 q0 hst1 hc1
 cases hg:mkDirG (entsN ns) (dirOf e.path.data.toList) with
 | error k=>
   have HR:Hid (layMadeG (entsN ns) e=.error k):=hide (by unfold layMadeG;rw [hg])
   rw [hg] at hMk
   unfold TrOut at hMk
   clear hg
   go_wp2_with (go_at_call 262;refine hMk.mono ?_;clear hMk;rintro v2 w2 ⟨rfl,hb2,hx2⟩)
   go_ret
   rw [uh HR]
   exact ⟨rfl,(hb01.mono hBw).trans hb2,(keepX_below hb01).trans hx2⟩
 | ok t=>
   have HR:Hid (layMadeG (entsN ns) e=layG t e):=hide (by unfold layMadeG;rw [hg])
   rw [hg] at hMk
   unfold TrOut at hMk
   clear hg
   go_upto_region 5 with (go_at_call 262;refine hMk.mono ?_;clear hMk;rintro v2 w2 ⟨⟨rfl,ns',hst2,he2,hs2,hl2⟩,hb2,hx2⟩)
   have hc2:=foot_cells (uh HST1).mem hs2.foot (uh HC1) (by decide)
   have hL:=lay_any sb r ns' work ev e B m w2 hst2 (by omega) hp HG HP (stA_lim (uh HM1) hlim hb2)
   have y0:w2.cell? ⟨w.heap.size,0,none⟩=some (.string e.path):=cq 0 hc2
   have y1:w2.cell? ⟨w.heap.size,1,none⟩=some (.int .i64 e.kind):=cq 1 hc2
   have y2:w2.cell? ⟨w.heap.size,2,none⟩=some (.int .i64 e.mode):=cq 2 hc2
   have y3:w2.cell? ⟨w.heap.size,3,none⟩=some (.string e.data):=cq 3 hc2
   have hw2:Below B w w2:=(hb01.mono hBw).trans hb2
   have HS2:Hid (Stp2 w w2 B r ns ns'):=hide ((Stp2.of_below hb01 hBw).trans hs2)
   rw [he2] at hL
   cases hg:layG t e with
   | error k=>
     rw [hg] at hL
     unfold TrOut at hL
     rw [hg] at HR
     clear hg hst2 he2 hs2 hc2
     go_wp2_with (go_at_call 265;refine hL.mono ?_;clear hL;rintro v3 w3 ⟨rfl,hb3,hx3⟩)
     go_ret
     rw [uh HR]
     exact ⟨rfl,hw2.trans hb3,((keepX_below hb01).trans hx2).trans hx3⟩
   | ok t2=>
     rw [hg] at hL
     unfold TrOut at hL
     rw [hg] at HR
     clear hg hst2 he2 hs2 hc2
     go_wp2_with (go_at_call 265;refine hL.mono ?_;clear hL;rintro v3 w3 ⟨⟨rfl,ns3,hst3,he3,hs3,hl3⟩,hb3,hx3⟩)
     go_ret
     rw [uh HR]
     exact ⟨⟨rfl,ns3,hst3,he3,(uh HS2).trans hs3,by omega⟩,hw2.trans hb3,((keepX_below hb01).trans hx2).trans hx3⟩
structure Wrds (w:World) (ao:Option Addr) (n cap:Nat) (ps:List ByteArray):Prop where
 row:∃ B,Own w B (.slice ao n cap) ps
 len:n=ps.length
 small:∀ p∈ps,p.size≤1048576
theorem Wrds.at {w:World}{ao:Option Addr}{n cap:Nat}{ps:List ByteArray}(h:Wrds w ao n cap ps) {k:Nat}{y:ByteArray}(hk:ps[k]?=some y):∃ g,ao=some ⟨g,0,none⟩∧w.cell? ⟨g,k,none⟩=some (.string y)∧k<n∧y.size≤1048576:=by
 obtain ⟨B,hO⟩:=h.row
 obtain ⟨g,cp,hv⟩:=own_form hO (fun e=>by rw [e] at hk;simp at hk)
 injection hv with e1 e2 e3
 subst e1 e3
 rw [e2] at hO
 exact ⟨g,rfl,own_cell hO hk,by rw [e2];exact (List.getElem?_eq_some_iff.1 hk).1,h.small y (List.mem_of_getElem? hk)⟩
theorem Wrds.below {w w':World}{ao:Option Addr}{n cap:Nat}{ps:List ByteArray}(h:Wrds w ao n cap ps) (hb:Below w.heap.size w w'):Wrds w' ao n cap ps:=by
 obtain ⟨B,hO⟩:=h.row
 refine ⟨⟨B,hO.1,?_⟩,h.len,h.small⟩
 rcases hO.2 with h2 | ⟨g,c,cur,e,h3,hg,h4⟩
 ·exact .inl h2
 ·exact .inr ⟨g,c,cur,e,h3,(hb.block g (Array.getElem?_eq_some_iff.1 hg).1).trans hg,h4⟩
def endsG (src:List Ent) (work a b:List UInt8):Except Nat (List UInt8 × List UInt8):=match R.resP [] a with
 | none=>.error 1
 | some p=>match R.resP work b with
   | none=>.error 1
   | some d=>if p=[] then .ok (p,d) else match atE src p with
     | none=>.error 8
     | some _=>.ok (p,d)
def EndsOut (rs:Nd) (nss:List Nd) (e:Ending) (x:Except Nat (List UInt8 × List UInt8)):Prop:=match x with
 | .error k=>e=.returned (.tuple #[.pointer none,.string ⟨#[]⟩,.iface 22 (.int .i64 (k:Int))])
 | .ok (p,d)=>∃ y∈rs :: nss,y.p=p∧e=.returned (.tuple #[.pointer (some ⟨y.nb,0,none⟩),.string (bs d),.nilIface])
theorem bs_nil:bs []=⟨#[]⟩:=rfl
theorem res_le {work t p:List UInt8}(h:R.resP work t=some p):p.length≤170:=by
 unfold R.resP at h
 split at h
 ·unfold R.fin at h
  split at h
  ·cases h
  ·split at h
   ·rename_i hp
    injection h with h
    subst h
    exact (isP_parts hp).1
   ·cases h
 ·cases h
set_option maxHeartbeats 4000000 in
set_option maxRecDepth 10000 in
theorem ends_any (sb:Nat) (work a b:ByteArray) (ao:Option Addr) (n cap:Nat) (ps:List ByteArray) (stv:Option Addr) (rs:Nd) (nss:List Nd) (Bs:Nat) (m:Int) (w:World) (hc:w.cell? ⟨sb,1,none⟩=some (.string work)) (hws:work.size≤1048576) (hW:Wrds w ao n cap ps) (ha:ps[0]?=some a) (hb:ps[1]?=some b)
  (hS:Mem w Bs rs nss) (HT:Hid (TreeS (entsN nss))) (hm:w.cell? ⟨14,0,none⟩=some (.int .i64 m)) :
  Calls Tryz.prog 256 #[.pointer (some ⟨sb,0,none⟩),.agg #[.slice ao n cap,.pointer stv,.pointer (some ⟨rs.nb,0,none⟩)]] w fun e w'=>EndsOut rs nss e (endsG (entsN nss) work.data.toList a.data.toList b.data.toList)∧Below w.heap.size w w':=by
 obtain ⟨g,rfl,ca,hn0,hal⟩:=hW.at ha
 obtain ⟨g',e1,cb,hn1,hbl⟩:=hW.at hb
 injection e1 with e1
 injection e1 with e1
 subst e1
 obtain ⟨W0,hW0⟩:∃ W0,W0=w.alloc (.cells #[.slice (some ⟨g,0,none⟩) n cap,.pointer stv,.pointer (some ⟨rs.nb,0,none⟩)] 69):=⟨_,rfl⟩
 have hb0:Below w.heap.size w W0:=by rw [hW0];exact (Below.refl _ _).alloc (Nat.le_refl _) _
 have hc0:W0.heap[w.heap.size]?=some (.cells #[.slice (some ⟨g,0,none⟩) n cap,.pointer stv,.pointer (some ⟨rs.nb,0,none⟩)] 69 (0,0)):=by rw [hW0];exact heap_alloc_new _ _
 have t0:W0.cell? ⟨w.heap.size,0,none⟩=some (.slice (some ⟨g,0,none⟩) n cap):=cq 0 hc0
 have a0:=cell_later hb0 ca
 have hR1:=resolve_any ⟨#[]⟩ a m W0 (by decide) (by omega) (cell_later hb0 hm)
 rw [show (⟨#[]⟩:ByteArray).data.toList=[] from rfl] at hR1
 have HK:Hid (∀ W,Below W0.heap.size W0 W→W.cell? ⟨w.heap.size,0,none⟩=some (.slice (some ⟨g,0,none⟩) n cap)∧W.cell? ⟨w.heap.size,2,none⟩=some (.pointer (some ⟨rs.nb,0,none⟩))∧W.cell? ⟨g,1,none⟩=some (.string b)∧W.cell? ⟨sb,1,none⟩=some (.string work)∧W.cell? ⟨14,0,none⟩=some (.int .i64 m)∧Mem W Bs rs nss):=hide (fun W hB=>⟨cell_later hB (cq 0 hc0),cell_later hB (cq 2 hc0),cell_later hB (cell_later hb0 cb),cell_later hB (cell_later hb0 hc),cell_later hB (cell_later hb0 hm),(hS.below hb0).below hB⟩)
 have hes:=er_some
 have hen:=er_nil
 have i1:(1:Int)<(n:Int):=by omega
 have i0:(0:Int)<(n:Int):=by omega
 clear hc0 ca cb hc hS hm hW ha hb hn0 hn1
 cases hr1:R.resP [] a.data.toList with
 | none=>
   have HR:Hid (endsG (entsN nss) work.data.toList a.data.toList b.data.toList=.error 1):=hide (by unfold endsG;rw [hr1])
   rw [hr1] at hR1
   simp only [Option.getD_none,R.errV,bs_nil] at hR1
   clear hr1
   go_enter Tryz.func256,Tryz.ntmps256
   go_upto_region 1 with fail
   rw [←hW0]
   clear hW0
   go_wp2_with (go_at_call 281;refine hR1.mono ?_;clear hR1;rintro e1 w1 ⟨rfl,hb1⟩)
   go_ret3
   rw [uh HR]
   exact ⟨rfl,hb0.trans (hb1.mono hb0.size)⟩
 | some p=>
   rw [hr1] at hR1
   simp only [Option.getD_some,R.errV] at hR1
   obtain ⟨pb,hpb⟩:∃ pb,pb=bs p:=⟨_,rfl⟩
   rw [←hpb] at hR1
   have HPB:Hid (pb.data.toList=p):=hide (by rw [hpb,bs_list])
   have hpl:pb.size≤170:=by rw [Lib.size_eq,uh HPB];exact res_le hr1
   have HR1:=hide hr1
   clear hr1 hpb
   go_enter Tryz.func256,Tryz.ntmps256
   go_upto_region 1 with fail
   rw [←hW0]
   clear hW0
   go_upto_region 4 with (go_at_call 281;refine hR1.mono ?_;clear hR1;rintro e1 w1 ⟨rfl,hb1⟩)
   obtain ⟨k0,k2,kb,kw,km,kM⟩:=uh HK w1 hb1
   have hR2:=sResolve_any sb work b m w1 kw (by omega) (by omega) km
   have hB1:Below w.heap.size w w1:=hb0.trans (hb1.mono hb0.size)
   clear t0 a0
   cases hr2:R.resP work.data.toList b.data.toList with
   | none=>
     have HR:Hid (endsG (entsN nss) work.data.toList a.data.toList b.data.toList=.error 1):=hide (by unfold endsG;rw [uh HR1];simp only;rw [hr2])
     rw [hr2] at hR2
     simp only [Option.getD_none,R.errV,bs_nil] at hR2
     clear hr2
     go_wp2_with (go_at_call 263;refine hR2.mono ?_;clear hR2;rintro e2 w2 ⟨rfl,hb2⟩)
     go_ret3
     rw [uh HR]
     exact ⟨rfl,hB1.trans (hb2.mono hB1.size)⟩
   | some d=>
     rw [hr2] at hR2
     simp only [Option.getD_some,R.errV] at hR2
     obtain ⟨db,hdb⟩:∃ db,db=bs d:=⟨_,rfl⟩
     rw [←hdb] at hR2
     have HDB:=hide hdb
     have HE:Hid (endsG (entsN nss) work.data.toList a.data.toList b.data.toList=if p=[] then .ok (p,d) else match atE (entsN nss) p with | none=>.error 8 | some _=>.ok (p,d)):=hide (by unfold endsG;rw [uh HR1];simp only;rw [hr2])
     clear hr2 hdb
     go_upto_region 7 with (go_at_call 263;refine hR2.mono ?_;clear hR2;rintro e2 w2 ⟨rfl,hb2⟩)
     obtain ⟨l0,l2,_,_,lm,lM⟩:=uh HK w2 (hb1.trans (hb2.mono hb1.size))
     have hB2:Below w.heap.size w w2:=hB1.trans (hb2.mono hB1.size)
     have HO:Hid (OkTo (entsN nss) nss.length):=hide (by have:=(uh HT).ok;rwa [show (entsN nss).length=nss.length from by simp [entsN]] at this)
     have hF:=find_any rs nss Bs pb m w2 lM HO (by omega) lm
     have HLM:=hide lM
     clear k0 k2 kb kw km kM lm lM
     go_upto_region 8 with (go_at_call 47;refine hF.mono ?_;clear hF;rintro e3 w3 ⟨v,rfl,HF,hb3⟩)
     have hB3:Below w.heap.size w w3:=hB2.trans (hb3.mono hB2.size)
     have hF2:=uh HF
     rw [uh HPB] at hF2
     by_cases hp0:p=[]
     ·have HR:Hid (endsG (entsN nss) work.data.toList a.data.toList b.data.toList=.ok (p,d)):=hide (by rw [uh HE,if_pos hp0])
      have hroot:=(uh HLM).root
      rcases hF2 with ⟨_,hno⟩ | ⟨y,hy,rfl,hyp⟩
      ·exact absurd (by rw [Nd.p,hroot,hp0];rfl) (hno rs (by simp))
      ·have HY:=hide hy
       have HYP:=hide hyp
       clear HF hy hyp hroot hp0 l0 l2
       go_wp2_with fail
       go_ret3
       rw [uh HR]
       exact ⟨⟨y,uh HY,uh HYP,(by obtain rfl:=uh HDB;rfl)⟩,hB3⟩
     ·rcases find_atE (uh HT) (uh HLM).root hp0 hF2 with ⟨rfl,hat⟩ | ⟨y,hy,rfl,hyp,hat⟩
      ·have HR:Hid (endsG (entsN nss) work.data.toList a.data.toList b.data.toList=.error 8):=hide (by rw [uh HE,if_neg hp0,hat])
       clear HF hF2 hat hp0 l0 l2
       go_wp2_with fail
       go_ret3
       rw [uh HR]
       exact ⟨rfl,hB3⟩
      ·have HR:Hid (endsG (entsN nss) work.data.toList a.data.toList b.data.toList=.ok (p,d)):=hide (by rw [uh HE,if_neg hp0,hat])
       have HY:=hide hy
       have HYP:=hide hyp
       clear HF hF2 hat hp0 l0 l2 hy hyp
       go_wp2_with fail
       go_ret3
       rw [uh HR]
       exact ⟨⟨y,List.mem_cons_of_mem _ (uh HY),uh HYP,(by obtain rfl:=uh HDB;rfl)⟩,hB3⟩
end Go.Proofs.YtehfpjcclknipaaGreatDoor.T
