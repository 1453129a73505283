import Derived.Test.YtehfpjcclknipaaGreatDoorJTDifP
import Derived.Test.YtehfpjcclknipaaGreatDoorJTPlaina
import Derived.Deep.RegionHeld3
import Derived.Test.YtehfpjcclknipaaGreatDoorJPlain
import Derived.Test.YtehfpjcclknipaaGreatDoorTPatO
namespace Go.Proofs.YtehfpjcclknipaaGreatDoor.T
open Go.RowKit
def chOk (c:Ent):Bool:=if c.kind=4∨c.kind=5 then !(decide (c.kind=4)&&c.path.data.toList==[])&&isP c.path.data.toList&&decide (c.mode=0)&&c.data.data.toList==[] else entOk c
def flw (d c:Ent):Bool:=if d.path.data.toList=c.path.data.toList then decide (d.kind=1)&&decide (c.kind=5) else ltP d.path.data.toList c.path.data.toList&&(decide (d.kind=1∨d.kind=5) || !Lib.hasPrefix c.path.data.toList (d.path.data.toList++[47]))
def okCh (cs:List Ent) (i:Nat):Bool:=match cs[i]? with
 | none=>false
 | some c=>decide (i<80)&&chOk c&&(decide (i=0) || match cs[i-1]? with
   | none=>false
   | some d=>flw d c)
def FirstBadC (cs:List Ent) (r:Int):Prop:=(r=-1∧∀ i,i<cs.length→okCh cs i=true)∨∃ i:Nat,r=i∧i<cs.length∧okCh cs i=false∧∀ j,j<i→okCh cs j=true
theorem firstBadC_one {cs:List Ent}{r s:Int}(h1:FirstBadC cs r) (h2:FirstBadC cs s):r=s:=by
 rcases h1 with ⟨rfl,a1⟩ | ⟨i,rfl,a1,a2,a3⟩ <;> rcases h2 with ⟨rfl,b1⟩ | ⟨j,rfl,b1,b2,b3⟩
 ·rfl
 ·rw [a1 j b1] at b2;cases b2
 ·rw [b1 i a1] at a2;cases a2
 ·rcases Nat.lt_trichotomy i j with h | h | h
  ·rw [b3 i h] at a2;cases a2
  ·rw [h]
  ·rw [a3 j h] at b2;cases b2
theorem okCh_eq {cs:List Ent}{i:Nat}{c:Ent}(h:cs[i]?=some c):okCh cs i=(decide (i<80)&&chOk c&&(decide (i=0) || match cs[i-1]? with
  | none=>false
  | some d=>flw d c)):=by unfold okCh;rw [h]
theorem beq_nil {l:List UInt8}(h:l≠[]):(l==[])=false:=by
 cases l with
 | nil=>exact absurd rfl h
 | cons _ _=>rfl
theorem isMark_any (c:Ent) (w:World):Calls Tryz.prog 97 #[.agg #[.string c.path,.int .i64 c.kind,.int .i64 c.mode,.string c.data]] w fun ev w'=>ev=.returned (.bool (decide (c.kind=4∨c.kind=5)))∧Below w.heap.size w w':=by
 by_cases h4:c.kind=4
 ·have C:Hid (decide (c.kind=4∨c.kind=5)=true):=hide (by simp [h4])
  go_enter Tryz.func97,Tryz.ntmps97
  go_wp2
  go_ret
  exact ⟨ret_bool (uh C).symm,(Below.refl _ _).alloc (Nat.le_refl _) _⟩
 ·by_cases h5:c.kind=5
  ·have C:Hid (decide (c.kind=4∨c.kind=5)=true):=hide (by simp [h5])
   have h4':(c.kind==4)=false:=by simp [h4]
   go_enter Tryz.func97,Tryz.ntmps97
   go_wp2
   go_ret
   exact ⟨ret_bool (uh C).symm,(Below.refl _ _).alloc (Nat.le_refl _) _⟩
  ·have C:Hid (decide (c.kind=4∨c.kind=5)=false):=hide (by simp [h4,h5])
   have h4':(c.kind==4)=false:=by simp [h4]
   have h5':(c.kind==5)=false:=by simp [h5]
   go_enter Tryz.func97,Tryz.ntmps97
   go_wp2
   go_ret
   exact ⟨ret_bool (uh C).symm,(Below.refl _ _).alloc (Nat.le_refl _) _⟩
theorem mayHold_any (c:Ent) (w:World):Calls Tryz.prog 130 #[.agg #[.string c.path,.int .i64 c.kind,.int .i64 c.mode,.string c.data]] w fun ev w'=>ev=.returned (.bool (decide (c.kind=1∨c.kind=5)))∧Below w.heap.size w w':=by
 by_cases h4:c.kind=1
 ·have C:Hid (decide (c.kind=1∨c.kind=5)=true):=hide (by simp [h4])
  go_enter Tryz.func130,Tryz.ntmps130
  go_wp2
  go_ret
  exact ⟨ret_bool (uh C).symm,(Below.refl _ _).alloc (Nat.le_refl _) _⟩
 ·by_cases h5:c.kind=5
  ·have C:Hid (decide (c.kind=1∨c.kind=5)=true):=hide (by simp [h5])
   have h4':(c.kind==1)=false:=by simp [h4]
   go_enter Tryz.func130,Tryz.ntmps130
   go_wp2
   go_ret
   exact ⟨ret_bool (uh C).symm,(Below.refl _ _).alloc (Nat.le_refl _) _⟩
  ·have C:Hid (decide (c.kind=1∨c.kind=5)=false):=hide (by simp [h4,h5])
   have h4':(c.kind==1)=false:=by simp [h4]
   have h5':(c.kind==5)=false:=by simp [h5]
   go_enter Tryz.func130,Tryz.ntmps130
   go_wp2
   go_ret
   exact ⟨ret_bool (uh C).symm,(Below.refl _ _).alloc (Nat.le_refl _) _⟩
theorem isBelow_any (s t:ByteArray) (w:World) (ht:t.size≤1073741824):Calls Tryz.prog 131 #[.string s,.string t] w fun ev w'=>ev=.returned (.bool (Lib.hasPrefix s.data.toList (t.data.toList++[47])))∧w'=w:=by
 have hP:=hasPrefix_any s (t++⟨#[47]⟩) w
 have e:(t++⟨#[47]⟩:ByteArray).data.toList=t.data.toList++[47]:=by rw [data_append]
 rw [e] at hP
 have n1:¬ 9223372036854775807<t.size+1:=by omega
 clear e
 go_enter Tryz.func131,Tryz.ntmps131
 go_wp2_with (go_at_call 140;refine hP.mono ?_;clear hP;rintro ev w1 ⟨rfl,hw⟩;obtain rfl:=hw.symm)
 go_ret
 exact ⟨rfl,rfl⟩
set_option maxHeartbeats 1000000 in
theorem isChange_any (c:Ent) (m:Int) (w:World) (hm:w.cell? ⟨14,0,none⟩=some (.int .i64 m)):Calls Tryz.prog 129 #[.agg #[.string c.path,.int .i64 c.kind,.int .i64 c.mode,.string c.data]] w fun ev w'=>ev=.returned (.bool (chOk c))∧Below w.heap.size w w':=by
 obtain ⟨W0,hW0⟩:∃ W0,W0=w.alloc (.cells #[.string c.path,.int .i64 c.kind,.int .i64 c.mode,.string c.data] 41):=⟨_,rfl⟩
 have hb0:Below w.heap.size w W0:=by rw [hW0];exact (Below.refl _ _).alloc (Nat.le_refl _) _
 have hq0:W0.heap[w.heap.size]?=some (.cells #[.string c.path,.int .i64 c.kind,.int .i64 c.mode,.string c.data] 41 (0,0)):=by rw [hW0];exact heap_alloc_new _ _
 have hMk:=isMark_any c W0
 have HW0:=hide hW0
 have HQ:=hide hq0
 have HM:=hide hm
 clear hW0 hm
 by_cases hk:c.kind=4∨c.kind=5
 ·rw [decide_eq_true hk] at hMk
  have HC:Hid (chOk c=(!(decide (c.kind=4)&&c.path.data.toList==[])&&isP c.path.data.toList&&decide (c.mode=0)&&c.data.data.toList==[])):=hide (by rw [chOk,if_pos hk])
  clear hk hq0
  go_enter Tryz.func129,Tryz.ntmps129
  go_upto_region 3 with (go_at_call 97;rw [←uh HW0];refine hMk.mono ?_;clear hMk;rintro ev w1 ⟨rfl,hb1⟩)
  have hB1:Below w.heap.size w w1:=hb0.trans (hb1.mono hb0.size)
  have hq1:=(hb1.block w.heap.size (Array.getElem?_eq_some_iff.1 (uh HQ)).1).trans (uh HQ)
  have q0:w1.cell? ⟨w.heap.size,0,none⟩=some (.string c.path):=cq 0 hq1
  have q1:w1.cell? ⟨w.heap.size,1,none⟩=some (.int .i64 c.kind):=cq 1 hq1
  have q2:w1.cell? ⟨w.heap.size,2,none⟩=some (.int .i64 c.mode):=cq 2 hq1
  have q3:w1.cell? ⟨w.heap.size,3,none⟩=some (.string c.data):=cq 3 hq1
  have HQ1:=hide hq1
  have hIs:=is_any c.path m w1 (cell_later hB1 (uh HM))
  clear hq1 hb1
  by_cases hg:c.kind=4∧c.path.data.toList=[]
  ·have R:Hid (chOk c=false):=hide (by rw [uh HC];simp [hg.1,hg.2])
   have g4:=hg.1
   have g1:c.path.toList.isEmpty=true:=by rw [Lib.toList_data,hg.2];rfl
   rw [g4] at q1
   clear hg g4
   go_wp2_with fail
   go_ret
   exact ⟨ret_bool (uh R).symm,hB1⟩
  ·have R0:Hid (chOk c=(isP c.path.data.toList&&decide (c.mode=0)&&c.data.data.toList==[])):=hide (by
    rw [uh HC]
    have:(decide (c.kind=4)&&c.path.data.toList==[])=false:=by
     by_cases h4:c.kind=4
     ·have:c.path.data.toList≠[]:=fun e=>hg ⟨h4,e⟩
      rw [beq_nil this,Bool.and_false]
     ·simp [h4]
    rw [this];rfl)
   have HG:=hide hg
   clear hg HC
   by_cases h4:c.kind=4
   ·have hpe:c.path.data.toList≠[]:=fun e=>uh HG ⟨h4,e⟩
    have g1:c.path.toList.isEmpty=false:=by rw [Lib.toList_data];simpa using hpe
    rw [h4] at q1
    clear hpe h4
    cases hP:isP c.path.data.toList
    ·have R:Hid (chOk c=false):=hide (by rw [uh R0,hP];rfl)
     rw [hP] at hIs
     go_wp2_with (go_at_call 81;refine hIs.mono ?_;clear hIs;rintro ev w2 ⟨rfl,hb2⟩)
     go_ret
     exact ⟨ret_bool (uh R).symm,hB1.trans (hb2.mono hB1.size)⟩
    ·rw [hP] at hIs
     by_cases hmd:c.mode=0
     ·by_cases hdt:c.data.data.toList=[]
      ·have R:Hid (chOk c=true):=hide (by rw [uh R0,hP,hmd,hdt];rfl)
       have g2:c.data.toList.isEmpty=true:=by rw [Lib.toList_data,hdt];rfl
       rw [hmd] at q2
       clear hdt hmd
       go_wp2_with (go_at_call 81;refine hIs.mono ?_;clear hIs;rintro ev w2 ⟨rfl,hb2⟩;have q2:=cell_later hb2 q2;have q3:=cell_later hb2 q3)
       go_ret
       exact ⟨ret_bool (uh R).symm,hB1.trans (hb2.mono hB1.size)⟩
      ·have R:Hid (chOk c=false):=hide (by rw [uh R0,beq_nil hdt,Bool.and_false])
       have g2:c.data.toList.isEmpty=false:=by rw [Lib.toList_data];simpa using hdt
       rw [hmd] at q2
       clear hdt hmd
       go_wp2_with (go_at_call 81;refine hIs.mono ?_;clear hIs;rintro ev w2 ⟨rfl,hb2⟩;have q2:=cell_later hb2 q2;have q3:=cell_later hb2 q3)
       go_ret
       exact ⟨ret_bool (uh R).symm,hB1.trans (hb2.mono hB1.size)⟩
     ·have R:Hid (chOk c=false):=hide (by rw [uh R0,hP];simp [hmd])
      have hmd':(c.mode==0)=false:=by simp [hmd]
      go_wp2_with (go_at_call 81;refine hIs.mono ?_;clear hIs;rintro ev w2 ⟨rfl,hb2⟩;have q2:=cell_later hb2 q2;have q3:=cell_later hb2 q3)
      go_ret
      exact ⟨ret_bool (uh R).symm,hB1.trans (hb2.mono hB1.size)⟩
   ·have h4':(c.kind==4)=false:=by simp [h4]
    cases hP:isP c.path.data.toList
    ·have R:Hid (chOk c=false):=hide (by rw [uh R0,hP];rfl)
     rw [hP] at hIs
     go_wp2_with (go_at_call 81;refine hIs.mono ?_;clear hIs;rintro ev w2 ⟨rfl,hb2⟩)
     go_ret
     exact ⟨ret_bool (uh R).symm,hB1.trans (hb2.mono hB1.size)⟩
    ·rw [hP] at hIs
     by_cases hmd:c.mode=0
     ·by_cases hdt:c.data.data.toList=[]
      ·have R:Hid (chOk c=true):=hide (by rw [uh R0,hP,hmd,hdt];rfl)
       have g2:c.data.toList.isEmpty=true:=by rw [Lib.toList_data,hdt];rfl
       rw [hmd] at q2
       clear hdt hmd
       go_wp2_with (go_at_call 81;refine hIs.mono ?_;clear hIs;rintro ev w2 ⟨rfl,hb2⟩;have q2:=cell_later hb2 q2;have q3:=cell_later hb2 q3)
       go_ret
       exact ⟨ret_bool (uh R).symm,hB1.trans (hb2.mono hB1.size)⟩
      ·have R:Hid (chOk c=false):=hide (by rw [uh R0,beq_nil hdt,Bool.and_false])
       have g2:c.data.toList.isEmpty=false:=by rw [Lib.toList_data];simpa using hdt
       rw [hmd] at q2
       clear hdt hmd
       go_wp2_with (go_at_call 81;refine hIs.mono ?_;clear hIs;rintro ev w2 ⟨rfl,hb2⟩;have q2:=cell_later hb2 q2;have q3:=cell_later hb2 q3)
       go_ret
       exact ⟨ret_bool (uh R).symm,hB1.trans (hb2.mono hB1.size)⟩
     ·have R:Hid (chOk c=false):=hide (by rw [uh R0,hP];simp [hmd])
      have hmd':(c.mode==0)=false:=by simp [hmd]
      go_wp2_with (go_at_call 81;refine hIs.mono ?_;clear hIs;rintro ev w2 ⟨rfl,hb2⟩;have q2:=cell_later hb2 q2;have q3:=cell_later hb2 q3)
      go_ret
      exact ⟨ret_bool (uh R).symm,hB1.trans (hb2.mono hB1.size)⟩
 ·rw [decide_eq_false hk] at hMk
  have HC:Hid (chOk c=entOk c):=hide (by rw [chOk,if_neg hk])
  clear hk hq0
  go_enter Tryz.func129,Tryz.ntmps129
  go_wp2_with (first
   | (go_at_call 97;rw [←uh HW0];refine hMk.mono ?_;clear hMk;rintro ev w1 ⟨rfl,hb1⟩;have hB1:Below w.heap.size w w1:=(hb0.trans (hb1.mono hb0.size));have hq1:=(hb1.block w.heap.size (Array.getElem?_eq_some_iff.1 (uh HQ)).1).trans (uh HQ);have q0:w1.cell? ⟨w.heap.size,0,none⟩=some (.string c.path):=cq 0 hq1;have q1:w1.cell? ⟨w.heap.size,1,none⟩=some (.int .i64 c.kind):=cq 1 hq1;have q2:w1.cell? ⟨w.heap.size,2,none⟩=some (.int .i64 c.mode):=cq 2 hq1;have q3:w1.cell? ⟨w.heap.size,3,none⟩=some (.string c.data):=cq 3 hq1;clear hq1)
   | (go_at_call 43;refine (isEntry_any c m w1 (cell_later hB1 (uh HM))).mono ?_;rintro ev w2 ⟨rfl,hb2⟩))
  go_ret
  exact ⟨ret_bool (uh HC).symm,hB1.trans (hb2.mono hB1.size)⟩
def mayF (cs:List Ent) (c:Ent):Bool:=decide (cs.length<80)&&chOk c&&(decide (cs.length=0) || match cs[cs.length-1]? with
  | none=>false
  | some d=>flw d c)
theorem mayF_ok {cs:List Ent}{i:Nat}{c:Ent}(h:cs[i]?=some c):mayF (cs.take i) c=okCh cs i:=by
 have hi:=(List.getElem?_eq_some_iff.1 h).1
 have hl:(cs.take i).length=i:=by simp;omega
 rw [okCh_eq h,mayF,hl]
 cases i with
 | zero=>simp
 | succ i=>
   have:(cs.take (i+1))[i+1-1]?=cs[i+1-1]?:=by rw [List.getElem?_take,if_pos (by omega)]
   rw [this] <;> cases cs[i+1-1]? <;> rfl
set_option maxHeartbeats 2000000 in
set_option maxRecDepth 100000 in
theorem mayFollow_any (ao:Option Addr) (cap k:Nat) (cs:List Ent) (c:Ent) (m:Int) (w:World) (hr:ERow w ao cs) (HN:Hid (k=cs.length)) (hk:k≤1048576) (HS:Hid (Small cs)) (hcs:c.path.size≤1048576) (hm:w.cell? ⟨14,0,none⟩=some (.int .i64 m)) :
  Calls Tryz.prog 94 #[.slice ao k cap,.agg #[.string c.path,.int .i64 c.kind,.int .i64 c.mode,.string c.data]] w fun ev w'=>ev=.returned (.bool (mayF cs c))∧Below w.heap.size w w':=by
 obtain ⟨W0,hW0⟩:∃ W0,W0=w.alloc (.cells #[.string c.path,.int .i64 c.kind,.int .i64 c.mode,.string c.data] 41):=⟨_,rfl⟩
 have hb0:Below w.heap.size w W0:=by rw [hW0];exact (Below.refl _ _).alloc (Nat.le_refl _) _
 have hq0:W0.heap[w.heap.size]?=some (.cells #[.string c.path,.int .i64 c.kind,.int .i64 c.mode,.string c.data] 41 (0,0)):=by rw [hW0];exact heap_alloc_new _ _
 have HW0:=hide hW0
 have HQ:=hide hq0
 have HM:=hide hm
 have HR:=hide hr
 by_cases h80:k<80
 ·have n80:¬ (80:Int)≤(k:Int):=by omega
  have hCh:=isChange_any c m W0 (cell_later hb0 hm)
  clear hW0 hm hr
  cases hc:chOk c
  ·rw [hc] at hCh
   have R:Hid (mayF cs c=false):=hide (by rw [mayF,hc];simp)
   clear hc hq0
   go_enter Tryz.func94,Tryz.ntmps94
   go_wp2_with (go_at_call 129;rw [←uh HW0];refine hCh.mono ?_;clear hCh;rintro ev w1 ⟨rfl,hb1⟩)
   go_ret
   exact ⟨ret_bool (uh R).symm,hb0.trans (hb1.mono hb0.size)⟩
  ·rw [hc] at hCh
   by_cases hk0:k=0
   ·subst hk0
    have R:Hid (mayF cs c=true):=hide (by rw [mayF,hc,←uh HN];simp)
    clear hc hq0
    go_enter Tryz.func94,Tryz.ntmps94
    go_wp2_with (go_at_call 129;rw [←uh HW0];refine hCh.mono ?_;clear hCh;rintro ev w1 ⟨rfl,hb1⟩)
    go_ret
    exact ⟨ret_bool (uh R).symm,hb0.trans (hb1.mono hb0.size)⟩
   ·obtain ⟨q,hq⟩:∃ q,q+1=k:=⟨k-1,by omega⟩
    obtain ⟨d,hd⟩:∃ d,cs[q]?=some d:=⟨cs[q]'(by have:=uh HN;omega),List.getElem?_eq_getElem (by have:=uh HN;omega)⟩
    have hds:=((uh HS) d (List.mem_of_getElem? hd)).1
    have R0:Hid (mayF cs c=flw d c):=hide (by
     have e1:cs.length-1=q:=by have:=uh HN;omega
     have e2:cs.length<80:=by have:=uh HN;omega
     have e3:¬ cs.length=0:=by have:=uh HN;omega
     rw [mayF,hc,e1,hd]
     simp only [e2,e3,decide_true,decide_false,Bool.true_and,Bool.false_or])
    have hw:IntKind.i64.wrap ((k:Int)-1)=(q:Int):=by rw [show (k:Int)-1=(q:Int) from by omega];exact wrap_i64 _ (by omega)
    have z0:¬ (k:Int)=0:=by omega
    have z1:((k:Int)==0)=false:=by simp;omega
    have p0:(0:Int)≤(q:Int):=by omega
    have p1:(q:Int)<(k:Int):=by omega
    obtain ⟨g,o,hgo,_⟩:=(uh HR) q d hd
    cases hgo
    have HD:=hide hd
    clear hc hq0 hd hq
    go_enter Tryz.func94,Tryz.ntmps94
    go_upto_region 6 with (go_at_call 129;rw [←uh HW0];refine hCh.mono ?_;clear hCh;rintro ev w1 ⟨rfl,hb1⟩)
    have hB1:Below w.heap.size w w1:=hb0.trans (hb1.mono hb0.size)
    have hq1:=(hb1.block w.heap.size (Array.getElem?_eq_some_iff.1 (uh HQ)).1).trans (uh HQ)
    obtain ⟨g',o',hgo,d0,d1,d2,d3⟩:=((uh HR).below hB1) q d (uh HD)
    cases hgo
    obtain ⟨W2,hW2⟩:∃ W2,W2=w1.alloc (.cells #[.string d.path,.int .i64 d.kind,.int .i64 d.mode,.string d.data] 41):=⟨_,rfl⟩
    have b2:Below w1.heap.size w1 W2:=by rw [hW2];exact (Below.refl _ _).alloc (Nat.le_refl _) _
    have hB2:Below w.heap.size w W2:=hB1.trans (b2.mono hB1.size)
    have hq2:=(b2.block w.heap.size (Array.getElem?_eq_some_iff.1 hq1).1).trans hq1
    have hl2:W2.heap[w1.heap.size]?=some (.cells #[.string d.path,.int .i64 d.kind,.int .i64 d.mode,.string d.data] 41 (0,0)):=by rw [hW2];exact heap_alloc_new _ _
    have e0:W2.cell? ⟨w.heap.size,0,none⟩=some (.string c.path):=cq 0 hq2
    have e1:W2.cell? ⟨w.heap.size,1,none⟩=some (.int .i64 c.kind):=cq 1 hq2
    have l0:W2.cell? ⟨w1.heap.size,0,none⟩=some (.string d.path):=cq 0 hl2
    have l1:W2.cell? ⟨w1.heap.size,1,none⟩=some (.int .i64 d.kind):=cq 1 hl2
    have l2:W2.cell? ⟨w1.heap.size,2,none⟩=some (.int .i64 d.mode):=cq 2 hl2
    have l3:W2.cell? ⟨w1.heap.size,3,none⟩=some (.string d.data):=cq 3 hl2
    have HL2:=hide hl2
    have HQ2:=hide hq2
    clear hq1 hq2 hl2 hb1
    go_upto_region 7 with fail
    rw [←hW2]
    clear hW2 d0 d1 d2 d3
    by_cases hp:d.path.data.toList=c.path.data.toList
    ·have g1:(d.path.toList==c.path.toList)=true:=by rw [Lib.toList_data,Lib.toList_data,hp];simp
     have R1:Hid (mayF cs c=(decide (d.kind=1)&&decide (c.kind=5))):=hide (by rw [uh R0,flw,if_pos hp])
     clear hp
     by_cases k1:d.kind=1
     ·rw [k1] at l1
      by_cases k5:c.kind=5
      ·have R:Hid (mayF cs c=true):=hide (by rw [uh R1,k1,k5];rfl)
       rw [k5] at e1
       go_wp2_with fail
       go_ret
       exact ⟨ret_bool (uh R).symm,hB2⟩
      ·have R:Hid (mayF cs c=false):=hide (by rw [uh R1];simp [k5])
       have k5':(c.kind==5)=false:=by simp [k5]
       go_wp2_with fail
       go_ret
       exact ⟨ret_bool (uh R).symm,hB2⟩
     ·have R:Hid (mayF cs c=false):=hide (by rw [uh R1];simp [k1])
      have k1':(d.kind==1)=false:=by simp [k1]
      go_wp2_with fail
      go_ret
      exact ⟨ret_bool (uh R).symm,hB2⟩
    ·have g1:(d.path.toList==c.path.toList)=false:=by rw [Lib.toList_data,Lib.toList_data];simpa using hp
     have R1:Hid (mayF cs c=(ltP d.path.data.toList c.path.data.toList&&(decide (d.kind=1∨d.kind=5) || !Lib.hasPrefix c.path.data.toList (d.path.data.toList++[47])))):=hide (by rw [uh R0,flw,if_neg hp])
     have hCm:=compare_any d.path c.path m W2 (by omega) (by omega) (cell_later hB2 (uh HM))
     clear hp
     cases hlt:ltP d.path.data.toList c.path.data.toList
     ·have R:Hid (mayF cs c=false):=hide (by rw [uh R1,hlt];rfl)
      have HLt:=hide hlt
      clear hlt
      go_wp2_with (go_at_call 44;refine hCm.mono ?_;clear hCm;rintro ev w3 ⟨n3,rfl,hn3,hb3⟩;have hn4:¬ n3<0:=(fun h=>by have h5:=hn3.1 h;rw [show ltL (prt d.path.data.toList) (prt c.path.data.toList)=false from uh HLt] at h5;cases h5);clear hn3)
      go_ret
      exact ⟨ret_bool (uh R).symm,hB2.trans (hb3.mono hB2.size)⟩
     ·have R2:Hid (mayF cs c=(decide (d.kind=1∨d.kind=5) || !Lib.hasPrefix c.path.data.toList (d.path.data.toList++[47]))):=hide (by rw [uh R1,hlt];rfl)
      have HLt:=hide hlt
      clear hlt
      by_cases hh:d.kind=1∨d.kind=5
      ·have R:Hid (mayF cs c=true):=hide (by rw [uh R2,decide_eq_true hh];rfl)
       have hMh:∀ W,Calls Tryz.prog 130 #[.agg #[.string d.path,.int .i64 d.kind,.int .i64 d.mode,.string d.data]] W fun ev w'=>ev=.returned (.bool true)∧Below W.heap.size W w':=fun W=>by have:=mayHold_any d W;rw [decide_eq_true hh] at this;exact this
       clear hh
       go_wp2_with (first
        | (go_at_call 44;refine hCm.mono ?_;clear hCm;rintro ev w3 ⟨n3,rfl,hn3,hb3⟩;have hn4:n3<0:=hn3.2 (uh HLt);clear hn3;have l0:=cell_later hb3 l0;have l1:=cell_later hb3 l1;have l2:=cell_later hb3 l2;have l3:=cell_later hb3 l3;have e0:=cell_later hb3 e0)
        | (go_at_call 130;refine (hMh w3).mono ?_;rintro ev w4 ⟨rfl,hb4⟩))
       go_ret
       exact ⟨ret_bool (uh R).symm,hB2.trans ((hb3.trans (hb4.mono hb3.size)).mono hB2.size)⟩
      ·have R:Hid (mayF cs c=!Lib.hasPrefix c.path.data.toList (d.path.data.toList++[47])):=hide (by rw [uh R2,decide_eq_false hh];rfl)
       have hMh:∀ W,Calls Tryz.prog 130 #[.agg #[.string d.path,.int .i64 d.kind,.int .i64 d.mode,.string d.data]] W fun ev w'=>ev=.returned (.bool false)∧Below W.heap.size W w':=fun W=>by have:=mayHold_any d W;rw [decide_eq_false hh] at this;exact this
       clear hh
       go_wp2_with (first
        | (go_at_call 44;refine hCm.mono ?_;clear hCm;rintro ev w3 ⟨n3,rfl,hn3,hb3⟩;have hn4:n3<0:=hn3.2 (uh HLt);clear hn3;have l0:=cell_later hb3 l0;have l1:=cell_later hb3 l1;have l2:=cell_later hb3 l2;have l3:=cell_later hb3 l3;have e0:=cell_later hb3 e0)
        | (go_at_call 130;refine (hMh w3).mono ?_;rintro ev w4 ⟨rfl,hb4⟩;have l0:=cell_later hb4 l0;have e0:=cell_later hb4 e0)
        | (go_at_call 131;refine (isBelow_any c.path d.path w4 (by omega)).mono ?_;rintro ev w5 ⟨rfl,hw⟩;obtain rfl:=hw.symm))
       go_ret
       exact ⟨ret_bool (uh R).symm,hB2.trans ((hb3.trans (hb4.mono hb3.size)).mono hB2.size)⟩
 ·have n80:(80:Int)≤(k:Int):=by omega
  have R:Hid (mayF cs c=false):=hide (by
   have:¬ cs.length<80:=by have:=uh HN;omega
   simp [mayF,this])
  clear hW0 hm hr
  go_enter Tryz.func94,Tryz.ntmps94
  go_wp2_with fail
  go_ret
  exact ⟨ret_bool (uh R).symm,by have h:=hb0;rw [uh HW0] at h;exact h⟩
theorem okCh_lt {cs:List Ent}{i:Nat}(h:okCh cs i=true):i<80:=by
 unfold okCh at h
 split at h
 ·cases h
 ·simp only [Bool.and_eq_true,decide_eq_true_eq] at h;exact h.1.1
theorem allCh_lt {cs:List Ent}{k:Nat}(h:∀ j,j<k→okCh cs j=true):k≤80:=by
 cases k with
 | zero=>omega
 | succ k=>have:=okCh_lt (h k (by omega));omega
def ErIs (w:World) (er:Value) (c i:Int):Prop:=∃ b:Nat,er=.iface 80 (.pointer (some ⟨b,0,none⟩))∧w.cell? ⟨b,0,none⟩=some (.int .i64 c)∧w.cell? ⟨b,1,none⟩=some (.int .i64 i)
def ChkIs (w:World) (cs:List Ent) (er:Value):Prop:=(er=.nilIface∧FirstBadC cs (-1))∨∃ i:Nat,ErIs w er 3 i∧FirstBadC cs i
attribute [local go_sem] setCell_drewN alloc_drewN
set_option maxHeartbeats 2000000 in
set_option maxRecDepth 100000 in
theorem check_any (ao:Option Addr) (cap n:Nat) (cs:List Ent) (m:Int) (w:World) (hr:ERow w ao cs) (HN:Hid (n=cs.length)) (hn:n≤4294967280) (hcap:n≤cap) (HS:Hid (Small cs)) (hm:w.cell? ⟨14,0,none⟩=some (.int .i64 m)) :
  Calls Tryz.prog 53 #[.slice ao n cap] w fun ev w'=>∃ er,ev=.returned er∧Hid (ChkIs w' cs er)∧Below w.heap.size w w':=by
 have HM:=hide hm
 clear hm
 go_enter Tryz.func53,Tryz.ntmps53
 go_wp2_with fail
 go_loopw [7] (fun i wr=>∃ k:Nat,k≤n∧i=.int .i64 k∧Below w.heap.size w wr∧Hid (∀ j,j<k→okCh cs j=true)) (fun i _=>n-(intOf i).toNat)
 case atStart=>exact ⟨0,by omega,rfl,Below.refl _ _,hide (by intro j hj;omega)⟩
 case round=>
  obtain ⟨k,hk,rfl,hb,HK⟩:=hrel
  by_cases hlt:k<n
  ·obtain ⟨c,he⟩:∃ c,cs[k]?=some c:=⟨cs[k]'(by have:=uh HN;omega),List.getElem?_eq_getElem (by have:=uh HN;omega)⟩
   obtain ⟨g,o,rfl,c0,c1,c2,c3⟩:=(hr.below hb) k c he
   have i0:(0:Int)≤(k:Int):=by omega
   have i1:(k:Int)<(n:Int):=by omega
   have ikc:(0:Int)≤(k:Int)∧(k:Int)≤(cap:Int):=by omega
   have hs1:=(uh HS c (List.mem_of_getElem? he)).1
   have HLen:Hid (k<cs.length):=hide (by have:=uh HN;omega)
   have HO:=hide (mayF_ok he)
   have k80:=allCh_lt (uh HK)
   have HST:Hid (Small (cs.take k)):=hide (fun e h=>uh HS e (List.mem_of_mem_take h))
   have HNT:Hid (k=(cs.take k).length):=hide (by rw [List.length_take];have:=uh HLen;omega)
   obtain ⟨W0,hW0⟩:∃ W0,W0=wr.alloc (.cells #[.string c.path,.int .i64 c.kind,.int .i64 c.mode,.string c.data] 41):=⟨_,rfl⟩
   have hB0w:Below wr.heap.size wr W0:=by rw [hW0];exact (Below.refl _ _).alloc (Nat.le_refl _) _
   have hB0:=hb.trans (hB0w.mono hb.size)
   have q0:W0.cell? ⟨wr.heap.size,0,none⟩=some (.string c.path):=by rw [hW0];exact cq 0 (heap_alloc_new _ _)
   have q1:W0.cell? ⟨wr.heap.size,1,none⟩=some (.int .i64 c.kind):=by rw [hW0];exact cq 1 (heap_alloc_new _ _)
   have q2:W0.cell? ⟨wr.heap.size,2,none⟩=some (.int .i64 c.mode):=by rw [hW0];exact cq 2 (heap_alloc_new _ _)
   have q3:W0.cell? ⟨wr.heap.size,3,none⟩=some (.string c.data):=by rw [hW0];exact cq 3 (heap_alloc_new _ _)
   have HM0:=hide (cell_later hB0 (uh HM))
   have HR0:=hide ((hr.below hB0).take k)
   clear he
   go_upto_region 4 with fail
   rw [←hW0]
   clear hW0 c0 c1 c2 c3
   go_region_held3 (fun w'=>w'.cell? ⟨wr.heap.size,0,none⟩=some (.string c.path)∧w'.cell? ⟨wr.heap.size,1,none⟩=some (.int .i64 c.kind)∧w'.cell? ⟨wr.heap.size,2,none⟩=some (.int .i64 c.mode)∧w'.cell? ⟨wr.heap.size,3,none⟩=some (.string c.data))
    (first | exact ⟨q0,q1,q2,q3⟩ | exact ⟨cell_later (chain0 hb3) q0,cell_later (chain0 hb3) q1,cell_later (chain0 hb3) q2,cell_later (chain0 hb3) q3⟩ | go_keep)
    (first | (go_at_call 94;refine (mayFollow_any _ _ k (cs.take k) c m _ ?_ HNT ?_ HST ?_ ?_).mono ?_;(exact uh HR0);omega;omega;(exact uh HM0);rintro ev w3 ⟨rfl,hb3⟩))
   have hB3:=hB0.trans (Below.mono (B':=w.heap.size) (chain0 hb3) hB0.size)
   clear hb3 HM0 HR0
   cases hF:mayF (cs.take k) c
   ·have C:Hid (okCh cs k=false):=hide ((uh HO).symm.trans hF)
    clear HO
    go_wp2_with fail
    go_ret
    refine ⟨_,rfl,hide (.inr ⟨k,⟨w3.heap.size,rfl,?_,?_⟩,.inr ⟨k,rfl,uh HLen,uh C,uh HK⟩⟩),hB3.alloc hB3.size _⟩
    ·exact cq 0 (heap_alloc_new w3 _)
    ·exact cq 1 (heap_alloc_new w3 _)
   ·have C:Hid (okCh cs k=true):=hide ((uh HO).symm.trans hF)
    clear HO
    go_wp2_with fail
    go_roundw
    case rel=>
     have R:∀ j,j<k+1→okCh cs j=true:=fun j hj=>by
      rcases Nat.lt_or_ge j k with h | h
      ·exact uh HK j h
      ·have e9:j=k:=by omega
       rw [e9];exact uh C
     first
      | exact ⟨k+1,by omega,by go_num,hB3,hide R⟩
      | ((repeat apply Exists.intro);exact ⟨⟨k+1,by omega,by go_num,hB3,hide R⟩,rfl⟩)
    case measure=>simp [intOf];omega
  ·have HF:Hid (FirstBadC cs (-1)):=hide (.inl ⟨rfl,fun i hi=>uh HK i (by have:=uh HN;omega)⟩)
   go_wp2_with fail
   go_ret
   exact ⟨.nilIface,rfl,hide (.inl ⟨rfl,uh HF⟩),hb⟩
end Go.Proofs.YtehfpjcclknipaaGreatDoor.T
namespace Go.Proofs.YtehfpjcclknipaaGreatDoor.T
open Go.RowKit
theorem prefix_under {c d:List UInt8}(hd:d≠[]) (hc:isP c=true):Lib.hasPrefix c (d++[47])=true↔under d c:=by
 rw [Lib.hasPrefix,List.isPrefixOf_iff_prefix]
 constructor
 ·rintro ⟨r,rfl⟩
  have hne:d++[47]++r≠[]:=by simp
  cases hs:spl r with
  | nil=>exact absurd hs (spl_ne r)
  | cons a u=>
    refine ⟨a,u,?_⟩
    rw [prt_ne hne,prt_ne hd,←hs,←spl_app]
    simp
 ·rintro ⟨a,u,e⟩
  have hal:∀ x∈a :: u,47 ∉ x:=fun x hx=>by
   have h1:(prt c).all elt=true:=by
    simp only [isP,Bool.and_eq_true] at hc
    exact hc.2
   exact (elt_no (List.all_eq_true.1 h1 x (by rw [e];exact List.mem_append_right _ hx))).1
  refine ⟨Lib.join (a :: u) [47],?_⟩
  apply prt_inj
  have hne:d++[47]++Lib.join (a :: u) [47]≠[]:=by simp
  rw [prt_ne hne,e,prt_ne hd,show d++[47]++Lib.join (a :: u) [47]=d++47 :: Lib.join (a :: u) [47] from by simp,spl_app,spl_joined (by simp) hal]
theorem chOk_path {c:Ent}(h:chOk c=true):isP c.path.data.toList=true∧(c.path.data.toList=[]→c.kind=5):=by
 unfold chOk at h
 split at h
 ·next hk=>
  simp only [Bool.and_eq_true,Bool.not_eq_true',Bool.and_eq_false_iff,decide_eq_false_iff_not] at h
  refine ⟨h.1.1.2,fun e=>?_⟩
  rcases h.1.1.1 with h1 | h1
  ·rcases hk with hk | hk
   ·exact absurd hk h1
   ·exact hk
  ·rw [e] at h1;cases h1
 ·have h3:=ent_parts h
  exact ⟨h3.2.1,fun e=>absurd e h3.1⟩
theorem okCh_parts {cs:List Ent}{i:Nat}{c:Ent}(he:cs[i]?=some c) (h:okCh cs i=true):chOk c=true∧∀ d,i≠0→cs[i-1]?=some d→flw d c=true:=by
 rw [okCh_eq he] at h
 simp only [Bool.and_eq_true,Bool.or_eq_true,decide_eq_true_eq] at h
 refine ⟨h.1.2,fun d h0 hd=>?_⟩
 rcases h.2 with h2 | h2
 ·exact absurd h2 h0
 ·rw [hd] at h2;exact h2
end Go.Proofs.YtehfpjcclknipaaGreatDoor.T
namespace Go.Proofs.YtehfpjcclknipaaGreatDoor.T
open Go.RowKit Go.Maps
def FirstP (f:Nat→Bool) (n:Nat) (r:Int):Prop:=(r=-1∧∀ i,i<n→f i=false)∨∃ i:Nat,r=i∧i<n∧f i=true∧∀ j,j<i→f j=false
theorem firstP_one {f:Nat→Bool}{n:Nat}{r s:Int}(h1:FirstP f n r) (h2:FirstP f n s):r=s:=by
 rcases h1 with ⟨rfl,a1⟩ | ⟨i,rfl,a1,a2,a3⟩ <;> rcases h2 with ⟨rfl,b1⟩ | ⟨j,rfl,b1,b2,b3⟩
 ·rfl
 ·rw [a1 j b1] at b2;cases b2
 ·rw [b1 i a1] at a2;cases a2
 ·rcases Nat.lt_trichotomy i j with h | h | h
  ·rw [b3 i h] at a2;cases a2
  ·rw [h]
  ·rw [a3 j h] at b2;cases b2
def mrkBad (es:List Ent) (c:Ent):Bool:=(decide (c.kind=4)&&decide (kindP es c.path.data.toList=0)) || (decide (c.kind=5)&&!decide (kindP es c.path.data.toList=1))
def mrkAt (es cs:List Ent) (i:Nat):Bool:=match cs[i]? with
 | none=>false
 | some c=>mrkBad es c
theorem mrkAt_eq {es cs:List Ent}{i:Nat}{c:Ent}(h:cs[i]?=some c):mrkAt es cs i=mrkBad es c:=by unfold mrkAt;rw [h]
def ErrP (w:World) (f:Nat→Bool) (n:Nat) (code:Int) (er:Value):Prop:=(er=.nilIface∧FirstP f n (-1))∨∃ i:Nat,ErIs w er code i∧FirstP f n i
theorem find_kind0 {r:Nd}{ns:List Nd}(h:TreeS (entsN ns)) (hr:r.ent=rootE) {p:List UInt8}{v:Value}(hv:FindIs r ns p v):(v=.pointer none∧kindP (entsN ns) p=0)∨∃ x∈r :: ns,v=.pointer (some ⟨x.nb,0,none⟩)∧kindP (entsN ns) p=x.ent.kind∧x.ent.kind≠0:=by
 have hr0:r.p=[]:=by rw [Nd.p,hr];rfl
 rcases find_kindS h hr hv with ⟨rfl,_⟩ | ⟨x,hx,rfl,hp,hk⟩
 ·rcases hv with ⟨_,hno⟩ | ⟨x,_,h1,_⟩
  ·refine .inl ⟨rfl,?_⟩
   have hp0:p≠[]:=fun e=>hno r (by simp) (hr0.trans e.symm)
   rw [kindP_at hp0,atE_miss fun e he hep=>by
    obtain ⟨x,hx,rfl⟩:=List.mem_map.1 he
    exact hno x (by simp [hx]) hep]
  ·cases h1
 ·refine .inr ⟨x,hx,rfl,hk,?_⟩
  rcases List.mem_cons.1 hx with e | e
  ·rw [e,hr];decide
  ·have:=good_kind (ent_parts (h.ent x.ent (List.mem_map.2 ⟨x,e,rfl⟩))).2.2
   omega
set_option maxHeartbeats 2000000 in
set_option maxRecDepth 100000 in
theorem checkMarks_any (r:Nd) (ns:List Nd) (B:Nat) (es:List Ent) (ao:Option Addr) (cap n:Nat) (cs:List Ent) (m:Int) (w:World) (hM:Mem w B r ns) (HE:Hid (entsN ns=es)) (HT:Hid (TreeS es)) (hr:ERow w ao cs) (HN:Hid (n=cs.length)) (hn:n≤4294967280) (HS:Hid (Small cs)) (hm:w.cell? ⟨14,0,none⟩=some (.int .i64 m)) :
  Calls Tryz.prog 54 #[.pointer (some ⟨r.nb,0,none⟩),.slice ao n cap] w fun ev w'=>∃ er,ev=.returned er∧Hid (ErrP w' (mrkAt es cs) cs.length 8 er)∧Below w.heap.size w w':=by
 have HM:=hide hm
 have HMem:=hide hM
 have HTn:Hid (TreeS (entsN ns)):=hide (by rw [uh HE];exact uh HT)
 have HO:Hid (OkTo (entsN ns) ns.length):=hide (by have:=(uh HTn).ok;rwa [show (entsN ns).length=ns.length from by simp [entsN]] at this)
 clear hm hM
 go_enter Tryz.func54,Tryz.ntmps54
 go_wp2_with fail
 go_loopw [10] (fun i wr=>∃ k:Nat,k≤n∧i=.int .i64 k∧Below w.heap.size w wr∧Hid (∀ j,j<k→mrkAt es cs j=false)) (fun i _=>n-(intOf i).toNat)
 case atStart=>exact ⟨0,by omega,rfl,Below.refl _ _,hide (by intro j hj;omega)⟩
 case round=>
  obtain ⟨k,hk,rfl,hb,HK⟩:=hrel
  by_cases hlt:k<n
  ·obtain ⟨c,he⟩:∃ c,cs[k]?=some c:=⟨cs[k]'(by have:=uh HN;omega),List.getElem?_eq_getElem (by have:=uh HN;omega)⟩
   obtain ⟨g,o,rfl,c0,c1,c2,c3⟩:=(hr.below (hb)) k c he
   have i0:(0:Int)≤(k:Int):=by omega
   have i1:(k:Int)<(n:Int):=by omega
   have hs1:=(uh HS c (List.mem_of_getElem? he)).1
   have HLen:Hid (k<cs.length):=hide (by have:=uh HN;omega)
   obtain ⟨W0,hW0⟩:∃ W0,W0=wr.alloc (.cells #[.string c.path,.int .i64 c.kind,.int .i64 c.mode,.string c.data] 41):=⟨_,rfl⟩
   have hB0w:Below wr.heap.size wr W0:=by rw [hW0];exact (Below.refl _ _).alloc (Nat.le_refl _) _
   have q0:W0.cell? ⟨wr.heap.size,0,none⟩=some (.string c.path):=by rw [hW0];exact cq 0 (heap_alloc_new _ _)
   have q1:W0.cell? ⟨wr.heap.size,1,none⟩=some (.int .i64 c.kind):=by rw [hW0];exact cq 1 (heap_alloc_new _ _)
   have q2:W0.cell? ⟨wr.heap.size,2,none⟩=some (.int .i64 c.mode):=by rw [hW0];exact cq 2 (heap_alloc_new _ _)
   have q3:W0.cell? ⟨wr.heap.size,3,none⟩=some (.string c.data):=by rw [hW0];exact cq 3 (heap_alloc_new _ _)
   have HEc:=hide he
   clear he
   go_upto_region 4 with fail
   rw [←hW0]
   clear hW0 c0 c1 c2 c3
   have hB0:=hb.trans (hB0w.mono hb.size)
   go_upto_region 5 with (go_at_call 47;refine (find_any r ns B c.path m _ ((uh HMem).below hB0) HO hs1 (cell_later hB0 (uh HM))).mono ?_;rintro ev w2 ⟨v,rfl,HF,hb2⟩)
   have hB2:=hB0.trans (hb2.mono hB0.size)
   have q1:=cell_later hb2 q1
   clear hb2 q0 q2 q3 hB0w
   have hM2:=(uh HMem).below hB2
   have hfk:=find_kind0 (uh HTn) hM2.root (uh HF)
   rw [uh HE] at hfk
   clear HF
   by_cases h4:c.kind=4
   ·rw [h4] at q1
    rcases hfk with ⟨rfl,hk0⟩ | ⟨x,hx,rfl,hkx,hk0⟩
    ·clear hM2
     have C:Hid (mrkAt es cs k=true):=hide (by rw [mrkAt_eq (uh HEc),mrkBad];simp [h4,hk0])
     clear hk0
     go_wp2_with fail
     go_ret
     refine ⟨_,rfl,hide (.inr ⟨k,⟨w2.heap.size,rfl,?_,?_⟩,.inr ⟨k,rfl,uh HLen,uh C,uh HK⟩⟩),hB2.alloc hB2.size _⟩
     ·exact cq 0 (heap_alloc_new w2 _)
     ·exact cq 1 (heap_alloc_new w2 _)
    ·have hk0':¬ kindP es c.path.data.toList=0:=by rw [hkx];exact hk0
     clear hM2
     have C:Hid (mrkAt es cs k=false):=hide (by rw [mrkAt_eq (uh HEc),mrkBad];simp [h4,hk0'])
     clear hk0 hk0' hkx
     go_wp2_with fail
     go_roundw
     case rel=>
      have R:∀ j,j<k+1→mrkAt es cs j=false:=fun j hj=>by
       rcases Nat.lt_or_ge j k with h | h
       ·exact uh HK j h
       ·have e9:j=k:=by omega
        rw [e9];exact uh C
      first
       | exact ⟨k+1,by omega,by go_num,hB2,hide R⟩
       | ((repeat apply Exists.intro);exact ⟨⟨k+1,by omega,by go_num,hB2,hide R⟩,rfl⟩)
     case measure=>simp [intOf];omega
   ·have h4':(c.kind==4)=false:=by simp [h4]
    by_cases h5:c.kind=5
    ·rw [h5] at q1
     rcases hfk with ⟨rfl,hk0⟩ | ⟨x,hx,rfl,hkx,hk0⟩
     ·clear hM2
      have C:Hid (mrkAt es cs k=true):=hide (by rw [mrkAt_eq (uh HEc),mrkBad];simp [h5,hk0])
      clear hk0
      go_wp2_with (go_at_call 87;refine (isDir_nil _).mono ?_;rintro ev w3 ⟨rfl,hw⟩;obtain rfl:=hw.symm)
      go_ret
      refine ⟨_,rfl,hide (.inr ⟨k,⟨w2.heap.size,rfl,?_,?_⟩,.inr ⟨k,rfl,uh HLen,uh C,uh HK⟩⟩),hB2.alloc hB2.size _⟩
      ·exact cq 0 (heap_alloc_new w2 _)
      ·exact cq 1 (heap_alloc_new w2 _)
     ·have z1:w2.cell? ⟨x.nb,1,none⟩=some (.int .i64 x.ent.kind):=cell_of_row w2 x.nb 1 _ _ _ (hM2.all x hx).2.2.1
      by_cases kx:x.ent.kind=1
      ·have hDx:Calls Tryz.prog 87 #[.pointer (some ⟨x.nb,0,none⟩)] w2 fun ev w'=>ev=.returned (.bool true)∧w'=w2:=by have:=isDir_at _ _ _ z1;rw [decide_eq_true kx] at this;exact this
       have hk1:kindP es c.path.data.toList=1:=hkx.trans kx
       clear hM2 z1 kx hkx hk0
       have C:Hid (mrkAt es cs k=false):=hide (by rw [mrkAt_eq (uh HEc),mrkBad];simp [h5,hk1])
       clear hk1
       go_wp2_with (go_at_call 87;refine hDx.mono ?_;rintro ev w3 ⟨rfl,hw⟩;obtain rfl:=hw.symm)
       go_roundw
       case rel=>
        have R:∀ j,j<k+1→mrkAt es cs j=false:=fun j hj=>by
         rcases Nat.lt_or_ge j k with h | h
         ·exact uh HK j h
         ·have e9:j=k:=by omega
          rw [e9];exact uh C
        first
         | exact ⟨k+1,by omega,by go_num,hB2,hide R⟩
         | ((repeat apply Exists.intro);exact ⟨⟨k+1,by omega,by go_num,hB2,hide R⟩,rfl⟩)
       case measure=>simp [intOf];omega
      ·have hDx:Calls Tryz.prog 87 #[.pointer (some ⟨x.nb,0,none⟩)] w2 fun ev w'=>ev=.returned (.bool false)∧w'=w2:=by have:=isDir_at _ _ _ z1;rw [decide_eq_false kx] at this;exact this
       have hk1:¬ kindP es c.path.data.toList=1:=fun h=>kx (hkx.symm.trans h)
       clear hM2 z1 kx hkx hk0
       have C:Hid (mrkAt es cs k=true):=hide (by rw [mrkAt_eq (uh HEc),mrkBad];simp [h5,hk1])
       clear hk1
       go_wp2_with (go_at_call 87;refine hDx.mono ?_;rintro ev w3 ⟨rfl,hw⟩;obtain rfl:=hw.symm)
       go_ret
       refine ⟨_,rfl,hide (.inr ⟨k,⟨w2.heap.size,rfl,?_,?_⟩,.inr ⟨k,rfl,uh HLen,uh C,uh HK⟩⟩),hB2.alloc hB2.size _⟩
       ·exact cq 0 (heap_alloc_new w2 _)
       ·exact cq 1 (heap_alloc_new w2 _)
    ·have h5':(c.kind==5)=false:=by simp [h5]
     clear hM2 hfk
     have C:Hid (mrkAt es cs k=false):=hide (by rw [mrkAt_eq (uh HEc),mrkBad];simp [h4,h5])
     go_wp2_with fail
     go_roundw
     case rel=>
      have R:∀ j,j<k+1→mrkAt es cs j=false:=fun j hj=>by
       rcases Nat.lt_or_ge j k with h | h
       ·exact uh HK j h
       ·have e9:j=k:=by omega
        rw [e9];exact uh C
      first
       | exact ⟨k+1,by omega,by go_num,hB2,hide R⟩
       | ((repeat apply Exists.intro);exact ⟨⟨k+1,by omega,by go_num,hB2,hide R⟩,rfl⟩)
     case measure=>simp [intOf];omega
  ·have HF:Hid (FirstP (mrkAt es cs) cs.length (-1)):=hide (.inl ⟨rfl,fun i hi=>uh HK i (by have:=uh HN;omega)⟩)
   go_wp2_with fail
   go_ret
   exact ⟨.nilIface,rfl,hide (.inl ⟨rfl,uh HF⟩),hb⟩
end Go.Proofs.YtehfpjcclknipaaGreatDoor.T
