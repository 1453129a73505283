import Derived.Test.YtehfpjcclknipaaGreatDoorJRdX
namespace Go.Proofs.YtehfpjcclknipaaGreatDoor
open Go.RowKit Go.Maps
def takesW (xs:List Atm):Bool:=plainW xs==some wCOPY || plainW xs==some wADD
set_option maxHeartbeats 2000000 in
set_option maxRecDepth 10000 in
theorem source_none (m:InM) (x:WdM) (mb:Nat) (cv:Option Addr) (B:Nat) (w:World) (hcv:w.cell? ⟨mb,0,none⟩=some (.pointer cv)) (h:m.Ok w B) (h0:m.ws[0]?=some x) (hst:m.stage=-1) :
  Calls Tryz.prog 71 #[.pointer (some ⟨mb,0,none⟩),m.val] w fun ev w'=>ev=.returned (.pointer (if takesW x.xs=true then cv else none))∧Below w.heap.size w w':=by
 obtain ⟨W0,hW0⟩:∃ W0,W0=w.alloc (.cells #[m.wv,.int .i64 m.stage,.int .i64 (ruleT m.rule).1,.int .i64 (ruleT m.rule).2.1,fnV (ruleT m.rule).2.2.1,fnV (ruleT m.rule).2.2.2] 76):=⟨_,rfl⟩
 have hb0:Below w.heap.size w W0:=by rw [hW0]; exact (Below.refl _ _).alloc (Nat.le_refl _) _
 have hc0:W0.heap[w.heap.size]?=some (.cells #[m.wv,.int .i64 m.stage,.int .i64 (ruleT m.rule).1,.int .i64 (ruleT m.rule).2.1,fnV (ruleT m.rule).2.2.1,fnV (ruleT m.rule).2.2.2] 76 (0,0)):=by rw [hW0]; exact heap_alloc_new _ _
 have hok:=h.below hb0
 have hsm:=(h.small x (List.mem_of_getElem? h0)).1
 obtain ⟨g,cap,hcp,_,_⟩:=row_capw h.ws.row (by have:=(List.getElem?_eq_some_iff.1 h0).1; omega)
 have hIs:∀ (t:ByteArray) W,Below W0.heap.size W0 W→Calls Tryz.prog 116 #[m.val,.string t] W fun ev w'=>ev=.returned (.bool (plainW x.xs==some t.data.toList))∧Below W.heap.size W w':=fun t W hB=>in_is m x t B W (hok.below hB).ws h0 hsm
 have hI1:=hIs ⟨#[67,79,80,89]⟩ W0 (Below.refl _ _)
 have hI2:=fun W hB=>hIs ⟨#[65,68,68]⟩ W hB
 rw [show (⟨#[67,79,80,89]⟩:ByteArray).data.toList=wCOPY from rfl] at hI1
 rw [show (⟨#[65,68,68]⟩:ByteArray).data.toList=wADD from rfl] at hI2
 obtain ⟨b1,hb1e⟩:∃ b1,b1=(plainW x.xs==some wCOPY):=⟨_,rfl⟩
 obtain ⟨b2,hb2e⟩:∃ b2,b2=(plainW x.xs==some wADD):=⟨_,rfl⟩
 have ht:takesW x.xs=(b1 || b2):=by unfold takesW; rw [hb1e,hb2e]
 rw [← hb1e] at hI1
 rw [← hb2e] at hI2
 rw [ht]
 have HK:Hid (∀ W,Below W0.heap.size W0 W→W.heap[w.heap.size]?=some (.cells #[m.wv,.int .i64 m.stage,.int .i64 (ruleT m.rule).1,.int .i64 (ruleT m.rule).2.1,fnV (ruleT m.rule).2.2.1,fnV (ruleT m.rule).2.2.2] 76 (0,0))∧W.cell? ⟨mb,0,none⟩=some (.pointer cv)):=hide (fun W hB=>⟨(hB.block w.heap.size (Array.getElem?_eq_some_iff.1 hc0).1).trans hc0,cell_later hB (cell_later hb0 hcv)⟩)
 obtain ⟨wv,ws,stage,rule⟩:=m
 simp only at hcp hst hW0 HK hc0
 subst hcp hst
 unfold InM.val at hI1 hI2 ⊢
 simp only at hI1 hI2 ⊢
 obtain ⟨n,hn⟩:∃ n,n=ws.length:=⟨_,rfl⟩
 rw [← hn] at hI1 hI2 hW0 HK hc0 ⊢
 have r0:=cq 0 hc0
 have r1:=cq 1 hc0
 have r2:=cq 2 hc0
 have r3:=cq 3 hc0
 have r4:=cq 4 hc0
 have r5:=cq 5 hc0
 clear h h0 hok hIs hb1e hb2e ht hn hsm hc0 hcv
 cases b1 with
 | true=>
  simp only [Bool.true_or,if_true]
  go_enter Tryz.func71,Tryz.ntmps71
  go_upto_region 1 with fail
  rw [← hW0]
  clear hW0
  go_upto_region 3 with (go_at_call 116; refine hI1.mono ?_; clear hI1; rintro e1 w1 ⟨rfl,hb1⟩)
  obtain ⟨hh,hcv⟩:=uh HK w1 hb1
  have s1:=cq 1 hh
  clear hh r0 r1 r2 r3 r4 r5
  go_wp2_with fail
  go_ret
  exact ⟨rfl,hb0.trans (hb1.mono hb0.size)⟩
 | false=>
  have HK2:Hid (∀ W,Below W0.heap.size W0 W→W.cell? ⟨w.heap.size,0,none⟩=some (.slice (some ⟨g,0,none⟩) n cap)∧W.cell? ⟨w.heap.size,1,none⟩=some (.int .i64 (-1))∧W.cell? ⟨w.heap.size,2,none⟩=some (.int .i64 (ruleT rule).1)∧W.cell? ⟨w.heap.size,3,none⟩=some (.int .i64 (ruleT rule).2.1)∧W.cell? ⟨w.heap.size,4,none⟩=some (fnV (ruleT rule).2.2.1)∧W.cell? ⟨w.heap.size,5,none⟩=some (fnV (ruleT rule).2.2.2)∧W.cell? ⟨mb,0,none⟩=some (.pointer cv)):=hide (fun W hB=>by
   obtain ⟨hh,hcv⟩:=uh HK W hB
   exact ⟨cq 0 hh,cq 1 hh,cq 2 hh,cq 3 hh,cq 4 hh,cq 5 hh,hcv⟩)
  have HI2:=hide hI2
  clear hI2
  cases b2 with
  | true=>
   simp only [Bool.false_or,if_true]
   go_enter Tryz.func71,Tryz.ntmps71
   go_upto_region 1 with fail
   rw [← hW0]
   clear hW0
   go_wp2_with (first
    | (go_at_call_of 116 (Value.string ⟨#[67,79,80,89]⟩); refine hI1.mono ?_; clear hI1; rintro e1 w1 ⟨rfl,hb1⟩; obtain ⟨s0,s1,s2,s3,s4,s5,hcv⟩:=uh HK2 w1 hb1; clear r0 r1 r2 r3 r4 r5)
    | (go_at_call_of 116 (Value.string ⟨#[65,68,68]⟩); refine (uh HI2 _ hb1).mono ?_; rintro e2 w2 ⟨rfl,hb2⟩; obtain ⟨_,v1,_,_,_,_,hcv2⟩:=uh HK2 w2 (hb1.trans (hb2.mono hb1.size)); clear s0 s1 s2 s3 s4 s5))
   go_ret
   exact ⟨rfl,hb0.trans ((hb1.trans (hb2.mono hb1.size)).mono hb0.size)⟩
  | false=>
   simp only [Bool.false_or,Bool.false_eq_true,if_false]
   go_enter Tryz.func71,Tryz.ntmps71
   go_upto_region 1 with fail
   rw [← hW0]
   clear hW0
   go_wp2_with (first
    | (go_at_call_of 116 (Value.string ⟨#[67,79,80,89]⟩); refine hI1.mono ?_; clear hI1; rintro e1 w1 ⟨rfl,hb1⟩; obtain ⟨s0,s1,s2,s3,s4,s5,hcv⟩:=uh HK2 w1 hb1; clear r0 r1 r2 r3 r4 r5)
    | (go_at_call_of 116 (Value.string ⟨#[65,68,68]⟩); refine (uh HI2 _ hb1).mono ?_; rintro e2 w2 ⟨rfl,hb2⟩))
   go_ret
   exact ⟨rfl,hb0.trans ((hb1.trans (hb2.mono hb1.size)).mono hb0.size)⟩
def formI (ws:List (List Atm)):List UInt8:=Lib.join (ws.map fun x=>formW (parts x)) [32]
def szI (ws:List (List Atm)):Nat:=(ws.map fun x=>szP (parts x)+3).sum
theorem formW_len (l:List Prt):(formW l).length≤szP l+2:=by
 unfold formW
 split
 ·simp
 ·have:=partsF_len l; omega
theorem join_len:∀ xs:List (List UInt8),(Lib.join xs [32]).length≤(xs.map fun l=>l.length+1).sum
 | []=>by simp [Lib.join,List.intercalate]
 | [a]=>by simp [Lib.join,List.intercalate]
 | a :: b :: r=>by
  have ih:=join_len (b :: r)
  have h1:Lib.join (a :: b :: r) [32]=a++[32]++Lib.join (b :: r) [32]:=by simp [Lib.join,List.intercalate]
  rw [h1,List.length_append,List.length_append,List.map_cons,List.sum_cons]
  simp only [List.length_cons,List.length_nil]
  omega
theorem formI_len (ws:List (List Atm)):(formI ws).length≤szI ws:=by
 refine Nat.le_trans (join_len _) ?_
 unfold szI
 induction ws with
 | nil=>simp
 | cons a r ih=>
  simp only [List.map_cons,List.sum_cons]
  have:=formW_len (parts a)
  omega
theorem szI_mem {ws:List (List Atm)} {x:List Atm} (h:x∈ws):szP (parts x)≤szI ws:=by
 induction ws with
 | nil=>cases h
 | cons a r ih=>
  have h2:szI (a :: r)=szP (parts a)+3+szI r:=by simp [szI]
  rcases List.mem_cons.1 h with rfl | h
  ·omega
  ·have:=ih h; omega
theorem info9w:(Tryz.prog.info? 9).map (fun i=>(i.zero,i.size,i.bytes))=some (some (.string ByteArray.empty),1,16):=by kernel_rfl
abbrev StrRow (w:World) (B:Nat) (v:Value) (us:List ByteArray):Prop:=w.ownsRow B 9 1 v us.length (us.map Value.string)
set_option maxHeartbeats 1000000 in
set_option maxRecDepth 10000 in
theorem form_in (m:InM) (B:Nat) (w:World) (h:m.Ok w B) (hz:szI (m.ws.map WdM.xs)≤268435456) :
  Calls Tryz.prog 70 #[m.val] w fun ev w'=>(∃ u:ByteArray,ev=.returned (.string u)∧u.data.toList=formI (m.ws.map WdM.xs))∧Below w.heap.size w w':=by
 obtain ⟨wv,ws,st,rl⟩:=m
 obtain ⟨hws,hop,_,hsm,hsh⟩:=h
 simp only at hws hop hsm hsh hz ⊢
 have hpos:0<ws.length:=by
  cases ws with
  | nil=>cases hop
  | cons a r=>simp
 obtain ⟨g,cap,rfl,_,hgl⟩:=World.ownsRow.form hws.row hpos
 obtain ⟨n,hn⟩:∃ n,n=ws.length:=⟨_,rfl⟩
 have HN:=hide hn
 have HWS:=hide hws
 have HSM:=hide hsm
 have HZ:=hide hz
 unfold InM.val
 simp only
 generalize (ruleT rl).1=r1
 generalize (ruleT rl).2.1=r2
 generalize (ruleT rl).2.2.1=r3
 generalize (ruleT rl).2.2.2=r4
 rw [← hn] at hsh hpos ⊢
 obtain ⟨W0,hW0⟩:∃ W0,W0=w.alloc (.cells #[.slice (some ⟨g,0,none⟩) n cap,.int .i64 st,.int .i64 r1,.int .i64 r2,fnV r3,fnV r4] 76):=⟨_,rfl⟩
 have hb0:Below w.heap.size w W0:=by rw [hW0]; exact (Below.refl _ _).alloc (Nat.le_refl _) _
 have hz0':W0.heap.size=w.heap.size+1:=by rw [hW0]; simp
 have hc0:W0.heap[w.heap.size]?=some (.cells #[.slice (some ⟨g,0,none⟩) n cap,.int .i64 st,.int .i64 r1,.int .i64 r2,fnV r3,fnV r4] 76 (0,0)):=by rw [hW0]; exact heap_alloc_new _ _
 have p0:W0.cell? ⟨w.heap.size,0,none⟩=some (.slice (some ⟨g,0,none⟩) n cap):=cq 0 hc0
 have HB0:=hide hb0
 clear hws hop hsm hz hn hb0 hc0
 go_enter Tryz.func70,Tryz.ntmps70
 go_upto_region 1 with fail
 rw [← hW0]
 clear hW0
 go_wp2_with fail
 clear p0
 go_loopw [3,9] (fun sv i wr=>∃ (k:Nat) (us:List ByteArray),k≤n∧us.length=k∧i=.int .i64 k∧StrRow wr (w.heap.size+1) sv us∧us.map (·.data.toList)=(ws.take k).map (fun x=>formW (parts x.xs))∧Below (w.heap.size+1) W0 wr) (fun _ i _=>n-(intOf i).toNat)
 case atStart=>exact ⟨0,[],Nat.zero_le _,rfl,rfl,World.ownsRow_nil _ _ _ _,rfl,Below.refl _ _⟩
 case round=>
  obtain ⟨k,us,hk,huk,rfl,hrow,hus,hb⟩:=hrel
  obtain ⟨aos,ns,caps,hsv⟩:=row_form hrow
  subst hsv
  have HROW:=hide hrow
  have HUS:=hide hus
  have HUK:=hide huk
  have Hb:=hide hb
  clear hrow hus huk
  have hbw:Below w.heap.size w wr:=(uh HB0).trans (hb.mono (by omega))
  by_cases hlt:k<n
  ·have hlt':k<ws.length:=by rw [← uh HN]; exact hlt
   obtain ⟨x,hx⟩:∃ x,ws[k]?=some x:=⟨_,List.getElem?_eq_getElem hlt'⟩
   have hWr:=(uh HWS).below hbw
   obtain ⟨gw,capw,hwv,q0,q1,_⟩:=wd_at hWr k x hx
   rw [← uh HN] at hwv
   injection hwv with e1 e2 e3
   injection e1 with e1
   injection e1 with e1
   subst e1 e3
   clear e2
   have hok:=hWr.all x (List.mem_of_getElem? hx)
   obtain ⟨aox,nx,capx,hxv⟩:=row_form hok
   rw [hxv] at q1
   have n0:=World.new_ne wr ⟨g,k*2,none⟩ q0
   obtain ⟨W1,hW1⟩:∃ W1,W1=wr.alloc (.cells #[.int .i64 (x.place:Int),.slice aox nx capx] 162):=⟨_,rfl⟩
   have hb1:Below wr.heap.size wr W1:=by rw [hW1]; exact (Below.refl _ _).alloc (Nat.le_refl _) _
   have hc1:W1.heap[wr.heap.size]?=some (.cells #[.int .i64 (x.place:Int),.slice aox nx capx] 162 (0,0)):=by rw [hW1]; exact heap_alloc_new _ _
   have p0:W1.cell? ⟨wr.heap.size,0,none⟩=some (.int .i64 (x.place:Int)):=cq 0 hc1
   have p1:W1.cell? ⟨wr.heap.size,1,none⟩=some (.slice aox nx capx):=cq 1 hc1
   have hok1:x.Ok W1 B:=row_same hok fun j hj=>hb1.block j (World.ownsRow.lt hok j hj).2
   have hF:=form_word x B W1 hok1 (uh HSM x (List.mem_of_getElem? hx)).1 (Nat.le_trans (szI_mem (List.mem_map.2 ⟨x,List.mem_of_getElem? hx,rfl⟩)) (uh HZ))
   unfold WdM.val at hF
   rw [hxv] at hF
   have HB1:Hid (Below (w.heap.size+1) W0 W1):=hide (hb.trans (hb1.mono (by have:=hb.size; omega)))
   have HR1:Hid (StrRow W1 (w.heap.size+1) (.slice aos ns caps) us):=hide (row_same (uh HROW) fun j hj=>hb1.block j (World.ownsRow.lt (uh HROW) j hj).2)
   have HX:Hid ((ws.take (k+1)).map (fun x=>formW (parts x.xs))=(ws.take k).map (fun x=>formW (parts x.xs))++[formW (parts x.xs)]):=hide (by rw [List.take_add_one,hx]; simp)
   obtain ⟨i0,hi,hz0,hz1,hz2⟩:=info_parts info9w
   clear hx hWr hok hxv hb1 hc1 hok1 hbw hb
   go_upto_region 5 with fail
   rw [← hW1]
   clear hW1 q0 q1 n0
   go_wp2_with (first
    | (go_at_call 114; refine hF.mono ?_; clear hF; rintro ev w3 ⟨⟨u,rfl,hu⟩,hb3⟩; have HU:=hide hu; have HB3:=hide hb3; have HR3:Hid (StrRow w3 (w.heap.size+1) (.slice aos ns caps) us):=hide (row_same (uh HR1) fun j hj=>hb3.block j (World.ownsRow.lt (uh HR1) j hj).2); have HR4:=hide ((uh HR3).alloc (.cells #[.string u] 9)); have HSZ:=hide (Nat.le_trans (uh HB1).size hb3.size); clear hu hb3)
    | (at_builtin; refine wpList_append_own _ rfl _ _ 27 rfl (w.heap.size+1) 9 i0 _ 1 16 Tryz.underlying27 hi hz0 hz1 hz2 rfl (by decide) _ us.length (us.map Value.string) rfl (uh HR4) ⟨w3.heap.size,0,none⟩ 1 1 [.string u] rfl rfl (World.news_of_block (cs:=#[.string u]) (t:=9) (fr:=(0,0)) (heap_alloc_new _ _)) (by intro u hu; simp only [List.mem_cons,List.not_mem_nil,or_false] at hu; rw [hu]; rfl) (by have:=uh HUK; unfold maxLen; omega) (by have:=uh HUK; omega) (by have:=uh HSZ; simp; omega) ?_; intro v6 w6 hown6 hgrow6 _))
   have hb6:Below (w.heap.size+1) w3 w6:=((Below.refl _ w3).alloc (by have:=uh HSZ; omega) _).grown hgrow6 (by have:=uh HSZ; simp; omega) (fun q hq=>(World.ownsRow.lt (uh HR3) q hq).1)
   have HB6:Hid (Below (w.heap.size+1) W0 w6):=hide (((uh HB1).trans ((uh HB3).mono (by have:=(uh HB1).size; omega))).trans hb6)
   have HR6:Hid (StrRow w6 (w.heap.size+1) v6 (us++[u])):=hide (by unfold StrRow; rw [List.length_append,List.map_append]; exact hown6)
   have HU6:Hid ((us++[u]).map (·.data.toList)=(ws.take (k+1)).map (fun x=>formW (parts x.xs))):=hide (by rw [uh HX,List.map_append,uh HUS,← uh HU]; rfl)
   clear hgrow6 hown6 hb6
   go_roundw
   case rel=>exact ⟨k+1,us++[u],hlt,by rw [List.length_append,uh HUK]; rfl,by go_num,uh HR6,uh HU6,uh HB6⟩
   case measure=>simp [intOf]; omega
  ·have hke:k=n:=by omega
   have hul:us.length=n:=by rw [uh HUK,hke]
   rcases (uh HROW).2 with ⟨_,h0⟩ | ⟨g2,cap2,cur,hv2,_,hg2,hc2,_⟩
   ·omega
   injection hv2 with e1 e2 e3
   subst e1 e2 e3
   have hcells:∀ (j:Nat) x,us[j]?=some x→wr.cell? ⟨g2,0+j,none⟩=some (.string x):=fun j x hj=>by
    have hjl:=(List.getElem?_eq_some_iff.1 hj).1
    rw [Nat.zero_add,World.ownsRow.cellAt (uh HROW) j (by omega),List.getElem?_map,hj]; rfl
   have HFI:Hid (Lib.join (us.map (·.data.toList)) [32]=formI (ws.map WdM.xs)):=hide (by
    rw [uh HUS,List.take_of_length_le (by rw [hke,uh HN]; exact Nat.le_refl _)]
    unfold formI; rw [List.map_map]; rfl)
   have hJ:=Tryz.strings_Join g2 0 caps us ⟨#[32]⟩ wr hcells (Array.getElem?_eq_some_iff.1 hg2).1 (by omega) hc2 (by
    show (Lib.join (us.map (·.data.toList)) [32]).length≤_
    rw [uh HFI]
    have h1:=formI_len (ws.map WdM.xs)
    have h2:=uh HZ
    omega)
   have HJ:Hid ((Lib.join (us.map (·.data.toList)) (ByteArray.mk #[32]).data.toList)=formI (ws.map WdM.xs)):=hide (uh HFI)
   generalize (Lib.join (us.map (·.data.toList)) (ByteArray.mk #[32]).data.toList)=J at hJ HJ
   clear hke hul hcells hg2 hc2 hb
   go_wp2_with (go_at_call 115; refine hJ.mono ?_; clear hJ; rintro ev w3 ⟨rfl,hb3⟩)
   go_ret
   exact ⟨⟨_,rfl,(List.toList_toArray).trans (uh HJ)⟩,hbw.trans (hb3.mono hbw.size)⟩
end Go.Proofs.YtehfpjcclknipaaGreatDoor
