import Derived.Test.YtehfpjcclknipaaGreatDoorBmM
namespace Go.Proofs.YtehfpjcclknipaaGreatDoor.T
open Go.RowKit Go.Maps
def RbOut (w':World) (e:Ending) (es:List Ent) (r:Res (List Stg)):Prop:=match r with
 | .error (k,p)=>∃ a:Nat,e=.returned (.tuple #[.pointer none,.pointer none,.iface 80 (.pointer (some ⟨a,0,none⟩))])∧w'.heap[a]?=some (.cells #[.int .i64 (k:Int),.int .i64 (p:Int)] 84 (0,0))
 | .ok st=>∃ (B fb:Nat) (sv:Value) (ss:List StM) (Bs:Nat) (r:Nd) (ns:List Nd),e=.returned (.tuple #[.pointer (some ⟨fb,0,none⟩),.pointer (some ⟨r.nb,0,none⟩),.nilIface])∧FileM w' B fb sv ss∧ss.map StM.stg=st∧Mem w' Bs r ns∧entsN ns=es
set_option maxHeartbeats 2000000 in
set_option maxRecDepth 10000 in
theorem readBuild_any (s:ByteArray) (ao:Option Addr) (n cap:Nat) (es:List Ent) (m:Int) (w:World) (hr:ERow w ao es) (HN:Hid (n=es.length)) (hn:n≤4294967280) (HS:Hid (Small es)) (hok:FirstBad es (-1)) (hm:w.cell? ⟨14,0,none⟩=some (.int .i64 m)) (hg:w.cell? ⟨0,0,none⟩=some (.iface 168 (.agg #[.pointer (some ⟨22,47,none⟩)]))) :
  Calls Tryz.prog 18 #[.string s,.slice ao n cap] w fun e w'=>RbOut w' e es (parseG s.data.toList)∧Below w.heap.size w w':=by
 have hR:=read_any s m w hm hg
 have hes:=er_some
 have hen:=er_nil
 have hea:=er_at
 cases hp:parseG s.data.toList with
 | error ep=>
   obtain ⟨e,p⟩:=ep
   rw [hp] at hR
   unfold ReadOut at hR
   dsimp only at hR
   clear hp hm hg hr
   go_enter Tryz.func18,Tryz.ntmps18
   go_wp2_with (go_at_call 28;refine hR.mono ?_;clear hR;rintro ev w2 ⟨⟨a,rfl,hc⟩,hb2⟩)
   refine bodyPost_ret (v:=.tuple #[.pointer none,.pointer none,.iface 80 (.pointer (some ⟨a,0,none⟩))]) (by simp [results,Tryz.results18,go_sem]) rfl ⟨⟨a,rfl,hc⟩,hb2⟩
 | ok st=>
   rw [hp] at hR
   unfold ReadOut at hR
   dsimp only at hR
   have HOF:Hid (∀ W,Below w.heap.size w W→Calls Tryz.prog 23 #[.slice ao n cap] W fun ev w'=>(∃ (r:Nd) (ns:List Nd),ev=.returned (.tuple #[.pointer (some ⟨r.nb,0,none⟩),.nilIface])∧Hid (entsN ns=es∧Mem w' W.heap.size r ns))∧Below W.heap.size W w'):=hide (fun W hb=>
    (of_tree ao cap n es m W (hr.below hb) HN hn HS (cell_later hb hm)).mono fun ev w' ⟨v,er,h1,h2,h3⟩=>by
      rcases uh h2 with ⟨r,ns,rfl,rfl,h4,h5,_⟩ | ⟨i,q,_,_,_,_,h6⟩
      ·exact ⟨⟨r,ns,h1,hide ⟨h4,h5⟩⟩,h3⟩
      ·have:=firstBad_one hok h6
       omega)
   clear hp hm hg hr
   go_enter Tryz.func18,Tryz.ntmps18
   go_wp2_with (first
    | (go_at_call 28;refine hR.mono ?_;clear hR;rintro ev w2 ⟨⟨B,fb,sv,ss,rfl,hFM,hst⟩,hb2⟩;have HFM:=hide hFM;have HST:=hide hst;clear hFM hst)
    | (go_at_call 23;refine (uh HOF _ hb2).mono ?_;rintro ev w3 ⟨⟨r,ns,rfl,HM⟩,hb3⟩))
   refine bodyPost_ret (v:=.tuple #[.pointer (some ⟨fb,0,none⟩),.pointer (some ⟨r.nb,0,none⟩),.nilIface]) (by simp [results,Tryz.results18,go_sem]) rfl ⟨⟨B,fb,sv,ss,_,r,ns,rfl,(uh HFM).below hb3,uh HST,(uh HM).2,(uh HM).1⟩,hb2.trans (hb3.mono hb2.size)⟩
abbrev img0:Value:=.agg #[.slice none 0 0,.string ⟨#[]⟩,.slice none 0 0]
def LmOut (w':World) (e:Ending) (x:Except (Nat × Nat) (List Ent × List UInt8)):Prop:=match x with
 | .error (k,pl)=>∃ q:Nat,e=.returned (.tuple #[img0,.iface 80 (.pointer (some ⟨q,0,none⟩))])∧w'.heap[q]?=some (.cells #[.int .i64 (k:Int),.int .i64 (pl:Int)] 84 (0,0))
 | .ok (t,wk)=>∃ v,e=.returned (.tuple #[v,.nilIface])∧ImgV w' v t wk
set_option maxHeartbeats 4000000 in
set_option maxRecDepth 10000 in
theorem lmake_bad (s:ByteArray) (ao:Option Addr) (n cap:Nat) (es:List Ent) (m:Int) (w:World) (k p:Nat) (hp:parseG s.data.toList=.error (k,p)) (hr:ERow w ao es) (HN:Hid (n=es.length)) (hn:n≤4294967280) (HS:Hid (Small es)) (hok:FirstBad es (-1)) (hm:w.cell? ⟨14,0,none⟩=some (.int .i64 m)) (hg:w.cell? ⟨0,0,none⟩=some (.iface 168 (.agg #[.pointer (some ⟨22,47,none⟩)]))) :
  Calls Tryz.prog 12 #[.string s,.slice ao n cap] w fun e w'=>LmOut w' e (.error (k,p))∧Below w.heap.size w w':=by
 obtain ⟨W0,hW0⟩:∃ W0,W0=w.alloc (.cells #[.slice none 0 0,.string ⟨#[]⟩,.slice none 0 0] 30):=⟨_,rfl⟩
 have hb0:Below w.heap.size w W0:=by rw [hW0];exact (Below.refl _ _).alloc (Nat.le_refl _) _
 have hc0:W0.heap[w.heap.size]?=some (.cells #[.slice none 0 0,.string ⟨#[]⟩,.slice none 0 0] 30 (0,0)):=by rw [hW0];exact heap_alloc_new _ _
 have hR:=readBuild_any s ao n cap es m W0 (hr.below hb0) HN hn HS hok (cell_later hb0 hm) (cell_later hb0 hg)
 rw [hp] at hR
 unfold RbOut at hR
 dsimp only at hR
 have hes:=er_some
 have hen:=er_nil
 have hea:=er_at
 have HC:=hide hc0
 clear hp hr hm hg hc0
 go_enter Tryz.func12,Tryz.ntmps12
 go_upto_region 1 with fail
 rw [←hW0]
 clear hW0
 go_upto_region 2 with (go_at_call 18;refine hR.mono ?_;clear hR;rintro e1 w1 ⟨⟨q,rfl,hq⟩,hb1⟩)
 have hc1:=(hb1.block _ (Array.getElem?_eq_some_iff.1 (uh HC)).1).trans (uh HC)
 have f0:=frozen_of_row w1 w.heap.size 0 _ _ hc1
 have f1:=frozen_of_row w1 w.heap.size 1 _ _ hc1
 have f2:=frozen_of_row w1 w.heap.size 2 _ _ hc1
 have r0:w1.cell? ⟨w.heap.size,0,none⟩=some (.slice none 0 0):=cq 0 hc1
 have r1:w1.cell? ⟨w.heap.size,1,none⟩=some (.string ⟨#[]⟩):=cq 1 hc1
 have r2:w1.cell? ⟨w.heap.size,2,none⟩=some (.slice none 0 0):=cq 2 hc1
 have HC1:=hide hc1
 have HQ:=hide hq
 clear hc1 hq
 go_wp2_with fail
 obtain ⟨W9,hW9⟩:∃ W9,W9=((w1.setCell ⟨w.heap.size,0,none⟩ (.slice none 0 0)).setCell ⟨w.heap.size,1,none⟩ (.string ⟨#[]⟩)).setCell ⟨w.heap.size,2,none⟩ (.slice none 0 0):=⟨_,rfl⟩
 rw [←hW9]
 have hr9:W9.heap[w.heap.size]?=some (.cells #[.slice none 0 0,.string ⟨#[]⟩,.slice none 0 0] 30 (0,0)):=by rw [hW9];exact set3i _ _ _ (uh HC1)
 have d0:W9.cell? ⟨w.heap.size,0,none⟩=some (.slice none 0 0):=cq 0 hr9
 have d1:W9.cell? ⟨w.heap.size,1,none⟩=some (.string ⟨#[]⟩):=cq 1 hr9
 have d2:W9.cell? ⟨w.heap.size,2,none⟩=some (.slice none 0 0):=cq 2 hr9
 have hb9:Below w.heap.size w W9:=by
  rw [hW9]
  exact (((hb0.trans (hb1.mono hb0.size)).setCell (Nat.le_refl _) _).setCell (Nat.le_refl _) _).setCell (Nat.le_refl _) _
 have hq9:W9.heap[q]?=some (.cells #[.int .i64 (k:Int),.int .i64 (p:Int)] 84 (0,0)):=by
  have hne:q≠w.heap.size:=fun e=>by
   have h1:=uh HQ
   rw [e] at h1
   have hh:=(uh HC1).symm.trans h1
   injection hh with hh
   injection hh with _ hh _
   cases hh
  rw [hW9,heap_setCell_other _ ⟨w.heap.size,2,none⟩ q _ hne,heap_setCell_other _ ⟨w.heap.size,1,none⟩ q _ hne,heap_setCell_other _ ⟨w.heap.size,0,none⟩ q _ hne]
  exact uh HQ
 refine bodyPost_ret (v:=.tuple #[img0,.iface 80 (.pointer (some ⟨q,0,none⟩))]) (by simp [results,Tryz.results12,go_sem,d0,d1,d2]) rfl ⟨⟨q,rfl,hq9⟩,hb9⟩
set_option maxHeartbeats 4000000 in
set_option maxRecDepth 10000 in
theorem lmake_err (s:ByteArray) (ao:Option Addr) (n cap:Nat) (es:List Ent) (m:Int) (w:World) (k p:Nat) (st:List Stg) (hp:parseG s.data.toList=.ok st) (hr:ERow w ao es) (HN:Hid (n=es.length)) (hn:n≤4294967280) (HS:Hid (Small es)) (hok:FirstBad es (-1)) (hm:w.cell? ⟨14,0,none⟩=some (.int .i64 m)) (hg:w.cell? ⟨0,0,none⟩=some (.iface 168 (.agg #[.pointer (some ⟨22,47,none⟩)])))
  (HMK:Hid (∀ (W:World) (B fb:Nat) (sv:Value) (ss:List StM) (Bs:Nat) (r:Nd) (ns:List Nd),Below w.heap.size w W→FileM W B fb sv ss→ss.map StM.stg=st→Mem W Bs r ns→entsN ns=es→Calls Tryz.prog 19 #[.pointer (some ⟨fb,0,none⟩),.pointer (some ⟨r.nb,0,none⟩),fnV 20] W fun e w'=>MadeOut w' e (.error (k,p))∧Below W.heap.size W w')) :
  Calls Tryz.prog 12 #[.string s,.slice ao n cap] w fun e w'=>LmOut w' e (.error (k,p))∧Below w.heap.size w w':=by
 obtain ⟨W0,hW0⟩:∃ W0,W0=w.alloc (.cells #[.slice none 0 0,.string ⟨#[]⟩,.slice none 0 0] 30):=⟨_,rfl⟩
 have hb0:Below w.heap.size w W0:=by rw [hW0];exact (Below.refl _ _).alloc (Nat.le_refl _) _
 have hc0:W0.heap[w.heap.size]?=some (.cells #[.slice none 0 0,.string ⟨#[]⟩,.slice none 0 0] 30 (0,0)):=by rw [hW0];exact heap_alloc_new _ _
 have hR:=readBuild_any s ao n cap es m W0 (hr.below hb0) HN hn HS hok (cell_later hb0 hm) (cell_later hb0 hg)
 rw [hp] at hR
 unfold RbOut at hR
 dsimp only at hR
 have hes:=er_some
 have hen:=er_nil
 have hea:=er_at
 have HC:=hide hc0
 clear hp hr hm hg hc0
 go_enter Tryz.func12,Tryz.ntmps12
 go_upto_region 1 with fail
 rw [←hW0]
 clear hW0
 go_upto_region 5 with (first
  | (go_at_call 18;refine hR.mono ?_;clear hR;rintro e0 w0 ⟨⟨Bf,fb,sv,ss,Bs,r,ns,rfl,hF,hst,hM,hen2⟩,hb00⟩;have hMk:=uh HMK w0 Bf fb sv ss Bs r ns (hb0.trans (hb00.mono hb0.size)) hF hst hM hen2;clear hF hst hM hen2)
  | (go_at_call 19;unfold MadeOut at hMk;dsimp only at hMk;refine hMk.mono ?_;clear hMk;rintro e1 w1 ⟨⟨q,rfl,hq⟩,hb01⟩))
 have hb1:Below W0.heap.size W0 w1:=hb00.trans (hb01.mono hb00.size)
 have hc1:=(hb1.block _ (Array.getElem?_eq_some_iff.1 (uh HC)).1).trans (uh HC)
 have f0:=frozen_of_row w1 w.heap.size 0 _ _ hc1
 have f1:=frozen_of_row w1 w.heap.size 1 _ _ hc1
 have f2:=frozen_of_row w1 w.heap.size 2 _ _ hc1
 have r0:w1.cell? ⟨w.heap.size,0,none⟩=some (.slice none 0 0):=cq 0 hc1
 have r1:w1.cell? ⟨w.heap.size,1,none⟩=some (.string ⟨#[]⟩):=cq 1 hc1
 have r2:w1.cell? ⟨w.heap.size,2,none⟩=some (.slice none 0 0):=cq 2 hc1
 have HC1:=hide hc1
 have HQ:=hide hq
 clear hc1 hq
 go_wp2_with fail
 obtain ⟨W9,hW9⟩:∃ W9,W9=((w1.setCell ⟨w.heap.size,0,none⟩ (.slice none 0 0)).setCell ⟨w.heap.size,1,none⟩ (.string ⟨#[]⟩)).setCell ⟨w.heap.size,2,none⟩ (.slice none 0 0):=⟨_,rfl⟩
 rw [←hW9]
 have hr9:W9.heap[w.heap.size]?=some (.cells #[.slice none 0 0,.string ⟨#[]⟩,.slice none 0 0] 30 (0,0)):=by rw [hW9];exact set3i _ _ _ (uh HC1)
 have d0:W9.cell? ⟨w.heap.size,0,none⟩=some (.slice none 0 0):=cq 0 hr9
 have d1:W9.cell? ⟨w.heap.size,1,none⟩=some (.string ⟨#[]⟩):=cq 1 hr9
 have d2:W9.cell? ⟨w.heap.size,2,none⟩=some (.slice none 0 0):=cq 2 hr9
 have hb9:Below w.heap.size w W9:=by
  rw [hW9]
  exact (((hb0.trans (hb1.mono hb0.size)).setCell (Nat.le_refl _) _).setCell (Nat.le_refl _) _).setCell (Nat.le_refl _) _
 have hq9:W9.heap[q]?=some (.cells #[.int .i64 (k:Int),.int .i64 (p:Int)] 84 (0,0)):=by
  have hne:q≠w.heap.size:=fun e=>by
   have h1:=uh HQ
   rw [e] at h1
   have hh:=(uh HC1).symm.trans h1
   injection hh with hh
   injection hh with _ hh _
   cases hh
  rw [hW9,heap_setCell_other _ ⟨w.heap.size,2,none⟩ q _ hne,heap_setCell_other _ ⟨w.heap.size,1,none⟩ q _ hne,heap_setCell_other _ ⟨w.heap.size,0,none⟩ q _ hne]
  exact uh HQ
 refine bodyPost_ret (v:=.tuple #[img0,.iface 80 (.pointer (some ⟨q,0,none⟩))]) (by simp [results,Tryz.results12,go_sem,d0,d1,d2]) rfl ⟨⟨q,rfl,hq9⟩,hb9⟩
set_option maxHeartbeats 4000000 in
set_option maxRecDepth 10000 in
theorem lmake_ok (s:ByteArray) (ao:Option Addr) (n cap:Nat) (es:List Ent) (m:Int) (w:World) (tt:List Ent) (wk:List UInt8) (st:List Stg) (hp:parseG s.data.toList=.ok st) (hr:ERow w ao es) (HN:Hid (n=es.length)) (hn:n≤4294967280) (HS:Hid (Small es)) (hok:FirstBad es (-1)) (hm:w.cell? ⟨14,0,none⟩=some (.int .i64 m)) (hg:w.cell? ⟨0,0,none⟩=some (.iface 168 (.agg #[.pointer (some ⟨22,47,none⟩)])))
  (HMK:Hid (∀ (W:World) (B fb:Nat) (sv:Value) (ss:List StM) (Bs:Nat) (r:Nd) (ns:List Nd),Below w.heap.size w W→FileM W B fb sv ss→ss.map StM.stg=st→Mem W Bs r ns→entsN ns=es→Calls Tryz.prog 19 #[.pointer (some ⟨fb,0,none⟩),.pointer (some ⟨r.nb,0,none⟩),fnV 20] W fun e w'=>MadeOut w' e (.ok (tt,wk))∧Below W.heap.size W w')) :
  Calls Tryz.prog 12 #[.string s,.slice ao n cap] w fun e w'=>LmOut w' e (.ok (tt,wk))∧Below w.heap.size w w':=by
 obtain ⟨W0,hW0⟩:∃ W0,W0=w.alloc (.cells #[.slice none 0 0,.string ⟨#[]⟩,.slice none 0 0] 30):=⟨_,rfl⟩
 have hb0:Below w.heap.size w W0:=by rw [hW0];exact (Below.refl _ _).alloc (Nat.le_refl _) _
 have hc0:W0.heap[w.heap.size]?=some (.cells #[.slice none 0 0,.string ⟨#[]⟩,.slice none 0 0] 30 (0,0)):=by rw [hW0];exact heap_alloc_new _ _
 have hR:=readBuild_any s ao n cap es m W0 (hr.below hb0) HN hn HS hok (cell_later hb0 hm) (cell_later hb0 hg)
 rw [hp] at hR
 unfold RbOut at hR
 dsimp only at hR
 have hes:=er_some
 have hen:=er_nil
 have hea:=er_at
 have HC:=hide hc0
 clear hp hr hm hg hc0
 go_enter Tryz.func12,Tryz.ntmps12
 go_upto_region 1 with fail
 rw [←hW0]
 clear hW0
 go_upto_region 5 with (first
  | (go_at_call 18;refine hR.mono ?_;clear hR;rintro e0 w0 ⟨⟨Bf,fb,sv,ss,Bs,r,ns,rfl,hF,hst,hM,hen2⟩,hb00⟩;have hMk:=uh HMK w0 Bf fb sv ss Bs r ns (hb0.trans (hb00.mono hb0.size)) hF hst hM hen2;clear hF hst hM hen2)
  | (go_at_call 19;unfold MadeOut at hMk;dsimp only at hMk;refine hMk.mono ?_;clear hMk;rintro e1 w01 ⟨⟨B1,sb,rfl,hq⟩,hb01⟩))
 have hb001:Below W0.heap.size W0 w01:=hb00.trans (hb01.mono hb00.size)
 have hIm:=image_any sb B1 tt wk w01 hq
 clear hq
 have HFC:Hid (∀ W,Below w01.heap.size w01 W→W.heap[w.heap.size]?=some (.cells #[.slice none 0 0,.string ⟨#[]⟩,.slice none 0 0] 30 (0,0))):=hide (fun W hb=>by
  have hb2:Below W0.heap.size W0 W:=hb001.trans (hb.mono hb001.size)
  exact (hb2.block _ (Array.getElem?_eq_some_iff.1 (uh HC)).1).trans (uh HC))
 go_wp2_with (go_at_call 21;refine hIm.mono ?_;clear hIm;rintro e2 w1 ⟨⟨v,rfl,s2,ao2,n2,c2,rfl,h47,hnn,hER⟩,hb2⟩;have hc1:=uh HFC w1 hb2;have f0:=frozen_of_row w1 w.heap.size 0 _ _ hc1;have f1:=frozen_of_row w1 w.heap.size 1 _ _ hc1;have f2:=frozen_of_row w1 w.heap.size 2 _ _ hc1;have r0:w1.cell? ⟨w.heap.size,0,none⟩=some (.slice none 0 0):=cq 0 hc1;have r1:w1.cell? ⟨w.heap.size,1,none⟩=some (.string ⟨#[]⟩):=cq 1 hc1;have r2:w1.cell? ⟨w.heap.size,2,none⟩=some (.slice none 0 0):=cq 2 hc1;have HC1:=hide hc1;have HNN:=hide hnn;have HER:=hide hER;clear hc1 hnn hER)
 obtain ⟨W9,hW9⟩:∃ W9,W9=((w1.setCell ⟨w.heap.size,0,none⟩ (.slice none 0 0)).setCell ⟨w.heap.size,1,none⟩ (.string s2)).setCell ⟨w.heap.size,2,none⟩ (.slice ao2 n2 c2):=⟨_,rfl⟩
 rw [←hW9]
 have hr9:W9.heap[w.heap.size]?=some (.cells #[.slice none 0 0,.string s2,.slice ao2 n2 c2] 30 (0,0)):=by rw [hW9];exact set3i _ _ _ (uh HC1)
 have d0:W9.cell? ⟨w.heap.size,0,none⟩=some (.slice none 0 0):=cq 0 hr9
 have d1:W9.cell? ⟨w.heap.size,1,none⟩=some (.string s2):=cq 1 hr9
 have d2:W9.cell? ⟨w.heap.size,2,none⟩=some (.slice ao2 n2 c2):=cq 2 hr9
 have hb1:Below W0.heap.size W0 w1:=hb001.trans (hb2.mono hb001.size)
 have hb9:Below w.heap.size w W9:=by
  rw [hW9]
  exact (((hb0.trans (hb1.mono hb0.size)).setCell (Nat.le_refl _) _).setCell (Nat.le_refl _) _).setCell (Nat.le_refl _) _
 have hE9:ERow W9 ao2 tt:=by rw [hW9];exact erow_off (uh HER) (uh HC1)
 refine bodyPost_ret (v:=.tuple #[.agg #[.slice none 0 0,.string s2,.slice ao2 n2 c2],.nilIface]) (by simp [results,Tryz.results12,go_sem,d0,d1,d2]) rfl ⟨⟨_,rfl,s2,ao2,n2,c2,rfl,h47,uh HNN,hE9⟩,hb9⟩
def Gx (w':World) (s2:ByteArray) (ao2:Option Addr) (n2 c2:Nat) (x:Except (Nat × Nat) (List Ent × List UInt8)):Prop:=match x with
 | .error _=>s2=⟨#[]⟩∧ao2=none∧n2=0∧c2=0
 | .ok (t,wk)=>s2.data.toList=47 :: wk∧n2=t.length∧ERow w' ao2 t
theorem Gx.below {w w':World}{s2:ByteArray}{ao2:Option Addr}{n2 c2:Nat}{x:Except (Nat × Nat) (List Ent × List UInt8)}(h:Gx w s2 ao2 n2 c2 x) (hb:Below w.heap.size w w'):Gx w' s2 ao2 n2 c2 x:=by
 unfold Gx at *
 match x,h with
 | .error _,h=>exact h
 | .ok (t,wk),⟨h1,h2,h3⟩=>exact ⟨h1,h2,h3.below hb⟩
theorem Gx.off {w:World}{b:Nat}{v0 v1 v2:Value}{s2:ByteArray}{ao2:Option Addr}{n2 c2:Nat}{x:Except (Nat × Nat) (List Ent × List UInt8)}(h:Gx w s2 ao2 n2 c2 x) (hb:w.heap[b]?=some (.cells #[.slice none 0 0,.string ⟨#[]⟩,.slice none 0 0] 30 (0,0))):Gx (((w.setCell ⟨b,0,none⟩ v0).setCell ⟨b,1,none⟩ v1).setCell ⟨b,2,none⟩ v2) s2 ao2 n2 c2 x:=by
 unfold Gx at *
 match x,h with
 | .error _,h=>exact h
 | .ok (t,wk),⟨h1,h2,h3⟩=>exact ⟨h1,h2,erow_off h3 hb⟩
set_option maxHeartbeats 4000000 in
set_option maxRecDepth 10000 in
theorem pmake_core (s:ByteArray) (ao:Option Addr) (n cap:Nat) (k pl:Int) (x:Except (Nat × Nat) (List Ent × List UInt8)) (w:World)
  (HL:Hid (∀ W,Below w.heap.size w W→Calls Tryz.prog 12 #[.string s,.slice ao n cap] W fun e w'=>(∃ (s2:ByteArray) (ao2:Option Addr) (n2 c2:Nat) (er:Value),e=.returned (.tuple #[.agg #[.slice none 0 0,.string s2,.slice ao2 n2 c2],er])∧Hid (Gx w' s2 ao2 n2 c2 x)∧Hid (∀ W2,Below w'.heap.size w' W2→Calls Tryz.prog 13 #[er] W2 fun e w''=>e=.returned (.tuple #[.int .i64 k,.int .i64 pl])∧Below W2.heap.size W2 w''))∧Below W.heap.size W w')) :
  Calls Tryz.prog 5 #[.string s,.slice ao n cap] w fun e w'=>(∃ (s2:ByteArray) (ao2:Option Addr) (n2 c2:Nat),e=.returned (.tuple #[.agg #[.slice none 0 0,.string s2,.slice ao2 n2 c2],.int .i64 k,.int .i64 pl])∧Gx w' s2 ao2 n2 c2 x)∧Below w.heap.size w w':=by
 obtain ⟨W0,hW0⟩:∃ W0,W0=w.alloc (.cells #[.slice none 0 0,.string ⟨#[]⟩,.slice none 0 0] 30):=⟨_,rfl⟩
 have hb0:Below w.heap.size w W0:=by rw [hW0];exact (Below.refl _ _).alloc (Nat.le_refl _) _
 have hc0:W0.heap[w.heap.size]?=some (.cells #[.slice none 0 0,.string ⟨#[]⟩,.slice none 0 0] 30 (0,0)):=by rw [hW0];exact heap_alloc_new _ _
 have hL:=uh HL W0 hb0
 have HC:=hide hc0
 clear hc0 HL
 go_enter Tryz.func5,Tryz.ntmps5
 go_upto_region 1 with fail
 rw [←hW0]
 clear hW0
 go_upto_region 2 with (go_at_call 12;refine hL.mono ?_;clear hL;rintro e1 w1 ⟨⟨s2,ao2,n2,c2,er,rfl,HG,HT⟩,hb1⟩)
 obtain ⟨W2,hW2⟩:∃ W2,W2=w1.alloc (.cells #[.slice none 0 0,.string s2,.slice ao2 n2 c2] 30):=⟨_,rfl⟩
 have hb2:Below w1.heap.size w1 W2:=by rw [hW2];exact (Below.refl _ _).alloc (Nat.le_refl _) _
 have hc2:W2.heap[w1.heap.size]?=some (.cells #[.slice none 0 0,.string s2,.slice ao2 n2 c2] 30 (0,0)):=by rw [hW2];exact heap_alloc_new _ _
 have hT:=uh HT W2 hb2
 have hb02:Below W0.heap.size W0 W2:=hb1.trans (hb2.mono hb1.size)
 have HC2:=hide hc2
 clear hc2 HT
 rw [←hW2]
 clear hW2
 go_upto_region 3 with (go_at_call 13;refine hT.mono ?_;clear hT;rintro e2 w3 ⟨rfl,hb3⟩)
 have hb03:Below W0.heap.size W0 w3:=hb02.trans (hb3.mono hb02.size)
 have hc3:=(hb03.block _ (Array.getElem?_eq_some_iff.1 (uh HC)).1).trans (uh HC)
 have hd3:=(hb3.block _ (Array.getElem?_eq_some_iff.1 (uh HC2)).1).trans (uh HC2)
 have f0:=frozen_of_row w3 w.heap.size 0 _ _ hc3
 have f1:=frozen_of_row w3 w.heap.size 1 _ _ hc3
 have f2:=frozen_of_row w3 w.heap.size 2 _ _ hc3
 have r0:w3.cell? ⟨w.heap.size,0,none⟩=some (.slice none 0 0):=cq 0 hc3
 have r1:w3.cell? ⟨w.heap.size,1,none⟩=some (.string ⟨#[]⟩):=cq 1 hc3
 have r2:w3.cell? ⟨w.heap.size,2,none⟩=some (.slice none 0 0):=cq 2 hc3
 have q0:w3.cell? ⟨w1.heap.size,0,none⟩=some (.slice none 0 0):=cq 0 hd3
 have q1:w3.cell? ⟨w1.heap.size,1,none⟩=some (.string s2):=cq 1 hd3
 have q2:w3.cell? ⟨w1.heap.size,2,none⟩=some (.slice ao2 n2 c2):=cq 2 hd3
 have HC3:=hide hc3
 clear hc3 hd3
 go_wp2_with fail
 obtain ⟨W9,hW9⟩:∃ W9,W9=((w3.setCell ⟨w.heap.size,0,none⟩ (.slice none 0 0)).setCell ⟨w.heap.size,1,none⟩ (.string s2)).setCell ⟨w.heap.size,2,none⟩ (.slice ao2 n2 c2):=⟨_,rfl⟩
 rw [←hW9]
 have hr9:W9.heap[w.heap.size]?=some (.cells #[.slice none 0 0,.string s2,.slice ao2 n2 c2] 30 (0,0)):=by rw [hW9];exact set3i _ _ _ (uh HC3)
 have d0:W9.cell? ⟨w.heap.size,0,none⟩=some (.slice none 0 0):=cq 0 hr9
 have d1:W9.cell? ⟨w.heap.size,1,none⟩=some (.string s2):=cq 1 hr9
 have d2:W9.cell? ⟨w.heap.size,2,none⟩=some (.slice ao2 n2 c2):=cq 2 hr9
 have hb9:Below w.heap.size w W9:=by
  rw [hW9]
  exact (((hb0.trans (hb03.mono hb0.size)).setCell (Nat.le_refl _) _).setCell (Nat.le_refl _) _).setCell (Nat.le_refl _) _
 have hG9:Gx W9 s2 ao2 n2 c2 x:=by rw [hW9];exact (((uh HG).below hb2).below hb3).off (uh HC3)
 refine bodyPost_ret (v:=.tuple #[.agg #[.slice none 0 0,.string s2,.slice ao2 n2 c2],.int .i64 k,.int .i64 pl]) (by simp [results,Tryz.results5,go_sem,d0,d1,d2]) rfl ⟨⟨s2,ao2,n2,c2,rfl,hG9⟩,hb9⟩
def numX (x:Except (Nat × Nat) (List Ent × List UInt8)):Int:=match x with
 | .error (k,_)=>k
 | .ok _=>0
def plX (x:Except (Nat × Nat) (List Ent × List UInt8)):Int:=match x with
 | .error (_,p)=>p
 | .ok _=>-1
theorem lm_to {w':World}{e:Ending}{x:Except (Nat × Nat) (List Ent × List UInt8)}(h:LmOut w' e x) (hg:w'.cell? ⟨0,0,none⟩=some (.iface 168 (.agg #[.pointer (some ⟨22,47,none⟩)]))) :
  ∃ (s2:ByteArray) (ao2:Option Addr) (n2 c2:Nat) (er:Value),e=.returned (.tuple #[.agg #[.slice none 0 0,.string s2,.slice ao2 n2 c2],er])∧Hid (Gx w' s2 ao2 n2 c2 x)∧Hid (∀ W2,Below w'.heap.size w' W2→Calls Tryz.prog 13 #[er] W2 fun e w''=>e=.returned (.tuple #[.int .i64 (numX x),.int .i64 (plX x)])∧Below W2.heap.size W2 w''):=by
 unfold LmOut at h
 match x,h with
 | .error (k,pl),⟨q,he,hq⟩=>
   refine ⟨_,_,_,_,_,he,hide ⟨rfl,rfl,rfl,rfl⟩,hide fun W2 hb=>?_⟩
   have hq2:=(hb.block q (Array.getElem?_eq_some_iff.1 hq).1).trans hq
   exact tell_at q _ _ W2 (cell_later hb hg) (cq 0 hq2) (cq 1 hq2)
 | .ok (t,wk),⟨v,he,s2,ao2,n2,c2,hv,h1,h2,h3⟩=>
   subst hv
   exact ⟨s2,ao2,n2,c2,_,he,hide ⟨h1,h2,h3⟩,hide fun W2 _=>tell_nil W2⟩
theorem pmake_any (s:ByteArray) (ao:Option Addr) (n cap:Nat) (x:Except (Nat × Nat) (List Ent × List UInt8)) (w:World) (hg:w.cell? ⟨0,0,none⟩=some (.iface 168 (.agg #[.pointer (some ⟨22,47,none⟩)])))
  (HL:∀ W,Below w.heap.size w W→Calls Tryz.prog 12 #[.string s,.slice ao n cap] W fun e w'=>LmOut w' e x∧Below W.heap.size W w') :
  Calls Tryz.prog 5 #[.string s,.slice ao n cap] w fun e w'=>(∃ (s2:ByteArray) (ao2:Option Addr) (n2 c2:Nat),e=.returned (.tuple #[.agg #[.slice none 0 0,.string s2,.slice ao2 n2 c2],.int .i64 (numX x),.int .i64 (plX x)])∧Gx w' s2 ao2 n2 c2 x)∧Below w.heap.size w w':=
 pmake_core s ao n cap _ _ x w (hide fun W hb=>(HL W hb).mono fun _ _ ⟨h1,h2⟩=>⟨lm_to h1 (cell_later h2 (cell_later hb hg)),h2⟩)
def ruleI (x:Ins):Nat:=match x.ws[0]? with
 | some y=>(opW y.atoms).getD 0
 | none=>0
def opsI (x:Ins):List (List UInt8):=(x.ws.drop 1).map fun y=>txtP (parts y.atoms)
def placeI (x:Ins):Nat:=match x.ws[0]? with
 | some y=>y.place
 | none=>0
def insOkB (x:Ins):Bool:=x.stage==-1&&(x.ws.drop 1).all (fun y=>(parts y.atoms).all fun p=>!p.isVar)&&x.ws.all (fun y=>decide (szP (parts y.atoms)≤1000000))&&(opsI x).all (fun u=>decide (u.length≤180))&&!x.ws.isEmpty
def runI (cx:List Ent):List Ins→List Ent→List UInt8→Except (Nat × Nat) (List Ent × List UInt8)
 | [],t,wk=>.ok (t,wk)
 | x :: l,t,wk=>match actG cx t wk (ruleI x) (opsI x) with
   | .error k=>.error (k,placeI x)
   | .ok (t',wk')=>runI cx l t' wk'
def runOkI (cx:List Ent):List Ins→List Ent→List UInt8→Bool
 | [],_,_=>true
 | x :: l,t,wk=>insOkB x&&supG cx t wk (ruleI x) (opsI x)&&match actG cx t wk (ruleI x) (opsI x) with
   | .error _=>true
   | .ok (t',wk')=>decide (t'.length≤40)&&runOkI cx l t' wk'
theorem ins_rule {m:InM}{w:World}{B:Nat}(h:m.Ok w B):ruleI m.ins=m.rule:=by
 have ho:=h.op
 unfold ruleI InM.ins
 simp only [List.getElem?_map]
 cases hx:m.ws[0]? with
 | none=>rw [hx] at ho;cases ho
 | some y=>
   rw [hx] at ho
   simp only [Option.map_some] at ho ⊢
   show (opW y.xs).getD 0=_
   rw [ho];rfl
theorem ins_ops (m:InM):opsI m.ins=opsT m.ws:=by
 unfold opsI opsT InM.ins
 simp only [←List.map_drop,List.map_map]
 rfl
theorem ins_place (m:InM):placeI m.ins=placeM m:=by
 unfold placeI placeM InM.ins
 simp only [List.getElem?_map]
 cases m.ws[0]? <;> rfl
theorem ins_ok {m:InM}(h:insOkB m.ins=true):InsOk m∧m.ws≠[]:=by
 unfold insOkB at h
 simp only [Bool.and_eq_true] at h
 obtain ⟨⟨⟨⟨h1,h2⟩,h3⟩,h4⟩,h5⟩:=h
 refine ⟨⟨?_,fun y hy p hp=>?_,fun y hy=>?_,fun u hu=>?_⟩,fun e=>?_⟩
 ·exact eq_of_beq h1
 ·have:=List.all_eq_true.1 h2 y.wd (by unfold InM.ins;simp only [←List.map_drop];exact List.mem_map.2 ⟨y,hy,rfl⟩)
  have:=List.all_eq_true.1 this p hp
  simpa using this
 ·have:=List.all_eq_true.1 h3 y.wd (List.mem_map.2 ⟨y,hy,rfl⟩)
  exact of_decide_eq_true this
 ·rw [ins_ops] at h4
  exact of_decide_eq_true (List.all_eq_true.1 h4 u hu)
 ·unfold InM.ins at h5;rw [e] at h5;simp at h5
theorem runG_I (cx:List Ent) (w:World) (B:Nat):∀ (l:List InM) (t:List Ent) (wk:List UInt8),(∀ m∈l,m.Ok w B)→runG cx l t wk=runI cx (l.map InM.ins) t wk
 | [],_,_,_=>rfl
 | m :: l,t,wk,h=>by
   show (match actG cx t wk m.rule (opsT m.ws) with | .error k=>(Except.error (k,placeM m):Except (Nat × Nat) (List Ent × List UInt8)) | .ok (t',wk')=>runG cx l t' wk')=(match actG cx t wk (ruleI m.ins) (opsI m.ins) with | .error k=>(Except.error (k,placeI m.ins):Except (Nat × Nat) (List Ent × List UInt8)) | .ok (t',wk')=>runI cx (l.map InM.ins) t' wk')
   rw [ins_rule (h m (List.mem_cons_self ..)),ins_ops,ins_place]
   cases actG cx t wk m.rule (opsT m.ws) with
   | error k=>rfl
   | ok p=>exact runG_I cx w B l p.1 p.2 fun x hx=>h x (List.mem_cons_of_mem _ hx)
theorem runOk_I (cx:List Ent) (w:World) (B:Nat):∀ (l:List InM) (t:List Ent) (wk:List UInt8),(∀ m∈l,m.Ok w B)→runOkI cx (l.map InM.ins) t wk=true→runOk cx l t wk
 | [],_,_,_,_=>trivial
 | m :: l,t,wk,h,hr=>by
   have hr':(insOkB m.ins&&supG cx t wk (ruleI m.ins) (opsI m.ins)&&match actG cx t wk (ruleI m.ins) (opsI m.ins) with | .error _=>true | .ok (t',wk')=>decide (t'.length≤40)&&runOkI cx (l.map InM.ins) t' wk')=true:=hr
   rw [ins_rule (h m (List.mem_cons_self ..)),ins_ops] at hr'
   simp only [Bool.and_eq_true] at hr'
   obtain ⟨⟨h1,h2⟩,h3⟩:=hr'
   refine ⟨ins_ok h1,h2,?_⟩
   cases ha:actG cx t wk m.rule (opsT m.ws) with
   | error k=>trivial
   | ok p=>
     rw [ha] at h3
     simp only [Bool.and_eq_true,decide_eq_true_eq] at h3
     exact ⟨h3.1,runOk_I cx w B l p.1 p.2 (fun x hx=>h x (List.mem_cons_of_mem _ hx)) h3.2⟩
def makeG (cx:List Ent) (l:List UInt8):Except (Nat × Nat) (List Ent × List UInt8):=match parseG l with
 | .error (k,p)=>.error (k,p)
 | .ok st=>match st[st.length-1]? with
   | some g=>runI cx g.ins [] []
   | none=>.ok ([],[])
def makeOk (cx:List Ent) (l:List UInt8):Bool:=match parseG l with
 | .error _=>true
 | .ok st=>match st[st.length-1]? with
   | some g=>g.ins.all (fun x=>x.stage==-1)&&runOkI cx g.ins [] []
   | none=>false
theorem lmake_any (s:ByteArray) (ao:Option Addr) (n cap:Nat) (es:List Ent) (m:Int) (w:World) (hr:ERow w ao es) (HN:Hid (n=es.length)) (hn:n≤4294967280) (HS:Hid (Small es)) (hok:FirstBad es (-1)) (hm:w.cell? ⟨14,0,none⟩=some (.int .i64 m)) (hg:w.cell? ⟨0,0,none⟩=some (.iface 168 (.agg #[.pointer (some ⟨22,47,none⟩)])))
  (HT:TreeS es) (hC:∀ Bs r ns,entsN ns=es→CbAll Bs r ns) (hmo:makeOk es s.data.toList=true) :
  Calls Tryz.prog 12 #[.string s,.slice ao n cap] w fun e w'=>LmOut w' e (makeG es s.data.toList)∧Below w.heap.size w w':=by
 unfold makeG
 unfold makeOk at hmo
 cases hp:parseG s.data.toList with
 | error kp=>
   obtain ⟨k,p⟩:=kp
   exact lmake_bad s ao n cap es m w k p hp hr HN hn HS hok hm hg
 | ok st=>
   rw [hp] at hmo
   simp only at hmo ⊢
   obtain ⟨hF,hne⟩:=parse_fwd hp
   cases hl:st[st.length-1]? with
   | none=>rw [hl] at hmo;cases hmo
   | some g=>
     rw [hl] at hmo
     simp only [Bool.and_eq_true] at hmo ⊢
     obtain ⟨hst1,hrun⟩:=hmo
     have HMK:Hid (∀ (W:World) (B fb:Nat) (sv:Value) (ss:List StM) (Bs:Nat) (r:Nd) (ns:List Nd),Below w.heap.size w W→FileM W B fb sv ss→ss.map StM.stg=st→Mem W Bs r ns→entsN ns=es→Calls Tryz.prog 19 #[.pointer (some ⟨fb,0,none⟩),.pointer (some ⟨r.nb,0,none⟩),fnV 20] W fun e w'=>MadeOut w' e (runI es g.ins [] [])∧Below W.heap.size W w'):=hide (fun W B fb sv ss Bs r ns hb hFM hss hM hen=>by
      have hlen:st.length=ss.length:=by rw [←hss,List.length_map]
      have hpos:=List.length_pos_iff.2 hne
      have hgs:(ss.map StM.stg)[st.length-1]?=some g:=by rw [hss];exact hl
      rw [List.getElem?_map] at hgs
      obtain ⟨s0,hs0,hs1⟩:=Option.map_eq_some_iff.1 hgs
      subst hs1
      have hmem:=List.mem_of_getElem? hs0
      have hall:=(hFM.all s0 hmem).all
      have hin:s0.stg.ins=s0.ins.map InM.ins:=rfl
      have:=make_any fb B Bs (st.length-1) sv ss s0 r ns m W hFM (by rw [hss];exact hF) (by omega) hs0 (fun x hx=>by
       have:=List.all_eq_true.1 hst1 x.ins (by rw [hin];exact List.mem_map.2 ⟨x,hx,rfl⟩)
       exact eq_of_beq this) hM (hide (by rw [hen];exact HT)) (cell_later hb hm) (cell_later hb hg) (hC Bs r ns hen) (by
        rw [hen]
        exact runOk_I es W B s0.ins [] [] hall (by rw [←hin];exact hrun))
      rw [hen,runG_I es W B s0.ins [] [] hall,←hin] at this
      exact this)
     cases hx:runI es g.ins [] [] with
     | error kp=>
       obtain ⟨k,p⟩:=kp
       rw [hx] at HMK
       exact lmake_err s ao n cap es m w k p st hp hr HN hn HS hok hm hg HMK
     | ok tw=>
       obtain ⟨t,wk⟩:=tw
       rw [hx] at HMK
       exact lmake_ok s ao n cap es m w t wk st hp hr HN hn HS hok hm hg HMK
theorem plain_make (s:ByteArray) (ao:Option Addr) (n cap:Nat) (es:List Ent) (m:Int) (w:World) (hr:ERow w ao es) (HN:Hid (n=es.length)) (hn:n≤4294967280) (HS:Hid (Small es)) (hok:FirstBad es (-1)) (hm:w.cell? ⟨14,0,none⟩=some (.int .i64 m)) (hg:w.cell? ⟨0,0,none⟩=some (.iface 168 (.agg #[.pointer (some ⟨22,47,none⟩)])))
  (HT:TreeS es) (hC:∀ Bs r ns,entsN ns=es→CbAll Bs r ns) (hmo:makeOk es s.data.toList=true) :
  Calls Tryz.prog 5 #[.string s,.slice ao n cap] w fun e w'=>(∃ (s2:ByteArray) (ao2:Option Addr) (n2 c2:Nat),e=.returned (.tuple #[.agg #[.slice none 0 0,.string s2,.slice ao2 n2 c2],.int .i64 (numX (makeG es s.data.toList)),.int .i64 (plX (makeG es s.data.toList))])∧Gx w' s2 ao2 n2 c2 (makeG es s.data.toList))∧Below w.heap.size w w':=
 pmake_any s ao n cap _ w hg fun W hb=>lmake_any s ao n cap es m W (hr.below hb) HN hn HS hok (cell_later hb hm) (cell_later hb hg) HT hC hmo
def cxK:List Ent:=[⟨⟨#[115,114,99]⟩,1,493,⟨#[]⟩⟩,⟨⟨#[115,114,99,47,109,97,105,110]⟩,2,420,⟨#[104,105]⟩⟩]
def txA:List UInt8:=[70,82,79,77,32,115,99,114,97,116,99,104,10,67,79,80,89,32,115,114,99,32,47,97,112,112,10]
theorem kokA:makeOk cxK txA=true:=by kernel_rfl
theorem knuA:numX (makeG cxK txA)=0:=by kernel_rfl
theorem kplA:plX (makeG cxK txA)=(-1):=by kernel_rfl
def txB:List UInt8:=[70,82,79,77,32,98,97,115,101,10]
theorem kokB:makeOk cxK txB=true:=by kernel_rfl
theorem knuB:numX (makeG cxK txB)=6:=by kernel_rfl
theorem kplB:plX (makeG cxK txB)=5:=by kernel_rfl
def txC:List UInt8:=[70,82,79,77,32,115,99,114,97,116,99,104,10,82,77,32,120,10]
theorem kokC:makeOk cxK txC=true:=by kernel_rfl
theorem knuC:numX (makeG cxK txC)=8:=by kernel_rfl
theorem kplC:plX (makeG cxK txC)=13:=by kernel_rfl
def txD:List UInt8:=[70,82,79,77,32,115,99,114,97,116,99,104,10,77,75,68,73,82,32,36,65,10]
theorem kokD:makeOk cxK txD=true:=by kernel_rfl
theorem knuD:numX (makeG cxK txD)=7:=by kernel_rfl
theorem kplD:plX (makeG cxK txD)=19:=by kernel_rfl
def txE:List UInt8:=[77,75,68,73,82,32,97,10]
theorem kokE:makeOk cxK txE=true:=by kernel_rfl
theorem knuE:numX (makeG cxK txE)=5:=by kernel_rfl
theorem kplE:plX (makeG cxK txE)=0:=by kernel_rfl
def txF:List UInt8:=[70,82,79,77,32,115,99,114,97,116,99,104,10,67,79,80,89,32,115,114,99,47,109,97,105,110,32,97,10,77,75,68,73,82,32,97,47,98,10]
theorem kokF:makeOk cxK txF=true:=by kernel_rfl
theorem knuF:numX (makeG cxK txF)=9:=by kernel_rfl
theorem kplF:plX (makeG cxK txF)=29:=by kernel_rfl
def txG:List UInt8:=[70,82,79,77,32,115,99,114,97,116,99,104,32,65,83,32,97,10,82,77,32,120,10,70,82,79,77,32,115,99,114,97,116,99,104,10,77,75,68,73,82,32,121,10]
theorem kokG:makeOk cxK txG=true:=by kernel_rfl
theorem knuG:numX (makeG cxK txG)=0:=by kernel_rfl
theorem kplG:plX (makeG cxK txG)=(-1):=by kernel_rfl
def txH:List UInt8:=[70,82,79,77,32,115,99,114,97,116,99,104,10,87,79,82,75,68,73,82,32,47,97,47,98,10,77,75,68,73,82,32,46,46,47,46,46,47,46,46,47,99,10]
theorem kokH:makeOk cxK txH=true:=by kernel_rfl
theorem knuH:numX (makeG cxK txH)=1:=by kernel_rfl
theorem kplH:plX (makeG cxK txH)=26:=by kernel_rfl
def txI:List UInt8:=[70,82,79,77,32,115,99,114,97,116,99,104,10,65,68,68,32,115,114,99,47,109,97,105,110,32,47,10]
theorem kokI:makeOk cxK txI=true:=by kernel_rfl
theorem knuI:numX (makeG cxK txI)=4:=by kernel_rfl
theorem kplI:plX (makeG cxK txI)=13:=by kernel_rfl
def txJ:List UInt8:=[70,82,79,77,32,115,99,114,97,116,99,104,10,77,75,68,73,82,32,34,97,10]
theorem kokJ:makeOk cxK txJ=true:=by kernel_rfl
theorem knuJ:numX (makeG cxK txJ)=5:=by kernel_rfl
theorem kplJ:plX (makeG cxK txJ)=19:=by kernel_rfl
theorem koutA:makeG cxK txA=.ok ([⟨⟨#[97,112,112]⟩,1,493,⟨#[]⟩⟩,⟨⟨#[97,112,112,47,109,97,105,110]⟩,2,420,⟨#[104,105]⟩⟩],[]):=by kernel_rfl
end Go.Proofs.YtehfpjcclknipaaGreatDoor.T
