import Derived.Test.YtehfpjcclknipaaGreatDoorJPnF
import Derived.Test.YtehfpjcclknipaaGreatDoorJTChl
namespace Go.Proofs.YtehfpjcclknipaaGreatDoor.T
open Go.RowKit Go.Maps
set_option maxHeartbeats 1000000 in
theorem env_any (sb:Nat) (w:World) (h:w.cell? ⟨sb,2,none⟩=some (.slice none 0 0)) :
  Calls Tryz.prog 36 #[.pointer (some ⟨sb,0,none⟩)] w fun e w'=>e=.returned (.slice none 0 0)∧Below w.heap.size w w':=by
 go_enter Tryz.func36,Tryz.ntmps36
 go_upto_region 3 with fail
 go_loopw [3,11] (fun lv iv wr=>lv=.slice none 0 0∧iv=.int .i64 0∧wr=w) (fun _ _ _=>0)
 case atStart=>exact ⟨rfl,rfl,rfl⟩
 case round=>
  obtain ⟨rfl,rfl,rfl⟩:=hrel
  go_wp2_with fail
  go_ret
  exact ⟨rfl,Below.refl _ _⟩
theorem off3 {W:World}{b sb:Nat}{v0 v1 v2 u:Value}(h:sb≠b) (hc:W.cell? ⟨sb,0,none⟩=some u):(((W.setCell ⟨b,0,none⟩ v0).setCell ⟨b,1,none⟩ v1).setCell ⟨b,2,none⟩ v2).cell? ⟨sb,0,none⟩=some u:=by
 rw [World.cell?_setCell_other _ _ _ _ (fun e=>h (by injection e with e;exact e.symm)),World.cell?_setCell_other _ _ _ _ (fun e=>h (by injection e with e;exact e.symm)),World.cell?_setCell_other _ _ _ _ (fun e=>h (by injection e with e;exact e.symm))]
 exact hc
theorem set3i {W:World}{b:Nat}{a0 a1 a2:Value}(v0 v1 v2:Value) (h:W.heap[b]?=some (.cells #[a0,a1,a2] 30 (0,0))):(((W.setCell ⟨b,0,none⟩ v0).setCell ⟨b,1,none⟩ v1).setCell ⟨b,2,none⟩ v2).heap[b]?=some (.cells #[v0,v1,v2] 30 (0,0)):=
 heap_setCell_same _ _ 2 _ _ _ (heap_setCell_same _ _ 1 _ _ _ (heap_setCell_same _ _ 0 _ _ _ h))
theorem erow_off {W:World}{b:Nat}{ao:Option Addr}{t:List Ent}{v0 v1 v2:Value}(h:ERow W ao t) (hb:W.heap[b]?=some (.cells #[.slice none 0 0,.string ⟨#[]⟩,.slice none 0 0] 30 (0,0))):ERow (((W.setCell ⟨b,0,none⟩ v0).setCell ⟨b,1,none⟩ v1).setCell ⟨b,2,none⟩ v2) ao t:=fun k e hk=>by
 obtain ⟨g,o,h1,h2,h3,h4,h5⟩:=h k e hk
 have hg:g≠b:=fun eq=>by
  subst eq
  rw [cell_of_row _ _ _ _ _ _ hb] at h3
  match hi:o+k*4+1,h3 with
  | 0,h3=>simp at h3
  | 1,h3=>simp at h3
  | 2,h3=>simp at h3
  | n+3,h3=>simp at h3
 have ho:∀ i u,W.cell? ⟨g,i,none⟩=some u→(((W.setCell ⟨b,0,none⟩ v0).setCell ⟨b,1,none⟩ v1).setCell ⟨b,2,none⟩ v2).cell? ⟨g,i,none⟩=some u:=fun i u hu=>by
  rw [World.cell?_setCell_other _ _ _ _ (fun e=>hg (by injection e with e;exact e.symm)),World.cell?_setCell_other _ _ _ _ (fun e=>hg (by injection e with e;exact e.symm)),World.cell?_setCell_other _ _ _ _ (fun e=>hg (by injection e with e;exact e.symm))]
  exact hu
 exact ⟨g,o,h1,ho _ _ h2,ho _ _ h3,ho _ _ h4,ho _ _ h5⟩
def ImgV (w':World) (v:Value) (t:List Ent) (wk:List UInt8):Prop:=∃ (s:ByteArray) (ao:Option Addr) (n cap:Nat),v=.agg #[.slice none 0 0,.string s,.slice ao n cap]∧s.data.toList=47 :: wk∧n=t.length∧ERow w' ao t
set_option maxHeartbeats 4000000 in
set_option maxRecDepth 10000 in
theorem image_any (sb B:Nat) (t:List Ent) (wk:List UInt8) (w:World) (h:Sta w B sb t wk) :
  Calls Tryz.prog 21 #[.pointer (some ⟨sb,0,none⟩)] w fun e w'=>(∃ v,e=.returned v∧ImgV w' v t wk)∧Below w.heap.size w w':=by
 obtain ⟨⟨r,ns,work,hS,hen,hwk,hws⟩,h40⟩:=h
 obtain ⟨W0,hW0⟩:∃ W0,W0=w.alloc (.cells #[.slice none 0 0,.string ⟨#[]⟩,.slice none 0 0] 30):=⟨_,rfl⟩
 have hb0:Below w.heap.size w W0:=by rw [hW0];exact (Below.refl _ _).alloc (Nat.le_refl _) _
 have hc0:W0.heap[w.heap.size]?=some (.cells #[.slice none 0 0,.string ⟨#[]⟩,.slice none 0 0] 30 (0,0)):=by rw [hW0];exact heap_alloc_new _ _
 have hS0:=hS.below hb0
 have k0:=hS0.c0
 have hsw:sb≠w.heap.size:=by have:=hS.lt;omega
 have HEV:Hid (∀ W,Below W0.heap.size W0 W→Calls Tryz.prog 36 #[.pointer (some ⟨sb,0,none⟩)] W fun e w'=>e=.returned (.slice none 0 0)∧Below W.heap.size W w'):=hide (fun W hb=>env_any sb W (cq 2 (hS0.below hb).cells))
 have HWK:Hid (∀ W,Below W0.heap.size W0 W→Calls Tryz.prog 37 #[.pointer (some ⟨sb,0,none⟩)] W fun e w'=>∃ s:ByteArray,e=.returned (.string s)∧s.data.toList=47 :: wk∧w'=W):=hide (fun W hb=>by
  have:=work_any sb work W (hS0.below hb).c1 (by omega)
  rw [hwk] at this;exact this)
 have HLI:Hid (∀ W,Below W0.heap.size W0 W→Calls Tryz.prog 26 #[.pointer (some ⟨r.nb,0,none⟩)] W fun ev w'=>∃ ao cap n,ev=.returned (.slice ao n cap)∧Hid (n=t.length)∧ERow w' ao t∧Below W.heap.size W w'):=hide (fun W hb=>
  list_any W (hS0.below hb).mem (hide hen) (hide (by have:=tree_g hS0.tree (by rw [hen];omega);rw [hen] at this;exact this)))
 have HC:=hide hc0
 clear hS hen hwk hws h40 hc0 hS0
 go_enter Tryz.func21,Tryz.ntmps21
 go_upto_region 1 with fail
 rw [←hW0]
 clear hW0
 go_region_held3 (fun w'=>w'.cell? ⟨sb,0,none⟩=some (.pointer (some ⟨r.nb,0,none⟩)))
  (first | exact off3 hsw x3 | exact x3 | exact x2 | exact x1 | exact k0 | go_keep)
  (first
    | (go_at_call 36;refine (uh HEV _ (by exact drew_b _)).mono ?_;rintro e1 w1 ⟨rfl,hb1⟩;have x1:=cell_later (chain0 hb1) k0)
    | (go_at_call 37;refine (uh HWK _ (by exact (chain0 hb1))).mono ?_;rintro e2 w2 ⟨s,rfl,hs2,rfl⟩;have x2:=x1)
    | (go_at_call 26;refine (uh HLI _ (by exact (chain0 hb1))).mono ?_;rintro e3 w3 ⟨ao,cap,n,rfl,HN,HR,hb3⟩;have hB3:Below W0.heap.size W0 w3:=(chain0 hb1).trans (hb3.mono (chain0 hb1).size);have x3:=cell_later hB3 k0;have hc3:=(hB3.block _ (Array.getElem?_eq_some_iff.1 (uh HC)).1).trans (uh HC);have f0:=frozen_of_row w3 w.heap.size 0 _ _ hc3;have f1:=frozen_of_row w3 w.heap.size 1 _ _ hc3;have f2:=frozen_of_row w3 w.heap.size 2 _ _ hc3;have r0:w3.cell? ⟨w.heap.size,0,none⟩=some (.slice none 0 0):=cq 0 hc3;have r1:w3.cell? ⟨w.heap.size,1,none⟩=some (.string ⟨#[]⟩):=cq 1 hc3;have r2:w3.cell? ⟨w.heap.size,2,none⟩=some (.slice none 0 0):=cq 2 hc3))
 obtain ⟨W9,hW9⟩:∃ W9,W9=((w3.setCell ⟨w.heap.size,0,none⟩ (.slice none 0 0)).setCell ⟨w.heap.size,1,none⟩ (.string s)).setCell ⟨w.heap.size,2,none⟩ (.slice ao n cap):=⟨_,rfl⟩
 rw [←hW9]
 have hr9:W9.heap[w.heap.size]?=some (.cells #[.slice none 0 0,.string s,.slice ao n cap] 30 (0,0)):=by rw [hW9];exact set3i _ _ _ hc3
 have d0:W9.cell? ⟨w.heap.size,0,none⟩=some (.slice none 0 0):=cq 0 hr9
 have d1:W9.cell? ⟨w.heap.size,1,none⟩=some (.string s):=cq 1 hr9
 have d2:W9.cell? ⟨w.heap.size,2,none⟩=some (.slice ao n cap):=cq 2 hr9
 have hb9:Below w.heap.size w W9:=by
  rw [hW9]
  exact (((hb0.trans (hB3.mono hb0.size)).setCell (Nat.le_refl _) _).setCell (Nat.le_refl _) _).setCell (Nat.le_refl _) _
 have HR9:ERow W9 ao t:=by rw [hW9];exact erow_off HR hc3
 clear x1 x2 x3 f0 f1 f2 r0 r1 r2
 go_wp2_with fail
 refine bodyPost_ret (v:=.agg #[.slice none 0 0,.string s,.slice ao n cap]) (by simp [results,Tryz.results21,go_sem,d0,d1,d2]) rfl ⟨⟨_,rfl,s,ao,n,cap,rfl,hs2,uh HN,HR9⟩,hb9⟩
end Go.Proofs.YtehfpjcclknipaaGreatDoor.T
