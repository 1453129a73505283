import Derived.Deep.DeepCutAuto
import Derived.Test.YtehfpjcclknipaaGreatDoorJCbC
namespace Go.Proofs.YtehfpjcclknipaaGreatDoor.T
open Go.RowKit Go.Maps
structure Kn (tx:ByteArray) (er pl:Int):Prop where
 ok:makeOk cxK tx.data.toList=true
 num:numX (makeG cxK tx.data.toList)=er
 pla:plX (makeG cxK tx.data.toList)=pl
 way:er≠0∨tx=bs txG∨tx=bs txA
theorem kn_at (W:World) (g:Nat) (h:W.heap[g]?=some (.cells #[.string (bs txA),.int .i64 0,.int .i64 (-1),.string (bs txB),.int .i64 6,.int .i64 5,.string (bs txC),.int .i64 8,.int .i64 13,.string (bs txD),.int .i64 7,.int .i64 19,.string (bs txE),.int .i64 5,.int .i64 0,.string (bs txF),.int .i64 9,.int .i64 29,.string (bs txG),.int .i64 0,.int .i64 (-1),.string (bs txH),.int .i64 1,.int .i64 26,.string (bs txI),.int .i64 4,.int .i64 13,.string (bs txJ),.int .i64 5,.int .i64 19] 24 (0,0))) (j:Nat) (hj:j<10) :
  ∃ tx er pl,Kn tx er pl∧W.cell? ⟨g,j*3,none⟩=some (.string tx)∧W.cell? ⟨g,j*3+1,none⟩=some (.int .i64 er)∧W.cell? ⟨g,j*3+2,none⟩=some (.int .i64 pl):=by
 have hc:=fun i=>cq i h
 have hj':j=0∨j=1∨j=2∨j=3∨j=4∨j=5∨j=6∨j=7∨j=8∨j=9:=by omega
 rcases hj' with rfl | rfl | rfl | rfl | rfl | rfl | rfl | rfl | rfl | rfl
 ·exact ⟨_,_,_,⟨kokA,knuA,kplA,.inr (.inr rfl)⟩,hc 0,hc 1,hc 2⟩
 ·exact ⟨_,_,_,⟨kokB,knuB,kplB,.inl (by decide)⟩,hc 3,hc 4,hc 5⟩
 ·exact ⟨_,_,_,⟨kokC,knuC,kplC,.inl (by decide)⟩,hc 6,hc 7,hc 8⟩
 ·exact ⟨_,_,_,⟨kokD,knuD,kplD,.inl (by decide)⟩,hc 9,hc 10,hc 11⟩
 ·exact ⟨_,_,_,⟨kokE,knuE,kplE,.inl (by decide)⟩,hc 12,hc 13,hc 14⟩
 ·exact ⟨_,_,_,⟨kokF,knuF,kplF,.inl (by decide)⟩,hc 15,hc 16,hc 17⟩
 ·exact ⟨_,_,_,⟨kokG,knuG,kplG,.inr (.inl rfl)⟩,hc 18,hc 19,hc 20⟩
 ·exact ⟨_,_,_,⟨kokH,knuH,kplH,.inl (by decide)⟩,hc 21,hc 22,hc 23⟩
 ·exact ⟨_,_,_,⟨kokI,knuI,kplI,.inl (by decide)⟩,hc 24,hc 25,hc 26⟩
 ·exact ⟨_,_,_,⟨kokJ,knuJ,kplJ,.inl (by decide)⟩,hc 27,hc 28,hc 29⟩
def R3 (w:World) (g4:Nat) (tx:ByteArray) (er pl:Int) (b e n:Value) (wx:World):Prop:=∃ (g:Nat) (s2:ByteArray) (ao2:Option Addr) (n2 c2:Nat),b=.pointer (some ⟨g,0,none⟩)∧e=.int .i64 er∧n=.int .i64 pl∧wx.heap[g]?=some (.cells #[.slice none 0 0,.string s2,.slice ao2 n2 c2] 30 (0,0))∧Gx wx s2 ao2 n2 c2 (makeG cxK tx.data.toList)∧Below w.heap.size w wx∧wx.heap[g4]?=some (.cells #[.string tx,.int .i64 er,.int .i64 pl] 24 (0,0))
theorem r3_set {w W2 w5:World}{g4 g:Nat}{tx s2:ByteArray}{er pl:Int}{ao2:Option Addr}{n2 c2:Nat}(hB2:Below w.heap.size w W2) (B5:Below W2.heap.size W2 w5) (he:W2.heap[g4]?=some (.cells #[.string tx,.int .i64 er,.int .i64 pl] 24 (0,0))) (hG:Gx w5 s2 ao2 n2 c2 (makeG cxK tx.data.toList)) (z:w5.heap[g]?=some (.cells #[.slice none 0 0,.string ⟨#[]⟩,.slice none 0 0] 30 (0,0))) (hg:W2.heap.size≤g) :
  R3 w g4 tx er pl (.pointer (some ⟨g,0,none⟩)) (.int .i64 er) (.int .i64 pl) (((w5.setCell ⟨g,0,none⟩ (.slice none 0 0)).setCell ⟨g,1,none⟩ (.string s2)).setCell ⟨g,2,none⟩ (.slice ao2 n2 c2)):=by
 have b:Below W2.heap.size W2 (((w5.setCell ⟨g,0,none⟩ (.slice none 0 0)).setCell ⟨g,1,none⟩ (.string s2)).setCell ⟨g,2,none⟩ (.slice ao2 n2 c2)):=((B5.setCell (by exact hg) _).setCell (by exact hg) _).setCell (by exact hg) _
 exact ⟨g,s2,ao2,n2,c2,rfl,rfl,rfl,set3i _ _ _ z,hG.off z,hB2.trans (b.mono hB2.size),(b.block _ (Array.getElem?_eq_some_iff.1 he).1).trans he⟩
theorem r3_new {w W2 w5:World}{g4:Nat}{tx s2:ByteArray}{er pl:Int}{ao2:Option Addr}{n2 c2:Nat}(hB2:Below w.heap.size w W2) (B5:Below W2.heap.size W2 w5) (he:W2.heap[g4]?=some (.cells #[.string tx,.int .i64 er,.int .i64 pl] 24 (0,0))) (hG:Gx w5 s2 ao2 n2 c2 (makeG cxK tx.data.toList)) :
  R3 w g4 tx er pl (.pointer (some ⟨w5.heap.size,0,none⟩)) (.int .i64 er) (.int .i64 pl) (w5.alloc (.cells #[.slice none 0 0,.string s2,.slice ao2 n2 c2] 30)):=by
 have b:Below W2.heap.size W2 (w5.alloc (.cells #[.slice none 0 0,.string s2,.slice ao2 n2 c2] 30)):=B5.alloc B5.size _
 exact ⟨_,s2,ao2,n2,c2,rfl,rfl,rfl,heap_alloc_new _ _,hG.below ((Below.refl _ _).alloc (Nat.le_refl _) _),hB2.trans (b.mono hB2.size),(b.block _ (Array.getElem?_eq_some_iff.1 he).1).trans he⟩
set_option maxHeartbeats 8000000 in
set_option maxRecDepth 10000 in
theorem law_any (k:Int) (w:World) (hl:LaidK w) :
  Calls Tryz.prog 3 #[.int .i64 k] w fun e w'=>e=.returned (.bool true)∧Below w.heap.size w w':=by
 have HL:=hide hl
 clear hl
 go_enter Tryz.func3,Tryz.ntmps3
 go_upto_region 2 with fail
 obtain ⟨W1,hW1⟩:∃ W1,W1=w.alloc (.cells #[.string (bs txA),.int .i64 0,.int .i64 (-1),.string (bs txB),.int .i64 6,.int .i64 5,.string (bs txC),.int .i64 8,.int .i64 13,.string (bs txD),.int .i64 7,.int .i64 19,.string (bs txE),.int .i64 5,.int .i64 0,.string (bs txF),.int .i64 9,.int .i64 29,.string (bs txG),.int .i64 0,.int .i64 (-1),.string (bs txH),.int .i64 1,.int .i64 26,.string (bs txI),.int .i64 4,.int .i64 13,.string (bs txJ),.int .i64 5,.int .i64 19] 24):=⟨_,rfl⟩
 have b1:Below w.heap.size w W1:=by rw [hW1];exact (Below.refl _ _).alloc (Nat.le_refl _) _
 have hT:=kn_at W1 w.heap.size (by rw [hW1];exact heap_alloc_new _ _)
 have hW2:w.alloc (.cells #[.string ⟨#[70,82,79,77,32,115,99,114,97,116,99,104,10,67,79,80,89,32,115,114,99,32,47,97,112,112,10]⟩,.int .i64 0,.int .i64 (-1),.string ⟨#[70,82,79,77,32,98,97,115,101,10]⟩,.int .i64 6,.int .i64 5,.string ⟨#[70,82,79,77,32,115,99,114,97,116,99,104,10,82,77,32,120,10]⟩,.int .i64 8,.int .i64 13,.string ⟨#[70,82,79,77,32,115,99,114,97,116,99,104,10,77,75,68,73,82,32,36,65,10]⟩,.int .i64 7,.int .i64 19,.string ⟨#[77,75,68,73,82,32,97,10]⟩,.int .i64 5,.int .i64 0,.string ⟨#[70,82,79,77,32,115,99,114,97,116,99,104,10,67,79,80,89,32,115,114,99,47,109,97,105,110,32,97,10,77,75,68,73,82,32,97,47,98,10]⟩,.int .i64 9,.int .i64 29,.string ⟨#[70,82,79,77,32,115,99,114,97,116,99,104,32,65,83,32,97,10,82,77,32,120,10,70,82,79,77,32,115,99,114,97,116,99,104,10,77,75,68,73,82,32,121,10]⟩,.int .i64 0,.int .i64 (-1),.string ⟨#[70,82,79,77,32,115,99,114,97,116,99,104,10,87,79,82,75,68,73,82,32,47,97,47,98,10,77,75,68,73,82,32,46,46,47,46,46,47,46,46,47,99,10]⟩,.int .i64 1,.int .i64 26,.string ⟨#[70,82,79,77,32,115,99,114,97,116,99,104,10,65,68,68,32,115,114,99,47,109,97,105,110,32,47,10]⟩,.int .i64 4,.int .i64 13,.string ⟨#[70,82,79,77,32,115,99,114,97,116,99,104,10,77,75,68,73,82,32,34,97,10]⟩,.int .i64 5,.int .i64 19] 24)=W1:=hW1.symm
 rw [hW2]
 clear hW1 hW2
 go_upto_region 3 with (go_at_call 4;refine (kpick_any k 10 _ (by decide) (by decide)).mono ?_;rintro ev w2 ⟨j,rfl,hj,hw⟩;obtain rfl:=hw.symm;obtain ⟨tx,er,pl,hK,c0,c1,c2⟩:=hT j (by omega))
 obtain ⟨W2,hW2⟩:∃ W2,W2=W1.alloc (.cells #[.string tx,.int .i64 er,.int .i64 pl] 24):=⟨_,rfl⟩
 have b2:Below W1.heap.size W1 W2:=by rw [hW2];exact (Below.refl _ _).alloc (Nat.le_refl _) _
 have e4:W2.heap[W1.heap.size]?=some (.cells #[.string tx,.int .i64 er,.int .i64 pl] 24 (0,0)):=by rw [hW2];exact heap_alloc_new _ _
 have hB2:Below w.heap.size w W2:=b1.trans (b2.mono b1.size)
 have d0:W2.cell? ⟨W1.heap.size,0,none⟩=some (.string tx):=cq 0 e4
 rw [←hW2]
 clear hW2 c0 c1 c2 hT b2
 have HB2:=hide hB2
 have HE4:=hide e4
 have hCx:∀ W,Calls Tryz.prog 6 #[] W fun e w'=>∃ g:Nat,e=.returned (.slice (some ⟨g,0,none⟩) 2 2)∧ERow w' (some ⟨g,0,none⟩) cxK∧Below W.heap.size W w':=context_any
 have hMk:∀ W g,Below W2.heap.size W2 W→ERow W (some ⟨g,0,none⟩) cxK→Calls Tryz.prog 5 #[.string tx,.slice (some ⟨g,0,none⟩) 2 2] W fun e w'=>(∃ (s2:ByteArray) (ao2:Option Addr) (n2 c2:Nat),e=.returned (.tuple #[.agg #[.slice none 0 0,.string s2,.slice ao2 n2 c2],.int .i64 er,.int .i64 pl])∧Gx w' s2 ao2 n2 c2 (makeG cxK tx.data.toList))∧Below W.heap.size W w':=fun W g hb hr=>by
  obtain ⟨m,hm⟩:=(uh HL).pk.max
  have hbw:=hB2.trans (hb.mono hB2.size)
  have:=plain_make tx (some ⟨g,0,none⟩) 2 2 cxK m W hr (hide rfl) (by decide) (hide cx_small) cx_ok (cell_later hbw hm) (cell_later hbw (uh HL).err) cx_tree (fun Bs r ns h=>cb_all cx_g (by decide) Bs r ns h) hK.ok
  rw [hK.num,hK.pla] at this
  exact this
 have a2:∀ o,(W2.alloc o).cell? ⟨W1.heap.size,0,none⟩=some (.string tx):=fun o=>cell_later ((Below.refl _ W2).alloc (Nat.le_refl _) o) d0
 clear hB2 e4
 go_cut [5,6,7] (fun b e n wx=>R3 w W1.heap.size tx er pl b e n wx)
 case first=>
  go_region_law (first
   | (go_simp;go_at_call 6;refine (hCx _).mono ?_;rintro e3 w3 ⟨g3,rfl,hr3,hb3⟩;have B3:Below W2.heap.size W2 w3:=by { first | exact (drew_b W2).trans (hb3.mono (Nat.le_refl _)) | exact (((Below.refl _ W2).alloc (Nat.le_refl _) _).trans ((drew_b _).mono (by simp))).trans (hb3.mono (by simp [World.drew])) };have d3:=cell_later B3 d0;have a3:∀ o,(w3.alloc o).cell? ⟨W1.heap.size,0,none⟩=some (.string tx):=fun o=>cell_later ((Below.refl _ _).alloc (Nat.le_refl _) o) d3;try (have z3:w3.heap[W2.heap.size]?=some (.cells #[.slice none 0 0,.string ⟨#[]⟩,.slice none 0 0] 30 (0,0)):=(hb3.block W2.heap.size (by simp [World.drew])).trans (heap_alloc_new W2 _)))
   | (go_simp;go_at_call 5;refine (hMk _ _ (by first | exact B3 | exact B3.alloc B3.size _) (by first | exact hr3 | exact hr3.below ((Below.refl _ _).alloc (Nat.le_refl _) _))).mono ?_;rintro e5 w5 ⟨⟨s2,ao2,n2,c2,rfl,hG5⟩,hb5⟩;have B5:Below W2.heap.size W2 w5:=by { first | exact B3.trans (hb5.mono B3.size) | exact (B3.alloc B3.size _).trans (hb5.mono (by have:=B3.size;simp;omega)) };try (first | have z5:w5.heap[w3.heap.size]?=some (.cells #[.slice none 0 0,.string ⟨#[]⟩,.slice none 0 0] 30 (0,0)):=(hb5.block w3.heap.size (by simp)).trans (heap_alloc_new w3 _) | have z5:=(hb5.block _ (Array.getElem?_eq_some_iff.1 z3).1).trans z3);try (have y0:=cq 0 z5;have y1:=cq 1 z5;have y2:=cq 2 z5;have f0:=frozen_of_row _ _ 0 _ _ z5;have f1:=frozen_of_row _ _ 1 _ _ z5;have f2:=frozen_of_row _ _ 2 _ _ z5)))
  all_goals
   go_wp2_with fail
   go_meet
   first
    | exact r3_new (uh HB2) B5 (uh HE4) hG5
    | exact r3_set (uh HB2) B5 (uh HE4) hG5 z5 (Nat.le_refl _)
    | exact r3_set (uh HB2) B5 (uh HE4) hG5 z5 B3.size
 case rest=>
  obtain ⟨g5,s2,ao2,n2,c2,rfl,rfl,rfl,h5,hG5,hB5,h4⟩:=hcut
  have H5:=hide h5
  have HG5:=hide hG5
  have H4:=hide h4
  clear h5 hG5 h4 hMk a2 d0 HB2 HE4 b1
  have hl0:LaidK wc:=(uh HL).below hB5
  have hC6:=hCx
  have hC8:=hCx
  have hD:∀ W g,Below w.heap.size w W→ERow W (some ⟨g,0,none⟩) cxK→Calls Tryz.prog 7 #[.slice (some ⟨g,0,none⟩) 2 2,.slice (some ⟨W.heap.size,0,none⟩) 1 1] (W.alloc (.cells #[.string ⟨#[115,114,99]⟩,.int .i64 3,.int .i64 0,.string ⟨#[47,120]⟩] 38)) fun ev w'=>(∃ (ao:Option Addr) (c:Nat) (n:Int),ev=.returned (.tuple #[.slice ao 1 c,.int .i64 0,.int .i64 n]))∧Below W.heap.size W w':=fun W g hb hr=>by
   have hlW:=(uh HL).below hb
   have ba:Below W.heap.size W (W.alloc (.cells #[.string ⟨#[115,114,99]⟩,.int .i64 3,.int .i64 0,.string ⟨#[47,120]⟩] 38)):=(Below.refl _ _).alloc (Nat.le_refl _) _
   refine (pdiff_any (some ⟨g,0,none⟩) (some ⟨W.heap.size,0,none⟩) 2 1 2 1 cxK lnK _ (hr.below ba) (erow_of (t:=38) (by exact heap_alloc_new _ _)) (hide rfl) (hide rfl) (by decide) (by decide) (hide cx_small) (hide ln_small) ⟨cell_later ba hlW.err,by obtain ⟨m,hm⟩:=hlW.pk.max;exact ⟨m,cell_later ba hm⟩⟩).mono ?_
   rintro ev w' ⟨v,e,n,rfl,H,hb'⟩
   obtain ⟨rfl,B,hO⟩:=dif_is (uh H)
   obtain ⟨ao,c,m,rfl,HM,_,_⟩:=ownC_row hO
   have hm1:=uh HM
   rw [dif_len] at hm1
   subst hm1
   exact ⟨⟨ao,c,n,rfl⟩,ba.trans (hb'.mono ba.size)⟩
  have hP:∀ W g,Below w.heap.size w W→ERow W (some ⟨g,0,none⟩) cxK→Calls Tryz.prog 8 #[.slice (some ⟨g,0,none⟩) 2 2,.slice (some ⟨W.heap.size,0,none⟩) 2 2] (W.alloc (.cells #[.string ⟨#[115,114,99]⟩,.int .i64 5,.int .i64 0,.string ⟨#[]⟩,.string ⟨#[115,114,99,47,97]⟩,.int .i64 1,.int .i64 1,.string ⟨#[]⟩] 41)) fun ev w'=>(∃ (ao:Option Addr) (c:Nat) (n:Int),ev=.returned (.tuple #[.slice ao 2 c,.int .i64 0,.int .i64 n]))∧Below W.heap.size W w':=fun W g hb hr=>by
   have hlW:=(uh HL).below hb
   have ba:Below W.heap.size W (W.alloc (.cells #[.string ⟨#[115,114,99]⟩,.int .i64 5,.int .i64 0,.string ⟨#[]⟩,.string ⟨#[115,114,99,47,97]⟩,.int .i64 1,.int .i64 1,.string ⟨#[]⟩] 41)):=(Below.refl _ _).alloc (Nat.le_refl _) _
   refine (ppatch_any (some ⟨g,0,none⟩) (some ⟨W.heap.size,0,none⟩) 2 2 2 2 cxK clK _ (hr.below ba) (erow_of (t:=41) (by exact heap_alloc_new _ _)) (hide rfl) (hide rfl) (by decide) (by decide) (by decide) (hide cx_small) (hide cl_small) ⟨cell_later ba hlW.err,by obtain ⟨m,hm⟩:=hlW.pk.max;exact ⟨m,cell_later ba hm⟩⟩).mono ?_
   rintro ev w' ⟨vo,vc,vn,ks,e,n,rfl,HV,_,H,hb'⟩
   obtain ⟨rfl,hk⟩:=pat_is (uh H)
   have hv1:=uh HV
   rw [hk] at hv1
   subst hv1
   exact ⟨⟨vo,vc,n,rfl⟩,ba.trans (hb'.mono ba.size)⟩
  have hA:∀ W,Below w.heap.size w W→Calls Tryz.prog 9 #[.slice (some ⟨W.heap.size,0,none⟩) 1 1] (W.alloc (.cells #[.string ⟨#[97]⟩,.int .i64 4,.int .i64 0,.string ⟨#[]⟩] 41)) fun ev w'=>(∃ (s:ByteArray) (n:Int),ev=.returned (.tuple #[.string s,.int .i64 0,.int .i64 n])∧Hid (s.data.toList=packL goK))∧Below W.heap.size W w':=fun W hb=>by
   have hlW:=(uh HL).below hb
   have ba:Below W.heap.size W (W.alloc (.cells #[.string ⟨#[97]⟩,.int .i64 4,.int .i64 0,.string ⟨#[]⟩] 41)):=(Below.refl _ _).alloc (Nat.le_refl _) _
   refine (pPack_any (some ⟨W.heap.size,0,none⟩) 1 1 goK _ (erow_of (t:=41) (by exact heap_alloc_new _ _)) (hide rfl) (by decide) (by decide) (hide go_small) (hlW.below ba) (hide fun _=>⟨by decide,go_pkg⟩)).mono ?_
   rintro ev w' ⟨s,e,n,rfl,H,hb'⟩
   obtain ⟨rfl,hs⟩:=pk_is (uh H)
   exact ⟨⟨s,n,rfl,hide hs⟩,ba.trans (hb'.mono ba.size)⟩
  clear hCx
  go_upto_region 7 with (first
   | (go_at_call 6;refine (hC6 _).mono ?_;clear hC6;rintro e6 w6 ⟨g6,rfl,hr6,hb6⟩;have B6:Below w.heap.size w w6:=hB5.trans (hb6.mono hB5.size))
   | (go_at_call 7;refine (hD w6 g6 B6 hr6).mono ?_;clear hD;rintro e7 w7 ⟨⟨ao7,c7,m7,rfl⟩,hb7⟩;have B7:Below w.heap.size w w7:=B6.trans (hb7.mono B6.size))
   | (go_at_call 6;refine (hC8 _).mono ?_;clear hC8;rintro e8 w8 ⟨g8,rfl,hr8,hb8⟩;have B8:Below w.heap.size w w8:=B7.trans (hb8.mono B7.size))
   | (go_at_call 8;refine (hP w8 g8 B8 hr8).mono ?_;clear hP;rintro e9 w9 ⟨⟨ao9,c9,m9,rfl⟩,hb9⟩;have B9:Below w.heap.size w w9:=B8.trans (hb9.mono B8.size))
   | (go_at_call 9;refine (hA w9 B9).mono ?_;clear hA;rintro eA wA ⟨⟨sA,mA,rfl,HSA⟩,hbA⟩;have BA:Below w.heap.size w wA:=B9.trans (hbA.mono B9.size)))
  have hz:sA.size=1536:=by rw [Lib.size_eq,uh HSA];exact pk_len
  have hx:(sA.extract 0 5).toList=[46,119,104,46,97]:=by
   rw [Lib.toList_data,ByteArray.data_extract,Array.toList_extract,uh HSA,←pk_head]
   rfl
  have hQ:Calls Tryz.prog 10 #[.string ⟨#[70,82,79,77,32,115,99,114,97,116,99,104,32,92,10,32,65,83,32,111,110,101,10,10,32,35,32,110,111,10,69,78,86,32,65,32,34,120,32,121,34,10,77,75,68,73,82,32,97,36,65,34,36,65,34,39,10]⟩] wA fun ev w'=>ev=.returned (.tuple #[.string ⟨#[70,82,79,77,32,115,99,114,97,116,99,104,32,65,83,32,111,110,101,10,69,78,86,32,65,32,120,92,32,121,10,77,75,68,73,82,32,97,36,123,65,125,36,123,65,125,92,39,10]⟩,.int .i64 0,.int .i64 (-1)])∧Below wA.heap.size wA w':=by
   obtain ⟨m,hm⟩:=(uh HL).pk.max
   refine (plain_parse_all ⟨#[70,82,79,77,32,115,99,114,97,116,99,104,32,92,10,32,65,83,32,111,110,101,10,10,32,35,32,110,111,10,69,78,86,32,65,32,34,120,32,121,34,10,77,75,68,73,82,32,97,36,65,34,36,65,34,39,10]⟩ m wA (cell_later BA hm) (cell_later BA (uh HL).err)).mono ?_
   rintro ev w' ⟨h,hb⟩
   obtain ⟨u,rfl,hu⟩:=par_is h
   refine ⟨?_,hb⟩
   have:u=⟨#[70,82,79,77,32,115,99,114,97,116,99,104,32,65,83,32,111,110,101,10,69,78,86,32,65,32,120,92,32,121,10,77,75,68,73,82,32,97,36,123,65,125,36,123,65,125,92,39,10]⟩:=by
    have h2:u=bs u.data.toList:=by simp [bs]
    rw [h2,hu];rfl
   rw [this]
  go_upto_region 9 with fail
  go_upto_region 12 with (go_at_call 10;refine hQ.mono ?_;clear hQ;rintro eQ wQ ⟨rfl,hbQ⟩)
  have Bq:Below wc.heap.size wc wQ:=by
   have x1:=hb6.trans (hb7.mono hb6.size)
   have x2:=x1.trans (hb8.mono x1.size)
   have x3:=x2.trans (hb9.mono x2.size)
   have x4:=x3.trans (hbA.mono x3.size)
   exact x4.trans (hbQ.mono x4.size)
  have BQ:Below w.heap.size w wQ:=hB5.trans (Bq.mono hB5.size)
  have t0:wQ.cell? ⟨W1.heap.size,0,none⟩=some (.string tx):=cell_later Bq (cq 0 (uh H4))
  have t1:wQ.cell? ⟨W1.heap.size,1,none⟩=some (.int .i64 er):=cell_later Bq (cq 1 (uh H4))
  have t2:wQ.cell? ⟨W1.heap.size,2,none⟩=some (.int .i64 pl):=cell_later Bq (cq 2 (uh H4))
  have i0:wQ.cell? ⟨g5,0,none⟩=some (.slice none 0 0):=cell_later Bq (cq 0 (uh H5))
  have i1:wQ.cell? ⟨g5,1,none⟩=some (.string s2):=cell_later Bq (cq 1 (uh H5))
  have i2:wQ.cell? ⟨g5,2,none⟩=some (.slice ao2 n2 c2):=cell_later Bq (cq 2 (uh H5))
  have HGQ:=hide ((uh HG5).below Bq)
  clear hb6 hb7 hb8 hb9 hbA hbQ B6 B7 B8 B9 BA hr6 hr8 hz hx HSA H4 H5 HG5 hl0 Bq
  rcases hK.way with hw | hw | hw
  ·have ge:(er != 0)=true:=by simp [hw]
   go_wp2_with fail
   go_ret
   exact ⟨by simp,BQ⟩
  ·have e1:er=0:=by rw [←hK.num,hw];exact knuG
   have e2:pl=-1:=by rw [←hK.pla,hw];exact kplG
   have e3:tx=⟨#[70,82,79,77,32,115,99,114,97,116,99,104,32,65,83,32,97,10,82,77,32,120,10,70,82,79,77,32,115,99,114,97,116,99,104,10,77,75,68,73,82,32,121,10]⟩:=hw
   clear hK hw HGQ
   subst e1 e2 e3
   go_wp2_with fail
   go_ret
   exact ⟨rfl,BQ⟩
  ·have e1:er=0:=by rw [←hK.num,hw];exact knuA
   have e2:pl=-1:=by rw [←hK.pla,hw];exact kplA
   have e3:tx=⟨#[70,82,79,77,32,115,99,114,97,116,99,104,10,67,79,80,89,32,115,114,99,32,47,97,112,112,10]⟩:=hw
   have hGQ:=uh HGQ
   rw [hw,bs_list,koutA] at hGQ
   obtain ⟨q1,q2,q3⟩:=hGQ
   obtain ⟨g,o,rfl,r0,r1,r2,r3⟩:=q3 0 _ rfl
   obtain ⟨g',o',hgo,r4,r5,r6,r7⟩:=q3 1 _ rfl
   cases hgo
   have e4:s2=⟨#[47]⟩:=by
    have h2:s2=bs s2.data.toList:=by simp [bs]
    rw [h2,q1];rfl
   have e5:n2=2:=q2
   simp only [Nat.zero_mul,Nat.add_zero,Nat.one_mul] at r0 r1 r2 r3 r4 r5 r6 r7
   clear hK hw HGQ q1 q2 q3
   subst e1 e2 e3 e4 e5
   go_wp2_with fail
   go_ret
   exact ⟨rfl,BQ⟩
end Go.Proofs.YtehfpjcclknipaaGreatDoor.T
