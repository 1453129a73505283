import Derived.Test.YtehfpjcclknipaaGreatDoorJBmD
namespace Go.Proofs.YtehfpjcclknipaaGreatDoor.T
open Go.RowKit Go.Maps
def DoOut (w':World) (B sb:Nat) (ev:Value) (e:Ending) (x:Except Nat (List Ent × List UInt8)):Prop:=match x with
 | .error k=>e=.returned (.iface 22 (.int .i64 (k:Int)))
 | .ok (t,wk)=>e=.returned .nilIface∧∃ (r:Nd) (ns:List Nd) (work:ByteArray),StA w' B sb r ns work ev∧entsN ns=t∧work.data.toList=wk∧work.size≤1048576∧ns.length≤500
def enterG (t:List Ent) (work a:List UInt8):Except Nat (List Ent × List UInt8):=match R.resP work a with
 | none=>.error 1
 | some p=>match mkDirG t p with
   | .error k=>.error k
   | .ok t'=>.ok (t',p)
def mkdirG (t:List Ent) (work a:List UInt8):Except Nat (List Ent × List UInt8):=match R.resP work a with
 | none=>.error 1
 | some p=>match mkDirG t p with
   | .error k=>.error k
   | .ok t'=>.ok (t',work)
def rmG (t:List Ent) (work a:List UInt8):Option Nat:=match R.resP work a with
 | none=>some 1
 | some p=>if p=[] then some 9 else match atE t p with
   | none=>some 8
   | some _=>none
theorem StA.enter {w:World}{B sb:Nat}{r:Nd}{ns:List Nd}{work p:ByteArray}{ev:Value}(h:StA w B sb r ns work ev) (hsb:B≤sb):StA (w.setCell ⟨sb,1,none⟩ (.string p)) B sb r ns p ev∧Below B w (w.setCell ⟨sb,1,none⟩ (.string p))∧KeepX w (w.setCell ⟨sb,1,none⟩ (.string p)):=by
 have hc:=heap_setCell_same w sb 1 _ _ (.string p) h.cells
 have ho:∀ k,k≠sb→(w.setCell ⟨sb,1,none⟩ (.string p)).heap[k]?=w.heap[k]?:=fun k hk=>heap_setCell_other _ _ _ _ hk
 have hne:∀ x∈r :: ns,x.nb≠sb∧x.mb≠sb:=fun x hx=>by
  have:=h.mem.out h.cells (by decide) x hx
  exact ⟨fun e=>this.1 e.symm,fun e=>this.2 e.symm⟩
 refine ⟨⟨hc,⟨h.mem.root,fun x hx=>?_,h.mem.apart⟩,h.tree,h.lim,by simpa using h.base⟩,(Below.refl _ _).setCell hsb _,fun g cs t f hg _ h112=>?_⟩
 ·obtain ⟨h1,h2,h3,h4⟩:=h.mem.all x hx
  refine ⟨h1,h2,(ho _ (hne x hx).1).trans h3,?_⟩
  exact World.ownsMap.kept h4 ⟨rfl,rfl,rfl,by simp,fun k _ hk=>ho k (fun e=>hk (by rw [e]))⟩ (fun e=>(hne x hx).2 (by simpa using e))
 ·by_cases e:g=sb
  ·subst e
   rw [h.cells] at hg
   injection hg with hg
   injection hg with _ hg _
   exact absurd hg.symm h112
  ·rw [ho g e];exact hg
set_option maxHeartbeats 4000000 in
set_option maxRecDepth 10000 in
theorem enter_any (sb:Nat) (r:Nd) (ns:List Nd) (work a:ByteArray) (ev:Value) (ao:Option Addr) (n cap:Nat) (ps:List ByteArray) (sv sr:Option Addr) (B:Nat) (m:Int) (w:World) (h:StA w B sb r ns work ev) (hn:ns.length≤400) (hws:work.size≤1048576) (hW:Wrds w ao n cap ps) (ha:ps[0]?=some a) (hm:w.cell? ⟨14,0,none⟩=some (.int .i64 m)) (hsb:B≤sb) :
  Calls Tryz.prog 225 #[.pointer (some ⟨sb,0,none⟩),.agg #[.slice ao n cap,.pointer sv,.pointer sr]] w fun e w'=>(DoOut w' B sb ev e (enterG (entsN ns) work.data.toList a.data.toList))∧Below B w w'∧KeepX w w':=by
 obtain ⟨g,rfl,ca,hn0,hal⟩:=hW.at ha
 obtain ⟨W0,hW0⟩:∃ W0,W0=w.alloc (.cells #[.slice (some ⟨g,0,none⟩) n cap,.pointer sv,.pointer sr] 69):=⟨_,rfl⟩
 have hb0:Below w.heap.size w W0:=by rw [hW0];exact (Below.refl _ _).alloc (Nat.le_refl _) _
 have hc0:W0.heap[w.heap.size]?=some (.cells #[.slice (some ⟨g,0,none⟩) n cap,.pointer sv,.pointer sr] 69 (0,0)):=by rw [hW0];exact heap_alloc_new _ _
 have t0:W0.cell? ⟨w.heap.size,0,none⟩=some (.slice (some ⟨g,0,none⟩) n cap):=cq 0 hc0
 have a0:=cell_later hb0 ca
 have hst0:=h.below hb0
 have hR:=sResolve_any sb work a m W0 hst0.c1 (by omega) (by omega) (cell_later hb0 hm)
 have hBw:=h.base
 have hlim:=h.lim
 have HST:=hide hst0
 have HM:=hide (cell_later hb0 hm)
 have HC:=hide hc0
 have hes:=er_some
 have hen:=er_nil
 have i0:(0:Int)<(n:Int):=by omega
 clear h hm ha hW ca hst0 hc0
 cases hr:R.resP work.data.toList a.data.toList with
 | none=>
   rw [hr] at hR
   simp only [Option.getD_none,R.errV,bs_nil] at hR
   have HR:Hid (enterG (entsN ns) work.data.toList a.data.toList=.error 1):=hide (by unfold enterG;rw [hr])
   clear hr
   go_enter Tryz.func225,Tryz.ntmps225
   go_upto_region 1 with fail
   rw [←hW0]
   clear hW0
   go_wp2_with (go_at_call 263;refine hR.mono ?_;clear hR;rintro e1 w1 ⟨rfl,hb1⟩)
   go_ret
   have hb01:Below w.heap.size w w1:=hb0.trans (hb1.mono hb0.size)
   rw [uh HR]
   exact ⟨rfl,hb01.mono hBw,keepX_below hb01⟩
 | some p=>
   rw [hr] at hR
   simp only [Option.getD_some,R.errV] at hR
   obtain ⟨pb,hpb⟩:∃ pb,pb=bs p:=⟨_,rfl⟩
   rw [←hpb] at hR
   have HPB:Hid (pb.data.toList=p):=hide (by rw [hpb,bs_list])
   have hpl:pb.size≤170:=by rw [Lib.size_eq,uh HPB];exact res_le hr
   have HR0:=hide hr
   clear hr hpb
   go_enter Tryz.func225,Tryz.ntmps225
   go_upto_region 1 with fail
   rw [←hW0]
   clear hW0
   go_upto_region 4 with (go_at_call 263;refine hR.mono ?_;clear hR;rintro e1 w1 ⟨rfl,hb1⟩)
   have hb01:Below w.heap.size w w1:=hb0.trans (hb1.mono hb0.size)
   have hst1:=(uh HST).below hb1
   have hm1:=cell_later hb1 (uh HM)
   clear a0 t0
   have hMk:=makeDir_any sb r ns work pb ev B m w1 hst1 (by omega) (by omega) hm1
   rw [uh HPB] at hMk
   have HST1:=hide hst1
   clear hst1 hm1
   cases hg:mkDirG (entsN ns) p with
   | error k=>
     rw [hg] at hMk
     unfold TrOut at hMk
     have HR:Hid (enterG (entsN ns) work.data.toList a.data.toList=.error k):=hide (by unfold enterG;rw [uh HR0];simp only;rw [hg])
     clear hg
     go_wp2_with (go_at_call 262;refine hMk.mono ?_;clear hMk;rintro e2 w2 ⟨rfl,hb2,hx2⟩)
     go_ret
     rw [uh HR]
     exact ⟨rfl,(hb01.mono hBw).trans hb2,(keepX_below hb01).trans hx2⟩
   | ok t=>
     rw [hg] at hMk
     unfold TrOut at hMk
     have HR:Hid (enterG (entsN ns) work.data.toList a.data.toList=.ok (t,p)):=hide (by unfold enterG;rw [uh HR0];simp only;rw [hg])
     clear hg
     go_upto_region 7 with (go_at_call 262;refine hMk.mono ?_;clear hMk;rintro e2 w2 ⟨⟨rfl,ns',hst2,he2,hs2,hl2⟩,hb2,hx2⟩)
     have c1:=hst2.c1
     have f1:=frozen_of_row w2 sb 1 _ _ hst2.cells
     have HST2:=hide hst2
     have HE2:=hide he2
     clear hst2 he2 hs2
     go_wp2_with fail
     go_ret
     rw [uh HR]
     obtain ⟨e1,e2,e3⟩:=(uh HST2).enter (p:=pb) hsb
     exact ⟨⟨rfl,r,ns',pb,e1,uh HE2,uh HPB,by omega,by omega⟩,((hb01.mono hBw).trans hb2).trans e2,((keepX_below hb01).trans hx2).trans e3⟩
set_option maxHeartbeats 4000000 in
set_option maxRecDepth 10000 in
theorem mkdir_any (sb:Nat) (r:Nd) (ns:List Nd) (work a:ByteArray) (ev:Value) (ao:Option Addr) (cap:Nat) (ps:List ByteArray) (sv sr:Option Addr) (B:Nat) (m:Int) (w:World) (h:StA w B sb r ns work ev) (hn:ns.length≤400) (hws:work.size≤1048576) (hW:Wrds w ao 1 cap ps) (ha:ps[0]?=some a) (hm:w.cell? ⟨14,0,none⟩=some (.int .i64 m)) :
  Calls Tryz.prog 221 #[.pointer (some ⟨sb,0,none⟩),.agg #[.slice ao 1 cap,.pointer sv,.pointer sr]] w fun e w'=>(DoOut w' B sb ev e (mkdirG (entsN ns) work.data.toList a.data.toList))∧Below B w w'∧KeepX w w':=by
 obtain ⟨g,rfl,ca,hn0,hal⟩:=hW.at ha
 obtain ⟨W0,hW0⟩:∃ W0,W0=w.alloc (.cells #[.slice (some ⟨g,0,none⟩) 1 cap,.pointer sv,.pointer sr] 69):=⟨_,rfl⟩
 have hb0:Below w.heap.size w W0:=by rw [hW0];exact (Below.refl _ _).alloc (Nat.le_refl _) _
 have hc0:W0.heap[w.heap.size]?=some (.cells #[.slice (some ⟨g,0,none⟩) 1 cap,.pointer sv,.pointer sr] 69 (0,0)):=by rw [hW0];exact heap_alloc_new _ _
 have t0:W0.cell? ⟨w.heap.size,0,none⟩=some (.slice (some ⟨g,0,none⟩) 1 cap):=cq 0 hc0
 have a0:=cell_later hb0 ca
 have hst0:=h.below hb0
 have hR:=sResolve_any sb work a m W0 hst0.c1 (by omega) (by omega) (cell_later hb0 hm)
 have hBw:=h.base
 have hlim:=h.lim
 have HST:=hide hst0
 have HM:=hide (cell_later hb0 hm)
 have HC:=hide hc0
 have hes:=er_some
 have hen:=er_nil
 clear h hm ha hW ca hst0 hc0
 cases hr:R.resP work.data.toList a.data.toList with
 | none=>
   rw [hr] at hR
   simp only [Option.getD_none,R.errV,bs_nil] at hR
   have HR:Hid (mkdirG (entsN ns) work.data.toList a.data.toList=.error 1):=hide (by unfold mkdirG;rw [hr])
   clear hr
   go_enter Tryz.func221,Tryz.ntmps221
   go_upto_region 1 with fail
   rw [←hW0]
   clear hW0
   go_wp2_with (go_at_call 263;refine hR.mono ?_;clear hR;rintro e1 w1 ⟨rfl,hb1⟩)
   go_ret
   have hb01:Below w.heap.size w w1:=hb0.trans (hb1.mono hb0.size)
   rw [uh HR]
   exact ⟨rfl,hb01.mono hBw,keepX_below hb01⟩
 | some p=>
   rw [hr] at hR
   simp only [Option.getD_some,R.errV] at hR
   obtain ⟨pb,hpb⟩:∃ pb,pb=bs p:=⟨_,rfl⟩
   rw [←hpb] at hR
   have HPB:Hid (pb.data.toList=p):=hide (by rw [hpb,bs_list])
   have hpl:pb.size≤170:=by rw [Lib.size_eq,uh HPB];exact res_le hr
   have HR0:=hide hr
   clear hr hpb
   go_enter Tryz.func221,Tryz.ntmps221
   go_upto_region 1 with fail
   rw [←hW0]
   clear hW0
   go_upto_region 4 with (go_at_call 263;refine hR.mono ?_;clear hR;rintro e1 w1 ⟨rfl,hb1⟩)
   have hb01:Below w.heap.size w w1:=hb0.trans (hb1.mono hb0.size)
   have hst1:=(uh HST).below hb1
   have hm1:=cell_later hb1 (uh HM)
   clear a0 t0
   have hMk:=makeDir_any sb r ns work pb ev B m w1 hst1 (by omega) (by omega) hm1
   rw [uh HPB] at hMk
   have HST1:=hide hst1
   have t1:w1.cell? ⟨w.heap.size,0,none⟩=some (.slice (some ⟨g,0,none⟩) 1 cap):=cell_later hb1 (cq 0 (uh HC))
   have HC1:=hide ((hb1.block w.heap.size (Array.getElem?_eq_some_iff.1 (uh HC)).1).trans (uh HC))
   clear hst1 hm1
   cases hg:mkDirG (entsN ns) p with
   | error k=>
     rw [hg] at hMk
     unfold TrOut at hMk
     have HR:Hid (mkdirG (entsN ns) work.data.toList a.data.toList=.error k):=hide (by unfold mkdirG;rw [uh HR0];simp only;rw [hg])
     clear hg
     go_wp2_with (go_at_call 262;refine hMk.mono ?_;clear hMk;rintro e2 w2 ⟨rfl,hb2,hx2⟩)
     go_ret
     rw [uh HR]
     exact ⟨rfl,(hb01.mono hBw).trans hb2,(keepX_below hb01).trans hx2⟩
   | ok t=>
     rw [hg] at hMk
     unfold TrOut at hMk
     have HR:Hid (mkdirG (entsN ns) work.data.toList a.data.toList=.ok (t,work.data.toList)):=hide (by unfold mkdirG;rw [uh HR0];simp only;rw [hg])
     clear hg
     go_upto_region 5 with (go_at_call 262;refine hMk.mono ?_;clear hMk;rintro e2 w2 ⟨⟨rfl,ns',hst2,he2,hs2,hl2⟩,hb2,hx2⟩)
     have t2:w2.cell? ⟨w.heap.size,0,none⟩=some (.slice (some ⟨g,0,none⟩) 1 cap):=cq 0 (foot_cells (uh HST1).mem hs2.foot (uh HC1) (by decide))
     have HST2:=hide hst2
     have HE2:=hide he2
     clear hst2 he2 hs2 t1
     go_wp2_with fail
     go_ret
     rw [uh HR]
     exact ⟨⟨rfl,r,ns',work,uh HST2,uh HE2,rfl,hws,by omega⟩,(hb01.mono hBw).trans hb2,(keepX_below hb01).trans hx2⟩
set_option maxHeartbeats 4000000 in
set_option maxRecDepth 10000 in
theorem remove_bad (sb:Nat) (r:Nd) (ns:List Nd) (work a:ByteArray) (ev:Value) (ao:Option Addr) (n cap:Nat) (ps:List ByteArray) (sv sr:Option Addr) (B:Nat) (m:Int) (w:World) (h:StA w B sb r ns work ev) (_:ns.length≤400) (hws:work.size≤1048576) (hW:Wrds w ao n cap ps) (ha:ps[0]?=some a) (hm:w.cell? ⟨14,0,none⟩=some (.int .i64 m)) (hf:∃ k,rmG (entsN ns) work.data.toList a.data.toList=some k) :
  Calls Tryz.prog 219 #[.pointer (some ⟨sb,0,none⟩),.agg #[.slice ao n cap,.pointer sv,.pointer sr]] w fun e w'=>(∃ k,rmG (entsN ns) work.data.toList a.data.toList=some k∧e=.returned (.iface 22 (.int .i64 (k:Int))))∧Below B w w'∧KeepX w w':=by
 obtain ⟨g,rfl,ca,hn0,hal⟩:=hW.at ha
 obtain ⟨W0,hW0⟩:∃ W0,W0=w.alloc (.cells #[.slice (some ⟨g,0,none⟩) n cap,.pointer sv,.pointer sr] 69):=⟨_,rfl⟩
 have hb0:Below w.heap.size w W0:=by rw [hW0];exact (Below.refl _ _).alloc (Nat.le_refl _) _
 have hc0:W0.heap[w.heap.size]?=some (.cells #[.slice (some ⟨g,0,none⟩) n cap,.pointer sv,.pointer sr] 69 (0,0)):=by rw [hW0];exact heap_alloc_new _ _
 have t0:W0.cell? ⟨w.heap.size,0,none⟩=some (.slice (some ⟨g,0,none⟩) n cap):=cq 0 hc0
 have a0:=cell_later hb0 ca
 have hst0:=h.below hb0
 have hR:=sResolve_any sb work a m W0 hst0.c1 (by omega) (by omega) (cell_later hb0 hm)
 have hBw:=h.base
 have hlim:=h.lim
 have HST:=hide hst0
 have HM:=hide (cell_later hb0 hm)
 have HC:=hide hc0
 have hes:=er_some
 have hen:=er_nil
 have i0:(0:Int)<(n:Int):=by omega
 clear h hm ha hW ca hst0 hc0
 cases hr:R.resP work.data.toList a.data.toList with
 | none=>
   rw [hr] at hR
   simp only [Option.getD_none,R.errV,bs_nil] at hR
   have HR:Hid (rmG (entsN ns) work.data.toList a.data.toList=some 1):=hide (by unfold rmG;rw [hr])
   clear hr
   go_enter Tryz.func219,Tryz.ntmps219
   go_upto_region 1 with fail
   rw [←hW0]
   clear hW0
   go_wp2_with (go_at_call 263;refine hR.mono ?_;clear hR;rintro e1 w1 ⟨rfl,hb1⟩)
   go_ret
   have hb01:Below w.heap.size w w1:=hb0.trans (hb1.mono hb0.size)
   exact ⟨⟨1,uh HR,rfl⟩,hb01.mono hBw,keepX_below hb01⟩
 | some p=>
   rw [hr] at hR
   simp only [Option.getD_some,R.errV] at hR
   obtain ⟨pb,hpb⟩:∃ pb,pb=bs p:=⟨_,rfl⟩
   rw [←hpb] at hR
   have HPB:Hid (pb.data.toList=p):=hide (by rw [hpb,bs_list])
   have hpl:pb.size≤170:=by rw [Lib.size_eq,uh HPB];exact res_le hr
   have HR0:=hide hr
   clear hr hpb
   go_enter Tryz.func219,Tryz.ntmps219
   go_upto_region 1 with fail
   rw [←hW0]
   clear hW0
   go_upto_region 4 with (go_at_call 263;refine hR.mono ?_;clear hR;rintro e1 w1 ⟨rfl,hb1⟩)
   have hb01:Below w.heap.size w w1:=hb0.trans (hb1.mono hb0.size)
   have hst1:=(uh HST).below hb1
   have hm1:=cell_later hb1 (uh HM)
   clear a0 t0
   by_cases hp0:p=[]
   ·have HR:Hid (rmG (entsN ns) work.data.toList a.data.toList=some 9):=hide (by unfold rmG;rw [uh HR0];simp only;rw [if_pos hp0])
    have g1:(pb.toList==[])=true:=by rw [Lib.toList_data,uh HPB,hp0];rfl
    clear hp0
    go_wp2_with fail
    go_ret
    exact ⟨⟨9,uh HR,rfl⟩,hb01.mono hBw,keepX_below hb01⟩
   ·have g1:(pb.toList==[])=false:=by rw [Lib.toList_data,uh HPB];simpa using hp0
    have hF:=find_any r ns B pb m w1 hst1.mem (hide hst1.ok) (by omega) hm1
    have s0:=hst1.c0
    have HST1:=hide hst1
    have HP0:=hide hp0
    clear hst1 hm1 hp0
    go_upto_region 6 with fail
    go_wp2_with (go_at_call 47;refine hF.mono ?_;clear hF;rintro e2 w2 ⟨v,rfl,HF,hb2⟩;rcases (show v=.pointer none∧rmG (entsN ns) work.data.toList a.data.toList=some 8 from (by
     have hF2:=uh HF
     rw [uh HPB] at hF2
     rcases find_atE (uh HST1).tree (uh HST1).mem.root (uh HP0) hF2 with ⟨e1,e2⟩ | ⟨x,_,_,_,e2⟩
     ·exact ⟨e1,by unfold rmG;rw [uh HR0];simp only;rw [if_neg (uh HP0),e2]⟩
     ·obtain ⟨k,hk⟩:=hf
      unfold rmG at hk
      rw [uh HR0] at hk
      simp only at hk
      rw [if_neg (uh HP0),e2] at hk
      cases hk)) with ⟨rfl,hr8⟩)
    go_ret
    exact ⟨⟨8,hr8,rfl⟩,(hb01.trans (hb2.mono hb01.size)).mono hBw,keepX_below (hb01.trans (hb2.mono hb01.size))⟩
theorem begin_nil (sb:Nat) (ao:Option Addr) (n cap:Nat) (sr:Option Addr) (w:World) :
  Calls Tryz.prog 214 #[.pointer (some ⟨sb,0,none⟩),.agg #[.slice ao n cap,.pointer none,.pointer sr]] w fun e w'=>e=.returned .nilIface∧Below w.heap.size w w':=by
 go_enter Tryz.func214,Tryz.ntmps214
 go_wp2
 go_ret
 exact ⟨rfl,(Below.refl _ _).alloc (Nat.le_refl _) _⟩
end Go.Proofs.YtehfpjcclknipaaGreatDoor.T
