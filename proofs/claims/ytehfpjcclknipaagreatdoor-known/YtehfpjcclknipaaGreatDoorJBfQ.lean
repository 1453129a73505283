import Derived.Test.YtehfpjcclknipaaGreatDoorJBfO
namespace Go.Proofs.YtehfpjcclknipaaGreatDoor
open Go.RowKit Go.Maps
theorem names_four {ws:List Wd}{b n:List UInt8}(h:namesG ws=.ok (b,n)) (hn:n≠[]):ws.length=4:=by
 unfold namesG at h
 split at h
 ·cases h
 ·split at h
  ·cases h
  ·split at h
   ·rename_i h4;exact h4
   ·split at h
    ·cases h
    ·injection h with h;injection h with _ h;exact absurd h.symm hn
theorem other_block {w w6:World}{o:Obj}{v:Value}{B e z n q fb:Nat}{xs:List Value}{c:Array Value}{t:TypeId}{x:Value}(hrow:w.ownsRow B e z v n xs) (hg:(w.alloc o).grownBy w6 v.ownBlock) (hq:w.heap[q]?=some (.cells c t (0,0))) (hne:e≠t) (hf:q≠fb):(w6.setCell ⟨fb,0,none⟩ x).heap[q]?=w.heap[q]?:=by
 have hlt:=(Array.getElem?_eq_some_iff.1 hq).1
 rw [Below.heap_setCell _ _ _ _ hf]
 exact (hg.block q (by simp;omega) (fun e'=>row_tag hrow hq hne e'.symm)).trans (Below.heap_alloc _ _ _ hlt)
theorem row_other {w w6:World}{o:Obj}{v v2:Value}{B B2 e e2 z z2 n n2 fb:Nat}{xs xs2:List Value}{c:Array Value}{t:TypeId}{x:Value}(hrow:w.ownsRow B e z v n xs) (hg:(w.alloc o).grownBy w6 v.ownBlock) (hfb:w.heap[fb]?=some (.cells c t (0,0))) (h2:w.ownsRow B2 e2 z2 v2 n2 xs2) (hne:e≠e2) (hne2:e2≠t):(w6.setCell ⟨fb,0,none⟩ x).ownsRow B2 e2 z2 v2 n2 xs2:=by
 refine row_same h2 fun k hk=>?_
 rcases h2.2 with ⟨rfl,_⟩ | ⟨a,cap,cur,rfl,_,ha,_⟩
 ·cases hk
 obtain rfl:a=k:=by simpa [Value.ownBlock] using hk
 exact other_block hrow hg ha hne (fun e'=>by
  rw [e',hfb] at ha
  injection ha with ha
  injection ha with _ ha
  exact hne2 ha.symm)
theorem ws_other {w w6:World}{o:Obj}{v:Value}{B e z n fb:Nat}{xs:List Value}{c:Array Value}{t:TypeId}{x:Value}(hrow:w.ownsRow B e z v n xs) (hg:(w.alloc o).grownBy w6 v.ownBlock) (hfb:w.heap[fb]?=some (.cells c t (0,0))) (h1:e≠162) (h2:e≠217) (t1:t≠162) (t2:t≠217) {B2:Nat}{wv:Value}{ws:List WdM}(h:WsM w B2 wv ws):WsM (w6.setCell ⟨fb,0,none⟩ x) B2 wv ws:=
 ⟨row_other hrow hg hfb h.row h1 t1.symm,fun m hm=>row_other hrow hg hfb (h.all m hm) h2 t2.symm⟩
theorem file_snoc {w w6:World}{o:Obj}{B fb:Nat}{sv v6:Value}{ss:List StM}{un:ByteArray}(h:FileM w B fb sv ss) (hl:ss.length<5) (hB:B≤w.heap.size) (hown:w6.ownsRow B 106 2 v6 (ss.length+1) (stC ss++[.string un,.slice none 0 0])) (hg:(w.alloc o).grownBy w6 sv.ownBlock) :
  FileM (w6.setCell ⟨fb,0,none⟩ v6) B fb v6 (ss++[⟨un,.slice none 0 0,[]⟩])∧Fr B w (w6.setCell ⟨fb,0,none⟩ v6):=by
 have hfb6:w6.heap[fb]?=some (.cells #[sv] 98 (0,0)):=by
  have hlt:=h.lt
  exact ((hg.block fb (by simp;omega) (fun e'=>row_tag h.row h.cells (by decide) e'.symm)).trans (Below.heap_alloc _ _ _ hlt)).trans h.cells
 refine ⟨⟨heap_setCell_same _ _ 0 _ _ _ hfb6,h.base,?_,fun s hs=>?_,by simp;omega⟩,?_⟩
 ·rw [stC_snoc,List.length_append]
  refine row_same hown fun k hk=>Below.heap_setCell _ _ _ _ (fun e=>?_)
  obtain rfl:k=fb:=e
  exact row_tag hown hfb6 (by decide) hk
 ·rcases List.mem_append.1 hs with h' | h'
  ·have hk:=h.all s h'
   exact ⟨row_other h.row hg h.cells hk.row (by decide) (by decide),fun m hm=>⟨ws_other h.row hg h.cells (by decide) (by decide) (by decide) (by decide) (hk.all m hm).ws,(hk.all m hm).op,(hk.all m hm).least,(hk.all m hm).small,(hk.all m hm).short⟩,hk.short⟩
  ·rw [List.mem_singleton] at h';subst h'
   exact ⟨World.ownsRow_nil _ _ _ _,by simp,by simp⟩
 ·exact (((Fr.of_below ((Below.refl _ w).alloc (Nat.le_refl _) o) hB).grown (h.row.alloc o) hg (by decide) (by simp;omega)).set hfb6 (by decide) h.base 0 _)
def FromOut (w:World) (ev:Ending) (B fb ib:Nat) (wv:Value) (ss:List StM) (ws:List WdM) (a b:Int) (f g:Value) (r:Res (List Stg × Int)):Prop:=match r with
 | .error (e,p)=>Wrg w ev e p
 | .ok (st,k)=>ev=.returned (.tuple #[])∧∃ (sv':Value) (un:ByteArray),FileM w B fb sv' (ss++[(⟨un,.slice none 0 0,[]⟩:StM)])∧InB w B ib wv ws k a b f g∧st=(ss++[(⟨un,.slice none 0 0,[]⟩:StM)]).map StM.stg
set_option maxHeartbeats 4000000 in
set_option maxRecDepth 10000 in
theorem from_read (B fb ib:Nat) (sv wv:Value) (ss:List StM) (ws:List WdM) (a b:Int) (f g:Value) (w:World) (h:FileM w B fb sv ss) (hi:InB w B ib wv ws (-1) a b f g) (hap:∀ s∈ss,s.iv.ownBlock≠some ib) (h2:2≤ws.length) (h4:ws.length≤4) (hfg:∃ f' g':Nat,f=fnV f'∧g=fnV g') :
  Calls Tryz.prog 213 #[.pointer (some ⟨fb,0,none⟩),.pointer (some ⟨ib,0,none⟩)] w fun ev w'=>FromOut w' ev B fb ib wv ss ws a b f g (fromG (ss.map StM.stg) (ws.map WdM.wd))∧Fr B w w':=by
 obtain ⟨i0,hi0,hz0,hz1,hz2⟩:=info_parts info106
 obtain ⟨f',g',hf,hg⟩:=hfg
 obtain ⟨gw,cap,hv⟩:=hi.form (by omega)
 have hBw:B≤w.heap.size:=Nat.le_trans h.base (Nat.le_of_lt h.lt)
 have hN:=names_any B wv ws w hi.wsm hi.small h2 h4
 unfold NamesOut at hN
 obtain ⟨n,hn⟩:∃ n,n=ws.length:=⟨_,rfl⟩
 have c0:w.cell? ⟨ib,0,none⟩=some (.slice (some ⟨gw,0,none⟩) n cap):=by
  have:=cq 0 hi.cells
  rw [hv,←hn] at this;exact this
 have HWV:Hid (wv=.slice (some ⟨gw,0,none⟩) n cap):=hide (by rw [hv,hn])
 rw [uh HWV] at hN
 have HF:=hide h
 have HI:=hide hi
 have HAP:=hide hap
 have HNL:=hide hn
 have HFG:=hide (And.intro hf hg)
 cases hnm:namesG (ws.map WdM.wd) with
 | error x=>
   obtain ⟨e,p⟩:=x
   rw [hnm] at hN
   unfold Wrg at hN
   have HG:Hid (fromG (ss.map StM.stg) (ws.map WdM.wd)=.error (e,p)):=hide (by unfold fromG;rw [hnm])
   clear h hi hap hv hn hnm hf hg h2 h4
   go_enter Tryz.func213,Tryz.ntmps213
   go_wp2_with (go_at_call 249;refine hN.mono ?_;clear hN;rintro ev w8 ⟨⟨bb,rfl,hc⟩,hb8⟩)
   refine ⟨rfl,?_,Fr.of_below hb8 hBw⟩
   unfold FromOut
   rw [uh HG]
   exact ⟨bb,rfl,hc⟩
 | ok x=>
   obtain ⟨bs,nm⟩:=x
   rw [hnm] at hN
   have hn1:1<n:=by omega
   have hnmL:nm≠[]→n=4:=fun hne=>by have:=names_four hnm hne;rw [List.length_map,←hn] at this;exact this
   obtain ⟨x1,ao1,n1,cap1,X1⟩:=wdF (cap:=cap) (g:=gw) (by have:=hi.wsm;rw [hv] at this;exact this) hi.small 1 (by omega)
   obtain ⟨x0,ao0,n0,cap0,X0⟩:=wdF (cap:=cap) (g:=gw) (by have:=hi.wsm;rw [hv] at this;exact this) hi.small 0 (by omega)
   have HG:Hid (fromG (ss.map StM.stg) (ws.map WdM.wd)=if bs≠wScratch∧findG (ss.map StM.stg) bs=-1 then .error (6,x1.place)
    else if nm=wScratch∨(nm≠[]∧findG (ss.map StM.stg) nm≠-1) then .error (6,plc (ws.map WdM.wd) 3)
    else if 5≤ss.length then .error (10,x0.place)
    else .ok (ss.map StM.stg++[⟨nm,[]⟩],if bs=wScratch then -1 else findG (ss.map StM.stg) bs)):=hide (by
     unfold fromG;rw [hnm];simp only;rw [X1.plc,X0.plc,List.length_map])
   have HX1:=hide X1
   have HX0:=hide X0
   have hsh:=h.short
   obtain ⟨ao2,cap2,hsv⟩:∃ ao cap,sv=.slice ao ss.length cap:=by
    rcases h.row.2 with ⟨e,h0⟩ | ⟨g,cap,cur,e,_⟩
    ·exact ⟨none,0,by rw [e,h0]⟩
    ·exact ⟨_,_,e⟩
   have HSV:=hide hsv
   have hfne:fb≠ib:=by
    rintro rfl
    have h1:=h.cells
    have h2:=hi.cells
    rw [h1] at h2
    injection h2 with h2
    injection h2 with _ h2
    cases h2
   have hF61:=fun w'=>fail_wrg 6 x1.place w'
   have hF63:=fun w'=>fail_wrg 6 (plc (ws.map WdM.wd) 3) w'
   have hF10:=fun w'=>fail_wrg 10 x0.place w'
   obtain ⟨N,hNN⟩:∃ N,N=ss.length:=⟨_,rfl⟩
   have HNN:=hide hNN
   rw [←hNN] at HG hsh
   have i1:(1:Int)<(n:Int):=by omega
   clear h hi hap hv hn hnm hf hg h2 h4 X1 X0 hsv hNN
   by_cases hsc:bs=wScratch
   ·have HG1:Hid (fromG (ss.map StM.stg) (ws.map WdM.wd)=if nm=wScratch∨(nm≠[]∧findG (ss.map StM.stg) nm≠-1) then .error (6,plc (ws.map WdM.wd) 3)
     else if 5≤N then .error (10,x0.place)
     else .ok (ss.map StM.stg++[⟨nm,[]⟩],-1)):=hide (by rw [uh HG,if_neg (fun hh=>hh.1 hsc),if_pos hsc])
    go_enter Tryz.func213,Tryz.ntmps213
    go_upto_region 5 with (go_at_call 249;refine hN.mono ?_;clear hN;rintro ev W ⟨⟨ub,un,rfl,hub,hun⟩,hbW⟩;have HUN:=hide hun;have g1:(ub.toList==[115,99,114,97,116,99,104])=true:=(by rw [Lib.toList_data,hub,hsc];decide);clear hun hub)
    have hWI:=(uh HI).below hbW
    have hWF:=(uh HF).below hbW
    have hWB:Fr B w W:=Fr.of_below hbW hBw
    clear HG hsc g1 hbW
    have HWI:=hide hWI
    have HWF:=hide hWF
    have HWB:=hide hWB
    have hcs:=hWI.cells
    rw [uh HWV,(uh HFG).1,(uh HFG).2] at hcs
    have d0:W.cell? ⟨ib,0,none⟩=some (.slice (some ⟨gw,0,none⟩) n cap):=cq 0 hcs
    have HCS:=hide hcs
    have s0:W.cell? ⟨fb,0,none⟩=some (.slice ao2 N cap2):=by rw [uh HNN,←uh HSV];exact hWF.c0
    have hB6:B≤W.heap.size:=Nat.le_trans hBw hWB.size
    clear hWI hWF hWB hcs
    have bad6:∀ w4 ev w8 bb,Below W.heap.size W w4→Below w4.heap.size w4 w8→ev=.panicked [{ v:=.iface 203 (.pointer (some ⟨bb,0,none⟩)),recovered:=false }]→w8.heap[bb]?=some (.cells #[.int .i64 (6:Nat),.int .i64 (plc (ws.map WdM.wd) 3:Nat)] 206 (0,0))→(nm=wScratch∨(nm≠[]∧findG (ss.map StM.stg) nm≠-1))→FromOut w8 ev B fb ib wv ss ws a b f g (fromG (ss.map StM.stg) (ws.map WdM.wd))∧Fr B w w8:=by
     intro w4 ev w8 bb hb4 hb8 he hc hcond
     refine ⟨?_,((uh HWB).next hb4 hB6).next hb8 (Nat.le_trans hB6 hb4.size)⟩
     unfold FromOut
     rw [uh HG1,if_pos hcond]
     exact ⟨bb,he,hc⟩
    have BAD6:=hide bad6
    clear bad6
    have H3:Hid (nm≠[]→∀ w4,Below W.heap.size W w4→n=4∧w4.cell? ⟨ib,0,none⟩=some (.slice (some ⟨gw,0,none⟩) n cap)∧w4.cell? ⟨gw,3*2,none⟩=some (.int .i64 (plc (ws.map WdM.wd) 3:Nat))):=hide (fun hne w4 hb4=>by
     have h4:=hnmL hne
     have hws:=((uh HWI).wsm).below hb4
     rw [uh HWV,uh HNL] at hws
     obtain ⟨x3,ao3,n3,cap3,X3⟩:=wdF hws (uh HI).small 3 (by rw [←uh HNL];omega)
     exact ⟨h4,cell_later hb4 d0,by rw [X3.plc];exact X3.c0⟩)
    have hFn:=find_any B fb sv ss un W (uh HWF)
    rw [uh HUN] at hFn
    obtain ⟨M,hM⟩:∃ M,M=findG (ss.map StM.stg) nm:=⟨_,rfl⟩
    rw [←hM] at hFn HG1 BAD6
    clear hM
    have FIN:Hid (∀ W6,Below W.heap.size W W6→N<5→fromG (ss.map StM.stg) (ws.map WdM.wd)=.ok (ss.map StM.stg++[⟨nm,[]⟩],-1)→W6.cell? ⟨fb,0,none⟩=some (.slice ao2 N cap2)∧W6.ownsRow B 106 2 (.slice ao2 N cap2) N (stC ss)∧FileM W6 B fb (.slice ao2 N cap2) ss∧InB W6 B ib wv ws (-1) a b f g):=hide (fun W6 hb6 _ _=>by
     have h1:=(uh HWF).below hb6
     rw [uh HSV,←uh HNN] at h1
     have h3:=h1.row
     rw [←uh HNN] at h3
     exact ⟨h1.c0,h3,h1,(uh HWI).below hb6⟩)
    have done:∀ (W6:World),Below W.heap.size W W6→N<5→fromG (ss.map StM.stg) (ws.map WdM.wd)=.ok (ss.map StM.stg++[⟨nm,[]⟩],-1)→∀ v6 w6,w6.ownsRow B 106 2 v6 (N+1) (stC ss++[.string un,.slice none 0 0])→(W6.alloc (.cells #[.string un,.slice none 0 0] 106)).grownBy w6 (Value.slice ao2 N cap2).ownBlock→FromOut (w6.setCell ⟨fb,0,none⟩ v6) (.returned (.tuple #[])) B fb ib wv ss ws a b f g (fromG (ss.map StM.stg) (ws.map WdM.wd))∧Fr B w (w6.setCell ⟨fb,0,none⟩ v6):=by
     intro W6 hb6 hN5 hG v6 w6 hown hgr
     obtain ⟨_,_,hF6,hI6⟩:=uh FIN W6 hb6 hN5 hG
     have hB66:B≤W6.heap.size:=Nat.le_trans hB6 hb6.size
     obtain ⟨hF7,hb7⟩:=file_snoc hF6 (by rw [←uh HNN];exact hN5) hB66 (by rw [←uh HNN];exact hown) hgr
     refine ⟨?_,((uh HWB).next hb6 hB6).trans hb7⟩
     unfold FromOut
     rw [hG]
     refine ⟨rfl,v6,un,hF7,?_,?_⟩
     ·have hrow6:=hF6.row
      exact ⟨(other_block hrow6 hgr hI6.cells (by decide) (Ne.symm hfne)).trans hI6.cells,ws_other hrow6 hgr hF6.cells (by decide) (by decide) (by decide) (by decide) hI6.wsm,hI6.base,hI6.short,hI6.small⟩
     ·rw [List.map_append];simp [StM.stg,uh HUN]
    have DONE:=hide done
    clear done
    have bad10:∀ w4 ev w8 bb,Below W.heap.size W w4→Below w4.heap.size w4 w8→ev=.panicked [{ v:=.iface 203 (.pointer (some ⟨bb,0,none⟩)),recovered:=false }]→w8.heap[bb]?=some (.cells #[.int .i64 (10:Nat),.int .i64 (x0.place:Int)] 206 (0,0))→fromG (ss.map StM.stg) (ws.map WdM.wd)=.error (10,x0.place)→FromOut w8 ev B fb ib wv ss ws a b f g (fromG (ss.map StM.stg) (ws.map WdM.wd))∧Fr B w w8:=by
     intro w4 ev w8 bb hb4 hb8 he hc hcond
     refine ⟨?_,((uh HWB).next hb4 hB6).next hb8 (Nat.le_trans hB6 hb4.size)⟩
     unfold FromOut
     rw [hcond]
     exact ⟨bb,he,hc⟩
    have BAD10:=hide bad10
    clear bad10
    have HPL:Hid (∀ w',Below W.heap.size W w'→(w'.cell? ⟨ib,0,none⟩=some (.slice (some ⟨gw,0,none⟩) n cap)∧w'.cell? ⟨ib,1,none⟩=some (.int .i64 (-1))∧w'.cell? ⟨ib,2,none⟩=some (.int .i64 a)∧w'.cell? ⟨ib,3,none⟩=some (.int .i64 b)∧w'.cell? ⟨ib,4,none⟩=some (fnV f')∧w'.cell? ⟨ib,5,none⟩=some (fnV g'))∧Calls Tryz.prog 76 #[.agg #[.slice (some ⟨gw,0,none⟩) n cap,.int .i64 (-1),.int .i64 a,.int .i64 b,fnV f',fnV g']] w' fun ev w''=>ev=.returned (.int .i64 (x0.place:Int))∧Below w'.heap.size w' w''):=hide (fun w' hb'=>by
     have hcw:w'.heap[ib]?=some (.cells #[.slice (some ⟨gw,0,none⟩) n cap,.int .i64 (-1),.int .i64 a,.int .i64 b,fnV f',fnV g'] 76 (0,0)):=(hb'.block ib (uh HWI).lt).trans (uh HCS)
     refine ⟨⟨cq 0 hcw,cq 1 hcw,cq 2 hcw,cq 3 hcw,cq 4 hcw,cq 5 hcw⟩,?_⟩
     have:=place_gen wv ws x0 (-1) a b (fnV f') (fnV g') B w' ((uh HWI).wsm.below hb') (uh HX0).get
     rw [uh HWV] at this;exact this)
    by_cases hns:nm=wScratch
    ·have hne:nm≠[]:=by rw [hns];decide
     have g2:(un.toList==[115,99,114,97,116,99,104])=true:=by rw [Lib.toList_data,uh HUN,hns];decide
     obtain ⟨h4,k0,k1⟩:=uh H3 hne W (Below.refl _ _)
     have i3:(3:Int)<(n:Int):=by omega
     have HNS:=hide hns
     clear h4 hns hne
     go_wp2_with (go_at_call 69;refine (hF63 _).mono ?_;clear hF63;rintro ev w8 ⟨bb,rfl,hc,hb8⟩)
     exact ⟨rfl,uh BAD6 W _ w8 bb (Below.refl _ _) hb8 rfl hc (.inl (uh HNS))⟩
    have g2:(un.toList==[115,99,114,97,116,99,104])=false:=by rw [Lib.toList_data,uh HUN];simpa using hns
    by_cases hne:nm=[]
    ·have g3:un.toList.isEmpty=true:=by rw [Lib.toList_data,uh HUN,hne];rfl
     have hcond:¬ (nm=wScratch∨(nm≠[]∧M≠-1)):=by rintro (h | h);exact hns h;exact h.1 hne
     clear hns hne
     by_cases h5:5≤N
     ·have g5:(5:Int)≤(N:Int):=by omega
      have HGe:Hid (fromG (ss.map StM.stg) (ws.map WdM.wd)=.error (10,x0.place)):=hide (by rw [uh HG1,if_neg hcond,if_pos h5])
      obtain ⟨⟨t0,t1,t2,t3,t4,t5⟩,hPl⟩:=uh HPL W (Below.refl W.heap.size W)
      have S0:=(cell_later (Below.refl W.heap.size W) s0)
      clear h5 HG1 hcond
      go_wp2_with (first
       | (go_at_call 76;refine hPl.mono ?_;clear hPl;rintro ev w7 ⟨rfl,hb7⟩)
       | (go_at_call 69;refine (hF10 _).mono ?_;clear hF10;rintro ev w8 ⟨bb,rfl,hc,hb8⟩))
      exact ⟨rfl,uh BAD10 w7 _ w8 bb (((Below.refl W.heap.size W)).trans (hb7.mono ((Below.refl W.heap.size W)).size)) hb8 rfl hc (uh HGe)⟩
     ·have g5:¬ (5:Int)≤(N:Int):=by omega
      have HGe:Hid (fromG (ss.map StM.stg) (ws.map WdM.wd)=.ok (ss.map StM.stg++[⟨nm,[]⟩],-1)):=hide (by rw [uh HG1,if_neg hcond,if_neg h5])
      obtain ⟨S0,S1,S2,S3⟩:=uh FIN W (Below.refl W.heap.size W) (by omega) (uh HGe)
      have HS1:=hide (S1.alloc (.cells #[.string un,.slice none 0 0] 106))
      have HS2:Hid (∀ w6,(W.alloc (.cells #[.string un,.slice none 0 0] 106)).grownBy w6 (Value.slice ao2 N cap2).ownBlock→w6.heap[fb]?=some (.cells #[.slice ao2 N cap2] 98 (0,0))):=hide (fun w6 hgr=>by
       have hlt:=S2.lt
       exact ((hgr.block fb (by simp;omega) (fun e'=>row_tag S2.row S2.cells (by decide) e'.symm)).trans (Below.heap_alloc _ _ _ hlt)).trans S2.cells)
      have hBX:B≤W.heap.size:=Nat.le_trans hB6 ((Below.refl W.heap.size W)).size
      have HB:=hide (Below.refl W.heap.size W)
      clear HG1 hcond S1 S2 S3
      go_wp2_with (at_builtin;refine wpList_append_own _ rfl _ _ 96 rfl B 106 i0 _ 2 40 Tryz.underlying96 hi0 hz0 hz1 hz2 rfl (by decide) (.slice ao2 N cap2) N (stC ss) rfl (uh HS1) ⟨W.heap.size,0,none⟩ 1 1 [.string un,.slice none 0 0] rfl rfl (World.news_of_block (cs:=#[.string un,.slice none 0 0]) (t:=106) (fr:=(0,0)) (heap_alloc_new _ _)) (by intro u hu;simp only [List.mem_cons,List.not_mem_nil,or_false] at hu;rcases hu with rfl | rfl <;> rfl) (by unfold maxLen;omega) (by omega) (by simp;omega) ?_;intro v6 w6 hown6 hgrow6 _;obtain ⟨g6,cp6,rfl,_,_⟩:=World.ownsRow.form hown6 (by omega);have hs1:=uh HS2 w6 hgrow6;have k2:w6.cell? ⟨fb,0,none⟩=some (.slice ao2 N cap2):=cq 0 hs1;have f2:w6.frozen? ⟨fb,0,none⟩=false:=(by simp [World.frozen?,hs1]);have HO:=hide hown6;clear hown6 hs1)
      go_end0
      exact uh DONE W (uh HB) (by omega) (uh HGe) _ w6 (uh HO) hgrow6
    have g3:un.toList.isEmpty=false:=by rw [Lib.toList_data,uh HUN];simpa using hne
    by_cases hM1:M=-1
    ·have hcond:¬ (nm=wScratch∨(nm≠[]∧M≠-1)):=by rintro (h | h);exact hns h;exact h.2 hM1
     have g4:(M != -1)=false:=by simpa using hM1
     clear hns hne hM1
     go_upto_region 7 with (go_at_call 250;refine hFn.mono ?_;clear hFn;rintro ev w4 ⟨rfl,hb4⟩)
     by_cases h5:5≤N
     ·have g5:(5:Int)≤(N:Int):=by omega
      have HGe:Hid (fromG (ss.map StM.stg) (ws.map WdM.wd)=.error (10,x0.place)):=hide (by rw [uh HG1,if_neg hcond,if_pos h5])
      obtain ⟨⟨t0,t1,t2,t3,t4,t5⟩,hPl⟩:=uh HPL w4 hb4
      have S0:=(cell_later hb4 s0)
      clear h5 HG1 hcond
      go_wp2_with (first
       | (go_at_call 76;refine hPl.mono ?_;clear hPl;rintro ev w7 ⟨rfl,hb7⟩)
       | (go_at_call 69;refine (hF10 _).mono ?_;clear hF10;rintro ev w8 ⟨bb,rfl,hc,hb8⟩))
      exact ⟨rfl,uh BAD10 w7 _ w8 bb ((hb4).trans (hb7.mono (hb4).size)) hb8 rfl hc (uh HGe)⟩
     ·have g5:¬ (5:Int)≤(N:Int):=by omega
      have HGe:Hid (fromG (ss.map StM.stg) (ws.map WdM.wd)=.ok (ss.map StM.stg++[⟨nm,[]⟩],-1)):=hide (by rw [uh HG1,if_neg hcond,if_neg h5])
      obtain ⟨S0,S1,S2,S3⟩:=uh FIN w4 hb4 (by omega) (uh HGe)
      have HS1:=hide (S1.alloc (.cells #[.string un,.slice none 0 0] 106))
      have HS2:Hid (∀ w6,(w4.alloc (.cells #[.string un,.slice none 0 0] 106)).grownBy w6 (Value.slice ao2 N cap2).ownBlock→w6.heap[fb]?=some (.cells #[.slice ao2 N cap2] 98 (0,0))):=hide (fun w6 hgr=>by
       have hlt:=S2.lt
       exact ((hgr.block fb (by simp;omega) (fun e'=>row_tag S2.row S2.cells (by decide) e'.symm)).trans (Below.heap_alloc _ _ _ hlt)).trans S2.cells)
      have hBX:B≤w4.heap.size:=Nat.le_trans hB6 (hb4).size
      have HB:=hide hb4
      clear HG1 hcond S1 S2 S3
      go_wp2_with (at_builtin;refine wpList_append_own _ rfl _ _ 96 rfl B 106 i0 _ 2 40 Tryz.underlying96 hi0 hz0 hz1 hz2 rfl (by decide) (.slice ao2 N cap2) N (stC ss) rfl (uh HS1) ⟨w4.heap.size,0,none⟩ 1 1 [.string un,.slice none 0 0] rfl rfl (World.news_of_block (cs:=#[.string un,.slice none 0 0]) (t:=106) (fr:=(0,0)) (heap_alloc_new _ _)) (by intro u hu;simp only [List.mem_cons,List.not_mem_nil,or_false] at hu;rcases hu with rfl | rfl <;> rfl) (by unfold maxLen;omega) (by omega) (by simp;omega) ?_;intro v6 w6 hown6 hgrow6 _;obtain ⟨g6,cp6,rfl,_,_⟩:=World.ownsRow.form hown6 (by omega);have hs1:=uh HS2 w6 hgrow6;have k2:w6.cell? ⟨fb,0,none⟩=some (.slice ao2 N cap2):=cq 0 hs1;have f2:w6.frozen? ⟨fb,0,none⟩=false:=(by simp [World.frozen?,hs1]);have HO:=hide hown6;clear hown6 hs1)
      go_end0
      exact uh DONE w4 (uh HB) (by omega) (uh HGe) _ w6 (uh HO) hgrow6
    ·have g4:(M != -1)=true:=by simpa using hM1
     have HCD:Hid (nm=wScratch∨(nm≠[]∧M≠-1)):=hide (.inr ⟨hne,hM1⟩)
     have HNE:=hide hne
     clear hns hne hM1
     go_wp2_with (first
      | (go_at_call 250;refine hFn.mono ?_;clear hFn;rintro ev w4 ⟨rfl,hb4⟩;obtain ⟨h4,k0,k1⟩:=uh H3 (uh HNE) w4 hb4;have i3:(3:Int)<(n:Int):=(by omega);clear h4)
      | (go_at_call 69;refine (hF63 _).mono ?_;clear hF63;rintro ev w8 ⟨bb,rfl,hc,hb8⟩))
     exact ⟨rfl,uh BAD6 w4 _ w8 bb hb4 hb8 rfl hc (uh HCD)⟩
   ·obtain ⟨K,hK⟩:∃ K,K=findG (ss.map StM.stg) bs:=⟨_,rfl⟩
    have hFb:=fun (ub:ByteArray) (hub:ub.data.toList=bs) (w1:World) (hb1:Below w.heap.size w w1)=>find_any B fb sv ss ub w1 ((uh HF).below hb1)
    have HFb:Hid (∀ (ub:ByteArray),ub.data.toList=bs→∀ w1,Below w.heap.size w w1→Calls Tryz.prog 250 #[.pointer (some ⟨fb,0,none⟩),.string ub] w1 fun ev w'=>ev=.returned (.int .i64 K)∧Below w1.heap.size w1 w'):=hide (fun ub hub w1 hb1=>by
     have:=hFb ub hub w1 hb1
     rw [hub,←hK] at this;exact this)
    clear hFb
    rw [←hK] at HG
    clear hK
    have HZ:Hid (∀ w',Below w.heap.size w w'→w'.cell? ⟨ib,1,none⟩=some (.int .i64 (-1))∧w'.frozen? ⟨ib,1,none⟩=false):=hide (fun w' hb'=>⟨cq 1 ((uh HI).below hb').cells,by simp [World.frozen?,((uh HI).below hb').cells]⟩)
    go_enter Tryz.func213,Tryz.ntmps213
    go_upto_region 3 with (first
     | (go_at_call 249;refine hN.mono ?_;clear hN;rintro ev w1 ⟨⟨ub,un,rfl,hub,hun⟩,hb1⟩;have HUN:=hide hun;have HUB:=hide hub;have g1:(ub.toList==[115,99,114,97,116,99,104])=false:=(by rw [Lib.toList_data,hub];simpa using hsc);clear hun hub)
     | (go_at_call 250;refine (uh HFb ub (uh HUB) _ hb1).mono ?_;rintro ev w2 ⟨rfl,hb2⟩;obtain ⟨z0,z1⟩:=uh HZ w2 (hb1.trans (hb2.mono hb1.size))))
    have hbw:Below w.heap.size w w2:=hb1.trans (hb2.mono hb1.size)
    obtain ⟨W,hW⟩:∃ W,W=w2.setCell ⟨ib,1,none⟩ (.int .i64 K):=⟨_,rfl⟩
    rw [←hW]
    have hWI:InB W B ib wv ws K a b f g:=by rw [hW];exact ((uh HI).below hbw).to K
    have hWF:FileM W B fb sv ss:=by rw [hW];exact ((uh HF).below hbw).off ((uh HI).below hbw).cells (uh HAP) (Tb.to _ _ _ _ _)
    have hWB:Fr B w W:=by rw [hW];exact (Fr.of_below hbw hBw).set ((uh HI).below hbw).cells (by decide) (uh HI).base 1 _
    have y0:W.cell? ⟨ib,1,none⟩=some (.int .i64 K):=cq 1 hWI.cells
    clear hW z0 z1 g1 hb1 hb2 hbw
    by_cases hKm:K=-1
    ·have HGe:Hid (fromG (ss.map StM.stg) (ws.map WdM.wd)=.error (6,x1.place)):=hide (by rw [uh HG,if_pos ⟨hsc,hKm⟩])
     have gk:(K==-1)=true:=by simpa using hKm
     have hws:=hWI.wsm
     rw [uh HWV,uh HNL] at hws
     obtain ⟨y1,ao1',n1',cap1',Y1⟩:=wdF hws (uh HI).small 1 (by rw [←uh HNL];exact hn1)
     obtain rfl:y1=x1:=by have:=Y1.get;rw [(uh HX1).get] at this;injection this with this;exact this.symm
     have u0:=Y1.c0
     have v0:W.cell? ⟨ib,0,none⟩=some (.slice (some ⟨gw,0,none⟩) n cap):=by
      have:=cq 0 hWI.cells
      rw [uh HWV] at this;exact this
     have hB6:B≤W.heap.size:=Nat.le_trans hBw hWB.size
     have HWB:=hide hWB
     clear HG hsc hKm hws Y1 hWI hWF hWB
     go_wp2_with (go_at_call 69;refine (hF61 _).mono ?_;clear hF61;rintro ev w8 ⟨bb,rfl,hc,hb8⟩)
     refine ⟨rfl,?_,(uh HWB).next hb8 hB6⟩
     unfold FromOut
     rw [uh HGe]
     exact ⟨bb,rfl,hc⟩
    have HG1:Hid (fromG (ss.map StM.stg) (ws.map WdM.wd)=if nm=wScratch∨(nm≠[]∧findG (ss.map StM.stg) nm≠-1) then .error (6,plc (ws.map WdM.wd) 3)
     else if 5≤N then .error (10,x0.place)
     else .ok (ss.map StM.stg++[⟨nm,[]⟩],K)):=hide (by rw [uh HG,if_neg (fun hh=>hKm hh.2),if_neg hsc])
    have gk:(K==-1)=false:=by simpa using hKm
    clear HG hsc hKm
    go_upto_region 5 with fail
    have HWI:=hide hWI
    have HWF:=hide hWF
    have HWB:=hide hWB
    have hcs:=hWI.cells
    rw [uh HWV,(uh HFG).1,(uh HFG).2] at hcs
    have d0:W.cell? ⟨ib,0,none⟩=some (.slice (some ⟨gw,0,none⟩) n cap):=cq 0 hcs
    have HCS:=hide hcs
    have s0:W.cell? ⟨fb,0,none⟩=some (.slice ao2 N cap2):=by rw [uh HNN,←uh HSV];exact hWF.c0
    have hB6:B≤W.heap.size:=Nat.le_trans hBw hWB.size
    clear hWI hWF hWB hcs
    have bad6:∀ w4 ev w8 bb,Below W.heap.size W w4→Below w4.heap.size w4 w8→ev=.panicked [{ v:=.iface 203 (.pointer (some ⟨bb,0,none⟩)),recovered:=false }]→w8.heap[bb]?=some (.cells #[.int .i64 (6:Nat),.int .i64 (plc (ws.map WdM.wd) 3:Nat)] 206 (0,0))→(nm=wScratch∨(nm≠[]∧findG (ss.map StM.stg) nm≠-1))→FromOut w8 ev B fb ib wv ss ws a b f g (fromG (ss.map StM.stg) (ws.map WdM.wd))∧Fr B w w8:=by
     intro w4 ev w8 bb hb4 hb8 he hc hcond
     refine ⟨?_,((uh HWB).next hb4 hB6).next hb8 (Nat.le_trans hB6 hb4.size)⟩
     unfold FromOut
     rw [uh HG1,if_pos hcond]
     exact ⟨bb,he,hc⟩
    have BAD6:=hide bad6
    clear bad6
    have H3:Hid (nm≠[]→∀ w4,Below W.heap.size W w4→n=4∧w4.cell? ⟨ib,0,none⟩=some (.slice (some ⟨gw,0,none⟩) n cap)∧w4.cell? ⟨gw,3*2,none⟩=some (.int .i64 (plc (ws.map WdM.wd) 3:Nat))):=hide (fun hne w4 hb4=>by
     have h4:=hnmL hne
     have hws:=((uh HWI).wsm).below hb4
     rw [uh HWV,uh HNL] at hws
     obtain ⟨x3,ao3,n3,cap3,X3⟩:=wdF hws (uh HI).small 3 (by rw [←uh HNL];omega)
     exact ⟨h4,cell_later hb4 d0,by rw [X3.plc];exact X3.c0⟩)
    have hFn:=find_any B fb sv ss un W (uh HWF)
    rw [uh HUN] at hFn
    obtain ⟨M,hM⟩:∃ M,M=findG (ss.map StM.stg) nm:=⟨_,rfl⟩
    rw [←hM] at hFn HG1 BAD6
    clear hM
    have FIN:Hid (∀ W6,Below W.heap.size W W6→N<5→fromG (ss.map StM.stg) (ws.map WdM.wd)=.ok (ss.map StM.stg++[⟨nm,[]⟩],K)→W6.cell? ⟨fb,0,none⟩=some (.slice ao2 N cap2)∧W6.ownsRow B 106 2 (.slice ao2 N cap2) N (stC ss)∧FileM W6 B fb (.slice ao2 N cap2) ss∧InB W6 B ib wv ws (K) a b f g):=hide (fun W6 hb6 _ _=>by
     have h1:=(uh HWF).below hb6
     rw [uh HSV,←uh HNN] at h1
     have h3:=h1.row
     rw [←uh HNN] at h3
     exact ⟨h1.c0,h3,h1,(uh HWI).below hb6⟩)
    have done:∀ (W6:World),Below W.heap.size W W6→N<5→fromG (ss.map StM.stg) (ws.map WdM.wd)=.ok (ss.map StM.stg++[⟨nm,[]⟩],K)→∀ v6 w6,w6.ownsRow B 106 2 v6 (N+1) (stC ss++[.string un,.slice none 0 0])→(W6.alloc (.cells #[.string un,.slice none 0 0] 106)).grownBy w6 (Value.slice ao2 N cap2).ownBlock→FromOut (w6.setCell ⟨fb,0,none⟩ v6) (.returned (.tuple #[])) B fb ib wv ss ws a b f g (fromG (ss.map StM.stg) (ws.map WdM.wd))∧Fr B w (w6.setCell ⟨fb,0,none⟩ v6):=by
     intro W6 hb6 hN5 hG v6 w6 hown hgr
     obtain ⟨_,_,hF6,hI6⟩:=uh FIN W6 hb6 hN5 hG
     have hB66:B≤W6.heap.size:=Nat.le_trans hB6 hb6.size
     obtain ⟨hF7,hb7⟩:=file_snoc hF6 (by rw [←uh HNN];exact hN5) hB66 (by rw [←uh HNN];exact hown) hgr
     refine ⟨?_,((uh HWB).next hb6 hB6).trans hb7⟩
     unfold FromOut
     rw [hG]
     refine ⟨rfl,v6,un,hF7,?_,?_⟩
     ·have hrow6:=hF6.row
      exact ⟨(other_block hrow6 hgr hI6.cells (by decide) (Ne.symm hfne)).trans hI6.cells,ws_other hrow6 hgr hF6.cells (by decide) (by decide) (by decide) (by decide) hI6.wsm,hI6.base,hI6.short,hI6.small⟩
     ·rw [List.map_append];simp [StM.stg,uh HUN]
    have DONE:=hide done
    clear done
    have bad10:∀ w4 ev w8 bb,Below W.heap.size W w4→Below w4.heap.size w4 w8→ev=.panicked [{ v:=.iface 203 (.pointer (some ⟨bb,0,none⟩)),recovered:=false }]→w8.heap[bb]?=some (.cells #[.int .i64 (10:Nat),.int .i64 (x0.place:Int)] 206 (0,0))→fromG (ss.map StM.stg) (ws.map WdM.wd)=.error (10,x0.place)→FromOut w8 ev B fb ib wv ss ws a b f g (fromG (ss.map StM.stg) (ws.map WdM.wd))∧Fr B w w8:=by
     intro w4 ev w8 bb hb4 hb8 he hc hcond
     refine ⟨?_,((uh HWB).next hb4 hB6).next hb8 (Nat.le_trans hB6 hb4.size)⟩
     unfold FromOut
     rw [hcond]
     exact ⟨bb,he,hc⟩
    have BAD10:=hide bad10
    clear bad10
    have HPL:Hid (∀ w',Below W.heap.size W w'→(w'.cell? ⟨ib,0,none⟩=some (.slice (some ⟨gw,0,none⟩) n cap)∧w'.cell? ⟨ib,1,none⟩=some (.int .i64 (K))∧w'.cell? ⟨ib,2,none⟩=some (.int .i64 a)∧w'.cell? ⟨ib,3,none⟩=some (.int .i64 b)∧w'.cell? ⟨ib,4,none⟩=some (fnV f')∧w'.cell? ⟨ib,5,none⟩=some (fnV g'))∧Calls Tryz.prog 76 #[.agg #[.slice (some ⟨gw,0,none⟩) n cap,.int .i64 (K),.int .i64 a,.int .i64 b,fnV f',fnV g']] w' fun ev w''=>ev=.returned (.int .i64 (x0.place:Int))∧Below w'.heap.size w' w''):=hide (fun w' hb'=>by
     have hcw:w'.heap[ib]?=some (.cells #[.slice (some ⟨gw,0,none⟩) n cap,.int .i64 (K),.int .i64 a,.int .i64 b,fnV f',fnV g'] 76 (0,0)):=(hb'.block ib (uh HWI).lt).trans (uh HCS)
     refine ⟨⟨cq 0 hcw,cq 1 hcw,cq 2 hcw,cq 3 hcw,cq 4 hcw,cq 5 hcw⟩,?_⟩
     have:=place_gen wv ws x0 (K) a b (fnV f') (fnV g') B w' ((uh HWI).wsm.below hb') (uh HX0).get
     rw [uh HWV] at this;exact this)
    by_cases hns:nm=wScratch
    ·have hne:nm≠[]:=by rw [hns];decide
     have g2:(un.toList==[115,99,114,97,116,99,104])=true:=by rw [Lib.toList_data,uh HUN,hns];decide
     obtain ⟨h4,k0,k1⟩:=uh H3 hne W (Below.refl _ _)
     have i3:(3:Int)<(n:Int):=by omega
     have HNS:=hide hns
     clear h4 hns hne
     go_wp2_with (go_at_call 69;refine (hF63 _).mono ?_;clear hF63;rintro ev w8 ⟨bb,rfl,hc,hb8⟩)
     exact ⟨rfl,uh BAD6 W _ w8 bb (Below.refl _ _) hb8 rfl hc (.inl (uh HNS))⟩
    have g2:(un.toList==[115,99,114,97,116,99,104])=false:=by rw [Lib.toList_data,uh HUN];simpa using hns
    by_cases hne:nm=[]
    ·have g3:un.toList.isEmpty=true:=by rw [Lib.toList_data,uh HUN,hne];rfl
     have hcond:¬ (nm=wScratch∨(nm≠[]∧M≠-1)):=by rintro (h | h);exact hns h;exact h.1 hne
     clear hns hne
     by_cases h5:5≤N
     ·have g5:(5:Int)≤(N:Int):=by omega
      have HGe:Hid (fromG (ss.map StM.stg) (ws.map WdM.wd)=.error (10,x0.place)):=hide (by rw [uh HG1,if_neg hcond,if_pos h5])
      obtain ⟨⟨t0,t1,t2,t3,t4,t5⟩,hPl⟩:=uh HPL W (Below.refl W.heap.size W)
      have S0:=(cell_later (Below.refl W.heap.size W) s0)
      clear h5 HG1 hcond
      go_wp2_with (first
       | (go_at_call 76;refine hPl.mono ?_;clear hPl;rintro ev w7 ⟨rfl,hb7⟩)
       | (go_at_call 69;refine (hF10 _).mono ?_;clear hF10;rintro ev w8 ⟨bb,rfl,hc,hb8⟩))
      exact ⟨rfl,uh BAD10 w7 _ w8 bb (((Below.refl W.heap.size W)).trans (hb7.mono ((Below.refl W.heap.size W)).size)) hb8 rfl hc (uh HGe)⟩
     ·have g5:¬ (5:Int)≤(N:Int):=by omega
      have HGe:Hid (fromG (ss.map StM.stg) (ws.map WdM.wd)=.ok (ss.map StM.stg++[⟨nm,[]⟩],K)):=hide (by rw [uh HG1,if_neg hcond,if_neg h5])
      obtain ⟨S0,S1,S2,S3⟩:=uh FIN W (Below.refl W.heap.size W) (by omega) (uh HGe)
      have HS1:=hide (S1.alloc (.cells #[.string un,.slice none 0 0] 106))
      have HS2:Hid (∀ w6,(W.alloc (.cells #[.string un,.slice none 0 0] 106)).grownBy w6 (Value.slice ao2 N cap2).ownBlock→w6.heap[fb]?=some (.cells #[.slice ao2 N cap2] 98 (0,0))):=hide (fun w6 hgr=>by
       have hlt:=S2.lt
       exact ((hgr.block fb (by simp;omega) (fun e'=>row_tag S2.row S2.cells (by decide) e'.symm)).trans (Below.heap_alloc _ _ _ hlt)).trans S2.cells)
      have hBX:B≤W.heap.size:=Nat.le_trans hB6 ((Below.refl W.heap.size W)).size
      have HB:=hide (Below.refl W.heap.size W)
      clear HG1 hcond S1 S2 S3
      go_wp2_with (at_builtin;refine wpList_append_own _ rfl _ _ 96 rfl B 106 i0 _ 2 40 Tryz.underlying96 hi0 hz0 hz1 hz2 rfl (by decide) (.slice ao2 N cap2) N (stC ss) rfl (uh HS1) ⟨W.heap.size,0,none⟩ 1 1 [.string un,.slice none 0 0] rfl rfl (World.news_of_block (cs:=#[.string un,.slice none 0 0]) (t:=106) (fr:=(0,0)) (heap_alloc_new _ _)) (by intro u hu;simp only [List.mem_cons,List.not_mem_nil,or_false] at hu;rcases hu with rfl | rfl <;> rfl) (by unfold maxLen;omega) (by omega) (by simp;omega) ?_;intro v6 w6 hown6 hgrow6 _;obtain ⟨g6,cp6,rfl,_,_⟩:=World.ownsRow.form hown6 (by omega);have hs1:=uh HS2 w6 hgrow6;have k2:w6.cell? ⟨fb,0,none⟩=some (.slice ao2 N cap2):=cq 0 hs1;have f2:w6.frozen? ⟨fb,0,none⟩=false:=(by simp [World.frozen?,hs1]);have HO:=hide hown6;clear hown6 hs1)
      go_end0
      exact uh DONE W (uh HB) (by omega) (uh HGe) _ w6 (uh HO) hgrow6
    have g3:un.toList.isEmpty=false:=by rw [Lib.toList_data,uh HUN];simpa using hne
    by_cases hM1:M=-1
    ·have hcond:¬ (nm=wScratch∨(nm≠[]∧M≠-1)):=by rintro (h | h);exact hns h;exact h.2 hM1
     have g4:(M != -1)=false:=by simpa using hM1
     clear hns hne hM1
     go_upto_region 7 with (go_at_call 250;refine hFn.mono ?_;clear hFn;rintro ev w4 ⟨rfl,hb4⟩)
     by_cases h5:5≤N
     ·have g5:(5:Int)≤(N:Int):=by omega
      have HGe:Hid (fromG (ss.map StM.stg) (ws.map WdM.wd)=.error (10,x0.place)):=hide (by rw [uh HG1,if_neg hcond,if_pos h5])
      obtain ⟨⟨t0,t1,t2,t3,t4,t5⟩,hPl⟩:=uh HPL w4 hb4
      have S0:=(cell_later hb4 s0)
      clear h5 HG1 hcond
      go_wp2_with (first
       | (go_at_call 76;refine hPl.mono ?_;clear hPl;rintro ev w7 ⟨rfl,hb7⟩)
       | (go_at_call 69;refine (hF10 _).mono ?_;clear hF10;rintro ev w8 ⟨bb,rfl,hc,hb8⟩))
      exact ⟨rfl,uh BAD10 w7 _ w8 bb ((hb4).trans (hb7.mono (hb4).size)) hb8 rfl hc (uh HGe)⟩
     ·have g5:¬ (5:Int)≤(N:Int):=by omega
      have HGe:Hid (fromG (ss.map StM.stg) (ws.map WdM.wd)=.ok (ss.map StM.stg++[⟨nm,[]⟩],K)):=hide (by rw [uh HG1,if_neg hcond,if_neg h5])
      obtain ⟨S0,S1,S2,S3⟩:=uh FIN w4 hb4 (by omega) (uh HGe)
      have HS1:=hide (S1.alloc (.cells #[.string un,.slice none 0 0] 106))
      have HS2:Hid (∀ w6,(w4.alloc (.cells #[.string un,.slice none 0 0] 106)).grownBy w6 (Value.slice ao2 N cap2).ownBlock→w6.heap[fb]?=some (.cells #[.slice ao2 N cap2] 98 (0,0))):=hide (fun w6 hgr=>by
       have hlt:=S2.lt
       exact ((hgr.block fb (by simp;omega) (fun e'=>row_tag S2.row S2.cells (by decide) e'.symm)).trans (Below.heap_alloc _ _ _ hlt)).trans S2.cells)
      have hBX:B≤w4.heap.size:=Nat.le_trans hB6 (hb4).size
      have HB:=hide hb4
      clear HG1 hcond S1 S2 S3
      go_wp2_with (at_builtin;refine wpList_append_own _ rfl _ _ 96 rfl B 106 i0 _ 2 40 Tryz.underlying96 hi0 hz0 hz1 hz2 rfl (by decide) (.slice ao2 N cap2) N (stC ss) rfl (uh HS1) ⟨w4.heap.size,0,none⟩ 1 1 [.string un,.slice none 0 0] rfl rfl (World.news_of_block (cs:=#[.string un,.slice none 0 0]) (t:=106) (fr:=(0,0)) (heap_alloc_new _ _)) (by intro u hu;simp only [List.mem_cons,List.not_mem_nil,or_false] at hu;rcases hu with rfl | rfl <;> rfl) (by unfold maxLen;omega) (by omega) (by simp;omega) ?_;intro v6 w6 hown6 hgrow6 _;obtain ⟨g6,cp6,rfl,_,_⟩:=World.ownsRow.form hown6 (by omega);have hs1:=uh HS2 w6 hgrow6;have k2:w6.cell? ⟨fb,0,none⟩=some (.slice ao2 N cap2):=cq 0 hs1;have f2:w6.frozen? ⟨fb,0,none⟩=false:=(by simp [World.frozen?,hs1]);have HO:=hide hown6;clear hown6 hs1)
      go_end0
      exact uh DONE w4 (uh HB) (by omega) (uh HGe) _ w6 (uh HO) hgrow6
    ·have g4:(M != -1)=true:=by simpa using hM1
     have HCD:Hid (nm=wScratch∨(nm≠[]∧M≠-1)):=hide (.inr ⟨hne,hM1⟩)
     have HNE:=hide hne
     clear hns hne hM1
     go_wp2_with (first
      | (go_at_call 250;refine hFn.mono ?_;clear hFn;rintro ev w4 ⟨rfl,hb4⟩;obtain ⟨h4,k0,k1⟩:=uh H3 (uh HNE) w4 hb4;have i3:(3:Int)<(n:Int):=(by omega);clear h4)
      | (go_at_call 69;refine (hF63 _).mono ?_;clear hF63;rintro ev w8 ⟨bb,rfl,hc,hb8⟩))
     exact ⟨rfl,uh BAD6 w4 _ w8 bb hb4 hb8 rfl hc (uh HCD)⟩
def RdOut (w:World) (ev:Ending) (B fb ib:Nat) (sv wv:Value) (ss:List StM) (ws:List WdM) (a b:Int) (f g:Value) (op:Nat) (r:Res (List Stg × Int)):Prop:=match r with
 | .error (e,p)=>Wrg w ev e p
 | .ok (st,k)=>ev=.returned (.tuple #[])∧∃ (sv':Value) (ss':List StM),FileM w B fb sv' ss'∧InB w B ib wv ws k a b f g∧st=ss'.map StM.stg∧-1≤k∧(k<ss.length) ∧
    ((op≠0∧ss'=ss∧sv'=sv)∨(op=0∧∃ un:ByteArray,ss'=ss++[(⟨un,.slice none 0 0,[]⟩:StM)]))
theorem from_bound {st st':List Stg}{ws:List Wd}{k:Int}(h:fromG st ws=.ok (st',k)):-1≤k∧k<st.length:=by
 unfold fromG at h
 split at h
 ·cases h
 ·rename_i b n _
  split at h
  ·cases h
  ·split at h
   ·cases h
   ·split at h
    ·cases h
    ·injection h with h
     injection h with _ h
     have:=findG_lt st b
     rw [←h]
     split <;> omega
theorem copy_bound {st st':List Stg}{ws:List Wd}{k:Int}(h:copyG st ws=.ok (st',k)):st'=st∧-1≤k∧k<st.length:=by
 unfold copyG at h
 split at h
 ·split at h
  ·cases h
  ·injection h with h;injection h with h1 h;subst h1 h;exact ⟨rfl,by omega,by omega⟩
 ·rename_i n _
  split at h
  ·cases h
  ·split at h
   ·cases h
   ·split at h
    ·cases h
    ·injection h with h
     injection h with h1 h
     subst h1 h
     exact ⟨rfl,findG_lt st n⟩
theorem rd_any (op:Nat) (hop:op<8) (B fb ib:Nat) (sv wv:Value) (ss:List StM) (ws:List WdM) (w:World) (h:FileM w B fb sv ss) (hi:InB w B ib wv ws (-1) (ruleT op).1 (ruleT op).2.1 (fnV (ruleT op).2.2.1) (fnV (ruleT op).2.2.2)) (hap:∀ s∈ss,s.iv.ownBlock≠some ib)
  (h1:(ruleT op).1≤(ws.length:Int)-1) (h2:(ws.length:Int)-1≤(ruleT op).2.1) (hss:op≠0→0<ss.length) :
  Calls Tryz.prog (ruleT op).2.2.1 #[.pointer (some ⟨fb,0,none⟩),.pointer (some ⟨ib,0,none⟩)] w fun ev w'=>RdOut w' ev B fb ib sv wv ss ws (ruleT op).1 (ruleT op).2.1 (fnV (ruleT op).2.2.1) (fnV (ruleT op).2.2.2) op (readG op (ss.map StM.stg) (ws.map WdM.wd))∧Fr B w w':=by
 have hBw:B≤w.heap.size:=Nat.le_trans h.base (Nat.le_of_lt h.lt)
 have pl:∀ (r:Res (List Stg × Int)) (w':World) (ev:Ending),(∀ x,r=.ok x→x=(ss.map StM.stg,-1))→op≠0→PlainOut w' ev r→Below w.heap.size w w'→RdOut w' ev B fb ib sv wv ss ws (ruleT op).1 (ruleT op).2.1 (fnV (ruleT op).2.2.1) (fnV (ruleT op).2.2.2) op r∧Fr B w w':=by
  intro r w' ev hr h0 hp hb
  refine ⟨?_,Fr.of_below hb hBw⟩
  unfold PlainOut at hp
  unfold RdOut
  cases r with
  | error x=>exact hp
  | ok x=>
    have hx:=hr x rfl
    subst hx
    exact ⟨hp,sv,ss,h.below hb,hi.below hb,rfl,by omega,by omega,.inl ⟨h0,rfl,rfl⟩⟩
 have anyr:(ruleT op).2.2.1=217→op≠0→(∀ st ws,readG op st ws=.ok (st,-1))→Calls Tryz.prog (ruleT op).2.2.1 #[.pointer (some ⟨fb,0,none⟩),.pointer (some ⟨ib,0,none⟩)] w fun ev w'=>RdOut w' ev B fb ib sv wv ss ws (ruleT op).1 (ruleT op).2.1 (fnV (ruleT op).2.2.1) (fnV (ruleT op).2.2.2) op (readG op (ss.map StM.stg) (ws.map WdM.wd))∧Fr B w w':=by
  intro e h0 hr
  have hA:=any_read fb ib w
  rw [←e] at hA
  refine hA.mono ?_
  rintro ev w' ⟨rfl,rfl⟩
  exact pl _ _ _ (fun x hx=>by rw [hr] at hx;injection hx with hx;exact hx.symm) h0 (by rw [hr];rfl) (Below.refl _ _)
 match op,hop with
 | 0,_=>
   have h1':(1:Int)≤(ws.length:Int)-1:=h1
   have h2':(ws.length:Int)-1≤3:=h2
   refine (from_read B fb ib sv wv ss ws _ _ _ _ w h hi hap (by omega) (by omega) ⟨_,_,rfl,rfl⟩).mono ?_
   rintro ev w' ⟨ho,hb⟩
   refine ⟨?_,hb⟩
   unfold FromOut at ho
   unfold RdOut
   show match fromG (ss.map StM.stg) (ws.map WdM.wd) with | .error (e,p)=>_ | .ok (st,k)=>_
   cases hr:fromG (ss.map StM.stg) (ws.map WdM.wd) with
   | error x=>rw [hr] at ho;exact ho
   | ok x=>
     obtain ⟨st,k⟩:=x
     rw [hr] at ho
     obtain ⟨he,sv',un,hF,hI,hst⟩:=ho
     have hbd:=from_bound hr
     rw [List.length_map] at hbd
     exact ⟨he,sv',_,hF,hI,hst,hbd.1,hbd.2,.inr ⟨rfl,un,rfl⟩⟩
 | 1,_=>
   have h1':(2:Int)≤(ws.length:Int)-1:=h1
   have h2':(ws.length:Int)-1≤3:=h2
   refine (copy_read B fb ib sv wv ss ws _ _ _ _ w h hi (by omega) (by omega) (hss (by decide)) ⟨_,_,rfl,rfl⟩).mono ?_
   rintro ev w' ⟨ho,hb⟩
   have hb':Fr B w w':=Fr.of_tb hb hi.cells (by decide) hi.base
   refine ⟨?_,hb'⟩
   unfold CopyOut at ho
   unfold RdOut
   show match copyG (ss.map StM.stg) (ws.map WdM.wd) with | .error (e,p)=>_ | .ok (st,k)=>_
   cases hr:copyG (ss.map StM.stg) (ws.map WdM.wd) with
   | error x=>rw [hr] at ho;exact ho
   | ok x=>
     obtain ⟨st,k⟩:=x
     rw [hr] at ho
     obtain ⟨he,hI⟩:=ho
     have hbd:=copy_bound hr
     rw [List.length_map] at hbd
     exact ⟨he,sv,ss,h.off hi.cells hap hb,hI,hbd.1,hbd.2.1,hbd.2.2,.inl ⟨by decide,rfl,rfl⟩⟩
 | 2,_=>exact anyr rfl (by decide) (fun _ _=>rfl)
 | 3,_=>exact anyr rfl (by decide) (fun _ _=>rfl)
 | 4,_=>
   have h1':(1:Int)≤(ws.length:Int)-1:=h1
   refine (mkdir_read B fb ib wv ws (ss.map StM.stg) _ _ _ _ _ w hi (by omega)).mono ?_
   rintro ev w' ⟨ho,hb⟩
   refine pl _ _ _ (fun x hx=>?_) (by decide) ho hb
   unfold readG at hx
   simp only at hx
   split at hx
   ·injection hx with hx;exact hx.symm
   ·split at hx
    ·split at hx
     ·injection hx with hx;exact hx.symm
     ·cases hx
    ·cases hx
 | 5,_=>exact anyr rfl (by decide) (fun _ _=>rfl)
 | 6,_=>
   have h1':(2:Int)≤(ws.length:Int)-1:=h1
   refine (env_read B fb ib wv ws (ss.map StM.stg) _ _ _ _ _ w hi (by omega)).mono ?_
   rintro ev w' ⟨ho,hb⟩
   refine pl _ _ _ (fun x hx=>?_) (by decide) ho hb
   unfold readG at hx
   simp only at hx
   split at hx
   ·split at hx
    ·injection hx with hx;exact hx.symm
    ·cases hx
   ·cases hx
 | 7,_=>exact anyr rfl (by decide) (fun _ _=>rfl)
end Go.Proofs.YtehfpjcclknipaaGreatDoor
