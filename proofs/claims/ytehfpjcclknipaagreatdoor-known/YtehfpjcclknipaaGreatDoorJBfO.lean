import Derived.Test.YtehfpjcclknipaaGreatDoorJBfL
namespace Go.Proofs.YtehfpjcclknipaaGreatDoor
open Go.RowKit Go.Maps
theorem any_read (fb ib:Nat) (w:World):Calls Tryz.prog 217 #[.pointer (some ⟨fb,0,none⟩),.pointer (some ⟨ib,0,none⟩)] w fun ev w'=>ev=.returned (.tuple #[])∧w'=w:=by
 go_enter Tryz.func217,Tryz.ntmps217
 go_wp2_with fail
 go_end0
 exact ⟨rfl,rfl⟩
def PlainOut (w:World) (ev:Ending) (r:Res (List Stg × Int)):Prop:=match r with
 | .error (e,p)=>Wrg w ev e p
 | .ok _=>ev=.returned (.tuple #[])
theorem InB.form {w:World}{B ib:Nat}{wv:Value}{ws:List WdM}{st a b:Int}{f g:Value}(h:InB w B ib wv ws st a b f g) (h0:0<ws.length):∃ gw cap,wv=.slice (some ⟨gw,0,none⟩) ws.length cap:=by
 obtain ⟨gw,cap,e,_,_⟩:=World.ownsRow.form h.wsm.row h0
 exact ⟨gw,cap,e⟩
set_option maxHeartbeats 2000000 in
set_option maxRecDepth 10000 in
theorem env_read (B fb ib:Nat) (wv:Value) (ws:List WdM) (sts:List Stg) (st a b:Int) (f g:Value) (w:World) (hi:InB w B ib wv ws st a b f g) (h2:1<ws.length) :
  Calls Tryz.prog 223 #[.pointer (some ⟨fb,0,none⟩),.pointer (some ⟨ib,0,none⟩)] w fun ev w'=>PlainOut w' ev (readG 6 sts (ws.map WdM.wd))∧Below w.heap.size w w':=by
 obtain ⟨gw,cap,hv⟩:=hi.form (by omega)
 have hws:=hi.wsm
 rw [hv] at hws
 obtain ⟨x1,ao1,n1,cap1,X1⟩:=wdF hws hi.small 1 h2
 have c0:w.cell? ⟨ib,0,none⟩=some wv:=cq 0 hi.cells
 rw [hv] at c0
 have q0:=X1.c0
 have q1:=X1.c1
 have hP:=X1.plain
 have hx1:=X1.text
 have HG:Hid (readG 6 sts (ws.map WdM.wd)=match plainW x1.xs with
  | some t=>if isVarN t=true then .ok (sts,-1) else .error (5,x1.place)
  | none=>.error (5,x1.place)):=hide (by
    unfold readG
    simp only
    rw [X1.pln,X1.plc]
    rfl)
 have hF:=fun w'=>fail_wrg 5 x1.place w'
 obtain ⟨n,hn⟩:∃ n,n=ws.length:=⟨_,rfl⟩
 rw [←hn] at c0
 have i1:(1:Int)<(n:Int):=by omega
 have HD:Hid (∀ w',Below w.heap.size w w'→w'.cell? ⟨ib,0,none⟩=some (.slice (some ⟨gw,0,none⟩) n cap)∧w'.cell? ⟨gw,1*2,none⟩=some (.int .i64 (x1.place:Int))):=hide (fun w' hb'=>⟨cell_later hb' c0,cell_later hb' q0⟩)
 clear hi hws X1 hv hn h2
 cases hx:plainW x1.xs with
 | none=>
   have HG2:Hid (readG 6 sts (ws.map WdM.wd)=.error (5,x1.place)):=hide (by rw [uh HG,hx])
   rw [hx] at hP
   simp only [Option.isSome_none,Option.getD_none] at hP
   clear HG hx
   go_enter Tryz.func223,Tryz.ntmps223
   go_wp2_with (first
    | (go_at_call 187;refine hP.mono ?_;clear hP;rintro ev w2 ⟨u,rfl,HU,hb2⟩;obtain ⟨k0,k1⟩:=uh HD w2 hb2)
    | (go_at_call 69;refine (hF _).mono ?_;clear hF;rintro ev w8 ⟨bb,rfl,hc,hb8⟩))
   refine ⟨rfl,?_,hb2.trans (hb8.mono hb2.size)⟩
   unfold PlainOut
   rw [uh HG2]
   exact ⟨bb,rfl,hc⟩
 | some t=>
   have htl:=hx1 t hx
   rw [hx] at hP
   simp only [Option.isSome_some,Option.getD_some] at hP
   have hV:∀ (u:ByteArray),u.data.toList=t→∀ w',Calls Tryz.prog 184 #[.string u] w' fun e w''=>e=.returned (.bool (isVarN t))∧w''=w':=fun u hu w'=>by
    have:=isVar_any u w' (by rw [Lib.size_eq,hu];omega)
    rw [hu] at this;exact this
   have HV:=hide hV
   clear hV
   cases hb:isVarN t with
   | false=>
     have HG2:Hid (readG 6 sts (ws.map WdM.wd)=.error (5,x1.place)):=hide (by rw [uh HG,hx];simp [hb])
     rw [hb] at HV
     clear HG hx hb hx1
     go_enter Tryz.func223,Tryz.ntmps223
     go_wp2_with (first
      | (go_at_call 187;refine hP.mono ?_;clear hP;rintro ev w2 ⟨u,rfl,HU,hb2⟩;obtain ⟨k0,k1⟩:=uh HD w2 hb2)
      | (go_at_call 184;refine (uh HV u (uh HU) _).mono ?_;rintro ev w3 ⟨rfl,hw⟩;obtain rfl:=hw.symm)
      | (go_at_call 69;refine (hF _).mono ?_;clear hF;rintro ev w8 ⟨bb,rfl,hc,hb8⟩))
     refine ⟨rfl,?_,hb2.trans (hb8.mono hb2.size)⟩
     unfold PlainOut
     rw [uh HG2]
     exact ⟨bb,rfl,hc⟩
   | true=>
     have HG2:Hid (readG 6 sts (ws.map WdM.wd)=.ok (sts,-1)):=hide (by rw [uh HG,hx];simp [hb])
     rw [hb] at HV
     clear HG hx hb hx1
     go_enter Tryz.func223,Tryz.ntmps223
     go_wp2_with (first
      | (go_at_call 187;refine hP.mono ?_;clear hP;rintro ev w2 ⟨u,rfl,HU,hb2⟩)
      | (go_at_call 184;refine (uh HV u (uh HU) _).mono ?_;rintro ev w3 ⟨rfl,hw⟩;obtain rfl:=hw.symm))
     go_end0
     refine ⟨?_,hb2⟩
     unfold PlainOut
     rw [uh HG2]
set_option maxHeartbeats 2000000 in
set_option maxRecDepth 10000 in
theorem mkdir_read (B fb ib:Nat) (wv:Value) (ws:List WdM) (sts:List Stg) (st a b:Int) (f g:Value) (w:World) (hi:InB w B ib wv ws st a b f g) (h2:0<ws.length) :
  Calls Tryz.prog 220 #[.pointer (some ⟨fb,0,none⟩),.pointer (some ⟨ib,0,none⟩)] w fun ev w'=>PlainOut w' ev (readG 4 sts (ws.map WdM.wd))∧Below w.heap.size w w':=by
 obtain ⟨gw,cap,hv⟩:=hi.form (by omega)
 have hws:=hi.wsm
 rw [hv] at hws
 have hsh:=hi.short
 have c0:w.cell? ⟨ib,0,none⟩=some wv:=cq 0 hi.cells
 rw [hv] at c0
 by_cases h3:ws.length<3
 ·have HG2:Hid (readG 4 sts (ws.map WdM.wd)=.ok (sts,-1)):=hide (by unfold readG;simp only;rw [List.length_map,if_pos h3])
  obtain ⟨n,hn⟩:∃ n,n=ws.length:=⟨_,rfl⟩
  rw [←hn] at c0
  have g1:(n:Int)<3:=by omega
  clear hi hws hv hn h2 h3
  go_enter Tryz.func220,Tryz.ntmps220
  go_wp2_with fail
  refine bodyPost_ret (results_none rfl _ _ _) rfl ?_
  refine ⟨?_,Below.refl _ _⟩
  unfold PlainOut
  rw [uh HG2]
 obtain ⟨x1,ao1,n1,cap1,X1⟩:=wdF hws hi.small 2 (by omega)
 have q0:=X1.c0
 have q1:=X1.c1
 have hP:=X1.plain
 have hx1:=X1.text
 have HG:Hid (readG 4 sts (ws.map WdM.wd)=match plainW x1.xs with
  | some t=>if modeN t=true then .ok (sts,-1) else .error (5,x1.place)
  | none=>.error (5,x1.place)):=hide (by
    unfold readG
    simp only
    rw [List.length_map,if_neg h3,X1.pln,X1.plc]
    rfl)
 have hF:=fun w'=>fail_wrg 5 x1.place w'
 obtain ⟨n,hn⟩:∃ n,n=ws.length:=⟨_,rfl⟩
 rw [←hn] at c0
 have g1:¬ (n:Int)<3:=by omega
 have i1:(2:Int)<(n:Int):=by omega
 have HD:Hid (∀ w',Below w.heap.size w w'→w'.cell? ⟨ib,0,none⟩=some (.slice (some ⟨gw,0,none⟩) n cap)∧w'.cell? ⟨gw,2*2,none⟩=some (.int .i64 (x1.place:Int))):=hide (fun w' hb'=>⟨cell_later hb' c0,cell_later hb' q0⟩)
 clear hi hws X1 hv hn h2 h3
 cases hx:plainW x1.xs with
 | none=>
   have HG2:Hid (readG 4 sts (ws.map WdM.wd)=.error (5,x1.place)):=hide (by rw [uh HG,hx])
   rw [hx] at hP
   simp only [Option.isSome_none,Option.getD_none] at hP
   clear HG hx
   go_enter Tryz.func220,Tryz.ntmps220
   go_wp2_with (first
    | (go_at_call 187;refine hP.mono ?_;clear hP;rintro ev w2 ⟨u,rfl,HU,hb2⟩;obtain ⟨k0,k1⟩:=uh HD w2 hb2)
    | (go_at_call 69;refine (hF _).mono ?_;clear hF;rintro ev w8 ⟨bb,rfl,hc,hb8⟩))
   refine ⟨rfl,?_,hb2.trans (hb8.mono hb2.size)⟩
   unfold PlainOut
   rw [uh HG2]
   exact ⟨bb,rfl,hc⟩
 | some t=>
   rw [hx] at hP
   simp only [Option.isSome_some,Option.getD_some] at hP
   have hV:∀ (u:ByteArray),u.data.toList=t→∀ w',Calls Tryz.prog 264 #[.string u] w' fun e w''=>e=.returned (.bool (modeN t))∧w''=w':=fun u hu w'=>by
    have:=mode_any u w'
    rw [hu] at this;exact this
   have HV:=hide hV
   clear hV
   cases hb:modeN t with
   | false=>
     have HG2:Hid (readG 4 sts (ws.map WdM.wd)=.error (5,x1.place)):=hide (by rw [uh HG,hx];simp [hb])
     rw [hb] at HV
     clear HG hx hb hx1
     go_enter Tryz.func220,Tryz.ntmps220
     go_wp2_with (first
      | (go_at_call 187;refine hP.mono ?_;clear hP;rintro ev w2 ⟨u,rfl,HU,hb2⟩;obtain ⟨k0,k1⟩:=uh HD w2 hb2)
      | (go_at_call 264;refine (uh HV u (uh HU) _).mono ?_;rintro ev w3 ⟨rfl,hw⟩;obtain rfl:=hw.symm)
      | (go_at_call 69;refine (hF _).mono ?_;clear hF;rintro ev w8 ⟨bb,rfl,hc,hb8⟩))
     refine ⟨rfl,?_,hb2.trans (hb8.mono hb2.size)⟩
     unfold PlainOut
     rw [uh HG2]
     exact ⟨bb,rfl,hc⟩
   | true=>
     have HG2:Hid (readG 4 sts (ws.map WdM.wd)=.ok (sts,-1)):=hide (by rw [uh HG,hx];simp [hb])
     rw [hb] at HV
     clear HG hx hb hx1
     go_enter Tryz.func220,Tryz.ntmps220
     go_wp2_with (first
      | (go_at_call 187;refine hP.mono ?_;clear hP;rintro ev w2 ⟨u,rfl,HU,hb2⟩)
      | (go_at_call 264;refine (uh HV u (uh HU) _).mono ?_;rintro ev w3 ⟨rfl,hw⟩;obtain rfl:=hw.symm))
     go_end0
     refine ⟨?_,hb2⟩
     unfold PlainOut
     rw [uh HG2]
theorem row_tag {w:World}{B e z n q:Nat}{v:Value}{xs:List Value}{c:Array Value}{t:TypeId}(h:w.ownsRow B e z v n xs) (hq:w.heap[q]?=some (.cells c t (0,0))) (hne:e≠t):v.ownBlock≠some q:=by
 intro e'
 rcases h.2 with ⟨rfl,_⟩ | ⟨a,cap,cur,rfl,_,ha,_⟩
 ·cases e'
 obtain rfl:a=q:=by simpa [Value.ownBlock] using e'
 rw [ha] at hq
 injection hq with hq
 injection hq with _ hq
 exact hne hq
theorem row_off {w w':World}{B e z n q:Nat}{v:Value}{xs:List Value}(h:w.ownsRow B e z v n xs) (ht:Tb w.heap.size q w w') (hne:v.ownBlock≠some q):w'.ownsRow B e z v n xs:=
 row_same h fun k hk=>ht.block k (World.ownsRow.lt h k hk).2 (fun e=>hne (by rw [←e];exact hk))
theorem WsM.off {w w':World}{B q:Nat}{v:Value}{ms:List WdM}{c:Array Value}{t:TypeId}(h:WsM w B v ms) (hq:w.heap[q]?=some (.cells c t (0,0))) (h1:t≠162) (h2:t≠217) (ht:Tb w.heap.size q w w'):WsM w' B v ms:=
 ⟨row_off h.row ht (row_tag h.row hq h1.symm),fun m hm=>row_off (h.all m hm) ht (row_tag (h.all m hm) hq h2.symm)⟩
theorem InM.Ok.off {m:InM}{w w':World}{B q:Nat}{c:Array Value}{t:TypeId}(h:m.Ok w B) (hq:w.heap[q]?=some (.cells c t (0,0))) (h1:t≠162) (h2:t≠217) (ht:Tb w.heap.size q w w'):m.Ok w' B:=
 ⟨h.ws.off hq h1 h2 ht,h.op,h.least,h.small,h.short⟩
theorem FileM.off {w w':World}{B fb ib:Nat}{sv:Value}{ss:List StM}{c:Array Value}(h:FileM w B fb sv ss) (hq:w.heap[ib]?=some (.cells c 76 (0,0))) (hap:∀ s∈ss,s.iv.ownBlock≠some ib) (ht:Tb w.heap.size ib w w'):FileM w' B fb sv ss:=by
 have hne:fb≠ib:=by
  rintro rfl
  have:=h.cells
  rw [hq] at this
  injection this with this
  injection this with _ this
  cases this
 refine ⟨(ht.block fb h.lt hne).trans h.cells,h.base,row_off h.row ht (row_tag h.row hq (by decide)),fun s hs=>⟨row_off (h.all s hs).row ht (hap s hs),fun m hm=>((h.all s hs).all m hm).off hq (by decide) (by decide) ht,(h.all s hs).short⟩,h.short⟩
theorem InB.to {w:World}{B ib:Nat}{wv:Value}{ws:List WdM}{st a b:Int}{f g:Value}(h:InB w B ib wv ws st a b f g) (k:Int):InB (w.setCell ⟨ib,1,none⟩ (.int .i64 k)) B ib wv ws k a b f g:=
 ⟨heap_setCell_same _ _ 1 _ _ _ h.cells,h.wsm.off h.cells (by decide) (by decide) (Tb.to _ _ _ _ _),h.base,h.short,h.small⟩
theorem below_drewN2 {w w1:World}{n:Nat}(h:Below (w.drewN n).heap.size (w.drewN n) w1):Below w.heap.size w w1:=⟨h.os,h.tape,h.output,h.size,h.block⟩
def CopyOut (w:World) (ev:Ending) (B ib:Nat) (wv:Value) (ws:List WdM) (a b:Int) (f g:Value) (r:Res (List Stg × Int)):Prop:=match r with
 | .error (e,p)=>Wrg w ev e p
 | .ok (_,k)=>ev=.returned (.tuple #[])∧InB w B ib wv ws k a b f g
theorem findG_lt (st:List Stg) (nm:List UInt8):-1≤findG st nm∧findG st nm<st.length:=by
 unfold findG
 cases h:st.findIdx? (fun s=>s.name==nm) with
 | none=>simp;omega
 | some i=>
   have:=(List.findIdx?_eq_some_iff_getElem.1 h).1
   simp only;omega
set_option maxHeartbeats 4000000 in
set_option maxRecDepth 10000 in
theorem copy_read (B fb ib:Nat) (sv wv:Value) (ss:List StM) (ws:List WdM) (a b:Int) (f g:Value) (w:World) (h:FileM w B fb sv ss) (hi:InB w B ib wv ws (-1) a b f g) (h3:3≤ws.length) (h4:ws.length≤4) (hss:0<ss.length) (hfg:∃ f' g':Nat,f=fnV f'∧g=fnV g') :
  Calls Tryz.prog 215 #[.pointer (some ⟨fb,0,none⟩),.pointer (some ⟨ib,0,none⟩)] w fun ev w'=>CopyOut w' ev B ib wv ws a b f g (copyG (ss.map StM.stg) (ws.map WdM.wd))∧Tb w.heap.size ib w w':=by
 obtain ⟨f',g',hf,hg⟩:=hfg
 obtain ⟨gw,cap,hv⟩:=hi.form (by omega)
 have hws:=hi.wsm
 rw [hv] at hws
 obtain ⟨x1,ao1,n1,cap1,X1⟩:=wdF hws hi.small 1 (by omega)
 obtain ⟨x0,ao0,n0,cap0,X0⟩:=wdF hws hi.small 0 (by omega)
 have hci:=hi.cells
 rw [hv,hf,hg] at hci
 obtain ⟨n,hn⟩:∃ n,n=ws.length:=⟨_,rfl⟩
 rw [←hn] at hci
 have c0:w.cell? ⟨ib,0,none⟩=some (.slice (some ⟨gw,0,none⟩) n cap):=cq 0 hci
 have q0:=X1.c0
 have q1:=X1.c1
 have nn:=World.new_ne w ⟨gw,1*2,none⟩ q0
 have n2:=World.new_ne w ⟨ib,0,none⟩ c0
 obtain ⟨W1,hW1⟩:∃ W1,W1=w.alloc (.cells #[.int .i64 (x1.place:Int),.slice ao1 n1 cap1] 162):=⟨_,rfl⟩
 have hb1:Below w.heap.size w W1:=by rw [hW1];exact (Below.refl _ _).alloc (Nat.le_refl _) _
 have hc1:W1.heap[w.heap.size]?=some (.cells #[.int .i64 (x1.place:Int),.slice ao1 n1 cap1] 162 (0,0)):=by rw [hW1];exact heap_alloc_new _ _
 have hz1:w.heap.size<W1.heap.size:=by rw [hW1];simp
 have p0:W1.cell? ⟨w.heap.size,0,none⟩=some (.int .i64 (x1.place:Int)):=cq 0 hc1
 have p1:W1.cell? ⟨w.heap.size,1,none⟩=some (.slice ao1 n1 cap1):=cq 1 hc1
 have hSO:=stageOf_any x1 B W1 (X1.later hb1).ok X1.small
 unfold WdM.val at hSO
 rw [X1.v] at hSO
 have HG:Hid (copyG (ss.map StM.stg) (ws.map WdM.wd)=match fromW x1.xs with
  | none=>if n=4 then .error (5,x0.place) else .ok (ss.map StM.stg,-1)
  | some m=>
    if n≠4 then .error (5,x0.place)
    else if stageNm m=false then .error (5,x1.place)
    else if findG (ss.map StM.stg) m=-1∨findG (ss.map StM.stg) m=(ss.length:Int)-1 then .error (6,x1.place)
    else .ok (ss.map StM.stg,findG (ss.map StM.stg) m)):=hide (by
  unfold copyG
  rw [List.getElem?_map,X1.get,X0.plc,X1.plc,List.length_map,List.length_map,←hn]
  rfl)
 have hF5:=fun w'=>fail_wrg 5 x0.place w'
 have hF1:=fun w'=>fail_wrg 5 x1.place w'
 have hF6:=fun w'=>fail_wrg 6 x1.place w'
 have HF:=hide h
 have HI:=hide hi
 have HCI:Hid (∀ w',Below w.heap.size w w'→w'.heap[ib]?=some (.cells #[.slice (some ⟨gw,0,none⟩) n cap,.int .i64 (-1),.int .i64 a,.int .i64 b,fnV f',fnV g'] 76 (0,0))):=hide (fun w' hb'=>(hb'.block ib hi.lt).trans hci)
 have HC1:Hid (∀ w',Below W1.heap.size W1 w'→w'.cell? ⟨w.heap.size,0,none⟩=some (.int .i64 (x1.place:Int))):=hide (fun w' hb'=>cell_later hb' p0)
 have HPL:Hid (∀ w',Below w.heap.size w w'→Calls Tryz.prog 76 #[.agg #[.slice (some ⟨gw,0,none⟩) n cap,.int .i64 (-1),.int .i64 a,.int .i64 b,fnV f',fnV g']] w' fun ev w''=>ev=.returned (.int .i64 (x0.place:Int))∧Below w'.heap.size w' w''):=hide (fun w' hb'=>by
  have:=place_gen wv ws x0 (-1) a b (fnV f') (fnV g') B w' (hi.wsm.below hb') X0.get
  rw [hv,←hn] at this;exact this)
 have HB1:=hide hb1
 have HWV:Hid (wv=.slice (some ⟨gw,0,none⟩) n cap):=hide (by rw [hv,hn])
 have hn4:n≤4:=by omega
 have i1:(1:Int)<(n:Int):=by omega
 have HTX:=hide X1.text
 clear h hi hws hci hc1 X0 X1 hv hn h3 h4 hb1
 cases hfr:fromW x1.xs with
 | none=>
   rw [hfr] at hSO
   simp only [Option.isSome_none] at hSO
   by_cases e4:n=4
   ·have HG2:Hid (copyG (ss.map StM.stg) (ws.map WdM.wd)=.error (5,x0.place)):=hide (by rw [uh HG,hfr];simp only;rw [if_pos e4])
    have g4:((n:Int)==4)=true:=by simp;omega
    clear HG hfr e4
    go_enter Tryz.func215,Tryz.ntmps215
    go_upto_region 1 with fail
    rw [←hW1]
    clear hW1
    go_upto_region 2 with (go_at_call 254;refine hSO.mono ?_;clear hSO;rintro ev w2 ⟨u,rfl,HU,hb2⟩)
    have hbw2:Below w.heap.size w w2:=(uh HB1).trans (hb2.mono (uh HB1).size)
    have hc2:=uh HCI w2 hbw2
    have d0:w2.cell? ⟨ib,0,none⟩=some (.slice (some ⟨gw,0,none⟩) n cap):=cq 0 hc2
    have d1:w2.cell? ⟨ib,1,none⟩=some (.int .i64 (-1)):=cq 1 hc2
    have d2:w2.cell? ⟨ib,2,none⟩=some (.int .i64 a):=cq 2 hc2
    have d3:w2.cell? ⟨ib,3,none⟩=some (.int .i64 b):=cq 3 hc2
    have d4:w2.cell? ⟨ib,4,none⟩=some (fnV f'):=cq 4 hc2
    have d5:w2.cell? ⟨ib,5,none⟩=some (fnV g'):=cq 5 hc2
    have HBW2:=hide hbw2
    clear hc2 hbw2 c0 q0 q1
    go_wp2_with (first
     | (go_at_call 76;refine (uh HPL _ (uh HBW2)).mono ?_;rintro ev w3 ⟨rfl,hb3⟩)
     | (go_at_call 69;refine (hF5 _).mono ?_;clear hF5;rintro ev w8 ⟨bb,rfl,hc,hb8⟩))
    refine ⟨rfl,?_,Tb.of_below (((uh HBW2).trans (hb3.mono (uh HBW2).size)).trans (hb8.mono (Nat.le_trans (uh HBW2).size hb3.size)))⟩
    unfold CopyOut
    rw [uh HG2]
    exact ⟨bb,rfl,hc⟩
   ·have HG2:Hid (copyG (ss.map StM.stg) (ws.map WdM.wd)=.ok (ss.map StM.stg,-1)):=hide (by rw [uh HG,hfr];simp only;rw [if_neg e4])
    have g4:((n:Int)==4)=false:=by simp;omega
    clear HG hfr e4
    go_enter Tryz.func215,Tryz.ntmps215
    go_upto_region 1 with fail
    rw [←hW1]
    clear hW1
    go_upto_region 2 with (go_at_call 254;refine hSO.mono ?_;clear hSO;rintro ev w2 ⟨u,rfl,HU,hb2⟩)
    have hbw2:Below w.heap.size w w2:=(uh HB1).trans (hb2.mono (uh HB1).size)
    have hc2:=uh HCI w2 hbw2
    have d0:w2.cell? ⟨ib,0,none⟩=some (.slice (some ⟨gw,0,none⟩) n cap):=cq 0 hc2
    have HBW2:=hide hbw2
    clear hc2 hbw2 c0 q0 q1
    go_wp2_with fail
    refine bodyPost_ret (results_none rfl _ _ _) rfl ?_
    refine ⟨?_,Tb.of_below (uh HBW2)⟩
    unfold CopyOut
    rw [uh HG2]
    exact ⟨rfl,(uh HI).below (uh HBW2)⟩
 | some m=>
   rw [hfr] at hSO
   simp only [Option.isSome_some] at hSO
   have hml:m.length≤1500:=by
    unfold fromW at hfr
    cases hp:plainW x1.xs with
    | none=>rw [hp] at hfr;cases hfr
    | some t=>
      rw [hp] at hfr
      simp only at hfr
      split at hfr
      ·injection hfr with hfr
       rw [←hfr,List.length_drop]
       have:=uh HTX t hp;omega
      ·cases hfr
   by_cases e4:n=4
   ·have g4:((n:Int)==4)=true:=by simp;omega
    have hSN:∀ (u:ByteArray),u.data.toList=m→∀ w',Calls Tryz.prog 255 #[.string u] w' fun e w''=>e=.returned (.bool (stageNm m))∧w''=w':=fun u hu w'=>by
     have:=stageNm_any u w' (by rw [Lib.size_eq,hu];omega)
     rw [hu] at this;exact this
    have HSN:=hide hSN
    clear hSN
    cases hs:stageNm m with
    | false=>
      have HG2:Hid (copyG (ss.map StM.stg) (ws.map WdM.wd)=.error (5,x1.place)):=hide (by rw [uh HG,hfr];simp only;rw [if_neg (by simpa using e4),if_pos hs])
      rw [hs] at HSN
      clear HG hfr e4 hs
      go_enter Tryz.func215,Tryz.ntmps215
      go_upto_region 1 with fail
      rw [←hW1]
      clear hW1
      go_upto_region 2 with (go_at_call 254;refine hSO.mono ?_;clear hSO;rintro ev w2 ⟨u,rfl,HU,hb2⟩)
      have hbw2:Below w.heap.size w w2:=(uh HB1).trans (hb2.mono (uh HB1).size)
      have hc2:=uh HCI w2 hbw2
      have d0:w2.cell? ⟨ib,0,none⟩=some (.slice (some ⟨gw,0,none⟩) n cap):=cq 0 hc2
      have d1:w2.cell? ⟨ib,1,none⟩=some (.int .i64 (-1)):=cq 1 hc2
      have d2:w2.cell? ⟨ib,2,none⟩=some (.int .i64 a):=cq 2 hc2
      have d3:w2.cell? ⟨ib,3,none⟩=some (.int .i64 b):=cq 3 hc2
      have d4:w2.cell? ⟨ib,4,none⟩=some (fnV f'):=cq 4 hc2
      have d5:w2.cell? ⟨ib,5,none⟩=some (fnV g'):=cq 5 hc2
      have HBW2:=hide hbw2
      have HU2:Hid (u.data.toList=m):=hide (uh HU m rfl)
      have w0:=uh HC1 w2 hb2
      clear hc2 hbw2 c0 q0 q1 HU
      go_wp2_with (first
       | (go_at_call 255;refine (uh HSN u (uh HU2) _).mono ?_;rintro ev w3 ⟨rfl,hw⟩;obtain rfl:=hw.symm)
       | (go_at_call 69;refine (hF1 _).mono ?_;clear hF1;rintro ev w8 ⟨bb,rfl,hc,hb8⟩))
      refine ⟨rfl,?_,Tb.of_below ((uh HBW2).trans (hb8.mono (uh HBW2).size))⟩
      unfold CopyOut
      rw [uh HG2]
      exact ⟨bb,rfl,hc⟩
    | true=>
      have HG1:Hid (copyG (ss.map StM.stg) (ws.map WdM.wd)=if findG (ss.map StM.stg) m=-1∨findG (ss.map StM.stg) m=(ss.length:Int)-1 then .error (6,x1.place) else .ok (ss.map StM.stg,findG (ss.map StM.stg) m)):=hide (by
       rw [uh HG,hfr];simp only;rw [if_neg (by simpa using e4),if_neg (by simp [hs])])
      rw [hs] at HSN
      clear HG hfr e4 hs
      go_enter Tryz.func215,Tryz.ntmps215
      go_upto_region 1 with fail
      rw [←hW1]
      clear hW1
      go_upto_region 2 with (go_at_call 254;refine hSO.mono ?_;clear hSO;rintro ev w2 ⟨u,rfl,HU,hb2⟩)
      have hbw2:Below w.heap.size w w2:=(uh HB1).trans (hb2.mono (uh HB1).size)
      have hc2:=uh HCI w2 hbw2
      have d0:w2.cell? ⟨ib,0,none⟩=some (.slice (some ⟨gw,0,none⟩) n cap):=cq 0 hc2
      have d1:w2.cell? ⟨ib,1,none⟩=some (.int .i64 (-1)):=cq 1 hc2
      have d2:w2.cell? ⟨ib,2,none⟩=some (.int .i64 a):=cq 2 hc2
      have d3:w2.cell? ⟨ib,3,none⟩=some (.int .i64 b):=cq 3 hc2
      have d4:w2.cell? ⟨ib,4,none⟩=some (fnV f'):=cq 4 hc2
      have d5:w2.cell? ⟨ib,5,none⟩=some (fnV g'):=cq 5 hc2
      have HBW2:=hide hbw2
      have HU2:Hid (u.data.toList=m):=hide (uh HU m rfl)
      have w0:=uh HC1 w2 hb2
      clear hc2 hbw2 c0 q0 q1 HU
      have hFd:=find_any B fb sv ss u w2 ((uh HF).below (uh HBW2))
      rw [uh HU2] at hFd
      obtain ⟨K,hK⟩:∃ K,K=findG (ss.map StM.stg) m:=⟨_,rfl⟩
      have hKl:=findG_lt (ss.map StM.stg) m
      rw [List.length_map,←hK] at hKl
      rw [←hK] at HG1 hFd
      clear hK
      have z1:w2.frozen? ⟨ib,1,none⟩=false:=by
       have:=uh HCI w2 (uh HBW2)
       simp [World.frozen?,this]
      have HHC:Hid (∀ w',Below w.heap.size w w'→w'.cell? ⟨ib,1,none⟩=some (.int .i64 (-1))∧w'.frozen? ⟨ib,1,none⟩=false):=hide (fun w' hb'=>⟨cq 1 (uh HCI w' hb'),by simp [World.frozen?,uh HCI w' hb']⟩)
      go_upto_region 8 with (first
       | (go_at_call 255;refine (uh HSN u (uh HU2) _).mono ?_;rintro ev w3 ⟨rfl,hw⟩;obtain rfl:=hw.symm)
       | (go_at_call 250;refine hFd.mono ?_;clear hFd;rintro ev w4 ⟨rfl,hb4⟩;obtain ⟨k1,k2⟩:=uh HHC w4 ((uh HBW2).trans (hb4.mono (uh HBW2).size))))
      have hbw4:Below w.heap.size w w4:=(uh HBW2).trans (hb4.mono (uh HBW2).size)
      obtain ⟨W5,hW5⟩:∃ W5,W5=w4.setCell ⟨ib,1,none⟩ (.int .i64 K):=⟨_,rfl⟩
      rw [←hW5]
      have hI5:InB W5 B ib wv ws K a b f g:=by rw [hW5];exact ((uh HI).below hbw4).to K
      have hT5:Tb w4.heap.size ib w4 W5:=by rw [hW5];exact Tb.to _ _ _ _ _
      have hT:Tb w.heap.size ib w W5:=(Tb.of_below hbw4).trans (hT5.mono hbw4.size)
      have hF4:=(uh HF).below hbw4
      have hfne:fb≠ib:=by
       rintro rfl
       have h1:=(uh HF).cells
       have h2:=(uh HI).cells
       rw [h1] at h2
       injection h2 with h2
       injection h2 with _ h2
       cases h2
      obtain ⟨ao2,cap2,hsv⟩:∃ ao cap,sv=.slice ao ss.length cap:=by
       rcases (uh HF).row.2 with ⟨e,h0⟩ | ⟨g,cap,cur,e,_⟩
       ·exact ⟨none,0,by rw [e,h0]⟩
       ·exact ⟨_,_,e⟩
      have s0:W5.cell? ⟨fb,0,none⟩=some (.slice ao2 ss.length cap2):=by
       rw [World.cell?_of_block (hT5.block fb hF4.lt hfne),←hsv];exact hF4.c0
      have s1:W5.cell? ⟨ib,1,none⟩=some (.int .i64 K):=cq 1 hI5.cells
      have HI5:=hide hI5
      have HT:=hide hT
      have hZ5:w.heap.size<W5.heap.size:=Nat.lt_of_lt_of_le hz1 (Nat.le_trans hb2.size (Nat.le_trans hb4.size hT5.size))
      have t0:W5.cell? ⟨w.heap.size,0,none⟩=some (.int .i64 (x1.place:Int)):=by
       have h4:w4.cell? ⟨w.heap.size,0,none⟩=some (.int .i64 (x1.place:Int)):=cell_later hb4 w0
       rw [World.cell?_of_block (hT5.block w.heap.size (World.block_lt_of_cell? _ _ h4) (by have:=(uh HI).lt;omega))];exact h4
      obtain ⟨N,hN⟩:∃ N,N=ss.length:=⟨_,rfl⟩
      rw [←hN] at s0 HG1 hKl
      have hN5:N≤5:=by rw [hN];exact (uh HF).short
      have hN0:0<N:=by rw [hN];exact hss
      have e5:IntKind.i64.wrap ((N:Int)-1)=(N:Int)-1:=by simp [IntKind.wrap,IntKind.bits,IntKind.signed];omega
      clear hW5 hI5 hT5 hT hF4 hfne hsv hN hbw4 k1 k2 hss
      by_cases kk:K=-1
      ·have gk:(K==-1)=true:=by simpa using kk
       have HG2:Hid (copyG (ss.map StM.stg) (ws.map WdM.wd)=.error (6,x1.place)):=hide (by rw [uh HG1,if_pos (.inl kk)])
       clear HG1 kk
       go_quiet (fail)
       go_wp2_with (go_at_call 69;refine (hF6 _).mono ?_;clear hF6;rintro ev w8 ⟨bb,rfl,hc,hb8⟩)
       refine ⟨rfl,?_,(uh HT).trans (Tb.of_below (Below.mono (B':=w.heap.size) (below_drewN2 hb8) (by show _≤W5.heap.size;omega)))⟩
       unfold CopyOut
       rw [uh HG2]
       exact ⟨bb,rfl,hc⟩
      have gk:(K==-1)=false:=by simpa using kk
      by_cases kl:K=(N:Int)-1
      ·have gl:(K==(N:Int)-1)=true:=by simpa using kl
       have HG2:Hid (copyG (ss.map StM.stg) (ws.map WdM.wd)=.error (6,x1.place)):=hide (by rw [uh HG1,if_pos (.inr kl)])
       clear HG1 kk kl
       go_quiet (fail)
       go_wp2_with (go_at_call 69;refine (hF6 _).mono ?_;clear hF6;rintro ev w8 ⟨bb,rfl,hc,hb8⟩)
       refine ⟨rfl,?_,(uh HT).trans (Tb.of_below (Below.mono (B':=w.heap.size) (below_drewN2 hb8) (by show _≤W5.heap.size;omega)))⟩
       unfold CopyOut
       rw [uh HG2]
       exact ⟨bb,rfl,hc⟩
      have gl:(K==(N:Int)-1)=false:=by simpa using kl
      have HG2:Hid (copyG (ss.map StM.stg) (ws.map WdM.wd)=.ok (ss.map StM.stg,K)):=hide (by rw [uh HG1,if_neg (by rintro (h | h);exact kk h;exact kl h)])
      clear HG1 kk kl
      go_quiet (fail)
      go_wp2_with fail
      go_end0
      refine ⟨?_,(uh HT).trans (Tb.of_below (below_drewN (Below.refl _ _) _))⟩
      unfold CopyOut
      rw [uh HG2]
      exact ⟨rfl,(uh HI5).below (below_drewN (Below.refl _ _) _)⟩
   ·have HG2:Hid (copyG (ss.map StM.stg) (ws.map WdM.wd)=.error (5,x0.place)):=hide (by rw [uh HG,hfr];simp only;rw [if_pos e4])
    have g4:((n:Int)==4)=false:=by simp;omega
    clear HG hfr e4
    go_enter Tryz.func215,Tryz.ntmps215
    go_upto_region 1 with fail
    rw [←hW1]
    clear hW1
    go_upto_region 2 with (go_at_call 254;refine hSO.mono ?_;clear hSO;rintro ev w2 ⟨u,rfl,HU,hb2⟩)
    have hbw2:Below w.heap.size w w2:=(uh HB1).trans (hb2.mono (uh HB1).size)
    have hc2:=uh HCI w2 hbw2
    have d0:w2.cell? ⟨ib,0,none⟩=some (.slice (some ⟨gw,0,none⟩) n cap):=cq 0 hc2
    have d1:w2.cell? ⟨ib,1,none⟩=some (.int .i64 (-1)):=cq 1 hc2
    have d2:w2.cell? ⟨ib,2,none⟩=some (.int .i64 a):=cq 2 hc2
    have d3:w2.cell? ⟨ib,3,none⟩=some (.int .i64 b):=cq 3 hc2
    have d4:w2.cell? ⟨ib,4,none⟩=some (fnV f'):=cq 4 hc2
    have d5:w2.cell? ⟨ib,5,none⟩=some (fnV g'):=cq 5 hc2
    have HBW2:=hide hbw2
    have HU2:Hid (u.data.toList=m):=hide (uh HU m rfl)
    have w0:=uh HC1 w2 hb2
    clear hc2 hbw2 c0 q0 q1 HU
    go_wp2_with (first
     | (go_at_call 76;refine (uh HPL _ (uh HBW2)).mono ?_;rintro ev w3 ⟨rfl,hb3⟩)
     | (go_at_call 69;refine (hF5 _).mono ?_;clear hF5;rintro ev w8 ⟨bb,rfl,hc,hb8⟩))
    refine ⟨rfl,?_,Tb.of_below (((uh HBW2).trans (hb3.mono (uh HBW2).size)).trans (hb8.mono (Nat.le_trans (uh HBW2).size hb3.size)))⟩
    unfold CopyOut
    rw [uh HG2]
    exact ⟨bb,rfl,hc⟩
structure Fr (B:Nat) (w w':World):Prop where
 below:Below B w w'
 keep:∀ (k:Nat) (c:Array Value) (fr:Nat × Nat),w.heap[k]?=some (Obj.cells c 210 fr)→w'.heap[k]?=some (.cells c 210 fr)
theorem Fr.size {B:Nat}{w w':World}(h:Fr B w w'):w.heap.size≤w'.heap.size:=h.below.size
theorem Fr.trans {B:Nat}{a b c:World}(h:Fr B a b) (k:Fr B b c):Fr B a c:=⟨h.below.trans k.below,fun i x fr hx=>k.keep i x fr (h.keep i x fr hx)⟩
theorem Fr.of_below {B:Nat}{w w':World}(h:Below w.heap.size w w') (hB:B≤w.heap.size):Fr B w w':=
 ⟨h.mono hB,fun k _ _ hk=>(h.block k (Array.getElem?_eq_some_iff.1 hk).1).trans hk⟩
theorem Fr.next {B:Nat}{w w1 w2:World}(h:Fr B w w1) (hb:Below w1.heap.size w1 w2) (hB:B≤w1.heap.size):Fr B w w2:=h.trans (Fr.of_below hb hB)
theorem Fr.of_tb {B q:Nat}{w w':World}{c:Array Value}{t:TypeId}{fr:Nat × Nat}(h:Tb w.heap.size q w w') (hq:w.heap[q]?=some (.cells c t fr)) (ht:t≠210) (hB:B≤q):Fr B w w':=by
 have hlt:=(Array.getElem?_eq_some_iff.1 hq).1
 refine ⟨⟨h.os,h.tape,h.output,h.size,fun k hk=>h.block k (by omega) (by omega)⟩,fun k c' fr' hk=>(h.block k (Array.getElem?_eq_some_iff.1 hk).1 (fun e=>?_)).trans hk⟩
 rw [e,hq] at hk
 injection hk with hk
 injection hk with _ hk
 exact ht hk
theorem Fr.set {B q:Nat}{w w1:World}{c:Array Value}{t:TypeId}{fr:Nat × Nat}(h:Fr B w w1) (hq:w1.heap[q]?=some (.cells c t fr)) (ht:t≠210) (hB:B≤q) (i:Nat) (v:Value):Fr B w (w1.setCell ⟨q,i,none⟩ v):=
 h.trans (Fr.of_tb (Tb.to _ _ _ _ _) hq ht hB)
theorem Fr.grown {B e z n:Nat}{w w1 w2:World}{v:Value}{xs:List Value}(h:Fr B w w1) (hr:w1.ownsRow B e z v n xs) (hg:w1.grownBy w2 v.ownBlock) (he:e≠210) (hB:B≤w1.heap.size):Fr B w w2:=by
 refine h.trans ⟨⟨hg.os,hg.tape,hg.output,hg.size,fun k hk=>hg.block k (by omega) (fun e'=>by have:=(World.ownsRow.lt hr k e'.symm).1;omega)⟩,fun k c fr hk=>(hg.block k (Array.getElem?_eq_some_iff.1 hk).1 (fun e'=>?_)).trans hk⟩
 rcases hr.2 with ⟨rfl,_⟩ | ⟨a,cap,cur,rfl,_,ha,_⟩
 ·cases e'
 obtain rfl:k=a:=by simpa [Value.ownBlock] using e'
 rw [ha] at hk
 injection hk with hk
 injection hk with _ hk
 exact he hk
end Go.Proofs.YtehfpjcclknipaaGreatDoor
