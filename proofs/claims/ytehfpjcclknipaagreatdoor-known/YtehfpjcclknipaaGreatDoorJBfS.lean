import Derived.Test.YtehfpjcclknipaaGreatDoorJBfQ
namespace Go.Proofs.YtehfpjcclknipaaGreatDoor
open Go.RowKit Go.Maps
def ApartS (ss:List StM):Prop:=ss.Pairwise fun s t=>∀ g,s.iv.ownBlock=some g→t.iv.ownBlock≠some g
def TakeOut (w:World) (ev:Ending) (B fb:Nat) (r:Res (List Stg)):Prop:=match r with
 | .error (e,p)=>Wrg w ev e p
 | .ok st=>ev=.returned (.tuple #[])∧∃ (sv:Value) (ss:List StM),FileM w B fb sv ss∧ss.map StM.stg=st∧Begun ss∧ApartS ss
theorem set4i {w:World}{b:Nat}{t:TypeId}{a0 a1 a2 a3 a4 a5:Value}(b0 b1 b2 b3:Value) (h:w.heap[b]?=some (.cells #[a0,a1,a2,a3,a4,a5] t (0,0))) :
  ((((w.setCell ⟨b,2,none⟩ b0).setCell ⟨b,3,none⟩ b1).setCell ⟨b,4,none⟩ b2).setCell ⟨b,5,none⟩ b3).heap[b]?=some (.cells #[a0,a1,b0,b1,b2,b3] t (0,0)):=
 heap_setCell_same _ _ 5 _ _ _ (heap_setCell_same _ _ 4 _ _ _ (heap_setCell_same _ _ 3 _ _ _ (heap_setCell_same _ _ 2 _ _ _ h)))
theorem tb_set4i (B q:Nat) (w:World) (b0 b1 b2 b3:Value):Tb B q w ((((w.setCell ⟨q,2,none⟩ b0).setCell ⟨q,3,none⟩ b1).setCell ⟨q,4,none⟩ b2).setCell ⟨q,5,none⟩ b3):=
 (((Tb.to B q w 2 b0).trans (Tb.to B q _ 3 b1)).trans (Tb.to B q _ 4 b2)).trans (Tb.to B q _ 5 b3)
theorem fit_parts {op n:Nat}{b:Bool}(h:fitN op n b=true):(ruleT op).1≤(n:Int)-1∧(n:Int)-1≤(ruleT op).2.1∧(b=true→op=0):=by
 have:=of_decide_eq_true h
 exact ⟨by omega,by omega,fun hb=>by
  by_cases h0:op=0
  ·exact h0
  ·exact absurd ⟨hb,h0⟩ this.2.2⟩
theorem names_ok {ws:List Wd}{b n:List UInt8}(h:namesG ws=.ok (b,n)):nmW ws 1=some b∧(2<ws.length→pln ws 2=some wAS)∧(ws.length=4→nmW ws 3=some n):=by
 unfold namesG at h
 split at h
 ·cases h
 ·rename_i h2
  have h2':2<ws.length→pln ws 2=some wAS:=fun hl=>by
   by_cases he:pln ws 2=some wAS
   ·exact he
   ·exact absurd ⟨hl,he⟩ h2
  split at h
  ·cases h
  ·split at h
   ·split at h
    ·cases h
    ·rename_i n' hn'
     split at h
     ·cases h
     ·rename_i b' hb'
      injection h with h;injection h with h3 h4
      subst h3 h4
      exact ⟨hb',h2',fun _=>hn'⟩
   ·rename_i h4
    split at h
    ·cases h
    ·rename_i b' hb'
     injection h with h;injection h with h3 _
     subst h3
     exact ⟨hb',h2',fun e=>absurd e h4⟩
theorem plain_parts {xs:List Atm}{l:List UInt8}(h:plainW xs=some l):∀ p∈parts xs,p.isVar=false:=by
 rcases (parts_plain xs).1 l h with ⟨_,e⟩ | ⟨_,e⟩
 ·rw [e];simp
 ·rw [e];intro p hp;rw [List.mem_singleton] at hp;rw [hp]
theorem name_plain {xs:List Atm}{l:List UInt8}(h:nameW xs=some l):plainW xs=some l:=by
 unfold nameW at h
 split at h
 ·split at h
  ·rename_i t ht _;injection h with h;rw [←h];exact ht
  ·cases h
 ·cases h
theorem from_plain {ws:List WdM}{b n:List UInt8}(h:namesG (ws.map WdM.wd)=.ok (b,n)) {x:WdM}(h0:ws[0]?=some x) (hop:opW x.xs=some 0) (h4:ws.length≤4):∀ y∈ws,∀ p∈parts y.xs,p.isVar=false:=by
 intro y hy
 obtain ⟨i,hi,rfl⟩:=List.mem_iff_getElem.1 hy
 have hgi:ws[i]?=some ws[i]:=List.getElem?_eq_getElem hi
 obtain ⟨h1,h2,h3⟩:=names_ok h
 rw [List.length_map] at h2 h3
 match i,hi,hgi with
 | 0,_,hgi=>
   rw [h0] at hgi;injection hgi with hgi
   obtain ⟨t,ht,_⟩:=opW_some hop
   rw [←hgi];exact plain_parts ht
 | 1,_,hgi=>
   unfold nmW at h1
   rw [List.getElem?_map,hgi] at h1
   exact plain_parts (name_plain h1)
 | 2,hi,hgi=>
   have:=h2 hi
   rw [pln_wd,hgi] at this
   exact plain_parts this
 | 3,hi,hgi=>
   have:=h3 (by omega)
   unfold nmW at this
   rw [List.getElem?_map,hgi] at this
   exact plain_parts (name_plain this)
 | i+4,hi,_=>omega
theorem stC_set (qs:List StM) (s:StM) (v:Value):(stC (qs++[s])).set (qs.length*2+1) v=stC (qs++[⟨s.name,v,s.ins⟩]):=by
 rw [stC_snoc,stC_snoc,←stC_len,List.set_append_right _ _ (by omega)]
 simp [StM.cells]
theorem stC_ins (qs:List StM) (nm:ByteArray) (v:Value) (i j:List InM):stC (qs++[⟨nm,v,i⟩])=stC (qs++[⟨nm,v,j⟩]):=by
 rw [stC_snoc,stC_snoc];rfl
theorem file_add {w W w6:World}{B fb g cap g6 cp6:Nat}{qs:List StM}{s:StM}{m:InM}(h:FileM w B fb (.slice (some ⟨g,0,none⟩) (qs.length+1) cap) (qs++[s])) (hm:m.Ok w B) (hap:ApartS (qs++[s])) (hW:Below w.heap.size w W)
  (hown:w6.ownsRow B 76 6 (.slice (some ⟨g6,0,none⟩) (s.ins.length+1) cp6) (s.ins.length+1) (inC s.ins++m.cells)) (hg:W.grownBy w6 s.iv.ownBlock) (hl:s.iv.ownBlock=some g6∨w.heap.size≤g6) (hlen:s.ins.length<1500) :
  FileM (w6.setCell ⟨g,qs.length*2+1,none⟩ (.slice (some ⟨g6,0,none⟩) (s.ins.length+1) cp6)) B fb (.slice (some ⟨g,0,none⟩) (qs.length+1) cap) (qs++[⟨s.name,.slice (some ⟨g6,0,none⟩) (s.ins.length+1) cp6,s.ins++[m]⟩]) ∧
  ApartS (qs++[⟨s.name,.slice (some ⟨g6,0,none⟩) (s.ins.length+1) cp6,s.ins++[m]⟩])∧Fr B w (w6.setCell ⟨g,qs.length*2+1,none⟩ (.slice (some ⟨g6,0,none⟩) (s.ins.length+1) cp6)):=by
 have hls:(qs++[s]).length=qs.length+1:=by simp
 have hrow:=h.row
 rw [hls] at hrow
 obtain ⟨cur,hgb⟩:∃ cur,w.heap[g]?=some (.cells cur 106 (0,0)):=by
  rcases hrow.2 with ⟨e,_⟩ | ⟨a,c,cur,e,_,ha,_⟩
  ·cases e
  ·injection e with e1 _ _
   injection e1 with e1
   injection e1 with e1
   subst e1
   exact ⟨cur,ha⟩
 have hgl:g<w.heap.size:=(Array.getElem?_eq_some_iff.1 hgb).1
 have hs:=h.all s (by simp)
 have keep6:∀ k,k<w.heap.size→s.iv.ownBlock≠some k→w6.heap[k]?=w.heap[k]?:=fun k hk hne=>(hg.block k (Nat.lt_of_lt_of_le hk hW.size) (fun e=>hne e.symm)).trans (hW.block k hk)
 have keep:∀ k,k<w.heap.size→s.iv.ownBlock≠some k→k≠g→(w6.setCell ⟨g,qs.length*2+1,none⟩ (.slice (some ⟨g6,0,none⟩) (s.ins.length+1) cp6)).heap[k]?=w.heap[k]?:=fun k hk hne hkg=>(Below.heap_setCell _ _ _ _ hkg).trans (keep6 k hk hne)
 have hgs:s.iv.ownBlock≠some g:=row_tag hs.row hgb (by decide)
 have hfb:fb≠g:=by
  rintro rfl
  have:=h.cells
  rw [hgb] at this
  injection this with this
  injection this with _ this
  cases this
 have rowK:∀ {B2 e z n:Nat}{v:Value}{xs:List Value},w.ownsRow B2 e z v n xs→e≠76→e≠106→(w6.setCell ⟨g,qs.length*2+1,none⟩ (.slice (some ⟨g6,0,none⟩) (s.ins.length+1) cp6)).ownsRow B2 e z v n xs:=by
  intro B2 e z n v xs hr h1 h2
  refine row_same hr fun k hk=>keep k (World.ownsRow.lt hr k hk).2 (fun e'=>row_apart hr hs.row h1 k hk e') (fun e'=>?_)
  rw [e'] at hk
  exact row_tag hr hgb h2 hk
 have wsK:∀ {v:Value}{ms:List WdM},WsM w B v ms→WsM (w6.setCell ⟨g,qs.length*2+1,none⟩ (.slice (some ⟨g6,0,none⟩) (s.ins.length+1) cp6)) B v ms:=fun hw=>⟨rowK hw.row (by decide) (by decide),fun m hm=>rowK (hw.all m hm) (by decide) (by decide)⟩
 have inK:∀ {m:InM},m.Ok w B→m.Ok (w6.setCell ⟨g,qs.length*2+1,none⟩ (.slice (some ⟨g6,0,none⟩) (s.ins.length+1) cp6)) B:=fun hk=>⟨wsK hk.ws,hk.op,hk.least,hk.small,hk.short⟩
 have hg6g:g6≠g:=by
  rcases hl with e | e
  ·rintro rfl;exact hgs e
  ·omega
 unfold ApartS at hap
 rw [List.pairwise_append] at hap
 obtain ⟨hap1,_,hap2⟩:=hap
 refine ⟨⟨?_,h.base,?_,fun q hq=>?_,?_⟩,?_,?_⟩
 ·exact (keep fb h.lt (row_tag hs.row h.cells (by decide)) hfb).trans h.cells
 ·rw [List.length_append,List.length_singleton]
  have hrow6:w6.ownsRow B 106 2 (.slice (some ⟨g,0,none⟩) (qs.length+1) cap) (qs.length+1) (stC (qs++[s])):=row_same hrow fun k hk=>keep6 k (World.ownsRow.lt hrow k hk).2 (fun e'=>row_apart hrow hs.row (by decide) k hk e')
  have:=(World.ownsRow.stored hrow6 (qs.length*2+1) (.slice (some ⟨g6,0,none⟩) (s.ins.length+1) cp6)).1
  rw [stC_set,stC_ins qs s.name _ s.ins (s.ins++[m])] at this
  exact this
 ·rcases List.mem_append.1 hq with h' | h'
  ·have hk:=h.all q (by simp [h'])
   refine ⟨row_same hk.row fun k hk'=>keep k (World.ownsRow.lt hk.row k hk').2 (hap2 q h' s (by simp) k hk') (fun e'=>?_),fun m' hm'=>inK (hk.all m' hm'),hk.short⟩
   rw [e'] at hk'
   exact row_tag hk.row hgb (by decide) hk'
  ·rw [List.mem_singleton] at h';subst h'
   refine ⟨?_,fun m' hm'=>?_,by simp;omega⟩
   ·rw [inC_snoc,List.length_append]
    refine row_same hown fun k hk=>Below.heap_setCell _ _ _ _ (fun e=>?_)
    obtain rfl:g6=k:=by simpa [Value.ownBlock] using hk
    exact hg6g e
   ·rcases List.mem_append.1 hm' with h'' | h''
    ·exact inK (hs.all m' h'')
    ·rw [List.mem_singleton] at h'';rw [h''];exact inK hm
 ·have:=h.short;simp at this ⊢;omega
 ·unfold ApartS
  rw [List.pairwise_append]
  refine ⟨hap1,by simp,fun q hq t ht g' hg'=>?_⟩
  rw [List.mem_singleton] at ht;subst ht
  intro e
  obtain rfl:g6=g':=by simpa [Value.ownBlock] using e
  rcases hl with e' | e'
  ·exact hap2 q hq s (by simp) g6 hg' e'
  ·have:=(World.ownsRow.lt (h.all q (by simp [hq])).row g6 hg').2;omega
 ·have hBw:B≤w.heap.size:=Nat.le_trans h.base (Nat.le_of_lt h.lt)
  have hb6:Fr B w w6:=(Fr.of_below hW hBw).grown (row_same hs.row fun k hk=>hW.block k (World.ownsRow.lt hs.row k hk).2) hg (by decide) (Nat.le_trans hBw hW.size)
  exact hb6.set ((keep6 g hgl hgs).trans hgb) (by decide) (World.ownsRow.lt hrow g rfl).1 _ _
theorem from_names {st st':List Stg}{ws:List Wd}{k:Int}(h:fromG st ws=.ok (st',k)):∃ b n,namesG ws=.ok (b,n):=by
 unfold fromG at h
 cases hn:namesG ws with
 | error e=>rw [hn] at h;cases h
 | ok x=>exact ⟨x.1,x.2,rfl⟩
theorem one_new (w:World) (o:Obj):(w.alloc o).drew.heap[w.heap.size]?=some o:=heap_alloc_new w o
theorem add_map (qs:List StM) (s:StM) (v:Value) (m:InM):(qs++[(⟨s.name,v,s.ins++[m]⟩:StM)]).map StM.stg=addIns ((qs++[s]).map StM.stg) m.ins:=by
 unfold addIns
 simp [StM.stg]
theorem enter_rule (op:Nat) (hop:op<8) (args:Array Value) (W:World):(callFunc (ruleT op).2.2.1 args).run Tryz.prog W=.ok (.enter (ruleT op).2.2.1 args) W:=by
 match op,hop with
 | 0,_=>exact (show (callFunc 213 args).run Tryz.prog W=.ok (.enter 213 args) W by kernel_rfl)
 | 1,_=>exact (show (callFunc 215 args).run Tryz.prog W=.ok (.enter 215 args) W by kernel_rfl)
 | 2,_=>exact (show (callFunc 217 args).run Tryz.prog W=.ok (.enter 217 args) W by kernel_rfl)
 | 3,_=>exact (show (callFunc 217 args).run Tryz.prog W=.ok (.enter 217 args) W by kernel_rfl)
 | 4,_=>exact (show (callFunc 220 args).run Tryz.prog W=.ok (.enter 220 args) W by kernel_rfl)
 | 5,_=>exact (show (callFunc 217 args).run Tryz.prog W=.ok (.enter 217 args) W by kernel_rfl)
 | 6,_=>exact (show (callFunc 223 args).run Tryz.prog W=.ok (.enter 223 args) W by kernel_rfl)
 | 7,_=>exact (show (callFunc 217 args).run Tryz.prog W=.ok (.enter 217 args) W by kernel_rfl)
set_option maxHeartbeats 4000000 in
set_option maxRecDepth 10000 in
theorem take_inst (B fb ib:Nat) (sv wv:Value) (ss:List StM) (ws:List WdM) (x:WdM) (w:World) (h:FileM w B fb sv ss) (hi:InB w B ib wv ws (-1) 0 0 .nilFunc .nilFunc) (hap:∀ s∈ss,s.iv.ownBlock≠some ib) (hbeg:Begun ss) (hapS:ApartS ss) (h0:ws[0]?=some x) :
  Calls Tryz.prog 68 #[.pointer (some ⟨fb,0,none⟩),.pointer (some ⟨ib,0,none⟩)] w fun ev w'=>TakeOut w' ev B fb (takeG (ss.map StM.stg) (ws.map WdM.wd))∧Fr B w w':=by
 have hBw:B≤w.heap.size:=Nat.le_trans h.base (Nat.le_of_lt h.lt)
 have hwd0:(ws.map WdM.wd)[0]?=some x.wd:=by rw [List.getElem?_map,h0];rfl
 have hplc:plc (ws.map WdM.wd) 0=x.place:=plc_wd h0
 cases ho:opW x.xs with
 | none=>
   have HG:Hid (takeG (ss.map StM.stg) (ws.map WdM.wd)=.error (5,x.place)):=hide (by unfold takeG;rw [hwd0];simp only [WdM.wd];rw [ho];simp only;rw [hplc])
   have hR:=ruleFor_none B fb ib sv wv ss ws x (-1) 0 0 w h hi h0 ho
   unfold Wrg at hR
   clear h hi hap hbeg hapS h0 hwd0 hplc ho
   go_enter Tryz.func68,Tryz.ntmps68
   go_wp2_with (go_at_call 110;refine hR.mono ?_;clear hR;rintro ev w8 ⟨⟨bb,rfl,hc⟩,hb8⟩)
   refine ⟨rfl,?_,Fr.of_below hb8 hBw⟩
   unfold TakeOut
   rw [uh HG]
   exact ⟨bb,rfl,hc⟩
 | some op=>
   obtain ⟨t,hxt,hot⟩:=opW_some ho
   have hop:=opN_lt hot
   have hR:=ruleFor_some B fb ib sv wv ss ws x (-1) 0 0 op w h hi h0 ho
   have hlenE:(ss.map StM.stg=[])↔ss.isEmpty=true:=by cases ss <;> simp
   have HG0:Hid (takeG (ss.map StM.stg) (ws.map WdM.wd)=if fitN op ws.length ss.isEmpty=false then .error (5,x.place) else match readG op (ss.map StM.stg) (ws.map WdM.wd) with
    | .error e=>.error e
    | .ok (st',k)=>match unsetL (isSetG st') (ws.map WdM.wd) with
      | some p=>.error (7,p)
      | none=>if 24≤sizeG st' then .error (10,x.place) else .ok (addIns st' ⟨ws.map WdM.wd,k⟩)):=hide (by
    unfold takeG
    rw [hwd0]
    simp only [WdM.wd]
    rw [ho]
    simp only
    rw [hplc,List.length_map]
    by_cases hf:fitN op ws.length ss.isEmpty=false
    ·rw [if_pos hf,if_pos (by
      have:=of_decide_eq_false hf
      by_cases c1:(ws.length:Int)-1<(ruleT op).1
      ·exact .inl c1
      by_cases c2:(ruleT op).2.1<(ws.length:Int)-1
      ·exact .inr (.inl c2)
      refine .inr (.inr ?_)
      by_cases c3:ss.isEmpty=true∧op≠0
      ·exact ⟨hlenE.2 c3.1,c3.2⟩
      ·exact absurd ⟨c1,c2,c3⟩ this)]
    ·rw [if_neg hf,if_neg (by
      have hf':fitN op ws.length ss.isEmpty=true:=by simpa using hf
      obtain ⟨a1,a2,a3⟩:=fit_parts hf'
      rintro (c | c | c)
      ·omega
      ·omega
      ·exact c.2 (a3 (hlenE.1 c.1)))]
     rfl)
   cases hfit:fitN op ws.length ss.isEmpty with
   | false=>
     have HG:Hid (takeG (ss.map StM.stg) (ws.map WdM.wd)=.error (5,x.place)):=hide (by rw [uh HG0,if_pos hfit])
     have hR2:Calls Tryz.prog 110 #[.pointer (some ⟨fb,0,none⟩),.pointer (some ⟨ib,0,none⟩)] w fun ev w'=>(∃ b:Nat,ev=.panicked [{ v:=.iface 203 (.pointer (some ⟨b,0,none⟩)),recovered:=false }]∧w'.heap[b]?=some (.cells #[.int .i64 ((5:Nat):Int),.int .i64 (x.place:Int)] 206 (0,0)))∧Below w.heap.size w w':=by
      refine hR.mono ?_
      rintro ev w' ⟨⟨_,hw⟩ | ⟨hc,_⟩,hb⟩
      ·exact ⟨hw,hb⟩
      ·rw [hfit] at hc;cases hc
     clear h hi hap hbeg hapS h0 hwd0 hplc ho hR HG0 hfit hxt hot hlenE
     go_enter Tryz.func68,Tryz.ntmps68
     go_wp2_with (go_at_call 110;refine hR2.mono ?_;clear hR2;rintro ev w8 ⟨⟨bb,rfl,hc⟩,hb8⟩)
     refine ⟨rfl,?_,Fr.of_below hb8 hBw⟩
     unfold TakeOut
     rw [uh HG]
     exact ⟨bb,rfl,hc⟩
   | true=>
     have hR2:Calls Tryz.prog 110 #[.pointer (some ⟨fb,0,none⟩),.pointer (some ⟨ib,0,none⟩)] w fun ev w'=>ev=.returned (ruleV op)∧Below w.heap.size w w':=by
      refine hR.mono ?_
      rintro ev w' ⟨⟨hc,_⟩ | ⟨_,hw⟩,hb⟩
      ·rw [hfit] at hc;cases hc
      ·exact ⟨hw,hb⟩
     have HG1:Hid (takeG (ss.map StM.stg) (ws.map WdM.wd)=match readG op (ss.map StM.stg) (ws.map WdM.wd) with
      | .error e=>.error e
      | .ok (st',k)=>match unsetL (isSetG st') (ws.map WdM.wd) with
        | some p=>.error (7,p)
        | none=>if 24≤sizeG st' then .error (10,x.place) else .ok (addIns st' ⟨ws.map WdM.wd,k⟩)):=hide (by rw [uh HG0,if_neg (by simp [hfit])])
     obtain ⟨hf1,hf2,hf3⟩:=fit_parts hfit
     unfold ruleV at hR2
     obtain ⟨ra,hra⟩:∃ ra,ra=(ruleT op).1:=⟨_,rfl⟩
     obtain ⟨rb,hrb⟩:∃ rb,rb=(ruleT op).2.1:=⟨_,rfl⟩
     obtain ⟨rf,hrf⟩:∃ rf,rf=(ruleT op).2.2.1:=⟨_,rfl⟩
     obtain ⟨rg,hrg⟩:∃ rg,rg=(ruleT op).2.2.2:=⟨_,rfl⟩
     rw [←hra,←hrb,←hrf,←hrg] at hR2
     have HRR:=hide (And.intro hra (And.intro hrb (And.intro hrf hrg)))
     have HF:=hide h
     have HI:=hide hi
     have HAP:=hide hap
     have HBEG:=hide hbeg
     have HAPS:=hide hapS
     have H0:=hide h0
     have HO:=hide ho
     have HFIT:=hide (And.intro hf1 (And.intro hf2 hf3))
     have HOP:=hide hop
     have HZ:Hid (∀ w',Below w.heap.size w w'→(w'.cell? ⟨ib,2,none⟩=some (.int .i64 0)∧w'.cell? ⟨ib,3,none⟩=some (.int .i64 0)∧w'.cell? ⟨ib,4,none⟩=some .nilFunc∧w'.cell? ⟨ib,5,none⟩=some .nilFunc)∧∀ i,w'.frozen? ⟨ib,i,none⟩=false):=hide (fun w' hb'=>by
      have hc:=(hi.below hb').cells
      exact ⟨⟨cq 2 hc,cq 3 hc,cq 4 hc,cq 5 hc⟩,fun i=>by simp [World.frozen?,hc]⟩)
     clear h hi hap hbeg hapS h0 hwd0 hplc ho hR HG0 hfit hxt hot hlenE hra hrb hrf hrg hf1 hf2 hf3 hop
     go_enter Tryz.func68,Tryz.ntmps68
     go_upto_region 1 with (go_at_call 110;refine hR2.mono ?_;clear hR2;rintro ev w1 ⟨rfl,hb1⟩;obtain ⟨⟨z2,z3,z4,z5⟩,hfz⟩:=uh HZ w1 hb1;have y2:=hfz 2;have y3:=hfz 3;have y4:=hfz 4;have y5:=hfz 5;clear hfz)
     obtain ⟨W1,hW1⟩:∃ W1,W1=(((w1.setCell ⟨ib,2,none⟩ (.int .i64 ra)).setCell ⟨ib,3,none⟩ (.int .i64 rb)).setCell ⟨ib,4,none⟩ (fnV rf)).setCell ⟨ib,5,none⟩ (fnV rg):=⟨_,rfl⟩
     rw [←hW1]
     have hI1:=(uh HI).below hb1
     have hF1:=(uh HF).below hb1
     have hT1:Tb w1.heap.size ib w1 W1:=by rw [hW1];exact tb_set4i _ _ _ _ _ _ _
     have hIW:InB W1 B ib wv ws (-1) ra rb (fnV rf) (fnV rg):=⟨by rw [hW1];exact set4i _ _ _ _ hI1.cells,hI1.wsm.off hI1.cells (by decide) (by decide) hT1,hI1.base,hI1.short,hI1.small⟩
     have hFW:FileM W1 B fb sv ss:=hF1.off hI1.cells (uh HAP) hT1
     have hBW:Fr B w W1:=(Fr.of_below hb1 hBw).trans (Fr.of_tb hT1 hI1.cells (by decide) hI1.base)
     obtain ⟨r1,r2,r3,r4⟩:=uh HRR
     have hRd:=rd_any op (uh HOP) B fb ib sv wv ss ws W1 hFW (by rw [←r1,←r2,←r3,←r4];exact hIW) (uh HAP) (uh HFIT).1 (uh HFIT).2.1 (fun hne=>by
      cases hs:ss with
      | nil=>exact absurd ((uh HFIT).2.2 (by rw [hs];rfl)) hne
      | cons _ _=>simp)
     rw [←r1,←r2,←r3,←r4] at hRd
     have u4:W1.cell? ⟨ib,4,none⟩=some (fnV rf):=cq 4 hIW.cells
     have hcf:∀ (args:Array Value) (W:World),(callFunc rf args).run Tryz.prog W=.ok (.enter rf args) W:=fun args W=>by rw [r3];exact enter_rule op (uh HOP) args W
     have HBW:=hide hBW
     clear hW1 hI1 hF1 hT1 hIW hFW hBW r1 r2 r3 r4 z2 z3 z4 z5 y2 y3 y4 y5 hb1
     unfold RdOut at hRd
     cases hrd:readG op (ss.map StM.stg) (ws.map WdM.wd) with
     | error e=>
       obtain ⟨e,p⟩:=e
       rw [hrd] at hRd
       have HG:Hid (takeG (ss.map StM.stg) (ws.map WdM.wd)=.error (e,p)):=hide (by rw [uh HG1,hrd])
       unfold Wrg at hRd
       clear HG1 hrd
       go_wp2_with (refine hRd.mono ?_;clear hRd;rintro ev w8 ⟨⟨bb,rfl,hc⟩,hb8⟩)
       refine ⟨rfl,?_,(uh HBW).trans hb8⟩
       unfold TakeOut
       rw [uh HG]
       exact ⟨bb,rfl,hc⟩
     | ok y=>
       obtain ⟨st',k⟩:=y
       rw [hrd] at hRd
       have HG2:Hid (takeG (ss.map StM.stg) (ws.map WdM.wd)=match unsetL (isSetG st') (ws.map WdM.wd) with
        | some p=>.error (7,p)
        | none=>if 24≤sizeG st' then .error (10,x.place) else .ok (addIns st' ⟨ws.map WdM.wd,k⟩)):=hide (by rw [uh HG1,hrd])
       have HRD:=hide hrd
       clear HG1 hrd
       go_upto_region 2 with (refine hRd.mono ?_;clear hRd;rintro ev w2 ⟨⟨rfl,sv2,ss2,hF2,hI2,hst,hk1,hk2,hcase⟩,hb2⟩;have HF2:=hide hF2;have HI2:=hide hI2;have HST:=hide hst;have HCS:=hide hcase;clear hF2 hI2 hst hcase)
       have hset:Begun ss2∨∀ y∈ws,∀ p∈parts y.xs,p.isVar=false:=by
        rcases uh HCS with ⟨_,e,_⟩ | ⟨e,_⟩
        ·rw [e];exact .inl (uh HBEG)
        ·right
         have hrd:=uh HRD
         rw [e] at hrd
         obtain ⟨bn,nn,hnn⟩:=from_names (st:=ss.map StM.stg) (ws:=ws.map WdM.wd) hrd
         have hfit:=(uh HFIT).2.1
         rw [e] at hfit
         have hfit':(ws.length:Int)-1≤3:=hfit
         exact from_plain hnn (uh H0) (by rw [←e];exact uh HO) (by omega)
       have hCk:=check_any B fb ib sv2 wv ss2 ws k ra rb (fnV rf) (fnV rg) w2 (uh HF2) (uh HI2) hset
       rw [←uh HST] at hCk
       unfold ChkOut at hCk
       have HB2:Hid (Fr B w w2):=hide ((uh HBW).trans hb2)
       have hBw2:B≤w2.heap.size:=Nat.le_trans hBw (uh HB2).size
       clear hset hb2 u4 hcf
       cases hu:unsetL (isSetG st') (ws.map WdM.wd) with
       | some p=>
         rw [hu] at hCk
         unfold Wrg at hCk
         have HG:Hid (takeG (ss.map StM.stg) (ws.map WdM.wd)=.error (7,p)):=hide (by rw [uh HG2,hu])
         clear HG2 hu
         go_wp2_with (go_at_call 111;refine hCk.mono ?_;clear hCk;rintro ev w8 ⟨⟨bb,rfl,hc⟩,hb8⟩)
         refine ⟨rfl,?_,(uh HB2).next hb8 hBw2⟩
         unfold TakeOut
         rw [uh HG]
         exact ⟨bb,rfl,hc⟩
       | none=>
         rw [hu] at hCk
         have HG3:Hid (takeG (ss.map StM.stg) (ws.map WdM.wd)=if 24≤sizeG st' then .error (10,x.place) else .ok (addIns st' ⟨ws.map WdM.wd,k⟩)):=hide (by rw [uh HG2,hu])
         have hSz:=fun w3 (hb3:Below w2.heap.size w2 w3)=>size_any B fb sv2 ss2 w3 ((uh HF2).below hb3)
         rw [←uh HST] at hSz
         clear HG2 hu
         obtain ⟨gw,capw,hwv⟩:=(uh HI2).form (by have:=(List.getElem?_eq_some_iff.1 (uh H0)).1;omega)
         obtain ⟨n,hn⟩:∃ n,n=ws.length:=⟨_,rfl⟩
         have HWV:Hid (wv=.slice (some ⟨gw,0,none⟩) n capw):=hide (by rw [hwv,hn])
         have HINC:Hid (∀ w',Below w2.heap.size w2 w'→w'.heap[ib]?=some (.cells #[.slice (some ⟨gw,0,none⟩) n capw,.int .i64 k,.int .i64 ra,.int .i64 rb,fnV rf,fnV rg] 76 (0,0))):=hide (fun w' hb'=>by
          have:=((uh HI2).below hb').cells
          rw [uh HWV] at this;exact this)
         clear hwv hn
         by_cases h24:24≤sizeG st'
         ·have HG:Hid (takeG (ss.map StM.stg) (ws.map WdM.wd)=.error (10,x.place)):=hide (by rw [uh HG3,if_pos h24])
          have g1:(24:Int)≤(sizeG st':Int):=by omega
          have hFl:=fun w'=>fail_wrg 10 x.place w'
          have HPL:Hid (∀ w',Below w2.heap.size w2 w'→Calls Tryz.prog 76 #[.agg #[.slice (some ⟨gw,0,none⟩) n capw,.int .i64 k,.int .i64 ra,.int .i64 rb,fnV rf,fnV rg]] w' fun ev w''=>ev=.returned (.int .i64 (x.place:Int))∧Below w'.heap.size w' w''):=hide (fun w' hb'=>by
           have:=place_gen wv ws x k ra rb (fnV rf) (fnV rg) B w' ((uh HI2).wsm.below hb') (uh H0)
           rw [uh HWV] at this;exact this)
          clear HG3 h24
          go_upto_region 4 with (first
           | (go_at_call 111;refine hCk.mono ?_;clear hCk;rintro ev w3 ⟨rfl,hb3⟩)
           | (go_at_call 112;refine (hSz _ hb3).mono ?_;clear hSz;rintro ev w4 ⟨rfl,hb4⟩))
          have hb24:Below w2.heap.size w2 w4:=hb3.trans (hb4.mono hb3.size)
          have hc4:=uh HINC w4 hb24
          have d0:w4.cell? ⟨ib,0,none⟩=some (.slice (some ⟨gw,0,none⟩) n capw):=cq 0 hc4
          have d1:w4.cell? ⟨ib,1,none⟩=some (.int .i64 k):=cq 1 hc4
          have d2:w4.cell? ⟨ib,2,none⟩=some (.int .i64 ra):=cq 2 hc4
          have d3:w4.cell? ⟨ib,3,none⟩=some (.int .i64 rb):=cq 3 hc4
          have d4:w4.cell? ⟨ib,4,none⟩=some (fnV rf):=cq 4 hc4
          have d5:w4.cell? ⟨ib,5,none⟩=some (fnV rg):=cq 5 hc4
          have HB24:=hide hb24
          clear hc4 hb24
          go_wp2_with (first
           | (go_at_call 76;refine (uh HPL _ (uh HB24)).mono ?_;rintro ev w5 ⟨rfl,hb5⟩)
           | (go_at_call 69;refine (hFl _).mono ?_;clear hFl;rintro ev w8 ⟨bb,rfl,hc,hb8⟩))
          refine ⟨rfl,?_,(((uh HB2).next (uh HB24) hBw2).next hb5 (Nat.le_trans hBw2 (uh HB24).size)).next hb8 (Nat.le_trans hBw2 (Nat.le_trans (uh HB24).size hb5.size))⟩
          unfold TakeOut
          rw [uh HG]
          exact ⟨bb,rfl,hc⟩
         ·have HG:Hid (takeG (ss.map StM.stg) (ws.map WdM.wd)=.ok (addIns st' ⟨ws.map WdM.wd,k⟩)):=hide (by rw [uh HG3,if_neg h24])
          have g1:¬ (24:Int)≤(sizeG st':Int):=by omega
          have hss2:ss2≠[]:=by
           rcases uh HCS with ⟨e0,e,_⟩ | ⟨_,un,e⟩
           ·rw [e];intro e'
            exact e0 ((uh HFIT).2.2 (by rw [e'];rfl))
           ·rw [e];simp
          obtain ⟨qs,s,hqs⟩:∃ qs s,ss2=qs++[s]:=by
           rcases List.eq_nil_or_concat ss2 with e | ⟨qs,s,e⟩
           ·exact absurd e hss2
           ·exact ⟨qs,s,by rw [e,List.concat_eq_append]⟩
          have hlen:ss2.length=qs.length+1:=by rw [hqs];simp
          obtain ⟨g,cap,hsv,_,_⟩:=World.ownsRow.form (uh HF2).row (by omega)
          have HSZ:Hid (s.ins.length<1500):=hide (by
           have h1:sizeG st'<24:=by omega
           rw [uh HST,hqs] at h1
           unfold sizeG at h1
           simp [StM.stg] at h1
           omega)
          have HL2:Hid (∀ w',Below w2.heap.size w2 w'→Calls Tryz.prog 113 #[.pointer (some ⟨fb,0,none⟩)] w' fun ev w''=>ev=.returned (.pointer (some ⟨g,qs.length*2,none⟩))∧Below w'.heap.size w' w''):=hide (fun w' hb'=>by
           have hF':=(uh HF2).below hb'
           rw [hsv] at hF'
           have:=last_any B fb g cap ss2 w' hF' (by omega)
           rw [hlen,Nat.add_sub_cancel] at this;exact this)
          have HFQ:Hid (∀ w',Below w2.heap.size w2 w'→FileM w' B fb (.slice (some ⟨g,0,none⟩) (qs.length+1) cap) (qs++[s])):=hide (fun w' hb'=>by
           have hF':=(uh HF2).below hb'
           rw [hsv,hlen,hqs] at hF';exact hF')
          clear HG3 h24 hss2 hsv hlen
          go_upto_region 6 with (first
           | (go_at_call 111;refine hCk.mono ?_;clear hCk;rintro ev w3 ⟨rfl,hb3⟩)
           | (go_at_call 112;refine (hSz _ hb3).mono ?_;clear hSz;rintro ev w4 ⟨rfl,hb4⟩)
           | (go_at_call 113;refine (uh HL2 _ (hb3.trans (hb4.mono hb3.size))).mono ?_;rintro ev w5 ⟨rfl,hb5⟩))
          have hb25:Below w2.heap.size w2 w5:=(hb3.trans (hb4.mono hb3.size)).trans (hb5.mono (Nat.le_trans hb3.size hb4.size))
          have HB5:Hid (Fr B w w5):=hide ((uh HB2).next hb25 hBw2)
          have hB5:B≤w5.heap.size:=Nat.le_trans hBw2 hb25.size
          have hF5:=uh HFQ w5 hb25
          have hI5:=(uh HI2).below hb25
          have hs5:=hF5.all s (by simp)
          obtain ⟨i0,hi0,hz0,hz1,hz2⟩:=info_parts info99
          obtain ⟨ao2,n2,cap2,hiv,hn2⟩:=st_form hs5
          have hrow5:=hs5.row
          have hst5:=st_at (ss:=qs++[s]) (by have:=hF5.row;rw [show (qs++[s]).length=qs.length+1 by simp] at this ⊢;exact this) qs.length s (by simp)
          have e1:=hst5.2
          rw [hiv] at e1
          have hc5:=uh HINC w5 hb25
          have d0:w5.cell? ⟨ib,0,none⟩=some (.slice (some ⟨gw,0,none⟩) n capw):=cq 0 hc5
          have d1:w5.cell? ⟨ib,1,none⟩=some (.int .i64 k):=cq 1 hc5
          have d2:w5.cell? ⟨ib,2,none⟩=some (.int .i64 ra):=cq 2 hc5
          have d3:w5.cell? ⟨ib,3,none⟩=some (.int .i64 rb):=cq 3 hc5
          have d4:w5.cell? ⟨ib,4,none⟩=some (fnV rf):=cq 4 hc5
          have d5:w5.cell? ⟨ib,5,none⟩=some (fnV rg):=cq 5 hc5
          have hgl:g<w5.heap.size:=World.block_lt_of_cell? _ _ e1
          have hil:=hI5.lt
          have HK6:Hid (∀ w6,((w5.alloc (.cells #[.slice (some ⟨gw,0,none⟩) n capw,.int .i64 k,.int .i64 ra,.int .i64 rb,fnV rf,fnV rg] 76)).drew).grownBy w6 (Value.slice ao2 n2 cap2).ownBlock→w6.cell? ⟨g,qs.length*2+1,none⟩=some (.slice ao2 n2 cap2)∧w6.frozen? ⟨g,qs.length*2+1,none⟩=false):=hide (fun w6 hgr=>by
           have hrowS:=hF5.row
           rw [show (qs++[s]).length=qs.length+1 by simp] at hrowS
           obtain ⟨cur,hgb⟩:∃ cur,w5.heap[g]?=some (.cells cur 106 (0,0)):=by
            rcases hrowS.2 with ⟨e,_⟩ | ⟨a,c,cur,e,_,ha,_⟩
            ·cases e
            ·injection e with e1 _ _
             injection e1 with e1
             injection e1 with e1
             subst e1
             exact ⟨cur,ha⟩
           have hne:(Value.slice ao2 n2 cap2).ownBlock≠some g:=by rw [←hiv];exact row_tag hrow5 hgb (by decide)
           have hk:w6.heap[g]?=w5.heap[g]?:=(hgr.block g (by show _<(w5.alloc _).heap.size;simp;omega) (fun e'=>hne e'.symm)).trans (Below.heap_alloc _ _ _ hgl)
           refine ⟨by rw [World.cell?_of_block hk];exact e1,?_⟩
           rw [World.frozen?_of_block hk];simp [World.frozen?,hgb])
          rw [hiv,←hn2] at hrow5
          have HROW:=hide (hrow5.alloc (.cells #[.slice (some ⟨gw,0,none⟩) n capw,.int .i64 k,.int .i64 ra,.int .i64 rb,fnV rf,fnV rg] 76))
          have HN2:=hide hn2
          have HIV:=hide hiv
          have HF5:=hide hF5
          have HI5:=hide hI5
          have hn2l:n2<1500:=by rw [hn2];exact uh HSZ
          have fin:∀ gg cp1 w6,w6.ownsRow B 76 6 (.slice (some ⟨gg,0,none⟩) (n2+1) cp1) (n2+1) (inC s.ins++[.slice (some ⟨gw,0,none⟩) n capw,.int .i64 k,.int .i64 ra,.int .i64 rb,fnV rf,fnV rg])→((w5.alloc (.cells #[.slice (some ⟨gw,0,none⟩) n capw,.int .i64 k,.int .i64 ra,.int .i64 rb,fnV rf,fnV rg] 76)).drew).grownBy w6 (Value.slice ao2 n2 cap2).ownBlock→((Value.slice ao2 n2 cap2).ownBlock=some gg∨gg=w5.heap.size+1)→TakeOut (w6.setCell ⟨g,qs.length*2+1,none⟩ (.slice (some ⟨gg,0,none⟩) (n2+1) cp1)) (.returned (.tuple #[])) B fb (takeG (ss.map StM.stg) (ws.map WdM.wd))∧Fr B w (w6.setCell ⟨g,qs.length*2+1,none⟩ (.slice (some ⟨gg,0,none⟩) (n2+1) cp1)):=by
           intro gg cp1 w6 hown hgr hli
           obtain ⟨r1,r2,r3,r4⟩:=uh HRR
           have hmok:InM.Ok ⟨wv,ws,k,op⟩ w5 B:=⟨(uh HI5).wsm,by simp only;rw [uh H0];exact uh HO,(uh HFIT).1,(uh HI5).small,(uh HI5).short⟩
           have hapq:ApartS (qs++[s]):=by
            rw [←hqs]
            rcases uh HCS with ⟨_,e,_⟩ | ⟨_,un,e⟩
            ·rw [e];exact uh HAPS
            ·rw [e];unfold ApartS;rw [List.pairwise_append]
             exact ⟨uh HAPS,by simp,fun q _ t' ht' g' _=>by rw [List.mem_singleton] at ht';subst ht';simp [Value.ownBlock]⟩
           have hcells:(⟨wv,ws,k,op⟩:InM).cells=[.slice (some ⟨gw,0,none⟩) n capw,.int .i64 k,.int .i64 ra,.int .i64 rb,fnV rf,fnV rg]:=by
            unfold InM.cells;rw [r1,r2,r3,r4,uh HWV]
           rw [←hcells,uh HN2] at hown
           rw [uh HN2]
           have hli':s.iv.ownBlock=some gg∨w5.heap.size≤gg:=by
            rw [uh HIV]
            rcases hli with e | e
            ·exact .inl e
            ·exact .inr (by omega)
           obtain ⟨hF7,hA7,hb7⟩:=file_add (uh HF5) hmok hapq ((Below.refl _ w5).alloc (Nat.le_refl _) _).drew hown (by rw [uh HIV];exact hgr) hli' (uh HSZ)
           refine ⟨?_,(uh HB5).trans hb7⟩
           unfold TakeOut
           rw [uh HG]
           refine ⟨rfl,_,_,hF7,?_,?_,hA7⟩
           ·rw [add_map,←hqs,←uh HST];rfl
           ·intro i s' hs'
            by_cases hil:i<qs.length
            ·rw [List.getElem?_append_left hil] at hs'
             rcases uh HCS with ⟨_,e,_⟩ | ⟨_,un,e⟩
             ·exact uh HBEG i s' (by rw [←e,hqs,List.getElem?_append_left hil];exact hs')
             ·have e2:qs=ss:=by
               rw [hqs] at e
               exact (List.append_inj' e rfl).1
              rw [e2] at hs'
              exact uh HBEG i s' hs'
            ·have hi':i=qs.length:=by
              have:=(List.getElem?_eq_some_iff.1 hs').1
              simp at this;omega
             subst hi'
             rw [List.getElem?_append_right (Nat.le_refl _)] at hs'
             simp at hs'
             subst hs'
             rcases uh HCS with ⟨_,e,_⟩ | ⟨_,un,e⟩
             ·obtain ⟨m0,hm0,hm1,hm2⟩:=uh HBEG qs.length s (by rw [←e,hqs];simp)
              exact ⟨m0,by simp only;rw [List.getElem?_append_left (List.getElem?_eq_some_iff.1 hm0).1];exact hm0,hm1,hm2⟩
             ·have e2:qs=ss∧s=⟨un,.slice none 0 0,[]⟩:=by
               rw [hqs] at e
               have:=List.append_inj' e rfl
               exact ⟨this.1,by simpa using this.2⟩
              refine ⟨⟨wv,ws,k,op⟩,by rw [e2.2];rfl,hk1,?_⟩
              rw [e2.1];exact hk2
          have FIN:=hide fin
          clear fin hF5 hI5 hs5 hc5 hiv hn2 hrow5 hst5 hqs hb25 hb3 hb4 hb5 hil
          go_region_law
           ((refine step_append_lies _ (by rfl) _ _ _ (by rfl) B 76 i0 _ 6 64 Tryz.underlying104 hi0 hz0 hz1 hz2 rfl (by decide) (.slice ao2 n2 cap2) n2 (inC s.ins) (by rfl) (by exact uh HROW) ⟨w5.heap.size,0,none⟩ 1 1 [.slice (some ⟨gw,0,none⟩) n capw,.int .i64 k,.int .i64 ra,.int .i64 rb,fnV rf,fnV rg] (by rfl) (by rfl) (by exact World.news_of_block (cs:=#[.slice (some ⟨gw,0,none⟩) n capw,.int .i64 k,.int .i64 ra,.int .i64 rb,fnV rf,fnV rg]) (t:=76) (fr:=(0,0)) (one_new _ _)) (by intro u hu;simp only [List.mem_cons,List.not_mem_nil,or_false] at hu;rcases hu with rfl | rfl | rfl | rfl | rfl | rfl <;> rfl) (by omega) (by unfold maxLen;omega) (by omega) (by show B≤(w5.alloc _).heap.size;simp;omega) (w5.heap.size+1) (by simp) ?_;intro gg cp1 w6 hown6 hgrow hlies hgl6;obtain ⟨kk1,kk2⟩:=uh HK6 w6 hgrow))
          all_goals
           try go_wp2_with fail
           go_end0
           exact uh FIN gg cp1 w6 hown6 hgrow hlies
theorem file_end {l:List UInt8}{st:List Stg}{k:Nat}(h:¬ k<l.length):fileG l st k=if st=[] then .error (5,l.length) else .ok st:=by
 rw [fileG,if_neg h]
theorem file_bad {l:List UInt8}{st:List Stg}{k:Nat}{e:Nat × Nat}(h:k<l.length) (hl:linG l [] k=.error e):fileG l st k=.error e:=by
 rw [fileG,if_pos h,hl]
theorem file_none {l:List UInt8}{st:List Stg}{k t:Nat}(h:k<l.length) (hl:linG l [] k=.ok ([],t)) (ht:k<t):fileG l st k=fileG l st t:=by
 rw [fileG,if_pos h,hl]
 simp only
 rw [dif_pos ht]
 simp
theorem file_some {l:List UInt8}{st:List Stg}{k t:Nat}{ws:List Wd}(h:k<l.length) (hl:linG l [] k=.ok (ws,t)) (ht:k<t) (hw:ws≠[]):fileG l st k=match takeG st ws with
  | .error e=>.error e
  | .ok st'=>fileG l st' t:=by
 rw [fileG,if_pos h,hl]
 simp only
 rw [dif_pos ht,if_neg hw]
 rfl
theorem plain_len {xs:List Atm}{t:List UInt8}(h:plainW xs=some t):t.length≤xs.length:=by
 induction xs generalizing t with
 | nil=>cases h;simp
 | cons a r ih=>
   cases a with
   | inr pA => obtain ⟨n, k⟩ := pA; cases h
   | inl c =>
     simp only [plainW] at h
     cases hr:plainW r with
     | none=>rw [hr] at h;cases h
     | some u=>
       rw [hr] at h
       injection h with h
       have:=ih hr
       rw [←h];simp;omega
theorem FileM.rd {w w':World}{B fb q:Nat}{sv:Value}{ss:List StM}{c:Array Value}(h:FileM w B fb sv ss) (hq:w.heap[q]?=some (.cells c 210 (0,0))) (ht:Tb w.heap.size q w w'):FileM w' B fb sv ss:=by
 have hne:fb≠q:=by
  rintro rfl
  have:=h.cells
  rw [hq] at this
  injection this with this
  injection this with _ this
  cases this
 exact ⟨(ht.block fb h.lt hne).trans h.cells,h.base,row_off h.row ht (row_tag h.row hq (by decide)),fun s hs=>⟨row_off (h.all s hs).row ht (row_tag (h.all s hs).row hq (by decide)),fun m hm=>((h.all s hs).all m hm).off hq (by decide) (by decide) ht,(h.all s hs).short⟩,h.short⟩
def FileOut (w w':World) (ev:Ending) (r:Res (List Stg)):Prop:=match r with
 | .error (e,p)=>Wrg w' ev e p
 | .ok st=>∃ fb sv ss,ev=.returned (.pointer (some ⟨fb,0,none⟩))∧FileM w' w.heap.size fb sv ss∧ss.map StM.stg=st
set_option maxHeartbeats 4000000 in
set_option maxRecDepth 10000 in
theorem read_file (s:ByteArray) (m:Int) (w:World) (hm:w.cell? ⟨14,0,none⟩=some (.int .i64 m)) :
  Calls Tryz.prog 29 #[.string s] w fun ev w'=>FileOut w w' ev (parseG s.data.toList)∧Below w.heap.size w w':=by
 have hml:(14:Nat)<w.heap.size:=World.block_lt_of_cell? _ _ hm
 have HM:=hide hm
 obtain ⟨W0,hW0⟩:∃ W0,W0=w.alloc (.cells #[.slice none 0 0] 98):=⟨_,rfl⟩
 have hb0:Below w.heap.size w W0:=by rw [hW0];exact (Below.refl _ _).alloc (Nat.le_refl _) _
 have hF0:FileM W0 w.heap.size w.heap.size (.slice none 0 0) []:=⟨by rw [hW0];exact heap_alloc_new _ _,Nat.le_refl _,World.ownsRow_nil _ _ _ _,by simp,by simp⟩
 have hN:=new_any s W0
 unfold NewOut at hN
 have HB0:=hide hb0
 have HF0:=hide hF0
 clear hm hb0 hF0
 by_cases h15:1500<s.size
 ·simp only [if_pos h15] at hN
  unfold Wrg at hN
  have HG:Hid (parseG s.data.toList=.error (10,1500)):=hide (by unfold parseG;rw [←Lib.size_eq,if_pos h15])
  clear h15
  go_enter Tryz.func29,Tryz.ntmps29
  go_upto_region 2 with fail
  rw [←hW0]
  clear hW0
  go_wp2_with (go_at_call 65;refine hN.mono ?_;clear hN;rintro ev w8 ⟨⟨bb,rfl,hc⟩,hb8⟩)
  refine ⟨rfl,?_,(uh HB0).trans (hb8.mono (uh HB0).size)⟩
  unfold FileOut
  rw [uh HG]
  exact ⟨bb,rfl,hc⟩
 simp only [if_neg h15] at hN
 by_cases hmay:mayN s.data.toList<s.size
 ·simp only [if_pos hmay] at hN
  unfold Wrg at hN
  have HG:Hid (parseG s.data.toList=.error (5,mayN s.data.toList)):=hide (by unfold parseG;rw [←Lib.size_eq,if_neg h15,if_pos hmay])
  clear h15 hmay
  go_enter Tryz.func29,Tryz.ntmps29
  go_upto_region 2 with fail
  rw [←hW0]
  clear hW0
  go_wp2_with (go_at_call 65;refine hN.mono ?_;clear hN;rintro ev w8 ⟨⟨bb,rfl,hc⟩,hb8⟩)
  refine ⟨rfl,?_,(uh HB0).trans (hb8.mono (uh HB0).size)⟩
  unfold FileOut
  rw [uh HG]
  exact ⟨bb,rfl,hc⟩
 simp only [if_neg hmay] at hN
 have HG:Hid (parseG s.data.toList=fileG s.data.toList [] 0):=hide (by unfold parseG;rw [←Lib.size_eq,if_neg h15,if_neg hmay])
 have hs:s.size≤1500:=by omega
 clear h15 hmay
 go_enter Tryz.func29,Tryz.ntmps29
 go_upto_region 2 with fail
 rw [←hW0]
 clear hW0
 go_wp2_with (go_at_call 65;refine hN.mono ?_;clear hN;rintro ev w1 ⟨⟨rb,rfl,hrb,hR1⟩,hb1⟩)
 have hB1:Below w.heap.size w w1:=(uh HB0).trans (hb1.mono (uh HB0).size)
 have hF1:=(uh HF0).below hb1
 have hrw:w.heap.size≤rb:=Nat.le_trans (uh HB0).size hrb
 have HF1:=hide hF1
 have HR1:=hide hR1
 have HB1:=hide hB1
 clear hF1 hR1 hB1 hb1 hrb
 go_loopw [10] (fun _ wr=>∃ (j:Nat) (sv:Value) (ss:List StM),Rdr wr rb s j∧j≤s.size∧FileM wr w.heap.size w.heap.size sv ss∧Begun ss∧ApartS ss∧fileG s.data.toList [] 0=fileG s.data.toList (ss.map StM.stg) j∧Below w.heap.size w wr) (fun _ wr=>s.size-atOf wr rb)
 case atStart=>exact ⟨0,_,[],uh HR1,Nat.zero_le _,uh HF1,fun i s hs=>by simp at hs,List.Pairwise.nil,rfl,uh HB1⟩
 case round=>
  obtain ⟨j,sv,ss,hR,hj,hF,hBeg,hAp,hG,hB⟩:=hrel
  have HA:=hide hR.at
  have HR:=hide hR
  have HF:=hide hF
  have HBeg:=hide hBeg
  have HAp:=hide hAp
  have HGf:=hide hG
  have HB:=hide hB
  have hBw:w.heap.size≤wr.heap.size:=hB.size
  have HMr:Hid (∀ w',Below w.heap.size w w'→w'.cell? ⟨14,0,none⟩=some (.int .i64 m)):=hide (fun w' hb'=>by rw [World.cell?_of_block (hb'.block 14 hml)];exact uh HM)
  clear hR hF hBeg hAp hG hB
  by_cases hlt:j<s.size
  ·have hlt':j<s.data.toList.length:=by rw [←Lib.size_eq];exact hlt
   have mM:=moreR rb s j true wr (uh HR) (decide_eq_true hlt)
   have mL:=fun w2 (hb2:Below wr.heap.size wr w2)=>line_any rb s j m w2 ((uh HR).tb hb2) hj hs (uh HMr w2 ((uh HB).trans (hb2.mono hBw))) (by omega)
   unfold LineOut at mL
   cases hln:linG s.data.toList [] j with
   | error e=>
     obtain ⟨e,p⟩:=e
     rw [hln] at mL
     unfold Wrg at mL
     have HE:Hid (fileG s.data.toList [] 0=.error (e,p)):=hide (by rw [uh HGf];exact file_bad hlt' hln)
     clear hln
     go_wp2_with (first
      | (go_at_call 66;refine mM.mono ?_;clear mM;rintro ev w2 ⟨rfl,hR2,hb2⟩)
      | (go_at_call 67;refine (mL _ hb2).mono ?_;clear mL;rintro ev w8 ⟨⟨bb,rfl,hc⟩,hT8⟩))
     refine ⟨rfl,?_,((uh HB).trans (hb2.mono hBw)).trans ((hT8.mono (Nat.le_trans hBw hb2.size)).below hrw)⟩
     unfold FileOut
     rw [uh HG,uh HE]
     exact ⟨bb,rfl,hc⟩
   | ok y=>
     obtain ⟨ws,t⟩:=y
     rw [hln] at mL
     have HLN:=hide hln
     clear hln
     go_upto_region 5 with (first
      | (go_at_call 66;refine mM.mono ?_;clear mM;rintro ev w2 ⟨rfl,hR2,hb2⟩)
      | (go_at_call 67;refine (mL _ hb2).mono ?_;clear mL;rintro ev w3 ⟨⟨v,ms,rfl,hMS,hmap,hR3,hjt,hjt2,hts,hml3,hxl⟩,hT3⟩))
     have hB2:Below w.heap.size w w2:=(uh HB).trans (hb2.mono hBw)
     have hB3:Below w.heap.size w w3:=hB2.trans ((hT3.mono hB2.size).below hrw)
     have hF3:FileM w3 w.heap.size w.heap.size sv ss:=((uh HF).below hb2).rd hR2 hT3
     have hjt':=hjt2 hlt
     have hMS3:WsM w3 w.heap.size v ms:=⟨row_base hMS.row hB2.size,fun x hx=>row_base (hMS.all x hx) hB2.size⟩
     obtain ⟨aov,capv,hv⟩:=ws_form hMS3
     have HR3:=hide hR3
     have HF3:=hide hF3
     have HB3:=hide hB3
     have HMS3:=hide hMS3
     have HMAP:=hide hmap
     have HXL:=hide hxl
     have HVV:=hide hv
     subst hv
     clear hR3 hF3 hB3 hMS3 hmap hxl hMS hR2 hT3 hjt hjt2 hb2 hB2
     by_cases hms:ms=[]
     ·subst hms
      have HE:Hid (fileG s.data.toList [] 0=fileG s.data.toList (ss.map StM.stg) t):=hide (by
       rw [uh HGf]
       have hl:=uh HLN
       rw [←uh HMAP] at hl
       exact file_none hlt' hl hjt')
      go_wp2_with fail
      go_roundw
      case rel=>
       first
        | exact ⟨t,sv,ss,uh HR3,hts,uh HF3,uh HBeg,uh HAp,uh HE,uh HB3⟩
        | ((repeat apply Exists.intro);exact ⟨⟨t,sv,ss,uh HR3,hts,uh HF3,uh HBeg,uh HAp,uh HE,uh HB3⟩,rfl⟩)
      case measure=>rw [uh HA,(uh HR3).at];omega
     ·have hml0:0<ms.length:=List.length_pos_iff.2 hms
      obtain ⟨x0,hx0⟩:∃ x0,ms[0]?=some x0:=⟨_,List.getElem?_eq_getElem hml0⟩
      obtain ⟨n,hn⟩:∃ n,n=ms.length:=⟨_,rfl⟩
      obtain ⟨W4,hW4⟩:∃ W4,W4=w3.alloc (.cells #[.slice aov n capv,.int .i64 (-1),.int .i64 0,.int .i64 0,.nilFunc,.nilFunc] 76):=⟨_,rfl⟩
      have hb4:Below w3.heap.size w3 W4:=by rw [hW4];exact (Below.refl _ _).alloc (Nat.le_refl _) _
      have hI4:InB W4 w.heap.size w3.heap.size (.slice aov n capv) ms (-1) 0 0 .nilFunc .nilFunc:=⟨by rw [hW4];exact heap_alloc_new _ _,by rw [hn];exact (uh HMS3).below hb4,(uh HB3).size,by omega,fun x hx=>by
       have h1:=uh HXL x hx
       have h2:=(parts_le x.xs).1
       exact ⟨by omega,fun t ht=>by have:=plain_len ht;omega⟩⟩
      have hF4:=(uh HF3).below hb4
      have hTk:=take_inst w.heap.size w.heap.size w3.heap.size sv (.slice aov n capv) ss ms x0 W4 hF4 hI4 (fun s' hs' e=>by
       have:=(World.ownsRow.lt ((uh HF3).all s' hs').row _ e).2;omega) (uh HBeg) (uh HAp) hx0
      unfold TakeOut at hTk
      have hB4:w.heap.size≤w3.heap.size:=(uh HB3).size
      have HB4:Hid (Below w.heap.size w W4):=hide ((uh HB3).trans (hb4.mono hB4))
      have HR4:Hid (Rdr W4 rb s t):=hide ((uh HR3).tb hb4)
      have hws:ws≠[]:=by rw [←uh HMAP];simpa using hms
      have HFS:=hide (file_some (st:=ss.map StM.stg) hlt' (uh HLN) hjt' hws)
      rw [←uh HMAP] at HFS
      have g0:(0:Int)<(n:Int):=by omega
      rw [←hn]
      clear hms hx0 hn hb4 hI4 hF4 hws hml0
      cases htk:takeG (ss.map StM.stg) (ms.map WdM.wd) with
      | error e=>
        obtain ⟨e,p⟩:=e
        rw [htk] at hTk
        unfold Wrg at hTk
        have HE:Hid (fileG s.data.toList [] 0=.error (e,p)):=hide (by rw [uh HGf,uh HFS,htk])
        clear htk
        go_upto_region 6 with fail
        go_wp2_with (go_at_call 68;rw [←hW4];refine hTk.mono ?_;clear hTk;rintro ev w8 ⟨⟨bb,rfl,hc⟩,hb8⟩)
        refine ⟨rfl,?_,(uh HB4).trans hb8.below⟩
        unfold FileOut
        rw [uh HG,uh HE]
        exact ⟨bb,rfl,hc⟩
      | ok st'=>
        rw [htk] at hTk
        have HE:Hid (fileG s.data.toList [] 0=fileG s.data.toList st' t):=hide (by rw [uh HGf,uh HFS,htk])
        clear htk
        go_upto_region 6 with fail
        go_wp2_with (go_at_call 68;rw [←hW4];refine hTk.mono ?_;clear hTk;rintro ev w5 ⟨⟨rfl,sv5,ss5,hF5,hst5,hBg5,hAp5⟩,hb5⟩)
        have hR5:Rdr w5 rb s t:=hb5.keep _ _ _ (uh HR4)
        go_roundw
        case rel=>
         first
          | exact ⟨t,sv5,ss5,hR5,hts,hF5,hBg5,hAp5,by rw [hst5];exact uh HE,(uh HB4).trans hb5.below⟩
          | ((repeat apply Exists.intro);exact ⟨⟨t,sv5,ss5,hR5,hts,hF5,hBg5,hAp5,by rw [hst5];exact uh HE,(uh HB4).trans hb5.below⟩,rfl⟩)
        case measure=>rw [uh HA,hR5.at];omega
  ·have mM:=moreR rb s j false wr (uh HR) (decide_eq_false hlt)
   have HGE:Hid (fileG s.data.toList [] 0=if ss.map StM.stg=[] then .error (5,s.size) else .ok (ss.map StM.stg)):=hide (by
    rw [uh HGf,file_end (by rw [←Lib.size_eq];exact hlt),←Lib.size_eq])
   obtain ⟨ao,cap,hsv⟩:∃ ao cap,sv=.slice ao ss.length cap:=by
    rcases (uh HF).row.2 with ⟨e,h0⟩ | ⟨g,cap,cur,e,_⟩
    ·exact ⟨none,0,by rw [e,h0]⟩
    ·exact ⟨_,_,e⟩
   have HC:Hid (∀ w2,Below wr.heap.size wr w2→w2.cell? ⟨w.heap.size,0,none⟩=some (.slice ao ss.length cap)):=hide (fun w2 hb2=>by rw [←hsv];exact ((uh HF).below hb2).c0)
   clear hsv
   cases hss:ss with
   | nil=>
     have HE:Hid (fileG s.data.toList [] 0=.error (5,s.size)):=hide (by rw [uh HGE,hss];rfl)
     have hFl:=fun w'=>fail_wrg 5 s.size w'
     rw [hss] at HC
     clear hss
     go_wp2_with (first
      | (go_at_call 66;refine mM.mono ?_;clear mM;rintro ev w2 ⟨rfl,hR2,hb2⟩;have c0:=uh HC w2 hb2)
      | (go_at_call 69;refine (hFl _).mono ?_;clear hFl;rintro ev w8 ⟨bb,rfl,hc,hb8⟩))
     refine ⟨rfl,?_,((uh HB).trans (hb2.mono hBw)).trans (hb8.mono (Nat.le_trans hBw hb2.size))⟩
     unfold FileOut
     rw [uh HG,uh HE]
     exact ⟨bb,rfl,hc⟩
   | cons s0 sr=>
     have HE:Hid (fileG s.data.toList [] 0=.ok (ss.map StM.stg)):=hide (by rw [uh HGE,if_neg (by rw [hss];simp)])
     obtain ⟨N,hN⟩:∃ N,N=ss.length:=⟨_,rfl⟩
     rw [←hN] at HC
     have g0:((N:Int)==0)=false:=by rw [hN,hss];simp;omega
     clear hss hN
     go_wp2_with (go_at_call 66;refine mM.mono ?_;clear mM;rintro ev w2 ⟨rfl,hR2,hb2⟩;have c0:=uh HC w2 hb2)
     go_ret
     refine ⟨?_,(uh HB).trans (hb2.mono hBw)⟩
     unfold FileOut
     rw [uh HG,uh HE]
     exact ⟨_,sv,ss,rfl,(uh HF).below hb2,rfl⟩
end Go.Proofs.YtehfpjcclknipaaGreatDoor
