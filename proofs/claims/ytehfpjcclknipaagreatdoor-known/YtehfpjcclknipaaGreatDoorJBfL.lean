import Derived.Test.YtehfpjcclknipaaGreatDoorJBfH
namespace Go.Proofs.YtehfpjcclknipaaGreatDoor
open Go.RowKit Go.Maps
theorem unsetL_first {set:List UInt8→Bool}{l:List Wd}{k p:Nat}{x:Wd}(hk:l[k]?=some x) (hp:unsetW set x.atoms=some p) (h:∀ (i:Nat) y,i<k→l[i]?=some y→unsetW set y.atoms=none):unsetL set l=some p:=by
 induction l generalizing k with
 | nil=>simp at hk
 | cons a r ih=>
   cases k with
   | zero=>simp at hk;subst hk;simp [unsetL,hp]
   | succ k=>
     have ha:=h 0 a (by omega) rfl
     simp only [unsetL,ha]
     exact ih (by simpa using hk) (fun i q hi hq=>h (i+1) q (by omega) (by simpa using hq))
theorem unsetL_none {set:List UInt8→Bool}{l:List Wd}(h:∀ (i:Nat) y,l[i]?=some y→unsetW set y.atoms=none):unsetL set l=none:=by
 induction l with
 | nil=>rfl
 | cons a r ih=>
   simp only [unsetL,h 0 a rfl]
   exact ih (fun i q hq=>h (i+1) q (by simpa using hq))
theorem prC_get:∀ (l:List Prt) (i:Nat) (m:Prt),l[i]?=some m→(prC l)[i*3]?=some (.string m.text)∧(prC l)[i*3+1]?=some (.bool m.isVar)∧(prC l)[i*3+2]?=some (.int .i64 m.place):=by
 intro l
 induction l with
 | nil=>intro i m h;simp at h
 | cons a r ih=>
   intro i m h
   cases i with
   | zero=>simp at h;subst h;exact ⟨rfl,rfl,rfl⟩
   | succ i=>
     have:=ih i m (by simpa using h)
     rw [show (i+1)*3=i*3+3 by omega]
     exact ⟨this.1,this.2.1,this.2.2⟩
def ChkOut (w:World) (ev:Ending) (set:List UInt8→Bool) (ws:List Wd):Prop:=match unsetL set ws with
 | some p=>Wrg w ev 7 p
 | none=>ev=.returned (.tuple #[])
structure InB (w:World) (B ib:Nat) (wv:Value) (ws:List WdM) (st a b:Int) (f g:Value):Prop where
 cells:w.heap[ib]?=some (.cells #[wv,.int .i64 st,.int .i64 a,.int .i64 b,f,g] 76 (0,0))
 wsm:WsM w B wv ws
 base:B≤ib
 short:ws.length≤1500
 small:∀ x∈ws,(parts x.xs).length≤1500∧∀ t,plainW x.xs=some t→t.length≤1500
theorem InB.lt {w:World}{B ib:Nat}{wv:Value}{ws:List WdM}{st a b:Int}{f g:Value}(h:InB w B ib wv ws st a b f g):ib<w.heap.size:=(Array.getElem?_eq_some_iff.1 h.cells).1
theorem InB.below {w w':World}{B ib:Nat}{wv:Value}{ws:List WdM}{st a b:Int}{f g:Value}(h:InB w B ib wv ws st a b f g) (hb:Below w.heap.size w w'):InB w' B ib wv ws st a b f g:=
 ⟨(hb.block ib h.lt).trans h.cells,h.wsm.below hb,h.base,h.short,h.small⟩
theorem ws_form {w:World}{B:Nat}{wv:Value}{ws:List WdM}(h:WsM w B wv ws):∃ ao cap,wv=.slice ao ws.length cap:=by
 rcases h.row.2 with ⟨e,h0⟩ | ⟨g,cap,cur,e,_⟩
 ·exact ⟨none,0,by rw [e,h0]⟩
 ·exact ⟨_,_,e⟩
set_option maxHeartbeats 4000000 in
set_option maxRecDepth 10000 in
theorem check_any (B fb ib:Nat) (sv wv:Value) (ss:List StM) (ws:List WdM) (st a b:Int) (f g:Value) (w:World) (h:FileM w B fb sv ss) (hi:InB w B ib wv ws st a b f g)
  (hset:Begun ss∨∀ x∈ws,∀ p∈parts x.xs,p.isVar=false) :
  Calls Tryz.prog 111 #[.pointer (some ⟨fb,0,none⟩),.pointer (some ⟨ib,0,none⟩)] w fun ev w'=>ChkOut w' ev (isSetG (ss.map StM.stg)) (ws.map WdM.wd)∧Below w.heap.size w w':=by
 have c0:w.cell? ⟨ib,0,none⟩=some wv:=cq 0 hi.cells
 obtain ⟨ao,cap,hv⟩:=ws_form hi.wsm
 have hsh:=hi.short
 obtain ⟨n,hn⟩:∃ n,n=ws.length:=⟨_,rfl⟩
 obtain ⟨set,hse⟩:∃ set,set=isSetG (ss.map StM.stg):=⟨_,rfl⟩
 have HSE:=hide hse
 have HF:=hide h
 have HI:=hide hi
 have HN:=hide hn
 have HV:=hide hv
 have HSET:=hide hset
 rw [←hse]
 rw [hv,←hn] at c0
 rw [←hn] at hsh
 clear h hi hv hn hset hse
 go_enter Tryz.func111,Tryz.ntmps111
 go_wp2_with fail
 go_loopw [13] (fun i wr=>∃ k:Nat,k≤n∧i=.int .i64 k∧Below w.heap.size w wr∧(∀ (i:Nat) y,i<k→ws[i]?=some y→unsetW set y.xs=none)) (fun i _=>n-(intOf i).toNat)
 case atStart=>exact ⟨0,Nat.zero_le _,rfl,Below.refl _ _,fun i s hi=>by omega⟩
 case round=>
  obtain ⟨k,hk,rfl,hb,ha⟩:=hrel
  have A:=hide ha
  clear ha
  by_cases hlt:k<n
  ·have hlt':k<ws.length:=by rw [←uh HN];exact hlt
   obtain ⟨x,hx⟩:∃ x,ws[k]?=some x:=⟨_,List.getElem?_eq_getElem hlt'⟩
   have hWr:=(uh HI).wsm.below hb
   have hok:=hWr.all x (List.mem_of_getElem? hx)
   obtain ⟨gw,capw,hwv,q0,q1,hgl⟩:=wd_at hWr k x hx
   have hwv2:=uh HV
   rw [hwv,←uh HN] at hwv2
   injection hwv2 with e1 e2 e3
   subst e1 e3
   obtain ⟨aox,nx,capx,hxv⟩:=row_form hok
   have hnx:nx=(parts x.xs).length:=by
    rcases hok.2 with ⟨e,h0⟩ | ⟨gg,cc,cur,e,_⟩
    ·rw [e] at hxv;injection hxv with _ h1 _;rw [←h1,h0]
    ·rw [e] at hxv;injection hxv with _ h1 _;exact h1.symm
   have hns:=((uh HI).small x (List.mem_of_getElem? hx)).1
   rw [hxv] at q1
   have n0:=World.new_ne wr ⟨gw,k*2,none⟩ q0
   have HX:=hide hx
   have HOK:=hide hok
   have HXV:=hide hxv
   have HNX:=hide hnx
   rw [←hnx] at hns
   have HB:=hide hb
   obtain ⟨W1,hW1⟩:∃ W1,W1=wr.alloc (.cells #[.int .i64 (x.place:Int),.slice aox nx capx] 162):=⟨_,rfl⟩
   have HB1:Hid (Below w.heap.size w W1):=hide (by rw [hW1];exact hb.alloc hb.size _)
   have hc1:W1.heap[wr.heap.size]?=some (.cells #[.int .i64 (x.place:Int),.slice aox nx capx] 162 (0,0)):=by rw [hW1];exact heap_alloc_new _ _
   have p1:W1.cell? ⟨wr.heap.size,1,none⟩=some (.slice aox nx capx):=cq 1 hc1
   clear hx hok hxv hnx hWr hwv hb hc1
   go_upto_region 3 with fail
   rw [←hW1]
   clear hW1 q0 q1 n0
   go_wp2_with fail
   go_loopw [20] (fun i w2=>∃ j:Nat,j≤nx∧i=.int .i64 j∧Below w.heap.size w w2∧(∀ (i:Nat) q,i<j→(parts x.xs)[i]?=some q→okP set q=true)) (fun i _=>nx-(intOf i).toNat)
   case atStart=>exact ⟨0,Nat.zero_le _,rfl,uh HB1,fun i s hi=>by omega⟩
   case round=>
    obtain ⟨j,hj,rfl,hb2,ha2⟩:=hrel
    have A2:=hide ha2
    clear ha2 p1
    by_cases hlt2:j<nx
    ·obtain ⟨p,hp⟩:∃ p,(parts x.xs)[j]?=some p:=⟨_,List.getElem?_eq_getElem (by rw [←uh HNX];exact hlt2)⟩
     have hok2:x.Ok w B:=(uh HI).wsm.all x (List.mem_of_getElem? (uh HX))
     have hrow3:=row_same hok2 (w':=wr) (fun i hi=>hb2.block i (World.ownsRow.lt hok2 i hi).2)
     obtain ⟨gp,capp,hpv,_,hgpl⟩:=World.ownsRow.form hrow3 (by rw [←uh HNX];omega)
     have hpv2:=uh HXV
     rw [hpv] at hpv2
     injection hpv2 with e1 e2 e3
     subst e1 e3
     rw [hpv] at hrow3
     obtain ⟨t0,t1,t2⟩:=prC_get _ j p hp
     have hjl:j<(parts x.xs).length:=by rw [←uh HNX];exact hlt2
     have u0:wr.cell? ⟨gp,j*3,none⟩=some (.string p.text):=by rw [World.ownsRow.cellAt hrow3 _ (by omega)];exact t0
     have u1:wr.cell? ⟨gp,j*3+1,none⟩=some (.bool p.isVar):=by rw [World.ownsRow.cellAt hrow3 _ (by omega)];exact t1
     have u2:wr.cell? ⟨gp,j*3+2,none⟩=some (.int .i64 p.place):=by rw [World.ownsRow.cellAt hrow3 _ (by omega)];exact t2
     have n1:=World.new_ne wr ⟨gp,j*3,none⟩ u0
     obtain ⟨W3,hW3⟩:∃ W3,W3=wr.alloc (.cells #[.string p.text,.bool p.isVar,.int .i64 p.place] 217):=⟨_,rfl⟩
     have hb3:Below w.heap.size w W3:=by rw [hW3];exact hb2.alloc hb2.size _
     have hc3:W3.heap[wr.heap.size]?=some (.cells #[.string p.text,.bool p.isVar,.int .i64 p.place] 217 (0,0)):=by rw [hW3];exact heap_alloc_new _ _
     have v0:W3.cell? ⟨wr.heap.size,0,none⟩=some (.string p.text):=cq 0 hc3
     have v1:W3.cell? ⟨wr.heap.size,1,none⟩=some (.bool p.isVar):=cq 1 hc3
     have v2:W3.cell? ⟨wr.heap.size,2,none⟩=some (.int .i64 p.place):=cq 2 hc3
     have HP:=hide hp
     have HB3:=hide hb3
     have hFr:=(uh HF).below hb3
     have HFr:=hide hFr
     clear hok2 hrow3 hpv hp t0 t1 t2 hc3 hb2 hb3 hjl hFr
     go_upto_region 6 with fail
     rw [←hW3]
     clear hW3 u0 u1 u2 n1
     cases hvar:p.isVar with
     | false=>
       have A3:Hid (∀ (i:Nat) q,i<j+1→(parts x.xs)[i]?=some q→okP set q=true):=hide (fun i q hi hq=>by
        by_cases hij:i=j
        ·subst hij;rw [uh HP] at hq;cases hq;simp [okP,hvar]
        ·exact uh A2 i q (by omega) hq)
       rw [hvar] at v1
       clear hvar
       go_wp2_with fail
       go_roundw
       case rel=>
        first
         | exact ⟨j+1,by omega,by go_num,uh HB3,uh A3⟩
         | ((repeat apply Exists.intro);exact ⟨⟨j+1,by omega,by go_num,uh HB3,uh A3⟩,rfl⟩)
       case measure=>simp [intOf];omega
     | true=>
       have hbeg:Begun ss:=by
        rcases uh HSET with h | h
        ·exact h
        ·have:=h x (List.mem_of_getElem? (uh HX)) p (List.mem_of_getElem? (uh HP))
         rw [hvar] at this;cases this
       have hS:=isSet_any B fb sv ss p.text W3 (uh HFr) hbeg
       rw [←uh HSE] at hS
       rw [hvar] at v1
       cases hst:set p.text.data.toList with
       | true=>
         have A3:Hid (∀ (i:Nat) q,i<j+1→(parts x.xs)[i]?=some q→okP set q=true):=hide (fun i q hi hq=>by
          by_cases hij:i=j
          ·subst hij;rw [uh HP] at hq;cases hq;simp [okP,hst]
          ·exact uh A2 i q (by omega) hq)
         rw [hst] at hS
         clear hvar hst
         go_wp2_with (go_at_call 149;refine hS.mono ?_;clear hS;rintro ev w5 ⟨rfl,hb5⟩)
         go_roundw
         case rel=>
          first
           | exact ⟨j+1,by omega,by go_num,(uh HB3).trans (hb5.mono (uh HB3).size),uh A3⟩
           | ((repeat apply Exists.intro);exact ⟨⟨j+1,by omega,by go_num,(uh HB3).trans (hb5.mono (uh HB3).size),uh A3⟩,rfl⟩)
         case measure=>simp [intOf];omega
       | false=>
         have hup:unsetP set (parts x.xs)=some p.place:=unsetP_first (uh HP) (by simp [okP,hst,hvar]) (uh A2)
         rw [unset_parts] at hup
         obtain ⟨pp,hpp,hpl⟩:∃ pp,unsetW set x.xs=some pp∧(pp:Int)=p.place:=by
          cases hu:unsetW set x.xs with
          | none=>rw [hu] at hup;cases hup
          | some pp=>rw [hu] at hup;injection hup with hup;exact ⟨pp,rfl,hup⟩
         have HU:Hid (unsetL set (ws.map WdM.wd)=some pp):=hide (unsetL_first (k:=k) (x:=x.wd) (by rw [List.getElem?_map,uh HX];rfl) hpp (fun i y hi hy=>by
          rw [List.getElem?_map] at hy
          cases hw:ws[i]? with
          | none=>rw [hw] at hy;cases hy
          | some z=>rw [hw] at hy;cases hy;exact uh A i z hi hw))
         rw [←hpl] at v2
         rw [hst] at hS
         have hFl:=fun w'=>fail_wrg 7 pp w'
         have HV2:Hid (∀ w',Below W3.heap.size W3 w'→w'.cell? ⟨wr.heap.size,2,none⟩=some (.int .i64 (pp:Int))):=hide (fun w' hb'=>cell_later hb' v2)
         clear hvar hst hup hpp hpl v2
         go_wp2_with (first
          | (go_at_call 149;refine hS.mono ?_;clear hS;rintro ev w5 ⟨rfl,hb5⟩;have v2:=uh HV2 w5 hb5)
          | (go_at_call 69;refine (hFl _).mono ?_;clear hFl;rintro ev w8 ⟨bb,rfl,hc,hb8⟩))
         refine ⟨rfl,?_,((uh HB3).trans (hb5.mono (uh HB3).size)).trans (hb8.mono (Nat.le_trans (uh HB3).size hb5.size))⟩
         unfold ChkOut
         rw [uh HU]
         exact ⟨bb,rfl,hc⟩
    ·have A3:Hid (∀ (i:Nat) y,i<k+1→ws[i]?=some y→unsetW set y.xs=none):=hide (fun i y hi hy=>by
      by_cases hik:i=k
      ·subst hik;rw [uh HX] at hy;cases hy
       have:=unsetP_none (set:=set) (l:=parts x.xs) (fun i q hq=>uh A2 i q (by
        have:=(List.getElem?_eq_some_iff.1 hq).1
        rw [←uh HNX] at this;omega) hq)
       rw [unset_parts] at this
       cases hu:unsetW set x.xs with
       | none=>rfl
       | some _=>rw [hu] at this;cases this
      ·exact uh A i y (by omega) hy)
     go_wp2_with fail
     go_roundw
     case rel=>
      first
       | exact ⟨k+1,by omega,by go_num,hb2,uh A3⟩
       | ((repeat apply Exists.intro);exact ⟨⟨k+1,by omega,by go_num,hb2,uh A3⟩,rfl⟩)
     case measure=>simp [intOf];omega
  ·have HU:Hid (unsetL set (ws.map WdM.wd)=none):=hide (unsetL_none (fun i y hy=>by
    rw [List.getElem?_map] at hy
    cases hw:ws[i]? with
    | none=>rw [hw] at hy;cases hy
    | some z=>
      rw [hw] at hy;cases hy
      exact uh A i z (by have:=(List.getElem?_eq_some_iff.1 hw).1;rw [←uh HN] at this;omega) hw))
   go_wp2_with fail
   go_end0
   refine ⟨?_,hb⟩
   unfold ChkOut
   rw [uh HU]
theorem opN_from {t:List UInt8}(h:opN t=some 0):t=wFROM:=by
 unfold opN at h
 cases hf:tbl.find? (fun p=>p.1==t) with
 | none=>rw [hf] at h;cases h
 | some p=>
   rw [hf] at h
   injection h with h
   have hm:=List.mem_of_find?_eq_some hf
   have hk:p.1=t:=by simpa using List.find?_some hf
   have:∀ p∈tbl,p.2=0→p.1=wFROM:=by decide
   rw [←hk];exact this p hm h
theorem from_is {xs:List Atm}{i:Nat}(h:opW xs=some i):(plainW xs==some wFROM)=decide (i=0):=by
 unfold opW at h
 cases hx:plainW xs with
 | none=>rw [hx] at h;cases h
 | some t=>
   rw [hx] at h
   have h':opN t=some i:=h
   by_cases hi:i=0
   ·subst hi;rw [opN_from h'];decide
   ·rw [decide_eq_false hi]
    simp only [beq_eq_false_iff_ne,ne_eq,Option.some.injEq]
    intro e
    rw [e] at h'
    have:opN wFROM=some 0:=by decide
    rw [this] at h';injection h' with h';exact hi h'.symm
theorem opW_some {xs:List Atm}{i:Nat}(h:opW xs=some i):∃ t,plainW xs=some t∧opN t=some i:=by
 unfold opW at h
 cases hx:plainW xs with
 | none=>rw [hx] at h;cases h
 | some t=>rw [hx] at h;exact ⟨t,rfl,h⟩
def fitN (op:Nat) (n:Nat) (first:Bool):Bool:=decide (¬ ((n:Int)-1<(ruleT op).1)∧¬ ((ruleT op).2.1<(n:Int)-1)∧¬ (first=true∧op≠0))
set_option maxHeartbeats 1000000 in
set_option maxRecDepth 10000 in
theorem place_gen (wv:Value) (ws:List WdM) (m0:WdM) (st a b:Int) (f g0:Value) (B:Nat) (w:World) (h:WsM w B wv ws) (h0:ws[0]?=some m0) :
  Calls Tryz.prog 76 #[.agg #[wv,.int .i64 st,.int .i64 a,.int .i64 b,f,g0]] w fun ev w'=>ev=.returned (.int .i64 (m0.place:Int))∧Below w.heap.size w w':=by
 obtain ⟨g,cap,hv,q0,q1,hg⟩:=wd_at h 0 m0 h0
 have hl:0<ws.length:=(List.getElem?_eq_some_iff.1 h0).1
 subst hv
 have n0:=World.new_ne w ⟨g,0,none⟩ q0
 obtain ⟨n,hn⟩:∃ n,n=ws.length:=⟨_,rfl⟩
 have i1:(0:Int)<(n:Int):=by omega
 rw [←hn]
 clear h h0 hl hn
 go_enter Tryz.func76,Tryz.ntmps76
 go_wp2_with fail
 go_ret
 exact ⟨rfl,(Below.refl _ _).alloc (Nat.le_refl _) _⟩
set_option maxHeartbeats 1000000 in
set_option maxRecDepth 10000 in
theorem is_gen (wv:Value) (ws:List WdM) (x:WdM) (t:ByteArray) (st a b:Int) (f g0:Value) (B:Nat) (w:World) (h:WsM w B wv ws) (h0:ws[0]?=some x) (hl:(parts x.xs).length≤1500) :
  Calls Tryz.prog 116 #[.agg #[wv,.int .i64 st,.int .i64 a,.int .i64 b,f,g0],.string t] w fun ev w'=>ev=.returned (.bool (plainW x.xs==some t.data.toList))∧Below w.heap.size w w':=by
 obtain ⟨g,cap,hv,q0,q1,hg⟩:=wd_at h 0 x h0
 have hok:=h.all x (List.mem_of_getElem? h0)
 have hl0:0<ws.length:=(List.getElem?_eq_some_iff.1 h0).1
 have hb0:Below w.heap.size w (w.alloc (.cells #[wv,.int .i64 st,.int .i64 a,.int .i64 b,f,g0] 76)):=(Below.refl _ _).alloc (Nat.le_refl _) _
 have hI:=isM_any x t B _ (row_same hok (w':=w.alloc (.cells #[wv,.int .i64 st,.int .i64 a,.int .i64 b,f,g0] 76)) fun k hk=>hb0.block k (World.ownsRow.lt hok k hk).2) hl
 obtain ⟨ao,n',cap',hxv⟩:=row_form hok
 rw [hxv] at q1
 obtain ⟨bb,hbb⟩:∃ bb,bb=(plainW x.xs==some t.data.toList):=⟨_,rfl⟩
 rw [←hbb] at hI ⊢
 obtain ⟨pl,vv,xx⟩:=x
 simp only at hxv q0 hI
 subst hxv
 subst hv
 have n0:=World.new_ne w ⟨g,0,none⟩ q0
 have i1:(0:Int)<(ws.length:Int):=by omega
 obtain ⟨n,hn⟩:∃ n,n=ws.length:=⟨_,rfl⟩
 rw [←hn] at hI hb0 i1 ⊢
 clear h h0 hok hl0 hn hbb hl
 go_enter Tryz.func116,Tryz.ntmps116
 go_wp2_with (go_at_call 152;refine hI.mono ?_;clear hI;rintro ev w1 ⟨rfl,hb1⟩)
 go_ret
 exact ⟨rfl,hb0.trans (hb1.mono hb0.size)⟩
set_option maxHeartbeats 2000000 in
set_option maxRecDepth 10000 in
theorem ruleFor_none (B fb ib:Nat) (sv wv:Value) (ss:List StM) (ws:List WdM) (x:WdM) (st a b:Int) (w:World) (h:FileM w B fb sv ss) (hi:InB w B ib wv ws st a b .nilFunc .nilFunc) (h0:ws[0]?=some x) (ho:opW x.xs=none) :
  Calls Tryz.prog 110 #[.pointer (some ⟨fb,0,none⟩),.pointer (some ⟨ib,0,none⟩)] w fun ev w'=>Wrg w' ev 5 x.place∧Below w.heap.size w w':=by
 obtain ⟨g,cap,hv,q0,q1,hg⟩:=wd_at hi.wsm 0 x h0
 have hok:=hi.wsm.all x (List.mem_of_getElem? h0)
 have hsm:=hi.small x (List.mem_of_getElem? h0)
 have hl0:0<ws.length:=(List.getElem?_eq_some_iff.1 h0).1
 have hsh:=hi.short
 have hci:=hi.cells
 obtain ⟨ao,n',cap',hxv⟩:=row_form hok
 obtain ⟨n,hn⟩:∃ n,n=ws.length:=⟨_,rfl⟩
 rw [hxv] at q1
 rw [hv,←hn] at hci
 obtain ⟨W0,hW0⟩:∃ W0,W0=w.alloc (.cells #[.int .i64 0,.int .i64 0,.nilFunc,.nilFunc] 74):=⟨_,rfl⟩
 have hb0:Below w.heap.size w W0:=by rw [hW0];exact (Below.refl _ _).alloc (Nat.le_refl _) _
 have hr0:W0.heap[w.heap.size]?=some (.cells #[.int .i64 0,.int .i64 0,.nilFunc,.nilFunc] 74 (0,0)):=by rw [hW0];exact heap_alloc_new _ _
 have hz0:w.heap.size<W0.heap.size:=by rw [hW0];simp
 have q0':=cell_later hb0 q0
 have q1':=cell_later hb0 q1
 have c0:W0.cell? ⟨ib,0,none⟩=some (.slice (some ⟨g,0,none⟩) n cap):=cell_later hb0 (cq 0 hci)
 have i1:(0:Int)<(n:Int):=by omega
 have e1:IntKind.i64.wrap ((n:Int)-1)=(n:Int)-1:=by simp [IntKind.wrap,IntKind.bits,IntKind.signed];omega
 have HI:=hide hi
 have HF:=hide h
 have HN:=hide hn
 have HV:=hide hv
 have HR0:=hide hr0
 have HB0:=hide hb0
 have HC:=hide (fun w1 (hb1:Below w.heap.size w w1)=>(hb1.block ib hi.lt).trans hci)
 have hRu:=ruleOf_none x B W0 (row_same hok fun j hj=>hb0.block j (World.ownsRow.lt hok j hj).2) hsm.1 hsm.2 ho
 unfold WdM.val at hRu
 rw [hxv] at hRu
 have hPl:=fun w1 (hb1:Below w.heap.size w w1)=>place_gen wv ws x st a b .nilFunc .nilFunc B w1 (hi.wsm.below hb1) h0
 rw [hv,←hn] at hPl
 have hFl:=fun w'=>fail_wrg 5 x.place w'
 clear hi h hok h0 hsm hn hci hr0 hb0 hxv q0 q1 hl0 hv ho
 go_enter Tryz.func110,Tryz.ntmps110
 go_upto_region 1 with fail
 rw [←hW0]
 clear hW0
 go_upto_region 2 with (go_at_call 148;refine hRu.mono ?_;clear hRu;rintro ev w1 ⟨rfl,hb1⟩)
 obtain ⟨W2,hW2⟩:∃ W2,W2=w1.alloc (.cells #[.int .i64 0,.int .i64 0,.nilFunc,.nilFunc] 74):=⟨_,rfl⟩
 have hb01:Below w.heap.size w w1:=(uh HB0).trans (hb1.mono (uh HB0).size)
 have hb2:Below w.heap.size w W2:=by rw [hW2];exact hb01.alloc hb01.size _
 have hl2:W2.heap[w1.heap.size]?=some (.cells #[.int .i64 0,.int .i64 0,.nilFunc,.nilFunc] 74 (0,0)):=by rw [hW2];exact heap_alloc_new _ _
 have hc2:=uh HC W2 hb2
 have d0:W2.cell? ⟨ib,0,none⟩=some (.slice (some ⟨g,0,none⟩) n cap):=cq 0 hc2
 have d1:W2.cell? ⟨ib,1,none⟩=some (.int .i64 st):=cq 1 hc2
 have d2:W2.cell? ⟨ib,2,none⟩=some (.int .i64 a):=cq 2 hc2
 have d3:W2.cell? ⟨ib,3,none⟩=some (.int .i64 b):=cq 3 hc2
 have d4:W2.cell? ⟨ib,4,none⟩=some .nilFunc:=cq 4 hc2
 have d5:W2.cell? ⟨ib,5,none⟩=some .nilFunc:=cq 5 hc2
 have HB2:=hide hb2
 rw [←hW2]
 clear hW2 hl2 hc2 hb2 q0' q1' c0
 go_wp2_with (first
  | (go_at_call 76;refine (hPl _ (uh HB2)).mono ?_;clear hPl;rintro ev w3 ⟨rfl,hb3⟩)
  | (go_at_call 69;refine (hFl _).mono ?_;clear hFl;rintro ev w8 ⟨bb,rfl,hc,hb8⟩))
 exact ⟨rfl,⟨bb,rfl,hc⟩,((uh HB2).trans (hb3.mono (uh HB2).size)).trans (hb8.mono (Nat.le_trans (uh HB2).size hb3.size))⟩
set_option maxHeartbeats 4000000 in
set_option maxRecDepth 10000 in
theorem ruleFor_some (B fb ib:Nat) (sv wv:Value) (ss:List StM) (ws:List WdM) (x:WdM) (st a b:Int) (op:Nat) (w:World) (h:FileM w B fb sv ss) (hi:InB w B ib wv ws st a b .nilFunc .nilFunc) (h0:ws[0]?=some x) (ho:opW x.xs=some op) :
  Calls Tryz.prog 110 #[.pointer (some ⟨fb,0,none⟩),.pointer (some ⟨ib,0,none⟩)] w fun ev w'=>(fitN op ws.length ss.isEmpty=false∧Wrg w' ev 5 x.place∨fitN op ws.length ss.isEmpty=true∧ev=.returned (ruleV op))∧Below w.heap.size w w':=by
 obtain ⟨g,cap,hv,q0,q1,hg⟩:=wd_at hi.wsm 0 x h0
 have hok:=hi.wsm.all x (List.mem_of_getElem? h0)
 have hsm:=hi.small x (List.mem_of_getElem? h0)
 have hl0:0<ws.length:=(List.getElem?_eq_some_iff.1 h0).1
 have hsh:=hi.short
 have hci:=hi.cells
 obtain ⟨ao,n',cap',hxv⟩:=row_form hok
 obtain ⟨n,hn⟩:∃ n,n=ws.length:=⟨_,rfl⟩
 rw [hxv] at q1
 rw [hv,←hn] at hci
 obtain ⟨W0,hW0⟩:∃ W0,W0=w.alloc (.cells #[.int .i64 0,.int .i64 0,.nilFunc,.nilFunc] 74):=⟨_,rfl⟩
 have hb0:Below w.heap.size w W0:=by rw [hW0];exact (Below.refl _ _).alloc (Nat.le_refl _) _
 have hr0:W0.heap[w.heap.size]?=some (.cells #[.int .i64 0,.int .i64 0,.nilFunc,.nilFunc] 74 (0,0)):=by rw [hW0];exact heap_alloc_new _ _
 have hz0:w.heap.size<W0.heap.size:=by rw [hW0];simp
 have q0':=cell_later hb0 q0
 have q1':=cell_later hb0 q1
 have c0:W0.cell? ⟨ib,0,none⟩=some (.slice (some ⟨g,0,none⟩) n cap):=cell_later hb0 (cq 0 hci)
 have i1:(0:Int)<(n:Int):=by omega
 have e1:IntKind.i64.wrap ((n:Int)-1)=(n:Int)-1:=by simp [IntKind.wrap,IntKind.bits,IntKind.signed];omega
 have HI:=hide hi
 have HF:=hide h
 have HN:=hide hn
 have HV:=hide hv
 have HR0:=hide hr0
 have HB0:=hide hb0
 have HC:=hide (fun w1 (hb1:Below w.heap.size w w1)=>(hb1.block ib hi.lt).trans hci)
 obtain ⟨t,hxt,hot⟩:=opW_some ho
 have hRu:=ruleOf_some x B W0 (row_same hok fun j hj=>hb0.block j (World.ownsRow.lt hok j hj).2) hsm.1 hsm.2 t op hxt hot
 unfold WdM.val at hRu
 rw [hxv] at hRu
 have hPl:=fun w1 (hb1:Below w.heap.size w w1)=>place_gen wv ws x st a b .nilFunc .nilFunc B w1 (hi.wsm.below hb1) h0
 rw [hv,←hn] at hPl
 have hFl:=fun w'=>fail_wrg 5 x.place w'
 have hIs:=fun w1 (hb1:Below w.heap.size w w1)=>is_gen wv ws x ⟨#[70,82,79,77]⟩ st a b .nilFunc .nilFunc B w1 (hi.wsm.below hb1) h0 hsm.1
 rw [show (⟨#[70,82,79,77]⟩:ByteArray).data.toList=wFROM from rfl,from_is ho,hv,←hn] at hIs
 obtain ⟨ra,rbb,rf,rg,hrv⟩:∃ ra rbb rf rg,ra=(ruleT op).1∧rbb=(ruleT op).2.1∧rf=(ruleT op).2.2.1∧rg=(ruleT op).2.2.2:=⟨_,_,_,_,rfl,rfl,rfl,rfl⟩
 have hrl:ruleV op=.agg #[.int .i64 ra,.int .i64 rbb,fnV rf,fnV rg]:=by rw [hrv.1,hrv.2.1,hrv.2.2.1,hrv.2.2.2];rfl
 rw [hrl] at hRu
 have HFit:Hid (fitN op ws.length ss.isEmpty=decide (¬ ((n:Int)-1<ra)∧¬ (rbb<(n:Int)-1)∧¬ (ss.isEmpty=true∧op≠0))):=hide (by unfold fitN;rw [hrv.1,hrv.2.1,hn])
 obtain ⟨ao2,cap2,hsv⟩:∃ ao cap,sv=.slice ao ss.length cap:=by
  rcases h.row.2 with ⟨e,h0⟩ | ⟨g,cap,cur,e,_⟩
  ·exact ⟨none,0,by rw [e,h0]⟩
  ·exact ⟨_,_,e⟩
 have HSV:Hid (∀ w1,Below w.heap.size w w1→w1.cell? ⟨fb,0,none⟩=some (.slice ao2 ss.length cap2)):=hide (fun w1 hb1=>by rw [←hsv];exact (h.below hb1).c0)
 have hse:ss.isEmpty=decide (ss.length=0):=by cases ss <;> rfl
 have HRL:=hide hrl
 obtain ⟨N,hN⟩:∃ N,N=ss.length:=⟨_,rfl⟩
 rw [hse,←hN] at HFit ⊢
 rw [←hN] at HSV
 have hN5:N≤5:=by rw [hN];exact h.short
 obtain ⟨F,hF⟩:∃ F,F=fitN op ws.length (decide (N=0)):=⟨_,rfl⟩
 rw [←hF] at HFit ⊢
 rw [hrl]
 clear hi h hok h0 hsm hn hci hr0 hb0 hxv q0 q1 hl0 hv ho hxt hot hrv hrl hsv hse hN hF
 have fwd:∀ w3 w8 ev bb,F=false→Below w.heap.size w w3→Below w3.heap.size w3 w8→ev=.panicked [{ v:=.iface 203 (.pointer (some ⟨bb,0,none⟩)),recovered:=false }]→w8.heap[bb]?=some (.cells #[.int .i64 (5:Nat),.int .i64 (x.place:Int)] 206 (0,0))→(F=false∧Wrg w8 ev 5 x.place∨F=true∧ev=.returned (.agg #[.int .i64 ra,.int .i64 rbb,fnV rf,fnV rg]))∧Below w.heap.size w w8:=by
  intro w3 w8 ev bb hF hb3 hb8 he hc
  exact ⟨.inl ⟨hF,⟨bb,he,hc⟩⟩,hb3.trans (hb8.mono hb3.size)⟩
 have FWD:=hide fwd
 clear fwd
 go_enter Tryz.func110,Tryz.ntmps110
 go_upto_region 1 with fail
 rw [←hW0]
 clear hW0
 go_upto_region 2 with (go_at_call 148;refine hRu.mono ?_;clear hRu;rintro ev w1 ⟨rfl,hb1⟩)
 obtain ⟨W2,hW2⟩:∃ W2,W2=w1.alloc (.cells #[.int .i64 ra,.int .i64 rbb,fnV rf,fnV rg] 74):=⟨_,rfl⟩
 have hb01:Below w.heap.size w w1:=(uh HB0).trans (hb1.mono (uh HB0).size)
 have hb2:Below w.heap.size w W2:=by rw [hW2];exact hb01.alloc hb01.size _
 have hl2:W2.heap[w1.heap.size]?=some (.cells #[.int .i64 ra,.int .i64 rbb,fnV rf,fnV rg] 74 (0,0)):=by rw [hW2];exact heap_alloc_new _ _
 have hc2:=uh HC W2 hb2
 have d0:W2.cell? ⟨ib,0,none⟩=some (.slice (some ⟨g,0,none⟩) n cap):=cq 0 hc2
 have d1:W2.cell? ⟨ib,1,none⟩=some (.int .i64 st):=cq 1 hc2
 have d2:W2.cell? ⟨ib,2,none⟩=some (.int .i64 a):=cq 2 hc2
 have d3:W2.cell? ⟨ib,3,none⟩=some (.int .i64 b):=cq 3 hc2
 have d4:W2.cell? ⟨ib,4,none⟩=some .nilFunc:=cq 4 hc2
 have d5:W2.cell? ⟨ib,5,none⟩=some .nilFunc:=cq 5 hc2
 have HB2:=hide hb2
 have s0:=uh HSV W2 hb2
 have l0:W2.cell? ⟨w1.heap.size,0,none⟩=some (.int .i64 ra):=cq 0 hl2
 have l1:W2.cell? ⟨w1.heap.size,1,none⟩=some (.int .i64 rbb):=cq 1 hl2
 have HL2:=hide hl2
 have HWL:Hid (w.heap.size<w1.heap.size∧w1.heap.size<W2.heap.size):=hide ⟨by have:=hb1.size;omega,(Array.getElem?_eq_some_iff.1 hl2).1⟩
 have HR2:Hid (W2.heap[w.heap.size]?=some (.cells #[.int .i64 0,.int .i64 0,.nilFunc,.nilFunc] 74 (0,0))):=hide (by
  rw [hW2,Below.heap_alloc _ _ _ (by have:=hb1.size;omega)];exact (hb1.block _ hz0).trans (uh HR0))
 rw [←hW2]
 clear hW2 hl2 hc2 hb2 q0' q1' c0
 by_cases g1:(n:Int)-1<ra
 ·have HFF:Hid (F=false):=hide (by rw [uh HFit];exact decide_eq_false (fun h=>by have:=h.1;omega))
  go_wp2_with (first
   | (go_at_call 76;refine (hPl _ (uh HB2)).mono ?_;clear hPl;rintro ev w3 ⟨rfl,hb3⟩)
   | (go_at_call 69;refine (hFl _).mono ?_;clear hFl;rintro ev w8 ⟨bb,rfl,hc,hb8⟩))
  exact ⟨rfl,uh FWD w3 w8 _ bb (uh HFF) ((uh HB2).trans (hb3.mono (uh HB2).size)) hb8 rfl hc⟩
 by_cases g2:rbb<(n:Int)-1
 ·have HFF:Hid (F=false):=hide (by rw [uh HFit];exact decide_eq_false (fun h=>by have:=h.2.1;omega))
  go_wp2_with (first
   | (go_at_call 76;refine (hPl _ (uh HB2)).mono ?_;clear hPl;rintro ev w3 ⟨rfl,hb3⟩)
   | (go_at_call 69;refine (hFl _).mono ?_;clear hFl;rintro ev w8 ⟨bb,rfl,hc,hb8⟩))
  exact ⟨rfl,uh FWD w3 w8 _ bb (uh HFF) ((uh HB2).trans (hb3.mono (uh HB2).size)) hb8 rfl hc⟩
 by_cases g3:N=0
 ·have g4:((N:Int)==0)=true:=by simp [g3]
  by_cases g5:op=0
  ·have HFF:Hid (F=true):=hide (by rw [uh HFit];exact decide_eq_true ⟨by omega,by omega,fun h=>h.2 g5⟩)
   rw [decide_eq_true g5] at hIs
   clear g3 g5
   go_upto_region 5 with (go_at_call 116;refine (hIs _ (uh HB2)).mono ?_;clear hIs;rintro ev w3 ⟨rfl,hb3⟩)
   have hr1:w3.heap[w.heap.size]?=some (.cells #[.int .i64 0,.int .i64 0,.nilFunc,.nilFunc] 74 (0,0)):=(hb3.block _ (by have:=(uh HWL);omega)).trans (uh HR2)
   have r0:w3.cell? ⟨w.heap.size,0,none⟩=some (.int .i64 0):=cq 0 hr1
   have r1:w3.cell? ⟨w.heap.size,1,none⟩=some (.int .i64 0):=cq 1 hr1
   have r2:w3.cell? ⟨w.heap.size,2,none⟩=some .nilFunc:=cq 2 hr1
   have r3:w3.cell? ⟨w.heap.size,3,none⟩=some .nilFunc:=cq 3 hr1
   have fz:∀ i,w3.frozen? ⟨w.heap.size,i,none⟩=false:=fun i=>by simp [World.frozen?,hr1]
   have f0:=fz 0
   have f1:=fz 1
   have f2:=fz 2
   have f3:=fz 3
   have p0:w3.cell? ⟨w1.heap.size,0,none⟩=some (.int .i64 ra):=cq 0 ((hb3.block _ (uh HWL).2).trans (uh HL2))
   have p1:w3.cell? ⟨w1.heap.size,1,none⟩=some (.int .i64 rbb):=cq 1 ((hb3.block _ (uh HWL).2).trans (uh HL2))
   have p2:w3.cell? ⟨w1.heap.size,2,none⟩=some (fnV rf):=cq 2 ((hb3.block _ (uh HWL).2).trans (uh HL2))
   have p3:w3.cell? ⟨w1.heap.size,3,none⟩=some (fnV rg):=cq 3 ((hb3.block _ (uh HWL).2).trans (uh HL2))
   have hne:w.heap.size≠w1.heap.size:=by have:=(uh HWL).1;omega
   have HR1:=hide hr1
   clear hr1 fz
   go_wp2_with fail
   obtain ⟨W9,hW9⟩:∃ W9,W9=(((w3.setCell ⟨w.heap.size,0,none⟩ (.int .i64 ra)).setCell ⟨w.heap.size,1,none⟩ (.int .i64 rbb)).setCell ⟨w.heap.size,2,none⟩ (fnV rf)).setCell ⟨w.heap.size,3,none⟩ (fnV rg):=⟨_,rfl⟩
   rw [←hW9]
   have hr9:W9.heap[w.heap.size]?=some (.cells #[.int .i64 ra,.int .i64 rbb,fnV rf,fnV rg] 74 (0,0)):=by rw [hW9];exact set4b _ _ _ _ (uh HR1)
   have e0:W9.cell? ⟨w.heap.size,0,none⟩=some (.int .i64 ra):=cq 0 hr9
   have e1:W9.cell? ⟨w.heap.size,1,none⟩=some (.int .i64 rbb):=cq 1 hr9
   have e2:W9.cell? ⟨w.heap.size,2,none⟩=some (fnV rf):=cq 2 hr9
   have e3:W9.cell? ⟨w.heap.size,3,none⟩=some (fnV rg):=cq 3 hr9
   refine bodyPost_ret (v:=.agg #[.int .i64 ra,.int .i64 rbb,fnV rf,fnV rg]) (by simp [results,Tryz.results110,go_sem,e0,e1,e2,e3]) rfl ⟨.inr ⟨uh HFF,rfl⟩,?_⟩
   rw [hW9]
   exact below_set4 _ _ _ _ ((uh HB2).trans (hb3.mono (uh HB2).size)) (Nat.le_refl _)
  ·have HFF:Hid (F=false):=hide (by rw [uh HFit];exact decide_eq_false (fun h=>h.2.2 ⟨by rw [g3];rfl,g5⟩))
   rw [decide_eq_false g5] at hIs
   clear g3 g5
   go_upto_region 4 with (go_at_call 116;refine (hIs _ (uh HB2)).mono ?_;clear hIs;rintro ev w3 ⟨rfl,hb3⟩)
   have hbw3:=(uh HB2).trans (hb3.mono (uh HB2).size)
   have hc3:=uh HC w3 hbw3
   have t0:w3.cell? ⟨ib,0,none⟩=some (.slice (some ⟨g,0,none⟩) n cap):=cq 0 hc3
   have t1:w3.cell? ⟨ib,1,none⟩=some (.int .i64 st):=cq 1 hc3
   have t2:w3.cell? ⟨ib,2,none⟩=some (.int .i64 a):=cq 2 hc3
   have t3:w3.cell? ⟨ib,3,none⟩=some (.int .i64 b):=cq 3 hc3
   have t4:w3.cell? ⟨ib,4,none⟩=some .nilFunc:=cq 4 hc3
   have t5:w3.cell? ⟨ib,5,none⟩=some .nilFunc:=cq 5 hc3
   have HB3:=hide hbw3
   clear hc3 hbw3
   go_wp2_with (first
    | (go_at_call 76;refine (hPl _ (uh HB3)).mono ?_;clear hPl;rintro ev w4 ⟨rfl,hb4⟩)
    | (go_at_call 69;refine (hFl _).mono ?_;clear hFl;rintro ev w8 ⟨bb,rfl,hc,hb8⟩))
   exact ⟨rfl,uh FWD w4 w8 _ bb (uh HFF) ((uh HB3).trans (hb4.mono (uh HB3).size)) hb8 rfl hc⟩
 ·have g4:((N:Int)==0)=false:=by simp;omega
  have HFF:Hid (F=true):=hide (by rw [uh HFit];exact decide_eq_true ⟨by omega,by omega,fun h=>g3 (of_decide_eq_true h.1)⟩)
  clear g3
  go_upto_region 5 with fail
  have hr1:W2.heap[w.heap.size]?=some (.cells #[.int .i64 0,.int .i64 0,.nilFunc,.nilFunc] 74 (0,0)):=uh HR2
  have r0:W2.cell? ⟨w.heap.size,0,none⟩=some (.int .i64 0):=cq 0 hr1
  have r1:W2.cell? ⟨w.heap.size,1,none⟩=some (.int .i64 0):=cq 1 hr1
  have r2:W2.cell? ⟨w.heap.size,2,none⟩=some .nilFunc:=cq 2 hr1
  have r3:W2.cell? ⟨w.heap.size,3,none⟩=some .nilFunc:=cq 3 hr1
  have fz:∀ i,W2.frozen? ⟨w.heap.size,i,none⟩=false:=fun i=>by simp [World.frozen?,hr1]
  have f0:=fz 0
  have f1:=fz 1
  have f2:=fz 2
  have f3:=fz 3
  have p0:W2.cell? ⟨w1.heap.size,0,none⟩=some (.int .i64 ra):=cq 0 (uh HL2)
  have p1:W2.cell? ⟨w1.heap.size,1,none⟩=some (.int .i64 rbb):=cq 1 (uh HL2)
  have p2:W2.cell? ⟨w1.heap.size,2,none⟩=some (fnV rf):=cq 2 (uh HL2)
  have p3:W2.cell? ⟨w1.heap.size,3,none⟩=some (fnV rg):=cq 3 (uh HL2)
  have hne:w.heap.size≠w1.heap.size:=by have:=(uh HWL).1;omega
  have HR1:=hide hr1
  clear hr1 fz
  go_wp2_with fail
  obtain ⟨W9,hW9⟩:∃ W9,W9=(((W2.setCell ⟨w.heap.size,0,none⟩ (.int .i64 ra)).setCell ⟨w.heap.size,1,none⟩ (.int .i64 rbb)).setCell ⟨w.heap.size,2,none⟩ (fnV rf)).setCell ⟨w.heap.size,3,none⟩ (fnV rg):=⟨_,rfl⟩
  rw [←hW9]
  have hr9:W9.heap[w.heap.size]?=some (.cells #[.int .i64 ra,.int .i64 rbb,fnV rf,fnV rg] 74 (0,0)):=by rw [hW9];exact set4b _ _ _ _ (uh HR1)
  have e0:W9.cell? ⟨w.heap.size,0,none⟩=some (.int .i64 ra):=cq 0 hr9
  have e1:W9.cell? ⟨w.heap.size,1,none⟩=some (.int .i64 rbb):=cq 1 hr9
  have e2:W9.cell? ⟨w.heap.size,2,none⟩=some (fnV rf):=cq 2 hr9
  have e3:W9.cell? ⟨w.heap.size,3,none⟩=some (fnV rg):=cq 3 hr9
  refine bodyPost_ret (v:=.agg #[.int .i64 ra,.int .i64 rbb,fnV rf,fnV rg]) (by simp [results,Tryz.results110,go_sem,e0,e1,e2,e3]) rfl ⟨.inr ⟨uh HFF,rfl⟩,?_⟩
  rw [hW9]
  exact below_set4 _ _ _ _ (uh HB2) (Nat.le_refl _)
structure WdF (w:World) (B g:Nat) (ws:List WdM) (i:Nat) (x:WdM) (ao:Option Addr) (n' cap':Nat):Prop where
 get:ws[i]?=some x
 c0:w.cell? ⟨g,i*2,none⟩=some (.int .i64 (x.place:Int))
 c1:w.cell? ⟨g,i*2+1,none⟩=some (.slice ao n' cap')
 v:x.v=.slice ao n' cap'
 ok:x.Ok w B
 small:(parts x.xs).length≤1500
 text:∀ t,plainW x.xs=some t→t.length≤1500
theorem wdF {w:World}{B g cap:Nat}{ws:List WdM}(h:WsM w B (.slice (some ⟨g,0,none⟩) ws.length cap) ws) (hs:∀ x∈ws,(parts x.xs).length≤1500∧∀ t,plainW x.xs=some t→t.length≤1500) (i:Nat) (hi:i<ws.length):∃ x ao n' cap',WdF w B g ws i x ao n' cap':=by
 obtain ⟨x,hx⟩:∃ x,ws[i]?=some x:=⟨_,List.getElem?_eq_getElem hi⟩
 obtain ⟨g',cap',hv,q0,q1,_⟩:=wd_at h i x hx
 injection hv with e1 e2 e3
 injection e1 with e1
 injection e1 with e1
 subst e1
 have hok:=h.all x (List.mem_of_getElem? hx)
 obtain ⟨ao,n',cap2,hxv⟩:=row_form hok
 rw [hxv] at q1
 exact ⟨x,ao,n',cap2,hx,q0,q1,hxv,hok,(hs x (List.mem_of_getElem? hx)).1,(hs x (List.mem_of_getElem? hx)).2⟩
theorem WdF.later {w w':World}{B g:Nat}{ws:List WdM}{i:Nat}{x:WdM}{ao:Option Addr}{n' cap':Nat}(h:WdF w B g ws i x ao n' cap') (hb:Below w.heap.size w w'):WdF w' B g ws i x ao n' cap':=
 ⟨h.get,cell_later hb h.c0,cell_later hb h.c1,h.v,row_same h.ok fun j hj=>hb.block j (World.ownsRow.lt h.ok j hj).2,h.small,h.text⟩
theorem WdF.pln {w:World}{B g:Nat}{ws:List WdM}{i:Nat}{x:WdM}{ao:Option Addr}{n' cap':Nat}(h:WdF w B g ws i x ao n' cap'):pln (ws.map WdM.wd) i=plainW x.xs:=by rw [pln_wd,h.get]
theorem WdF.plc {w:World}{B g:Nat}{ws:List WdM}{i:Nat}{x:WdM}{ao:Option Addr}{n' cap':Nat}(h:WdF w B g ws i x ao n' cap'):plc (ws.map WdM.wd) i=x.place:=plc_wd h.get
theorem WdF.nm {w:World}{B g:Nat}{ws:List WdM}{i:Nat}{x:WdM}{ao:Option Addr}{n' cap':Nat}(h:WdF w B g ws i x ao n' cap'):nmW (ws.map WdM.wd) i=nameW x.xs:=by
 unfold nmW;rw [List.getElem?_map,h.get];rfl
theorem WdF.isM {w:World}{B g:Nat}{ws:List WdM}{i:Nat}{x:WdM}{ao:Option Addr}{n' cap':Nat}(h:WdF w B g ws i x ao n' cap') (t:ByteArray) :
  Calls Tryz.prog 152 #[.agg #[.int .i64 (x.place:Int),.slice ao n' cap'],.string t] w fun ev w'=>ev=.returned (.bool (plainW x.xs==some t.data.toList))∧Below w.heap.size w w':=by
 have:=isM_any x t B w h.ok h.small
 unfold WdM.val at this;rw [h.v] at this;exact this
theorem WdF.plain {w:World}{B g:Nat}{ws:List WdM}{i:Nat}{x:WdM}{ao:Option Addr}{n' cap':Nat}(h:WdF w B g ws i x ao n' cap') :
  Calls Tryz.prog 187 #[.agg #[.int .i64 (x.place:Int),.slice ao n' cap']] w fun ev w'=>∃ t:ByteArray,ev=.returned (.tuple #[.string t,.bool (plainW x.xs).isSome])∧Hid (t.data.toList=(plainW x.xs).getD [])∧Below w.heap.size w w':=by
 have:=plainM_any x B w h.ok h.small
 unfold WdM.val at this;rw [h.v] at this;exact this
theorem WdF.name {w:World}{B g:Nat}{ws:List WdM}{i:Nat}{x:WdM}{ao:Option Addr}{n' cap':Nat}(h:WdF w B g ws i x ao n' cap') :
  Calls Tryz.prog 278 #[.agg #[.int .i64 (x.place:Int),.slice ao n' cap']] w fun ev w'=>(nameW x.xs=none∧Wrg w' ev 5 x.place∨∃ u:ByteArray,nameW x.xs=some u.data.toList∧ev=.returned (.string u))∧Below w.heap.size w w':=by
 have:=stageName_any x B w h.ok h.small h.text
 unfold WdM.val at this;rw [h.v] at this;exact this
theorem WdF.name_none {w:World}{B g:Nat}{ws:List WdM}{i:Nat}{x:WdM}{ao:Option Addr}{n' cap':Nat}(h:WdF w B g ws i x ao n' cap') (hn:nameW x.xs=none) :
  Calls Tryz.prog 278 #[.agg #[.int .i64 (x.place:Int),.slice ao n' cap']] w fun ev w'=>∃ b:Nat,ev=.panicked [{ v:=.iface 203 (.pointer (some ⟨b,0,none⟩)),recovered:=false }]∧w'.heap[b]?=some (.cells #[.int .i64 ((5:Nat):Int),.int .i64 (x.place:Int)] 206 (0,0))∧Below w.heap.size w w':=by
 refine h.name.mono ?_
 rintro ev w' ⟨⟨_,b,he,hc⟩ | ⟨u,hu,_⟩,hb⟩
 ·exact ⟨b,he,hc,hb⟩
 ·rw [hn] at hu;cases hu
theorem WdF.name_some {w:World}{B g:Nat}{ws:List WdM}{i:Nat}{x:WdM}{ao:Option Addr}{n' cap':Nat}(h:WdF w B g ws i x ao n' cap') {t:List UInt8}(hn:nameW x.xs=some t) :
  Calls Tryz.prog 278 #[.agg #[.int .i64 (x.place:Int),.slice ao n' cap']] w fun ev w'=>∃ u:ByteArray,ev=.returned (.string u)∧Hid (u.data.toList=t)∧Below w.heap.size w w':=by
 refine h.name.mono ?_
 rintro ev w' ⟨⟨h0,_⟩ | ⟨u,hu,he⟩,hb⟩
 ·rw [hn] at h0;cases h0
 ·rw [hn] at hu;injection hu with hu;exact ⟨u,he,hide hu.symm,hb⟩
def NamesOut (w:World) (ev:Ending) (ws:List Wd):Prop:=match namesG ws with
 | .error (e,p)=>Wrg w ev e p
 | .ok (b,n)=>∃ ub un:ByteArray,ev=.returned (.tuple #[.string ub,.string un])∧ub.data.toList=b∧un.data.toList=n
set_option maxHeartbeats 2000000 in
set_option maxRecDepth 10000 in
theorem names_any (B:Nat) (wv:Value) (ws:List WdM) (w:World) (h:WsM w B wv ws) (hs:∀ x∈ws,(parts x.xs).length≤1500∧∀ t,plainW x.xs=some t→t.length≤1500) (h2:2≤ws.length) (h4:ws.length≤4) :
  Calls Tryz.prog 249 #[wv] w fun ev w'=>NamesOut w' ev (ws.map WdM.wd)∧Below w.heap.size w w':=by
 obtain ⟨g,cap,rfl,_,_⟩:=World.ownsRow.form h.row (by omega)
 have hlen:(ws.map WdM.wd).length=ws.length:=List.length_map _
 obtain ⟨x1,ao1,n1,cap1,X1⟩:=wdF h hs 1 (by omega)
 by_cases e2:ws.length=2
 ·have HG:Hid (namesG (ws.map WdM.wd)=match nameW x1.xs with | none=>.error (5,x1.place) | some b=>.ok (b,[])):=hide (by
   unfold namesG
   rw [hlen,if_neg (by omega),if_neg (by omega),if_neg (by omega),X1.nm,X1.plc]
   rfl)
  have HX1:=hide X1
  have c0:=X1.c0
  have c1:=X1.c1
  rw [e2]
  clear h hs h2 h4 e2 hlen X1
  cases hn:nameW x1.xs with
  | none=>
    have hN:=(uh HX1).name_none hn
    have HG2:Hid (namesG (ws.map WdM.wd)=.error (5,x1.place)):=hide (by rw [uh HG,hn])
    clear HG hn
    go_enter Tryz.func249,Tryz.ntmps249
    go_wp2_with (go_at_call 278;refine hN.mono ?_;clear hN;rintro ev w8 ⟨bb,rfl,hc,hb8⟩)
    refine ⟨rfl,?_,hb8⟩
    unfold NamesOut
    rw [uh HG2]
    exact ⟨bb,rfl,hc⟩
  | some t=>
    have hN:=(uh HX1).name_some hn
    have HG2:Hid (namesG (ws.map WdM.wd)=.ok (t,[])):=hide (by rw [uh HG,hn])
    clear HG hn
    go_enter Tryz.func249,Tryz.ntmps249
    go_wp2_with (go_at_call 278;refine hN.mono ?_;clear hN;rintro ev w8 ⟨u,rfl,HU,hb8⟩)
    go_ret2
    refine ⟨?_,hb8⟩
    unfold NamesOut
    rw [uh HG2]
    exact ⟨u,⟨#[]⟩,rfl,uh HU,rfl⟩
 obtain ⟨x2,ao2,n2,cap2,X2⟩:=wdF h hs 2 (by omega)
 have hI:=X2.isM ⟨#[65,83]⟩
 rw [show (⟨#[65,83]⟩:ByteArray).data.toList=wAS from rfl] at hI
 have hF2:=fun w'=>fail_wrg 5 x2.place w'
 have HX1:=hide X1
 have HX2:=hide X2
 have d0:=X2.c0
 have d1:=X2.c1
 cases hb:(plainW x2.xs==some wAS) with
 | false=>
   have HG2:Hid (namesG (ws.map WdM.wd)=.error (5,x2.place)):=hide (by
    unfold namesG
    rw [hlen,if_pos ⟨by omega,by rw [X2.pln];simpa using hb⟩,X2.plc])
   rw [hb] at hI
   obtain ⟨n,hn⟩:∃ n,n=ws.length:=⟨_,rfl⟩
   have g1:(2:Int)<(n:Int):=by omega
   have HD:Hid (∀ w',Below w.heap.size w w'→w'.cell? ⟨g,2*2,none⟩=some (.int .i64 (x2.place:Int))):=hide (fun w' hb'=>cell_later hb' d0)
   rw [←hn]
   clear h hs h2 h4 e2 hlen X1 X2 hn hb
   go_enter Tryz.func249,Tryz.ntmps249
   go_wp2_with (first
    | (go_at_call 152;refine hI.mono ?_;clear hI;rintro ev w2 ⟨rfl,hb2⟩;have d2:=uh HD w2 hb2)
    | (go_at_call 69;refine (hF2 _).mono ?_;clear hF2;rintro ev w8 ⟨bb,rfl,hc,hb8⟩))
   refine ⟨rfl,?_,hb2.trans (hb8.mono hb2.size)⟩
   unfold NamesOut
   rw [uh HG2]
   exact ⟨bb,rfl,hc⟩
 | true=>
   have hbp:pln (ws.map WdM.wd) 2=some wAS:=by rw [X2.pln];simpa using hb
   rw [hb] at hI
   by_cases e3:ws.length=3
   ·obtain ⟨x0,ao0,n0,cap0,X0⟩:=wdF h hs 0 (by omega)
    have HG2:Hid (namesG (ws.map WdM.wd)=.error (5,x0.place)):=hide (by
     unfold namesG
     rw [hlen,if_neg (fun hh=>hh.2 hbp),if_pos e3,X0.plc])
    have hF0:=fun w'=>fail_wrg 5 x0.place w'
    have HD:Hid (∀ w',Below w.heap.size w w'→w'.cell? ⟨g,0*2,none⟩=some (.int .i64 (x0.place:Int))):=hide (fun w' hb'=>cell_later hb' X0.c0)
    rw [e3]
    clear h hs h2 h4 e2 e3 hlen X1 X2 X0 hb hbp
    go_enter Tryz.func249,Tryz.ntmps249
    go_wp2_with (first
     | (go_at_call 152;refine hI.mono ?_;clear hI;rintro ev w2 ⟨rfl,hb2⟩;have d2:=uh HD w2 hb2)
     | (go_at_call 69;refine (hF0 _).mono ?_;clear hF0;rintro ev w8 ⟨bb,rfl,hc,hb8⟩))
    refine ⟨rfl,?_,hb2.trans (hb8.mono hb2.size)⟩
    unfold NamesOut
    rw [uh HG2]
    exact ⟨bb,rfl,hc⟩
   ·have e4:ws.length=4:=by omega
    obtain ⟨x3,ao3,n3,cap3,X3⟩:=wdF h hs 3 (by omega)
    have HG:Hid (namesG (ws.map WdM.wd)=match nameW x3.xs with
      | none=>.error (5,x3.place)
      | some n=>match nameW x1.xs with
        | none=>.error (5,x1.place)
        | some b=>.ok (b,n)):=hide (by
     unfold namesG
     rw [hlen,if_neg (fun hh=>hh.2 hbp),if_neg e3,if_pos e4,X3.nm,X3.plc,X1.nm,X1.plc]
     rfl)
    have HX3:=hide X3
    have HD:Hid (∀ w',Below w.heap.size w w'→WdF w' B g ws 3 x3 ao3 n3 cap3∧WdF w' B g ws 1 x1 ao1 n1 cap1):=hide (fun w' hb'=>⟨X3.later hb',X1.later hb'⟩)
    rw [e4]
    clear h hs h2 h4 e2 e3 e4 hlen X1 X2 X3 hb hbp
    cases hn3:nameW x3.xs with
    | none=>
      have HG2:Hid (namesG (ws.map WdM.wd)=.error (5,x3.place)):=hide (by rw [uh HG,hn3])
      have HN:Hid (nameW x3.xs=none):=hide hn3
      clear HG hn3
      go_enter Tryz.func249,Tryz.ntmps249
      go_wp2_with (first
       | (go_at_call 152;refine hI.mono ?_;clear hI;rintro ev w2 ⟨rfl,hb2⟩;have HY:=hide (uh HD w2 hb2);have f0:=(uh HY).1.c0;have f1:=(uh HY).1.c1)
       | (go_at_call_of 278 (Value.slice ao3 n3 cap3);refine ((uh HY).1.name_none (uh HN)).mono ?_;rintro ev w8 ⟨bb,rfl,hc,hb8⟩))
      refine ⟨rfl,?_,hb2.trans (hb8.mono hb2.size)⟩
      unfold NamesOut
      rw [uh HG2]
      exact ⟨bb,rfl,hc⟩
    | some t3=>
      have HN:Hid (nameW x3.xs=some t3):=hide hn3
      cases hn1:nameW x1.xs with
      | none=>
        have HG2:Hid (namesG (ws.map WdM.wd)=.error (5,x1.place)):=hide (by rw [uh HG,hn3];simp only;rw [hn1])
        have HN1:Hid (nameW x1.xs=none):=hide hn1
        clear HG hn3 hn1
        go_enter Tryz.func249,Tryz.ntmps249
        go_wp2_with (first
         | (go_at_call 152;refine hI.mono ?_;clear hI;rintro ev w2 ⟨rfl,hb2⟩;have HY:=hide (uh HD w2 hb2);have f0:=(uh HY).1.c0;have f1:=(uh HY).1.c1)
         | (go_at_call_of 278 (Value.slice ao3 n3 cap3);refine ((uh HY).1.name_some (uh HN)).mono ?_;rintro ev w3 ⟨u3,rfl,HU3,hb3⟩;have HZ:=hide (uh HD w3 (hb2.trans (hb3.mono hb2.size)));have h0:=(uh HZ).2.c0;have h1:=(uh HZ).2.c1)
         | (go_at_call_of 278 (Value.slice ao1 n1 cap1);refine ((uh HZ).2.name_none (uh HN1)).mono ?_;rintro ev w8 ⟨bb,rfl,hc,hb8⟩))
        refine ⟨rfl,?_,(hb2.trans (hb3.mono hb2.size)).trans (hb8.mono (Nat.le_trans hb2.size hb3.size))⟩
        unfold NamesOut
        rw [uh HG2]
        exact ⟨bb,rfl,hc⟩
      | some t1=>
        have HG2:Hid (namesG (ws.map WdM.wd)=.ok (t1,t3)):=hide (by rw [uh HG,hn3];simp only;rw [hn1])
        have HN1:Hid (nameW x1.xs=some t1):=hide hn1
        clear HG hn3 hn1
        go_enter Tryz.func249,Tryz.ntmps249
        go_wp2_with (first
         | (go_at_call 152;refine hI.mono ?_;clear hI;rintro ev w2 ⟨rfl,hb2⟩;have HY:=hide (uh HD w2 hb2);have f0:=(uh HY).1.c0;have f1:=(uh HY).1.c1)
         | (go_at_call_of 278 (Value.slice ao3 n3 cap3);refine ((uh HY).1.name_some (uh HN)).mono ?_;rintro ev w3 ⟨u3,rfl,HU3,hb3⟩;have HZ:=hide (uh HD w3 (hb2.trans (hb3.mono hb2.size)));have h0:=(uh HZ).2.c0;have h1:=(uh HZ).2.c1)
         | (go_at_call_of 278 (Value.slice ao1 n1 cap1);refine ((uh HZ).2.name_some (uh HN1)).mono ?_;rintro ev w8 ⟨u1,rfl,HU1,hb8⟩))
        go_ret2
        refine ⟨?_,(hb2.trans (hb3.mono hb2.size)).trans (hb8.mono (Nat.le_trans hb2.size hb3.size))⟩
        unfold NamesOut
        rw [uh HG2]
        exact ⟨u1,u3,rfl,uh HU1,uh HU3⟩
end Go.Proofs.YtehfpjcclknipaaGreatDoor
