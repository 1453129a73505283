import Derived.Test.YtehfpjcclknipaaGreatDoorJTpA
import Derived.Deep.RegionLaw
import Derived.BigQuiet
namespace Go.Proofs.YtehfpjcclknipaaGreatDoor
open Go.RowKit Go.Maps
structure St6 (st:List Stg) (bs:List Bool) (j:Nat):Prop where
 snd:Snd st bs
 behind:∀ i k,j≤i→bs[i]?=some true→wantG st i k=true→bs[k]?=some true
structure St5 (st:List Stg) (bs:List Bool) (i:Nat) (ins:List Ins) (k:Nat):Prop where
 s6:St6 st bs (i+1)
 here:∀ (q:Nat) (x:Ins) (n:Nat),q<k→ins[q]?=some x→bs[i]?=some true→x.stage=(n:Int)→bs[n]?=some true
theorem St6.start {st:List Stg}{bs:List Bool}{n:Nat}(h:Snd st bs) (hl:bs.length≤n):St6 st bs n:=⟨h,fun i k hi h1=>by have:=(List.getElem?_eq_some_iff.1 h1).1;omega⟩
theorem St6.done {st:List Stg}{bs:List Bool}(h:St6 st bs 0):Clo st bs:=fun i k=>h.behind i k (Nat.zero_le _)
theorem St5.start {st:List Stg}{bs:List Bool}{i:Nat}{ins:List Ins}(h:St6 st bs (i+1)):St5 st bs i ins 0:=⟨h,fun q x n hq=>by omega⟩
theorem St5.skip {st:List Stg}{bs:List Bool}{i k:Nat}{ins:List Ins}{x:Ins}(h:St5 st bs i ins k) (hx:ins[k]?=some x) (hs:bs[i]?=some true→x.stage=-1):St5 st bs i ins (k+1):=
 ⟨h.s6,fun q y n hq hy h1 h2=>by
  by_cases hqk:q=k
  ·subst hqk;rw [hx] at hy;cases hy
   have:=hs h1;omega
  ·exact h.here q y n (by omega) hy h1 h2⟩
theorem St5.mark {st:List Stg}{bs:List Bool}{i k n:Nat}{s:Stg}{x:Ins}(h:St5 st bs i s.ins k) (hs:st[i]?=some s) (hx:s.ins[k]?=some x) (h1:bs[i]?=some true) (he:x.stage=(n:Int)) (hn:n<i):St5 st (bs.set n true) i s.ins (k+1):=by
 have hi:=(List.getElem?_eq_some_iff.1 h1).1
 have hne:∀ j,i≤j→(bs.set n true)[j]?=bs[j]?:=fun j hj=>List.getElem?_set_ne (by omega)
 refine ⟨⟨⟨fun j hj=>?_,set_keep h.s6.snd.2⟩,fun j q hj h2 h3=>?_⟩,fun q y m hq hy h2 h3=>?_⟩
 ·rcases set_true hj with rfl | hj
  ·exact .more (h.s6.snd.1 _ h1) (want_mem hs (List.mem_of_getElem? hx) he)
  ·exact h.s6.snd.1 _ hj
 ·rw [hne j (by omega)] at h2
  exact set_keep (h.s6.behind j q hj h2 h3)
 ·by_cases hqk:q=k
  ·subst hqk;rw [hx] at hy;cases hy
   have:n=m:=by omega
   subst this
   exact set_here (by omega)
  ·exact set_keep (h.here q y m (by omega) hy h1 h3)
theorem St5.next {st:List Stg}{bs:List Bool}{i k:Nat}{s:Stg}(h:St5 st bs i s.ins k) (hs:st[i]?=some s) (hk:s.ins.length≤k):St6 st bs i:=
 ⟨h.s6.snd,fun j q hj h1 h2=>by
  by_cases hji:j=i
  ·subst hji
   obtain ⟨t,x,ht,hx,he⟩:=want_some h2
   rw [hs] at ht;cases ht
   obtain ⟨p,hp⟩:=List.getElem?_of_mem hx
   exact h.here p x q (by have:=(List.getElem?_eq_some_iff.1 hp).1;omega) hp h1 he
  ·exact h.s6.behind j q (by omega) h1 h2⟩
set_option maxHeartbeats 8000000 in
set_option maxRecDepth 10000 in
theorem needed_any (B fb:Nat) (sv:Value) (ss:List StM) (w:World) (h:FileM w B fb sv ss) (hF:Fwd (ss.map StM.stg)) (hne:ss.map StM.stg≠[]) :
  Calls Tryz.prog 31 #[.pointer (some ⟨fb,0,none⟩)] w fun e w'=>NeedOut (ss.map StM.stg) w.heap.size w' e∧Below w.heap.size w w':=by
 have h0:0<ss.length:=by have:=List.length_pos_iff.2 hne;rwa [List.length_map] at this
 obtain ⟨g0,cap,hv,_,_⟩:=row_capz h.row h0
 subst hv
 obtain ⟨i4,hi4,hz4,hs4,hb4⟩:=info_parts info4
 obtain ⟨i3,hi3,hz3,hs3,hb3⟩:=info_parts info3
 obtain ⟨m,hm⟩:∃ m,ss.length=m+1:=⟨ss.length-1,by omega⟩
 obtain ⟨st,hst⟩:∃ st,st=ss.map StM.stg:=⟨_,rfl⟩
 have hl5:=h.short
 have hm5:m≤4:=by omega
 have hml:st.length=m+1:=by rw [hst,List.length_map,hm]
 rw [←hst] at hF hne ⊢
 have HS0:Hid (Snd st ((List.replicate (m+1) false).set m true)):=hide (by have:=snd_start hne;rw [hml] at this;exact this)
 have c0:=h.c0
 rw [hm] at c0
 have HM:=hide hm
 have HML:=hide hml
 have HS:=hide hst
 have HFM:=hide h
 have HF:=hide hF
 have HC0:Hid (∀ wr,Below w.heap.size w wr→wr.cell? ⟨fb,0,none⟩=some (.slice (some ⟨g0,0,none⟩) (m+1) cap)):=hide (fun wr hb=>cell_later hb c0)
 have hfb:=h.lt
 have i1:IntKind.i64.wrap (((m+1:Nat):Int)-1)=(m:Int):=by
  rw [show (((m+1:Nat):Int)-1)=((m:Nat):Int) by omega];exact wrap_i64 m (by omega)
 clear h hF hne h0 hm hml hst hl5
 go_enter Tryz.func31,Tryz.ntmps31
 go_upto_region 2 with (at_make;refine wpList_make_full _ rfl _ _ 158 rfl w.heap.size 4 i4 (.bool false) 1 Tryz.underlying158 hi4 hz4 hs4 _ _ _ _ (m+1) rfl rfl rfl rfl (by rw [hb4];omega) (by unfold maxLen;omega) (Nat.le_refl _) ?_;intro w1 hrow1 hgrow1;have HK1:=hide (Mk.ofMade hrow1 hgrow1);clear hrow1 hgrow1 c0)
 have c1:=uh HC0 w1 (uh HK1).below
 have q1:w1.cell? ⟨w.heap.size,m,none⟩=some (.bool false):=(uh HK1).get (by rw [List.getElem?_replicate];simp)
 have f1:=(uh HK1).frz m
 obtain ⟨W2,hW2⟩:∃ W2,W2=w1.setCell ⟨w.heap.size,m,none⟩ (.bool true):=⟨_,rfl⟩
 have HK2:Hid (Mk w w.heap.size W2 w.heap.size ((List.replicate (m+1) false).set m true)):=hide (by rw [hW2];exact (uh HK1).set m)
 go_upto_region 3 with fail
 rw [←hW2]
 clear hW2 q1 f1 HK1 c1
 have c2:=uh HC0 W2 (uh HK2).below
 go_wp2_with fail
 go_loopw [4] (fun iv wr=>∃ (j:Nat) (bs:List Bool),j≤m+1∧iv=.int .i64 ((j:Int)-1)∧Mk w w.heap.size wr w.heap.size bs∧bs.length=m+1∧St6 st bs j) (fun iv _=>(intOf iv+1).toNat)
 case atStart=>exact ⟨m+1,_,Nat.le_refl _,by first | rfl | (congr 1;omega),uh HK2,by simp,.start (uh HS0) (by simp)⟩
 case round=>
  clear c2 HK2 HS0
  obtain ⟨j,bs,hj,rfl,hk,hlb,h6⟩:=hrel
  cases j with
  | zero=>
    have HMA:Hid (Marks st bs):=hide (Marks.clo (by rw [hlb,uh HML]) h6.snd h6.done)
    have HK0:=hide hk
    have HL0:=hide hlb
    have e0:(((0:Nat):Int)-1)=-1:=rfl
    rw [e0]
    clear hk h6 hlb e0
    go_wp2_with fail
    go_loopw [7,63] (fun ov iv wr=>∃ (k:Nat) (u:Value),k≤m+1∧iv=.int .i64 (k:Int)∧u=ov∧St4 w w.heap.size wr w.heap.size bs u k) (fun _ iv _=>m+1-(intOf iv).toNat)
    case atStart=>exact ⟨0,_,Nat.zero_le _,rfl,rfl,uh HK0,World.ownsRow_nil _ _ _ _⟩
    case round=>
     obtain ⟨k,u,hk,rfl,hu,h4⟩:=hrel
     subst hu
     by_cases hlt:k<m+1
     ·obtain ⟨b,hb⟩:=some_bool (uh HL0) hlt
      have qk:=h4.mks.get hb
      have n0:=World.new_ne _ ⟨w.heap.size,k,none⟩ qk
      have H4:=hide h4
      obtain ⟨ao,n',c',hov⟩:=row_form h4.row
      subst hov
      have hlk:=idxB_len bs k
      have hsz:=h4.mks.below.size
      cases b with
      | false=>
        have H5:Hid (St4 w w.heap.size wr w.heap.size bs (.slice ao n' c') (k+1)):=hide ⟨h4.mks,by rw [idxB_skip (by rw [hb];simp)];exact h4.row⟩
        clear h4 hb
        go_wp2_with fail
        go_roundw
        case rel=>exact ⟨k+1,_,hlt,by go_num,rfl,uh H5⟩
        case measure=>simp [intOf];omega
      | true=>
        have HB:=hide hb
        obtain ⟨xs,hxs⟩:∃ xs,xs=idxB bs k:=⟨_,rfl⟩
        have HXS:=hide hxs
        have HRow:Hid (NumR wr w.heap.size (.slice ao n' c') xs):=hide (by rw [hxs];exact h4.row)
        rw [←hxs] at hlk
        clear h4 hb hxs
        go_wp2_with (at_builtin;refine wpList_append_own _ rfl _ _ 101 rfl w.heap.size 3 i3 _ 1 8 Tryz.underlying101 hi3 hz3 hs3 hb3 rfl (by decide) (.slice ao n' c') xs.length _ rfl (row_same (uh HRow) (fun q hq=>Below.heap_alloc _ _ q (World.ownsRow.lt (uh HRow) q hq).2)) ⟨wr.heap.size,0,none⟩ 1 1 [.int .i64 (k:Int)] rfl rfl (World.news_of_block (cs:=#[.int .i64 (k:Int)]) (t:=3) (fr:=(0,0)) (heap_alloc_new _ _)) (by intro u hu;simp only [List.mem_cons,List.not_mem_nil,or_false] at hu;rcases hu with rfl;rfl) (by unfold maxLen;omega) (by omega) (by simp;omega) ?_;intro v6 w6 hown6 hgrow6 _;have HO:=hide hown6;have HG:=hide hgrow6;clear hown6 hgrow6)
        go_roundw
        case rel=>
         refine ⟨k+1,_,hlt,by go_num,rfl,?_,?_⟩
         ·exact ((uh H4).mks.later ((Below.refl _ _).alloc (Nat.le_refl _) _)).grown (uh HG) (uh H4).apart (fun q hq=>(World.ownsRow.lt (uh H4).row q hq).1)
         ·rw [idxB_more (uh HB),←uh HXS]
          have:=uh HO
          show World.ownsRow _ _ _ _ _ _ _
          simp only [List.length_append,List.length_cons,List.length_nil,List.map_append,List.map_cons,List.map_nil]
          exact this
        case measure=>simp [intOf];omega
     ·have hkm:k=m+1:=by omega
      have H5:Hid (NeedOut st w.heap.size wr (.returned u)∧Below w.heap.size w wr):=hide ⟨⟨u,bs,uh HMA,rfl,by rw [uh HML,←hkm];exact h4.row⟩,h4.mks.below⟩
      obtain ⟨ao,n',c',hov⟩:=row_form h4.row
      subst hov
      clear h4 hkm
      go_wp2_with fail
      go_ret
      exact uh H5
  | succ i=>
    have e0:(((i+1:Nat):Int)-1)=(i:Int):=by omega
    rw [e0]
    clear e0
    obtain ⟨s,hs⟩:∃ s,ss[i]?=some s:=⟨_,List.getElem?_eq_getElem (by rw [uh HM];omega)⟩
    have hFr:=(uh HFM).below hk.below
    have hok:=hFr.all s (List.mem_of_getElem? hs)
    obtain ⟨q0,q1⟩:=st_at hFr.row i s hs
    obtain ⟨ao,nI,cI,hiv,hnI⟩:=st_form hok
    rw [hiv] at q1
    have c3:=hFr.c0
    rw [uh HM] at c3
    have hsI:=hok.short
    rw [←hnI] at hsI
    have HSI:=hide hs
    have HST:Hid (st[i]?=some s.stg):=hide (by rw [uh HS,List.getElem?_map,hs];rfl)
    have HIV:=hide hiv
    have HNI:=hide hnI
    have HK:=hide hk
    have HLB:=hide hlb
    have H6:=hide h6
    have hi1:i<m+1:=by omega
    have hlo:(0:Int)≤(i:Int):=by omega
    clear hs hFr hok hiv hnI hk hlb h6 q0
    go_wp2_with fail
    go_loopw [43] (fun kv wr=>∃ (k:Nat) (bs:List Bool),k≤nI∧kv=.int .i64 (k:Int)∧Mk w w.heap.size wr w.heap.size bs∧bs.length=m+1∧St5 st bs i s.stg.ins k) (fun kv _=>nI-(intOf kv).toNat)
    case atStart=>exact ⟨0,bs,Nat.zero_le _,rfl,uh HK,uh HLB,.start (uh H6)⟩
    case round=>
     clear HK HLB H6 q1 c3
     obtain ⟨k,bs3,hkn,rfl,hk3,hl3,h5⟩:=hrel
     by_cases hlt:k<nI
     ·obtain ⟨x,hx⟩:∃ x,s.ins[k]?=some x:=⟨_,List.getElem?_eq_getElem (by rw [←uh HNI];exact hlt)⟩
      have hFr:=(uh HFM).below hk3.below
      have hok:=hFr.all s (List.mem_of_getElem? (uh HSI))
      obtain ⟨gI,cI2,hvI,_,_⟩:=row_capz hok.row (by rw [←uh HNI];omega)
      have hrow:=hok.row
      have hv2:=uh HIV
      rw [hvI] at hv2 hrow
      injection hv2 with e1 _ e3
      subst e1 e3
      obtain ⟨d0,d1,d2,d3,d4,d5⟩:=in_at hrow k x hx
      obtain ⟨b,hb⟩:=some_bool hl3 hi1
      have hxf:=uh HF i s.stg (uh HST) x.ins (List.mem_map.2 ⟨x,List.mem_of_getElem? hx,rfl⟩)
      obtain ⟨g2,cap2,hwv⟩:∃ g2 n2 cap2,x.wv=.slice g2 n2 cap2:=row_form (hok.all x (List.mem_of_getElem? hx)).ws.row
      obtain ⟨c2,hwv⟩:=hwv
      rw [hwv] at d0
      obtain ⟨W4,hW4⟩:∃ W4,W4=wr.alloc (.cells #[.slice g2 cap2 c2,.int .i64 x.stage,.int .i64 (ruleT x.rule).1,.int .i64 (ruleT x.rule).2.1,fnV (ruleT x.rule).2.2.1,fnV (ruleT x.rule).2.2.2] 76):=⟨_,rfl⟩
      have hc4:W4.heap[wr.heap.size]?=some (.cells #[.slice g2 cap2 c2,.int .i64 x.stage,.int .i64 (ruleT x.rule).1,.int .i64 (ruleT x.rule).2.1,fnV (ruleT x.rule).2.2.1,fnV (ruleT x.rule).2.2.2] 76 (0,0)):=by rw [hW4];exact heap_alloc_new _ _
      have r1:W4.cell? ⟨wr.heap.size,1,none⟩=some (.int .i64 x.stage):=cq 1 hc4
      have hk4:Mk w w.heap.size W4 w.heap.size bs3:=by rw [hW4];exact hk3.later ((Below.refl _ _).alloc (Nat.le_refl _) _)
      have qi:=hk4.get hb
      have n0:=World.new_ne wr ⟨gI,k*6,none⟩ d0
      have hx2:s.stg.ins[k]?=some x.ins:=by show (s.ins.map InM.ins)[k]?=_;rw [List.getElem?_map,hx];rfl
      have HX:=hide hx2
      have HK4:=hide hk4
      have HL3:=hide hl3
      have H5:=hide h5
      have HB:=hide hb
      have hxs:x.ins.stage=x.stage:=rfl
      rw [hxs] at hxf
      have HXS:=hide hxs
      obtain ⟨sg,hsg⟩:∃ sg,sg=x.stage:=⟨_,rfl⟩
      have HSG:=hide hsg
      rw [←hsg] at hxf r1 d1 hW4
      clear hx hFr hok hvI hrow hk3 hl3 h5 hb hc4 hk4 hx2 hwv hxs hsg
      go_upto_region 9 with fail
      rw [←hW4]
      clear hW4 d0 d1 d2 d3 d4 d5 n0
      cases b with
      | false=>
        have H55:Hid (St5 st bs3 i s.stg.ins (k+1)):=hide ((uh H5).skip (uh HX) (fun e=>by rw [uh HB] at e;cases e))
        go_wp2_with fail
        go_roundw
        case rel=>exact ⟨k+1,bs3,hlt,by go_num,uh HK4,uh HL3,uh H55⟩
        case measure=>simp [intOf];omega
      | true=>
        by_cases hsm:sg=-1
        ·have H55:Hid (St5 st bs3 i s.stg.ins (k+1)):=hide ((uh H5).skip (uh HX) (fun _=>by rw [uh HXS,←uh HSG,hsm]))
         subst hsm
         go_wp2_with fail
         go_roundw
         case rel=>exact ⟨k+1,bs3,hlt,by go_num,uh HK4,uh HL3,uh H55⟩
         case measure=>simp [intOf];omega
        ·obtain ⟨n,hn⟩:∃ n:Nat,sg=(n:Int):=⟨sg.toNat,by omega⟩
         subst hn
         have hni:n<i:=by omega
         have H55:Hid (St5 st (bs3.set n true) i s.stg.ins (k+1)):=hide ((uh H5).mark (uh HST) (uh HX) (uh HB) (by rw [uh HXS,←uh HSG]) hni)
         obtain ⟨bn,hbn⟩:=some_bool (uh HL3) (show n<m+1 by omega)
         have qn:=(uh HK4).get hbn
         have fn:=(uh HK4).frz n
         have g1:(((n:Nat):Int) != -1)=true:=by simp
         have hnm:n<m+1:=by omega
         clear hxf hbn hsm
         go_wp2_with fail
         go_roundw
         case rel=>exact ⟨k+1,bs3.set n true,hlt,by go_num,(uh HK4).set n,by rw [List.length_set];exact uh HL3,uh H55⟩
         case measure=>simp [intOf];omega
     ·have H66:Hid (St6 st bs3 i):=hide (h5.next (uh HST) (by show (s.ins.map InM.ins).length≤k;rw [List.length_map,←uh HNI];omega))
      have HK3:=hide hk3
      have HL3:=hide hl3
      clear hk3 hl3 h5
      go_wp2_with fail
      go_roundw
      case rel=>exact ⟨i,bs3,by omega,by first | rfl | go_num,uh HK3,uh HL3,uh H66⟩
      case measure=>simp [intOf]
theorem need_alone {st:List Stg}{bs:List Bool}{m:Nat}(h:Marks st bs) (hm:st.length=m+1) (hw:∀ k,wantG st m k=false):idxB bs st.length=[m]:=by
 have hn:∀ k,Need st k→k=m:=fun k hk=>by
  induction hk using Need.el with
  | last=>omega
  | more _ h2 ih=>subst ih;rw [hw] at h2;cases h2
 have hl:bs[m]?=some true:=(h.iff m).2 (by have:=Need.last (st:=st);rw [hm] at this;exact this)
 rw [hm,idxB_more hl]
 have:idxB bs m=[]:=by
  unfold idxB
  rw [List.filter_eq_nil_iff]
  intro k hk
  rw [List.mem_range] at hk
  intro e
  have:=hn k ((h.iff k).1 (by simpa using e))
  omega
 rw [this];rfl
theorem want_none {ss:List StM}{m:Nat}{s:StM}(hs:ss[m]?=some s) (h:∀ x∈s.ins,x.stage=-1):∀ k,wantG (ss.map StM.stg) m k=false:=fun k=>by
 unfold wantG
 rw [List.getElem?_map,hs]
 simp only [Option.map_some,StM.stg,List.any_eq_false,List.mem_map]
 rintro x ⟨y,hy,rfl⟩
 simp only [InM.ins,h y hy]
 simp
end Go.Proofs.YtehfpjcclknipaaGreatDoor
namespace Go.Proofs.YtehfpjcclknipaaGreatDoor.T
open Go.RowKit Go.Maps
def placeM (m:InM):Nat:=match m.ws[0]? with
 | some y=>y.place
 | none=>0
def runG (cx:List Ent):List InM→List Ent→List UInt8→Except (Nat × Nat) (List Ent × List UInt8)
 | [],t,wk=>.ok (t,wk)
 | m :: l,t,wk=>match actG cx t wk m.rule (opsT m.ws) with
   | .error k=>.error (k,placeM m)
   | .ok (t',wk')=>runG cx l t' wk'
def runOk (cx:List Ent):List InM→List Ent→List UInt8→Prop
 | [],_,_=>True
 | m :: l,t,wk=>(InsOk m∧m.ws≠[])∧supG cx t wk m.rule (opsT m.ws)=true∧match actG cx t wk m.rule (opsT m.ws) with
   | .error _=>True
   | .ok (t',wk')=>t'.length≤40∧runOk cx l t' wk'
structure Sta (w:World) (B sb:Nat) (t:List Ent) (wk:List UInt8):Prop where
 st:∃ (r:Nd) (ns:List Nd) (work:ByteArray),StA w B sb r ns work (.slice none 0 0)∧entsN ns=t∧work.data.toList=wk∧work.size≤1048576
 small:t.length≤40
def MadeOut (w':World) (e:Ending) (x:Except (Nat × Nat) (List Ent × List UInt8)):Prop:=match x with
 | .error (k,pl)=>∃ q:Nat,e=.returned (.tuple #[.pointer none,.iface 80 (.pointer (some ⟨q,0,none⟩))])∧w'.heap[q]?=some (.cells #[.int .i64 (k:Int),.int .i64 (pl:Int)] 84 (0,0))
 | .ok (t,wk)=>∃ B sb:Nat,e=.returned (.tuple #[.pointer (some ⟨sb,0,none⟩),.nilIface])∧Sta w' B sb t wk
theorem info63z:(Tryz.prog.info? 63).map (fun i=>(i.zero,i.size,i.bytes))=some (some (.pointer none),1,8):=by kernel_rfl
theorem runG_step {cx:List Ent}{l:List InM}{j:Nat}{m:InM}{t:List Ent}{wk:List UInt8}(hm:l[j]?=some m):runG cx (l.drop j) t wk=match actG cx t wk m.rule (opsT m.ws) with
  | .error k=>.error (k,placeM m)
  | .ok (t',wk')=>runG cx (l.drop (j+1)) t' wk':=by
 have hj:=(List.getElem?_eq_some_iff.1 hm).1
 have e:l.drop j=m :: l.drop (j+1):=by rw [List.drop_eq_getElem_cons hj];congr 1;exact (List.getElem?_eq_some_iff.1 hm).2
 rw [e];rfl
theorem runOk_step {cx:List Ent}{l:List InM}{j:Nat}{m:InM}{t:List Ent}{wk:List UInt8}(hm:l[j]?=some m) (h:runOk cx (l.drop j) t wk):(InsOk m∧m.ws≠[])∧supG cx t wk m.rule (opsT m.ws)=true∧match actG cx t wk m.rule (opsT m.ws) with
  | .error _=>True
  | .ok (t',wk')=>t'.length≤40∧runOk cx (l.drop (j+1)) t' wk':=by
 have hj:=(List.getElem?_eq_some_iff.1 hm).1
 have e:l.drop j=m :: l.drop (j+1):=by rw [List.drop_eq_getElem_cons hj];congr 1;exact (List.getElem?_eq_some_iff.1 hm).2
 rw [e] at h;exact h
theorem need_out {st:List Stg}{B p:Nat}{w':World}{e:Ending}(h:NeedOut st B w' e) (hl:st.length=p+1) (hw:∀ k,wantG st p k=false):∃ gl cl:Nat,e=.returned (.slice (some ⟨gl,0,none⟩) 1 cl)∧w'.cell? ⟨gl,0,none⟩=some (.int .i64 (p:Int)):=by
 obtain ⟨rv,bs,hM,rfl,hR⟩:=h
 rw [need_alone hM hl hw] at hR
 rcases hR.2 with ⟨_,e⟩ | ⟨g,cap,cur,rfl,_⟩
 ·cases e
 ·refine ⟨g,cap,rfl,?_⟩
  have:=World.ownsRow.cellAt hR 0 (by simp)
  simpa using this
structure In19 (w:World) (B mb g n sb:Nat) (rs:Nd) (wr:World):Prop where
 below:Below w.heap.size w wr
 wB:w.heap.size≤B
 mbB:mb<B
 gB:g<B
 sbB:B≤sb
 mkg:wr.heap[mb]?=some (.cells #[.pointer (some ⟨rs.nb,0,none⟩),.slice (some ⟨g,0,none⟩) (n+1) (n+1)] 100 (0,0))
 row:∃ cs,wr.heap[g]?=some (.cells cs 63 (0,0))∧cs[n]?=some (.pointer (some ⟨sb,0,none⟩))
theorem In19.later {w wr w2:World}{B mb g n sb:Nat}{rs:Nd}(h:In19 w B mb g n sb rs wr) (hb:Below B wr w2):In19 w B mb g n sb rs w2:=by
 obtain ⟨cs,h1,h2⟩:=h.row
 exact ⟨h.below.trans (hb.mono h.wB),h.wB,h.mbB,h.gB,h.sbB,(hb.block mb h.mbB).trans h.mkg,cs,(hb.block g h.gB).trans h1,h2⟩
theorem StA.setLow {w:World}{B sb g i:Nat}{r:Nd}{ns:List Nd}{work:ByteArray}{ev u:Value}(h:StA w B sb r ns work ev) (hsb:B≤sb) (hg:g<B):StA (w.setCell ⟨g,i,none⟩ u) B sb r ns work ev:=by
 have ho:∀ k,k≠g→(w.setCell ⟨g,i,none⟩ u).heap[k]?=w.heap[k]?:=fun k hk=>heap_setCell_other _ _ _ _ hk
 refine ⟨(ho sb (by omega)).trans h.cells,⟨h.mem.root,fun x hx=>?_,h.mem.apart⟩,h.tree,h.lim,by simpa using h.base⟩
 obtain ⟨h1,h2,h3,h4⟩:=h.mem.all x hx
 have hne:x.mb≠g:=by omega
 refine ⟨h1,h2,(ho _ (by omega)).trans h3,?_⟩
 exact World.ownsMap.kept h4 ⟨rfl,rfl,rfl,by simp,fun k _ hk=>ho k (fun e=>hk (by rw [e]))⟩ (fun e=>hne (by simpa using e))
theorem made_ptr {wr:World}{g n B:Nat}(hr:wr.ownsRow B 63 1 (.slice (some ⟨g,0,none⟩) n n) n (madeCells (Value.pointer none).cells (n*1)).toList) {p:Nat}(hp:p<n):∃ cs:Array Value,wr.heap[g]?=some (.cells cs 63 (0,0))∧cs[p]?=some (.pointer none):=by
 rcases hr.2 with ⟨h',_⟩ | ⟨g',cap',cur,h',hb,hc,_,_,hsz,ht⟩
 ·simp at h'
 ·simp only [Value.slice.injEq,Option.some.injEq,Addr.mk.injEq,and_true,true_and] at h'
  obtain ⟨rfl,rfl⟩:=h'
  refine ⟨cur,hc,?_⟩
  rw [List.take_of_length_le (by rw [Array.length_toList];omega)] at ht
  rw [←Array.getElem?_toList,ht,show (Value.pointer none).cells=#[Value.pointer none] from rfl,toList_madeCells_one,Nat.mul_one,List.getElem?_replicate,if_pos hp]
structure Pre19 (w:World) (mb n:Nat) (rs:Nd) (wr:World):Prop where
 below:Below w.heap.size w wr
 mkg:wr.heap[mb]?=some (.cells #[.pointer (some ⟨rs.nb,0,none⟩),.slice (some ⟨w.heap.size,0,none⟩) (n+1) (n+1)] 100 (0,0))
 row:∃ cs:Array Value,wr.heap[w.heap.size]?=some (.cells cs 63 (0,0))∧cs[n]?=some (.pointer none)
theorem Pre19.later {w wr w2:World}{mb n:Nat}{rs:Nd}(h:Pre19 w mb n rs wr) (hb:Below wr.heap.size wr w2):Pre19 w mb n rs w2:=by
 obtain ⟨cs,h1,h2⟩:=h.row
 exact ⟨h.below.trans (hb.mono h.below.size),(hb.block _ (Array.getElem?_eq_some_iff.1 h.mkg).1).trans h.mkg,cs,(hb.block _ (Array.getElem?_eq_some_iff.1 h1).1).trans h1,h2⟩
def Fin19 (w:World) (mb n:Nat) (rs:Nd) (cx:List Ent) (l:List InM) (wr:World):Prop:=∃ (B sb:Nat) (t:List Ent) (wk:List UInt8),In19 w B mb w.heap.size n sb rs wr∧Sta wr B sb t wk∧runG cx l [] []=.ok (t,wk)
def R19 (w W3:World) (mb n:Nat) (rs:Nd) (cx:List Ent) (l:List InM) (iv:Value) (wr:World):Prop:=(iv=.int .i64 0∧wr=W3)∨(iv=.int .i64 1∧Fin19 w mb n rs cx l wr)
def R21 (w:World) (B mb n sb:Nat) (rs:Nd) (cx:List Ent) (l:List InM) (jv:Value) (wr:World):Prop:=∃ (j:Nat) (t:List Ent) (wk:List UInt8),j≤l.length∧jv=.int .i64 (j:Int)∧In19 w B mb w.heap.size n sb rs wr∧Sta wr B sb t wk∧runOk cx (l.drop j) t wk∧runG cx (l.drop j) t wk=runG cx l [] []
set_option maxHeartbeats 8000000 in
set_option maxRecDepth 10000 in
theorem make_any (fb Bf Bs p:Nat) (sv:Value) (ss:List StM) (s:StM) (rs:Nd) (nss:List Nd) (mx:Int) (w:World) (h:FileM w Bf fb sv ss) (hF:Fwd (ss.map StM.stg)) (hp:ss.length=p+1) (hs:ss[p]?=some s) (hins:∀ m∈s.ins,m.stage=-1)
  (hM:Mem w Bs rs nss) (HT:Hid (TreeS (entsN nss))) (hmx:w.cell? ⟨14,0,none⟩=some (.int .i64 mx)) (hg:w.cell? ⟨0,0,none⟩=some (.iface 168 (.agg #[.pointer (some ⟨22,47,none⟩)]))) (hC:CbAll Bs rs nss) (hrun:runOk (entsN nss) s.ins [] []) :
  Calls Tryz.prog 19 #[.pointer (some ⟨fb,0,none⟩),.pointer (some ⟨rs.nb,0,none⟩),fnV 20] w fun e w'=>MadeOut w' e (runG (entsN nss) s.ins [] [])∧Below w.heap.size w w':=by
 obtain ⟨g0,cap,hv,_,_⟩:=row_capz h.row (by omega)
 obtain ⟨i0,hi,hz0,hz1,hz2⟩:=info_parts info63z
 have h14:14<w.heap.size:=World.block_lt_of_cell? _ _ hmx
 have c0:=h.c0
 subst hv
 rw [hp] at c0
 have hp5:p≤4:=by have:=h.short;omega
 have HND:Hid (∀ W,Below w.heap.size w W→Calls Tryz.prog 31 #[.pointer (some ⟨fb,0,none⟩)] W fun e w'=>(∃ gl cl:Nat,e=.returned (.slice (some ⟨gl,0,none⟩) 1 cl)∧w'.cell? ⟨gl,0,none⟩=some (.int .i64 (p:Int)))∧Below W.heap.size W w'):=hide (fun W hb=>
  (needed_any Bf fb _ ss W (h.below hb) hF (fun e=>by rw [List.map_eq_nil_iff] at e;rw [e] at hp;cases hp)).mono fun e w' ⟨h1,h2⟩=>⟨need_out h1 (by rw [List.length_map];exact hp) (want_none hs hins),h2⟩)
 have HFM:=hide h
 have HP:=hide hp
 have HS:=hide hs
 have HMM:=hide hM
 have HMX:=hide hmx
 have HG:=hide hg
 have HC:=hide hC
 have HRUN:=hide hrun
 clear h hF hp hs hins hM hmx hg hC hrun
 go_enter Tryz.func19,Tryz.ntmps19
 go_upto_region 2 with (at_make;refine wpList_make_full _ rfl _ _ 95 rfl w.heap.size 63 i0 (.pointer none) 1 Tryz.underlying95 hi hz0 hz1 _ _ _ _ (p+1) rfl rfl rfl rfl (by rw [hz2];omega) (by unfold maxLen;omega) (Nat.le_refl _) ?_;intro w1 hrow1 hgrow1)
 obtain ⟨W2,hW2⟩:∃ W2,W2=w1.alloc (.cells #[.pointer (some ⟨rs.nb,0,none⟩),.slice (some ⟨w.heap.size,0,none⟩) (p+1) (p+1)] 100):=⟨_,rfl⟩
 have hb1:Below w.heap.size w w1:=(Below.refl _ _).grown hgrow1 (Nat.le_refl _) (fun q hq=>by cases hq)
 have hb2:Below w1.heap.size w1 W2:=by rw [hW2];exact (Below.refl _ _).alloc (Nat.le_refl _) _
 have hP1:∃ cs:Array Value,w1.heap[w.heap.size]?=some (.cells cs 63 (0,0))∧cs[p]?=some (.pointer none):=by
  exact made_ptr hrow1 (Nat.lt_succ_self p)
 have hP2:Pre19 w w1.heap.size p rs W2:=by
  obtain ⟨cs,h1,h2⟩:=hP1
  exact ⟨hb1.trans (hb2.mono hb1.size),by rw [hW2];exact heap_alloc_new _ _,cs,(hb2.block _ (Array.getElem?_eq_some_iff.1 h1).1).trans h1,h2⟩
 rw [←hW2]
 obtain ⟨mb,hmb⟩:∃ mb,mb=w1.heap.size:=⟨_,rfl⟩
 rw [←hmb] at hP2 ⊢
 have HP2:=hide hP2
 have hN:=uh HND W2 hP2.below
 clear hP1 hP2 hb1 hb2 hW2 hrow1 hgrow1 hmb HND c0 hi hz0 hz1 hz2
 go_upto_region 3 with (go_at_call 31;refine hN.mono ?_;clear hN;rintro e2 w3 ⟨⟨gl,cl,rfl,cg⟩,hb3⟩)
 have HP3:=hide ((uh HP2).later hb3)
 clear HP2 hb3
 go_loopw [26] (fun iv wr=>R19 w w3 mb p rs (entsN nss) s.ins iv wr) (fun iv _=>1-(intOf iv).toNat)
 case atStart=>exact .inl ⟨rfl,rfl⟩
 case round=>
  rcases hrel with ⟨rfl,rfl⟩ | ⟨rfl,hfin⟩
  ·go_upto_region 5 with fail
   obtain ⟨cs,hcs,hcp⟩:=(uh HP3).row
   have hk:=(uh HP3).mkg
   have k1:wr.cell? ⟨mb,1,none⟩=some (.slice (some ⟨w.heap.size,0,none⟩) (p+1) (p+1)):=cq 1 hk
   have h14r:14<wr.heap.size:=Nat.lt_of_lt_of_le h14 (uh HP3).below.size
   have hmbl:=(Array.getElem?_eq_some_iff.1 hk).1
   have hgl:=(Array.getElem?_eq_some_iff.1 hcs).1
   have hmg:mb≠w.heap.size:=fun e=>by
    rw [e] at hk
    have hh:=hk.symm.trans hcs
    injection hh with hh
    injection hh with _ hh _
    cases hh
   have ip:(0:Int)≤(p:Int):=by omega
   have ip2:(p:Int)<((p+1:Nat):Int):=by omega
   have ip3:(p:Int)<(p:Int)+1:=by omega
   have HCS:=hide hcs
   have HCP:=hide hcp
   have HK:=hide hk
   clear hcs hcp hk
   go_region_held3 (fun w'=>w'.cell? ⟨mb,1,none⟩=some (.slice (some ⟨w.heap.size,0,none⟩) (p+1) (p+1)))
    (first | exact k1 | exact x1 | exact y1 | go_keep)
    (first | (go_at_call 32;refine (newState_any _ (by exact h14r)).mono ?_;rintro e5 w5 ⟨⟨sb,r,rfl,hsb,HST⟩,hb5⟩;have x1:w5.cell? ⟨mb,1,none⟩=some (.slice (some ⟨w.heap.size,0,none⟩) (p+1) (p+1)):=cell_later (chain0 hb5) k1;have hc5:=((chain0 hb5).block w.heap.size hgl).trans (uh HCS);have c5:w5.cell? ⟨w.heap.size,p,none⟩=some (.pointer none):=(cell_of_row _ _ p _ _ _ hc5).trans (uh HCP);have f5:=frozen_of_row w5 w.heap.size p _ _ hc5;have y1:(w5.setCell ⟨w.heap.size,p,none⟩ (.pointer (some ⟨sb,0,none⟩))).cell? ⟨mb,1,none⟩=some (.slice (some ⟨w.heap.size,0,none⟩) (p+1) (p+1)):=by rw [World.cell?_setCell_other _ _ _ _ (fun e=>hmg (by injection e with e;exact e.symm))];exact x1))
   obtain ⟨W6,hW6⟩:∃ W6,W6=w5.setCell ⟨w.heap.size,p,none⟩ (.pointer (some ⟨sb,0,none⟩)):=⟨_,rfl⟩
   rw [←hW6]
   obtain ⟨B,hBe⟩:∃ B,B=wr.heap.size:=⟨_,rfl⟩
   have hb5':Below wr.heap.size wr w5:=chain0 hb5
   have hIn6:In19 w B mb w.heap.size p sb rs W6:=by
    refine ⟨?_,by rw [hBe];exact (uh HP3).below.size,by omega,by omega,by rw [hBe];exact hsb,?_,cs.setIfInBounds p (.pointer (some ⟨sb,0,none⟩)),?_,?_⟩
    ·rw [hW6];exact ((uh HP3).below.trans (hb5'.mono (uh HP3).below.size)).setCell (Nat.le_refl _) _
    ·rw [hW6];exact (heap_setCell_other _ _ _ _ hmg).trans ((hb5'.block mb hmbl).trans (uh HK))
    ·rw [hW6];exact heap_setCell_same _ _ p _ _ _ hc5
    ·have:=(Array.getElem?_eq_some_iff.1 (uh HCP)).1
     simp [this]
   have hSt6:Sta W6 B sb [] []:=by
    refine ⟨⟨r,[],⟨#[]⟩,?_,rfl,rfl,by decide⟩,by decide⟩
    rw [hW6,hBe]
    exact (uh HST).setLow hsb hgl
   have hFr:=(uh HFM).below hIn6.below
   obtain ⟨q0,q1⟩:=st_at hFr.row p s (uh HS)
   have c6:=hFr.c0
   rw [uh HP] at c6
   have hok:=hFr.all s (List.mem_of_getElem? (uh HS))
   obtain ⟨oI,nI,cI,hiv,hnI⟩:=st_form hok
   rw [hiv] at q1
   have HIN:=hide hIn6
   have HSTA:=hide hSt6
   have HIV:=hide hiv
   have HNI:=hide hnI
   have hsI:nI≤1500:=by have:=hok.short;omega
   clear hIn6 hSt6 hFr hok hiv hnI q0 x1 y1 hc5 c5 f5 hb5 hb5' HST HCS HCP HK HP3 k1 hW6 hsb cg hmbl hgl hmg
   go_wp2_with fail
   go_loopw [46] (fun jv wr=>R21 w B mb p sb rs (entsN nss) s.ins jv wr) (fun jv _=>nI-(intOf jv).toNat)
   case atStart=>exact ⟨0,[],[],Nat.zero_le _,rfl,uh HIN,uh HSTA,uh HRUN,rfl⟩
   case round=>
    clear HIN HSTA q1 c6
    obtain ⟨j,t,wk,hj,rfl,hI,hS,hro,hrg⟩:=hrel
    by_cases hlt:j<nI
    ·obtain ⟨m,hm⟩:∃ m,s.ins[j]?=some m:=⟨_,List.getElem?_eq_getElem (by rw [←uh HNI];exact hlt)⟩
     have hms:=List.mem_of_getElem? hm
     obtain ⟨⟨hIns,hne⟩,hsup,hmore⟩:=runOk_step hm hro
     have hstep:=(runG_step (t:=t) (wk:=wk) (cx:=entsN nss) hm).symm.trans hrg
     obtain ⟨y,hy⟩:∃ y,m.ws[0]?=some y:=⟨_,List.getElem?_eq_getElem (List.length_pos_iff.2 hne)⟩
     have hpl:placeM m=y.place:=by unfold placeM;rw [hy]
     rw [hpl] at hstep
     have hFr:=(uh HFM).below hI.below
     have hok:=hFr.all s (List.mem_of_getElem? (uh HS))
     have hm0:m.Ok w Bf:=((uh HFM).all s (List.mem_of_getElem? (uh HS))).all m hms
     obtain ⟨gI,cI2,hvI,_,_⟩:=row_capz hok.row (by rw [←uh HNI];omega)
     have hrow:=hok.row
     have hv2:=uh HIV
     rw [hvI] at hv2 hrow
     injection hv2 with e1 _ e3
     subst e1 e3
     obtain ⟨d0,d1,d2,d3,d4,d5⟩:=in_at hrow j m hm
     obtain ⟨g2,n2,c2,hwv⟩:∃ g2 n2 cap2,m.wv=.slice g2 n2 cap2:=row_form (hok.all m hms).ws.row
     rw [hwv] at d0
     have n0:=World.new_ne wr ⟨gI,j*6,none⟩ d0
     obtain ⟨W8,hW8⟩:∃ W8,W8=wr.alloc (.cells #[.slice g2 n2 c2,.int .i64 m.stage,.int .i64 (ruleT m.rule).1,.int .i64 (ruleT m.rule).2.1,fnV (ruleT m.rule).2.2.1,fnV (ruleT m.rule).2.2.2] 76):=⟨_,rfl⟩
     have hb8:Below wr.heap.size wr W8:=by rw [hW8];exact (Below.refl _ _).alloc (Nat.le_refl _) _
     have hc8:W8.heap[wr.heap.size]?=some (.cells #[.slice g2 n2 c2,.int .i64 m.stage,.int .i64 (ruleT m.rule).1,.int .i64 (ruleT m.rule).2.1,fnV (ruleT m.rule).2.2.1,fnV (ruleT m.rule).2.2.2] 76 (0,0)):=by rw [hW8];exact heap_alloc_new _ _
     obtain ⟨⟨r,ns,work,hSt,hen,hwk,hws⟩,h40⟩:=hS
     have hI8:=hI.later (hb8.mono hSt.base)
     have hSt8:=hSt.below hb8
     have hns:ns.length≤40:=by rw [←hen] at h40;simpa [entsN] using h40
     obtain ⟨x,hx⟩:∃ x,x=actG (entsN nss) t wk m.rule (opsT m.ws):=⟨_,rfl⟩
     have HTU:Hid (∀ W,Below W8.heap.size W8 W→Calls Tryz.prog 33 #[.pointer (some ⟨mb,0,none⟩),.pointer (some ⟨sb,0,none⟩),.agg #[.slice g2 n2 c2,.int .i64 m.stage,.int .i64 (ruleT m.rule).1,.int .i64 (ruleT m.rule).2.1,fnV (ruleT m.rule).2.2.1,fnV (ruleT m.rule).2.2.2]] W fun ev w'=>TurnOut W w' sb m (.pointer (if takesW y.xs=true then some ⟨rs.nb,0,none⟩ else none)) ev∧Below W.heap.size W w'):=hide (fun W hb=>by
      have:=turn_none m y mb sb (some ⟨rs.nb,0,none⟩) Bf W (cell_later hb (cq 0 hI8.mkg)) ((hm0.below hI8.below).below hb) hy hIns.stage hIns.plain hIns.size
      unfold InM.val at this
      rw [hwv] at this
      exact this)
     have HDO:Hid (∀ W' W v us,Below W8.heap.size W8 W→TxR W (World.heap W').size v us→us.map (fun u=>u.data.toList)=opsT m.ws→Calls Tryz.prog 20 #[.agg #[.pointer (some ⟨sb,0,none⟩),v,.pointer none,.pointer (if takesW y.xs=true then some ⟨rs.nb,0,none⟩ else none),m.wv,.int .i64 m.stage,.int .i64 (ruleT m.rule).1,.int .i64 (ruleT m.rule).2.1,fnV (ruleT m.rule).2.2.1,fnV (ruleT m.rule).2.2.2]] W fun e w'=>(∃ u,e=.returned u∧DoneV w' B sb (.slice none 0 0) u y.place x)∧Below B W w'∧KeepX W w'):=hide (fun W' W v us hb hT hu=>by
      have:=doStep m y sb B Bf Bs r rs ns nss work (.slice none 0 0) mx W' w W8 W v us hIns hm0 hy hI8.below hI8.wB (uh HG) (uh HMM) HT (uh HMX) (uh HC) hSt8 hI8.sbB (by omega) hws hb hT hu (by rw [hen,hwk];exact hsup) (by
       rw [hen,hwk]
       intro t' wk' e
       rw [e] at hmore
       exact hmore.1)
      rw [hen,hwk,←hx] at this
      exact this)
     obtain ⟨cs8,hr8,hcp8⟩:=hI8.row
     have k1:W8.cell? ⟨mb,1,none⟩=some (.slice (some ⟨w.heap.size,0,none⟩) (p+1) (p+1)):=cq 1 hI8.mkg
     have k2:W8.cell? ⟨w.heap.size,p,none⟩=some (.pointer (some ⟨sb,0,none⟩)):=(cell_of_row _ _ p _ _ _ hr8).trans hcp8
     have HE:Hid (∀ W:World,W.heap[wr.heap.size]?=some (.cells #[.slice g2 n2 c2,.int .i64 m.stage,.int .i64 (ruleT m.rule).1,.int .i64 (ruleT m.rule).2.1,fnV (ruleT m.rule).2.2.1,fnV (ruleT m.rule).2.2.2] 76 (0,0))→W.cell? ⟨wr.heap.size,0,none⟩=some (.slice g2 n2 c2)∧W.cell? ⟨wr.heap.size,1,none⟩=some (.int .i64 m.stage)∧W.cell? ⟨wr.heap.size,2,none⟩=some (.int .i64 (ruleT m.rule).1)∧W.cell? ⟨wr.heap.size,3,none⟩=some (.int .i64 (ruleT m.rule).2.1)∧W.cell? ⟨wr.heap.size,4,none⟩=some (fnV (ruleT m.rule).2.2.1)∧W.cell? ⟨wr.heap.size,5,none⟩=some (fnV (ruleT m.rule).2.2.2)):=
      hide (fun W hW=>⟨cq 0 hW,cq 1 hW,cq 2 hW,cq 3 hW,cq 4 hW,cq 5 hW⟩)
     have HSK:Hid (∀ W,In19 w B mb w.heap.size p sb rs W→W.cell? ⟨mb,1,none⟩=some (.slice (some ⟨w.heap.size,0,none⟩) (p+1) (p+1))∧W.cell? ⟨w.heap.size,p,none⟩=some (.pointer (some ⟨sb,0,none⟩))):=hide (fun W hW=>by
      obtain ⟨cs,h1,h2⟩:=hW.row
      exact ⟨cq 1 hW.mkg,(cell_of_row _ _ p _ _ _ h1).trans h2⟩)
     obtain ⟨e0,e1,e2,e3,e4,e5⟩:=uh HE W8 hc8
     have hB8:B≤W8.heap.size:=Nat.le_trans hSt.base hb8.size
     have HI8:=hide hI8
     have HC8:=hide hc8
     have HMO:=hide hmore
     have HST:=hide hstep
     have HX:=hide hx
     have ip:(0:Int)≤(p:Int):=by omega
     have ip2:(p:Int)<((p+1:Nat):Int):=by omega
     have ip3:(p:Int)<(p:Int)+1:=by omega
     have hes:=er_some
     have hen':=er_nil
     have hea:=er_at
     obtain ⟨st,hst⟩:∃ k,k=m.stage:=⟨_,rfl⟩
     obtain ⟨ra,hra⟩:∃ k,k=(ruleT m.rule).1:=⟨_,rfl⟩
     obtain ⟨rb,hrb⟩:∃ k,k=(ruleT m.rule).2.1:=⟨_,rfl⟩
     obtain ⟨f1,hf1⟩:∃ k,k=(ruleT m.rule).2.2.1:=⟨_,rfl⟩
     obtain ⟨F,hF⟩:∃ k,k=(ruleT m.rule).2.2.2:=⟨_,rfl⟩
     have HDO2:Hid (∀ W' W e,Below W8.heap.size W8 W→TurnOut W' W sb m (.pointer (if takesW y.xs=true then some ⟨rs.nb,0,none⟩ else none)) e→∃ u,e=.returned u∧Calls Tryz.prog 20 #[u] W fun e w'=>(∃ u,e=.returned u∧DoneV w' B sb (.slice none 0 0) u y.place x)∧Below B W w'∧KeepX W w'):=hide (fun W' W e hb ⟨v,us,he,hT,hu⟩=>⟨_,he,uh HDO W' W v us hb hT hu⟩)
     rw [←hst,←hra,←hrb,←hf1,←hF] at HTU HE HC8 hW8
     rw [←hst] at e1 d1
     rw [←hra] at e2 d2
     rw [←hrb] at e3 d3
     rw [←hf1] at e4 d4
     rw [←hF] at e5 d5
     obtain ⟨so,hso⟩:∃ so:Option Addr,so=if takesW y.xs=true then some ⟨rs.nb,0,none⟩ else none:=⟨_,rfl⟩
     rw [←hso] at HTU HDO2
     clear hm hms hIns hne hsup hmore hstep hy hpl hFr hok hm0 hvI hrow hwv hb8 hc8 hSt hen hwk hws h40 hI8 hSt8 hns hx HDO hr8 hcp8 hI hro hrg hst hra hrb hf1 hF hso
     go_upto_region 9 with fail
     rw [←hW8]
     clear hW8 d0 d1 d2 d3 d4 d5 n0
     go_region_held3 (fun w'=>w'.cell? ⟨mb,1,none⟩=some (.slice (some ⟨w.heap.size,0,none⟩) (p+1) (p+1))∧w'.cell? ⟨w.heap.size,p,none⟩=some (.pointer (some ⟨sb,0,none⟩))∧w'.cell? ⟨wr.heap.size,0,none⟩=some (.slice g2 n2 c2)∧w'.cell? ⟨wr.heap.size,1,none⟩=some (.int .i64 st)∧w'.cell? ⟨wr.heap.size,2,none⟩=some (.int .i64 ra)∧w'.cell? ⟨wr.heap.size,3,none⟩=some (.int .i64 rb)∧w'.cell? ⟨wr.heap.size,4,none⟩=some (fnV f1)∧w'.cell? ⟨wr.heap.size,5,none⟩=some (fnV F))
      (first | exact y9 | exact x9 | exact ⟨k1,k2,e0,e1,e2,e3,e4,e5⟩ | go_keep)
      (first
        | (go_at_call 33;refine (uh HTU _ (by exact drew_b _)).mono ?_;rintro e6 w6 ⟨hT6,hb6⟩;obtain ⟨u6,rfl,hD6⟩:=uh HDO2 _ w6 e6 (chain0 hb6) hT6;clear hT6;have hI9:=(uh HI8).later ((chain0 hb6).mono hB8);have hc9:=((chain0 hb6).block _ (Array.getElem?_eq_some_iff.1 (uh HC8)).1).trans (uh HC8);have x9:=And.intro (uh HSK w6 hI9).1 (And.intro (uh HSK w6 hI9).2 (uh HE w6 hc9));clear hI9)
        | (go_at_call 20;refine hD6.mono ?_;clear hD6;rintro e7 w7 ⟨⟨u7,rfl,hV7⟩,hb7,hk7⟩;have hI7:=((uh HI8).later ((chain0 hb6).mono hB8)).later hb7;have HI7:=hide hI7;have y9:=And.intro (uh HSK w7 hI7).1 (And.intro (uh HSK w7 hI7).2 (uh HE w7 (hk7 _ _ _ _ hc9 (by decide) (by decide))));clear hI7))
     have hmo:=uh HMO
     have hst':=uh HST
     rw [←uh HX] at hmo hst'
     clear x9 y9 e0 e1 e2 e3 e4 e5 k1 k2 HE HSK HC8 HI8 HTU HDO2 hb6 hc9 HMO HST HX hk7 hb7 ip ip2 ip3
     cases x with
     | error k=>
       unfold DoneV at hV7
       dsimp only at hV7 hst'
       obtain ⟨q,rfl,hq⟩:=hV7
       have HO:Hid (MadeOut w7 (.returned (.tuple #[.pointer none,.iface 80 (.pointer (some ⟨q,0,none⟩))])) (runG (entsN nss) s.ins [] [])∧Below w.heap.size w w7):=hide ⟨by rw [←hst'];exact ⟨q,rfl,hq⟩,(uh HI7).below⟩
       clear hst' hmo hq
       go_wp2_with fail
       refine bodyPost_ret (v:=.tuple #[.pointer none,.iface 80 (.pointer (some ⟨q,0,none⟩))]) (by simp [results,Tryz.results19,go_sem]) rfl ?_
       exact uh HO
     | ok tw=>
       obtain ⟨t',wk'⟩:=tw
       unfold DoneV at hV7
       dsimp only at hV7 hst' hmo
       obtain ⟨rfl,r',ns',work',hS',ht',hw',hz'⟩:=hV7
       have HR:Hid (In19 w B mb w.heap.size p sb rs w7∧Sta w7 B sb t' wk'∧runOk (entsN nss) (s.ins.drop (j+1)) t' wk'∧runG (entsN nss) (s.ins.drop (j+1)) t' wk'=runG (entsN nss) s.ins [] []):=hide ⟨uh HI7,⟨⟨r',ns',work',hS',ht',hw',hz'⟩,hmo.1⟩,hmo.2,hst'⟩
       have hj1:j+1≤s.ins.length:=by have:=uh HNI;omega
       clear hst' hmo hS' ht' hw' hz' HI7
       go_wp2_with fail
       go_roundw
       case rel=>exact ⟨j+1,t',wk',hj1,by go_num,uh HR⟩
       case measure=>simp [intOf];omega
    ·have hjn:j=s.ins.length:=by have:=uh HNI;omega
     have hfin:runG (entsN nss) s.ins [] []=.ok (t,wk):=by rw [←hrg,hjn,List.drop_length];rfl
     have HFIN:Hid (Fin19 w mb p rs (entsN nss) s.ins wr):=hide ⟨B,sb,t,wk,hI,hS,hfin⟩
     clear hI hS hro hrg hjn hfin
     go_wp2_with fail
     go_roundw
     case rel=>exact .inr ⟨by go_num,uh HFIN⟩
     case measure=>simp [intOf]
  ·obtain ⟨B,sb,t,wk,hI,hS,hrg⟩:=hfin
   have HO:Hid (∀ W,Below wr.heap.size wr W→MadeOut W (.returned (.tuple #[.pointer (some ⟨sb,0,none⟩),.nilIface])) (runG (entsN nss) s.ins [] [])∧Below w.heap.size w W):=hide (fun W hb=>⟨by
    rw [hrg]
    obtain ⟨⟨r',ns',work',hS',ht',hw',hz'⟩,h40⟩:=hS
    exact ⟨B,sb,rfl,⟨r',ns',work',hS'.below hb,ht',hw',hz'⟩,h40⟩,hI.below.trans (hb.mono hI.below.size)⟩)
   obtain ⟨cs,h1,h2⟩:=hI.row
   have k1:wr.cell? ⟨mb,1,none⟩=some (.slice (some ⟨w.heap.size,0,none⟩) (p+1) (p+1)):=cq 1 hI.mkg
   have k2:wr.cell? ⟨w.heap.size,p,none⟩=some (.pointer (some ⟨sb,0,none⟩)):=(cell_of_row _ _ p _ _ _ h1).trans h2
   have c6:=((uh HFM).below hI.below).c0
   rw [uh HP] at c6
   have ip:(0:Int)≤(p:Int):=by omega
   have ip2:(p:Int)<((p+1:Nat):Int):=by omega
   have ip3:(p:Int)<(p:Int)+1:=by omega
   have i1:IntKind.i64.wrap (((p+1:Nat):Int)-1)=(p:Int):=by
    rw [show (((p+1:Nat):Int)-1)=((p:Nat):Int) by omega];exact wrap_i64 p (by omega)
   clear hI hS hrg h1 h2 HP3 cg
   go_upto_region 14 with fail
   go_quiet (fail)
   go_wp2_with fail
   refine bodyPost_ret (v:=.tuple #[.pointer (some ⟨sb,0,none⟩),.nilIface]) (by simp [results,Tryz.results19,go_sem]) rfl ?_
   exact uh HO _ (by exact ⟨rfl,rfl,rfl,Nat.le_refl _,fun k _=>rfl⟩)
end Go.Proofs.YtehfpjcclknipaaGreatDoor.T
