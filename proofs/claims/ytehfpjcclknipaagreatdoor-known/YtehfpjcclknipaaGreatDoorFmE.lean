import Derived.Test.YtehfpjcclknipaaGreatDoorJFmB
namespace Go.Proofs.YtehfpjcclknipaaGreatDoor
open Go.RowKit Go.Maps
theorem sum_mem {α:Type}(f:α→Nat):∀ (l:List α) (k:Nat) (x:α),l[k]?=some x→((l.take k).map f).sum+f x≤(l.map f).sum:=by
 intro l
 induction l with
 | nil=>intro k x h;simp at h
 | cons a r ih=>
   intro k x h
   cases k with
   | zero=>simp at h;subst h;simp
   | succ k=>
     simp only [List.getElem?_cons_succ] at h
     have:=ih k x h
     simp only [List.take_succ_cons,List.map_cons,List.sum_cons]
     omega
theorem flat_len {α:Type}(g:α→List UInt8) (f:α→Nat) (h:∀ x,(g x).length≤f x) (l:List α):((l.map g).flatten).length≤(l.map f).sum:=by
 induction l with
 | nil=>simp
 | cons a r ih=>
   simp only [List.map_cons,List.flatten_cons,List.length_append,List.sum_cons]
   have:=h a
   omega
theorem flat_snoc {α:Type}(g:α→List UInt8) (l:List α) (k:Nat) (x:α) (h:l[k]?=some x):((l.take (k+1)).map g).flatten=((l.take k).map g).flatten++g x:=by
 rw [List.take_add_one,h];simp
def inL (m:InM):List UInt8:=formI (m.ws.map WdM.xs)++[10]
def insL (l:List InM):List UInt8:=(l.map inL).flatten
def stL (s:StM):List UInt8:=insL s.ins
def filL (ss:List StM):List UInt8:=(ss.map stL).flatten
def szM (m:InM):Nat:=szI (m.ws.map WdM.xs)+1
def szL (l:List InM):Nat:=(l.map szM).sum
def szT (s:StM):Nat:=szL s.ins
def szF (ss:List StM):Nat:=(ss.map szT).sum
theorem inL_len (m:InM):(inL m).length≤szM m:=by
 unfold inL szM
 rw [List.length_append]
 have:=formI_len (m.ws.map WdM.xs)
 simp;omega
theorem insL_len (l:List InM):(insL l).length≤szL l:=flat_len inL szM inL_len l
theorem filL_len (ss:List StM):(filL ss).length≤szF ss:=flat_len stL szT (fun s=>insL_len s.ins) ss
set_option maxHeartbeats 1000000 in
set_option maxRecDepth 10000 in
theorem form_file (B fb:Nat) (sv:Value) (ss:List StM) (w:World) (h:FileM w B fb sv ss) (hz:szF ss≤268435456) :
  Calls Tryz.prog 30 #[.pointer (some ⟨fb,0,none⟩)] w fun ev w'=>(∃ u:ByteArray,ev=.returned (.string u)∧u.data.toList=filL ss)∧Below w.heap.size w w':=by
 have c0:=h.c0
 obtain ⟨ao,n',cap,hsv⟩:=row_form h.row
 have hn':n'=ss.length:=by
  rcases h.row.2 with ⟨e,h0⟩ | ⟨gg,cc,cur,e,_⟩
  ·rw [e] at hsv;injection hsv with _ h1 _;rw [←h1,h0]
  ·rw [e] at hsv;injection hsv with _ h1 _;exact h1.symm
 have hsh:=h.short
 obtain ⟨n,hn⟩:∃ n,n=ss.length:=⟨_,rfl⟩
 rw [←hn] at hn' hsh
 subst hn'
 have HN:=hide hn
 have HF:=hide h
 have HSV:=hide hsv
 have HZ:=hide hz
 rw [hsv] at c0
 obtain ⟨W0,hW0⟩:∃ W0,W0=w.alloc (.cells #[.pointer none,.slice none 0 0] 147):=⟨_,rfl⟩
 have hb0:Below w.heap.size w W0:=by rw [hW0];exact (Below.refl _ _).alloc (Nat.le_refl _) _
 have HB0:=hide hb0
 have HL0:Hid (Bld w.heap.size w.heap.size [] W0):=hide (by rw [hW0];exact bld_new w)
 have d0:W0.cell? ⟨fb,0,none⟩=some (.slice ao n' cap):=cell_later hb0 c0
 clear h hz hn hsv hb0 c0
 go_enter Tryz.func30,Tryz.ntmps30
 go_upto_region 2 with fail
 rw [←hW0]
 clear hW0
 go_wp2_with fail
 clear d0
 go_loopw [13] (fun i wr=>∃ k:Nat,k≤n'∧i=.int .i64 k∧Bld w.heap.size w.heap.size (filL (ss.take k)) wr∧Below w.heap.size w wr) (fun i _=>n'-(intOf i).toNat)
 case atStart=>exact ⟨0,Nat.zero_le _,rfl,uh HL0,uh HB0⟩
 case round=>
  obtain ⟨k,hk,rfl,hB,hb⟩:=hrel
  have HB:=hide hB
  have Hb:=hide hb
  clear hB HL0 HB0
  by_cases hlt:k<n'
  ·obtain ⟨s,hs⟩:∃ s,ss[k]?=some s:=⟨_,List.getElem?_eq_getElem (by rw [←uh HN];exact hlt)⟩
   have hFr:=(uh HF).below hb
   have hrow:=hFr.row
   obtain ⟨g,cap',hv,_,hgl⟩:=World.ownsRow.form hrow (by rw [←uh HN];omega)
   have hv2:=uh HSV
   rw [hv,←uh HN] at hv2
   injection hv2 with e1 e2 e3
   subst e1 e3
   clear e2
   rw [hv] at hrow
   obtain ⟨q0,q1⟩:=st_at hrow k s hs
   have hok:=hFr.all s (List.mem_of_getElem? hs)
   obtain ⟨aoi,ni,capi,hiv⟩:=row_form hok.row
   have hni:ni=s.ins.length:=by
    rcases hok.row.2 with ⟨e,h0⟩ | ⟨gg,cc,cur,e,_⟩
    ·rw [e] at hiv;injection hiv with _ h1 _;rw [←h1,h0]
    ·rw [e] at hiv;injection hiv with _ h1 _;exact h1.symm
   have hish:=hok.short
   rw [←hni] at hish
   rw [hiv] at q1
   have n0:=World.new_ne wr ⟨g,k*2,none⟩ q0
   obtain ⟨W1,hW1⟩:∃ W1,W1=wr.alloc (.cells #[.string s.name,.slice aoi ni capi] 106):=⟨_,rfl⟩
   have hb1:Below wr.heap.size wr W1:=by rw [hW1];exact (Below.refl _ _).alloc (Nat.le_refl _) _
   have hc1:W1.heap[wr.heap.size]?=some (.cells #[.string s.name,.slice aoi ni capi] 106 (0,0)):=by rw [hW1];exact heap_alloc_new _ _
   have p1:W1.cell? ⟨wr.heap.size,1,none⟩=some (.slice aoi ni capi):=cq 1 hc1
   have HB1:Hid (Below w.heap.size w W1):=hide (hb.trans (hb1.mono hb.size))
   have HL1:Hid (Bld w.heap.size w.heap.size (filL (ss.take k)++insL (s.ins.take 0)) W1):=hide (by
    have:=(uh HB).later hb1
    simpa [insL] using this)
   have HOK:Hid (s.Ok w B):=hide ((uh HF).all s (List.mem_of_getElem? hs))
   have HIV:=hide hiv
   have HNI:=hide hni
   have HSS:=hide (flat_snoc stL ss k s hs)
   have HSZ:=hide (sum_mem szT ss k s hs)
   clear hs hFr hrow hv hok hiv hni hb1 hc1 hb
   go_upto_region 5 with fail
   rw [←hW1]
   clear hW1 q0 q1 n0
   go_wp2_with fail
   clear p1
   go_loopw [20] (fun i w2=>∃ j:Nat,j≤ni∧i=.int .i64 j∧Bld w.heap.size w.heap.size (filL (ss.take k)++insL (s.ins.take j)) w2∧Below w.heap.size w w2) (fun i _=>ni-(intOf i).toNat)
   case atStart=>exact ⟨0,Nat.zero_le _,rfl,uh HL1,uh HB1⟩
   case round=>
    obtain ⟨j,hj,rfl,hB2,hb2⟩:=hrel
    have HB2:=hide hB2
    have Hb2:=hide hb2
    clear hB2 HL1 HB1
    by_cases hlt2:j<ni
    ·have hlt3:j<s.ins.length:=by rw [←uh HNI];exact hlt2
     obtain ⟨m,hm⟩:∃ m,s.ins[j]?=some m:=⟨_,List.getElem?_eq_getElem hlt3⟩
     have hokr:=(uh HOK).below hb2
     have hrow:=hokr.row
     obtain ⟨gi,capj,hvi,_,hgil⟩:=World.ownsRow.form hrow (by omega)
     have hvi2:=uh HIV
     rw [hvi,←uh HNI] at hvi2
     injection hvi2 with e1 e2 e3
     subst e1 e3
     clear e2
     rw [hvi] at hrow
     obtain ⟨q0,q1,q2,q3,q4,q5⟩:=in_at hrow j m hm
     have hmok:=hokr.all m (List.mem_of_getElem? hm)
     obtain ⟨aow,nw,capw,hwv⟩:=row_form hmok.ws.row
     rw [hwv] at q0
     have n0:=World.new_ne wr ⟨gi,j*6,none⟩ q0
     obtain ⟨W2,hW2⟩:∃ W2,W2=wr.alloc (.cells #[.slice aow nw capw,.int .i64 m.stage,.int .i64 (ruleT m.rule).1,.int .i64 (ruleT m.rule).2.1,fnV (ruleT m.rule).2.2.1,fnV (ruleT m.rule).2.2.2] 76):=⟨_,rfl⟩
     have hb3:Below wr.heap.size wr W2:=by rw [hW2];exact (Below.refl _ _).alloc (Nat.le_refl _) _
     have hc1:W2.heap[wr.heap.size]?=some (.cells #[.slice aow nw capw,.int .i64 m.stage,.int .i64 (ruleT m.rule).1,.int .i64 (ruleT m.rule).2.1,fnV (ruleT m.rule).2.2.1,fnV (ruleT m.rule).2.2.2] 76 (0,0)):=by rw [hW2];exact heap_alloc_new _ _
     have r0:W2.cell? ⟨wr.heap.size,0,none⟩=some (.slice aow nw capw):=cq 0 hc1
     have r1:W2.cell? ⟨wr.heap.size,1,none⟩=some (.int .i64 m.stage):=cq 1 hc1
     have r2:W2.cell? ⟨wr.heap.size,2,none⟩=some (.int .i64 (ruleT m.rule).1):=cq 2 hc1
     have r3:W2.cell? ⟨wr.heap.size,3,none⟩=some (.int .i64 (ruleT m.rule).2.1):=cq 3 hc1
     have r4:W2.cell? ⟨wr.heap.size,4,none⟩=some (fnV (ruleT m.rule).2.2.1):=cq 4 hc1
     have r5:W2.cell? ⟨wr.heap.size,5,none⟩=some (fnV (ruleT m.rule).2.2.2):=cq 5 hc1
     have hmsz:=sum_mem szM s.ins j m hm
     have HLEN:Hid ((filL (ss.take k)++insL (s.ins.take j)).length+(szI (m.ws.map WdM.xs)+1)≤268435456):=hide (by
      have h1:=filL_len (ss.take k)
      have h2:=insL_len (s.ins.take j)
      have h3:szF (ss.take k)+szL s.ins≤szF ss:=uh HSZ
      have h4:=uh HZ
      have h5:szL (s.ins.take j)+(szI (m.ws.map WdM.xs)+1)≤szL s.ins:=hmsz
      rw [List.length_append]
      omega)
     have hF:=form_in m B W2 (hmok.below hb3) (by have:=uh HLEN;omega)
     unfold InM.val at hF
     rw [hwv] at hF
     have HFL:=hide (formI_len (m.ws.map WdM.xs))
     have HSN:=hide (flat_snoc inL s.ins j m hm)
     have HB3:Hid (Below w.heap.size w W2):=hide (hb2.trans (hb3.mono hb2.size))
     have HL3:=hide ((uh HB2).later hb3)
     clear hm hokr hrow hvi hmok hwv hb3 hc1 hmsz hb2
     go_upto_region 8 with fail
     rw [←hW2]
     clear hW2 q0 q1 q2 q3 q4 q5 n0
     go_wp2_with (first
      | (go_at_call 70;refine hF.mono ?_;clear hF;rintro ev w3 ⟨⟨u,rfl,hu⟩,hb4⟩;have HU:=hide hu;have HB4:=hide hb4;have HL4:=hide ((uh HL3).later hb4);have hus:u.size≤268435456:=(by have h1:=uh HFL;have h2:=uh HLEN;rw [←hu,←Lib.size_eq] at h1;omega);have HV:Hid ((u++{ data:=#[10] }:ByteArray).size=u.size+1):=hide (by rw [ByteArray.size_append];rfl);clear hu hb4)
      | (go_at_call 59;refine (wsB _ _ _ _ _ (uh HL4) ?_).mono ?_;(have h1:=uh HFL;have h2:=uh HLEN;rw [←uh HU,←Lib.size_eq] at h1;rw [uh HV];omega);rintro ev w5 ⟨rfl,hB5,hb5⟩))
     have HE:Hid (filL (ss.take k)++insL (s.ins.take (j+1))=filL (ss.take k)++insL (s.ins.take j)++(u++{ data:=#[10] }:ByteArray).data.toList):=hide (by
      have h1:=uh HSN
      show _++((s.ins.take (j+1)).map inL).flatten=_
      rw [h1,List.append_assoc]
      unfold insL inL
      rw [←uh HU]
      simp)
     go_roundw
     case rel=>exact ⟨j+1,hlt2,by go_num,by rw [uh HE];exact hB5,((uh HB3).trans ((uh HB4).mono (uh HB3).size)).trans hb5⟩
     case measure=>simp [intOf];omega
    ·have hje:j=ni:=by omega
     have HE:Hid (filL (ss.take k)++insL (s.ins.take j)=filL (ss.take (k+1))):=hide (by
      rw [show s.ins.take j=s.ins from List.take_of_length_le (by rw [hje,uh HNI];exact Nat.le_refl _)]
      exact (uh HSS).symm)
     clear hje hb2
     go_wp2_with fail
     go_roundw
     case rel=>exact ⟨k+1,hlt,by go_num,by rw [←uh HE];exact uh HB2,uh Hb2⟩
     case measure=>simp [intOf];omega
  ·have hke:k=n':=by omega
   have hW:=wstr _ _ _ wr (uh HB)
   have HS:Hid (filL (ss.take k)=filL ss):=hide (by rw [List.take_of_length_le (by rw [hke,uh HN];exact Nat.le_refl _)])
   clear hke hb
   go_wp2_with (go_at_call 62;refine hW.mono ?_;clear hW;rintro ev w3 ⟨rfl,hb3⟩)
   go_ret
   exact ⟨⟨_,rfl,(List.toList_toArray).trans (uh HS)⟩,(uh Hb).trans hb3⟩
end Go.Proofs.YtehfpjcclknipaaGreatDoor
