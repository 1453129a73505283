import Derived.Test.YtehfpjcclknipaaGreatDoorJBmC
import Derived.Test.YtehfpjcclknipaaGreatDoorJAs
import Derived.Test.YtehfpjcclknipaaGreatDoorJSpH
import Derived.Test.YtehfpjcclknipaaGreatDoorJBmD
namespace Go.Proofs.YtehfpjcclknipaaGreatDoor
open Go.RowKit Go.Maps
theorem sum_mem {α:Type} (f:α→Nat):∀ (l:List α) (k:Nat) (x:α),l[k]?=some x→((l.take k).map f).sum+f x≤(l.map f).sum:=by
 intro l
 induction l with
 | nil=>intro k x h; simp at h
 | cons a r ih=>
  intro k x h
  cases k with
  | zero=>simp at h; subst h; simp
  | succ k=>
   simp only [List.getElem?_cons_succ] at h
   have:=ih k x h
   simp only [List.take_succ_cons,List.map_cons,List.sum_cons]
   omega
theorem flat_len {α:Type} (g:α→List UInt8) (f:α→Nat) (h:∀ x,(g x).length≤f x) (l:List α):((l.map g).flatten).length≤(l.map f).sum:=by
 induction l with
 | nil=>simp
 | cons a r ih=>
  simp only [List.map_cons,List.flatten_cons,List.length_append,List.sum_cons]
  have:=h a
  omega
theorem flat_snoc {α:Type} (g:α→List UInt8) (l:List α) (k:Nat) (x:α) (h:l[k]?=some x):((l.take (k+1)).map g).flatten=((l.take k).map g).flatten++g x:=by
 rw [List.take_add_one,h]; simp
def inL (m:InM):List UInt8:=formI (m.ws.map WdM.xs)++[10]
def insL (l:List InM):List UInt8:=(l.map inL).flatten
def stL (s:StM):List UInt8:=insL s.ins
def filL (ss:List StM):List UInt8:=(ss.map stL).flatten
def szM (m:InM):Nat:=szI (m.ws.map WdM.xs)+1
def szL (l:List InM):Nat:=(l.map szM).sum
def szT (s:StM):Nat:=szL s.ins
def szF (ss:List StM):Nat:=(ss.map szT).sum
theorem inL_len (m:InM):(inL m).length≤szM m:=by
 unfold inL szM
 rw [List.length_append]
 have:=formI_len (m.ws.map WdM.xs)
 simp; omega
theorem insL_len (l:List InM):(insL l).length≤szL l:=flat_len inL szM inL_len l
theorem filL_len (ss:List StM):(filL ss).length≤szF ss:=flat_len stL szT (fun s=>insL_len s.ins) ss
set_option maxHeartbeats 1000000 in
set_option maxRecDepth 10000 in
theorem form_file (B fb:Nat) (sv:Value) (ss:List StM) (w:World) (h:FileM w B fb sv ss) (hz:szF ss≤268435456) :
  Calls Tryz.prog 30 #[.pointer (some ⟨fb,0,none⟩)] w fun ev w'=>(∃ u:ByteArray,ev=.returned (.string u)∧u.data.toList=filL ss)∧Below w.heap.size w w':=by
 have c0:=h.c0
 obtain ⟨ao,n',cap,hsv⟩:=row_form h.row
 have hn':n'=ss.length:=by
  rcases h.row.2 with ⟨e,h0⟩ | ⟨gg,cc,cur,e,_⟩
  ·rw [e] at hsv; injection hsv with _ h1 _; rw [← h1,h0]
  ·rw [e] at hsv; injection hsv with _ h1 _; exact h1.symm
 have hsh:=h.short
 obtain ⟨n,hn⟩:∃ n,n=ss.length:=⟨_,rfl⟩
 rw [← hn] at hn' hsh
 subst hn'
 have HN:=hide hn
 have HF:=hide h
 have HSV:=hide hsv
 have HZ:=hide hz
 rw [hsv] at c0
 obtain ⟨W0,hW0⟩:∃ W0,W0=w.alloc (.cells #[.pointer none,.slice none 0 0] 147):=⟨_,rfl⟩
 have hb0:Below w.heap.size w W0:=by rw [hW0]; exact (Below.refl _ _).alloc (Nat.le_refl _) _
 have HB0:=hide hb0
 have HL0:Hid (Bld w.heap.size w.heap.size [] W0):=hide (by rw [hW0]; exact bld_new w)
 have d0:W0.cell? ⟨fb,0,none⟩=some (.slice ao n' cap):=cell_later hb0 c0
 clear h hz hn hsv hb0 c0
 go_enter Tryz.func30,Tryz.ntmps30
 go_upto_region 2 with fail
 rw [← hW0]
 clear hW0
 go_wp2_with fail
 clear d0
 go_loopw [13] (fun i wr=>∃ k:Nat,k≤n'∧i=.int .i64 k∧Bld w.heap.size w.heap.size (filL (ss.take k)) wr∧Below w.heap.size w wr) (fun i _=>n'-(intOf i).toNat)
 case atStart=>exact ⟨0,Nat.zero_le _,rfl,uh HL0,uh HB0⟩
 case round=>
  obtain ⟨k,hk,rfl,hB,hb⟩:=hrel
  have HB:=hide hB
  have Hb:=hide hb
  clear hB HL0 HB0
  by_cases hlt:k<n'
  ·obtain ⟨s,hs⟩:∃ s,ss[k]?=some s:=⟨_,List.getElem?_eq_getElem (by rw [← uh HN]; exact hlt)⟩
   have hFr:=(uh HF).below hb
   have hrow:=hFr.row
   obtain ⟨g,cap',hv,_,hgl⟩:=World.ownsRow.form hrow (by rw [← uh HN]; omega)
   have hv2:=uh HSV
   rw [hv,← uh HN] at hv2
   injection hv2 with e1 e2 e3
   subst e1 e3
   clear e2
   rw [hv] at hrow
   obtain ⟨q0,q1⟩:=st_at hrow k s hs
   have hok:=hFr.all s (List.mem_of_getElem? hs)
   obtain ⟨aoi,ni,capi,hiv⟩:=row_form hok.row
   have hni:ni=s.ins.length:=by
    rcases hok.row.2 with ⟨e,h0⟩ | ⟨gg,cc,cur,e,_⟩
    ·rw [e] at hiv; injection hiv with _ h1 _; rw [← h1,h0]
    ·rw [e] at hiv; injection hiv with _ h1 _; exact h1.symm
   have hish:=hok.short
   rw [← hni] at hish
   rw [hiv] at q1
   have n0:=World.new_ne wr ⟨g,k*2,none⟩ q0
   obtain ⟨W1,hW1⟩:∃ W1,W1=wr.alloc (.cells #[.string s.name,.slice aoi ni capi] 106):=⟨_,rfl⟩
   have hb1:Below wr.heap.size wr W1:=by rw [hW1]; exact (Below.refl _ _).alloc (Nat.le_refl _) _
   have hc1:W1.heap[wr.heap.size]?=some (.cells #[.string s.name,.slice aoi ni capi] 106 (0,0)):=by rw [hW1]; exact heap_alloc_new _ _
   have p1:W1.cell? ⟨wr.heap.size,1,none⟩=some (.slice aoi ni capi):=cq 1 hc1
   have HB1:Hid (Below w.heap.size w W1):=hide (hb.trans (hb1.mono hb.size))
   have HL1:Hid (Bld w.heap.size w.heap.size (filL (ss.take k)++insL (s.ins.take 0)) W1):=hide (by
    have:=(uh HB).later hb1
    simpa [insL] using this)
   have HOK:Hid (s.Ok w B):=hide ((uh HF).all s (List.mem_of_getElem? hs))
   have HIV:=hide hiv
   have HNI:=hide hni
   have HSS:=hide (flat_snoc stL ss k s hs)
   have HSZ:=hide (sum_mem szT ss k s hs)
   clear hs hFr hrow hv hok hiv hni hb1 hc1 hb
   go_upto_region 5 with fail
   rw [← hW1]
   clear hW1 q0 q1 n0
   go_wp2_with fail
   clear p1
   go_loopw [20] (fun i w2=>∃ j:Nat,j≤ni∧i=.int .i64 j∧Bld w.heap.size w.heap.size (filL (ss.take k)++insL (s.ins.take j)) w2∧Below w.heap.size w w2) (fun i _=>ni-(intOf i).toNat)
   case atStart=>exact ⟨0,Nat.zero_le _,rfl,uh HL1,uh HB1⟩
   case round=>
    obtain ⟨j,hj,rfl,hB2,hb2⟩:=hrel
    have HB2:=hide hB2
    have Hb2:=hide hb2
    clear hB2 HL1 HB1
    by_cases hlt2:j<ni
    ·have hlt3:j<s.ins.length:=by rw [← uh HNI]; exact hlt2
     obtain ⟨m,hm⟩:∃ m,s.ins[j]?=some m:=⟨_,List.getElem?_eq_getElem hlt3⟩
     have hokr:=(uh HOK).below hb2
     have hrow:=hokr.row
     obtain ⟨gi,capj,hvi,_,hgil⟩:=World.ownsRow.form hrow (by omega)
     have hvi2:=uh HIV
     rw [hvi,← uh HNI] at hvi2
     injection hvi2 with e1 e2 e3
     subst e1 e3
     clear e2
     rw [hvi] at hrow
     obtain ⟨q0,q1,q2,q3,q4,q5⟩:=in_at hrow j m hm
     have hmok:=hokr.all m (List.mem_of_getElem? hm)
     obtain ⟨aow,nw,capw,hwv⟩:=row_form hmok.ws.row
     rw [hwv] at q0
     have n0:=World.new_ne wr ⟨gi,j*6,none⟩ q0
     obtain ⟨W2,hW2⟩:∃ W2,W2=wr.alloc (.cells #[.slice aow nw capw,.int .i64 m.stage,.int .i64 (ruleT m.rule).1,.int .i64 (ruleT m.rule).2.1,fnV (ruleT m.rule).2.2.1,fnV (ruleT m.rule).2.2.2] 76):=⟨_,rfl⟩
     have hb3:Below wr.heap.size wr W2:=by rw [hW2]; exact (Below.refl _ _).alloc (Nat.le_refl _) _
     have hc1:W2.heap[wr.heap.size]?=some (.cells #[.slice aow nw capw,.int .i64 m.stage,.int .i64 (ruleT m.rule).1,.int .i64 (ruleT m.rule).2.1,fnV (ruleT m.rule).2.2.1,fnV (ruleT m.rule).2.2.2] 76 (0,0)):=by rw [hW2]; exact heap_alloc_new _ _
     have r0:W2.cell? ⟨wr.heap.size,0,none⟩=some (.slice aow nw capw):=cq 0 hc1
     have r1:W2.cell? ⟨wr.heap.size,1,none⟩=some (.int .i64 m.stage):=cq 1 hc1
     have r2:W2.cell? ⟨wr.heap.size,2,none⟩=some (.int .i64 (ruleT m.rule).1):=cq 2 hc1
     have r3:W2.cell? ⟨wr.heap.size,3,none⟩=some (.int .i64 (ruleT m.rule).2.1):=cq 3 hc1
     have r4:W2.cell? ⟨wr.heap.size,4,none⟩=some (fnV (ruleT m.rule).2.2.1):=cq 4 hc1
     have r5:W2.cell? ⟨wr.heap.size,5,none⟩=some (fnV (ruleT m.rule).2.2.2):=cq 5 hc1
     have hmsz:=sum_mem szM s.ins j m hm
     have HLEN:Hid ((filL (ss.take k)++insL (s.ins.take j)).length+(szI (m.ws.map WdM.xs)+1)≤268435456):=hide (by
      have h1:=filL_len (ss.take k)
      have h2:=insL_len (s.ins.take j)
      have h3:szF (ss.take k)+szL s.ins≤szF ss:=uh HSZ
      have h4:=uh HZ
      have h5:szL (s.ins.take j)+(szI (m.ws.map WdM.xs)+1)≤szL s.ins:=hmsz
      rw [List.length_append]
      omega)
     have hF:=form_in m B W2 (hmok.below hb3) (by have:=uh HLEN; omega)
     unfold InM.val at hF
     rw [hwv] at hF
     have HFL:=hide (formI_len (m.ws.map WdM.xs))
     have HSN:=hide (flat_snoc inL s.ins j m hm)
     have HB3:Hid (Below w.heap.size w W2):=hide (hb2.trans (hb3.mono hb2.size))
     have HL3:=hide ((uh HB2).later hb3)
     clear hm hokr hrow hvi hmok hwv hb3 hc1 hmsz hb2
     go_upto_region 8 with fail
     rw [← hW2]
     clear hW2 q0 q1 q2 q3 q4 q5 n0
     go_wp2_with (first
      | (go_at_call 70; refine hF.mono ?_; clear hF; rintro ev w3 ⟨⟨u,rfl,hu⟩,hb4⟩; have HU:=hide hu; have HB4:=hide hb4; have HL4:=hide ((uh HL3).later hb4); have hus:u.size≤268435456:=(by have h1:=uh HFL; have h2:=uh HLEN; rw [← hu,← Lib.size_eq] at h1; omega); have HV:Hid ((u++{ data:=#[10] }:ByteArray).size=u.size+1):=hide (by rw [ByteArray.size_append]; rfl); clear hu hb4)
      | (go_at_call 59; refine (wsB _ _ _ _ _ (uh HL4) ?_).mono ?_; (have h1:=uh HFL; have h2:=uh HLEN; rw [← uh HU,← Lib.size_eq] at h1; rw [uh HV]; omega); rintro ev w5 ⟨rfl,hB5,hb5⟩))
     have HE:Hid (filL (ss.take k)++insL (s.ins.take (j+1))=filL (ss.take k)++insL (s.ins.take j)++(u++{ data:=#[10] }:ByteArray).data.toList):=hide (by
      have h1:=uh HSN
      show _++((s.ins.take (j+1)).map inL).flatten=_
      rw [h1,List.append_assoc]
      unfold insL inL
      rw [← uh HU]
      simp)
     go_roundw
     case rel=>exact ⟨j+1,hlt2,by go_num,by rw [uh HE]; exact hB5,((uh HB3).trans ((uh HB4).mono (uh HB3).size)).trans hb5⟩
     case measure=>simp [intOf]; omega
    ·have hje:j=ni:=by omega
     have HE:Hid (filL (ss.take k)++insL (s.ins.take j)=filL (ss.take (k+1))):=hide (by
      rw [show s.ins.take j=s.ins from List.take_of_length_le (by rw [hje,uh HNI]; exact Nat.le_refl _)]
      exact (uh HSS).symm)
     clear hje hb2
     go_wp2_with fail
     go_roundw
     case rel=>exact ⟨k+1,hlt,by go_num,by rw [← uh HE]; exact uh HB2,uh Hb2⟩
     case measure=>simp [intOf]; omega
  ·have hke:k=n':=by omega
   have hW:=wstr _ _ _ wr (uh HB)
   have HS:Hid (filL (ss.take k)=filL ss):=hide (by rw [List.take_of_length_le (by rw [hke,uh HN]; exact Nat.le_refl _)])
   clear hke hb
   go_wp2_with (go_at_call 62; refine hW.mono ?_; clear hW; rintro ev w3 ⟨rfl,hb3⟩)
   go_ret
   exact ⟨⟨_,rfl,(List.toList_toArray).trans (uh HS)⟩,(uh Hb).trans hb3⟩
end Go.Proofs.YtehfpjcclknipaaGreatDoor
namespace Go.Proofs.YtehfpjcclknipaaGreatDoor
open Go.RowKit Go.Extern.Stop Go.Stop Go.Extern
theorem Tryz.valueOf85 (t:Addr) (w:World):(ReflectliteValue.unpack (.iface 85 (.pointer (some t)))).run Tryz.prog w
  = .ok (.agg #[.pointer (some ⟨22,85,none⟩),.pointer (some ⟨w.heap.size,0,none⟩),.int .u64 150]) (w.alloc (.cells #[.pointer (some t)] 85)):=by kernel_rfl
theorem Tryz.valueOf22 (n:Int) (w:World):(ReflectliteValue.unpack (.iface 22 (.int .i64 n))).run Tryz.prog w
  = .ok (.agg #[.pointer (some ⟨22,22,none⟩),.pointer (some ⟨w.heap.size,0,none⟩),.int .u64 130]) (w.alloc (.cells #[.int .i64 n] 22)):=by kernel_rfl
theorem Tryz.type85 (a:Addr) (w:World):(ReflectliteValue.methodAny (ReflectliteValue.valueError "reflectlite.Value.Type" 0) (fun t _ _ _=>ReflectliteType.toType t) #[.agg #[.pointer (some ⟨22,85,none⟩),.pointer (some a),.int .u64 150]]).run Tryz.prog w
  = .ok (.iface 168 (.agg #[.pointer (some ⟨22,85,none⟩)])) w:=by kernel_rfl
theorem Tryz.kind85 (w:World):((ReflectliteType.abiMethod fun t=>(fun a:Nat=>Value.int IntKind.u8 (a:Int)) <$> Rtype.kind t) #[.pointer (some ⟨22,85,none⟩)]).run Tryz.prog w=.ok (.int .u8 22) w:=by kernel_rfl
theorem Tryz.kind22 (w:World):((ReflectliteType.abiMethod fun t=>(fun a:Nat=>Value.int IntKind.u8 (a:Int)) <$> Rtype.kind t) #[.pointer (some ⟨22,22,none⟩)]).run Tryz.prog w=.ok (.int .u8 2) w:=by kernel_rfl
theorem Tryz.elem85 (w:World):(ReflectliteType.method ReflectliteType.elem #[.agg #[.pointer (some ⟨22,85,none⟩)]]).run Tryz.prog w=.ok (.iface 168 (.agg #[.pointer (some ⟨22,22,none⟩)])) w:=by kernel_rfl
theorem Tryz.implements22 (w:World):(ReflectliteType.relation "Implements" ReflectliteType.implements_ #[.agg #[.pointer (some ⟨22,22,none⟩)],.iface 168 (.agg #[.pointer (some ⟨22,47,none⟩)])]).run Tryz.prog w=.ok (.bool true) w:=by kernel_rfl
theorem Tryz.typeOf22 (v:Value) (w:World):(ReflectliteType.typeOf #[.iface 22 v]).run Tryz.prog w=.ok (.iface 168 (.agg #[.pointer (some ⟨22,22,none⟩)])) w:=by kernel_rfl
theorem Tryz.assignableE83 (w:World):(ReflectliteType.relation "AssignableTo" ReflectliteType.assignableTo #[.agg #[.pointer (some ⟨22,22,none⟩)],.iface 168 (.agg #[.pointer (some ⟨22,80,none⟩)])]).run Tryz.prog w=.ok (.bool false) w:=by kernel_rfl
theorem Tryz.assignable22 (w:World):(ReflectliteType.relation "AssignableTo" ReflectliteType.assignableTo #[.agg #[.pointer (some ⟨22,22,none⟩)],.iface 168 (.agg #[.pointer (some ⟨22,22,none⟩)])]).run Tryz.prog w=.ok (.bool true) w:=by kernel_rfl
theorem Tryz.parts85 (a:Addr) (w:World):(ReflectliteValue.parts (.agg #[.pointer (some ⟨22,85,none⟩),.pointer (some a),.int .u64 150])).run Tryz.prog w=.ok (some (85,a,150)) w:=by kernel_rfl
theorem Tryz.isNil85 (a p:Addr) (W:World) (ha:W.cell? a=some (.pointer (some p))) :
  (ReflectliteValue.method (ReflectliteValue.valueError "reflectlite.Value.IsNil" 0) ReflectliteValue.isNil #[.agg #[.pointer (some ⟨22,85,none⟩),.pointer (some a),.int .u64 150]]).run Tryz.prog W=.ok (.bool false) W:=by
 rw [show ReflectliteValue.method (ReflectliteValue.valueError "reflectlite.Value.IsNil" 0) ReflectliteValue.isNil #[.agg #[.pointer (some ⟨22,85,none⟩),.pointer (some a),.int .u64 150]]=(ReflectliteValue.parts (.agg #[.pointer (some ⟨22,85,none⟩),.pointer (some a),.int .u64 150]) >>= _) from rfl]
 simp only [Sem.run_bind,Tryz.parts85,Result.andThen]
 simp [ReflectliteValue.isNil,loadVar,isAgg,underlying,Tryz.underlying85,ha,Result.andThen]
theorem Tryz.elemOf85 (w:World):(Rtype.elem? 85).run Tryz.prog w=.ok (some 22) w:=by kernel_rfl
theorem Tryz.mk22 (p:Addr) (w:World):(ReflectliteValue.mk 22 p ReflectliteValue.flagAddr).run Tryz.prog w=.ok (.agg #[.pointer (some ⟨22,22,none⟩),.pointer (some p),.int .u64 386]) w:=by kernel_rfl
theorem Tryz.elemV85 (a p:Addr) (W:World) (ha:W.cell? a=some (.pointer (some p))) :
  (ReflectliteValue.method (ReflectliteValue.valueError "reflectlite.Value.Elem" 0) ReflectliteValue.elem #[.agg #[.pointer (some ⟨22,85,none⟩),.pointer (some a),.int .u64 150]]).run Tryz.prog W
   = .ok (.agg #[.pointer (some ⟨22,22,none⟩),.pointer (some p),.int .u64 386]) W:=by
 rw [show ReflectliteValue.method (ReflectliteValue.valueError "reflectlite.Value.Elem" 0) ReflectliteValue.elem #[.agg #[.pointer (some ⟨22,85,none⟩),.pointer (some a),.int .u64 150]]=(ReflectliteValue.parts (.agg #[.pointer (some ⟨22,85,none⟩),.pointer (some a),.int .u64 150]) >>= _) from rfl]
 simp only [Sem.run_bind,Tryz.parts85,Result.andThen]
 simp [ReflectliteValue.elem,loadVar,isAgg,underlying,Tryz.underlying85,ha,Result.andThen,Tryz.elemOf85,Tryz.mk22]
theorem Tryz.parts22a (a:Addr) (w:World):(ReflectliteValue.parts (.agg #[.pointer (some ⟨22,22,none⟩),.pointer (some a),.int .u64 386])).run Tryz.prog w=.ok (some (22,a,386)) w:=by kernel_rfl
theorem Tryz.parts22 (a:Addr) (w:World):(ReflectliteValue.parts (.agg #[.pointer (some ⟨22,22,none⟩),.pointer (some a),.int .u64 130])).run Tryz.prog w=.ok (some (22,a,130)) w:=by kernel_rfl
theorem Tryz.direct22 (w:World):(Rtype.directlyAssignable 22 22).run Tryz.prog w=.ok true w:=by kernel_rfl
theorem Tryz.set22 (ta b:Addr) (n:Int) (old:Value) (W:World) (hb:W.cell? b=some (.int .i64 n)) (ht:W.cell? ta=some old) (hf:W.frozen? ta=false) :
  (ReflectliteValue.set #[.agg #[.pointer (some ⟨22,22,none⟩),.pointer (some ta),.int .u64 386],.agg #[.pointer (some ⟨22,22,none⟩),.pointer (some b),.int .u64 130]]).run Tryz.prog W
   = .ok (.tuple #[]) (W.setCell ta (.int .i64 n)):=by
 rw [show ReflectliteValue.set #[.agg #[.pointer (some ⟨22,22,none⟩),.pointer (some ta),.int .u64 386],.agg #[.pointer (some ⟨22,22,none⟩),.pointer (some b),.int .u64 130]]=(ReflectliteValue.parts (.agg #[.pointer (some ⟨22,22,none⟩),.pointer (some ta),.int .u64 386]) >>= fun _=>ReflectliteValue.parts (.agg #[.pointer (some ⟨22,22,none⟩),.pointer (some b),.int .u64 130]) >>= _) from rfl]
 simp only [Sem.run_bind,Tryz.parts22a,Tryz.parts22,Result.andThen]
 simp [ReflectliteValue.flagAddr,loadVar,isAgg,underlying,Tryz.underlying22,hb,Result.andThen,Tryz.direct22,storeVar,Value.cells,storeCells,Addr.add]
 rw [run_store Tryz.prog W ta _ _ (by rfl)]
 simp [ht,hf]
theorem Tryz.noAs (v:Value) (xT:TypeId) (w:World):(Instr.typeAssert (.iface 22 v) xT 173 true).run Tryz.prog w=.ok (.tuple #[.nilIface,.bool false]) w:=run_typeAssert_lacksB Tryz.underlying173 (by kernel_rfl) (by kernel_rfl) v xT w
theorem Tryz.noUnwrap (v:Value) (xT:TypeId) (w:World):(Instr.typeAssert (.iface 22 v) xT 176 true).run Tryz.prog w=.ok (.tuple #[.nilIface,.bool false]) w:=run_typeAssert_lacksB Tryz.underlying176 (by kernel_rfl) (by kernel_rfl) v xT w
theorem Tryz.noUnwraps (v:Value) (xT:TypeId) (w:World):(Instr.typeAssert (.iface 22 v) xT 177 true).run Tryz.prog w=.ok (.tuple #[.nilIface,.bool false]) w:=run_typeAssert_lacksB Tryz.underlying177 (by kernel_rfl) (by kernel_rfl) v xT w
set_option maxHeartbeats 4000000 in
theorem as_miss (n:Int) (t:Addr) (w:World) (hg:w.cell? ⟨0,0,none⟩=some (.iface 168 (.agg #[.pointer (some ⟨22,47,none⟩)]))) :
  Calls Tryz.prog 22 #[.iface 22 (.int .i64 n),.iface 82 (.pointer (some t))] w fun ev w'=>ev=.returned (.bool false)∧w'=(((w.alloc (.cells #[.pointer (some t)] 82)).alloc (.cells #[.pointer (some ⟨22,82,none⟩),.pointer (some ⟨w.heap.size,0,none⟩),.int .u64 150] 116)).alloc (.cells #[.pointer (some ⟨22,82,none⟩),.pointer (some ⟨w.heap.size,0,none⟩),.int .u64 150] 116)):=by
 have h23:=@run_callFunc_extern Tryz.prog 38 _ (fun args=>ReflectliteValue.unpack (args.getD 0 (.tuple #[]))) Tryz.func38 (by kernel_rfl) (by kernel_rfl) (by kernel_rfl) (by kernel_rfl)
 have h24:=@run_callFunc_extern Tryz.prog 39 _ (ReflectliteValue.methodAny (ReflectliteValue.valueError "reflectlite.Value.Type" 0) (fun t _ _ _=>ReflectliteType.toType t)) Tryz.func39 (by kernel_rfl) (by kernel_rfl) (by kernel_rfl) (by kernel_rfl)
 have h25:=@run_callFunc_extern Tryz.prog 40 _ (ReflectliteValue.method (ReflectliteValue.valueError "reflectlite.Value.IsNil" 0) ReflectliteValue.isNil) Tryz.func40 (by kernel_rfl) (by kernel_rfl) (by kernel_rfl) (by kernel_rfl)
 have h69:=@run_callFunc_extern Tryz.prog 331 _ (ReflectliteType.abiMethod fun t=>do pure (.int .u8 (← Rtype.kind t))) Tryz.func331 (by kernel_rfl) (by kernel_rfl) (by kernel_rfl) (by kernel_rfl)
 have h82:=@run_callFunc_extern Tryz.prog 347 _ (ReflectliteType.method ReflectliteType.elem) Tryz.func347 (by kernel_rfl) (by kernel_rfl) (by kernel_rfl) (by kernel_rfl)
 have h83:=@run_callFunc_extern Tryz.prog 348 _ (ReflectliteType.relation "Implements" ReflectliteType.implements_) Tryz.func348 (by kernel_rfl) (by kernel_rfl) (by kernel_rfl) (by kernel_rfl)
 have h34:=@run_callFunc_extern Tryz.prog 77 _ ReflectliteType.typeOf Tryz.func77 (by kernel_rfl) (by kernel_rfl) (by kernel_rfl) (by kernel_rfl)
 have h80:=@run_callFunc_extern Tryz.prog 345 _ (ReflectliteType.relation "AssignableTo" ReflectliteType.assignableTo) Tryz.func345 (by kernel_rfl) (by kernel_rfl) (by kernel_rfl) (by kernel_rfl)
 have tO:=Tryz.typeOf22
 have mA:=Tryz.methodAssignableTo
 have a39:=Tryz.assignableE83
 have f6:=Tryz.valueOf82
 have f7:=Tryz.type82
 have mK:=Tryz.methodKind
 have mE:=Tryz.methodElem
 have mI:=Tryz.methodImplements
 have k41:=Tryz.kind82
 have k39:=Tryz.kind80
 have e41:=Tryz.elem82
 have i39:=Tryz.implements80
 have nA:=Tryz.noAs
 have nU:=Tryz.noUnwrap
 have nUs:=Tryz.noUnwraps
 have n8:=Tryz.isNil82 ⟨w.heap.size,0,none⟩ t ((w.alloc (.cells #[.pointer (some t)] 82)).alloc (.cells #[.pointer (some ⟨22,82,none⟩),.pointer (some ⟨w.heap.size,0,none⟩),.int .u64 150] 116)) (by simp)
 have hlt:0<w.heap.size:=by
  rcases Nat.eq_zero_or_pos w.heap.size with h0 | h
  ·simp [World.cell?,h0] at hg
  ·exact h
 have hg2:((w.alloc (.cells #[.pointer (some t)] 82)).alloc (.cells #[.pointer (some ⟨22,82,none⟩),.pointer (some ⟨w.heap.size,0,none⟩),.int .u64 150] 116)).cell? ⟨0,0,none⟩=some (.iface 168 (.agg #[.pointer (some ⟨22,47,none⟩)])):=by
  rw [World.cell?_alloc_lt _ _ ⟨0,0,none⟩ (by simp),World.cell?_alloc_lt _ _ ⟨0,0,none⟩ hlt]; exact hg
 go_enter Tryz.func22,Tryz.ntmps22
 go_wp2
 refine wp_loop_rounds 1 ?_
 rw [rounds_succ]
 go_wp2
 go_ret
 exact ⟨rfl,rfl⟩
set_option maxHeartbeats 4000000 in
theorem as_hitE (n:Int) (t:Addr) (old:Value) (w:World) (hg:w.cell? ⟨0,0,none⟩=some (.iface 168 (.agg #[.pointer (some ⟨22,47,none⟩)]))) (ht0:w.cell? t=some old) (hf0:w.frozen? t=false) :
  Calls Tryz.prog 22 #[.iface 22 (.int .i64 n),.iface 85 (.pointer (some t))] w fun ev w'=>ev=.returned (.bool true)∧w'=((((w.alloc (.cells #[.pointer (some t)] 85)).alloc (.cells #[.pointer (some ⟨22,85,none⟩),.pointer (some ⟨w.heap.size,0,none⟩),.int .u64 150] 116)).alloc (.cells #[.pointer (some ⟨22,85,none⟩),.pointer (some ⟨w.heap.size,0,none⟩),.int .u64 150] 116)).alloc (.cells #[.int .i64 n] 22)).setCell t (.int .i64 n):=by
 have h23:=@run_callFunc_extern Tryz.prog 38 _ (fun args=>ReflectliteValue.unpack (args.getD 0 (.tuple #[]))) Tryz.func38 (by kernel_rfl) (by kernel_rfl) (by kernel_rfl) (by kernel_rfl)
 have h24:=@run_callFunc_extern Tryz.prog 39 _ (ReflectliteValue.methodAny (ReflectliteValue.valueError "reflectlite.Value.Type" 0) (fun t _ _ _=>ReflectliteType.toType t)) Tryz.func39 (by kernel_rfl) (by kernel_rfl) (by kernel_rfl) (by kernel_rfl)
 have h25:=@run_callFunc_extern Tryz.prog 40 _ (ReflectliteValue.method (ReflectliteValue.valueError "reflectlite.Value.IsNil" 0) ReflectliteValue.isNil) Tryz.func40 (by kernel_rfl) (by kernel_rfl) (by kernel_rfl) (by kernel_rfl)
 have h69:=@run_callFunc_extern Tryz.prog 331 _ (ReflectliteType.abiMethod fun t=>do pure (.int .u8 (← Rtype.kind t))) Tryz.func331 (by kernel_rfl) (by kernel_rfl) (by kernel_rfl) (by kernel_rfl)
 have h82:=@run_callFunc_extern Tryz.prog 347 _ (ReflectliteType.method ReflectliteType.elem) Tryz.func347 (by kernel_rfl) (by kernel_rfl) (by kernel_rfl) (by kernel_rfl)
 have h83:=@run_callFunc_extern Tryz.prog 348 _ (ReflectliteType.relation "Implements" ReflectliteType.implements_) Tryz.func348 (by kernel_rfl) (by kernel_rfl) (by kernel_rfl) (by kernel_rfl)
 have h34:=@run_callFunc_extern Tryz.prog 77 _ ReflectliteType.typeOf Tryz.func77 (by kernel_rfl) (by kernel_rfl) (by kernel_rfl) (by kernel_rfl)
 have h80:=@run_callFunc_extern Tryz.prog 345 _ (ReflectliteType.relation "AssignableTo" ReflectliteType.assignableTo) Tryz.func345 (by kernel_rfl) (by kernel_rfl) (by kernel_rfl) (by kernel_rfl)
 have h35:=@run_callFunc_extern Tryz.prog 78 _ (ReflectliteValue.method (ReflectliteValue.valueError "reflectlite.Value.Elem" 0) ReflectliteValue.elem) Tryz.func78 (by kernel_rfl) (by kernel_rfl) (by kernel_rfl) (by kernel_rfl)
 have h36:=@run_callFunc_extern Tryz.prog 79 _ ReflectliteValue.set Tryz.func79 (by kernel_rfl) (by kernel_rfl) (by kernel_rfl) (by kernel_rfl)
 have tO:=Tryz.typeOf22
 have mA:=Tryz.methodAssignableTo
 have a22:=Tryz.assignable22
 have v22:=Tryz.valueOf22
 have f6:=Tryz.valueOf85
 have f7:=Tryz.type85
 have mK:=Tryz.methodKind
 have mE:=Tryz.methodElem
 have mI:=Tryz.methodImplements
 have k44:=Tryz.kind85
 have k22:=Tryz.kind22
 have e44:=Tryz.elem85
 have i22:=Tryz.implements22
 have n8:=Tryz.isNil85 ⟨w.heap.size,0,none⟩ t ((w.alloc (.cells #[.pointer (some t)] 85)).alloc (.cells #[.pointer (some ⟨22,85,none⟩),.pointer (some ⟨w.heap.size,0,none⟩),.int .u64 150] 116)) (by simp)
 have hlt:0<w.heap.size:=by
  rcases Nat.eq_zero_or_pos w.heap.size with h0 | h
  ·simp [World.cell?,h0] at hg
  ·exact h
 have hg2:((w.alloc (.cells #[.pointer (some t)] 85)).alloc (.cells #[.pointer (some ⟨22,85,none⟩),.pointer (some ⟨w.heap.size,0,none⟩),.int .u64 150] 116)).cell? ⟨0,0,none⟩=some (.iface 168 (.agg #[.pointer (some ⟨22,47,none⟩)])):=by
  rw [World.cell?_alloc_lt _ _ ⟨0,0,none⟩ (by simp),World.cell?_alloc_lt _ _ ⟨0,0,none⟩ hlt]; exact hg
 have htl:t.block<w.heap.size:=by
  rcases Nat.lt_or_ge t.block w.heap.size with h | h
  ·exact h
  ·simp [World.cell?,Array.getElem?_eq_none h] at ht0
 have el:=Tryz.elemV85 ⟨w.heap.size,0,none⟩ t (((w.alloc (.cells #[.pointer (some t)] 85)).alloc (.cells #[.pointer (some ⟨22,85,none⟩),.pointer (some ⟨w.heap.size,0,none⟩),.int .u64 150] 116)).alloc (.cells #[.pointer (some ⟨22,85,none⟩),.pointer (some ⟨w.heap.size,0,none⟩),.int .u64 150] 116)) (by rw [World.cell?_alloc_lt _ _ ⟨w.heap.size,0,none⟩ (by simp; omega)]; simp)
 have st:=Tryz.set22 t ⟨w.heap.size+1+1+1,0,none⟩ n old ((((w.alloc (.cells #[.pointer (some t)] 85)).alloc (.cells #[.pointer (some ⟨22,85,none⟩),.pointer (some ⟨w.heap.size,0,none⟩),.int .u64 150] 116)).alloc (.cells #[.pointer (some ⟨22,85,none⟩),.pointer (some ⟨w.heap.size,0,none⟩),.int .u64 150] 116)).alloc (.cells #[.int .i64 n] 22))
  (by rw [World.cell?_alloc_at _ _ _ _ (by simp)]; rfl)
  (by rw [World.cell?_alloc_lt _ _ t (by simp; omega),World.cell?_alloc_lt _ _ t (by simp; omega),World.cell?_alloc_lt _ _ t (by simp; omega),World.cell?_alloc_lt _ _ t htl]; exact ht0)
  (by rw [World.frozen?_alloc_old _ _ t (by simp; omega),World.frozen?_alloc_old _ _ t (by simp; omega),World.frozen?_alloc_old _ _ t (by simp; omega),World.frozen?_alloc_old _ _ t (Nat.ne_of_lt htl)]; exact hf0)
 go_enter Tryz.func22,Tryz.ntmps22
 go_wp2
 refine wp_loop_rounds 1 ?_
 rw [rounds_succ]
 go_wp2
 go_ret
 exact ⟨rfl,rfl⟩
theorem as_miss_b (n:Int) (t:Addr) (w:World) (hg:w.cell? ⟨0,0,none⟩=some (.iface 168 (.agg #[.pointer (some ⟨22,47,none⟩)]))) :
  Calls Tryz.prog 22 #[.iface 22 (.int .i64 n),.iface 82 (.pointer (some t))] w fun ev w'=>ev=.returned (.bool false)∧Below w.heap.size w w':=by
 refine (as_miss n t w hg).mono ?_
 rintro e w' ⟨rfl,rfl⟩
 exact ⟨rfl,(((Below.refl _ _).alloc (Nat.le_refl _) _).alloc (by simp) _).alloc (by simp; omega) _⟩
theorem as_hitE_b (n:Int) (t:Addr) (old:Value) (B:Nat) (w:World) (hg:w.cell? ⟨0,0,none⟩=some (.iface 168 (.agg #[.pointer (some ⟨22,47,none⟩)]))) (ht0:w.cell? t=some old) (hf0:w.frozen? t=false) (hB:B≤t.block) :
  Calls Tryz.prog 22 #[.iface 22 (.int .i64 n),.iface 85 (.pointer (some t))] w fun ev w'=>ev=.returned (.bool true)∧w'.cell? t=some (.int .i64 n)∧Below B w w':=by
 have htl:t.block<w.heap.size:=World.block_lt_of_cell? _ _ ht0
 refine (as_hitE n t old w hg ht0 hf0).mono ?_
 rintro e w' ⟨rfl,rfl⟩
 refine ⟨rfl,?_,(((((Below.refl _ _).alloc (by omega) _).alloc (by simp; omega) _).alloc (by simp; omega) _).alloc (by simp; omega) _).setCell hB _⟩
 refine World.cell?_setCell_same _ _ _ (u:=old) (by rw [World.cell?_alloc_lt _ _ t (by simp; omega),World.cell?_alloc_lt _ _ t (by simp; omega),World.cell?_alloc_lt _ _ t (by simp; omega),World.cell?_alloc_lt _ _ t htl]; exact ht0)
set_option maxHeartbeats 2000000 in
theorem tell_errno (n:Int) (w:World) (hg:w.cell? ⟨0,0,none⟩=some (.iface 168 (.agg #[.pointer (some ⟨22,47,none⟩)]))):Calls Tryz.prog 13 #[.iface 22 (.int .i64 n)] w fun e w'=>e=.returned (.tuple #[.int .i64 n,.int .i64 (-1)])∧Below w.heap.size w w':=by
 have hlt:0<w.heap.size:=World.block_lt_of_cell? _ _ hg
 go_enter Tryz.func13,Tryz.ntmps13
 go_wp2_with fail
 refine (as_miss_b n _ _ ?hgA).mono ?_
 case hgA=>rw [World.cell?_alloc_lt _ _ ⟨0,0,none⟩ (by simp),World.cell?_alloc_lt _ _ ⟨0,0,none⟩ hlt]; exact hg
 rintro e w1 ⟨rfl,hb1⟩
 have hg1:w1.cell? ⟨0,0,none⟩=some (.iface 168 (.agg #[.pointer (some ⟨22,47,none⟩)])):=by
  rw [hb1.cell (p:=⟨0,0,none⟩) (by simp),World.cell?_alloc_lt _ _ ⟨0,0,none⟩ (by simp),World.cell?_alloc_lt _ _ ⟨0,0,none⟩ hlt]; exact hg
 have ht1:w1.cell? ⟨w.heap.size+1,0,none⟩=some (.int .i64 0):=by
  rw [hb1.cell (p:=⟨w.heap.size+1,0,none⟩) (by simp)]; simp
 have hf1:w1.frozen? ⟨w.heap.size+1,0,none⟩=false:=by
  rw [hb1.frozen (p:=⟨w.heap.size+1,0,none⟩) (by simp)]; simp
 have hbw:Below w.heap.size w w1:=(((Below.refl _ _).alloc (Nat.le_refl _) _).alloc (by simp) _).trans (hb1.mono (by simp; omega))
 clear hb1
 go_wp2_with fail
 refine (as_hitE_b n _ _ w.heap.size _ hg1 ht1 hf1 (by simp)).mono ?_
 rintro e w2 ⟨rfl,hc2,hb2⟩
 go_wp2
 go_ret2
 exact ⟨rfl,hbw.trans hb2⟩
end Go.Proofs.YtehfpjcclknipaaGreatDoor
namespace Go.Proofs.YtehfpjcclknipaaGreatDoor
open Go.RowKit Go.Maps
theorem as_hit_b (q t:Addr) (old:Value) (B:Nat) (w:World) (hg:w.cell? ⟨0,0,none⟩=some (.iface 168 (.agg #[.pointer (some ⟨22,47,none⟩)]))) (ht0:w.cell? t=some old) (hf0:w.frozen? t=false) (hB:B≤t.block) :
  Calls Tryz.prog 22 #[.iface 80 (.pointer (some q)),.iface 82 (.pointer (some t))] w fun ev w'=>ev=.returned (.bool true)∧w'.cell? t=some (.pointer (some q))∧Below B w w':=by
 have htl:t.block<w.heap.size:=World.block_lt_of_cell? _ _ ht0
 refine (as_hit q t old w hg ht0 hf0).mono ?_
 rintro e w' ⟨rfl,rfl⟩
 refine ⟨rfl,?_,(((((Below.refl _ _).alloc (by omega) _).alloc (by simp; omega) _).alloc (by simp; omega) _).alloc (by simp; omega) _).setCell hB _⟩
 refine World.cell?_setCell_same _ _ _ (u:=old) (by rw [World.cell?_alloc_lt _ _ t (by simp; omega),World.cell?_alloc_lt _ _ t (by simp; omega),World.cell?_alloc_lt _ _ t (by simp; omega),World.cell?_alloc_lt _ _ t htl]; exact ht0)
set_option maxHeartbeats 2000000 in
theorem tell_at (q:Nat) (e n:Int) (w:World) (hg:w.cell? ⟨0,0,none⟩=some (.iface 168 (.agg #[.pointer (some ⟨22,47,none⟩)]))) (h0:w.cell? ⟨q,0,none⟩=some (.int .i64 e)) (h1:w.cell? ⟨q,1,none⟩=some (.int .i64 n)) :
  Calls Tryz.prog 13 #[.iface 80 (.pointer (some ⟨q,0,none⟩))] w fun ev w'=>ev=.returned (.tuple #[.int .i64 e,.int .i64 n])∧Below w.heap.size w w':=by
 have hlt:0<w.heap.size:=World.block_lt_of_cell? _ _ hg
 have hq:q<w.heap.size:=World.block_lt_of_cell? _ _ h0
 go_enter Tryz.func13,Tryz.ntmps13
 go_wp2_with fail
 refine (as_hit_b ⟨q,0,none⟩ ⟨w.heap.size,0,none⟩ (.pointer none) w.heap.size _ ?hgA ?htA ?hfA (Nat.le_refl _)).mono ?_
 case hgA=>rw [World.cell?_alloc_lt _ _ ⟨0,0,none⟩ (by simp),World.cell?_alloc_lt _ _ ⟨0,0,none⟩ hlt]; exact hg
 case htA=>rw [World.cell?_alloc_lt _ _ ⟨w.heap.size,0,none⟩ (by simp)]; simp
 case hfA=>rw [World.frozen?_alloc_old _ _ ⟨w.heap.size,0,none⟩ (by simp)]; simp
 rintro ev w1 ⟨rfl,hc1,hb1⟩
 have hbw:Below w.heap.size w w1:=(((Below.refl _ _).alloc (Nat.le_refl _) _).alloc (by simp) _).trans hb1
 have d0:w1.cell? ⟨q,0,none⟩=some (.int .i64 e):=cell_later hbw h0
 have d1:w1.cell? ⟨q,1,none⟩=some (.int .i64 n):=cell_later hbw h1
 clear hb1
 go_upto_region 6 with fail
 go_quiet (fail)
 go_wp2
 go_ret2
 exact ⟨rfl,hbw.os,hbw.tape,hbw.output,hbw.size,hbw.block⟩
def lineG (i:Ins):List UInt8:=formI (i.ws.map Wd.atoms)++[10]
def formG (st:List Stg):List UInt8:=(st.map fun s=>(s.ins.map lineG).flatten).flatten
def szG (st:List Stg):Nat:=(st.map fun s=>(s.ins.map fun i=>szI (i.ws.map Wd.atoms)+1).sum).sum
theorem atoms_xs (l:List WdM):(l.map WdM.wd).map Wd.atoms=l.map WdM.xs:=by rw [List.map_map]; rfl
theorem filL_form (ss:List StM):filL ss=formG (ss.map StM.stg):=by
 unfold filL formG
 rw [List.map_map]
 congr 1
 refine List.map_congr_left fun s _=>?_
 show insL s.ins=((s.ins.map InM.ins).map lineG).flatten
 unfold insL
 rw [List.map_map]
 congr 1
 refine List.map_congr_left fun m _=>?_
 show formI _++[10]=formI ((m.ws.map WdM.wd).map Wd.atoms)++[10]
 rw [atoms_xs]
theorem szF_form (ss:List StM):szF ss=szG (ss.map StM.stg):=by
 unfold szF szG
 rw [List.map_map]
 congr 1
 refine List.map_congr_left fun s _=>?_
 show szL s.ins=((s.ins.map InM.ins).map fun i=>szI (i.ws.map Wd.atoms)+1).sum
 unfold szL
 rw [List.map_map]
 congr 1
 refine List.map_congr_left fun m _=>?_
 show szI _+1=szI ((m.ws.map WdM.wd).map Wd.atoms)+1
 rw [atoms_xs]
theorem err_nil (w:World):(binOp BinOp.neq 47 .nilIface .nilIface).run Tryz.prog w=.ok (.bool false) w:=by kernel_rfl
theorem err_some (v:Value) (w:World):(binOp BinOp.neq 47 (.iface 80 v) .nilIface).run Tryz.prog w=.ok (.bool true) w:=by kernel_rfl
def ParseOut (w':World) (ev:Ending) (r:Res (List Stg)):Prop:=match r with
 | .error (e,p)=>∃ a:Nat,ev=.returned (.tuple #[.string ⟨#[]⟩,.iface 80 (.pointer (some ⟨a,0,none⟩))])∧w'.heap[a]?=some (.cells #[.int .i64 (e:Int),.int .i64 (p:Int)] 84 (0,0))
 | .ok st=>∃ u:ByteArray,ev=.returned (.tuple #[.string u,.nilIface])∧u.data.toList=formG st
set_option maxHeartbeats 2000000 in
set_option maxRecDepth 10000 in
theorem parse_any (s:ByteArray) (m:Int) (w:World) (hm:w.cell? ⟨14,0,none⟩=some (.int .i64 m)) (hg:w.cell? ⟨0,0,none⟩=some (.iface 168 (.agg #[.pointer (some ⟨22,47,none⟩)])))
  (hz:∀ st,parseG s.data.toList=.ok st→szG st≤268435456) :
  Calls Tryz.prog 17 #[.string s] w fun ev w'=>ParseOut w' ev (parseG s.data.toList)∧Below w.heap.size w w':=by
 have hR:=read_any s m w hm hg
 cases hp:parseG s.data.toList with
 | error ep=>
  obtain ⟨e,p⟩:=ep
  rw [hp] at hR
  unfold ReadOut at hR
  have hn:=fun v=>err_some v
  clear hz hp hm hg
  go_enter Tryz.func17,Tryz.ntmps17
  go_wp2_with (go_at_call 28; refine hR.mono ?_; clear hR; rintro ev w2 ⟨⟨a,rfl,hc⟩,hb2⟩)
  go_ret2
  exact ⟨⟨a,rfl,hc⟩,hb2⟩
 | ok st=>
  have hzs:=hz st hp
  rw [hp] at hR
  unfold ReadOut at hR
  have hn:=err_nil
  have hF:=fun B fb sv ss w' (h:FileM w' B fb sv ss) (he:ss.map StM.stg=st)=>form_file B fb sv ss w' h (by rw [szF_form,he]; exact hzs)
  clear hz hp hm hg
  go_enter Tryz.func17,Tryz.ntmps17
  go_wp2_with (first
   | (go_at_call 28; refine hR.mono ?_; clear hR; rintro ev w2 ⟨⟨B,fb,sv,ss,rfl,hFM,hst⟩,hb2⟩; have HFM:=hide hFM; have HST:=hide hst; clear hFM hst)
   | (go_at_call 30; refine (hF _ _ _ _ _ (uh HFM) (uh HST)).mono ?_; clear hF; rintro ev w3 ⟨⟨u,rfl,hu⟩,hb3⟩))
  go_ret2
  exact ⟨⟨u,rfl,by rw [hu,filL_form,uh HST]⟩,hb2.trans (hb3.mono hb2.size)⟩
def TopOut (ev:Ending) (r:Res (List Stg)):Prop:=match r with
 | .error (e,p)=>ev=.returned (.tuple #[.string ⟨#[]⟩,.int .i64 (e:Int),.int .i64 (p:Int)])
 | .ok st=>∃ u:ByteArray,ev=.returned (.tuple #[.string u,.int .i64 0,.int .i64 (-1)])∧u.data.toList=formG st
set_option maxHeartbeats 2000000 in
set_option maxRecDepth 10000 in
theorem plain_parse (s:ByteArray) (m:Int) (w:World) (hm:w.cell? ⟨14,0,none⟩=some (.int .i64 m)) (hg:w.cell? ⟨0,0,none⟩=some (.iface 168 (.agg #[.pointer (some ⟨22,47,none⟩)])))
  (hz:∀ st,parseG s.data.toList=.ok st→szG st≤268435456) :
  Calls Tryz.prog 10 #[.string s] w fun ev w'=>TopOut ev (parseG s.data.toList)∧Below w.heap.size w w':=by
 have hR:=parse_any s m w hm hg hz
 have HG:=hide hg
 cases hp:parseG s.data.toList with
 | error ep=>
  obtain ⟨e,p⟩:=ep
  rw [hp] at hR
  unfold ParseOut at hR
  clear hz hp hm hg
  go_enter Tryz.func10,Tryz.ntmps10
  go_wp2_with (first
   | (go_at_call 17; refine hR.mono ?_; clear hR; rintro ev w2 ⟨⟨a,rfl,hc⟩,hb2⟩; have HC:=hide hc; clear hc)
   | (go_at_call 13; refine (tell_at a (e:Int) (p:Int) _ (cell_later hb2 (uh HG)) (cq 0 (uh HC)) (cq 1 (uh HC))).mono ?_; rintro ev w3 ⟨rfl,hb3⟩))
  go_ret3
  exact ⟨rfl,hb2.trans (hb3.mono hb2.size)⟩
 | ok st=>
  rw [hp] at hR
  unfold ParseOut at hR
  clear hz hp hm hg
  go_enter Tryz.func10,Tryz.ntmps10
  go_wp2_with (first
   | (go_at_call 17; refine hR.mono ?_; clear hR; rintro ev w2 ⟨⟨u,rfl,hu⟩,hb2⟩; have HU:=hide hu; clear hu)
   | (go_at_call 13; refine (tell_nil _).mono ?_; rintro ev w3 ⟨rfl,hb3⟩))
  go_ret3
  exact ⟨⟨u,rfl,uh HU⟩,hb2.trans (hb3.mono hb2.size)⟩
theorem tell_err (v:Value) (k:Nat) (w:World) (hg:w.cell? ⟨0,0,none⟩=some (.iface 168 (.agg #[.pointer (some ⟨22,47,none⟩)]))) (h:T.ErrV w v k) :
  Calls Tryz.prog 13 #[v] w fun ev w'=>(∃ n:Int,ev=.returned (.tuple #[.int .i64 (k:Int),.int .i64 n]))∧Below w.heap.size w w':=by
 rcases h with rfl | ⟨q,n,rfl,hq⟩
 ·exact (tell_errno _ w hg).mono fun _ _ ⟨h1,h2⟩=>⟨⟨_,h1⟩,h2⟩
 ·exact (tell_at q _ n w hg (cq 0 hq) (cq 1 hq)).mono fun _ _ ⟨h1,h2⟩=>⟨⟨_,h1⟩,h2⟩
set_option maxHeartbeats 2000000 in
set_option maxRecDepth 10000 in
theorem placed_any (v:Value) (k:Nat) (m:InM) (x:WdM) (B:Nat) (w:World) (hg:w.cell? ⟨0,0,none⟩=some (.iface 168 (.agg #[.pointer (some ⟨22,47,none⟩)]))) (h:m.Ok w B) (h0:m.ws[0]?=some x) (he:T.ErrV w v k) :
  Calls Tryz.prog 35 #[v,m.val] w fun ev w'=>(∃ q:Nat,ev=.returned (.iface 80 (.pointer (some ⟨q,0,none⟩)))∧w'.heap[q]?=some (.cells #[.int .i64 (k:Int),.int .i64 (x.place:Int)] 84 (0,0)))∧Below w.heap.size w w':=by
 obtain ⟨W0,hW0⟩:∃ W0,W0=w.alloc (.cells #[m.wv,.int .i64 m.stage,.int .i64 (ruleT m.rule).1,.int .i64 (ruleT m.rule).2.1,fnV (ruleT m.rule).2.2.1,fnV (ruleT m.rule).2.2.2] 76):=⟨_,rfl⟩
 have hb0:Below w.heap.size w W0:=by rw [hW0]; exact (Below.refl _ _).alloc (Nat.le_refl _) _
 have hc0:W0.heap[w.heap.size]?=some (.cells #[m.wv,.int .i64 m.stage,.int .i64 (ruleT m.rule).1,.int .i64 (ruleT m.rule).2.1,fnV (ruleT m.rule).2.2.1,fnV (ruleT m.rule).2.2.2] 76 (0,0)):=by rw [hW0]; exact heap_alloc_new _ _
 have heW:T.ErrV W0 v k:=by
  rcases he with h | ⟨q,n,h1,hq⟩
  ·exact .inl h
  ·exact .inr ⟨q,n,h1,(hb0.block q (Array.getElem?_eq_some_iff.1 hq).1).trans hq⟩
 have hT:=tell_err v k W0 (cell_later hb0 hg) heW
 have HP:Hid (∀ W,Below W0.heap.size W0 W→Calls Tryz.prog 76 #[m.val] W fun ev w'=>ev=.returned (.int .i64 (x.place:Int))∧Below W.heap.size W w'):=hide (fun W hB=>place_any m x B W ((h.below hb0).below hB).ws h0)
 obtain ⟨g,cap,hwv,_,_⟩:=row_capw h.ws.row (by have:=(List.getElem?_eq_some_iff.1 h0).1; omega)
 obtain ⟨wv,ws,stage,rule⟩:=m
 simp only at hwv hc0 hW0
 subst hwv
 obtain ⟨n,hn⟩:∃ n,n=ws.length:=⟨_,rfl⟩
 unfold InM.val at HP ⊢
 simp only at HP ⊢
 rw [← hn] at HP hc0 hW0 ⊢
 have HC:=hide hc0
 clear h h0 he heW hn hc0 hg
 go_enter Tryz.func35,Tryz.ntmps35
 go_upto_region 1 with fail
 rw [← hW0]
 clear hW0
 go_upto_region 2 with (go_at_call 13; refine hT.mono ?_; clear hT; rintro e1 w1 ⟨⟨nn,rfl⟩,hb1⟩)
 have hh:=(hb1.block w.heap.size (Array.getElem?_eq_some_iff.1 (uh HC)).1).trans (uh HC)
 have s0:=cq 0 hh
 have s1:=cq 1 hh
 have s2:=cq 2 hh
 have s3:=cq 3 hh
 have s4:=cq 4 hh
 have s5:=cq 5 hh
 clear hh
 go_wp2_with (go_at_call 76; refine (uh HP _ hb1).mono ?_; rintro e2 w2 ⟨rfl,hb2⟩)
 go_ret
 have hB:Below w.heap.size w w2:=hb0.trans ((hb1.trans (hb2.mono hb1.size)).mono hb0.size)
 exact ⟨⟨w2.heap.size,rfl,heap_alloc_new _ _⟩,hB.alloc hB.size _⟩
end Go.Proofs.YtehfpjcclknipaaGreatDoor
namespace Go.Proofs.YtehfpjcclknipaaGreatDoor.T
open Go.RowKit Go.Maps
def ActV (w':World) (B sb:Nat) (ev v:Value) (x:Except Nat (List Ent × List UInt8)):Prop:=match x with
 | .error k=>ErrV w' v k
 | .ok (t,wk)=>v=.nilIface∧∃ (r:Nd) (ns:List Nd) (work:ByteArray),StA w' B sb r ns work ev∧entsN ns=t∧work.data.toList=wk∧work.size≤1048576
def ActOut (w':World) (B sb:Nat) (ev:Value) (e:Ending) (x:Except Nat (List Ent × List UInt8)):Prop:=∃ v,e=.returned v∧ActV w' B sb ev v x
theorem DoOut.act {w':World} {B sb:Nat} {ev:Value} {e:Ending} {x:Except Nat (List Ent × List UInt8)} (h:DoOut w' B sb ev e x):ActOut w' B sb ev e x:=by
 unfold DoOut at h
 unfold ActOut ActV
 cases x with
 | error k=>exact ⟨_,h,.inl rfl⟩
 | ok p=>obtain ⟨h1,r,ns,work,h2,h3,h4,h5,_⟩:=h; exact ⟨_,h1,rfl,r,ns,work,h2,h3,h4,h5⟩
def Entd (F:Nat):Prop:=∀ (args:Array Value) (w:World),(callFunc F args).run Tryz.prog w=.ok (.enter F args) w
theorem entd214:Entd 214:=fun _ _=>by kernel_rfl
theorem entd216:Entd 216:=fun _ _=>by kernel_rfl
theorem entd218:Entd 218:=fun _ _=>by kernel_rfl
theorem entd219:Entd 219:=fun _ _=>by kernel_rfl
theorem entd221:Entd 221:=fun _ _=>by kernel_rfl
theorem entd225:Entd 225:=fun _ _=>by kernel_rfl
def R34 (n:Nat) (W0:World) (iv:Value) (wr:World):Prop:=wr=W0∧∃ k:Nat,k≤n∧iv=.int .i64 (k:Int)
set_option maxHeartbeats 4000000 in
set_option maxRecDepth 10000 in
theorem tdo_any (F f1 sb B n cap n2 cap2:Nat) (ao src ao2:Option Addr) (us:List ByteArray) (st a b:Int) (ev:Value) (x:Except Nat (List Ent × List UInt8)) (w:World) (hB:B≤w.heap.size) (hW:Wrds w ao n cap us) (h180:∀ u∈us,u.size≤180) (hn:n≤1500)
  (HF:Hid (∀ W,Below w.heap.size w W→Calls Tryz.prog F #[.pointer (some ⟨sb,0,none⟩),.agg #[.slice ao n cap,.pointer none,.pointer src]] W fun e w'=>ActOut w' B sb ev e x∧Below B W w'∧KeepX W w'))
  (hx:∀ t wk,x=.ok (t,wk)→t.length≤40) (hcf:Entd F) :
  Calls Tryz.prog 34 #[.agg #[.pointer (some ⟨sb,0,none⟩),.slice ao n cap,.pointer none,.pointer src,.slice ao2 n2 cap2,.int .i64 st,.int .i64 a,.int .i64 b,fnV f1,fnV F]] w fun e w'=>ActOut w' B sb ev e x∧Below B w w'∧KeepX w w':=by
 obtain ⟨W0,hW0⟩:∃ W0,W0=w.alloc (.cells #[.pointer (some ⟨sb,0,none⟩),.slice ao n cap,.pointer none,.pointer src,.slice ao2 n2 cap2,.int .i64 st,.int .i64 a,.int .i64 b,fnV f1,fnV F] 78):=⟨_,rfl⟩
 have hb0:Below w.heap.size w W0:=by rw [hW0]; exact (Below.refl _ _).alloc (Nat.le_refl _) _
 have hc0:W0.heap[w.heap.size]?=some (.cells #[.pointer (some ⟨sb,0,none⟩),.slice ao n cap,.pointer none,.pointer src,.slice ao2 n2 cap2,.int .i64 st,.int .i64 a,.int .i64 b,fnV f1,fnV F] 78 (0,0)):=by rw [hW0]; exact heap_alloc_new _ _
 have s0:W0.cell? ⟨w.heap.size,0,none⟩=some (.pointer (some ⟨sb,0,none⟩)):=cq 0 hc0
 have s1:W0.cell? ⟨w.heap.size,1,none⟩=some (.slice ao n cap):=cq 1 hc0
 have s2:W0.cell? ⟨w.heap.size,2,none⟩=some (.pointer none):=cq 2 hc0
 have s3:W0.cell? ⟨w.heap.size,3,none⟩=some (.pointer src):=cq 3 hc0
 have s9:W0.cell? ⟨w.heap.size,9,none⟩=some (fnV F):=cq 9 hc0
 have HW:=hide (hW.below hb0)
 have HL:=hide h180
 have HX:=hide hx
 have HC:=hide hc0
 have hes:=er_some
 have hen:=er_nil
 have hea:=er_at
 clear hW h180 hx hc0
 unfold Entd at hcf
 go_enter Tryz.func34,Tryz.ntmps34
 go_upto_region 1 with fail
 rw [← hW0]
 clear hW0
 go_upto_region 2 with fail
 go_loopw [10] (fun iv wr=>R34 n W0 iv wr) (fun iv _=>n-(intOf iv).toNat)
 case atStart=>exact ⟨rfl,0,Nat.zero_le _,rfl⟩
 case round=>
  obtain ⟨rfl,k,hk,rfl⟩:=hrel
  by_cases hlt:k<n
  ·obtain ⟨u,hu⟩:∃ u,us[k]?=some u:=⟨_,List.getElem?_eq_getElem (by rw [← (uh HW).len]; exact hlt)⟩
   obtain ⟨g,hg,cg,_,_⟩:=(uh HW).at hu
   have h1:=uh HL u (List.mem_of_getElem? hu)
   subst hg
   clear hu
   go_wp2_with fail
   go_roundw
   case rel=>exact ⟨rfl,k+1,hlt,by go_num⟩
   case measure=>simp [intOf]; omega
  ·have hkn:k=n:=by omega
   subst hkn
   go_upto_region 8 with (refine (uh HF _ hb0).mono ?_; rintro e1 w1 ⟨⟨v,rfl,hv⟩,hb1,hk1⟩)
   have hBw:Below B w w1:=(hb0.mono hB).trans hb1
   have hKw:KeepX w w1:=(keepX_below hb0).trans hk1
   cases x with
   | error k'=>
    unfold ActV at hv
    dsimp only at hv
    have HV:=hide hv
    rcases hv with rfl | ⟨q,nn,rfl,hq⟩
    ·go_wp2_with fail
     go_ret
     exact ⟨⟨_,rfl,uh HV⟩,hBw,hKw⟩
    ·go_wp2_with fail
     go_ret
     exact ⟨⟨_,rfl,uh HV⟩,hBw,hKw⟩
   | ok p=>
    obtain ⟨t,wk⟩:=p
    unfold ActV at hv
    dsimp only at hv
    obtain ⟨rfl,r,ns,work,hS,ht,hwk,hws⟩:=hv
    have hl:=uh HX t wk rfl
    have hnl:ns.length≤40:=by rw [← ht] at hl; simpa [entsN] using hl
    have hcb:=checkBound_any sb r ns work ev B w1 hS (by omega)
    rw [if_neg (by omega)] at hcb
    have z0:w1.cell? ⟨w.heap.size,0,none⟩=some (.pointer (some ⟨sb,0,none⟩)):=cq 0 (hk1 _ _ _ _ (uh HC) (by decide) (by decide))
    have HV:Hid (∀ w2,Below w1.heap.size w1 w2→ActOut w2 B sb ev (.returned .nilIface) (.ok (t,wk))∧Below B w w2∧KeepX w w2):=hide (fun w2 hb2=>⟨⟨_,rfl,rfl,r,ns,work,hS.below hb2,ht,hwk,hws⟩,hBw.trans (hb2.mono (Nat.le_trans hB hBw.size)),hKw.trans (keepX_below hb2)⟩)
    clear hS ht hwk hws hl hnl hBw hKw hb1 hk1
    go_wp2_with (go_at_call 75; refine hcb.mono ?_; clear hcb; rintro e2 w2 ⟨rfl,hb2⟩)
    go_ret
    exact uh HV w2 hb2
end Go.Proofs.YtehfpjcclknipaaGreatDoor.T
