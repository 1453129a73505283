import Derived.Test.YtehfpjcclknipaaGreatDoorFmE
import Derived.Test.YtehfpjcclknipaaGreatDoorTelE
import Derived.Test.YtehfpjcclknipaaGreatDoorJFmB
import Derived.Test.YtehfpjcclknipaaGreatDoorJSpH
import Derived.Test.YtehfpjcclknipaaGreatDoorJBmD
import Derived.Test.YtehfpjcclknipaaGreatDoorJBfD
import Derived.Test.YtehfpjcclknipaaGreatDoorJBfS
import Derived.OwnWalk
namespace Go.Proofs.YtehfpjcclknipaaGreatDoor
open Go.RowKit Go.Maps
theorem as_hit_b (q t:Addr) (old:Value) (B:Nat) (w:World) (hg:w.cell? ⟨0,0,none⟩=some (.iface 168 (.agg #[.pointer (some ⟨22,47,none⟩)]))) (ht0:w.cell? t=some old) (hf0:w.frozen? t=false) (hB:B≤t.block) :
  Calls Tryz.prog 22 #[.iface 80 (.pointer (some q)),.iface 82 (.pointer (some t))] w fun ev w'=>ev=.returned (.bool true)∧w'.cell? t=some (.pointer (some q))∧Below B w w':=by
 have htl:t.block<w.heap.size:=World.block_lt_of_cell? _ _ ht0
 refine (as_hit q t old w hg ht0 hf0).mono ?_
 rintro e w' ⟨rfl,rfl⟩
 refine ⟨rfl,?_,(((((Below.refl _ _).alloc (by omega) _).alloc (by simp;omega) _).alloc (by simp;omega) _).alloc (by simp;omega) _).setCell hB _⟩
 refine World.cell?_setCell_same _ _ _ (u:=old) (by rw [World.cell?_alloc_lt _ _ t (by simp;omega),World.cell?_alloc_lt _ _ t (by simp;omega),World.cell?_alloc_lt _ _ t (by simp;omega),World.cell?_alloc_lt _ _ t htl];exact ht0)
set_option maxHeartbeats 2000000 in
theorem tell_at (q:Nat) (e n:Int) (w:World) (hg:w.cell? ⟨0,0,none⟩=some (.iface 168 (.agg #[.pointer (some ⟨22,47,none⟩)]))) (h0:w.cell? ⟨q,0,none⟩=some (.int .i64 e)) (h1:w.cell? ⟨q,1,none⟩=some (.int .i64 n)) :
  Calls Tryz.prog 13 #[.iface 80 (.pointer (some ⟨q,0,none⟩))] w fun ev w'=>ev=.returned (.tuple #[.int .i64 e,.int .i64 n])∧Below w.heap.size w w':=by
 have hlt:0<w.heap.size:=World.block_lt_of_cell? _ _ hg
 have hq:q<w.heap.size:=World.block_lt_of_cell? _ _ h0
 go_enter Tryz.func13,Tryz.ntmps13
 go_wp2_with fail
 refine (as_hit_b ⟨q,0,none⟩ ⟨w.heap.size,0,none⟩ (.pointer none) w.heap.size _ ?hgA ?htA ?hfA (Nat.le_refl _)).mono ?_
 case hgA=>rw [World.cell?_alloc_lt _ _ ⟨0,0,none⟩ (by simp),World.cell?_alloc_lt _ _ ⟨0,0,none⟩ hlt];exact hg
 case htA=>rw [World.cell?_alloc_lt _ _ ⟨w.heap.size,0,none⟩ (by simp)];simp
 case hfA=>rw [World.frozen?_alloc_old _ _ ⟨w.heap.size,0,none⟩ (by simp)];simp
 rintro ev w1 ⟨rfl,hc1,hb1⟩
 have hbw:Below w.heap.size w w1:=(((Below.refl _ _).alloc (Nat.le_refl _) _).alloc (by simp) _).trans hb1
 have d0:w1.cell? ⟨q,0,none⟩=some (.int .i64 e):=cell_later hbw h0
 have d1:w1.cell? ⟨q,1,none⟩=some (.int .i64 n):=cell_later hbw h1
 clear hb1
 go_upto_region 6 with fail
 go_quiet (fail)
 go_wp2
 go_ret2
 exact ⟨rfl,hbw.os,hbw.tape,hbw.output,hbw.size,hbw.block⟩
def lineG (i:Ins):List UInt8:=formI (i.ws.map Wd.atoms)++[10]
def formG (st:List Stg):List UInt8:=(st.map fun s=>(s.ins.map lineG).flatten).flatten
def szG (st:List Stg):Nat:=(st.map fun s=>(s.ins.map fun i=>szI (i.ws.map Wd.atoms)+1).sum).sum
theorem atoms_xs (l:List WdM):(l.map WdM.wd).map Wd.atoms=l.map WdM.xs:=by rw [List.map_map];rfl
theorem filL_form (ss:List StM):filL ss=formG (ss.map StM.stg):=by
 unfold filL formG
 rw [List.map_map]
 congr 1
 refine List.map_congr_left fun s _=>?_
 show insL s.ins=((s.ins.map InM.ins).map lineG).flatten
 unfold insL
 rw [List.map_map]
 congr 1
 refine List.map_congr_left fun m _=>?_
 show formI _++[10]=formI ((m.ws.map WdM.wd).map Wd.atoms)++[10]
 rw [atoms_xs]
theorem szF_form (ss:List StM):szF ss=szG (ss.map StM.stg):=by
 unfold szF szG
 rw [List.map_map]
 congr 1
 refine List.map_congr_left fun s _=>?_
 show szL s.ins=((s.ins.map InM.ins).map fun i=>szI (i.ws.map Wd.atoms)+1).sum
 unfold szL
 rw [List.map_map]
 congr 1
 refine List.map_congr_left fun m _=>?_
 show szI _+1=szI ((m.ws.map WdM.wd).map Wd.atoms)+1
 rw [atoms_xs]
theorem err_nil (w:World):(binOp BinOp.neq 47 .nilIface .nilIface).run Tryz.prog w=.ok (.bool false) w:=by kernel_rfl
theorem err_some (v:Value) (w:World):(binOp BinOp.neq 47 (.iface 80 v) .nilIface).run Tryz.prog w=.ok (.bool true) w:=by kernel_rfl
def ParseOut (w':World) (ev:Ending) (r:Res (List Stg)):Prop:=match r with
 | .error (e,p)=>∃ a:Nat,ev=.returned (.tuple #[.string ⟨#[]⟩,.iface 80 (.pointer (some ⟨a,0,none⟩))])∧w'.heap[a]?=some (.cells #[.int .i64 (e:Int),.int .i64 (p:Int)] 84 (0,0))
 | .ok st=>∃ u:ByteArray,ev=.returned (.tuple #[.string u,.nilIface])∧u.data.toList=formG st
set_option maxHeartbeats 2000000 in
set_option maxRecDepth 10000 in
theorem parse_any (s:ByteArray) (m:Int) (w:World) (hm:w.cell? ⟨14,0,none⟩=some (.int .i64 m)) (hg:w.cell? ⟨0,0,none⟩=some (.iface 168 (.agg #[.pointer (some ⟨22,47,none⟩)])))
  (hz:∀ st,parseG s.data.toList=.ok st→szG st≤268435456) :
  Calls Tryz.prog 17 #[.string s] w fun ev w'=>ParseOut w' ev (parseG s.data.toList)∧Below w.heap.size w w':=by
 have hR:=read_any s m w hm hg
 cases hp:parseG s.data.toList with
 | error ep=>
   obtain ⟨e,p⟩:=ep
   rw [hp] at hR
   unfold ReadOut at hR
   have hn:=fun v=>err_some v
   clear hz hp hm hg
   go_enter Tryz.func17,Tryz.ntmps17
   go_wp2_with (go_at_call 28;refine hR.mono ?_;clear hR;rintro ev w2 ⟨⟨a,rfl,hc⟩,hb2⟩)
   go_ret2
   exact ⟨⟨a,rfl,hc⟩,hb2⟩
 | ok st=>
   have hzs:=hz st hp
   rw [hp] at hR
   unfold ReadOut at hR
   have hn:=err_nil
   have hF:=fun B fb sv ss w' (h:FileM w' B fb sv ss) (he:ss.map StM.stg=st)=>form_file B fb sv ss w' h (by rw [szF_form,he];exact hzs)
   clear hz hp hm hg
   go_enter Tryz.func17,Tryz.ntmps17
   go_wp2_with (first
    | (go_at_call 28;refine hR.mono ?_;clear hR;rintro ev w2 ⟨⟨B,fb,sv,ss,rfl,hFM,hst⟩,hb2⟩;have HFM:=hide hFM;have HST:=hide hst;clear hFM hst)
    | (go_at_call 30;refine (hF _ _ _ _ _ (uh HFM) (uh HST)).mono ?_;clear hF;rintro ev w3 ⟨⟨u,rfl,hu⟩,hb3⟩))
   go_ret2
   exact ⟨⟨u,rfl,by rw [hu,filL_form,uh HST]⟩,hb2.trans (hb3.mono hb2.size)⟩
def TopOut (ev:Ending) (r:Res (List Stg)):Prop:=match r with
 | .error (e,p)=>ev=.returned (.tuple #[.string ⟨#[]⟩,.int .i64 (e:Int),.int .i64 (p:Int)])
 | .ok st=>∃ u:ByteArray,ev=.returned (.tuple #[.string u,.int .i64 0,.int .i64 (-1)])∧u.data.toList=formG st
set_option maxHeartbeats 2000000 in
set_option maxRecDepth 10000 in
theorem plain_parse (s:ByteArray) (m:Int) (w:World) (hm:w.cell? ⟨14,0,none⟩=some (.int .i64 m)) (hg:w.cell? ⟨0,0,none⟩=some (.iface 168 (.agg #[.pointer (some ⟨22,47,none⟩)])))
  (hz:∀ st,parseG s.data.toList=.ok st→szG st≤268435456) :
  Calls Tryz.prog 10 #[.string s] w fun ev w'=>TopOut ev (parseG s.data.toList)∧Below w.heap.size w w':=by
 have hR:=parse_any s m w hm hg hz
 have HG:=hide hg
 cases hp:parseG s.data.toList with
 | error ep=>
   obtain ⟨e,p⟩:=ep
   rw [hp] at hR
   unfold ParseOut at hR
   clear hz hp hm hg
   go_enter Tryz.func10,Tryz.ntmps10
   go_wp2_with (first
    | (go_at_call 17;refine hR.mono ?_;clear hR;rintro ev w2 ⟨⟨a,rfl,hc⟩,hb2⟩;have HC:=hide hc;clear hc)
    | (go_at_call 13;refine (tell_at a (e:Int) (p:Int) _ (cell_later hb2 (uh HG)) (cq 0 (uh HC)) (cq 1 (uh HC))).mono ?_;rintro ev w3 ⟨rfl,hb3⟩))
   go_ret3
   exact ⟨rfl,hb2.trans (hb3.mono hb2.size)⟩
 | ok st=>
   rw [hp] at hR
   unfold ParseOut at hR
   clear hz hp hm hg
   go_enter Tryz.func10,Tryz.ntmps10
   go_wp2_with (first
    | (go_at_call 17;refine hR.mono ?_;clear hR;rintro ev w2 ⟨⟨u,rfl,hu⟩,hb2⟩;have HU:=hide hu;clear hu)
    | (go_at_call 13;refine (tell_nil _).mono ?_;rintro ev w3 ⟨rfl,hb3⟩))
   go_ret3
   exact ⟨⟨u,rfl,uh HU⟩,hb2.trans (hb3.mono hb2.size)⟩
theorem tell_err (v:Value) (k:Nat) (w:World) (hg:w.cell? ⟨0,0,none⟩=some (.iface 168 (.agg #[.pointer (some ⟨22,47,none⟩)]))) (h:T.ErrV w v k) :
  Calls Tryz.prog 13 #[v] w fun ev w'=>(∃ n:Int,ev=.returned (.tuple #[.int .i64 (k:Int),.int .i64 n]))∧Below w.heap.size w w':=by
 rcases h with rfl | ⟨q,n,rfl,hq⟩
 ·exact (tell_errno _ w hg).mono fun _ _ ⟨h1,h2⟩=>⟨⟨_,h1⟩,h2⟩
 ·exact (tell_at q _ n w hg (cq 0 hq) (cq 1 hq)).mono fun _ _ ⟨h1,h2⟩=>⟨⟨_,h1⟩,h2⟩
set_option maxHeartbeats 2000000 in
set_option maxRecDepth 10000 in
theorem placed_any (v:Value) (k:Nat) (m:InM) (x:WdM) (B:Nat) (w:World) (hg:w.cell? ⟨0,0,none⟩=some (.iface 168 (.agg #[.pointer (some ⟨22,47,none⟩)]))) (h:m.Ok w B) (h0:m.ws[0]?=some x) (he:T.ErrV w v k) :
  Calls Tryz.prog 35 #[v,m.val] w fun ev w'=>(∃ q:Nat,ev=.returned (.iface 80 (.pointer (some ⟨q,0,none⟩)))∧w'.heap[q]?=some (.cells #[.int .i64 (k:Int),.int .i64 (x.place:Int)] 84 (0,0)))∧Below w.heap.size w w':=by
 obtain ⟨W0,hW0⟩:∃ W0,W0=w.alloc (.cells #[m.wv,.int .i64 m.stage,.int .i64 (ruleT m.rule).1,.int .i64 (ruleT m.rule).2.1,fnV (ruleT m.rule).2.2.1,fnV (ruleT m.rule).2.2.2] 76):=⟨_,rfl⟩
 have hb0:Below w.heap.size w W0:=by rw [hW0];exact (Below.refl _ _).alloc (Nat.le_refl _) _
 have hc0:W0.heap[w.heap.size]?=some (.cells #[m.wv,.int .i64 m.stage,.int .i64 (ruleT m.rule).1,.int .i64 (ruleT m.rule).2.1,fnV (ruleT m.rule).2.2.1,fnV (ruleT m.rule).2.2.2] 76 (0,0)):=by rw [hW0];exact heap_alloc_new _ _
 have heW:T.ErrV W0 v k:=by
  rcases he with h | ⟨q,n,h1,hq⟩
  ·exact .inl h
  ·exact .inr ⟨q,n,h1,(hb0.block q (Array.getElem?_eq_some_iff.1 hq).1).trans hq⟩
 have hT:=tell_err v k W0 (cell_later hb0 hg) heW
 have HP:Hid (∀ W,Below W0.heap.size W0 W→Calls Tryz.prog 76 #[m.val] W fun ev w'=>ev=.returned (.int .i64 (x.place:Int))∧Below W.heap.size W w'):=hide (fun W hB=>place_any m x B W ((h.below hb0).below hB).ws h0)
 obtain ⟨g,cap,hwv,_,_⟩:=row_capw h.ws.row (by have:=(List.getElem?_eq_some_iff.1 h0).1;omega)
 obtain ⟨wv,ws,stage,rule⟩:=m
 simp only at hwv hc0 hW0
 subst hwv
 obtain ⟨n,hn⟩:∃ n,n=ws.length:=⟨_,rfl⟩
 unfold InM.val at HP ⊢
 simp only at HP ⊢
 rw [←hn] at HP hc0 hW0 ⊢
 have HC:=hide hc0
 clear h h0 he heW hn hc0 hg
 go_enter Tryz.func35,Tryz.ntmps35
 go_upto_region 1 with fail
 rw [←hW0]
 clear hW0
 go_upto_region 2 with (go_at_call 13;refine hT.mono ?_;clear hT;rintro e1 w1 ⟨⟨nn,rfl⟩,hb1⟩)
 have hh:=(hb1.block w.heap.size (Array.getElem?_eq_some_iff.1 (uh HC)).1).trans (uh HC)
 have s0:=cq 0 hh
 have s1:=cq 1 hh
 have s2:=cq 2 hh
 have s3:=cq 3 hh
 have s4:=cq 4 hh
 have s5:=cq 5 hh
 clear hh
 go_wp2_with (go_at_call 76;refine (uh HP _ hb1).mono ?_;rintro e2 w2 ⟨rfl,hb2⟩)
 go_ret
 have hB:Below w.heap.size w w2:=hb0.trans ((hb1.trans (hb2.mono hb1.size)).mono hb0.size)
 exact ⟨⟨w2.heap.size,rfl,heap_alloc_new _ _⟩,hB.alloc hB.size _⟩
end Go.Proofs.YtehfpjcclknipaaGreatDoor
namespace Go.Proofs.YtehfpjcclknipaaGreatDoor.T
open Go.RowKit Go.Maps
def ActV (w':World) (B sb:Nat) (ev v:Value) (x:Except Nat (List Ent × List UInt8)):Prop:=match x with
 | .error k=>ErrV w' v k
 | .ok (t,wk)=>v=.nilIface∧∃ (r:Nd) (ns:List Nd) (work:ByteArray),StA w' B sb r ns work ev∧entsN ns=t∧work.data.toList=wk∧work.size≤1048576
def ActOut (w':World) (B sb:Nat) (ev:Value) (e:Ending) (x:Except Nat (List Ent × List UInt8)):Prop:=∃ v,e=.returned v∧ActV w' B sb ev v x
theorem DoOut.act {w':World}{B sb:Nat}{ev:Value}{e:Ending}{x:Except Nat (List Ent × List UInt8)}(h:DoOut w' B sb ev e x):ActOut w' B sb ev e x:=by
 unfold DoOut at h
 unfold ActOut ActV
 cases x with
 | error k=>exact ⟨_,h,.inl rfl⟩
 | ok p=>obtain ⟨h1,r,ns,work,h2,h3,h4,h5,_⟩:=h;exact ⟨_,h1,rfl,r,ns,work,h2,h3,h4,h5⟩
def Entd (F:Nat):Prop:=∀ (args:Array Value) (w:World),(callFunc F args).run Tryz.prog w=.ok (.enter F args) w
theorem entd214:Entd 214:=fun _ _=>by kernel_rfl
theorem entd216:Entd 216:=fun _ _=>by kernel_rfl
theorem entd218:Entd 218:=fun _ _=>by kernel_rfl
theorem entd219:Entd 219:=fun _ _=>by kernel_rfl
theorem entd221:Entd 221:=fun _ _=>by kernel_rfl
theorem entd225:Entd 225:=fun _ _=>by kernel_rfl
def R34 (n:Nat) (W0:World) (iv:Value) (wr:World):Prop:=wr=W0∧∃ k:Nat,k≤n∧iv=.int .i64 (k:Int)
set_option maxHeartbeats 4000000 in
set_option maxRecDepth 10000 in
theorem tdo_any (F f1 sb B n cap n2 cap2:Nat) (ao src ao2:Option Addr) (us:List ByteArray) (st a b:Int) (ev:Value) (x:Except Nat (List Ent × List UInt8)) (w:World) (hB:B≤w.heap.size) (hW:Wrds w ao n cap us) (h180:∀ u∈us,u.size≤180) (hn:n≤1500)
  (HF:Hid (∀ W,Below w.heap.size w W→Calls Tryz.prog F #[.pointer (some ⟨sb,0,none⟩),.agg #[.slice ao n cap,.pointer none,.pointer src]] W fun e w'=>ActOut w' B sb ev e x∧Below B W w'∧KeepX W w'))
  (hx:∀ t wk,x=.ok (t,wk)→t.length≤40) (hcf:Entd F) :
  Calls Tryz.prog 34 #[.agg #[.pointer (some ⟨sb,0,none⟩),.slice ao n cap,.pointer none,.pointer src,.slice ao2 n2 cap2,.int .i64 st,.int .i64 a,.int .i64 b,fnV f1,fnV F]] w fun e w'=>ActOut w' B sb ev e x∧Below B w w'∧KeepX w w':=by
 obtain ⟨W0,hW0⟩:∃ W0,W0=w.alloc (.cells #[.pointer (some ⟨sb,0,none⟩),.slice ao n cap,.pointer none,.pointer src,.slice ao2 n2 cap2,.int .i64 st,.int .i64 a,.int .i64 b,fnV f1,fnV F] 78):=⟨_,rfl⟩
 have hb0:Below w.heap.size w W0:=by rw [hW0];exact (Below.refl _ _).alloc (Nat.le_refl _) _
 have hc0:W0.heap[w.heap.size]?=some (.cells #[.pointer (some ⟨sb,0,none⟩),.slice ao n cap,.pointer none,.pointer src,.slice ao2 n2 cap2,.int .i64 st,.int .i64 a,.int .i64 b,fnV f1,fnV F] 78 (0,0)):=by rw [hW0];exact heap_alloc_new _ _
 have s0:W0.cell? ⟨w.heap.size,0,none⟩=some (.pointer (some ⟨sb,0,none⟩)):=cq 0 hc0
 have s1:W0.cell? ⟨w.heap.size,1,none⟩=some (.slice ao n cap):=cq 1 hc0
 have s2:W0.cell? ⟨w.heap.size,2,none⟩=some (.pointer none):=cq 2 hc0
 have s3:W0.cell? ⟨w.heap.size,3,none⟩=some (.pointer src):=cq 3 hc0
 have s9:W0.cell? ⟨w.heap.size,9,none⟩=some (fnV F):=cq 9 hc0
 have HW:=hide (hW.below hb0)
 have HL:=hide h180
 have HX:=hide hx
 have HC:=hide hc0
 have hes:=er_some
 have hen:=er_nil
 have hea:=er_at
 clear hW h180 hx hc0
 unfold Entd at hcf
 go_enter Tryz.func34,Tryz.ntmps34
 go_upto_region 1 with fail
 rw [←hW0]
 clear hW0
 go_upto_region 2 with fail
 go_loopw [10] (fun iv wr=>R34 n W0 iv wr) (fun iv _=>n-(intOf iv).toNat)
 case atStart=>exact ⟨rfl,0,Nat.zero_le _,rfl⟩
 case round=>
  obtain ⟨rfl,k,hk,rfl⟩:=hrel
  by_cases hlt:k<n
  ·obtain ⟨u,hu⟩:∃ u,us[k]?=some u:=⟨_,List.getElem?_eq_getElem (by rw [←(uh HW).len];exact hlt)⟩
   obtain ⟨g,hg,cg,_,_⟩:=(uh HW).at hu
   have h1:=uh HL u (List.mem_of_getElem? hu)
   subst hg
   clear hu
   go_wp2_with fail
   go_roundw
   case rel=>exact ⟨rfl,k+1,hlt,by go_num⟩
   case measure=>simp [intOf];omega
  ·have hkn:k=n:=by omega
   subst hkn
   go_upto_region 8 with (refine (uh HF _ hb0).mono ?_;rintro e1 w1 ⟨⟨v,rfl,hv⟩,hb1,hk1⟩)
   have hBw:Below B w w1:=(hb0.mono hB).trans hb1
   have hKw:KeepX w w1:=(keepX_below hb0).trans hk1
   cases x with
   | error k'=>
     unfold ActV at hv
     dsimp only at hv
     have HV:=hide hv
     rcases hv with rfl | ⟨q,nn,rfl,hq⟩
     ·go_wp2_with fail
      go_ret
      exact ⟨⟨_,rfl,uh HV⟩,hBw,hKw⟩
     ·go_wp2_with fail
      go_ret
      exact ⟨⟨_,rfl,uh HV⟩,hBw,hKw⟩
   | ok p=>
     obtain ⟨t,wk⟩:=p
     unfold ActV at hv
     dsimp only at hv
     obtain ⟨rfl,r,ns,work,hS,ht,hwk,hws⟩:=hv
     have hl:=uh HX t wk rfl
     have hnl:ns.length≤40:=by rw [←ht] at hl;simpa [entsN] using hl
     have hcb:=checkBound_any sb r ns work ev B w1 hS (by omega)
     rw [if_neg (by omega)] at hcb
     have z0:w1.cell? ⟨w.heap.size,0,none⟩=some (.pointer (some ⟨sb,0,none⟩)):=cq 0 (hk1 _ _ _ _ (uh HC) (by decide) (by decide))
     have HV:Hid (∀ w2,Below w1.heap.size w1 w2→ActOut w2 B sb ev (.returned .nilIface) (.ok (t,wk))∧Below B w w2∧KeepX w w2):=hide (fun w2 hb2=>⟨⟨_,rfl,rfl,r,ns,work,hS.below hb2,ht,hwk,hws⟩,hBw.trans (hb2.mono (Nat.le_trans hB hBw.size)),hKw.trans (keepX_below hb2)⟩)
     clear hS ht hwk hws hl hnl hBw hKw hb1 hk1
     go_wp2_with (go_at_call 75;refine hcb.mono ?_;clear hcb;rintro e2 w2 ⟨rfl,hb2⟩)
     go_ret
     exact uh HV w2 hb2
def DoneV (w':World) (B sb:Nat) (ev v:Value) (pl:Nat) (x:Except Nat (List Ent × List UInt8)):Prop:=match x with
 | .error k=>∃ q:Nat,v=.iface 80 (.pointer (some ⟨q,0,none⟩))∧w'.heap[q]?=some (.cells #[.int .i64 (k:Int),.int .i64 (pl:Int)] 84 (0,0))
 | .ok (t,wk)=>v=.nilIface∧∃ (r:Nd) (ns:List Nd) (work:ByteArray),StA w' B sb r ns work ev∧entsN ns=t∧work.data.toList=wk∧work.size≤1048576
set_option maxHeartbeats 4000000 in
set_option maxRecDepth 10000 in
theorem tDo_any (m:InM) (y:WdM) (sb B Bm n cap:Nat) (ao src:Option Addr) (us:List ByteArray) (ev:Value) (x:Except Nat (List Ent × List UInt8)) (w0 w:World) (hB:B≤w.heap.size) (hW:Wrds w ao n cap us) (h180:∀ u∈us,u.size≤180) (hn:n≤1500)
  (hm:m.Ok w0 Bm) (hy:m.ws[0]?=some y) (hw0:Below w0.heap.size w0 w) (hB0:w0.heap.size≤B) (hg:w0.cell? ⟨0,0,none⟩=some (.iface 168 (.agg #[.pointer (some ⟨22,47,none⟩)])))
  (HF:Hid (∀ W,Below w.heap.size w W→Calls Tryz.prog (ruleT m.rule).2.2.2 #[.pointer (some ⟨sb,0,none⟩),.agg #[.slice ao n cap,.pointer none,.pointer src]] W fun e w'=>ActOut w' B sb ev e x∧Below B W w'∧KeepX W w'))
  (hx:∀ t wk,x=.ok (t,wk)→t.length≤40) (hcf:Entd (ruleT m.rule).2.2.2) :
  Calls Tryz.prog 20 #[.agg #[.pointer (some ⟨sb,0,none⟩),.slice ao n cap,.pointer none,.pointer src,m.wv,.int .i64 m.stage,.int .i64 (ruleT m.rule).1,.int .i64 (ruleT m.rule).2.1,fnV (ruleT m.rule).2.2.1,fnV (ruleT m.rule).2.2.2]] w fun e w'=>(∃ v,e=.returned v∧DoneV w' B sb ev v y.place x)∧Below B w w'∧KeepX w w':=by
 obtain ⟨g2,cap2,hwv,_,_⟩:=row_capw hm.ws.row (by have:=(List.getElem?_eq_some_iff.1 hy).1;omega)
 obtain ⟨wvv,hwvv⟩:∃ u,u=m.wv:=⟨_,rfl⟩
 obtain ⟨n2,hn2⟩:∃ k,k=m.ws.length:=⟨_,rfl⟩
 rw [←hn2] at hwv
 have HP:Hid (∀ v k W,Below B w W→ErrV W v k→Calls Tryz.prog 35 #[v,.agg #[m.wv,.int .i64 m.stage,.int .i64 (ruleT m.rule).1,.int .i64 (ruleT m.rule).2.1,fnV (ruleT m.rule).2.2.1,fnV (ruleT m.rule).2.2.2]] W fun ev w'=>(∃ q:Nat,ev=.returned (.iface 80 (.pointer (some ⟨q,0,none⟩)))∧w'.heap[q]?=some (.cells #[.int .i64 (k:Int),.int .i64 (y.place:Int)] 84 (0,0)))∧Below W.heap.size W w'):=
  hide (fun v k W hb he=>by
   have hbb:=hw0.trans (hb.mono hB0)
   exact placed_any v k m y Bm W (cell_later hbb hg) (hm.below hbb) hy he)
 obtain ⟨st,hst⟩:∃ k,k=m.stage:=⟨_,rfl⟩
 obtain ⟨a,ha⟩:∃ k,k=(ruleT m.rule).1:=⟨_,rfl⟩
 obtain ⟨b,hb⟩:∃ k,k=(ruleT m.rule).2.1:=⟨_,rfl⟩
 obtain ⟨f1,hf1⟩:∃ k,k=(ruleT m.rule).2.2.1:=⟨_,rfl⟩
 obtain ⟨F,hF⟩:∃ k,k=(ruleT m.rule).2.2.2:=⟨_,rfl⟩
 rw [←hst,←ha,←hb,←hf1,←hF,hwv] at HP ⊢
 rw [←hF] at HF hcf
 clear hwvv hn2 hst ha hb hf1 hF hm hy hwv
 obtain ⟨W0,hW0⟩:∃ W0,W0=w.alloc (.cells #[.pointer (some ⟨sb,0,none⟩),.slice ao n cap,.pointer none,.pointer src,.slice (some ⟨g2,0,none⟩) n2 cap2,.int .i64 st,.int .i64 a,.int .i64 b,fnV f1,fnV F] 78):=⟨_,rfl⟩
 have hb0:Below w.heap.size w W0:=by rw [hW0];exact (Below.refl _ _).alloc (Nat.le_refl _) _
 have hc0:W0.heap[w.heap.size]?=some (.cells #[.pointer (some ⟨sb,0,none⟩),.slice ao n cap,.pointer none,.pointer src,.slice (some ⟨g2,0,none⟩) n2 cap2,.int .i64 st,.int .i64 a,.int .i64 b,fnV f1,fnV F] 78 (0,0)):=by rw [hW0];exact heap_alloc_new _ _
 have hT:=tdo_any F f1 sb B n cap n2 cap2 ao src (some ⟨g2,0,none⟩) us st a b ev x W0 (Nat.le_trans hB hb0.size) (hW.below hb0) h180 hn (hide (fun W hW'=>uh HF W (hb0.trans (hW'.mono hb0.size)))) hx hcf
 have s0:W0.cell? ⟨w.heap.size,0,none⟩=some (.pointer (some ⟨sb,0,none⟩)):=cq 0 hc0
 have s1:W0.cell? ⟨w.heap.size,1,none⟩=some (.slice ao n cap):=cq 1 hc0
 have s2:W0.cell? ⟨w.heap.size,2,none⟩=some (.pointer none):=cq 2 hc0
 have s3:W0.cell? ⟨w.heap.size,3,none⟩=some (.pointer src):=cq 3 hc0
 have s4:W0.cell? ⟨w.heap.size,4,none⟩=some (.slice (some ⟨g2,0,none⟩) n2 cap2):=cq 4 hc0
 have s5:W0.cell? ⟨w.heap.size,5,none⟩=some (.int .i64 st):=cq 5 hc0
 have s6:W0.cell? ⟨w.heap.size,6,none⟩=some (.int .i64 a):=cq 6 hc0
 have s7:W0.cell? ⟨w.heap.size,7,none⟩=some (.int .i64 b):=cq 7 hc0
 have s8:W0.cell? ⟨w.heap.size,8,none⟩=some (fnV f1):=cq 8 hc0
 have s9:W0.cell? ⟨w.heap.size,9,none⟩=some (fnV F):=cq 9 hc0
 have HC:=hide hc0
 have hes:=er_some
 have hen:=er_nil
 have hea:=er_at
 clear hW h180 hx hc0 HF hcf hg hw0 hB0
 go_enter Tryz.func20,Tryz.ntmps20
 go_upto_region 1 with fail
 rw [←hW0]
 clear hW0
 go_upto_region 2 with (go_at_call 34;refine hT.mono ?_;clear hT;rintro e1 w1 ⟨⟨v,rfl,hv⟩,hb1,hk1⟩)
 have hBw:Below B w w1:=(hb0.mono hB).trans hb1
 have hKw:KeepX w w1:=(keepX_below hb0).trans hk1
 cases x with
 | error k'=>
   unfold ActV at hv
   dsimp only at hv
   have hh:=hk1 _ _ _ _ (uh HC) (by decide) (by decide)
   have z4:w1.cell? ⟨w.heap.size,4,none⟩=some (.slice (some ⟨g2,0,none⟩) n2 cap2):=cq 4 hh
   have z5:w1.cell? ⟨w.heap.size,5,none⟩=some (.int .i64 st):=cq 5 hh
   have z6:w1.cell? ⟨w.heap.size,6,none⟩=some (.int .i64 a):=cq 6 hh
   have z7:w1.cell? ⟨w.heap.size,7,none⟩=some (.int .i64 b):=cq 7 hh
   have z8:w1.cell? ⟨w.heap.size,8,none⟩=some (fnV f1):=cq 8 hh
   have z9:w1.cell? ⟨w.heap.size,9,none⟩=some (fnV F):=cq 9 hh
   have hp:=uh HP v k' w1 hBw hv
   have HV:Hid (∀ w2,Below w1.heap.size w1 w2→Below B w w2∧KeepX w w2):=hide (fun w2 hb2=>⟨hBw.trans (hb2.mono (Nat.le_trans hB hBw.size)),hKw.trans (keepX_below hb2)⟩)
   clear HP hBw hKw hb1 hk1 hh s0 s1 s2 s3 s4 s5 s6 s7 s8 s9
   rcases hv with rfl | ⟨q,nn,rfl,hq⟩
   all_goals
    go_wp2_with (go_at_call 35;refine hp.mono ?_;clear hp;rintro e2 w2 ⟨⟨q2,rfl,hq2⟩,hb2⟩)
    go_ret
    exact ⟨⟨_,rfl,q2,rfl,hq2⟩,uh HV w2 hb2⟩
 | ok p=>
   obtain ⟨t,wk⟩:=p
   unfold ActV at hv
   dsimp only at hv
   obtain ⟨rfl,hS⟩:=hv
   have HS:=hide hS
   clear hS HP
   go_wp2_with fail
   go_ret
   exact ⟨⟨_,rfl,rfl,uh HS⟩,hBw,hKw⟩
def actG (cx t:List Ent) (wk:List UInt8) (rule:Nat) (us:List (List UInt8)):Except Nat (List Ent × List UInt8):=match rule,us with
 | 1,[a,b]=>copyG t cx wk a b
 | 2,[a,b]=>match addG cx wk a b with
   | some k=>.error k
   | none=>.ok (t,wk)
 | 3,[a]=>match rmG t wk a with
   | some k=>.error k
   | none=>.ok (t,wk)
 | 4,[a]=>mkdirG t wk a
 | 7,[a]=>enterG t wk a
 | _,_=>.ok (t,wk)
def supG (cx t:List Ent) (wk:List UInt8) (rule:Nat) (us:List (List UInt8)):Bool:=match rule,us with
 | 0,_=>true
 | 1,[a,b]=>match copyG t cx wk a b with
   | .ok _=>true
   | .error _=>false
 | 2,[a,b]=>(addG cx wk a b).isSome
 | 3,[a]=>(rmG t wk a).isSome
 | 4,[_]=>true
 | 7,[_]=>true
 | _,_=>false
set_option maxHeartbeats 1000000 in
theorem act_any (rule sb:Nat) (r:Nd) (ns:List Nd) (work:ByteArray) (ev:Value) (ao src:Option Addr) (n cap:Nat) (us:List ByteArray) (rs:Nd) (nss:List Nd) (B Bs:Nat) (m:Int) (w:World) (h:StA w B sb r ns work ev) (hn:ns.length≤400) (hws:work.size≤1048576) (hW:Wrds w ao n cap us)
  (hS:Mem w Bs rs nss) (HT:Hid (TreeS (entsN nss))) (hm:w.cell? ⟨14,0,none⟩=some (.int .i64 m)) (HCB:rule=1→Hid (CbOk w B sb Bs r rs ns nss work ev)) (hsb:B≤sb) (hsrc:rule=1∨rule=2→src=some ⟨rs.nb,0,none⟩)
  (hsup:supG (entsN nss) (entsN ns) work.data.toList rule (us.map fun u=>u.data.toList)=true) :
  Calls Tryz.prog (ruleT rule).2.2.2 #[.pointer (some ⟨sb,0,none⟩),.agg #[.slice ao n cap,.pointer none,.pointer src]] w fun e w'=>ActOut w' B sb ev e (actG (entsN nss) (entsN ns) work.data.toList rule (us.map fun u=>u.data.toList))∧Below B w w'∧KeepX w w':=by
 match rule,us,hsup with
 | 0,us,_=>
   exact (begin_nil sb ao n cap src w).mono fun e w' ⟨h1,h2⟩=>⟨⟨_,h1,rfl,r,ns,work,h.below h2,rfl,rfl,hws⟩,h2.mono h.base,keepX_below h2⟩
 | 1,[a,b],hsup=>
   rw [hsrc (.inl rfl)]
   have hgo:∃ q,copyG (entsN ns) (entsN nss) work.data.toList a.data.toList b.data.toList=.ok q:=by
    have h0:(match copyG (entsN ns) (entsN nss) work.data.toList a.data.toList b.data.toList with | .ok _=>true | .error _=>false)=true:=hsup
    cases hc:copyG (entsN ns) (entsN nss) work.data.toList a.data.toList b.data.toList with
    | ok q=>exact ⟨q,rfl⟩
    | error k=>rw [hc] at h0;cases h0
   exact (copyS_any sb r ns work a b ev ao n cap [a,b] none rs nss B Bs m w h hn hws hW rfl rfl hS HT hm (HCB rfl) (hide hgo)).mono fun e w' ⟨h1,h2⟩=>⟨h1.act,h2⟩
 | 2,[a,b],hsup=>
   rw [hsrc (.inr rfl)]
   obtain ⟨k,hk⟩:∃ k,addG (entsN nss) work.data.toList a.data.toList b.data.toList=some k:=Option.isSome_iff_exists.1 hsup
   have e:actG (entsN nss) (entsN ns) work.data.toList 2 ([a,b].map fun u=>u.data.toList)=.error k:=by
    show (match addG (entsN nss) work.data.toList a.data.toList b.data.toList with | some k=>Except.error k | none=>.ok _)=_
    rw [hk]
   rw [e]
   exact (add_bad sb r ns work a b ev ao n cap [a,b] none rs nss B Bs m w h hws hW rfl rfl hS HT hm k hk).mono fun e w' ⟨⟨v,h1,h1'⟩,h2⟩=>⟨⟨v,h1,h1'⟩,h2.mono h.base,keepX_below h2⟩
 | 3,[a],hsup=>
   obtain ⟨k,hk⟩:∃ k,rmG (entsN ns) work.data.toList a.data.toList=some k:=Option.isSome_iff_exists.1 hsup
   have e:actG (entsN nss) (entsN ns) work.data.toList 3 ([a].map fun u=>u.data.toList)=.error k:=by
    show (match rmG (entsN ns) work.data.toList a.data.toList with | some k=>Except.error k | none=>.ok _)=_
    rw [hk]
   rw [e]
   refine (remove_bad sb r ns work a ev ao n cap [a] none src B m w h hn hws hW rfl hm ⟨k,hk⟩).mono fun e w' ⟨⟨k',h1,h1'⟩,h2⟩=>⟨⟨_,h1',?_⟩,h2⟩
   rw [hk] at h1
   injection h1 with h1
   subst h1
   exact .inl rfl
 | 4,[a],_=>
   have hl:=hW.len
   subst hl
   exact (mkdir_any sb r ns work a ev ao cap [a] none src B m w h hn hws hW rfl hm).mono fun e w' ⟨h1,h2⟩=>⟨h1.act,h2⟩
 | 7,[a],_=>
   exact (enter_any sb r ns work a ev ao n cap [a] none src B m w h hn hws hW rfl hm hsb).mono fun e w' ⟨h1,h2⟩=>⟨h1.act,h2⟩
theorem entd_sup {cx t:List Ent}{wk:List UInt8}{rule:Nat}{us:List (List UInt8)}(h:supG cx t wk rule us=true):Entd (ruleT rule).2.2.2:=by
 match rule,us,h with
 | 0,_,_=>exact entd214
 | 1,[_,_],_=>exact entd216
 | 2,[_,_],_=>exact entd218
 | 3,[_],_=>exact entd219
 | 4,[_],_=>exact entd221
 | 7,[_],_=>exact entd225
set_option maxHeartbeats 2000000 in
set_option maxRecDepth 10000 in
theorem newState_any (w:World) (h14:14<w.heap.size) :
  Calls Tryz.prog 32 #[] w fun e w'=>(∃ (sb:Nat) (r:Nd),e=.returned (.pointer (some ⟨sb,0,none⟩))∧w.heap.size≤sb∧Hid (StA w' w.heap.size sb r [] ⟨#[]⟩ (.slice none 0 0)))∧Below w.heap.size w w':=by
 go_enter Tryz.func32,Tryz.ntmps32
 go_wp2_with (go_at_call 42;refine (new_any _).mono ?_;rintro ev w1 ⟨rb,rm,rfl,hnb,hmb,HN1,hb1⟩)
 go_ret
 have hS:Below w1.heap.size w1 (w1.alloc (.cells #[.pointer (some ⟨rb,0,none⟩),.string ⟨#[]⟩,.slice none 0 0,.slice none 0 0] 112)):=(Below.refl _ _).alloc (Nat.le_refl _) _
 have hM:Mem w1 w.heap.size ⟨rootE,rb,rm⟩ []:=⟨rfl,fun x hx=>by
  rw [List.mem_singleton] at hx
  subst hx
  exact ⟨hnb,hmb,(uh HN1).1,(uh HN1).2⟩,by simp⟩
 refine ⟨⟨w1.heap.size,⟨rootE,rb,rm⟩,rfl,hb1.size,hide ⟨heap_alloc_new _ _,hM.below hS,?_,h14,?_⟩⟩,hb1.alloc hb1.size _⟩
 ·exact ⟨.nil,fun e he=>(by cases he),fun e he=>(by cases he)⟩
 ·exact Nat.le_trans hb1.size hS.size
end Go.Proofs.YtehfpjcclknipaaGreatDoor.T
namespace Go.Proofs.YtehfpjcclknipaaGreatDoor
open Go.RowKit Go.Maps
theorem takes_of {m:InM}{w:World}{B:Nat}{y:WdM}(h:m.Ok w B) (hy:m.ws[0]?=some y) (hr:m.rule=1∨m.rule=2):takesW y.xs=true:=by
 have ho:=h.op
 rw [hy] at ho
 simp only at ho
 unfold opW at ho
 cases hp:plainW y.xs with
 | none=>rw [hp] at ho;cases ho
 | some t=>
   rw [hp] at ho
   simp only [Option.bind_some] at ho
   unfold opN at ho
   cases hf:tbl.find? (fun p=>p.1==t) with
   | none=>rw [hf] at ho;cases ho
   | some p=>
     rw [hf] at ho
     injection ho with ho
     dsimp only at ho
     have hm:=List.mem_of_find?_eq_some hf
     have he:p.1=t:=by have:=List.find?_some hf;simpa using this
     have hall:∀ p∈tbl,(p.2=1∨p.2=2)→(p.1=wCOPY∨p.1=wADD):=by decide
     have:=hall p hm (by rw [ho];exact hr)
     unfold takesW
     rw [hp,←he]
     rcases this with e | e <;> rw [e] <;> simp
end Go.Proofs.YtehfpjcclknipaaGreatDoor
namespace Go.Proofs.YtehfpjcclknipaaGreatDoor.T
open Go.RowKit Go.Maps
structure InsOk (m:InM):Prop where
 stage:m.stage=-1
 plain:∀ y∈m.ws.drop 1,∀ p∈parts y.xs,p.isVar=false
 size:∀ y∈m.ws,szP (parts y.xs)≤1000000
 short:∀ u∈opsT m.ws,u.length≤180
def CbAll (Bs:Nat) (rs:Nd) (nss:List Nd):Prop:=∀ (w:World) (B sb:Nat) (r:Nd) (ns:List Nd) (work:ByteArray) (ev:Value) (m:Int),w.cell? ⟨14,0,none⟩=some (.int .i64 m)→ns.length≤400→(∀ x∈rs :: nss,x.nb<B∧x.mb<B)→CbOk w B sb Bs r rs ns nss work ev
theorem doStep (m:InM) (y:WdM) (sb B Bm Bs:Nat) (r rs:Nd) (ns nss:List Nd) (work:ByteArray) (ev:Value) (mx:Int) (w w0 wr W:World) (v:Value) (us:List ByteArray)
  (hI:InsOk m) (hm:m.Ok w0 Bm) (hy:m.ws[0]?=some y) (hw0:Below w0.heap.size w0 wr) (hB0:w0.heap.size≤B) (hg:w0.cell? ⟨0,0,none⟩=some (.iface 168 (.agg #[.pointer (some ⟨22,47,none⟩)])))
  (hM:Mem w0 Bs rs nss) (HT:Hid (TreeS (entsN nss))) (hmx:w0.cell? ⟨14,0,none⟩=some (.int .i64 mx)) (hC:CbAll Bs rs nss)
  (hS:StA wr B sb r ns work ev) (hsb:B≤sb) (hn:ns.length≤400) (hws:work.size≤1048576) (hb:Below wr.heap.size wr W)
  (hT:TxR W w.heap.size v us) (hus:us.map (fun u=>u.data.toList)=opsT m.ws)
  (hsup:supG (entsN nss) (entsN ns) work.data.toList m.rule (opsT m.ws)=true) (hx:∀ t wk,actG (entsN nss) (entsN ns) work.data.toList m.rule (opsT m.ws)=.ok (t,wk)→t.length≤40) :
  Calls Tryz.prog 20 #[.agg #[.pointer (some ⟨sb,0,none⟩),v,.pointer none,.pointer (if takesW y.xs=true then some ⟨rs.nb,0,none⟩ else none),m.wv,.int .i64 m.stage,.int .i64 (ruleT m.rule).1,.int .i64 (ruleT m.rule).2.1,fnV (ruleT m.rule).2.2.1,fnV (ruleT m.rule).2.2.2]] W fun e w'=>(∃ u,e=.returned u∧DoneV w' B sb ev u y.place (actG (entsN nss) (entsN ns) work.data.toList m.rule (opsT m.ws)))∧Below B W w'∧KeepX W w':=by
 obtain ⟨ao,n,cap,rfl⟩:=row_form hT
 have hlen:n=us.length:=by
  rcases hT.2 with ⟨e,h0⟩ | ⟨g,c,cur,e,h0,_⟩
  ·injection e with _ e _;omega
  ·injection e with _ e _
 have hul:us.length≤1500:=by
  have e:us.length=(opsT m.ws).length:=by rw [←hus,List.length_map]
  rw [e];unfold opsT
  rw [List.length_map,List.length_drop]
  have:=hm.short;omega
 have hu180:∀ u∈us,u.size≤180:=fun u hu=>by
  have:=hI.short u.data.toList (by rw [←hus];exact List.mem_map.2 ⟨u,hu,rfl⟩)
  simpa using this
 have hWr:Wrds W ao n cap us:=⟨⟨_,hT⟩,hlen,fun p hp=>by have:=hu180 p hp;omega⟩
 have hbW:Below w0.heap.size w0 W:=hw0.trans (hb.mono hw0.size)
 have hSW:=hS.below hb
 refine tDo_any m y sb B Bm n cap ao _ us ev _ w0 W (Nat.le_trans hS.base hb.size) hWr hu180 (by omega) hm hy hbW hB0 hg (hide fun W' hb'=>?_) hx (entd_sup hsup)
 have:=act_any m.rule sb r ns work ev ao (if takesW y.xs=true then some ⟨rs.nb,0,none⟩ else none) n cap us rs nss B Bs mx W' (hSW.below hb') hn hws (hWr.below hb') ((hM.below hbW).below hb') HT (cell_later hb' (cell_later hbW hmx)) (fun _=>hide (hC _ _ _ _ _ _ _ mx (cell_later hb' (cell_later hbW hmx)) hn (fun x hx=>⟨Nat.lt_of_lt_of_le (Array.getElem?_eq_some_iff.1 (hM.all x hx).2.2.1).1 hB0,Nat.lt_of_lt_of_le (World.ownsMap.lt (hM.all x hx).2.2.2) hB0⟩))) hsb (fun hr=>by rw [takes_of hm hy hr];rfl) (by rw [hus];exact hsup)
 rw [hus] at this
 exact this
end Go.Proofs.YtehfpjcclknipaaGreatDoor.T
namespace Go.Proofs.YtehfpjcclknipaaGreatDoor
open Go.RowKit Go.Maps
def wantG (st:List Stg) (i k:Nat):Bool:=match st[i]? with
 | some s=>s.ins.any fun x=>x.stage==(k:Int)
 | none=>false
def Need (st : List Stg) (n : Nat) : Prop := ∀ P : Nat → Prop, P (st.length - 1) → (∀ i k, P i → wantG st i k = true → P k) → P n
theorem Need.last {st : List Stg} : Need st (st.length - 1) := fun _ h _ => h
theorem Need.more {st : List Stg} {i k : Nat} (h : Need st i) (w : wantG st i k = true) : Need st k := fun P a b => b i k (h P a b) w
theorem Need.el {st : List Stg} {motive : ∀ n, Need st n → Prop} (last : motive _ .last) (more : ∀ {i k : Nat} (h : Need st i) (w : wantG st i k = true), motive i h → motive k (.more h w)) {n : Nat} (t : Need st n) : motive n t := by
  obtain ⟨_, h⟩ := t (fun k => ∃ h : Need st k, motive k h) ⟨_, last⟩ (fun i k ⟨h, m⟩ w => ⟨_, more h w m⟩)
  exact h
structure Marks (st:List Stg) (bs:List Bool):Prop where
 len:bs.length=st.length
 iff:∀ k,bs[k]?=some true↔Need st k
theorem Marks.of {st:List Stg}{bs:List Bool}(hl:bs.length=st.length) (hs:∀ k,bs[k]?=some true→Need st k) (h0:bs[st.length-1]?=some true) (hc:∀ i k,bs[i]?=some true→wantG st i k=true→bs[k]?=some true):Marks st bs:=
 ⟨hl,fun k=>⟨hs k,fun h=>by
  induction h using Need.el with
  | last=>exact h0
  | more _ hw ih=>exact hc _ _ ih hw⟩⟩
def idxB (bs:List Bool) (n:Nat):List Nat:=(List.range n).filter fun k=>bs[k]?==some true
theorem idxB_more {bs:List Bool}{n:Nat}(h:bs[n]?=some true):idxB bs (n+1)=idxB bs n++[n]:=by
 unfold idxB
 rw [List.range_succ,List.filter_append]
 simp [h]
theorem idxB_skip {bs:List Bool}{n:Nat}(h:¬ bs[n]?=some true):idxB bs (n+1)=idxB bs n:=by
 unfold idxB
 rw [List.range_succ,List.filter_append]
 simp [h]
theorem idxB_len (bs:List Bool) (n:Nat):(idxB bs n).length≤n:=by
 have:=List.length_filter_le (fun k=>bs[k]?==some true) (List.range n)
 rw [List.length_range] at this;exact this
theorem set_true {bs:List Bool}{k i:Nat}(h:(bs.set k true)[i]?=some true):i=k∨bs[i]?=some true:=by
 rw [List.getElem?_set] at h
 split at h
 ·rename_i e;exact .inl e.symm
 ·exact .inr h
theorem set_keep {bs:List Bool}{k i:Nat}(h:bs[i]?=some true):(bs.set k true)[i]?=some true:=by
 rw [List.getElem?_set]
 split
 ·rename_i e;subst e
  rw [if_pos (List.getElem?_eq_some_iff.1 h).1]
 ·exact h
theorem set_here {bs:List Bool}{k:Nat}(h:k<bs.length):(bs.set k true)[k]?=some true:=by
 rw [List.getElem?_set_self h]
theorem want_mem {st:List Stg}{i k:Nat}{s:Stg}{x:Ins}(hs:st[i]?=some s) (hx:x∈s.ins) (he:x.stage=(k:Int)):wantG st i k=true:=by
 unfold wantG
 rw [hs]
 exact List.any_eq_true.2 ⟨x,hx,by simp [he]⟩
theorem want_some {st:List Stg}{i k:Nat}(h:wantG st i k=true):∃ s x,st[i]?=some s∧x∈s.ins∧x.stage=(k:Int):=by
 unfold wantG at h
 cases hs:st[i]? with
 | none=>rw [hs] at h;cases h
 | some s=>
   rw [hs] at h
   obtain ⟨x,hx,he⟩:=List.any_eq_true.1 h
   exact ⟨s,x,rfl,hx,by simpa using he⟩
def Fwd (st:List Stg):Prop:=∀ (i:Nat) (s:Stg),st[i]?=some s→∀ x∈s.ins,-1≤x.stage∧x.stage<(i:Int)
theorem Fwd.snoc {st:List Stg}{nm:List UInt8}(h:Fwd st):Fwd (st++[⟨nm,[]⟩]):=fun i s hi x hx=>by
 rw [List.getElem?_append] at hi
 split at hi
 ·exact h i s hi x hx
 ·have:=List.mem_of_getElem? hi
  rw [List.mem_singleton] at this
  subst this
  cases hx
theorem find_lt (st:List Stg) (nm:List UInt8):-1≤findG st nm∧findG st nm<(st.length:Int):=by
 unfold findG
 cases h:st.findIdx? (fun s=>s.name==nm) with
 | none=>simp only;omega
 | some i=>
   obtain ⟨hlt,_⟩:=List.findIdx?_eq_some_iff_getElem.1 h
   simp only;omega
theorem Fwd.add {st:List Stg}(h:Fwd st) (i:Ins) (h1:-1≤i.stage) (h2:i.stage<(st.length:Int)-1∨i.stage=-1):Fwd (addIns st i):=by
 unfold addIns
 cases hl:st.getLast? with
 | none=>exact h
 | some s=>
   have hne:st≠[]:=by rintro rfl;cases hl
   have hst:st=st.dropLast++[s]:=by
    have h1:=List.dropLast_concat_getLast hne
    rw [List.getLast?_eq_some_getLast hne] at hl
    injection hl with hl
    rw [hl] at h1
    exact h1.symm
   have hlen:0<st.length:=List.length_pos_iff.2 hne
   intro k a hk x hx
   simp only at hk
   rw [List.getElem?_append] at hk
   split at hk
   ·exact h k a (by rw [hst,List.getElem?_append_left (by assumption)];exact hk) x hx
   ·have hka:=(List.getElem?_eq_some_iff.1 hk).1
    have hm:=List.mem_of_getElem? hk
    rw [List.mem_singleton] at hm
    subst hm
    rw [List.length_dropLast] at *
    simp only [List.length_cons,List.length_nil] at hka
    have hkk:k=st.length-1:=by omega
    rcases List.mem_append.1 hx with hx | hx
    ·refine h k s ?_ x hx
     rw [hst,List.getElem?_append_right (by rw [List.length_dropLast];omega),List.length_dropLast,hkk]
     simp
    ·rw [List.mem_singleton] at hx
     subst hx
     exact ⟨h1,by omega⟩
theorem read_fwd {op:Nat}{st st':List Stg}{ws:List Wd}{k:Int}(h:Fwd st) (hr:readG op st ws=.ok (st',k)):Fwd st'∧-1≤k∧(k<(st'.length:Int)-1∨k=-1):=by
 have hf:∀ b n,Fwd (st++[⟨n,[]⟩])∧-1≤(if b=wScratch then (-1:Int) else findG st b)∧((if b=wScratch then (-1:Int) else findG st b)<((st++[(⟨n,[]⟩:Stg)]).length:Int)-1∨(if b=wScratch then (-1:Int) else findG st b)=-1):=fun b n=>by
  have:=find_lt st b
  refine ⟨h.snoc,?_,?_⟩
  ·split <;> omega
  ·rw [List.length_append,List.length_singleton]
   split
   ·exact .inr rfl
   ·exact .inl (by omega)
 unfold readG at hr
 split at hr
 ·unfold fromG at hr
  split at hr
  ·cases hr
  ·rename_i b n _
   split at hr
   ·cases hr
   ·split at hr
    ·cases hr
    ·split at hr
     ·cases hr
     ·injection hr with hr;injection hr with e1 e2;rw [←e1,←e2];exact hf b n
 ·unfold copyG at hr
  split at hr
  ·split at hr
   ·cases hr
   ·injection hr with hr;injection hr with e1 e2;rw [←e1,←e2];exact ⟨h,by omega,.inr rfl⟩
  ·rename_i n _
   split at hr
   ·cases hr
   ·split at hr
    ·cases hr
    ·split at hr
     ·cases hr
     ·rename_i hno
      injection hr with hr;injection hr with e1 e2;rw [←e1,←e2]
      have:=find_lt st n
      exact ⟨h,by omega,.inl (by omega)⟩
 ·split at hr
  ·injection hr with hr;injection hr with e1 e2;rw [←e1,←e2];exact ⟨h,by omega,.inr rfl⟩
  ·split at hr
   ·split at hr
    ·injection hr with hr;injection hr with e1 e2;rw [←e1,←e2];exact ⟨h,by omega,.inr rfl⟩
    ·cases hr
   ·cases hr
 ·split at hr
  ·split at hr
   ·injection hr with hr;injection hr with e1 e2;rw [←e1,←e2];exact ⟨h,by omega,.inr rfl⟩
   ·cases hr
  ·cases hr
 ·injection hr with hr;injection hr with e1 e2;rw [←e1,←e2];exact ⟨h,by omega,.inr rfl⟩
theorem take_fwd {st st':List Stg}{ws:List Wd}(hf:Fwd st) (h:takeG st ws=.ok st'):Fwd st':=by
 unfold takeG at h
 split at h
 ·cases h
 ·split at h
  ·cases h
  ·split at h
   ·cases h
   ·rename_i st1 k hr
    split at h
    ·cases h
    ·split at h
     ·cases h
     ·injection h with h
      obtain ⟨h1,h2,h3⟩:=read_fwd hf hr
      rw [←h]
      exact h1.add _ h2 h3
theorem file_fwd (l:List UInt8) (n:Nat):∀ (k:Nat) (st st':List Stg),l.length-k≤n→Fwd st→fileG l st k=.ok st'→Fwd st'∧st'≠[]:=by
 induction n with
 | zero=>
   intro k st st' hn hf h
   rw [file_end (by omega)] at h
   split at h
   ·cases h
   ·injection h with h;subst h;exact ⟨hf,by assumption⟩
 | succ n ih=>
   intro k st st' hn hf h
   by_cases hk:k<l.length
   ·cases hl:linG l [] k with
    | error e=>rw [file_bad hk hl] at h;cases h
    | ok x=>
      obtain ⟨ws,t⟩:=x
      by_cases ht:k<t
      ·by_cases hw:ws=[]
       ·subst hw
        rw [file_none hk hl ht] at h
        exact ih _ _ _ (by omega) hf h
       ·rw [file_some hk hl ht hw] at h
        cases htk:takeG st ws with
        | error e=>rw [htk] at h;cases h
        | ok st1=>
          rw [htk] at h
          exact ih _ _ _ (by omega) (take_fwd hf htk) h
      ·rw [fileG,if_pos hk,hl] at h
       simp only at h
       rw [dif_neg ht] at h
       cases h
   ·rw [file_end hk] at h
    split at h
    ·cases h
    ·injection h with h;subst h;exact ⟨hf,by assumption⟩
theorem parse_fwd {l:List UInt8}{st:List Stg}(h:parseG l=.ok st):Fwd st∧st≠[]:=by
 unfold parseG at h
 split at h
 ·cases h
 ·split at h
  ·cases h
  ·exact file_fwd l _ _ _ _ (Nat.le_refl _) (fun i s hi=>by simp at hi) h
def Snd (st:List Stg) (bs:List Bool):Prop:=(∀ k,bs[k]?=some true→Need st k)∧bs[st.length-1]?=some true
def Clo (st:List Stg) (bs:List Bool):Prop:=∀ i k,bs[i]?=some true→wantG st i k=true→bs[k]?=some true
theorem Marks.clo {st:List Stg}{bs:List Bool}(hl:bs.length=st.length) (hs:Snd st bs) (hc:Clo st bs):Marks st bs:=Marks.of hl hs.1 hs.2 hc
structure Mk (w:World) (B:Nat) (wr:World) (g:Nat) (bs:List Bool):Prop where
 cells:∃ c:Array Value,wr.heap[g]?=some (.cells c 4 (0,0))∧c.toList=bs.map Value.bool
 below:Below B w wr
 base:B≤g
theorem Mk.get {w wr:World}{B g:Nat}{bs:List Bool}(h:Mk w B wr g bs) {k:Nat}{b:Bool}(hk:bs[k]?=some b):wr.cell? ⟨g,k,none⟩=some (.bool b):=by
 obtain ⟨c,hc,e⟩:=h.cells
 rw [cq k hc,←Array.getElem?_toList,e,List.getElem?_map,hk];rfl
theorem Mk.frz {w wr:World}{B g:Nat}{bs:List Bool}(h:Mk w B wr g bs) (k:Nat):wr.frozen? ⟨g,k,none⟩=false:=by
 obtain ⟨c,hc,_⟩:=h.cells
 exact frozen_of_row wr g k c 4 hc
theorem Mk.lt {w wr:World}{B g:Nat}{bs:List Bool}(h:Mk w B wr g bs):g<wr.heap.size:=by
 obtain ⟨c,hc,_⟩:=h.cells
 exact (Array.getElem?_eq_some_iff.1 hc).1
theorem Mk.set {w wr:World}{B g:Nat}{bs:List Bool}(h:Mk w B wr g bs) (k:Nat):Mk w B (wr.setCell ⟨g,k,none⟩ (.bool true)) g (bs.set k true):=by
 obtain ⟨c,hc,e⟩:=h.cells
 refine ⟨⟨c.setIfInBounds k (.bool true),heap_setCell_same wr g k c 4 _ hc,?_⟩,h.below.setCell h.base _,h.base⟩
 rw [Array.toList_setIfInBounds,e,List.map_set]
theorem Mk.later {w wr w2:World}{B g:Nat}{bs:List Bool}(h:Mk w B wr g bs) (hb:Below wr.heap.size wr w2):Mk w B w2 g bs:=by
 obtain ⟨c,hc,e⟩:=h.cells
 exact ⟨⟨c,(hb.block g h.lt).trans hc,e⟩,h.below.trans (hb.mono (Nat.le_of_lt (Nat.lt_of_le_of_lt h.base h.lt))),h.base⟩
theorem Mk.grown {w wr w2:World}{B g:Nat}{bs:List Bool}{r:Option Nat}(h:Mk w B wr g bs) (hb:wr.grownBy w2 r) (hr:r≠some g) (hB:∀ q,r=some q→B≤q):Mk w B w2 g bs:=by
 obtain ⟨c,hc,e⟩:=h.cells
 exact ⟨⟨c,(hb.block g h.lt (fun e=>hr e.symm)).trans hc,e⟩,h.below.grown hb (Nat.le_of_lt (Nat.lt_of_le_of_lt h.base h.lt)) hB,h.base⟩
theorem Mk.ofMade {w wr:World}{g n:Nat}(hr:wr.ownsRow w.heap.size 4 1 (.slice (some ⟨g,0,none⟩) n n) n (madeCells (Value.bool false).cells (n*1)).toList) (hg:w.grownBy wr none):Mk w w.heap.size wr g (List.replicate n false):=by
 rcases hr.2 with ⟨h',_⟩ | ⟨g',cap',cur,h',hb,hc,_,_,hsz,ht⟩
 ·simp at h'
 ·simp only [Value.slice.injEq,Option.some.injEq,Addr.mk.injEq,and_true,true_and] at h'
  obtain ⟨rfl,rfl⟩:=h'
  refine ⟨⟨cur,hc,?_⟩,(Below.refl _ w).grown hg (Nat.le_refl _) (fun q hq=>by cases hq),hb⟩
  rw [List.take_of_length_le (by rw [Array.length_toList];omega)] at ht
  rw [ht,show (Value.bool false).cells=#[Value.bool false] from rfl,toList_madeCells_one,Nat.mul_one,List.map_replicate]
theorem info4:(Tryz.prog.info? 4).map (fun i=>(i.zero,i.size,i.bytes))=some (some (.bool false),1,1):=by kernel_rfl
theorem info3:(Tryz.prog.info? 3).map (fun i=>(i.zero,i.size,i.bytes))=some (some (.int .i64 0),1,8):=by kernel_rfl
abbrev NumR (w:World) (B:Nat) (v:Value) (l:List Nat):Prop:=w.ownsRow B 3 1 v l.length (l.map fun (k:Nat)=>Value.int .i64 (k:Int))
theorem row_capz {w:World}{B e z n:Nat}{v:Value}{xs:List Value}(h:w.ownsRow B e z v n xs) (hn:0<n):∃ g cap,v=.slice (some ⟨g,0,none⟩) n cap∧n≤cap∧cap≤maxLen:=by
 rcases h.2 with ⟨_,h0⟩ | ⟨g,cap,cur,hv,_,_,h1,h2,_⟩
 ·omega
 ·exact ⟨g,cap,hv,h1,h2⟩
theorem kind_of {w:World}{B e z n:Nat}{v:Value}{xs:List Value}(h:w.ownsRow B e z v n xs):∀ g,v.ownBlock=some g→∃ c fz,w.heap[g]?=some (.cells c e fz):=fun g hg=>by
 rcases h.2 with ⟨rfl,_⟩ | ⟨g',cap,cur,rfl,_,hg',_⟩
 ·cases hg
 ·have:g'=g:=by simpa [Value.ownBlock] using hg
  subst this;exact ⟨cur,(0,0),hg'⟩
def NeedOut (st:List Stg) (B:Nat) (w':World) (ev:Ending):Prop:=∃ rv bs,Marks st bs∧ev=.returned rv∧NumR w' B rv (idxB bs st.length)
theorem snd_start {st:List Stg}(hne:st≠[]):Snd st ((List.replicate st.length false).set (st.length-1) true):=by
 have:=List.length_pos_iff.2 hne
 refine ⟨fun k hk=>?_,set_here (by rw [List.length_replicate];omega)⟩
 rcases set_true hk with rfl | hk
 ·exact .last
 ·rw [List.getElem?_replicate] at hk
  split at hk <;> cases hk
theorem some_bool {bs:List Bool}{n k:Nat}(hl:bs.length=n) (hk:k<n):∃ b,bs[k]?=some b:=⟨_,List.getElem?_eq_getElem (by omega)⟩
structure St4 (w:World) (B:Nat) (wr:World) (g:Nat) (bs:List Bool) (ov:Value) (k:Nat):Prop where
 mks:Mk w B wr g bs
 row:NumR wr B ov (idxB bs k)
theorem St4.apart {w wr:World}{B g k:Nat}{bs:List Bool}{ov:Value}(h:St4 w B wr g bs ov k):ov.ownBlock≠some g:=fun e=>by
 obtain ⟨c,fz,hc⟩:=kind_of h.row g e
 obtain ⟨c',hc',_⟩:=h.mks.cells
 rw [hc] at hc'
 injection hc' with hc'
 injection hc' with _ hc' _
 cases hc'
end Go.Proofs.YtehfpjcclknipaaGreatDoor
