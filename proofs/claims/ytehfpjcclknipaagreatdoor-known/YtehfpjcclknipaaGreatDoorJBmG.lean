import Derived.Test.YtehfpjcclknipaaGreatDoorJFmE
import Derived.Test.YtehfpjcclknipaaGreatDoorJBfD
import Derived.Test.YtehfpjcclknipaaGreatDoorJBfS
import Derived.OwnWalk
namespace Go.Proofs.YtehfpjcclknipaaGreatDoor.T
open Go.RowKit Go.Maps
def DoneV (w':World) (B sb:Nat) (ev v:Value) (pl:Nat) (x:Except Nat (List Ent × List UInt8)):Prop:=match x with
 | .error k=>∃ q:Nat,v=.iface 80 (.pointer (some ⟨q,0,none⟩))∧w'.heap[q]?=some (.cells #[.int .i64 (k:Int),.int .i64 (pl:Int)] 84 (0,0))
 | .ok (t,wk)=>v=.nilIface∧∃ (r:Nd) (ns:List Nd) (work:ByteArray),StA w' B sb r ns work ev∧entsN ns=t∧work.data.toList=wk∧work.size≤1048576
set_option maxHeartbeats 4000000 in
set_option maxRecDepth 10000 in
theorem tDo_any (m:InM) (y:WdM) (sb B Bm n cap:Nat) (ao src:Option Addr) (us:List ByteArray) (ev:Value) (x:Except Nat (List Ent × List UInt8)) (w0 w:World) (hB:B≤w.heap.size) (hW:Wrds w ao n cap us) (h180:∀ u∈us,u.size≤180) (hn:n≤1500)
  (hm:m.Ok w0 Bm) (hy:m.ws[0]?=some y) (hw0:Below w0.heap.size w0 w) (hB0:w0.heap.size≤B) (hg:w0.cell? ⟨0,0,none⟩=some (.iface 168 (.agg #[.pointer (some ⟨22,47,none⟩)])))
  (HF:Hid (∀ W,Below w.heap.size w W→Calls Tryz.prog (ruleT m.rule).2.2.2 #[.pointer (some ⟨sb,0,none⟩),.agg #[.slice ao n cap,.pointer none,.pointer src]] W fun e w'=>ActOut w' B sb ev e x∧Below B W w'∧KeepX W w'))
  (hx:∀ t wk,x=.ok (t,wk)→t.length≤40) (hcf:Entd (ruleT m.rule).2.2.2) :
  Calls Tryz.prog 20 #[.agg #[.pointer (some ⟨sb,0,none⟩),.slice ao n cap,.pointer none,.pointer src,m.wv,.int .i64 m.stage,.int .i64 (ruleT m.rule).1,.int .i64 (ruleT m.rule).2.1,fnV (ruleT m.rule).2.2.1,fnV (ruleT m.rule).2.2.2]] w fun e w'=>(∃ v,e=.returned v∧DoneV w' B sb ev v y.place x)∧Below B w w'∧KeepX w w':=by
 obtain ⟨g2,cap2,hwv,_,_⟩:=row_capw hm.ws.row (by have:=(List.getElem?_eq_some_iff.1 hy).1; omega)
 obtain ⟨wvv,hwvv⟩:∃ u,u=m.wv:=⟨_,rfl⟩
 obtain ⟨n2,hn2⟩:∃ k,k=m.ws.length:=⟨_,rfl⟩
 rw [← hn2] at hwv
 have HP:Hid (∀ v k W,Below B w W→ErrV W v k→Calls Tryz.prog 35 #[v,.agg #[m.wv,.int .i64 m.stage,.int .i64 (ruleT m.rule).1,.int .i64 (ruleT m.rule).2.1,fnV (ruleT m.rule).2.2.1,fnV (ruleT m.rule).2.2.2]] W fun ev w'=>(∃ q:Nat,ev=.returned (.iface 80 (.pointer (some ⟨q,0,none⟩)))∧w'.heap[q]?=some (.cells #[.int .i64 (k:Int),.int .i64 (y.place:Int)] 84 (0,0)))∧Below W.heap.size W w'):=
  hide (fun v k W hb he=>by
   have hbb:=hw0.trans (hb.mono hB0)
   exact placed_any v k m y Bm W (cell_later hbb hg) (hm.below hbb) hy he)
 obtain ⟨st,hst⟩:∃ k,k=m.stage:=⟨_,rfl⟩
 obtain ⟨a,ha⟩:∃ k,k=(ruleT m.rule).1:=⟨_,rfl⟩
 obtain ⟨b,hb⟩:∃ k,k=(ruleT m.rule).2.1:=⟨_,rfl⟩
 obtain ⟨f1,hf1⟩:∃ k,k=(ruleT m.rule).2.2.1:=⟨_,rfl⟩
 obtain ⟨F,hF⟩:∃ k,k=(ruleT m.rule).2.2.2:=⟨_,rfl⟩
 rw [← hst,← ha,← hb,← hf1,← hF,hwv] at HP ⊢
 rw [← hF] at HF hcf
 clear hwvv hn2 hst ha hb hf1 hF hm hy hwv
 obtain ⟨W0,hW0⟩:∃ W0,W0=w.alloc (.cells #[.pointer (some ⟨sb,0,none⟩),.slice ao n cap,.pointer none,.pointer src,.slice (some ⟨g2,0,none⟩) n2 cap2,.int .i64 st,.int .i64 a,.int .i64 b,fnV f1,fnV F] 78):=⟨_,rfl⟩
 have hb0:Below w.heap.size w W0:=by rw [hW0]; exact (Below.refl _ _).alloc (Nat.le_refl _) _
 have hc0:W0.heap[w.heap.size]?=some (.cells #[.pointer (some ⟨sb,0,none⟩),.slice ao n cap,.pointer none,.pointer src,.slice (some ⟨g2,0,none⟩) n2 cap2,.int .i64 st,.int .i64 a,.int .i64 b,fnV f1,fnV F] 78 (0,0)):=by rw [hW0]; exact heap_alloc_new _ _
 have hT:=tdo_any F f1 sb B n cap n2 cap2 ao src (some ⟨g2,0,none⟩) us st a b ev x W0 (Nat.le_trans hB hb0.size) (hW.below hb0) h180 hn (hide (fun W hW'=>uh HF W (hb0.trans (hW'.mono hb0.size)))) hx hcf
 have s0:W0.cell? ⟨w.heap.size,0,none⟩=some (.pointer (some ⟨sb,0,none⟩)):=cq 0 hc0
 have s1:W0.cell? ⟨w.heap.size,1,none⟩=some (.slice ao n cap):=cq 1 hc0
 have s2:W0.cell? ⟨w.heap.size,2,none⟩=some (.pointer none):=cq 2 hc0
 have s3:W0.cell? ⟨w.heap.size,3,none⟩=some (.pointer src):=cq 3 hc0
 have s4:W0.cell? ⟨w.heap.size,4,none⟩=some (.slice (some ⟨g2,0,none⟩) n2 cap2):=cq 4 hc0
 have s5:W0.cell? ⟨w.heap.size,5,none⟩=some (.int .i64 st):=cq 5 hc0
 have s6:W0.cell? ⟨w.heap.size,6,none⟩=some (.int .i64 a):=cq 6 hc0
 have s7:W0.cell? ⟨w.heap.size,7,none⟩=some (.int .i64 b):=cq 7 hc0
 have s8:W0.cell? ⟨w.heap.size,8,none⟩=some (fnV f1):=cq 8 hc0
 have s9:W0.cell? ⟨w.heap.size,9,none⟩=some (fnV F):=cq 9 hc0
 have HC:=hide hc0
 have hes:=er_some
 have hen:=er_nil
 have hea:=er_at
 clear hW h180 hx hc0 HF hcf hg hw0 hB0
 go_enter Tryz.func20,Tryz.ntmps20
 go_upto_region 1 with fail
 rw [← hW0]
 clear hW0
 go_upto_region 2 with (go_at_call 34; refine hT.mono ?_; clear hT; rintro e1 w1 ⟨⟨v,rfl,hv⟩,hb1,hk1⟩)
 have hBw:Below B w w1:=(hb0.mono hB).trans hb1
 have hKw:KeepX w w1:=(keepX_below hb0).trans hk1
 cases x with
 | error k'=>
  unfold ActV at hv
  dsimp only at hv
  have hh:=hk1 _ _ _ _ (uh HC) (by decide) (by decide)
  have z4:w1.cell? ⟨w.heap.size,4,none⟩=some (.slice (some ⟨g2,0,none⟩) n2 cap2):=cq 4 hh
  have z5:w1.cell? ⟨w.heap.size,5,none⟩=some (.int .i64 st):=cq 5 hh
  have z6:w1.cell? ⟨w.heap.size,6,none⟩=some (.int .i64 a):=cq 6 hh
  have z7:w1.cell? ⟨w.heap.size,7,none⟩=some (.int .i64 b):=cq 7 hh
  have z8:w1.cell? ⟨w.heap.size,8,none⟩=some (fnV f1):=cq 8 hh
  have z9:w1.cell? ⟨w.heap.size,9,none⟩=some (fnV F):=cq 9 hh
  have hp:=uh HP v k' w1 hBw hv
  have HV:Hid (∀ w2,Below w1.heap.size w1 w2→Below B w w2∧KeepX w w2):=hide (fun w2 hb2=>⟨hBw.trans (hb2.mono (Nat.le_trans hB hBw.size)),hKw.trans (keepX_below hb2)⟩)
  clear HP hBw hKw hb1 hk1 hh s0 s1 s2 s3 s4 s5 s6 s7 s8 s9
  rcases hv with rfl | ⟨q,nn,rfl,hq⟩
  all_goals
   go_wp2_with (go_at_call 35; refine hp.mono ?_; clear hp; rintro e2 w2 ⟨⟨q2,rfl,hq2⟩,hb2⟩)
   go_ret
   exact ⟨⟨_,rfl,q2,rfl,hq2⟩,uh HV w2 hb2⟩
 | ok p=>
  obtain ⟨t,wk⟩:=p
  unfold ActV at hv
  dsimp only at hv
  obtain ⟨rfl,hS⟩:=hv
  have HS:=hide hS
  clear hS HP
  go_wp2_with fail
  go_ret
  exact ⟨⟨_,rfl,rfl,uh HS⟩,hBw,hKw⟩
def actG (cx t:List Ent) (wk:List UInt8) (rule:Nat) (us:List (List UInt8)):Except Nat (List Ent × List UInt8):=match rule,us with
 | 1,[a,b]=>copyG t cx wk a b
 | 2,[a,b]=>match addG cx wk a b with
  | some k=>.error k
  | none=>.ok (t,wk)
 | 3,[a]=>match rmG t wk a with
  | some k=>.error k
  | none=>.ok (t,wk)
 | 4,[a]=>mkdirG t wk a
 | 7,[a]=>enterG t wk a
 | _,_=>.ok (t,wk)
def supG (cx t:List Ent) (wk:List UInt8) (rule:Nat) (us:List (List UInt8)):Bool:=match rule,us with
 | 0,_=>true
 | 1,[a,b]=>match copyG t cx wk a b with
  | .ok _=>true
  | .error _=>false
 | 2,[a,b]=>(addG cx wk a b).isSome
 | 3,[a]=>(rmG t wk a).isSome
 | 4,[_]=>true
 | 7,[_]=>true
 | _,_=>false
set_option maxHeartbeats 1000000 in
theorem act_any (rule sb:Nat) (r:Nd) (ns:List Nd) (work:ByteArray) (ev:Value) (ao src:Option Addr) (n cap:Nat) (us:List ByteArray) (rs:Nd) (nss:List Nd) (B Bs:Nat) (m:Int) (w:World) (h:StA w B sb r ns work ev) (hn:ns.length≤400) (hws:work.size≤1048576) (hW:Wrds w ao n cap us)
  (hS:Mem w Bs rs nss) (HT:Hid (TreeS (entsN nss))) (hm:w.cell? ⟨14,0,none⟩=some (.int .i64 m)) (HCB:rule=1→Hid (CbOk w B sb Bs r rs ns nss work ev)) (hsb:B≤sb) (hsrc:rule=1∨rule=2→src=some ⟨rs.nb,0,none⟩)
  (hsup:supG (entsN nss) (entsN ns) work.data.toList rule (us.map fun u=>u.data.toList)=true) :
  Calls Tryz.prog (ruleT rule).2.2.2 #[.pointer (some ⟨sb,0,none⟩),.agg #[.slice ao n cap,.pointer none,.pointer src]] w fun e w'=>ActOut w' B sb ev e (actG (entsN nss) (entsN ns) work.data.toList rule (us.map fun u=>u.data.toList))∧Below B w w'∧KeepX w w':=by
 match rule,us,hsup with
 | 0,us,_=>
  exact (begin_nil sb ao n cap src w).mono fun e w' ⟨h1,h2⟩=>⟨⟨_,h1,rfl,r,ns,work,h.below h2,rfl,rfl,hws⟩,h2.mono h.base,keepX_below h2⟩
 | 1,[a,b],hsup=>
  rw [hsrc (.inl rfl)]
  have hgo:∃ q,copyG (entsN ns) (entsN nss) work.data.toList a.data.toList b.data.toList=.ok q:=by
   have h0:(match copyG (entsN ns) (entsN nss) work.data.toList a.data.toList b.data.toList with | .ok _=>true | .error _=>false)=true:=hsup
   cases hc:copyG (entsN ns) (entsN nss) work.data.toList a.data.toList b.data.toList with
   | ok q=>exact ⟨q,rfl⟩
   | error k=>rw [hc] at h0; cases h0
  exact (copyS_any sb r ns work a b ev ao n cap [a,b] none rs nss B Bs m w h hn hws hW rfl rfl hS HT hm (HCB rfl) (hide hgo)).mono fun e w' ⟨h1,h2⟩=>⟨h1.act,h2⟩
 | 2,[a,b],hsup=>
  rw [hsrc (.inr rfl)]
  obtain ⟨k,hk⟩:∃ k,addG (entsN nss) work.data.toList a.data.toList b.data.toList=some k:=Option.isSome_iff_exists.1 hsup
  have e:actG (entsN nss) (entsN ns) work.data.toList 2 ([a,b].map fun u=>u.data.toList)=.error k:=by
   show (match addG (entsN nss) work.data.toList a.data.toList b.data.toList with | some k=>Except.error k | none=>.ok _)=_
   rw [hk]
  rw [e]
  exact (add_bad sb r ns work a b ev ao n cap [a,b] none rs nss B Bs m w h hws hW rfl rfl hS HT hm k hk).mono fun e w' ⟨⟨v,h1,h1'⟩,h2⟩=>⟨⟨v,h1,h1'⟩,h2.mono h.base,keepX_below h2⟩
 | 3,[a],hsup=>
  obtain ⟨k,hk⟩:∃ k,rmG (entsN ns) work.data.toList a.data.toList=some k:=Option.isSome_iff_exists.1 hsup
  have e:actG (entsN nss) (entsN ns) work.data.toList 3 ([a].map fun u=>u.data.toList)=.error k:=by
   show (match rmG (entsN ns) work.data.toList a.data.toList with | some k=>Except.error k | none=>.ok _)=_
   rw [hk]
  rw [e]
  refine (remove_bad sb r ns work a ev ao n cap [a] none src B m w h hn hws hW rfl hm ⟨k,hk⟩).mono fun e w' ⟨⟨k',h1,h1'⟩,h2⟩=>⟨⟨_,h1',?_⟩,h2⟩
  rw [hk] at h1
  injection h1 with h1
  subst h1
  exact .inl rfl
 | 4,[a],_=>
  have hl:=hW.len
  subst hl
  exact (mkdir_any sb r ns work a ev ao cap [a] none src B m w h hn hws hW rfl hm).mono fun e w' ⟨h1,h2⟩=>⟨h1.act,h2⟩
 | 7,[a],_=>
  exact (enter_any sb r ns work a ev ao n cap [a] none src B m w h hn hws hW rfl hm hsb).mono fun e w' ⟨h1,h2⟩=>⟨h1.act,h2⟩
theorem entd_sup {cx t:List Ent} {wk:List UInt8} {rule:Nat} {us:List (List UInt8)} (h:supG cx t wk rule us=true):Entd (ruleT rule).2.2.2:=by
 match rule,us,h with
 | 0,_,_=>exact entd214
 | 1,[_,_],_=>exact entd216
 | 2,[_,_],_=>exact entd218
 | 3,[_],_=>exact entd219
 | 4,[_],_=>exact entd221
 | 7,[_],_=>exact entd225
set_option maxHeartbeats 2000000 in
set_option maxRecDepth 10000 in
theorem newState_any (w:World) (h14:14<w.heap.size) :
  Calls Tryz.prog 32 #[] w fun e w'=>(∃ (sb:Nat) (r:Nd),e=.returned (.pointer (some ⟨sb,0,none⟩))∧w.heap.size≤sb∧Hid (StA w' w.heap.size sb r [] ⟨#[]⟩ (.slice none 0 0)))∧Below w.heap.size w w':=by
 go_enter Tryz.func32,Tryz.ntmps32
 go_wp2_with (go_at_call 42; refine (new_any _).mono ?_; rintro ev w1 ⟨rb,rm,rfl,hnb,hmb,HN1,hb1⟩)
 go_ret
 have hS:Below w1.heap.size w1 (w1.alloc (.cells #[.pointer (some ⟨rb,0,none⟩),.string ⟨#[]⟩,.slice none 0 0,.slice none 0 0] 112)):=(Below.refl _ _).alloc (Nat.le_refl _) _
 have hM:Mem w1 w.heap.size ⟨rootE,rb,rm⟩ []:=⟨rfl,fun x hx=>by
  rw [List.mem_singleton] at hx
  subst hx
  exact ⟨hnb,hmb,(uh HN1).1,(uh HN1).2⟩,by simp⟩
 refine ⟨⟨w1.heap.size,⟨rootE,rb,rm⟩,rfl,hb1.size,hide ⟨heap_alloc_new _ _,hM.below hS,?_,h14,?_⟩⟩,hb1.alloc hb1.size _⟩
 ·exact ⟨.nil,fun e he=>(by cases he),fun e he=>(by cases he)⟩
 ·exact Nat.le_trans hb1.size hS.size
end Go.Proofs.YtehfpjcclknipaaGreatDoor.T
namespace Go.Proofs.YtehfpjcclknipaaGreatDoor
open Go.RowKit Go.Maps
theorem takes_of {m:InM} {w:World} {B:Nat} {y:WdM} (h:m.Ok w B) (hy:m.ws[0]?=some y) (hr:m.rule=1∨m.rule=2):takesW y.xs=true:=by
 have ho:=h.op
 rw [hy] at ho
 simp only at ho
 unfold opW at ho
 cases hp:plainW y.xs with
 | none=>rw [hp] at ho; cases ho
 | some t=>
  rw [hp] at ho
  simp only [Option.bind_some] at ho
  unfold opN at ho
  cases hf:tbl.find? (fun p=>p.1==t) with
  | none=>rw [hf] at ho; cases ho
  | some p=>
   rw [hf] at ho
   injection ho with ho
   dsimp only at ho
   have hm:=List.mem_of_find?_eq_some hf
   have he:p.1=t:=by have:=List.find?_some hf; simpa using this
   have hall:∀ p∈tbl,(p.2=1∨p.2=2)→(p.1=wCOPY∨p.1=wADD):=by decide
   have:=hall p hm (by rw [ho]; exact hr)
   unfold takesW
   rw [hp,← he]
   rcases this with e | e <;> rw [e] <;> simp
end Go.Proofs.YtehfpjcclknipaaGreatDoor
namespace Go.Proofs.YtehfpjcclknipaaGreatDoor.T
open Go.RowKit Go.Maps
structure InsOk (m:InM):Prop where
 stage:m.stage=-1
 plain:∀ y∈m.ws.drop 1,∀ p∈parts y.xs,p.isVar=false
 size:∀ y∈m.ws,szP (parts y.xs)≤1000000
 short:∀ u∈opsT m.ws,u.length≤180
def CbAll (Bs:Nat) (rs:Nd) (nss:List Nd):Prop:=∀ (w:World) (B sb:Nat) (r:Nd) (ns:List Nd) (work:ByteArray) (ev:Value) (m:Int),w.cell? ⟨14,0,none⟩=some (.int .i64 m)→ns.length≤400→(∀ x∈rs :: nss,x.nb<B∧x.mb<B)→CbOk w B sb Bs r rs ns nss work ev
theorem doStep (m:InM) (y:WdM) (sb B Bm Bs:Nat) (r rs:Nd) (ns nss:List Nd) (work:ByteArray) (ev:Value) (mx:Int) (w w0 wr W:World) (v:Value) (us:List ByteArray)
  (hI:InsOk m) (hm:m.Ok w0 Bm) (hy:m.ws[0]?=some y) (hw0:Below w0.heap.size w0 wr) (hB0:w0.heap.size≤B) (hg:w0.cell? ⟨0,0,none⟩=some (.iface 168 (.agg #[.pointer (some ⟨22,47,none⟩)])))
  (hM:Mem w0 Bs rs nss) (HT:Hid (TreeS (entsN nss))) (hmx:w0.cell? ⟨14,0,none⟩=some (.int .i64 mx)) (hC:CbAll Bs rs nss)
  (hS:StA wr B sb r ns work ev) (hsb:B≤sb) (hn:ns.length≤400) (hws:work.size≤1048576) (hb:Below wr.heap.size wr W)
  (hT:TxR W w.heap.size v us) (hus:us.map (fun u=>u.data.toList)=opsT m.ws)
  (hsup:supG (entsN nss) (entsN ns) work.data.toList m.rule (opsT m.ws)=true) (hx:∀ t wk,actG (entsN nss) (entsN ns) work.data.toList m.rule (opsT m.ws)=.ok (t,wk)→t.length≤40) :
  Calls Tryz.prog 20 #[.agg #[.pointer (some ⟨sb,0,none⟩),v,.pointer none,.pointer (if takesW y.xs=true then some ⟨rs.nb,0,none⟩ else none),m.wv,.int .i64 m.stage,.int .i64 (ruleT m.rule).1,.int .i64 (ruleT m.rule).2.1,fnV (ruleT m.rule).2.2.1,fnV (ruleT m.rule).2.2.2]] W fun e w'=>(∃ u,e=.returned u∧DoneV w' B sb ev u y.place (actG (entsN nss) (entsN ns) work.data.toList m.rule (opsT m.ws)))∧Below B W w'∧KeepX W w':=by
 obtain ⟨ao,n,cap,rfl⟩:=row_form hT
 have hlen:n=us.length:=by
  rcases hT.2 with ⟨e,h0⟩ | ⟨g,c,cur,e,h0,_⟩
  ·injection e with _ e _; omega
  ·injection e with _ e _
 have hul:us.length≤1500:=by
  have e:us.length=(opsT m.ws).length:=by rw [← hus,List.length_map]
  rw [e]; unfold opsT
  rw [List.length_map,List.length_drop]
  have:=hm.short; omega
 have hu180:∀ u∈us,u.size≤180:=fun u hu=>by
  have:=hI.short u.data.toList (by rw [← hus]; exact List.mem_map.2 ⟨u,hu,rfl⟩)
  simpa using this
 have hWr:Wrds W ao n cap us:=⟨⟨_,hT⟩,hlen,fun p hp=>by have:=hu180 p hp; omega⟩
 have hbW:Below w0.heap.size w0 W:=hw0.trans (hb.mono hw0.size)
 have hSW:=hS.below hb
 refine tDo_any m y sb B Bm n cap ao _ us ev _ w0 W (Nat.le_trans hS.base hb.size) hWr hu180 (by omega) hm hy hbW hB0 hg (hide fun W' hb'=>?_) hx (entd_sup hsup)
 have:=act_any m.rule sb r ns work ev ao (if takesW y.xs=true then some ⟨rs.nb,0,none⟩ else none) n cap us rs nss B Bs mx W' (hSW.below hb') hn hws (hWr.below hb') ((hM.below hbW).below hb') HT (cell_later hb' (cell_later hbW hmx)) (fun _=>hide (hC _ _ _ _ _ _ _ mx (cell_later hb' (cell_later hbW hmx)) hn (fun x hx=>⟨Nat.lt_of_lt_of_le (Array.getElem?_eq_some_iff.1 (hM.all x hx).2.2.1).1 hB0,Nat.lt_of_lt_of_le (World.ownsMap.lt (hM.all x hx).2.2.2) hB0⟩))) hsb (fun hr=>by rw [takes_of hm hy hr]; rfl) (by rw [hus]; exact hsup)
 rw [hus] at this
 exact this
end Go.Proofs.YtehfpjcclknipaaGreatDoor.T
namespace Go.Proofs.YtehfpjcclknipaaGreatDoor
open Go.RowKit Go.Maps
def wantG (st:List Stg) (i k:Nat):Bool:=match st[i]? with
 | some s=>s.ins.any fun x=>x.stage==(k:Int)
 | none=>false
inductive Need (st:List Stg):Nat→Prop where
 | last:Need st (st.length-1)
 | more {i k:Nat}:Need st i→wantG st i k=true→Need st k
structure Marks (st:List Stg) (bs:List Bool):Prop where
 len:bs.length=st.length
 iff:∀ k,bs[k]?=some true↔Need st k
theorem Marks.of {st:List Stg} {bs:List Bool} (hl:bs.length=st.length) (hs:∀ k,bs[k]?=some true→Need st k) (h0:bs[st.length-1]?=some true) (hc:∀ i k,bs[i]?=some true→wantG st i k=true→bs[k]?=some true):Marks st bs:=
 ⟨hl,fun k=>⟨hs k,fun h=>by
  induction h with
  | last=>exact h0
  | more _ hw ih=>exact hc _ _ ih hw⟩⟩
def idxB (bs:List Bool) (n:Nat):List Nat:=(List.range n).filter fun k=>bs[k]?==some true
theorem idxB_more {bs:List Bool} {n:Nat} (h:bs[n]?=some true):idxB bs (n+1)=idxB bs n++[n]:=by
 unfold idxB
 rw [List.range_succ,List.filter_append]
 simp [h]
theorem idxB_skip {bs:List Bool} {n:Nat} (h:¬ bs[n]?=some true):idxB bs (n+1)=idxB bs n:=by
 unfold idxB
 rw [List.range_succ,List.filter_append]
 simp [h]
theorem idxB_len (bs:List Bool) (n:Nat):(idxB bs n).length≤n:=by
 have:=List.length_filter_le (fun k=>bs[k]?==some true) (List.range n)
 rw [List.length_range] at this; exact this
theorem set_true {bs:List Bool} {k i:Nat} (h:(bs.set k true)[i]?=some true):i=k∨bs[i]?=some true:=by
 rw [List.getElem?_set] at h
 split at h
 ·rename_i e; exact .inl e.symm
 ·exact .inr h
theorem set_keep {bs:List Bool} {k i:Nat} (h:bs[i]?=some true):(bs.set k true)[i]?=some true:=by
 rw [List.getElem?_set]
 split
 ·rename_i e; subst e
  rw [if_pos (List.getElem?_eq_some_iff.1 h).1]
 ·exact h
theorem set_here {bs:List Bool} {k:Nat} (h:k<bs.length):(bs.set k true)[k]?=some true:=by
 rw [List.getElem?_set_self h]
theorem want_mem {st:List Stg} {i k:Nat} {s:Stg} {x:Ins} (hs:st[i]?=some s) (hx:x∈s.ins) (he:x.stage=(k:Int)):wantG st i k=true:=by
 unfold wantG
 rw [hs]
 exact List.any_eq_true.2 ⟨x,hx,by simp [he]⟩
theorem want_some {st:List Stg} {i k:Nat} (h:wantG st i k=true):∃ s x,st[i]?=some s∧x∈s.ins∧x.stage=(k:Int):=by
 unfold wantG at h
 cases hs:st[i]? with
 | none=>rw [hs] at h; cases h
 | some s=>
  rw [hs] at h
  obtain ⟨x,hx,he⟩:=List.any_eq_true.1 h
  exact ⟨s,x,rfl,hx,by simpa using he⟩
def Fwd (st:List Stg):Prop:=∀ (i:Nat) (s:Stg),st[i]?=some s→∀ x∈s.ins,-1≤x.stage∧x.stage<(i:Int)
theorem Fwd.snoc {st:List Stg} {nm:List UInt8} (h:Fwd st):Fwd (st++[⟨nm,[]⟩]):=fun i s hi x hx=>by
 rw [List.getElem?_append] at hi
 split at hi
 ·exact h i s hi x hx
 ·have:=List.mem_of_getElem? hi
  rw [List.mem_singleton] at this
  subst this
  cases hx
theorem find_lt (st:List Stg) (nm:List UInt8):-1≤findG st nm∧findG st nm<(st.length:Int):=by
 unfold findG
 cases h:st.findIdx? (fun s=>s.name==nm) with
 | none=>simp only; omega
 | some i=>
  obtain ⟨hlt,_⟩:=List.findIdx?_eq_some_iff_getElem.1 h
  simp only; omega
theorem Fwd.add {st:List Stg} (h:Fwd st) (i:Ins) (h1:-1≤i.stage) (h2:i.stage<(st.length:Int)-1∨i.stage=-1):Fwd (addIns st i):=by
 unfold addIns
 cases hl:st.getLast? with
 | none=>exact h
 | some s=>
  have hne:st≠[]:=by rintro rfl; cases hl
  have hst:st=st.dropLast++[s]:=by
   have h1:=List.dropLast_concat_getLast hne
   rw [List.getLast?_eq_some_getLast hne] at hl
   injection hl with hl
   rw [hl] at h1
   exact h1.symm
  have hlen:0<st.length:=List.length_pos_iff.2 hne
  intro k a hk x hx
  simp only at hk
  rw [List.getElem?_append] at hk
  split at hk
  ·exact h k a (by rw [hst,List.getElem?_append_left (by assumption)]; exact hk) x hx
  ·have hka:=(List.getElem?_eq_some_iff.1 hk).1
   have hm:=List.mem_of_getElem? hk
   rw [List.mem_singleton] at hm
   subst hm
   rw [List.length_dropLast] at *
   simp only [List.length_cons,List.length_nil] at hka
   have hkk:k=st.length-1:=by omega
   rcases List.mem_append.1 hx with hx | hx
   ·refine h k s ?_ x hx
    rw [hst,List.getElem?_append_right (by rw [List.length_dropLast]; omega),List.length_dropLast,hkk]
    simp
   ·rw [List.mem_singleton] at hx
    subst hx
    exact ⟨h1,by omega⟩
theorem read_fwd {op:Nat} {st st':List Stg} {ws:List Wd} {k:Int} (h:Fwd st) (hr:readG op st ws=.ok (st',k)):Fwd st'∧-1≤k∧(k<(st'.length:Int)-1∨k=-1):=by
 have hf:∀ b n,Fwd (st++[⟨n,[]⟩])∧-1≤(if b=wScratch then (-1:Int) else findG st b)∧((if b=wScratch then (-1:Int) else findG st b)<((st++[(⟨n,[]⟩:Stg)]).length:Int)-1∨(if b=wScratch then (-1:Int) else findG st b)=-1):=fun b n=>by
  have:=find_lt st b
  refine ⟨h.snoc,?_,?_⟩
  ·split <;> omega
  ·rw [List.length_append,List.length_singleton]
   split
   ·exact .inr rfl
   ·exact .inl (by omega)
 unfold readG at hr
 split at hr
 ·unfold fromG at hr
  split at hr
  ·cases hr
  ·rename_i b n _
   split at hr
   ·cases hr
   ·split at hr
    ·cases hr
    ·split at hr
     ·cases hr
     ·injection hr with hr; injection hr with e1 e2; rw [← e1,← e2]; exact hf b n
 ·unfold copyG at hr
  split at hr
  ·split at hr
   ·cases hr
   ·injection hr with hr; injection hr with e1 e2; rw [← e1,← e2]; exact ⟨h,by omega,.inr rfl⟩
  ·rename_i n _
   split at hr
   ·cases hr
   ·split at hr
    ·cases hr
    ·split at hr
     ·cases hr
     ·rename_i hno
      injection hr with hr; injection hr with e1 e2; rw [← e1,← e2]
      have:=find_lt st n
      exact ⟨h,by omega,.inl (by omega)⟩
 ·split at hr
  ·injection hr with hr; injection hr with e1 e2; rw [← e1,← e2]; exact ⟨h,by omega,.inr rfl⟩
  ·split at hr
   ·split at hr
    ·injection hr with hr; injection hr with e1 e2; rw [← e1,← e2]; exact ⟨h,by omega,.inr rfl⟩
    ·cases hr
   ·cases hr
 ·split at hr
  ·split at hr
   ·injection hr with hr; injection hr with e1 e2; rw [← e1,← e2]; exact ⟨h,by omega,.inr rfl⟩
   ·cases hr
  ·cases hr
 ·injection hr with hr; injection hr with e1 e2; rw [← e1,← e2]; exact ⟨h,by omega,.inr rfl⟩
theorem take_fwd {st st':List Stg} {ws:List Wd} (hf:Fwd st) (h:takeG st ws=.ok st'):Fwd st':=by
 unfold takeG at h
 split at h
 ·cases h
 ·split at h
  ·cases h
  ·split at h
   ·cases h
   ·rename_i st1 k hr
    split at h
    ·cases h
    ·split at h
     ·cases h
     ·injection h with h
      obtain ⟨h1,h2,h3⟩:=read_fwd hf hr
      rw [← h]
      exact h1.add _ h2 h3
theorem file_fwd (l:List UInt8) (n:Nat):∀ (k:Nat) (st st':List Stg),l.length-k≤n→Fwd st→fileG l st k=.ok st'→Fwd st'∧st'≠[]:=by
 induction n with
 | zero=>
  intro k st st' hn hf h
  rw [file_end (by omega)] at h
  split at h
  ·cases h
  ·injection h with h; subst h; exact ⟨hf,by assumption⟩
 | succ n ih=>
  intro k st st' hn hf h
  by_cases hk:k<l.length
  ·cases hl:linG l [] k with
   | error e=>rw [file_bad hk hl] at h; cases h
   | ok x=>
    obtain ⟨ws,t⟩:=x
    by_cases ht:k<t
    ·by_cases hw:ws=[]
     ·subst hw
      rw [file_none hk hl ht] at h
      exact ih _ _ _ (by omega) hf h
     ·rw [file_some hk hl ht hw] at h
      cases htk:takeG st ws with
      | error e=>rw [htk] at h; cases h
      | ok st1=>
       rw [htk] at h
       exact ih _ _ _ (by omega) (take_fwd hf htk) h
    ·rw [fileG,if_pos hk,hl] at h
     simp only at h
     rw [dif_neg ht] at h
     cases h
  ·rw [file_end hk] at h
   split at h
   ·cases h
   ·injection h with h; subst h; exact ⟨hf,by assumption⟩
theorem parse_fwd {l:List UInt8} {st:List Stg} (h:parseG l=.ok st):Fwd st∧st≠[]:=by
 unfold parseG at h
 split at h
 ·cases h
 ·split at h
  ·cases h
  ·exact file_fwd l _ _ _ _ (Nat.le_refl _) (fun i s hi=>by simp at hi) h
def Snd (st:List Stg) (bs:List Bool):Prop:=(∀ k,bs[k]?=some true→Need st k)∧bs[st.length-1]?=some true
def Clo (st:List Stg) (bs:List Bool):Prop:=∀ i k,bs[i]?=some true→wantG st i k=true→bs[k]?=some true
theorem Marks.clo {st:List Stg} {bs:List Bool} (hl:bs.length=st.length) (hs:Snd st bs) (hc:Clo st bs):Marks st bs:=Marks.of hl hs.1 hs.2 hc
structure Mk (w:World) (B:Nat) (wr:World) (g:Nat) (bs:List Bool):Prop where
 cells:∃ c:Array Value,wr.heap[g]?=some (.cells c 4 (0,0))∧c.toList=bs.map Value.bool
 below:Below B w wr
 base:B≤g
theorem Mk.get {w wr:World} {B g:Nat} {bs:List Bool} (h:Mk w B wr g bs) {k:Nat} {b:Bool} (hk:bs[k]?=some b):wr.cell? ⟨g,k,none⟩=some (.bool b):=by
 obtain ⟨c,hc,e⟩:=h.cells
 rw [cq k hc,← Array.getElem?_toList,e,List.getElem?_map,hk]; rfl
theorem Mk.frz {w wr:World} {B g:Nat} {bs:List Bool} (h:Mk w B wr g bs) (k:Nat):wr.frozen? ⟨g,k,none⟩=false:=by
 obtain ⟨c,hc,_⟩:=h.cells
 exact frozen_of_row wr g k c 4 hc
theorem Mk.lt {w wr:World} {B g:Nat} {bs:List Bool} (h:Mk w B wr g bs):g<wr.heap.size:=by
 obtain ⟨c,hc,_⟩:=h.cells
 exact (Array.getElem?_eq_some_iff.1 hc).1
theorem Mk.set {w wr:World} {B g:Nat} {bs:List Bool} (h:Mk w B wr g bs) (k:Nat):Mk w B (wr.setCell ⟨g,k,none⟩ (.bool true)) g (bs.set k true):=by
 obtain ⟨c,hc,e⟩:=h.cells
 refine ⟨⟨c.setIfInBounds k (.bool true),heap_setCell_same wr g k c 4 _ hc,?_⟩,h.below.setCell h.base _,h.base⟩
 rw [Array.toList_setIfInBounds,e,List.map_set]
theorem Mk.later {w wr w2:World} {B g:Nat} {bs:List Bool} (h:Mk w B wr g bs) (hb:Below wr.heap.size wr w2):Mk w B w2 g bs:=by
 obtain ⟨c,hc,e⟩:=h.cells
 exact ⟨⟨c,(hb.block g h.lt).trans hc,e⟩,h.below.trans (hb.mono (Nat.le_of_lt (Nat.lt_of_le_of_lt h.base h.lt))),h.base⟩
theorem Mk.grown {w wr w2:World} {B g:Nat} {bs:List Bool} {r:Option Nat} (h:Mk w B wr g bs) (hb:wr.grownBy w2 r) (hr:r≠some g) (hB:∀ q,r=some q→B≤q):Mk w B w2 g bs:=by
 obtain ⟨c,hc,e⟩:=h.cells
 exact ⟨⟨c,(hb.block g h.lt (fun e=>hr e.symm)).trans hc,e⟩,h.below.grown hb (Nat.le_of_lt (Nat.lt_of_le_of_lt h.base h.lt)) hB,h.base⟩
theorem Mk.ofMade {w wr:World} {g n:Nat} (hr:wr.ownsRow w.heap.size 4 1 (.slice (some ⟨g,0,none⟩) n n) n (madeCells (Value.bool false).cells (n*1)).toList) (hg:w.grownBy wr none):Mk w w.heap.size wr g (List.replicate n false):=by
 rcases hr.2 with ⟨h',_⟩ | ⟨g',cap',cur,h',hb,hc,_,_,hsz,ht⟩
 ·simp at h'
 ·simp only [Value.slice.injEq,Option.some.injEq,Addr.mk.injEq,and_true,true_and] at h'
  obtain ⟨rfl,rfl⟩:=h'
  refine ⟨⟨cur,hc,?_⟩,(Below.refl _ w).grown hg (Nat.le_refl _) (fun q hq=>by cases hq),hb⟩
  rw [List.take_of_length_le (by rw [Array.length_toList]; omega)] at ht
  rw [ht,show (Value.bool false).cells=#[Value.bool false] from rfl,toList_madeCells_one,Nat.mul_one,List.map_replicate]
theorem info4:(Tryz.prog.info? 4).map (fun i=>(i.zero,i.size,i.bytes))=some (some (.bool false),1,1):=by kernel_rfl
theorem info3:(Tryz.prog.info? 3).map (fun i=>(i.zero,i.size,i.bytes))=some (some (.int .i64 0),1,8):=by kernel_rfl
abbrev NumR (w:World) (B:Nat) (v:Value) (l:List Nat):Prop:=w.ownsRow B 3 1 v l.length (l.map fun (k:Nat)=>Value.int .i64 (k:Int))
theorem row_capz {w:World} {B e z n:Nat} {v:Value} {xs:List Value} (h:w.ownsRow B e z v n xs) (hn:0<n):∃ g cap,v=.slice (some ⟨g,0,none⟩) n cap∧n≤cap∧cap≤maxLen:=by
 rcases h.2 with ⟨_,h0⟩ | ⟨g,cap,cur,hv,_,_,h1,h2,_⟩
 ·omega
 ·exact ⟨g,cap,hv,h1,h2⟩
theorem kind_of {w:World} {B e z n:Nat} {v:Value} {xs:List Value} (h:w.ownsRow B e z v n xs):∀ g,v.ownBlock=some g→∃ c fz,w.heap[g]?=some (.cells c e fz):=fun g hg=>by
 rcases h.2 with ⟨rfl,_⟩ | ⟨g',cap,cur,rfl,_,hg',_⟩
 ·cases hg
 ·have:g'=g:=by simpa [Value.ownBlock] using hg
  subst this; exact ⟨cur,(0,0),hg'⟩
def NeedOut (st:List Stg) (B:Nat) (w':World) (ev:Ending):Prop:=∃ rv bs,Marks st bs∧ev=.returned rv∧NumR w' B rv (idxB bs st.length)
theorem snd_start {st:List Stg} (hne:st≠[]):Snd st ((List.replicate st.length false).set (st.length-1) true):=by
 have:=List.length_pos_iff.2 hne
 refine ⟨fun k hk=>?_,set_here (by rw [List.length_replicate]; omega)⟩
 rcases set_true hk with rfl | hk
 ·exact .last
 ·rw [List.getElem?_replicate] at hk
  split at hk <;> cases hk
theorem some_bool {bs:List Bool} {n k:Nat} (hl:bs.length=n) (hk:k<n):∃ b,bs[k]?=some b:=⟨_,List.getElem?_eq_getElem (by omega)⟩
structure St4 (w:World) (B:Nat) (wr:World) (g:Nat) (bs:List Bool) (ov:Value) (k:Nat):Prop where
 mks:Mk w B wr g bs
 row:NumR wr B ov (idxB bs k)
theorem St4.apart {w wr:World} {B g k:Nat} {bs:List Bool} {ov:Value} (h:St4 w B wr g bs ov k):ov.ownBlock≠some g:=fun e=>by
 obtain ⟨c,fz,hc⟩:=kind_of h.row g e
 obtain ⟨c',hc',_⟩:=h.mks.cells
 rw [hc] at hc'
 injection hc' with hc'
 injection hc' with _ hc' _
 cases hc'
structure St6 (st:List Stg) (bs:List Bool) (j:Nat):Prop where
 snd:Snd st bs
 behind:∀ i k,j≤i→bs[i]?=some true→wantG st i k=true→bs[k]?=some true
structure St5 (st:List Stg) (bs:List Bool) (i:Nat) (ins:List Ins) (k:Nat):Prop where
 s6:St6 st bs (i+1)
 here:∀ (q:Nat) (x:Ins) (n:Nat),q<k→ins[q]?=some x→bs[i]?=some true→x.stage=(n:Int)→bs[n]?=some true
theorem St6.start {st:List Stg} {bs:List Bool} {n:Nat} (h:Snd st bs) (hl:bs.length≤n):St6 st bs n:=⟨h,fun i k hi h1=>by have:=(List.getElem?_eq_some_iff.1 h1).1; omega⟩
theorem St6.done {st:List Stg} {bs:List Bool} (h:St6 st bs 0):Clo st bs:=fun i k=>h.behind i k (Nat.zero_le _)
theorem St5.start {st:List Stg} {bs:List Bool} {i:Nat} {ins:List Ins} (h:St6 st bs (i+1)):St5 st bs i ins 0:=⟨h,fun q x n hq=>by omega⟩
theorem St5.skip {st:List Stg} {bs:List Bool} {i k:Nat} {ins:List Ins} {x:Ins} (h:St5 st bs i ins k) (hx:ins[k]?=some x) (hs:bs[i]?=some true→x.stage=-1):St5 st bs i ins (k+1):=
 ⟨h.s6,fun q y n hq hy h1 h2=>by
  by_cases hqk:q=k
  ·subst hqk; rw [hx] at hy; cases hy
   have:=hs h1; omega
  ·exact h.here q y n (by omega) hy h1 h2⟩
theorem St5.mark {st:List Stg} {bs:List Bool} {i k n:Nat} {s:Stg} {x:Ins} (h:St5 st bs i s.ins k) (hs:st[i]?=some s) (hx:s.ins[k]?=some x) (h1:bs[i]?=some true) (he:x.stage=(n:Int)) (hn:n<i):St5 st (bs.set n true) i s.ins (k+1):=by
 have hi:=(List.getElem?_eq_some_iff.1 h1).1
 have hne:∀ j,i≤j→(bs.set n true)[j]?=bs[j]?:=fun j hj=>List.getElem?_set_ne (by omega)
 refine ⟨⟨⟨fun j hj=>?_,set_keep h.s6.snd.2⟩,fun j q hj h2 h3=>?_⟩,fun q y m hq hy h2 h3=>?_⟩
 ·rcases set_true hj with rfl | hj
  ·exact .more (h.s6.snd.1 _ h1) (want_mem hs (List.mem_of_getElem? hx) he)
  ·exact h.s6.snd.1 _ hj
 ·rw [hne j (by omega)] at h2
  exact set_keep (h.s6.behind j q hj h2 h3)
 ·by_cases hqk:q=k
  ·subst hqk; rw [hx] at hy; cases hy
   have:n=m:=by omega
   subst this
   exact set_here (by omega)
  ·exact set_keep (h.here q y m (by omega) hy h1 h3)
theorem St5.next {st:List Stg} {bs:List Bool} {i k:Nat} {s:Stg} (h:St5 st bs i s.ins k) (hs:st[i]?=some s) (hk:s.ins.length≤k):St6 st bs i:=
 ⟨h.s6.snd,fun j q hj h1 h2=>by
  by_cases hji:j=i
  ·subst hji
   obtain ⟨t,x,ht,hx,he⟩:=want_some h2
   rw [hs] at ht; cases ht
   obtain ⟨p,hp⟩:=List.getElem?_of_mem hx
   exact h.here p x q (by have:=(List.getElem?_eq_some_iff.1 hp).1; omega) hp h1 he
  ·exact h.s6.behind j q (by omega) h1 h2⟩
set_option maxHeartbeats 8000000 in
set_option maxRecDepth 10000 in
theorem needed_any (B fb:Nat) (sv:Value) (ss:List StM) (w:World) (h:FileM w B fb sv ss) (hF:Fwd (ss.map StM.stg)) (hne:ss.map StM.stg≠[]) :
  Calls Tryz.prog 31 #[.pointer (some ⟨fb,0,none⟩)] w fun e w'=>NeedOut (ss.map StM.stg) w.heap.size w' e∧Below w.heap.size w w':=by
 have h0:0<ss.length:=by have:=List.length_pos_iff.2 hne; rwa [List.length_map] at this
 obtain ⟨g0,cap,hv,_,_⟩:=row_capz h.row h0
 subst hv
 obtain ⟨i4,hi4,hz4,hs4,hb4⟩:=info_parts info4
 obtain ⟨i3,hi3,hz3,hs3,hb3⟩:=info_parts info3
 obtain ⟨m,hm⟩:∃ m,ss.length=m+1:=⟨ss.length-1,by omega⟩
 obtain ⟨st,hst⟩:∃ st,st=ss.map StM.stg:=⟨_,rfl⟩
 have hl5:=h.short
 have hm5:m≤4:=by omega
 have hml:st.length=m+1:=by rw [hst,List.length_map,hm]
 rw [← hst] at hF hne ⊢
 have HS0:Hid (Snd st ((List.replicate (m+1) false).set m true)):=hide (by have:=snd_start hne; rw [hml] at this; exact this)
 have c0:=h.c0
 rw [hm] at c0
 have HM:=hide hm
 have HML:=hide hml
 have HS:=hide hst
 have HFM:=hide h
 have HF:=hide hF
 have HC0:Hid (∀ wr,Below w.heap.size w wr→wr.cell? ⟨fb,0,none⟩=some (.slice (some ⟨g0,0,none⟩) (m+1) cap)):=hide (fun wr hb=>cell_later hb c0)
 have hfb:=h.lt
 have i1:IntKind.i64.wrap (((m+1:Nat):Int)-1)=(m:Int):=by
  rw [show (((m+1:Nat):Int)-1)=((m:Nat):Int) by omega]; exact wrap_i64 m (by omega)
 clear h hF hne h0 hm hml hst hl5
 go_enter Tryz.func31,Tryz.ntmps31
 go_upto_region 2 with (at_make; refine wpList_make_full _ rfl _ _ 158 rfl w.heap.size 4 i4 (.bool false) 1 Tryz.underlying158 hi4 hz4 hs4 _ _ _ _ (m+1) rfl rfl rfl rfl (by rw [hb4]; omega) (by unfold maxLen; omega) (Nat.le_refl _) ?_; intro w1 hrow1 hgrow1; have HK1:=hide (Mk.ofMade hrow1 hgrow1); clear hrow1 hgrow1 c0)
 have c1:=uh HC0 w1 (uh HK1).below
 have q1:w1.cell? ⟨w.heap.size,m,none⟩=some (.bool false):=(uh HK1).get (by rw [List.getElem?_replicate]; simp)
 have f1:=(uh HK1).frz m
 obtain ⟨W2,hW2⟩:∃ W2,W2=w1.setCell ⟨w.heap.size,m,none⟩ (.bool true):=⟨_,rfl⟩
 have HK2:Hid (Mk w w.heap.size W2 w.heap.size ((List.replicate (m+1) false).set m true)):=hide (by rw [hW2]; exact (uh HK1).set m)
 go_upto_region 3 with fail
 rw [← hW2]
 clear hW2 q1 f1 HK1 c1
 have c2:=uh HC0 W2 (uh HK2).below
 go_wp2_with fail
 go_loopw [4] (fun iv wr=>∃ (j:Nat) (bs:List Bool),j≤m+1∧iv=.int .i64 ((j:Int)-1)∧Mk w w.heap.size wr w.heap.size bs∧bs.length=m+1∧St6 st bs j) (fun iv _=>(intOf iv+1).toNat)
 case atStart=>exact ⟨m+1,_,Nat.le_refl _,by first | rfl | (congr 1; omega),uh HK2,by simp,.start (uh HS0) (by simp)⟩
 case round=>
  clear c2 HK2 HS0
  obtain ⟨j,bs,hj,rfl,hk,hlb,h6⟩:=hrel
  cases j with
  | zero=>
   have HMA:Hid (Marks st bs):=hide (Marks.clo (by rw [hlb,uh HML]) h6.snd h6.done)
   have HK0:=hide hk
   have HL0:=hide hlb
   have e0:(((0:Nat):Int)-1)=-1:=rfl
   rw [e0]
   clear hk h6 hlb e0
   go_wp2_with fail
   go_loopw [7,63] (fun ov iv wr=>∃ (k:Nat) (u:Value),k≤m+1∧iv=.int .i64 (k:Int)∧u=ov∧St4 w w.heap.size wr w.heap.size bs u k) (fun _ iv _=>m+1-(intOf iv).toNat)
   case atStart=>exact ⟨0,_,Nat.zero_le _,rfl,rfl,uh HK0,World.ownsRow_nil _ _ _ _⟩
   case round=>
    obtain ⟨k,u,hk,rfl,hu,h4⟩:=hrel
    subst hu
    by_cases hlt:k<m+1
    ·obtain ⟨b,hb⟩:=some_bool (uh HL0) hlt
     have qk:=h4.mks.get hb
     have n0:=World.new_ne _ ⟨w.heap.size,k,none⟩ qk
     have H4:=hide h4
     obtain ⟨ao,n',c',hov⟩:=row_form h4.row
     subst hov
     have hlk:=idxB_len bs k
     have hsz:=h4.mks.below.size
     cases b with
     | false=>
      have H5:Hid (St4 w w.heap.size wr w.heap.size bs (.slice ao n' c') (k+1)):=hide ⟨h4.mks,by rw [idxB_skip (by rw [hb]; simp)]; exact h4.row⟩
      clear h4 hb
      go_wp2_with fail
      go_roundw
      case rel=>exact ⟨k+1,_,hlt,by go_num,rfl,uh H5⟩
      case measure=>simp [intOf]; omega
     | true=>
      have HB:=hide hb
      obtain ⟨xs,hxs⟩:∃ xs,xs=idxB bs k:=⟨_,rfl⟩
      have HXS:=hide hxs
      have HRow:Hid (NumR wr w.heap.size (.slice ao n' c') xs):=hide (by rw [hxs]; exact h4.row)
      rw [← hxs] at hlk
      clear h4 hb hxs
      go_wp2_with (at_builtin; refine wpList_append_own _ rfl _ _ 101 rfl w.heap.size 3 i3 _ 1 8 Tryz.underlying101 hi3 hz3 hs3 hb3 rfl (by decide) (.slice ao n' c') xs.length _ rfl (row_same (uh HRow) (fun q hq=>Below.heap_alloc _ _ q (World.ownsRow.lt (uh HRow) q hq).2)) ⟨wr.heap.size,0,none⟩ 1 1 [.int .i64 (k:Int)] rfl rfl (World.news_of_block (cs:=#[.int .i64 (k:Int)]) (t:=3) (fr:=(0,0)) (heap_alloc_new _ _)) (by intro u hu; simp only [List.mem_cons,List.not_mem_nil,or_false] at hu; rcases hu with rfl; rfl) (by unfold maxLen; omega) (by omega) (by simp; omega) ?_; intro v6 w6 hown6 hgrow6 _; have HO:=hide hown6; have HG:=hide hgrow6; clear hown6 hgrow6)
      go_roundw
      case rel=>
       refine ⟨k+1,_,hlt,by go_num,rfl,?_,?_⟩
       ·exact ((uh H4).mks.later ((Below.refl _ _).alloc (Nat.le_refl _) _)).grown (uh HG) (uh H4).apart (fun q hq=>(World.ownsRow.lt (uh H4).row q hq).1)
       ·rw [idxB_more (uh HB),← uh HXS]
        have:=uh HO
        show World.ownsRow _ _ _ _ _ _ _
        simp only [List.length_append,List.length_cons,List.length_nil,List.map_append,List.map_cons,List.map_nil]
        exact this
      case measure=>simp [intOf]; omega
    ·have hkm:k=m+1:=by omega
     have H5:Hid (NeedOut st w.heap.size wr (.returned u)∧Below w.heap.size w wr):=hide ⟨⟨u,bs,uh HMA,rfl,by rw [uh HML,← hkm]; exact h4.row⟩,h4.mks.below⟩
     obtain ⟨ao,n',c',hov⟩:=row_form h4.row
     subst hov
     clear h4 hkm
     go_wp2_with fail
     go_ret
     exact uh H5
  | succ i=>
   have e0:(((i+1:Nat):Int)-1)=(i:Int):=by omega
   rw [e0]
   clear e0
   obtain ⟨s,hs⟩:∃ s,ss[i]?=some s:=⟨_,List.getElem?_eq_getElem (by rw [uh HM]; omega)⟩
   have hFr:=(uh HFM).below hk.below
   have hok:=hFr.all s (List.mem_of_getElem? hs)
   obtain ⟨q0,q1⟩:=st_at hFr.row i s hs
   obtain ⟨ao,nI,cI,hiv,hnI⟩:=st_form hok
   rw [hiv] at q1
   have c3:=hFr.c0
   rw [uh HM] at c3
   have hsI:=hok.short
   rw [← hnI] at hsI
   have HSI:=hide hs
   have HST:Hid (st[i]?=some s.stg):=hide (by rw [uh HS,List.getElem?_map,hs]; rfl)
   have HIV:=hide hiv
   have HNI:=hide hnI
   have HK:=hide hk
   have HLB:=hide hlb
   have H6:=hide h6
   have hi1:i<m+1:=by omega
   have hlo:(0:Int)≤(i:Int):=by omega
   clear hs hFr hok hiv hnI hk hlb h6 q0
   go_wp2_with fail
   go_loopw [43] (fun kv wr=>∃ (k:Nat) (bs:List Bool),k≤nI∧kv=.int .i64 (k:Int)∧Mk w w.heap.size wr w.heap.size bs∧bs.length=m+1∧St5 st bs i s.stg.ins k) (fun kv _=>nI-(intOf kv).toNat)
   case atStart=>exact ⟨0,bs,Nat.zero_le _,rfl,uh HK,uh HLB,.start (uh H6)⟩
   case round=>
    clear HK HLB H6 q1 c3
    obtain ⟨k,bs3,hkn,rfl,hk3,hl3,h5⟩:=hrel
    by_cases hlt:k<nI
    ·obtain ⟨x,hx⟩:∃ x,s.ins[k]?=some x:=⟨_,List.getElem?_eq_getElem (by rw [← uh HNI]; exact hlt)⟩
     have hFr:=(uh HFM).below hk3.below
     have hok:=hFr.all s (List.mem_of_getElem? (uh HSI))
     obtain ⟨gI,cI2,hvI,_,_⟩:=row_capz hok.row (by rw [← uh HNI]; omega)
     have hrow:=hok.row
     have hv2:=uh HIV
     rw [hvI] at hv2 hrow
     injection hv2 with e1 _ e3
     subst e1 e3
     obtain ⟨d0,d1,d2,d3,d4,d5⟩:=in_at hrow k x hx
     obtain ⟨b,hb⟩:=some_bool hl3 hi1
     have hxf:=uh HF i s.stg (uh HST) x.ins (List.mem_map.2 ⟨x,List.mem_of_getElem? hx,rfl⟩)
     obtain ⟨g2,cap2,hwv⟩:∃ g2 n2 cap2,x.wv=.slice g2 n2 cap2:=row_form (hok.all x (List.mem_of_getElem? hx)).ws.row
     obtain ⟨c2,hwv⟩:=hwv
     rw [hwv] at d0
     obtain ⟨W4,hW4⟩:∃ W4,W4=wr.alloc (.cells #[.slice g2 cap2 c2,.int .i64 x.stage,.int .i64 (ruleT x.rule).1,.int .i64 (ruleT x.rule).2.1,fnV (ruleT x.rule).2.2.1,fnV (ruleT x.rule).2.2.2] 76):=⟨_,rfl⟩
     have hc4:W4.heap[wr.heap.size]?=some (.cells #[.slice g2 cap2 c2,.int .i64 x.stage,.int .i64 (ruleT x.rule).1,.int .i64 (ruleT x.rule).2.1,fnV (ruleT x.rule).2.2.1,fnV (ruleT x.rule).2.2.2] 76 (0,0)):=by rw [hW4]; exact heap_alloc_new _ _
     have r1:W4.cell? ⟨wr.heap.size,1,none⟩=some (.int .i64 x.stage):=cq 1 hc4
     have hk4:Mk w w.heap.size W4 w.heap.size bs3:=by rw [hW4]; exact hk3.later ((Below.refl _ _).alloc (Nat.le_refl _) _)
     have qi:=hk4.get hb
     have n0:=World.new_ne wr ⟨gI,k*6,none⟩ d0
     have hx2:s.stg.ins[k]?=some x.ins:=by show (s.ins.map InM.ins)[k]?=_; rw [List.getElem?_map,hx]; rfl
     have HX:=hide hx2
     have HK4:=hide hk4
     have HL3:=hide hl3
     have H5:=hide h5
     have HB:=hide hb
     have hxs:x.ins.stage=x.stage:=rfl
     rw [hxs] at hxf
     have HXS:=hide hxs
     obtain ⟨sg,hsg⟩:∃ sg,sg=x.stage:=⟨_,rfl⟩
     have HSG:=hide hsg
     rw [← hsg] at hxf r1 d1 hW4
     clear hx hFr hok hvI hrow hk3 hl3 h5 hb hc4 hk4 hx2 hwv hxs hsg
     go_upto_region 9 with fail
     rw [← hW4]
     clear hW4 d0 d1 d2 d3 d4 d5 n0
     cases b with
     | false=>
      have H55:Hid (St5 st bs3 i s.stg.ins (k+1)):=hide ((uh H5).skip (uh HX) (fun e=>by rw [uh HB] at e; cases e))
      go_wp2_with fail
      go_roundw
      case rel=>exact ⟨k+1,bs3,hlt,by go_num,uh HK4,uh HL3,uh H55⟩
      case measure=>simp [intOf]; omega
     | true=>
      by_cases hsm:sg=-1
      ·have H55:Hid (St5 st bs3 i s.stg.ins (k+1)):=hide ((uh H5).skip (uh HX) (fun _=>by rw [uh HXS,← uh HSG,hsm]))
       subst hsm
       go_wp2_with fail
       go_roundw
       case rel=>exact ⟨k+1,bs3,hlt,by go_num,uh HK4,uh HL3,uh H55⟩
       case measure=>simp [intOf]; omega
      ·obtain ⟨n,hn⟩:∃ n:Nat,sg=(n:Int):=⟨sg.toNat,by omega⟩
       subst hn
       have hni:n<i:=by omega
       have H55:Hid (St5 st (bs3.set n true) i s.stg.ins (k+1)):=hide ((uh H5).mark (uh HST) (uh HX) (uh HB) (by rw [uh HXS,← uh HSG]) hni)
       obtain ⟨bn,hbn⟩:=some_bool (uh HL3) (show n<m+1 by omega)
       have qn:=(uh HK4).get hbn
       have fn:=(uh HK4).frz n
       have g1:(((n:Nat):Int) != -1)=true:=by simp
       have hnm:n<m+1:=by omega
       clear hxf hbn hsm
       go_wp2_with fail
       go_roundw
       case rel=>exact ⟨k+1,bs3.set n true,hlt,by go_num,(uh HK4).set n,by rw [List.length_set]; exact uh HL3,uh H55⟩
       case measure=>simp [intOf]; omega
    ·have H66:Hid (St6 st bs3 i):=hide (h5.next (uh HST) (by show (s.ins.map InM.ins).length≤k; rw [List.length_map,← uh HNI]; omega))
     have HK3:=hide hk3
     have HL3:=hide hl3
     clear hk3 hl3 h5
     go_wp2_with fail
     go_roundw
     case rel=>exact ⟨i,bs3,by omega,by first | rfl | go_num,uh HK3,uh HL3,uh H66⟩
     case measure=>simp [intOf]
theorem need_alone {st:List Stg} {bs:List Bool} {m:Nat} (h:Marks st bs) (hm:st.length=m+1) (hw:∀ k,wantG st m k=false):idxB bs st.length=[m]:=by
 have hn:∀ k,Need st k→k=m:=fun k hk=>by
  induction hk with
  | last=>omega
  | more _ h2 ih=>subst ih; rw [hw] at h2; cases h2
 have hl:bs[m]?=some true:=(h.iff m).2 (by have:=Need.last (st:=st); rw [hm] at this; exact this)
 rw [hm,idxB_more hl]
 have:idxB bs m=[]:=by
  unfold idxB
  rw [List.filter_eq_nil_iff]
  intro k hk
  rw [List.mem_range] at hk
  intro e
  have:=hn k ((h.iff k).1 (by simpa using e))
  omega
 rw [this]; rfl
theorem want_none {ss:List StM} {m:Nat} {s:StM} (hs:ss[m]?=some s) (h:∀ x∈s.ins,x.stage=-1):∀ k,wantG (ss.map StM.stg) m k=false:=fun k=>by
 unfold wantG
 rw [List.getElem?_map,hs]
 simp only [Option.map_some,StM.stg,List.any_eq_false,List.mem_map]
 rintro x ⟨y,hy,rfl⟩
 simp only [InM.ins,h y hy]
 simp
end Go.Proofs.YtehfpjcclknipaaGreatDoor
namespace Go.Proofs.YtehfpjcclknipaaGreatDoor.T
open Go.RowKit Go.Maps
def placeM (m:InM):Nat:=match m.ws[0]? with
 | some y=>y.place
 | none=>0
def runG (cx:List Ent):List InM→List Ent→List UInt8→Except (Nat × Nat) (List Ent × List UInt8)
 | [],t,wk=>.ok (t,wk)
 | m :: l,t,wk=>match actG cx t wk m.rule (opsT m.ws) with
  | .error k=>.error (k,placeM m)
  | .ok (t',wk')=>runG cx l t' wk'
def runOk (cx:List Ent):List InM→List Ent→List UInt8→Prop
 | [],_,_=>True
 | m :: l,t,wk=>(InsOk m∧m.ws≠[])∧supG cx t wk m.rule (opsT m.ws)=true∧match actG cx t wk m.rule (opsT m.ws) with
  | .error _=>True
  | .ok (t',wk')=>t'.length≤40∧runOk cx l t' wk'
structure Sta (w:World) (B sb:Nat) (t:List Ent) (wk:List UInt8):Prop where
 st:∃ (r:Nd) (ns:List Nd) (work:ByteArray),StA w B sb r ns work (.slice none 0 0)∧entsN ns=t∧work.data.toList=wk∧work.size≤1048576
 small:t.length≤40
def MadeOut (w':World) (e:Ending) (x:Except (Nat × Nat) (List Ent × List UInt8)):Prop:=match x with
 | .error (k,pl)=>∃ q:Nat,e=.returned (.tuple #[.pointer none,.iface 80 (.pointer (some ⟨q,0,none⟩))])∧w'.heap[q]?=some (.cells #[.int .i64 (k:Int),.int .i64 (pl:Int)] 84 (0,0))
 | .ok (t,wk)=>∃ B sb:Nat,e=.returned (.tuple #[.pointer (some ⟨sb,0,none⟩),.nilIface])∧Sta w' B sb t wk
theorem info63z:(Tryz.prog.info? 63).map (fun i=>(i.zero,i.size,i.bytes))=some (some (.pointer none),1,8):=by kernel_rfl
theorem runG_step {cx:List Ent} {l:List InM} {j:Nat} {m:InM} {t:List Ent} {wk:List UInt8} (hm:l[j]?=some m):runG cx (l.drop j) t wk=match actG cx t wk m.rule (opsT m.ws) with
  | .error k=>.error (k,placeM m)
  | .ok (t',wk')=>runG cx (l.drop (j+1)) t' wk':=by
 have hj:=(List.getElem?_eq_some_iff.1 hm).1
 have e:l.drop j=m :: l.drop (j+1):=by rw [List.drop_eq_getElem_cons hj]; congr 1; exact (List.getElem?_eq_some_iff.1 hm).2
 rw [e]; rfl
theorem runOk_step {cx:List Ent} {l:List InM} {j:Nat} {m:InM} {t:List Ent} {wk:List UInt8} (hm:l[j]?=some m) (h:runOk cx (l.drop j) t wk):(InsOk m∧m.ws≠[])∧supG cx t wk m.rule (opsT m.ws)=true∧match actG cx t wk m.rule (opsT m.ws) with
  | .error _=>True
  | .ok (t',wk')=>t'.length≤40∧runOk cx (l.drop (j+1)) t' wk':=by
 have hj:=(List.getElem?_eq_some_iff.1 hm).1
 have e:l.drop j=m :: l.drop (j+1):=by rw [List.drop_eq_getElem_cons hj]; congr 1; exact (List.getElem?_eq_some_iff.1 hm).2
 rw [e] at h; exact h
end Go.Proofs.YtehfpjcclknipaaGreatDoor.T
