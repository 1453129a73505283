import Derived.Test.YtehfpjcclknipaaGreatDoorSpG
import Derived.Test.YtehfpjcclknipaaGreatDoorJTEach
import Derived.Test.YtehfpjcclknipaaGreatDoorJTPckJ
namespace Go.Proofs.YtehfpjcclknipaaGreatDoor.T
open Go.RowKit Go.Maps
theorem tree_small {es:List Ent}(h:TreeS es):Small es:=fun e he=>by
 have:=h.ent e he
 unfold entOk at this
 simp only [Bool.and_eq_true] at this
 obtain ⟨⟨_,hp⟩,hg⟩:=this
 refine ⟨by rw [Lib.size_eq];have:=(isP_parts hp).1;omega,?_⟩
 unfold goodE at hg
 split at hg
 ·simp only [Bool.and_eq_true,beq_iff_eq] at hg
  rw [Lib.size_eq,hg.2];simp
 ·split at hg
  ·simp only [Bool.and_eq_true,decide_eq_true_eq] at hg
   omega
  ·split at hg
   ·simp only [Bool.and_eq_true,decide_eq_true_eq] at hg
    have:=hg.2
    unfold tgt at this
    simp only [Bool.and_eq_true,decide_eq_true_eq] at this
    rw [Lib.size_eq];omega
   ·cases hg
theorem tree_g {es:List Ent}(h:TreeS es) (hl:es.length≤120):TreeG es:=⟨h.ok,hl,tree_small h⟩
theorem checkBound_any (sb:Nat) (r:Nd) (ns:List Nd) (work:ByteArray) (ev:Value) (B:Nat) (w:World) (h:StA w B sb r ns work ev) (hn:ns.length≤120) :
  Calls Tryz.prog 75 #[.pointer (some ⟨sb,0,none⟩)] w fun e w'=>e=.returned (if 40<ns.length then .iface 22 (.int .i64 10) else .nilIface)∧Below w.heap.size w w':=by
 have hB:=below_any w h.mem (hide rfl) (hide (tree_g h.tree (by simpa [entsN] using hn)))
 have c0:=h.c0
 obtain ⟨n,hnn⟩:∃ n,n=ns.length:=⟨_,rfl⟩
 rw [←hnn] at hB hn ⊢
 clear h hnn
 by_cases h40:40<n
 ·rw [if_pos h40]
  have i1:(40:Int)<(n:Int):=by omega
  clear h40
  go_enter Tryz.func75,Tryz.ntmps75
  go_wp2_with (go_at_call 57;refine hB.mono ?_;clear hB;rintro e w1 ⟨rfl,hb1⟩)
  go_ret
  exact ⟨rfl,hb1⟩
 ·rw [if_neg h40]
  have i1:¬ (40:Int)<(n:Int):=by omega
  clear h40
  go_enter Tryz.func75,Tryz.ntmps75
  go_wp2_with (go_at_call 57;refine hB.mono ?_;clear hB;rintro e w1 ⟨rfl,hb1⟩)
  go_ret
  exact ⟨rfl,hb1⟩
def endSl (l:List UInt8):Bool:=l.getLast?==some 47
theorem suf_any (s:ByteArray) (w:World) (hs:s.size≤1073741824):Calls Tryz.prog 258 #[.string s,.string ⟨#[47]⟩] w fun e w'=>e=.returned (.bool (endSl s.data.toList))∧w'=w:=by
 have hS:Calls Tryz.prog 283 #[.string s,.string ⟨#[47]⟩] w fun e w'=>e=.returned (.bool (endSl s.data.toList))∧w'=w:=by
  by_cases h0:s.size=0
  ·have HR:Hid (endSl s.data.toList=false):=hide (by
    have:s.data.toList=[]:=List.length_eq_zero_iff.1 (by rw [←Lib.size_eq];exact h0)
    rw [this];rfl)
   have i1:¬ (1:Int)≤(s.size:Int):=by omega
   clear h0
   go_enter Tryz.func283,Tryz.ntmps283
   go_wp2_with fail
   go_ret
   exact ⟨by rw [uh HR];rfl,rfl⟩
  ·obtain ⟨n,hn⟩:∃ n,s.size=n+1:=⟨s.size-1,by omega⟩
   have HR:Hid (((s.extract n s.size).toList==[47])=endSl s.data.toList):=hide (by
    unfold endSl
    rw [Lib.toList_data,ext_drop,bt_list]
    have hl:s.data.toList.length=n+1:=by rw [←Lib.size_eq];exact hn
    obtain ⟨a,x,e⟩:∃ a x,s.data.toList=a++[x]:=⟨_,_,(List.dropLast_concat_getLast (fun e=>by rw [e] at hl;simp at hl)).symm⟩
    have ha:a.length=n:=by rw [e] at hl;simpa using hl
    rw [e,←ha,List.drop_left,List.getLast?_concat]
    rw [Bool.eq_iff_iff];simp)
   have i1:(1:Int)≤(s.size:Int):=by omega
   have i2:IntKind.i64.wrap ((s.size:Int)-1)=(n:Int):=by
    rw [hn,show (((n+1:Nat):Int)-1)=((n:Nat):Int) by omega];exact wrap_i64 n (by omega)
   have i3:(0:Int)≤(n:Int)∧(n:Int)≤(s.size:Int):=by omega
   clear h0 hn
   go_enter Tryz.func283,Tryz.ntmps283
   go_wp2_with fail
   go_ret
   exact ⟨by rw [uh HR];rfl,rfl⟩
 obtain ⟨b,hb⟩:∃ b,b=endSl s.data.toList:=⟨_,rfl⟩
 rw [←hb] at hS ⊢
 clear hb
 go_enter Tryz.func258,Tryz.ntmps258
 go_wp2_with (go_at_call 283;refine hS.mono ?_;clear hS;rintro e w1 ⟨rfl,hw⟩;obtain rfl:=hw.symm)
 go_ret
 exact ⟨rfl,rfl⟩
def noC:Ent:=⟨⟨#[]⟩,0,0,⟨#[]⟩⟩
theorem read_short (s:ByteArray) (w:World) (hs:s.size<512):Calls Tryz.prog 293 #[.string s] w fun e w'=>e=.returned (.agg #[.string ⟨#[]⟩,.int .i64 0,.int .i64 0,.string ⟨#[]⟩])∧Below w.heap.size w w':=by
 have i1:(s.size:Int)<512:=by omega
 go_enter Tryz.func293,Tryz.ntmps293
 go_wp2_with fail
 refine bodyPost_ret (v:=.agg #[.string ⟨#[]⟩,.int .i64 0,.int .i64 0,.string ⟨#[]⟩]) (by simp [results,Tryz.results293,go_sem]) rfl ⟨rfl,?_⟩
 exact (Below.refl _ _).alloc (Nat.le_refl _) _
theorem mayF_none:mayF [] noC=false:=by decide
set_option maxHeartbeats 2000000 in
set_option maxRecDepth 10000 in
theorem next_short (s:ByteArray) (m:Int) (w:World) (hs:s.size<512) (hm:w.cell? ⟨14,0,none⟩=some (.int .i64 m)) :
  Calls Tryz.prog 284 #[.slice none 0 0,.string s] w fun e w'=>e=.returned (.tuple #[.agg #[.string ⟨#[]⟩,.int .i64 0,.int .i64 0,.string ⟨#[]⟩],.string ⟨#[]⟩,.bool false])∧Below w.heap.size w w':=by
 obtain ⟨W0,hW0⟩:∃ W0,W0=w.alloc (.cells #[.string ⟨#[]⟩,.int .i64 0,.int .i64 0,.string ⟨#[]⟩] 41):=⟨_,rfl⟩
 have hb0:Below w.heap.size w W0:=by rw [hW0];exact (Below.refl _ _).alloc (Nat.le_refl _) _
 have hRd:=read_short s W0 hs
 have HM0:=hide (cell_later hb0 hm)
 have HC0:Hid (W0.heap[w.heap.size]?=some (.cells #[.string ⟨#[]⟩,.int .i64 0,.int .i64 0,.string ⟨#[]⟩] 41 (0,0))):=hide (by rw [hW0];exact heap_alloc_new _ _)
 clear hm
 go_enter Tryz.func284,Tryz.ntmps284
 go_upto_region 1 with fail
 rw [←hW0]
 clear hW0
 go_upto_region 2 with (go_at_call 293;refine hRd.mono ?_;clear hRd;rintro e w1 ⟨rfl,hb1⟩)
 obtain ⟨W2,hW2⟩:∃ W2,W2=w1.alloc (.cells #[.string ⟨#[]⟩,.int .i64 0,.int .i64 0,.string ⟨#[]⟩] 41):=⟨_,rfl⟩
 have hb2:Below w1.heap.size w1 W2:=by rw [hW2];exact (Below.refl _ _).alloc (Nat.le_refl _) _
 have hc2:W2.heap[w1.heap.size]?=some (.cells #[.string ⟨#[]⟩,.int .i64 0,.int .i64 0,.string ⟨#[]⟩] 41 (0,0)):=by rw [hW2];exact heap_alloc_new _ _
 have hb02:Below W0.heap.size W0 W2:=hb1.trans (hb2.mono hb1.size)
 have hMF:=mayFollow_any none 0 0 [] noC m W2 (fun k e hk=>by simp at hk) (hide rfl) (by omega) (hide (fun e he=>by cases he)) (by decide) (cell_later hb02 (uh HM0))
 rw [mayF_none] at hMF
 rw [←hW2]
 have HC2:Hid (W2.heap[w.heap.size]?=some (.cells #[.string ⟨#[]⟩,.int .i64 0,.int .i64 0,.string ⟨#[]⟩] 41 (0,0))):=hide ((hb02.block w.heap.size (Array.getElem?_eq_some_iff.1 (uh HC0)).1).trans (uh HC0))
 have y0:W2.cell? ⟨w1.heap.size,0,none⟩=some (.string ⟨#[]⟩):=cq 0 hc2
 have y1:W2.cell? ⟨w1.heap.size,1,none⟩=some (.int .i64 0):=cq 1 hc2
 have y2:W2.cell? ⟨w1.heap.size,2,none⟩=some (.int .i64 0):=cq 2 hc2
 have y3:W2.cell? ⟨w1.heap.size,3,none⟩=some (.string ⟨#[]⟩):=cq 3 hc2
 clear hW2 hc2 HC0 HM0
 go_upto_region 3 with (go_at_call 94;refine hMF.mono ?_;clear hMF;rintro e w3 ⟨rfl,hb3⟩)
 have hc3:w3.heap[w.heap.size]?=some (.cells #[.string ⟨#[]⟩,.int .i64 0,.int .i64 0,.string ⟨#[]⟩] 41 (0,0)):=(hb3.block w.heap.size (Array.getElem?_eq_some_iff.1 (uh HC2)).1).trans (uh HC2)
 have hbw3:Below w.heap.size w w3:=hb0.trans ((hb02.trans (hb3.mono hb02.size)).mono hb0.size)
 have q0:w3.cell? ⟨w.heap.size,0,none⟩=some (.string ⟨#[]⟩):=cq 0 hc3
 have f0:=frozen_of_row w3 w.heap.size 0 _ _ hc3
 have f1:=frozen_of_row w3 w.heap.size 1 _ _ hc3
 have f2:=frozen_of_row w3 w.heap.size 2 _ _ hc3
 have f3:=frozen_of_row w3 w.heap.size 3 _ _ hc3
 have m1:=heap_setCell_same w3 w.heap.size 0 _ _ (.string ⟨#[]⟩) hc3
 have m2:=heap_setCell_same _ w.heap.size 1 _ _ (.int .i64 0) m1
 have m3:=heap_setCell_same _ w.heap.size 2 _ _ (.int .i64 0) m2
 have m4:=heap_setCell_same _ w.heap.size 3 _ _ (.string ⟨#[]⟩) m3
 have t1:=cell_of_row _ w.heap.size 1 _ _ _ m1
 have t2:=cell_of_row _ w.heap.size 2 _ _ _ m2
 have t3:=cell_of_row _ w.heap.size 3 _ _ _ m3
 have z0:=cell_of_row _ w.heap.size 0 _ _ _ m4
 have z1:=cell_of_row _ w.heap.size 1 _ _ _ m4
 have z2:=cell_of_row _ w.heap.size 2 _ _ _ m4
 have z3:=cell_of_row _ w.heap.size 3 _ _ _ m4
 clear m1 m2 m3 m4 hc3 hb02 hb0 hb1 hb2 hb3 HC2
 go_wp2_with fail
 refine bodyPost_ret (v:=.tuple #[.agg #[.string ⟨#[]⟩,.int .i64 0,.int .i64 0,.string ⟨#[]⟩],.string ⟨#[]⟩,.bool false]) (by simp [results,Tryz.results284,go_sem,z0,z1,z2,z3]) rfl ⟨rfl,?_⟩
 exact (((hbw3.setCell (p:=⟨w.heap.size,0,none⟩) (Nat.le_refl _) _).setCell (p:=⟨w.heap.size,1,none⟩) (Nat.le_refl _) _).setCell (p:=⟨w.heap.size,2,none⟩) (Nat.le_refl _) _).setCell (p:=⟨w.heap.size,3,none⟩) (Nat.le_refl _) _
set_option maxHeartbeats 2000000 in
set_option maxRecDepth 10000 in
theorem unpack_short (s:ByteArray) (m:Int) (w:World) (hs:s.size<512) (hm:w.cell? ⟨14,0,none⟩=some (.int .i64 m)) :
  Calls Tryz.prog 261 #[.string s] w fun e w'=>∃ q:Nat,e=.returned (.tuple #[.slice none 0 0,.iface 80 (.pointer (some ⟨q,0,none⟩))])∧w'.heap[q]?=some (.cells #[.int .i64 4,.int .i64 0] 84 (0,0))∧Below w.heap.size w w':=by
 have hE:=ending_any w
 obtain ⟨T,hT⟩:∃ T,T=bt (List.replicate 1024 0):=⟨_,rfl⟩
 rw [←hT] at hE
 have gne:(s.toList != T.toList)=true:=by
  rw [hT,Lib.toList_data,Lib.toList_data,bt_list,bne_iff_ne]
  intro e
  have:=congrArg List.length e
  rw [←Lib.size_eq,List.length_replicate] at this
  omega
 have geq:(s.toList==T.toList)=false:=by simpa using gne
 have HM:=hide hm
 clear hT hm
 go_enter Tryz.func261,Tryz.ntmps261
 go_wp2_with fail
 go_loopw [4,5] (fun lv rv wr=>lv=.slice none 0 0∧rv=.string s∧wr=w) (fun _ _ _=>0)
 case atStart=>exact ⟨rfl,rfl,rfl⟩
 case round=>
  obtain ⟨rfl,rfl,rfl⟩:=hrel
  have hN:∀ w1,Below wr.heap.size wr w1→_:=fun w1 hb1=>next_short s m w1 hs (cell_later hb1 (uh HM))
  go_wp2_with (first
   | (go_at_call 61;refine hE.mono ?_;clear hE;rintro e1 w1 ⟨rfl,hb1⟩)
   | (go_at_call 284;refine (hN _ hb1).mono ?_;clear hN;rintro e2 w2 ⟨rfl,hb2⟩))
  go_ret2
  have hB:Below wr.heap.size wr w2:=hb1.trans (hb2.mono hb1.size)
  exact ⟨w2.heap.size+1,by simp,by first | exact heap_alloc2_new _ _ _ | simpa using heap_alloc2_new _ _ _,(hB.alloc hB.size _).alloc (by simp;have:=hB.size;omega) _⟩
def relP (p q:List UInt8):List UInt8:=if p=[] then q else q.drop (p.length+1)
def movE (e:Ent) (q:List UInt8):Ent:={ e with path:=bs q }
def cpB (d p:List UInt8):List Ent→List Ent→Except Nat (List Ent)
 | t,[]=>.ok t
 | t,e :: r=>match layG t (movE e (jnp d (relP p e.path.data.toList))) with
   | .error k=>.error k
   | .ok t'=>cpB d p t' r
def cpBelowG (t src:List Ent) (p d:List UInt8):Except Nat (List Ent):=match mkDirG t d with
 | .error k=>.error k
 | .ok t'=>cpB d p t' (src.filter fun e=>underB p e.path.data.toList)
def withW (work:List UInt8) (x:Except Nat (List Ent)):Except Nat (List Ent × List UInt8):=match x with
 | .error k=>.error k
 | .ok t=>.ok (t,work)
def copyG (t src:List Ent) (work a b:List UInt8):Except Nat (List Ent × List UInt8):=match endsG src work a b with
 | .error k=>.error k
 | .ok (p,d)=>match (if p=[] then some rootE else atE src p) with
   | none=>.error 8
   | some f=>if f.kind=1 then withW work (cpBelowG t src p d)
     else withW work (layMadeG t (movE f (if endSl b=true∨kindP t d=1 then jnp d (nameOf p) else d)))
def addG (src:List Ent) (work a b:List UInt8):Option Nat:=match endsG src work a b with
 | .error k=>some k
 | .ok (p,_)=>match (if p=[] then some rootE else atE src p) with
   | none=>some 8
   | some f=>if f.kind≠2 then some 9 else if f.data.size<512 then some 4 else none
theorem ent_good {es:List Ent}(h:TreeS es) {e:Ent}(he:e∈es):goodE e=true∧e.path.data.toList≠[]∧isP e.path.data.toList=true:=by
 have:=h.ent e he
 unfold entOk at this
 simp only [Bool.and_eq_true,bne_iff_ne,ne_eq] at this
 exact ⟨this.2,this.1.1,this.1.2⟩
def CbOk (w:World) (B sb Bs:Nat) (r rs:Nd) (ns nss:List Nd) (work:ByteArray) (ev:Value):Prop:=∀ (y:Nd) (d:ByteArray) (W:World),y∈rs :: nss→y.ent.kind=1→d.size≤170→StA W B sb r ns work ev→Mem W Bs rs nss→Below w.heap.size w W→(∃ t,cpBelowG (entsN ns) (entsN nss) y.p d.data.toList=.ok t) →
 Calls Tryz.prog 257 #[.pointer (some ⟨sb,0,none⟩),.pointer (some ⟨y.nb,0,none⟩),.string d] W fun e w'=>TrOut W w' B sb r ns work ev 100 e (cpBelowG (entsN ns) (entsN nss) y.p d.data.toList)∧Below B W w'∧KeepX W w'
set_option maxHeartbeats 8000000 in
set_option maxRecDepth 10000 in
theorem copyS_any (sb:Nat) (r:Nd) (ns:List Nd) (work a b:ByteArray) (ev:Value) (ao:Option Addr) (n cap:Nat) (ps:List ByteArray) (stv:Option Addr) (rs:Nd) (nss:List Nd) (B Bs:Nat) (m:Int) (w:World) (h:StA w B sb r ns work ev) (hn:ns.length≤400) (hws:work.size≤1048576) (hW:Wrds w ao n cap ps) (ha:ps[0]?=some a) (hb:ps[1]?=some b)
  (hS:Mem w Bs rs nss) (HT:Hid (TreeS (entsN nss))) (hm:w.cell? ⟨14,0,none⟩=some (.int .i64 m)) (HCB:Hid (CbOk w B sb Bs r rs ns nss work ev)) (HGO:Hid (∃ q,copyG (entsN ns) (entsN nss) work.data.toList a.data.toList b.data.toList=.ok q)) :
  Calls Tryz.prog 216 #[.pointer (some ⟨sb,0,none⟩),.agg #[.slice ao n cap,.pointer stv,.pointer (some ⟨rs.nb,0,none⟩)]] w fun e w'=>DoOut w' B sb ev e (copyG (entsN ns) (entsN nss) work.data.toList a.data.toList b.data.toList)∧Below B w w'∧KeepX w w':=by
 obtain ⟨g,rfl,cb,hn1,hbl⟩:=hW.at hb
 obtain ⟨W0,hW0⟩:∃ W0,W0=w.alloc (.cells #[.slice (some ⟨g,0,none⟩) n cap,.pointer stv,.pointer (some ⟨rs.nb,0,none⟩)] 69):=⟨_,rfl⟩
 have hb0:Below w.heap.size w W0:=by rw [hW0];exact (Below.refl _ _).alloc (Nat.le_refl _) _
 have hc0:W0.heap[w.heap.size]?=some (.cells #[.slice (some ⟨g,0,none⟩) n cap,.pointer stv,.pointer (some ⟨rs.nb,0,none⟩)] 69 (0,0)):=by rw [hW0];exact heap_alloc_new _ _
 have t0:W0.cell? ⟨w.heap.size,0,none⟩=some (.slice (some ⟨g,0,none⟩) n cap):=cq 0 hc0
 have t1:W0.cell? ⟨w.heap.size,1,none⟩=some (.pointer stv):=cq 1 hc0
 have t2:W0.cell? ⟨w.heap.size,2,none⟩=some (.pointer (some ⟨rs.nb,0,none⟩)):=cq 2 hc0
 have hEn:=ends_any sb work a b (some ⟨g,0,none⟩) n cap ps stv rs nss Bs m W0 (h.below hb0).c1 hws (hW.below hb0) ha hb (hS.below hb0) HT (cell_later hb0 hm)
 have hBw:=h.base
 have HK:Hid (∀ W,Below W0.heap.size W0 W→StA W B sb r ns work ev∧W.cell? ⟨w.heap.size,0,none⟩=some (.slice (some ⟨g,0,none⟩) n cap)∧W.cell? ⟨g,1,none⟩=some (.string b)∧W.cell? ⟨14,0,none⟩=some (.int .i64 m)∧Mem W Bs rs nss∧Below w.heap.size w W):=hide (fun W hB=>⟨(h.below hb0).below hB,cell_later hB (cq 0 hc0),cell_later hB (cell_later hb0 cb),cell_later hB (cell_later hb0 hm),(hS.below hb0).below hB,hb0.trans (hB.mono hb0.size)⟩)
 have hes:=er_some
 have hen:=er_nil
 have i1:(1:Int)<(n:Int):=by omega
 clear hc0 cb h hS hm hW ha hb hn1
 cases hg:endsG (entsN nss) work.data.toList a.data.toList b.data.toList with
 | error k=>
   rw [hg] at hEn
   unfold EndsOut at hEn
   have HCG:Hid (copyG (entsN ns) (entsN nss) work.data.toList a.data.toList b.data.toList=.error k):=hide (by unfold copyG;rw [hg])
   clear hg
   go_enter Tryz.func216,Tryz.ntmps216
   go_upto_region 1 with fail
   rw [←hW0]
   clear hW0
   go_wp2_with (go_at_call 256;refine hEn.mono ?_;clear hEn;rintro e1 w1 ⟨rfl,hb1⟩)
   go_ret
   rw [uh HCG]
   have hbw:=(uh HK w1 hb1).2.2.2.2.2
   exact ⟨rfl,hbw.mono hBw,keepX_below hbw⟩
 | ok pd=>
   obtain ⟨p,d⟩:=pd
   rw [hg] at hEn
   unfold EndsOut at hEn
   dsimp only at hEn
   obtain ⟨db,hdb⟩:∃ db,db=bs d:=⟨_,rfl⟩
   have HDB:Hid (db.data.toList=d):=hide (by rw [hdb,bs_list])
   have hdl:db.size≤170:=by
    rw [Lib.size_eq,uh HDB]
    unfold endsG at hg
    split at hg
    ·cases hg
    ·split at hg
     ·cases hg
     ·rename_i d' hd'
      split at hg
      ·injection hg with hg;injection hg with _ hg;subst hg;exact res_le hd'
      ·split at hg
       ·cases hg
       ·injection hg with hg;injection hg with _ hg;subst hg;exact res_le hd'
   rw [←hdb] at hEn
   have HG0:=hide hg
   clear hg hdb
   go_enter Tryz.func216,Tryz.ntmps216
   go_upto_region 1 with fail
   rw [←hW0]
   clear hW0
   go_upto_region 4 with (go_at_call 256;refine hEn.mono ?_;clear hEn;rintro e1 w1 ⟨⟨y,hy,hyp,rfl⟩,hb1⟩)
   obtain ⟨hst1,u0,ub,um,uM,hbw1⟩:=uh HK w1 hb1
   obtain ⟨_,_,hy3,_⟩:=uM.all y hy
   have z1:w1.cell? ⟨y.nb,1,none⟩=some (.int .i64 y.ent.kind):=cell_of_row w1 y.nb 1 _ _ _ hy3
   have HFE:Hid ((if p=[] then some rootE else atE (entsN nss) p)=some y.ent):=hide (by
    split
    ·rename_i hp0
     rcases List.mem_cons.1 hy with rfl | hy
     ·rw [uM.root]
     ·exact absurd (hyp.trans hp0) (ent_good (uh HT) (List.mem_map.2 ⟨y,hy,rfl⟩)).2.1
    ·rename_i hp0
     rcases List.mem_cons.1 hy with rfl | hy
     ·exact absurd (hyp.symm.trans (by rw [Nd.p,uM.root];rfl)) hp0
     ·rw [←hyp];exact (uh HT).at (List.mem_map.2 ⟨y,hy,rfl⟩))
   have hD:=isDir_at _ _ _ z1
   clear t0 t1 t2
   by_cases hk1:y.ent.kind=1
   ·have HCG:Hid (copyG (entsN ns) (entsN nss) work.data.toList a.data.toList b.data.toList=withW work.data.toList (cpBelowG (entsN ns) (entsN nss) p d)):=hide (by unfold copyG;rw [uh HG0];simp only;rw [uh HFE];simp only;rw [if_pos hk1])
    have hC:=uh HCB y db w1 hy hk1 hdl hst1 uM hbw1 (by
     obtain ⟨q,hq⟩:=uh HGO
     rw [uh HCG] at hq
     rw [hyp,uh HDB]
     cases hc:cpBelowG (entsN ns) (entsN nss) p d with
     | error k=>rw [hc] at hq;cases hq
     | ok t=>exact ⟨t,rfl⟩)
    rw [decide_eq_true hk1] at hD
    rw [hyp,uh HDB] at hC
    clear hst1 u0 ub um uM hy3 z1 hy hyp hk1
    cases hq:cpBelowG (entsN ns) (entsN nss) p d with
    | error k=>
      rw [hq] at hC HCG
      unfold TrOut at hC
      dsimp only at hC
      clear hq
      go_wp2_with (first
       | (go_at_call 87;refine hD.mono ?_;clear hD;rintro e2 w2 ⟨rfl,hw⟩;obtain rfl:=hw.symm)
       | (go_at_call 257;refine hC.mono ?_;clear hC;rintro e3 w3 ⟨rfl,hb3,hx3⟩))
      go_ret
      rw [uh HCG]
      exact ⟨rfl,(hbw1.mono hBw).trans hb3,(keepX_below hbw1).trans hx3⟩
    | ok t=>
      rw [hq] at hC HCG
      unfold TrOut at hC
      dsimp only at hC
      clear hq
      go_wp2_with (first
       | (go_at_call 87;refine hD.mono ?_;clear hD;rintro e2 w2 ⟨rfl,hw⟩;obtain rfl:=hw.symm)
       | (go_at_call 257;refine hC.mono ?_;clear hC;rintro e3 w3 ⟨⟨rfl,ns',h2,h3,h4,h5⟩,hb3,hx3⟩))
      go_ret
      rw [uh HCG]
      exact ⟨⟨rfl,r,ns',work,h2,h3,rfl,hws,by omega⟩,(hbw1.mono hBw).trans hb3,(keepX_below hbw1).trans hx3⟩
   ·have hyn:y∈nss:=by
     rcases List.mem_cons.1 hy with rfl | hy
     ·exact absurd (by rw [uM.root];rfl) hk1
     ·exact hy
    obtain ⟨gg,gp,gi⟩:=ent_good (uh HT) (List.mem_map.2 ⟨y,hyn,rfl⟩)
    have HGY:=hide gg
    have HYP:=hide hyp
    have hyz:y.ent.path.size≤170:=by rw [Lib.size_eq];exact (isP_parts gi).1
    have HNN:Hid (nameOf p≠[]):=hide (by
     rw [←hyp]
     have h1:Parted y.p:=nd_parted (uh HT) hyn
     have h2:nameOf y.p∈prt y.p:=by rw [show prt y.p=prt (dirOf y.p)++[nameOf y.p] from h1];simp
     exact (elt_no ((isP_parts gi).2.2 _ h2)).2)
    rw [decide_eq_false hk1] at hD
    have HCG0:Hid (copyG (entsN ns) (entsN nss) work.data.toList a.data.toList b.data.toList=withW work.data.toList (layMadeG (entsN ns) (movE y.ent (if endSl b.data.toList=true∨kindP (entsN ns) d=1 then jnp d (nameOf p) else d)))):=hide (by unfold copyG;rw [uh HG0];simp only;rw [uh HFE];simp only;rw [if_neg hk1])
    clear gg gp gi hyp hk1 hyn
    have hSf:=suf_any b w1 (by omega)
    cases hsl:endSl b.data.toList with
    | true=>
      rw [hsl] at hSf
      have HSL:=hide hsl
      have HSW0:=hide hst1
      have HMW0:=hide um
      have HBW0:=hide hbw1
      have HY3:=hide hy3
      clear hsl hst1 um uM hy3 z1 hy
      go_upto_region 7 with (first
       | (go_at_call 87;refine hD.mono ?_;clear hD;rintro e2 w2 ⟨rfl,hw⟩;obtain rfl:=hw.symm)
       | (go_at_call 258;refine hSf.mono ?_;clear hSf;rintro e3 w3 ⟨rfl,hw3⟩;obtain rfl:=hw3.symm))
      have HCG:Hid (copyG (entsN ns) (entsN nss) work.data.toList a.data.toList b.data.toList=withW work.data.toList (layMadeG (entsN ns) (movE y.ent (jnp d (nameOf p))))):=hide (by rw [uh HCG0,if_pos (.inl (uh HSL))])
      have y0:w1.cell? ⟨y.nb,0,none⟩=some (.string y.ent.path):=cell_of_row w1 y.nb 0 _ _ _ (uh HY3)
      have y1:w1.cell? ⟨y.nb,1,none⟩=some (.int .i64 y.ent.kind):=cell_of_row w1 y.nb 1 _ _ _ (uh HY3)
      have y2:w1.cell? ⟨y.nb,2,none⟩=some (.int .i64 y.ent.mode):=cell_of_row w1 y.nb 2 _ _ _ (uh HY3)
      have y3:w1.cell? ⟨y.nb,3,none⟩=some (.string y.ent.data):=cell_of_row w1 y.nb 3 _ _ _ (uh HY3)
      go_upto_region 8 with (go_at_call 86;refine (last_any y.ent.path _ (by omega)).mono ?_;rintro e7 w7 ⟨dd,nn,rfl,_,HNm,hb7⟩)
      have hnn:nn.size≤170:=by rw [Lib.size_eq,uh HNm];exact Nat.le_trans (name_le _) (by rw [←Lib.size_eq];exact hyz)
      have HSX:=hide ((uh HSW0).below hb7)
      have HMX:=hide (cell_later hb7 (uh HMW0))
      have HYX:=hide ((hb7.block y.nb (Array.getElem?_eq_some_iff.1 (uh HY3)).1).trans (uh HY3))
      have HBX:=hide ((uh HBW0).trans (hb7.mono (uh HBW0).size))
      clear y0 y1 y2 y3 HY3 hb7
      go_upto_region 9 with (go_at_call 175;refine (join_path db nn _ (by omega) (by omega)).mono ?_;rintro e8 w8 ⟨s2,rfl,hs2,hw8⟩;obtain rfl:=hw8.symm)
      have HDQ:Hid (s2.data.toList=jnp d (nameOf p)):=hide (by rw [hs2,uh HDB,uh HNm,←uh HYP];rfl)
      have HDN:Hid (jnp d (nameOf p)≠[]):=hide (by
       unfold jnp;split
       ·exact uh HNN
       ·simp)
      have h2l:s2.size≤1048576:=by
       rw [Lib.size_eq,hs2,jnp]
       rw [Lib.size_eq] at hdl hnn
       split
       ·omega
       ·rw [List.length_append,List.length_cons];omega
      have HSW:=HSX
      have HMW:=HMX
      have HBW:=HBX
      have HY3:=HYX
      clear hs2
      have y0:w7.cell? ⟨y.nb,0,none⟩=some (.string y.ent.path):=cell_of_row w7 y.nb 0 _ _ _ (uh HY3)
      have y1:w7.cell? ⟨y.nb,1,none⟩=some (.int .i64 y.ent.kind):=cell_of_row w7 y.nb 1 _ _ _ (uh HY3)
      have y2:w7.cell? ⟨y.nb,2,none⟩=some (.int .i64 y.ent.mode):=cell_of_row w7 y.nb 2 _ _ _ (uh HY3)
      have y3:w7.cell? ⟨y.nb,3,none⟩=some (.string y.ent.data):=cell_of_row w7 y.nb 3 _ _ _ (uh HY3)
      have e0:(⟨s2,y.ent.kind,y.ent.mode,y.ent.data⟩:Ent)=movE y.ent (jnp d (nameOf p)):=by
       unfold movE;rw [←uh HDQ];rfl
      have hL:=fun W (hs:StA W B sb r ns work ev) (hmW:W.cell? ⟨14,0,none⟩=some (.int .i64 m))=>layInMade_any sb r ns work ev ⟨s2,y.ent.kind,y.ent.mode,y.ent.data⟩ B m W hs (by omega) (by simp only;omega) (hide (by have:=uh HGY;unfold goodE at this ⊢;exact this)) (hide (by simp only;rw [uh HDQ];exact uh HDN)) hmW
      rw [←e0] at HCG
      cases hq:layMadeG (entsN ns) ⟨s2,y.ent.kind,y.ent.mode,y.ent.data⟩ with
      | error k=>
        rw [hq] at hL HCG
        unfold TrOut at hL
        dsimp only at hL
        clear hq e0
        go_wp2_with (first
         | (go_at_call 260;refine (moved_any y.ent s2 _).mono ?_;rintro e5 w5 ⟨rfl,hb5⟩)
         | (go_at_call 259;refine (hL _ ((uh HSW).below hb5) (cell_later hb5 (uh HMW))).mono ?_;clear hL;rintro e6 w6 ⟨rfl,hb6,hx6⟩))
        go_ret
        have hBw5:=(uh HBW).trans (hb5.mono (uh HBW).size)
        rw [uh HCG]
        exact ⟨rfl,(hBw5.mono hBw).trans hb6,(keepX_below hBw5).trans hx6⟩
      | ok t=>
        rw [hq] at hL HCG
        unfold TrOut at hL
        dsimp only at hL
        clear hq e0
        go_wp2_with (first
         | (go_at_call 260;refine (moved_any y.ent s2 _).mono ?_;rintro e5 w5 ⟨rfl,hb5⟩)
         | (go_at_call 259;refine (hL _ ((uh HSW).below hb5) (cell_later hb5 (uh HMW))).mono ?_;clear hL;rintro e6 w6 ⟨⟨rfl,ns',h2,h3,h4,h5⟩,hb6,hx6⟩))
        go_ret
        have hBw5:=(uh HBW).trans (hb5.mono (uh HBW).size)
        rw [uh HCG]
        exact ⟨⟨rfl,r,ns',work,h2,h3,rfl,hws,by omega⟩,(hBw5.mono hBw).trans hb6,(keepX_below hBw5).trans hx6⟩
    | false=>
      rw [hsl] at hSf
      have HSL:=hide hsl
      have hF:=find_any r ns B db m w1 hst1.mem (hide hst1.ok) (by omega) um
      have s0:=hst1.c0
      have HST1:=hide hst1
      have HM1:=hide um
      have HY1:=hide hy3
      clear hsl hst1 um uM hy3 z1 hy
      have HBW1:=hide hbw1
      by_cases hx:∃ x∈r :: ns,x.p=d
      ·obtain ⟨x,hxm,hxp⟩:=hx
       have hF2:Calls Tryz.prog 47 #[.pointer (some ⟨r.nb,0,none⟩),.string db] w1 fun e w'=>e=.returned (.pointer (some ⟨x.nb,0,none⟩))∧Below w1.heap.size w1 w':=hF.mono (by
        rintro e w' ⟨v,rfl,HF,hb⟩
        have hv:=uh HF
        rw [uh HDB] at hv
        rcases hv with ⟨_,hno⟩ | ⟨z,hz,rfl,hzp⟩
        ·exact absurd hxp (hno x hxm)
        ·rw [nd_one (uh HST1).tree (uh HST1).mem.root hz hxm (hzp.trans hxp.symm)]
         exact ⟨rfl,hb⟩)
       have HKD:Hid (kindP (entsN ns) d=x.ent.kind):=hide (by
        rcases find_kindS (uh HST1).tree (uh HST1).mem.root (show FindIs r ns d (.pointer (some ⟨x.nb,0,none⟩)) from .inr ⟨x,hxm,rfl,hxp⟩) with ⟨e,_⟩ | ⟨z,hz,_,hzp,hk⟩
        ·cases e
        ·rw [hk,nd_one (uh HST1).tree (uh HST1).mem.root hz hxm (hzp.trans hxp.symm)])
       obtain ⟨_,_,hx3,_⟩:=(uh HST1).mem.all x hxm
       have HX3:=hide hx3
       have hDx:∀ W,Below w1.heap.size w1 W→Calls Tryz.prog 87 #[.pointer (some ⟨x.nb,0,none⟩)] W fun e w'=>e=.returned (.bool (decide (x.ent.kind=1)))∧w'=W:=fun W hb=>isDir_at _ _ _ (cell_later hb (cell_of_row w1 x.nb 1 _ _ _ hx3))
       clear hF hxm hx3
       by_cases hkx:x.ent.kind=1
       ·rw [decide_eq_true hkx] at hDx
        have HK1:Hid (kindP (entsN ns) d=1):=hide ((uh HKD).trans hkx)
        clear hkx hxp
        go_upto_region 7 with (first
         | (go_at_call 87;refine hD.mono ?_;clear hD;rintro e2 w2 ⟨rfl,hw⟩;obtain rfl:=hw.symm)
         | (go_at_call 258;refine hSf.mono ?_;clear hSf;rintro e3 w3 ⟨rfl,hw3⟩;obtain rfl:=hw3.symm)
         | (go_at_call 47;refine hF2.mono ?_;clear hF2;rintro e4 w4 ⟨rfl,hb4⟩)
         | (go_at_call 87;refine (hDx _ hb4).mono ?_;clear hDx;rintro e5 w5 ⟨rfl,hw5⟩;obtain rfl:=hw5.symm))
        have HSW0:=hide ((uh HST1).below hb4)
        have HMW0:=hide (cell_later hb4 (uh HM1))
        have HBW0:=hide ((uh HBW1).trans (hb4.mono (uh HBW1).size))
        have HY3:=hide ((hb4.block y.nb (Array.getElem?_eq_some_iff.1 (uh HY1)).1).trans (uh HY1))
        clear s0 u0 ub
        have HCG:Hid (copyG (entsN ns) (entsN nss) work.data.toList a.data.toList b.data.toList=withW work.data.toList (layMadeG (entsN ns) (movE y.ent (jnp d (nameOf p))))):=hide (by rw [uh HCG0,if_pos (.inr (uh HK1))])
        have y0:w4.cell? ⟨y.nb,0,none⟩=some (.string y.ent.path):=cell_of_row w4 y.nb 0 _ _ _ (uh HY3)
        have y1:w4.cell? ⟨y.nb,1,none⟩=some (.int .i64 y.ent.kind):=cell_of_row w4 y.nb 1 _ _ _ (uh HY3)
        have y2:w4.cell? ⟨y.nb,2,none⟩=some (.int .i64 y.ent.mode):=cell_of_row w4 y.nb 2 _ _ _ (uh HY3)
        have y3:w4.cell? ⟨y.nb,3,none⟩=some (.string y.ent.data):=cell_of_row w4 y.nb 3 _ _ _ (uh HY3)
        go_upto_region 8 with (go_at_call 86;refine (last_any y.ent.path _ (by omega)).mono ?_;rintro e7 w7 ⟨dd,nn,rfl,_,HNm,hb7⟩)
        have hnn:nn.size≤170:=by rw [Lib.size_eq,uh HNm];exact Nat.le_trans (name_le _) (by rw [←Lib.size_eq];exact hyz)
        have HSX:=hide ((uh HSW0).below hb7)
        have HMX:=hide (cell_later hb7 (uh HMW0))
        have HYX:=hide ((hb7.block y.nb (Array.getElem?_eq_some_iff.1 (uh HY3)).1).trans (uh HY3))
        have HBX:=hide ((uh HBW0).trans (hb7.mono (uh HBW0).size))
        clear y0 y1 y2 y3 HY3 hb7
        go_upto_region 9 with (go_at_call 175;refine (join_path db nn _ (by omega) (by omega)).mono ?_;rintro e8 w8 ⟨s2,rfl,hs2,hw8⟩;obtain rfl:=hw8.symm)
        have HDQ:Hid (s2.data.toList=jnp d (nameOf p)):=hide (by rw [hs2,uh HDB,uh HNm,←uh HYP];rfl)
        have HDN:Hid (jnp d (nameOf p)≠[]):=hide (by
         unfold jnp;split
         ·exact uh HNN
         ·simp)
        have h2l:s2.size≤1048576:=by
         rw [Lib.size_eq,hs2,jnp]
         rw [Lib.size_eq] at hdl hnn
         split
         ·omega
         ·rw [List.length_append,List.length_cons];omega
        have HSW:=HSX
        have HMW:=HMX
        have HBW:=HBX
        have HY3:=HYX
        clear hs2
        have y0:w7.cell? ⟨y.nb,0,none⟩=some (.string y.ent.path):=cell_of_row w7 y.nb 0 _ _ _ (uh HY3)
        have y1:w7.cell? ⟨y.nb,1,none⟩=some (.int .i64 y.ent.kind):=cell_of_row w7 y.nb 1 _ _ _ (uh HY3)
        have y2:w7.cell? ⟨y.nb,2,none⟩=some (.int .i64 y.ent.mode):=cell_of_row w7 y.nb 2 _ _ _ (uh HY3)
        have y3:w7.cell? ⟨y.nb,3,none⟩=some (.string y.ent.data):=cell_of_row w7 y.nb 3 _ _ _ (uh HY3)
        have e0:(⟨s2,y.ent.kind,y.ent.mode,y.ent.data⟩:Ent)=movE y.ent (jnp d (nameOf p)):=by
         unfold movE;rw [←uh HDQ];rfl
        have hL:=fun W (hs:StA W B sb r ns work ev) (hmW:W.cell? ⟨14,0,none⟩=some (.int .i64 m))=>layInMade_any sb r ns work ev ⟨s2,y.ent.kind,y.ent.mode,y.ent.data⟩ B m W hs (by omega) (by simp only;omega) (hide (by have:=uh HGY;unfold goodE at this ⊢;exact this)) (hide (by simp only;rw [uh HDQ];exact uh HDN)) hmW
        rw [←e0] at HCG
        cases hq:layMadeG (entsN ns) ⟨s2,y.ent.kind,y.ent.mode,y.ent.data⟩ with
        | error k=>
          rw [hq] at hL HCG
          unfold TrOut at hL
          dsimp only at hL
          clear hq e0
          go_wp2_with (first
           | (go_at_call 260;refine (moved_any y.ent s2 _).mono ?_;rintro e5 w5 ⟨rfl,hb5⟩)
           | (go_at_call 259;refine (hL _ ((uh HSW).below hb5) (cell_later hb5 (uh HMW))).mono ?_;clear hL;rintro e6 w6 ⟨rfl,hb6,hx6⟩))
          go_ret
          have hBw5:=(uh HBW).trans (hb5.mono (uh HBW).size)
          rw [uh HCG]
          exact ⟨rfl,(hBw5.mono hBw).trans hb6,(keepX_below hBw5).trans hx6⟩
        | ok t=>
          rw [hq] at hL HCG
          unfold TrOut at hL
          dsimp only at hL
          clear hq e0
          go_wp2_with (first
           | (go_at_call 260;refine (moved_any y.ent s2 _).mono ?_;rintro e5 w5 ⟨rfl,hb5⟩)
           | (go_at_call 259;refine (hL _ ((uh HSW).below hb5) (cell_later hb5 (uh HMW))).mono ?_;clear hL;rintro e6 w6 ⟨⟨rfl,ns',h2,h3,h4,h5⟩,hb6,hx6⟩))
          go_ret
          have hBw5:=(uh HBW).trans (hb5.mono (uh HBW).size)
          rw [uh HCG]
          exact ⟨⟨rfl,r,ns',work,h2,h3,rfl,hws,by omega⟩,(hBw5.mono hBw).trans hb6,(keepX_below hBw5).trans hx6⟩
       ·rw [decide_eq_false hkx] at hDx
        have HK1:Hid (¬ kindP (entsN ns) d=1):=hide (by rw [uh HKD];exact hkx)
        have HDN:Hid (d≠[]):=hide (fun e=>uh HK1 (by rw [e];rfl))
        clear hkx hxp
        go_upto_region 9 with (first
         | (go_at_call 87;refine hD.mono ?_;clear hD;rintro e2 w2 ⟨rfl,hw⟩;obtain rfl:=hw.symm)
         | (go_at_call 258;refine hSf.mono ?_;clear hSf;rintro e3 w3 ⟨rfl,hw3⟩;obtain rfl:=hw3.symm)
         | (go_at_call 47;refine hF2.mono ?_;clear hF2;rintro e4 w4 ⟨rfl,hb4⟩)
         | (go_at_call 87;refine (hDx _ hb4).mono ?_;clear hDx;rintro e5 w5 ⟨rfl,hw5⟩;obtain rfl:=hw5.symm))
        have HSW:=hide ((uh HST1).below hb4)
        have HMW:=hide (cell_later hb4 (uh HM1))
        have HBW:=hide ((uh HBW1).trans (hb4.mono (uh HBW1).size))
        have HY3:=hide ((hb4.block y.nb (Array.getElem?_eq_some_iff.1 (uh HY1)).1).trans (uh HY1))
        have HCG:Hid (copyG (entsN ns) (entsN nss) work.data.toList a.data.toList b.data.toList=withW work.data.toList (layMadeG (entsN ns) (movE y.ent d))):=hide (by rw [uh HCG0,if_neg (by rw [uh HSL];simpa using uh HK1)])
        have HDQ:=HDB
        clear s0 u0 ub
        have y0:w4.cell? ⟨y.nb,0,none⟩=some (.string y.ent.path):=cell_of_row w4 y.nb 0 _ _ _ (uh HY3)
        have y1:w4.cell? ⟨y.nb,1,none⟩=some (.int .i64 y.ent.kind):=cell_of_row w4 y.nb 1 _ _ _ (uh HY3)
        have y2:w4.cell? ⟨y.nb,2,none⟩=some (.int .i64 y.ent.mode):=cell_of_row w4 y.nb 2 _ _ _ (uh HY3)
        have y3:w4.cell? ⟨y.nb,3,none⟩=some (.string y.ent.data):=cell_of_row w4 y.nb 3 _ _ _ (uh HY3)
        have e0:(⟨db,y.ent.kind,y.ent.mode,y.ent.data⟩:Ent)=movE y.ent (d):=by
         unfold movE;rw [←uh HDQ];rfl
        have hL:=fun W (hs:StA W B sb r ns work ev) (hmW:W.cell? ⟨14,0,none⟩=some (.int .i64 m))=>layInMade_any sb r ns work ev ⟨db,y.ent.kind,y.ent.mode,y.ent.data⟩ B m W hs (by omega) (by simp only;omega) (hide (by have:=uh HGY;unfold goodE at this ⊢;exact this)) (hide (by simp only;rw [uh HDQ];exact uh HDN)) hmW
        rw [←e0] at HCG
        cases hq:layMadeG (entsN ns) ⟨db,y.ent.kind,y.ent.mode,y.ent.data⟩ with
        | error k=>
          rw [hq] at hL HCG
          unfold TrOut at hL
          dsimp only at hL
          clear hq e0
          go_wp2_with (first
           | (go_at_call 260;refine (moved_any y.ent db _).mono ?_;rintro e5 w5 ⟨rfl,hb5⟩)
           | (go_at_call 259;refine (hL _ ((uh HSW).below hb5) (cell_later hb5 (uh HMW))).mono ?_;clear hL;rintro e6 w6 ⟨rfl,hb6,hx6⟩))
          go_ret
          have hBw5:=(uh HBW).trans (hb5.mono (uh HBW).size)
          rw [uh HCG]
          exact ⟨rfl,(hBw5.mono hBw).trans hb6,(keepX_below hBw5).trans hx6⟩
        | ok t=>
          rw [hq] at hL HCG
          unfold TrOut at hL
          dsimp only at hL
          clear hq e0
          go_wp2_with (first
           | (go_at_call 260;refine (moved_any y.ent db _).mono ?_;rintro e5 w5 ⟨rfl,hb5⟩)
           | (go_at_call 259;refine (hL _ ((uh HSW).below hb5) (cell_later hb5 (uh HMW))).mono ?_;clear hL;rintro e6 w6 ⟨⟨rfl,ns',h2,h3,h4,h5⟩,hb6,hx6⟩))
          go_ret
          have hBw5:=(uh HBW).trans (hb5.mono (uh HBW).size)
          rw [uh HCG]
          exact ⟨⟨rfl,r,ns',work,h2,h3,rfl,hws,by omega⟩,(hBw5.mono hBw).trans hb6,(keepX_below hBw5).trans hx6⟩
      ·have hF2:Calls Tryz.prog 47 #[.pointer (some ⟨r.nb,0,none⟩),.string db] w1 fun e w'=>e=.returned (.pointer none)∧Below w1.heap.size w1 w':=hF.mono (by
        rintro e w' ⟨v,rfl,HF,hb⟩
        have hv:=uh HF
        rw [uh HDB] at hv
        rcases hv with ⟨rfl,_⟩ | ⟨z,hz,_,hzp⟩
        ·exact ⟨rfl,hb⟩
        ·exact absurd ⟨z,hz,hzp⟩ hx)
       have HK1:Hid (¬ kindP (entsN ns) d=1):=hide (by
        rcases find_kindS (uh HST1).tree (uh HST1).mem.root (show FindIs r ns d (.pointer none) from .inl ⟨rfl,fun z hz e=>hx ⟨z,hz,e⟩⟩) with ⟨_,h⟩ | ⟨z,_,e,_⟩
        ·exact h
        ·cases e)
       have HDN:Hid (d≠[]):=hide (fun e=>uh HK1 (by rw [e];rfl))
       clear hF hx
       go_upto_region 9 with (first
        | (go_at_call 87;refine hD.mono ?_;clear hD;rintro e2 w2 ⟨rfl,hw⟩;obtain rfl:=hw.symm)
        | (go_at_call 258;refine hSf.mono ?_;clear hSf;rintro e3 w3 ⟨rfl,hw3⟩;obtain rfl:=hw3.symm)
        | (go_at_call 47;refine hF2.mono ?_;clear hF2;rintro e4 w4 ⟨rfl,hb4⟩)
        | (go_at_call 87;refine (isDir_nil _).mono ?_;rintro e5 w5 ⟨rfl,hw5⟩;obtain rfl:=hw5.symm))
       have HSW:=hide ((uh HST1).below hb4)
       have HMW:=hide (cell_later hb4 (uh HM1))
       have HBW:=hide ((uh HBW1).trans (hb4.mono (uh HBW1).size))
       have HY3:=hide ((hb4.block y.nb (Array.getElem?_eq_some_iff.1 (uh HY1)).1).trans (uh HY1))
       have HCG:Hid (copyG (entsN ns) (entsN nss) work.data.toList a.data.toList b.data.toList=withW work.data.toList (layMadeG (entsN ns) (movE y.ent d))):=hide (by rw [uh HCG0,if_neg (by rw [uh HSL];simpa using uh HK1)])
       have HDQ:=HDB
       clear s0 u0 ub
       have y0:w4.cell? ⟨y.nb,0,none⟩=some (.string y.ent.path):=cell_of_row w4 y.nb 0 _ _ _ (uh HY3)
       have y1:w4.cell? ⟨y.nb,1,none⟩=some (.int .i64 y.ent.kind):=cell_of_row w4 y.nb 1 _ _ _ (uh HY3)
       have y2:w4.cell? ⟨y.nb,2,none⟩=some (.int .i64 y.ent.mode):=cell_of_row w4 y.nb 2 _ _ _ (uh HY3)
       have y3:w4.cell? ⟨y.nb,3,none⟩=some (.string y.ent.data):=cell_of_row w4 y.nb 3 _ _ _ (uh HY3)
       have e0:(⟨db,y.ent.kind,y.ent.mode,y.ent.data⟩:Ent)=movE y.ent (d):=by
        unfold movE;rw [←uh HDQ];rfl
       have hL:=fun W (hs:StA W B sb r ns work ev) (hmW:W.cell? ⟨14,0,none⟩=some (.int .i64 m))=>layInMade_any sb r ns work ev ⟨db,y.ent.kind,y.ent.mode,y.ent.data⟩ B m W hs (by omega) (by simp only;omega) (hide (by have:=uh HGY;unfold goodE at this ⊢;exact this)) (hide (by simp only;rw [uh HDQ];exact uh HDN)) hmW
       rw [←e0] at HCG
       cases hq:layMadeG (entsN ns) ⟨db,y.ent.kind,y.ent.mode,y.ent.data⟩ with
       | error k=>
         rw [hq] at hL HCG
         unfold TrOut at hL
         dsimp only at hL
         clear hq e0
         go_wp2_with (first
          | (go_at_call 260;refine (moved_any y.ent db _).mono ?_;rintro e5 w5 ⟨rfl,hb5⟩)
          | (go_at_call 259;refine (hL _ ((uh HSW).below hb5) (cell_later hb5 (uh HMW))).mono ?_;clear hL;rintro e6 w6 ⟨rfl,hb6,hx6⟩))
         go_ret
         have hBw5:=(uh HBW).trans (hb5.mono (uh HBW).size)
         rw [uh HCG]
         exact ⟨rfl,(hBw5.mono hBw).trans hb6,(keepX_below hBw5).trans hx6⟩
       | ok t=>
         rw [hq] at hL HCG
         unfold TrOut at hL
         dsimp only at hL
         clear hq e0
         go_wp2_with (first
          | (go_at_call 260;refine (moved_any y.ent db _).mono ?_;rintro e5 w5 ⟨rfl,hb5⟩)
          | (go_at_call 259;refine (hL _ ((uh HSW).below hb5) (cell_later hb5 (uh HMW))).mono ?_;clear hL;rintro e6 w6 ⟨⟨rfl,ns',h2,h3,h4,h5⟩,hb6,hx6⟩))
         go_ret
         have hBw5:=(uh HBW).trans (hb5.mono (uh HBW).size)
         rw [uh HCG]
         exact ⟨⟨rfl,r,ns',work,h2,h3,rfl,hws,by omega⟩,(hBw5.mono hBw).trans hb6,(keepX_below hBw5).trans hx6⟩
def ErrV (w:World) (v:Value) (k:Nat):Prop:=v=.iface 22 (.int .i64 (k:Int))∨∃ (q:Nat) (n:Int),v=.iface 80 (.pointer (some ⟨q,0,none⟩))∧w.heap[q]?=some (.cells #[.int .i64 (k:Int),.int .i64 n] 84 (0,0))
theorem er_at (v:Value) (w:World):(binOp BinOp.neq 47 (.iface 80 v) .nilIface).run Tryz.prog w=.ok (.bool true) w:=by kernel_rfl
set_option maxHeartbeats 4000000 in
set_option maxRecDepth 10000 in
theorem add_bad (sb:Nat) (r:Nd) (ns:List Nd) (work a b:ByteArray) (ev:Value) (ao:Option Addr) (n cap:Nat) (ps:List ByteArray) (stv:Option Addr) (rs:Nd) (nss:List Nd) (B Bs:Nat) (m:Int) (w:World) (h:StA w B sb r ns work ev) (hws:work.size≤1048576) (hW:Wrds w ao n cap ps) (ha:ps[0]?=some a) (hb:ps[1]?=some b)
  (hS:Mem w Bs rs nss) (HT:Hid (TreeS (entsN nss))) (hm:w.cell? ⟨14,0,none⟩=some (.int .i64 m)) (k:Nat) (hk:addG (entsN nss) work.data.toList a.data.toList b.data.toList=some k) :
  Calls Tryz.prog 218 #[.pointer (some ⟨sb,0,none⟩),.agg #[.slice ao n cap,.pointer stv,.pointer (some ⟨rs.nb,0,none⟩)]] w fun e w'=>(∃ v,e=.returned v∧ErrV w' v k)∧Below w.heap.size w w':=by
 obtain ⟨g,rfl,cb,hn1,hbl⟩:=hW.at hb
 obtain ⟨W0,hW0⟩:∃ W0,W0=w.alloc (.cells #[.slice (some ⟨g,0,none⟩) n cap,.pointer stv,.pointer (some ⟨rs.nb,0,none⟩)] 69):=⟨_,rfl⟩
 have hb0:Below w.heap.size w W0:=by rw [hW0];exact (Below.refl _ _).alloc (Nat.le_refl _) _
 have hc0:W0.heap[w.heap.size]?=some (.cells #[.slice (some ⟨g,0,none⟩) n cap,.pointer stv,.pointer (some ⟨rs.nb,0,none⟩)] 69 (0,0)):=by rw [hW0];exact heap_alloc_new _ _
 have t0:W0.cell? ⟨w.heap.size,0,none⟩=some (.slice (some ⟨g,0,none⟩) n cap):=cq 0 hc0
 have t1:W0.cell? ⟨w.heap.size,1,none⟩=some (.pointer stv):=cq 1 hc0
 have t2:W0.cell? ⟨w.heap.size,2,none⟩=some (.pointer (some ⟨rs.nb,0,none⟩)):=cq 2 hc0
 have hEn:=ends_any sb work a b (some ⟨g,0,none⟩) n cap ps stv rs nss Bs m W0 (h.below hb0).c1 hws (hW.below hb0) ha hb (hS.below hb0) HT (cell_later hb0 hm)
 have HMM:=hide (hS.below hb0)
 have HM:=hide (cell_later hb0 hm)
 have hes:=er_some
 have hen:=er_nil
 have hea:=er_at
 clear hc0 cb h hS hm hW ha hb hn1
 cases hg:endsG (entsN nss) work.data.toList a.data.toList b.data.toList with
 | error k'=>
   rw [hg] at hEn
   unfold EndsOut at hEn
   dsimp only at hEn
   have HK:Hid (k'=k):=hide (by unfold addG at hk;rw [hg] at hk;simpa using hk)
   clear hg hk
   go_enter Tryz.func218,Tryz.ntmps218
   go_upto_region 1 with fail
   rw [←hW0]
   clear hW0
   go_wp2_with (go_at_call 256;refine hEn.mono ?_;clear hEn;rintro e1 w1 ⟨rfl,hb1⟩)
   go_ret
   exact ⟨⟨_,rfl,.inl (by rw [←uh HK];rfl)⟩,hb0.trans (hb1.mono hb0.size)⟩
 | ok pd=>
   obtain ⟨p,d⟩:=pd
   rw [hg] at hEn
   unfold EndsOut at hEn
   dsimp only at hEn
   obtain ⟨db,hdb⟩:∃ db,db=bs d:=⟨_,rfl⟩
   rw [←hdb] at hEn
   have HG0:=hide hg
   have HKK:=hide hk
   clear hg hdb hk
   go_enter Tryz.func218,Tryz.ntmps218
   go_upto_region 1 with fail
   rw [←hW0]
   clear hW0
   go_upto_region 4 with (go_at_call 256;refine hEn.mono ?_;clear hEn;rintro e1 w1 ⟨⟨y,hy,hyp,rfl⟩,hb1⟩)
   have uM:=(uh HMM).below hb1
   obtain ⟨_,_,hy3,_⟩:=uM.all y hy
   have z1:w1.cell? ⟨y.nb,1,none⟩=some (.int .i64 y.ent.kind):=cell_of_row w1 y.nb 1 _ _ _ hy3
   have z3:w1.cell? ⟨y.nb,3,none⟩=some (.string y.ent.data):=cell_of_row w1 y.nb 3 _ _ _ hy3
   have hB1:Below w.heap.size w w1:=hb0.trans (hb1.mono hb0.size)
   have HFE:Hid ((if p=[] then some rootE else atE (entsN nss) p)=some y.ent):=hide (by
    split
    ·rename_i hp0
     rcases List.mem_cons.1 hy with rfl | hy
     ·rw [uM.root]
     ·exact absurd (hyp.trans hp0) (ent_good (uh HT) (List.mem_map.2 ⟨y,hy,rfl⟩)).2.1
    ·rename_i hp0
     rcases List.mem_cons.1 hy with rfl | hy
     ·exact absurd (hyp.symm.trans (by rw [Nd.p,uM.root];rfl)) hp0
     ·rw [←hyp];exact (uh HT).at (List.mem_map.2 ⟨y,hy,rfl⟩))
   have HE:Hid ((if y.ent.kind≠2 then some 9 else if y.ent.data.size<512 then some 4 else none)=some k):=hide (by
    have:=uh HKK
    unfold addG at this
    rw [uh HG0] at this
    simp only at this
    rw [uh HFE] at this
    exact this)
   have hm1:=cell_later hb1 (uh HM)
   clear t0 t1 t2 hy hyp hy3 uM HFE HKK HG0
   by_cases hk2:y.ent.kind=2
   ·have g2:(y.ent.kind != 2)=false:=by simpa using hk2
    have hE2:=uh HE
    rw [if_neg (by simpa using hk2)] at hE2
    by_cases h512:y.ent.data.size<512
    ·rw [if_pos h512] at hE2
     have hU:=unpack_short y.ent.data m w1 h512 hm1
     have HK4:Hid (k=4):=hide (by simpa using hE2.symm)
     rw [hk2] at z1
     clear hk2 h512 hE2 HE
     go_wp2_with (go_at_call 261;refine hU.mono ?_;clear hU;rintro e2 w2 ⟨q,rfl,hq,hb2⟩)
     go_ret
     exact ⟨⟨_,rfl,.inr ⟨q,0,rfl,by rw [uh HK4];exact hq⟩⟩,hB1.trans (hb2.mono hB1.size)⟩
    ·rw [if_neg h512] at hE2;cases hE2
   ·have g2:(y.ent.kind != 2)=true:=by simpa using hk2
    have HK9:Hid (k=9):=hide (by have:=uh HE;rw [if_pos hk2] at this;simpa using this.symm)
    clear hk2 HE
    go_wp2_with fail
    go_ret
    exact ⟨⟨_,rfl,.inl (by rw [uh HK9];rfl)⟩,hB1⟩
end Go.Proofs.YtehfpjcclknipaaGreatDoor.T
