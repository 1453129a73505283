import Derived.Test.YtehfpjcclknipaaGreatDoorJTUpA
import Derived.Sort.KeysCollected
import Derived.Sort.Walk0
import Derived.Lib.SlicesCompact
import Derived.Laws.StructEq
namespace Go.Proofs.YtehfpjcclknipaaGreatDoor.T
open Go.RowKit Go.Maps
theorem keep_grown {w w':World}{a:Addr}{v:Value}{b:Nat}(hg:w.grownBy w' (some b)) (hc:w.cell? a=some v) (hne:a.block≠b):w'.cell? a=some v:=
 hg.cell hc (by simpa using hne)
theorem ne_mb {w:World}{b n g h:Nat}{L:List (List UInt8 × Nat)}{cs cs':Array Value}{t t':TypeId}{f f':Nat × Nat}(hk:KM w b n L) (h1:w.heap[g]?=some (.cells cs t f)) (h2:w.heap[h]?=some (.cells cs' t' f')):g≠b∧h≠b:=by
 obtain ⟨es,clock,hm,_⟩:=hk
 constructor
 ·intro e;rw [e,hm] at h1;cases h1
 ·intro e;rw [e,hm] at h2;cases h2
theorem dir_le (p:List UInt8):(dirOf p).length≤p.length:=by
 by_cases h:47∈p
 ·obtain ⟨a,b,rfl,hb⟩:=last_slash h
  rw [(dir_at hb).1];simp
 ·rw [(dir_no h).1];simp
def KeepC (w w':World):Prop:=∀ (g:Nat) (cs:Array Value) (t:TypeId) (f:Nat × Nat),w.heap[g]?=some (Obj.cells cs t f)→w'.heap[g]?=some (Obj.cells cs t f)
theorem keepC_below {w w':World}(h:Below w.heap.size w w'):KeepC w w':=fun g _ _ _ hg=>(h.block g (Array.getElem?_eq_some_iff.1 hg).1).trans hg
theorem keepC_map {w w':World}{b n:Nat}{L:List (List UInt8 × Nat)}(hk:KM w b n L) (hg:w.grownBy w' (some b)):KeepC w w':=fun g cs t f hc=>by
 have hne:=(ne_mb hk hc hc).1
 exact (hg.block g (Array.getElem?_eq_some_iff.1 hc).1 (by simpa using hne)).trans hc
theorem KeepC.trans {a b c:World}(h1:KeepC a b) (h2:KeepC b c):KeepC a c:=fun g cs t f h=>h2 g cs t f (h1 g cs t f h)
attribute [local go_sem] setCell_drewN alloc_drewN
theorem isDir_nil (w:World):Calls Tryz.prog 87 #[.pointer none] w fun ev w'=>ev=.returned (.bool false)∧w'=w:=by
 go_enter Tryz.func87,Tryz.ntmps87
 go_wp2
 go_ret
 exact ⟨rfl,rfl⟩
theorem isDir_at (b:Nat) (k:Int) (w:World) (hc:w.cell? ⟨b,1,none⟩=some (.int .i64 k)):Calls Tryz.prog 87 #[.pointer (some ⟨b,0,none⟩)] w fun ev w'=>ev=.returned (.bool (decide (k=1)))∧w'=w:=by
 go_enter Tryz.func87,Tryz.ntmps87
 go_wp2
 go_ret
 exact ⟨by by_cases h:k=1 <;> simp [h],rfl⟩
theorem Ahead.fresh {r:Nd}{ns:List Nd}{e:Ent}(h:Ahead r ns e) {p:List UInt8}(hd:dirOf e.path.data.toList=p) {nn:ByteArray}(hn:nn.data.toList=nameOf e.path.data.toList) {w:World}{b n:Nat}(hk:KM w b n (kidsN ns p)) (hs:nn.size≤1048576) :
  (Instr.lookup 127 (.map (some b)) (.string nn) false).run Tryz.prog w=.ok (.pointer none) w:=by
 rcases hk.look nn (by omega) false with ⟨hrun,_⟩ | ⟨q,hq,_⟩
 ·exact hrun
 ·have h1:=Ahead.less (y:=⟨e,0,0⟩) h hd _ hq
  rw [show nameOf (Nd.p ⟨e,0,0⟩)=nn.data.toList from hn.symm,bl_irr] at h1
  cases h1
set_option maxHeartbeats 2000000 in
set_option maxRecDepth 100000 in
theorem add_any (r:Nd) (ns:List Nd) (B:Nat) (e:Ent) (m:Int) (w:World) (hM:Mem w B r ns) (HA:Hid (Ahead r ns e)) (hn:ns.length≤40) (hB:B≤w.heap.size) (hs:e.path.size≤1048576) (hm:w.cell? ⟨14,0,none⟩=some (.int .i64 m)) (_:14<B) :
  Calls Tryz.prog 45 #[.pointer (some ⟨r.nb,0,none⟩),.agg #[.string e.path,.int .i64 e.kind,.int .i64 e.mode,.string e.data]] w fun ev w'=>∃ b:Bool,ev=.returned (.bool b)∧Hid (b=decide (kindP (entsN ns) (dirOf e.path.data.toList)=1))∧Hid (b=true→∃ y:Nd,y.ent=e∧Mem w' B r (ns++[y]))∧Hid (KeepC w w')∧Below B w w':=by
 have HM:=hide hm
 have HMem:=hide hM
 have HB:=hide hB
 have hB0:∀ o,Below w.heap.size w (w.alloc o):=fun o=>(Below.refl _ _).alloc (Nat.le_refl _) o
 clear hm hM hB
 go_enter Tryz.func45,Tryz.ntmps45
 go_upto_region 2 with (go_at_call 86;refine (last_any e.path _ (by omega)).mono ?_;rintro ev w1 ⟨dd,nn,rfl,HD,HNm,hb1⟩)
 have hB1:Below w.heap.size w w1:=(hB0 _).trans (hb1.mono (by simp))
 have hq:=(hb1.block w.heap.size (by simp)).trans (heap_alloc_new _ _)
 have hdd:dd.size≤1048576:=by rw [Lib.size_eq,uh HD];exact Nat.le_trans (dir_le _) (by rw [←Lib.size_eq];exact hs)
 have hnn:nn.size≤1048576:=by rw [Lib.size_eq,uh HNm];exact Nat.le_trans (name_le _) (by rw [←Lib.size_eq];exact hs)
 have HQ:=hide hq
 clear hq hb1
 go_upto_region 3 with (go_at_call 47;refine (find_any r ns B dd m _ ((uh HMem).below hB1) (hide (uh HA).ok) hdd (cell_later hB1 (uh HM))).mono ?_;rintro ev w2 ⟨v,rfl,HF,hb2⟩)
 have hB2:Below w.heap.size w w2:=hB1.trans (hb2.mono hB1.size)
 have hq2:w2.heap[w.heap.size]?=some (.cells #[.string e.path,.int .i64 e.kind,.int .i64 e.mode,.string e.data] 38 (0,0)):=(hb2.block w.heap.size (Array.getElem?_eq_some_iff.1 (uh HQ)).1).trans (uh HQ)
 have hM2:=(uh HMem).below hB2
 have hBz:=uh HB
 rcases find_kind (uh HA) (uh HF) with ⟨rfl,hk⟩ | ⟨x,hx,rfl,hxp,hk⟩
 ·have C:Hid (false=decide (kindP (entsN ns) (dirOf e.path.data.toList)=1)):=hide (by rw [←uh HD];exact (decide_eq_false hk).symm)
  clear hk HF hM2 hq2 HQ
  go_wp2_with (go_at_call 87;refine (isDir_nil _).mono ?_;rintro ev w3 ⟨rfl,hw⟩;obtain rfl:=hw.symm)
  go_ret
  exact ⟨false,rfl,C,hide (by intro h;cases h),hide (keepC_below hB2),hB2.mono hBz⟩
 ·obtain ⟨hx1,hx2,hx3,hx4⟩:=hM2.all x hx
  have c1:w2.cell? ⟨x.nb,1,none⟩=some (.int .i64 x.ent.kind):=cell_of_row w2 x.nb 1 _ _ _ hx3
  have c4:w2.cell? ⟨x.nb,4,none⟩=some (.map (some x.mb)):=cell_of_row w2 x.nb 4 _ _ _ hx3
  have q0:w2.cell? ⟨w.heap.size,0,none⟩=some (.string e.path):=cell_of_row w2 w.heap.size 0 _ _ _ hq2
  have q1:w2.cell? ⟨w.heap.size,1,none⟩=some (.int .i64 e.kind):=cell_of_row w2 w.heap.size 1 _ _ _ hq2
  have q2:w2.cell? ⟨w.heap.size,2,none⟩=some (.int .i64 e.mode):=cell_of_row w2 w.heap.size 2 _ _ _ hq2
  have q3:w2.cell? ⟨w.heap.size,3,none⟩=some (.string e.data):=cell_of_row w2 w.heap.size 3 _ _ _ hq2
  by_cases k1:x.ent.kind=1
  ·have C:Hid (true=decide (kindP (entsN ns) (dirOf e.path.data.toList)=1)):=hide (by rw [←uh HD,hk,k1];rfl)
   have k2:(x.ent.kind==1)=true:=by simp [k1]
   rw [k1] at c1
   have HX:=hide hx
   have HXp:=hide hxp
   have HX4:=hide hx4
   have HM2:=hide hM2
   have HX3:=hide hx3
   have HQ2:=hide hq2
   have hlk:=Ahead.fresh (uh HA) (by rw [hxp];exact (uh HD).symm) (uh HNm) hx4 hnn
   clear hx hxp hx4 hM2 hk HF hx3 hq2 hx1 hx2
   go_upto_region 5 with (go_at_call 87;refine (isDir_at _ _ _ c1).mono ?_;rintro ev w3 ⟨rfl,hw⟩;obtain rfl:=hw.symm)
   go_upto_region 8 with (go_at_call 87;refine (isDir_nil _).mono ?_;rintro ev w3 ⟨rfl,hw⟩;obtain rfl:=hw.symm)
   go_region_held3 (fun w'=>w'.cell? ⟨x.nb,4,none⟩=some (.map (some x.mb))∧w'.cell? ⟨w.heap.size,0,none⟩=some (.string e.path)∧w'.cell? ⟨w.heap.size,1,none⟩=some (.int .i64 e.kind)∧w'.cell? ⟨w.heap.size,2,none⟩=some (.int .i64 e.mode)∧w'.cell? ⟨w.heap.size,3,none⟩=some (.string e.data))
    (first | exact ⟨keep_grown hg6 p4 (uh HNE).1,keep_grown hg6 p0 (uh HNE).2,keep_grown hg6 p1 (uh HNE).2,keep_grown hg6 p2 (uh HNE).2,keep_grown hg6 p3 (uh HNE).2⟩ | exact ⟨p4,p0,p1,p2,p3⟩ | go_keep)
    (first | (go_at_call 80;refine (newNode_any e _).mono ?_;rintro ev w5 ⟨nb,mb,rfl,hnb,hmb,HN5,hb5⟩;have p4:=cell_later (chain0 hb5) c4;have p0:=cell_later (chain0 hb5) q0;have p1:=cell_later (chain0 hb5) q1;have p2:=cell_later (chain0 hb5) q2;have p3:=cell_later (chain0 hb5) q3;obtain ⟨w6,hrun6,hown6,hg6⟩:=World.ownsMap.update ((uh HX4).below (chain0 hb5)) (Maps.string_keyed Tryz.underlying9) Tryz.underlying127 (by unfold maxLen;omega) (WideMaps.keyOf_string_mk Tryz.underlying9 (s:=nn) (by unfold maxLen;omega)) (show RK (.pointer (some ⟨nb,0,none⟩))=some (.lit (.int .i64 (nb:Int)),[]) from rfl);have HNE:Hid (x.nb≠x.mb∧w.heap.size≠x.mb):=hide (ne_mb (uh HX4) (uh HX3) (uh HQ2))))
   have hxx:=(uh HM2).all x (uh HX)
   have R1:Below B w w5:=(hB2.mono hBz).trans (Below.mono (B':=B) (chain0 hb5) (Nat.le_trans hBz hB2.size))
   have R2:Below B w w6:=R1.grown hg6 (Nat.le_trans hBz R1.size) (fun q hq=>by cases hq;exact hxx.2.1)
   have hdir:dirOf (Nd.p ⟨e,nb,mb⟩)=x.p:=by rw [uh HXp,uh HD];rfl
   have R3:KM w6 x.mb (ns.length+1) (kidsN ns x.p++[(nameOf (Nd.p ⟨e,nb,mb⟩),nb)]):=by
    have h:=hown6
    rw [uh HNm] at h
    unfold KM
    rw [←DK_put (Ahead.less (y:=⟨e,nb,mb⟩) (uh HA) hdir)]
    exact h
   have hz2:B≤w2.heap.size:=Nat.le_trans hBz hB2.size
   have hnb':w2.heap.size≤nb:=hnb
   have hmb':w2.heap.size≤mb:=hmb
   have R4:Mem w6 B r (ns++[⟨e,nb,mb⟩]):=Mem.add ((uh HM2).below (chain0 hb5)) (uh HX) (y:=⟨e,nb,mb⟩) (Nat.le_trans hz2 hnb') (Nat.le_trans hz2 hmb') (uh HN5).1 (uh HN5).2
    (fun z hz=>by have:=World.ownsMap.lt ((uh HM2).all z hz).2.2.2;show z.mb≠mb;omega) R3 hg6 hdir ((uh HA).uniq (uh HX)) (Ahead.kids (y:=⟨e,nb,mb⟩) (uh HA))
   go_wp2_with fail
   go_ret
   exact ⟨true,rfl,C,hide (fun _=>⟨⟨e,nb,mb⟩,rfl,R4⟩),hide ((keepC_below hB2).trans ((keepC_below (chain0 hb5)).trans (keepC_map ((uh HX4).below (chain0 hb5)) hg6))),R2⟩
  ·have C:Hid (false=decide (kindP (entsN ns) (dirOf e.path.data.toList)=1)):=hide (by rw [←uh HD,hk];exact (decide_eq_false k1).symm)
   have k2:(x.ent.kind==1)=false:=by simp [k1]
   clear hk HF hM2 hq2 HQ hx hxp
   go_wp2_with (go_at_call 87;refine (isDir_at _ _ _ c1).mono ?_;rintro ev w3 ⟨rfl,hw⟩;obtain rfl:=hw.symm)
   go_ret
   exact ⟨false,rfl,C,hide (by intro h;cases h),hide (keepC_below hB2),hB2.mono hBz⟩
end Go.Proofs.YtehfpjcclknipaaGreatDoor.T
namespace Go.Proofs.YtehfpjcclknipaaGreatDoor.T
open Go.RowKit Go.Maps
theorem take_ents {es:List Ent}{ns:List Nd}{k:Nat}(h:entsN ns=es.take k) (hk:k≤es.length):ns.length=k:=by
 have:=congrArg List.length h
 simp [entsN] at this
 omega
theorem okTo_take {es:List Ent}{k:Nat}(h:∀ j,j<k→okAt es j=true) (_:k≤es.length):OkTo (es.take k) k:=by
 intro i hi
 have e1:(es.take k)[i]?=es[i]?:=by rw [List.getElem?_take,if_pos hi]
 have e2:(es.take k)[i-1]?=es[i-1]?:=by rw [List.getElem?_take,if_pos (by omega)]
 have e3:(es.take k).take i=es.take i:=by rw [List.take_take,Nat.min_eq_left (by omega)]
 have:=okG_of (h i hi)
 unfold okG at this ⊢
 rw [e1,e2,e3]
 exact this
def OfIs (w:World) (B:Nat) (es:List Ent) (v:Value) (er:Value):Prop:=
 (∃ (r:Nd) (ns:List Nd),v=.pointer (some ⟨r.nb,0,none⟩)∧er=.nilIface∧entsN ns=es∧Mem w B r ns∧FirstBad es (-1)) ∨
 (∃ (i q:Nat),v=.pointer none∧er=.iface 80 (.pointer (some ⟨q,0,none⟩))∧w.cell? ⟨q,0,none⟩=some (.int .i64 2)∧w.cell? ⟨q,1,none⟩=some (.int .i64 (i:Int))∧FirstBad es i)
theorem prt_some {l:List UInt8}(h:l≠[]):prt l≠[]:=by rw [prt_ne h];exact spl_ne l
theorem ltL_nil {x:List (List UInt8)}(h:x≠[]):ltL [] x=true:=by
 cases x with
 | nil=>exact absurd rfl h
 | cons a b=>rfl
theorem ahead_of {es:List Ent}{k:Nat}{ns:List Nd}{e:Ent}{A:ByteArray}{r:Nd}(hK:∀ j,j<k→okAt es j=true) (hk:k≤es.length) (hE:entsN ns=es.take k) (he:entOk e=true) (hA:(k=0∧A.data.toList=[])∨∃ d,es[k-1]?=some d∧0<k∧A.data.toList=d.path.data.toList) (hL:ltL (prt A.data.toList) (prt e.path.data.toList)=true) (hr:r.ent=rootE):Ahead r ns e:=by
 have hl:=take_ents hE hk
 have hok:=okTo_take hK hk
 refine ⟨by rw [hE,hl];exact hok,he,fun x hx=>?_,hr⟩
 obtain ⟨j,hj,_,hje⟩:=nd_at hx
 rw [hl] at hj
 rw [hE] at hje
 rcases hA with ⟨rfl,_⟩ | ⟨d,h1,h2,h3⟩
 ·omega
 ·rw [h3] at hL
  by_cases hjk:j=k-1
  ·subst hjk
   rw [List.getElem?_take,if_pos (by omega),h1] at hje
   cases hje
   exact hL
  ·have h1':(es.take k)[k-1]?=some d:=by rw [List.getElem?_take,if_pos (by omega),h1]
   exact ltL_trans (ord_lt hok (k-1) j x.ent d (by omega) (by omega) hje h1') hL
theorem new_any (w:World) :
  Calls Tryz.prog 42 #[] w fun ev w'=>∃ nb mb:Nat,ev=.returned (.pointer (some ⟨nb,0,none⟩))∧w.heap.size≤nb∧w.heap.size≤mb∧Hid (w'.heap[nb]?=some (.cells (Nd.cells ⟨rootE,nb,mb⟩) 129 (0,0))∧KM w' mb 0 [])∧Below w.heap.size w w':=by
 have h:=newNode_any rootE w
 go_enter Tryz.func42,Tryz.ntmps42
 go_wp2_with (go_at_call 80;refine h.mono ?_;clear h;rintro ev w1 ⟨rb,rm,rfl,hnb,hmb,HN1,hb1⟩)
 go_ret
 exact ⟨rb,rm,rfl,hnb,hmb,HN1,hb1⟩
set_option maxHeartbeats 2000000 in
set_option maxRecDepth 100000 in
theorem of_tree (ao:Option Addr) (cap n:Nat) (es:List Ent) (m:Int) (w:World) (hr:ERow w ao es) (HN:Hid (n=es.length)) (hn:n≤4294967280) (HS:Hid (Small es)) (hm:w.cell? ⟨14,0,none⟩=some (.int .i64 m)) :
  Calls Tryz.prog 23 #[.slice ao n cap] w fun ev w'=>∃ v er,ev=.returned (.tuple #[v,er])∧Hid (OfIs w' w.heap.size es v er)∧Below w.heap.size w w':=by
 have hm2:14<w.heap.size:=World.block_lt_of_cell? _ _ hm
 have HM:=hide hm
 clear hm
 go_enter Tryz.func23,Tryz.ntmps23
 go_upto_region 2 with (go_at_call 42;refine (new_any _).mono ?_;rintro ev w1 ⟨rb,rm,rfl,hnb,hmb,HN1,hb1⟩)
 have c0:w1.cell? ⟨rb,0,none⟩=some (.string rootE.path):=cell_of_row w1 rb 0 _ _ _ (uh HN1).1
 have HMem:Hid (Mem w1 w.heap.size ⟨rootE,rb,rm⟩ []):=hide ⟨rfl,fun x hx=>by
  rw [List.mem_singleton] at hx
  subst hx
  exact ⟨hnb,hmb,(uh HN1).1,(uh HN1).2⟩,by simp⟩
 clear HN1 hnb hmb
 go_wp2_with fail
 have hm40:Hid (Hid True):=hide (hide trivial)
 clear hm40
 go_loopw [5,16] (fun v i wr=>∃ (k:Nat) (A:ByteArray) (ns:List Nd),k≤n∧v=.string A∧i=.int .i64 k∧Below w.heap.size w wr∧Hid (∀ j,j<k→okAt es j=true)∧Hid (entsN ns=es.take k)∧Hid (Mem wr w.heap.size ⟨rootE,rb,rm⟩ ns)∧Hid ((k=0∧A.data.toList=[])∨∃ d,es[k-1]?=some d∧0<k∧A.data.toList=d.path.data.toList)∧Hid (A.size≤1048576)) (fun _ i _=>n-(intOf i).toNat)
 case atStart=>exact ⟨0,rootE.path,[],by omega,rfl,rfl,hb1,hide (by intro j hj;omega),hide (by simp [entsN]),HMem,hide (.inl ⟨rfl,rfl⟩),hide (by decide)⟩
 case round=>
  obtain ⟨k,A,ns,hk,rfl,rfl,hb,HK,HE,HMm,HAh0,HAz⟩:=hrel
  by_cases hlt:k<n
  ·obtain ⟨e,he⟩:∃ e,es[k]?=some e:=⟨es[k]'(by have:=uh HN;omega),List.getElem?_eq_getElem (by have:=uh HN;omega)⟩
   obtain ⟨g,o,rfl,c0,c1,c2,c3⟩:=(hr.below hb) k e he
   have i0:(0:Int)≤(k:Int):=by omega
   have i1:(k:Int)<(n:Int):=by omega
   have hsz:=uh HS e (List.mem_of_getElem? he)
   have hs1:=hsz.1
   have HEe:=hide he
   have HLen:Hid (k<es.length):=hide (by have:=uh HN;omega)
   have HO:=hide (okAt_eq he)
   have HL:Hid (ns.length=k):=hide (take_ents (uh HE) (by have:=uh HLen;omega))
   have k40:=all_lt (uh HK)
   obtain ⟨W0,hW0⟩:∃ W0,W0=wr.alloc (.cells #[.string e.path,.int .i64 e.kind,.int .i64 e.mode,.string e.data] 38):=⟨_,rfl⟩
   have hB0w:Below wr.heap.size wr W0:=by rw [hW0];exact (Below.refl _ _).alloc (Nat.le_refl _) _
   have hB0:=hb.trans (hB0w.mono hb.size)
   have q0:W0.cell? ⟨wr.heap.size,0,none⟩=some (.string e.path):=by rw [hW0];exact cq 0 (heap_alloc_new _ _)
   have q1:W0.cell? ⟨wr.heap.size,1,none⟩=some (.int .i64 e.kind):=by rw [hW0];exact cq 1 (heap_alloc_new _ _)
   have q2:W0.cell? ⟨wr.heap.size,2,none⟩=some (.int .i64 e.mode):=by rw [hW0];exact cq 2 (heap_alloc_new _ _)
   have q3:W0.cell? ⟨wr.heap.size,3,none⟩=some (.string e.data):=by rw [hW0];exact cq 3 (heap_alloc_new _ _)
   have HM0:=hide (cell_later hB0 (uh HM))
   have HQ0:Hid (W0.heap[wr.heap.size]?=some (.cells #[.string e.path,.int .i64 e.kind,.int .i64 e.mode,.string e.data] 38 (0,0))):=hide (by rw [hW0];exact heap_alloc_new _ _)
   clear he hsz
   go_upto_region 6 with fail
   rw [←hW0]
   clear hW0 c0 c1 c2 c3
   by_cases k4:40≤(k:Int)
   ·have C:Hid (okAt es k=false):=hide (by rw [uh HO];have:¬ k<40:=(by omega);simp [this])
    go_wp2_with fail
    go_ret2
    refine ⟨_,_,rfl,hide (.inr ⟨k,W0.heap.size,rfl,rfl,?_,?_,firstBad_at (uh HLen) (uh C) (uh HK)⟩),hB0.alloc hB0.size _⟩
    ·exact cq 0 (heap_alloc_new W0 _)
    ·exact cq 1 (heap_alloc_new W0 _)
   ·have k5:k<40:=by omega
    have k6:(k:Int)<40:=by omega
    cases hE:entOk e
    ·have C:Hid (okAt es k=false):=hide (by rw [uh HO,hE];simp)
     go_upto_region 7 with (first
      | (go_at_call 43;refine (isEntry_any e m _ (uh HM0)).mono ?_;rintro ev w2 ⟨rfl,hb2⟩;have q0:=cell_later hb2 q0;have q1:=cell_later hb2 q1;have q2:=cell_later hb2 q2;have q3:=cell_later hb2 q3;have hB2:=hB0.trans (Below.mono (B':=w.heap.size) hb2 hB0.size)))
     go_wp2_with fail
     go_ret2
     refine ⟨_,_,rfl,hide (.inr ⟨k,w2.heap.size,rfl,rfl,?_,?_,firstBad_at (uh HLen) (uh C) (uh HK)⟩),hB2.alloc hB2.size _⟩
     ·exact cq 0 (heap_alloc_new w2 _)
     ·exact cq 1 (heap_alloc_new w2 _)
    ·cases hL:ltL (prt A.data.toList) (prt e.path.data.toList)
     ·have C:Hid (okAt es k=false):=hide (by
       rcases uh HAh0 with ⟨_,h2⟩ | ⟨d,h1,h2,h3⟩
       ·rw [h2,prt_nil] at hL
        rw [ltL_nil (prt_some (ent_parts hE).1)] at hL
        cases hL
       ·rw [h3] at hL
        rw [uh HO,h1]
        have h0:¬ k=0:=by omega
        simp [h0,hL])
      go_upto_region 7 with (first
       | (go_at_call 43;refine (isEntry_any e m _ (uh HM0)).mono ?_;rintro ev w2 ⟨rfl,hb2⟩;have q0:=cell_later hb2 q0;have q1:=cell_later hb2 q1;have q2:=cell_later hb2 q2;have q3:=cell_later hb2 q3;have hB2:=hB0.trans (Below.mono (B':=w.heap.size) hb2 hB0.size))
       | (go_at_call 44;refine (compare_any A e.path m _ ?_ ?_ ?_).mono ?_;(have:=uh HAz;omega);omega;exact (cell_later hB2 (uh HM));rintro ev w3 ⟨rr,rfl,hrr,hb3⟩;have q0:=cell_later hb3 q0;have q1:=cell_later hb3 q1;have q2:=cell_later hb3 q2;have q3:=cell_later hb3 q3;have hB3:=hB2.trans (Below.mono (B':=w.heap.size) hb3 hB2.size);have hn1:0≤rr:=by (have h0:¬ rr<0:=fun h=>(by have:=hrr.1 h;rw [hL] at this;cases this));omega))
      go_wp2_with fail
      go_ret2
      refine ⟨_,_,rfl,hide (.inr ⟨k,w3.heap.size,rfl,rfl,?_,?_,firstBad_at (uh HLen) (uh C) (uh HK)⟩),hB3.alloc hB3.size _⟩
      ·exact cq 0 (heap_alloc_new w3 _)
      ·exact cq 1 (heap_alloc_new w3 _)
     ·have HAh:Hid (Hid (Ahead ⟨rootE,rb,rm⟩ ns e)):=hide (hide (ahead_of (uh HK) (by have:=uh HLen;omega) (uh HE) hE (uh HAh0) hL rfl))
      have HO2:Hid (okAt es k=decide (kindP (entsN ns) (dirOf e.path.data.toList)=1)):=hide (by
       rw [uh HO,hE,uh HE]
       rcases uh HAh0 with ⟨h1,_⟩ | ⟨d,h1,h2,h3⟩
       ·subst h1;simp
       ·rw [h3] at hL
        rw [h1]
        simp [k5,hL])
      by_cases hkd:kindP (entsN ns) (dirOf e.path.data.toList)=1
      ·have C:Hid (okAt es k=true):=hide (by rw [uh HO2,hkd];rfl)
       have HKd:=hide hkd
       clear hkd
       go_upto_region 8 with (first
        | (go_at_call 43;refine (isEntry_any e m _ (uh HM0)).mono ?_;rintro ev w2 ⟨rfl,hb2⟩;have q0:=cell_later hb2 q0;have q1:=cell_later hb2 q1;have q2:=cell_later hb2 q2;have q3:=cell_later hb2 q3;have hB2:=hB0.trans (Below.mono (B':=w.heap.size) hb2 hB0.size))
        | (go_at_call 44;refine (compare_any A e.path m _ ?_ ?_ ?_).mono ?_;(have:=uh HAz;omega);omega;exact (cell_later hB2 (uh HM));rintro ev w3 ⟨rr,rfl,hrr,hb3⟩;have q0:=cell_later hb3 q0;have q1:=cell_later hb3 q1;have q2:=cell_later hb3 q2;have q3:=cell_later hb3 q3;have hB3:=hB2.trans (Below.mono (B':=w.heap.size) hb3 hB2.size);have hn1:rr<0:=hrr.2 hL;have hn2:¬ (0≤rr):=(by omega))
        | (go_at_call 45;refine (add_any _ ns w.heap.size e m _ ((((uh HMm).below hB0w).below hb2).below hb3) (uh HAh) ?_ ?_ ?_ ?_ hm2).mono ?_;(have:=uh HL;omega);exact hB3.size;omega;exact (cell_later hB3 (uh HM));rintro ev w4 ⟨bb,rfl,HB1,HB2,HKC,hb4⟩;have hB4:=hB3.trans hb4;have q0:w4.cell? ⟨wr.heap.size,0,none⟩=some (.string e.path):=cell_of_row w4 wr.heap.size 0 _ _ _ (uh HKC _ _ _ _ (keepC_below hb3 _ _ _ _ (keepC_below hb2 _ _ _ _ (uh HQ0))));have hbt:bb=true:=(by rw [uh HB1,uh HKd];rfl);subst hbt))
       go_wp2_with fail
       go_roundw
       case rel=>
        obtain ⟨y,hy1,hy2⟩:∃ y:Nd,y.ent=e∧Mem w4 w.heap.size ⟨rootE,rb,rm⟩ (ns++[y]):=by
         first
          | exact uh HB2 trivial
          | exact uh HB2
        have R1:∀ j,j<k+1→okAt es j=true:=fun j hj=>by
         rcases Nat.lt_or_ge j k with h | h
         ·exact uh HK j h
         ·have e9:j=k:=by omega
          rw [e9];exact uh C
        have R2:entsN (ns++[y])=es.take (k+1):=by
         rw [List.take_add_one,uh HEe,←uh HE]
         simp [entsN,hy1]
        have R3:(k+1=0∧e.path.data.toList=[])∨∃ d,es[k+1-1]?=some d∧0<k+1∧e.path.data.toList=d.path.data.toList:=.inr ⟨e,by rw [Nat.add_sub_cancel];exact uh HEe,by omega,rfl⟩
        first
         | exact ⟨k+1,e.path,ns++[y],by omega,rfl,by go_num,hB4,hide R1,hide R2,hide hy2,hide R3,hide hs1⟩
         | ((repeat apply Exists.intro);exact ⟨⟨k+1,e.path,ns++[y],by omega,rfl,by go_num,hB4,hide R1,hide R2,hide hy2,hide R3,hide hs1⟩,rfl⟩)
       case measure=>simp [intOf];omega
      ·have C:Hid (okAt es k=false):=hide (by rw [uh HO2];exact decide_eq_false hkd)
       have HKd:=hide hkd
       clear hkd
       go_upto_region 7 with (first
        | (go_at_call 43;refine (isEntry_any e m _ (uh HM0)).mono ?_;rintro ev w2 ⟨rfl,hb2⟩;have q0:=cell_later hb2 q0;have q1:=cell_later hb2 q1;have q2:=cell_later hb2 q2;have q3:=cell_later hb2 q3;have hB2:=hB0.trans (Below.mono (B':=w.heap.size) hb2 hB0.size))
        | (go_at_call 44;refine (compare_any A e.path m _ ?_ ?_ ?_).mono ?_;(have:=uh HAz;omega);omega;exact (cell_later hB2 (uh HM));rintro ev w3 ⟨rr,rfl,hrr,hb3⟩;have q0:=cell_later hb3 q0;have q1:=cell_later hb3 q1;have q2:=cell_later hb3 q2;have q3:=cell_later hb3 q3;have hB3:=hB2.trans (Below.mono (B':=w.heap.size) hb3 hB2.size);have hn1:rr<0:=hrr.2 hL;have hn2:¬ (0≤rr):=(by omega))
        | (go_at_call 45;refine (add_any _ ns w.heap.size e m _ ((((uh HMm).below hB0w).below hb2).below hb3) (uh HAh) ?_ ?_ ?_ ?_ hm2).mono ?_;(have:=uh HL;omega);exact hB3.size;omega;exact (cell_later hB3 (uh HM));rintro ev w4 ⟨bb,rfl,HB1,HB2,HKC,hb4⟩;have hB4:=hB3.trans hb4;have q0:w4.cell? ⟨wr.heap.size,0,none⟩=some (.string e.path):=cell_of_row w4 wr.heap.size 0 _ _ _ (uh HKC _ _ _ _ (keepC_below hb3 _ _ _ _ (keepC_below hb2 _ _ _ _ (uh HQ0))));have hbt:bb=false:=(by rw [uh HB1];exact decide_eq_false (uh HKd));subst hbt))
       go_wp2_with fail
       go_ret2
       refine ⟨_,_,rfl,hide (.inr ⟨k,w4.heap.size,rfl,rfl,?_,?_,firstBad_at (uh HLen) (uh C) (uh HK)⟩),hB4.alloc hB4.size _⟩
       ·exact cq 0 (heap_alloc_new w4 _)
       ·exact cq 1 (heap_alloc_new w4 _)
  ·have HF:Hid (FirstBad es (-1)):=hide (.inl ⟨rfl,fun i hi=>uh HK i (by have:=uh HN;omega)⟩)
   have HE2:Hid (entsN ns=es):=hide (by rw [uh HE,List.take_of_length_le (by have:=uh HN;omega)])
   go_wp2_with fail
   go_ret2
   exact ⟨_,_,rfl,hide (.inl ⟨⟨rootE,rb,rm⟩,ns,rfl,rfl,uh HE2,uh HMm,uh HF⟩),hb⟩
end Go.Proofs.YtehfpjcclknipaaGreatDoor.T
namespace Go.Proofs.YtehfpjcclknipaaGreatDoor.T
open Go.RowKit Go.Maps Go.Sort
def kidsX (ns:List Nd) (p:List UInt8):List Nd:=ns.filter fun x=>dirOf x.p==p
theorem kidsN_eq (ns:List Nd) (p:List UInt8):kidsN ns p=(kidsX ns p).map fun x=>(nameOf x.p,x.nb):=rfl
theorem kidsE_eq (ns:List Nd) (p:List UInt8):kidsE (entsN ns) p=(kidsX ns p).map (·.ent):=by
 rw [kidsE,entsN,kidsX,List.filter_map];rfl
theorem kidsX_mem {ns:List Nd}{p:List UInt8}{x:Nd}(h:x∈kidsX ns p):x∈ns∧dirOf x.p=p:=by
 rw [kidsX,List.mem_filter] at h;exact ⟨h.1,by simpa using h.2⟩
theorem ns_ord {ns:List Nd}(h:OkTo (entsN ns) ns.length):ns.Pairwise fun x y=>ltL (prt x.p) (prt y.p)=true:=by
 rw [List.pairwise_iff_getElem]
 intro i j hi hj hij
 exact ord_lt h j i ns[i].ent ns[j].ent hij hj (by rw [entsN,List.getElem?_map,List.getElem?_eq_getElem hi];rfl) (by rw [entsN,List.getElem?_map,List.getElem?_eq_getElem hj];rfl)
theorem nd_up {ns:List Nd}(h:OkTo (entsN ns) ns.length) {x:Nd}(hx:x∈ns):prt x.p=prt (dirOf x.p)++[nameOf x.p]:=by
 obtain ⟨k,hk,_,he⟩:=nd_at hx
 exact okTo_up h hk he
theorem kids_ord {ns:List Nd}(h:OkTo (entsN ns) ns.length) (p:List UInt8):(kidsX ns p).Pairwise fun x y=>Op.bytesLess (nameOf x.p) (nameOf y.p)=true:=by
 refine List.Pairwise.imp_of_mem (fun {x y} hx hy hl=>?_) ((ns_ord h).filter _)
 have hx':=kidsX_mem (p:=p) hx
 have hy':=kidsX_mem (p:=p) hy
 rw [nd_up h hx'.1,nd_up h hy'.1,hx'.2,hy'.2,ltL_snoc] at hl
 exact hl
theorem keys_eq (L:List (List UInt8 × Nat)):strKeys (DK L)=L.map (·.1):=by
 simp [strKeys,DK,strOf,Function.comp_def]
theorem kids_sorted {ns:List Nd}(h:OkTo (entsN ns) ns.length) {p:List UInt8}{ss:List (List UInt8)}(hp:ss.Perm (strKeys (DK (kidsN ns p)))):ss.mergeSort (fun x y=>decide (x≤y))=(kidsX ns p).map fun x=>nameOf x.p:=by
 rw [mergeSort_of_perm hp,keys_eq,kidsN_eq,List.map_map]
 refine List.mergeSort_of_pairwise ?_
 rw [List.pairwise_map]
 refine (kids_ord h p).imp (fun {x y} hl=>?_)
 rw [bytesLess_eq] at hl
 simp only [leB,decide_eq_true_eq,Function.comp] at hl ⊢
 exact List.le_of_lt hl
theorem kids_one {ns:List Nd}(h:OkTo (entsN ns) ns.length) {p:List UInt8}{x y:Nd}(hx:x∈kidsX ns p) (hy:y∈kidsX ns p) (e:nameOf x.p=nameOf y.p):x=y:=by
 obtain ⟨i,hi,rfl⟩:=List.getElem_of_mem hx
 obtain ⟨j,hj,rfl⟩:=List.getElem_of_mem hy
 have ho:=List.pairwise_iff_getElem.1 (kids_ord h p)
 rcases Nat.lt_trichotomy i j with hl | rfl | hl
 ·have:=ho i j hi hj hl;rw [e,bl_irr] at this;cases this
 ·rfl
 ·have:=ho j i hj hi hl;rw [e,bl_irr] at this;cases this
theorem KM.at {w:World}{b n:Nat}{ns:List Nd}{p:List UInt8}(h:KM w b n (kidsN ns p)) (hO:OkTo (entsN ns) ns.length) {x:Nd}(hx:x∈kidsX ns p) (s:ByteArray) (hs:s.size≤1073741824) (e:s.data.toList=nameOf x.p) :
  (Instr.lookup 127 (.map (some b)) (.string s) false).run Tryz.prog w=.ok (.pointer (some ⟨x.nb,0,none⟩)) w:=by
 rcases KM.look h s hs false with ⟨_,hn⟩ | ⟨q,hq,hrun⟩
 ·exact absurd e.symm (hn (nameOf x.p,x.nb) (by rw [kidsN_eq];exact List.mem_map.2 ⟨x,hx,rfl⟩))
 ·rw [kidsN_eq] at hq
  obtain ⟨y,hy,e2⟩:=List.mem_map.1 hq
  have e3:nameOf y.p=s.data.toList:=congrArg Prod.fst e2
  have e4:y.nb=q:=congrArg Prod.snd e2
  have:y=x:=kids_one hO hy hx (by rw [e3,e])
  rw [hrun,←e4,this];rfl
theorem km_size {L:List (List UInt8 × Nat)}:Maps.size (DK L)=L.length:=by
 simp [Maps.size,DK]
end Go.Proofs.YtehfpjcclknipaaGreatDoor.T
namespace Go.Proofs.YtehfpjcclknipaaGreatDoor.T
open Go
structure Tot {α:Type}(lt:α→α→Bool):Prop where
 irr:∀ x,lt x x=false
 trans:∀ {x y z},lt x y=true→lt y z=true→lt x z=true
 one:∀ {x y},lt x y=false→lt y x=false→x=y
theorem rising_one {α:Type}{lt:α→α→Bool}(h:Tot lt):∀ {l m:List α},l.Pairwise (fun x y=>lt x y=true)→m.Pairwise (fun x y=>lt x y=true)→(∀ x,x∈l↔x∈m)→l=m
 | [],[],_,_,_=>rfl
 | [],y :: m,_,_,hm=>absurd ((hm y).2 (by simp)) (by simp)
 | x :: l,[],_,_,hm=>absurd ((hm x).1 (by simp)) (by simp)
 | x :: l,y :: m,hl,hm,he=>by
   rw [List.pairwise_cons] at hl hm
   have no:∀ {a b},lt a b=true→lt b a=true→False:=fun h1 h2=>by
    have:=h.trans h1 h2;rw [h.irr] at this;cases this
   have e:x=y:=by
    have h1:=(he x).1 (by simp)
    have h2:=(he y).2 (by simp)
    rw [List.mem_cons] at h1 h2
    rcases h1 with h1 | h1
    ·exact h1
    ·rcases h2 with h2 | h2
     ·exact h2.symm
     ·exact (no (hm.1 x h1) (hl.1 y h2)).elim
   subst e
   refine congrArg (x :: ·) (rising_one h hl.2 hm.2 fun z=>?_)
   have hz:=he z
   rw [List.mem_cons,List.mem_cons] at hz
   constructor
   ·intro hzl
    rcases hz.1 (.inr hzl) with e | e
    ·subst e;have:=hl.1 z hzl;rw [h.irr] at this;cases this
    ·exact e
   ·intro hzm
    rcases hz.2 (.inr hzm) with e | e
    ·subst e;have:=hm.1 z hzm;rw [h.irr] at this;cases this
    ·exact e
theorem compact_upTo {α:Type} [Inhabited α] [DecidableEq α] {lt:α→α→Bool}(h:Tot lt) (zs:List α) (hs:zs.Pairwise fun x y=>lt y x=false) :
  ∀ m,m≤zs.length→(Lib.compactUpTo zs.toArray m).Pairwise (fun x y=>lt x y=true)∧(∀ x,x∈Lib.compactUpTo zs.toArray m↔x∈zs.take m)
 | 0,_=>by simp [Lib.compactUpTo]
 | m+1,hm=>by
   obtain ⟨h1,h2⟩:=compact_upTo h zs hs m (by omega)
   have hg:zs[m]?=some zs[m]:=List.getElem?_eq_getElem (by omega)
   have hd:zs.toArray[m]! = zs[m]:=by rw [getElem!_pos zs.toArray m (by simp;omega)];simp
   rw [Lib.compactUpTo_succ,hd]
   have hmem:∀ x,x∈zs.take (m+1)↔x∈zs.take m∨x=zs[m]:=fun x=>by
    rw [List.take_add_one,hg,List.mem_append];simp
   by_cases hk:Lib.keeps zs.toArray m=true
   ·rw [if_pos hk]
    refine ⟨?_,fun x=>by rw [List.mem_append,h2,hmem];simp⟩
    rw [List.pairwise_append]
    refine ⟨h1,by simp,fun x hx y hy=>?_⟩
    rw [List.mem_singleton] at hy
    subst hy
    rw [h2] at hx
    obtain ⟨j,hj,rfl⟩:=List.getElem_of_mem hx
    rw [List.length_take] at hj
    rw [List.getElem_take]
    have hp:=List.pairwise_iff_getElem.1 hs
    cases hl:lt zs[j] zs[m] with
    | true=>rfl
    | false=>
      have e:=h.one hl (hp j m (by omega) (by omega) (by omega))
      have m0:m≠0:=by omega
      have e2:zs[m-1]'(by omega)=zs[m]:=by
       by_cases hj2:j=m-1
       ·subst hj2;exact e
       ·refine h.one ?_ (hp (m-1) m (by omega) (by omega) (by omega))
        cases hl2:lt (zs[m-1]'(by omega)) zs[m] with
        | false=>rfl
        | true=>
          have:=hp j (m-1) (by omega) (by omega) (by omega)
          rw [e,hl2] at this
          cases this
      have hd2:zs.toArray[m-1]! = zs[m-1]'(by omega):=by rw [getElem!_pos zs.toArray (m-1) (by simp;omega)];simp
      simp only [Lib.keeps,hd,hd2,e2] at hk
      simp [m0] at hk
   ·rw [if_neg hk,List.append_nil]
    refine ⟨h1,fun x=>?_⟩
    rw [h2,hmem]
    constructor
    ·exact .inl
    ·rintro (hx | rfl)
     ·exact hx
     ·have m0:m≠0:=by rintro rfl;simp [Lib.keeps] at hk
      have hd2:zs.toArray[m-1]! = zs[m-1]'(by omega):=by rw [getElem!_pos zs.toArray (m-1) (by simp;omega)];simp
      simp only [Lib.keeps,hd,hd2] at hk
      have e2:zs[m]=zs[m-1]'(by omega):=by
       by_cases e:zs[m]=zs[m-1]'(by omega)
       ·exact e
       ·simp [m0,e] at hk
      rw [e2]
      refine List.mem_iff_getElem.2 ⟨m-1,by rw [List.length_take];omega,by rw [List.getElem_take]⟩
theorem compact_rising {α:Type} [Inhabited α] [DecidableEq α] {lt:α→α→Bool}(h:Tot lt) (zs:List α) (hs:zs.Pairwise fun x y=>lt y x=false) :
  (Lib.compact zs).Pairwise (fun x y=>lt x y=true)∧∀ x,x∈Lib.compact zs↔x∈zs:=by
 have:=compact_upTo h zs hs zs.length (Nat.le_refl _)
 rw [List.take_length] at this
 exact this
end Go.Proofs.YtehfpjcclknipaaGreatDoor.T
namespace Go.Proofs.YtehfpjcclknipaaGreatDoor.T
open Go.RowKit Go.Maps Go.Sort
theorem bl_total {a b:List UInt8}:Op.bytesLess a b=false→Op.bytesLess b a=false→a=b:=by
 induction a generalizing b with
 | nil=>
   cases b with
   | nil=>intros;rfl
   | cons y b=>intro h;simp [Op.bytesLess] at h
 | cons x a ih=>
   cases b with
   | nil=>intro _ h;simp [Op.bytesLess] at h
   | cons y b=>
     intro h1 h2
     simp only [Op.bytesLess,Bool.or_eq_false_iff,decide_eq_false_iff_not,Bool.and_eq_false_iff,beq_eq_false_iff_ne] at h1 h2
     have e:x=y:=UInt8.le_antisymm (UInt8.not_lt.1 h2.1) (UInt8.not_lt.1 h1.1)
     subst e
     rcases h1.2 with h | h
     ·exact absurd rfl h
     ·rcases h2.2 with h' | h'
      ·exact absurd rfl h'
      ·rw [ih h h']
theorem ltL_total {x y:List (List UInt8)}:ltL x y=false→ltL y x=false→x=y:=by
 induction x generalizing y with
 | nil=>
   cases y with
   | nil=>intros;rfl
   | cons b y=>intro h;simp [ltL] at h
 | cons a x ih=>
   cases y with
   | nil=>intro _ h;simp [ltL] at h
   | cons b y=>
     intro h1 h2
     simp only [ltL,Bool.or_eq_false_iff,Bool.and_eq_false_iff,beq_eq_false_iff_ne] at h1 h2
     have e:=bl_total h1.1 h2.1
     subst e
     rcases h1.2 with h | h
     ·exact absurd rfl h
     ·rcases h2.2 with h' | h'
      ·exact absurd rfl h'
      ·rw [ih h h']
def ltP (x y:List UInt8):Bool:=ltL (prt x) (prt y)
theorem totP:Tot ltP:=⟨fun _=>ltL_irr _,fun h1 h2=>ltL_trans h1 h2,fun h1 h2=>prt_inj (ltL_total h1 h2)⟩
theorem ltL_parted (x u v:List (List UInt8)) {a b:List UInt8}(h:Op.bytesLess a b=true):ltL (x++a :: u) (x++b :: v)=true:=by
 induction x with
 | nil=>simp [ltL,h]
 | cons c r ih=>simp [ltL,ih]
theorem ltL_more (x u:List (List UInt8)) (a:List UInt8):ltL x (x++a :: u)=true:=by
 induction x with
 | nil=>rfl
 | cons c r ih=>simp [ltL,ih]
def under (p q:List UInt8):Prop:=∃ a u,prt q=prt p++a :: u
theorem under_kid {ns:List Nd}(hO:OkTo (entsN ns) ns.length) {p:List UInt8}{y:Nd}(hy:y∈ns):under p y.p↔∃ k∈kidsX ns p,y=k∨under k.p y.p:=by
 constructor
 ·rintro ⟨a,u,e⟩
  obtain ⟨kz,hkz,_,hez⟩:=nd_at hy
  obtain ⟨qa,ae,hqa,hae,hpa⟩:=ancestor hO (by simp [entsN]) kz y.ent ((prt p).length+1) hkz hez (by omega) (by show _≤(prt y.p).length;rw [e];simp)
  obtain ⟨k,hk,rfl⟩:=nd_get hae
  have e2:prt k.p=prt p++[a]:=by
   show prt k.ent.path.data.toList=_
   rw [hpa]
   show (prt y.p).take _=_
   rw [e,List.take_append,List.take_of_length_le (by omega),show (prt p).length+1-(prt p).length=1 from by omega]
   rfl
  have hup:=nd_up hO hk
  rw [e2] at hup
  have h3:=List.append_inj' hup rfl
  refine ⟨k,?_,?_⟩
  ·rw [kidsX,List.mem_filter]
   exact ⟨hk,by simpa using (prt_inj h3.1).symm⟩
  ·cases u with
   | nil=>
     left
     obtain ⟨kk,hkk,h5,hek⟩:=nd_at hk
     obtain ⟨ky,hky,h6,hey⟩:=nd_at hy
     have e6:k.p=y.p:=prt_inj (by rw [e2,e])
     have:=path_inj hO hkk hky hek hey e6
     subst this
     rw [h5] at h6
     cases h6
     rfl
   | cons b u=>exact .inr ⟨b,u,by rw [e,e2];simp⟩
 ·rintro ⟨k,hk,h⟩
  have hk':=kidsX_mem hk
  have hup:=nd_up hO hk'.1
  rw [hk'.2] at hup
  rcases h with rfl | ⟨a,u,e⟩
  ·exact ⟨nameOf y.p,[],hup⟩
  ·exact ⟨nameOf k.p,a :: u,by rw [e,hup];simp⟩
def preX (ns:List Nd):Nat→Nd→List Nd
 | 0,_=>[]
 | f+1,x=>x :: ((kidsX ns x.p).map (preX ns f)).flatten
def underB (p q:List UInt8):Bool:=(prt p).isPrefixOf (prt q)&&decide ((prt p).length<(prt q).length)
theorem underB_iff {p q:List UInt8}:underB p q=true↔under p q:=by
 rw [underB,Bool.and_eq_true,List.isPrefixOf_iff_prefix,decide_eq_true_iff]
 constructor
 ·rintro ⟨⟨t,e⟩,h⟩
  cases t with
  | nil=>rw [List.append_nil] at e;rw [e] at h;omega
  | cons a u=>exact ⟨a,u,e.symm⟩
 ·rintro ⟨a,u,e⟩
  exact ⟨⟨a :: u,e.symm⟩,by rw [e];simp⟩
def downX (ns:List Nd) (p:List UInt8):List Nd:=ns.filter fun y=>underB p y.p
theorem downX_mem {ns:List Nd}{p:List UInt8}{y:Nd}:y∈downX ns p↔y∈ns∧under p y.p:=by
 rw [downX,List.mem_filter,underB_iff]
theorem ndLt_one {ns:List Nd}(hO:OkTo (entsN ns) ns.length):∀ {l m:List Nd},l.Pairwise (fun x y=>ltP x.p y.p=true)→m.Pairwise (fun x y=>ltP x.p y.p=true)→(∀ x∈l,x∈ns)→(∀ x∈m,x∈ns)→(∀ x,x∈l↔x∈m)→l=m:=by
 intro l m h1 h2 h3 h4 h5
 have e:l.map Nd.p=m.map Nd.p:=rising_one totP (List.pairwise_map.2 h1) (List.pairwise_map.2 h2) fun q=>by
  simp only [List.mem_map,h5]
 have hl:l.length=m.length:=by simpa using congrArg List.length e
 refine List.ext_getElem hl fun i hi hj=>?_
 have e2:(l[i]).p=(m[i]).p:=by
  have:=congrArg (fun t:List (List UInt8)=>t[i]?) e
  simpa [hi,hj] using this
 obtain ⟨ka,ha,h6,hea⟩:=nd_at (h3 _ (List.getElem_mem hi))
 obtain ⟨kb,hb,h7,heb⟩:=nd_at (h4 _ (List.getElem_mem hj))
 have:=path_inj hO ha hb hea heb e2
 subst this
 rw [h6] at h7
 exact Option.some.inj h7
theorem down_kids {ns:List Nd}(hO:OkTo (entsN ns) ns.length) (p:List UInt8):((kidsX ns p).map fun k=>k :: downX ns k.p).flatten=downX ns p:=by
 have hsub:∀ q,∀ x∈downX ns q,x∈ns:=fun q x hx=>(downX_mem.1 hx).1
 have hord:∀ q,(downX ns q).Pairwise fun x y=>ltP x.p y.p=true:=fun q=>(ns_ord hO).filter _
 refine ndLt_one hO ?_ (hord p) ?_ (hsub p) ?_
 ·rw [List.pairwise_flatten]
  constructor
  ·intro l hl
   obtain ⟨k,hk,rfl⟩:=List.mem_map.1 hl
   rw [List.pairwise_cons]
   refine ⟨fun y hy=>?_,hord _⟩
   obtain ⟨_,a,u,e⟩:=downX_mem.1 hy
   show ltL _ _=true
   rw [e];exact ltL_more _ _ _
  ·rw [List.pairwise_map]
   refine List.Pairwise.imp_of_mem (fun {k1 k2} h1 h2 hl=>?_) (kids_ord hO p)
   intro x hx y hy
   have hk1:=kidsX_mem h1
   have hk2:=kidsX_mem h2
   have u1:=nd_up hO hk1.1
   have u2:=nd_up hO hk2.1
   rw [hk1.2] at u1
   rw [hk2.2] at u2
   have fx:∀ {k z:Nd},z∈k :: downX ns k.p→∃ u,prt z.p=prt k.p++u:=fun {k z} hz=>by
    rcases List.mem_cons.1 hz with rfl | hz
    ·exact ⟨[],by simp⟩
    ·obtain ⟨_,a,u,e⟩:=downX_mem.1 hz
     exact ⟨a :: u,e⟩
   obtain ⟨u,eu⟩:=fx hx
   obtain ⟨v,ev⟩:=fx hy
   show ltL _ _=true
   rw [eu,ev,u1,u2,List.append_assoc,List.append_assoc]
   exact ltL_parted _ _ _ hl
 ·intro x hx
  obtain ⟨l,hl,hx⟩:=List.mem_flatten.1 hx
  obtain ⟨k,hk,rfl⟩:=List.mem_map.1 hl
  rcases List.mem_cons.1 hx with rfl | hx
  ·exact (kidsX_mem hk).1
  ·exact hsub _ x hx
 ·intro x
  constructor
  ·intro hx
   obtain ⟨l,hl,hx⟩:=List.mem_flatten.1 hx
   obtain ⟨k,hk,rfl⟩:=List.mem_map.1 hl
   have hxn:x∈ns:=by
    rcases List.mem_cons.1 hx with rfl | hx
    ·exact (kidsX_mem hk).1
    ·exact hsub _ x hx
   refine downX_mem.2 ⟨hxn,(under_kid hO hxn).2 ⟨k,hk,?_⟩⟩
   rcases List.mem_cons.1 hx with rfl | hx
   ·exact .inl rfl
   ·exact .inr (downX_mem.1 hx).2
  ·intro hx
   obtain ⟨hxn,hu⟩:=downX_mem.1 hx
   obtain ⟨k,hk,h⟩:=(under_kid hO hxn).1 hu
   refine List.mem_flatten.2 ⟨k :: downX ns k.p,List.mem_map.2 ⟨k,hk,rfl⟩,?_⟩
   rcases h with rfl | h
   ·simp
   ·exact List.mem_cons_of_mem _ (downX_mem.2 ⟨hxn,h⟩)
theorem pre_down {es:List Ent}{ns:List Nd}(hE:entsN ns=es) (hO:OkTo es es.length):∀ (f:Nat) (x:Nd),Deep es f x.ent→preX ns f x=x :: downX ns x.p
 | 0,x,h=>absurd rfl (deep_pos h)
 | f+1,x,h=>by
   have hlen:ns.length=es.length:=by rw [←hE];simp [entsN]
   have hO':OkTo (entsN ns) ns.length:=by rw [hE,hlen];exact hO
   rw [preX,←down_kids hO' x.p]
   refine congrArg (fun t:List (List Nd)=>x :: t.flatten) (List.map_congr_left fun k hk=>?_)
   refine pre_down hE hO f k (deep_kid hO h ?_)
   rw [←hE]
   show k.ent∈kidsE (entsN ns) x.p
   rw [kidsE_eq]
   exact List.mem_map.2 ⟨k,hk,rfl⟩
theorem pre_root {es:List Ent}{ns:List Nd}(hE:entsN ns=es) (hO:OkTo es es.length) {r:Nd}(hr:r.ent=rootE):preX ns (es.length+1) r=r :: ns:=by
 rw [pre_down hE hO _ r (by rw [hr];exact deep_root es)]
 refine congrArg (r :: ·) ?_
 rw [downX,List.filter_eq_self]
 intro y hy
 have hr0:r.p=[]:=by rw [Nd.p,hr];rfl
 have h0:y.p≠[]:=by
  obtain ⟨k,hk,_,he⟩:=nd_at hy
  rw [hE] at he
  exact (ent_parts (ok_parts he (hO k (by rw [←hE];simpa [entsN] using hk))).ent).1
 have:prt y.p≠[]:=prt_some h0
 obtain ⟨a,u,h⟩:∃ a u,prt y.p=a :: u:=by
  cases h:prt y.p with
  | nil=>exact absurd h this
  | cons a u=>exact ⟨a,u,rfl⟩
 have hu:under r.p y.p:=⟨a,u,by rw [h,hr0,prt_nil];rfl⟩
 exact underB_iff.2 hu
end Go.Proofs.YtehfpjcclknipaaGreatDoor.T
namespace Go.Proofs.YtehfpjcclknipaaGreatDoor.T
open Go.RowKit
def eqE (a b:Ent):Bool:=a.path.toList==b.path.toList&&(a.kind==b.kind&&(a.mode==b.mode&&a.data.toList==b.data.toList))
theorem eqE_iff {a b:Ent}:eqE a b=true↔a=b:=by
 obtain ⟨⟨⟨p⟩⟩,k,m,⟨⟨d⟩⟩⟩:=a
 obtain ⟨⟨⟨q⟩⟩,k',m',⟨⟨e⟩⟩⟩:=b
 simp [eqE,Lib.toList_data]
def entV (e:Ent):Array Value:=#[.string e.path,.int .i64 e.kind,.int .i64 e.mode,.string e.data]
theorem fields49:Tryz.prog.fieldsOf 38=Tryz.prog.fieldsOf 37:=by kernel_rfl
theorem fields38:(Tryz.prog.fieldsOf 37).toList.map (fun f=>(f.name,f.type,f.offset))=[("Path",9,0),("Kind",3,1),("Mode",3,2),("Data",9,3)]:=by kernel_rfl
theorem four_of {l:List Field}{a b c d:String × TypeId × Nat}(h:l.map (fun f=>(f.name,f.type,f.offset))=[a,b,c,d]):∃ f1 f2 f3 f4:Field,l=[f1,f2,f3,f4]∧(f1.name=a.1∧f1.type=a.2.1∧f1.offset=a.2.2)∧(f2.name=b.1∧f2.type=b.2.1∧f2.offset=b.2.2)∧(f3.name=c.1∧f3.type=c.2.1∧f3.offset=c.2.2)∧(f4.name=d.1∧f4.type=d.2.1∧f4.offset=d.2.2):=by
 match l,h with
 | [f1,f2,f3,f4],h=>
   simp only [List.map_cons,List.map_nil,List.cons.injEq,and_true] at h
   obtain ⟨rfl,rfl,rfl,rfl⟩:=h
   exact ⟨f1,f2,f3,f4,rfl,⟨rfl,rfl,rfl⟩,⟨rfl,rfl,rfl⟩,⟨rfl,rfl,rfl⟩,⟨rfl,rfl,rfl⟩⟩
theorem eqFields38 (a b:Ent) (w:World):(Op.eqFields 9999 (entV a) (entV b) (Tryz.prog.fieldsOf 37).toList).run Tryz.prog w=.ok (eqE a b) w:=by
 obtain ⟨f1,f2,f3,f4,he,⟨n1,t1,o1⟩,⟨n2,t2,o2⟩,⟨n3,t3,o3⟩,⟨n4,t4,o4⟩⟩:=four_of fields38
 rw [he]
 simp only [Op.eqFields,n1,n2,n3,n4,t1,t2,t3,t4,o1,o2,o3,o4,entV]
 have u9:=Tryz.underlying9
 have u3:=Tryz.underlying3
 cases h1:(a.path.toList==b.path.toList)
 ·simp [go_sem,part,u9,h1,eqE,Result.andThen]
 ·cases h2:(a.kind==b.kind)
  ·simp [go_sem,part,u9,u3,h1,h2,eqE,Result.andThen]
  ·cases h3:(a.mode==b.mode)
   ·simp [go_sem,part,u9,u3,h1,h2,h3,eqE,Result.andThen]
   ·cases h4:(a.data.toList==b.data.toList)
    ·simp [go_sem,part,u9,u3,h1,h2,h3,h4,eqE,Result.andThen]
    ·simp [go_sem,part,u9,u3,h1,h2,h3,h4,eqE,Result.andThen]
theorem struct49:Tryz.prog.underlying 38=some (.struct (Tryz.prog.fieldsOf 38)):=by kernel_rfl
theorem stood49:Tryz.prog.stoodInHeld 38=false:=by kernel_rfl
set_option maxRecDepth 100000 in
theorem eql49 (a b:Ent) (w:World):(binOp .eql 38 (.agg #[.string a.path,.int .i64 a.kind,.int .i64 a.mode,.string a.data]) (.agg #[.string b.path,.int .i64 b.kind,.int .i64 b.mode,.string b.data])).run Tryz.prog w=.ok (.bool (eqE a b)) w:=by
 rw [run_eql_struct,run_equalIn_struct w 9999 38 _ _ struct49 stood49,fields49]
 have h:=eqFields38 a b w
 unfold entV at h
 rw [h]
 rfl
end Go.Proofs.YtehfpjcclknipaaGreatDoor.T
