import Derived.Test.YtehfpjcclknipaaGreatDoorJPlain
import Derived.Lib.Strings
import Derived.Lib.Slices
import Derived.Lib.Walk
import Derived.Lib.Bytealg
namespace Go.Proofs.YtehfpjcclknipaaGreatDoor
open Go.RowKit
structure Prt where
 text:ByteArray
 isVar:Bool
 place:Int
def Prt.cells (p:Prt):List Value:=[.string p.text,.bool p.isVar,.int .i64 p.place]
def prC (l:List Prt):List Value:=(l.map Prt.cells).flatten
theorem prC_len (l:List Prt):(prC l).length=l.length*3:=by
 induction l with
 | nil=>rfl
 | cons a r ih=>simp only [prC,List.map_cons,List.flatten_cons,List.length_append,List.length_cons] at ih ⊢;rw [ih];simp [Prt.cells];omega
theorem prC_snoc (l:List Prt) (a:Prt):prC (l++[a])=prC l++a.cells:=by simp [prC]
theorem pr_one (a:Prt):∀ u∈a.cells,u.oneCell'=true:=fun u hu=>by
 simp only [Prt.cells,List.mem_cons,List.not_mem_nil,or_false] at hu
 rcases hu with rfl | rfl | rfl <;> rfl
theorem info167:(Tryz.prog.info? 217).map (fun i=>(i.zero,i.size,i.bytes))=some (some (.agg #[.string ByteArray.empty,.bool false,.int .i64 0]),3,32):=by kernel_rfl
theorem info_parts {P:Program}{t:TypeId}{z:Option Value}{a b:Nat}(h:(P.info? t).map (fun i=>(i.zero,i.size,i.bytes))=some (z,a,b)):∃ i,P.info? t=some i∧i.zero=z∧i.size=a∧i.bytes=b:=by
 cases hi:P.info? t with
 | none=>rw [hi] at h;cases h
 | some i=>
   rw [hi] at h
   simp only [Option.map_some,Option.some.injEq,Prod.mk.injEq] at h
   exact ⟨i,rfl,h.1,h.2.1,h.2.2⟩
structure Wrd (w:World) (B wb:Nat) (pl:Int) (v:Value) (ps:List Prt):Prop where
 cells:w.heap[wb]?=some (.cells #[.int .i64 pl,v] 162 (0,0))
 row:w.ownsRow B 217 3 v ps.length (prC ps)
 base:B≤wb
 nil:ps=[]→v=.slice none 0 0
theorem Wrd.ne {w:World}{B wb:Nat}{pl:Int}{v:Value}{ps:List Prt}(h:Wrd w B wb pl v ps):v.ownBlock≠some wb:=by
 rintro e
 rcases h.row.2 with ⟨rfl,_⟩ | ⟨g,cap,cur,rfl,_,hg,_⟩
 ·cases e
 ·obtain rfl:g=wb:=by simpa [Value.ownBlock] using e
  have:=h.cells
  rw [hg] at this;cases this
theorem Wrd.lt {w:World}{B wb:Nat}{pl:Int}{v:Value}{ps:List Prt}(h:Wrd w B wb pl v ps):wb<w.heap.size:=(Array.getElem?_eq_some_iff.1 h.cells).1
theorem row_same {w w':World}{B e z n:Nat}{v:Value}{xs:List Value}(h:w.ownsRow B e z v n xs) (hk:∀ k,v.ownBlock=some k→w'.heap[k]?=w.heap[k]?):w'.ownsRow B e z v n xs:=by
 refine ⟨h.1,?_⟩
 rcases h.2 with h0 | ⟨g,cap,cur,hv,h1,h2,h3⟩
 ·exact .inl h0
 ·refine .inr ⟨g,cap,cur,hv,h1,(hk g ?_).trans h2,h3⟩
  rw [hv];rfl
theorem Wrd.same {w w':World}{B wb:Nat}{pl:Int}{v:Value}{ps:List Prt}(h:Wrd w B wb pl v ps) (hk:∀ k,k=wb∨v.ownBlock=some k→w'.heap[k]?=w.heap[k]?):Wrd w' B wb pl v ps:=
 ⟨(hk wb (.inl rfl)).trans h.cells,row_same h.row fun k e=>hk k (.inr e),h.base,h.nil⟩
theorem Wrd.tb {w w':World}{B wb rb:Nat}{pl:Int}{v:Value}{ps:List Prt}(h:Wrd w B wb pl v ps) (hb:Tb w.heap.size rb w w') (hr:rb<B):Wrd w' B wb pl v ps:=
 h.same fun k e=>hb.block k (by
  rcases e with rfl | e
  ·exact h.lt
  ·exact (World.ownsRow.lt h.row k e).2) (by
  rcases e with rfl | e
  ·have:=h.base;omega
  ·have:=(World.ownsRow.lt h.row k e).1;omega)
theorem wrd_snoc {w w1:World}{o:Obj}{B wb:Nat}{pl:Int}{v v':Value}{ps:List Prt}{p:Prt}(h:Wrd w B wb pl v ps) (hB:B≤w.heap.size) (hown:w1.ownsRow B 217 3 v' (ps.length+1) (prC ps++p.cells)) (hg:(w.alloc o).grownBy w1 v.ownBlock) :
  Wrd (w1.setCell ⟨wb,1,none⟩ v') B wb pl v' (ps++[p])∧Below B w (w1.setCell ⟨wb,1,none⟩ v'):=by
 have hc:w1.heap[wb]?=some (.cells #[.int .i64 pl,v] 162 (0,0)):=
  (hg.block wb (by have:=h.lt;simp;omega) (fun e=>h.ne e.symm)).trans ((Below.heap_alloc _ _ _ h.lt).trans h.cells)
 have hb:Below B w w1:=((Below.refl B w).alloc hB o).grown hg (by simp;omega) (fun q hq=>(World.ownsRow.lt h.row q hq).1)
 have hb2:Below B w (w1.setCell ⟨wb,1,none⟩ v'):=hb.setCell (p:=⟨wb,1,none⟩) h.base _
 refine ⟨⟨heap_setCell_same _ _ 1 _ _ _ hc,?_,h.base,by simp⟩,hb2⟩
 rw [prC_snoc,List.length_append]
 refine row_same hown fun k hk=>Below.heap_setCell _ _ _ _ (fun e=>?_)
 obtain rfl:k=wb:=e
 rcases hown.2 with ⟨rfl,_⟩ | ⟨g,cap,cur,rfl,_,hg',_⟩
 ·cases hk
 ·obtain rfl:g=k:=by simpa [Value.ownBlock] using hk
  rw [hg'] at hc;cases hc
set_option maxHeartbeats 1000000 in
set_option maxRecDepth 10000 in
theorem addVar_any (B wb:Nat) (pl:Int) (v:Value) (ps:List Prt) (n:ByteArray) (k:Int) (w:World) (h:Wrd w B wb pl v ps) (hB:B≤w.heap.size) (hn:ps.length≤1000000) :
  Calls Tryz.prog 185 #[.pointer (some ⟨wb,0,none⟩),.string n,.int .i64 k] w fun ev w'=>ev=.returned (.tuple #[])∧(∃ v',Wrd w' B wb pl v' (ps++[⟨n,true,k⟩]))∧Below B w w':=by
 obtain ⟨i0,hi,hz0,hz1,hz2⟩:=info_parts info167
 have hwl:=h.lt
 have c1:w.cell? ⟨wb,1,none⟩=some v:=cq 1 h.cells
 have HP:=hide h
 have HR:=hide (h.row.alloc (.cells #[.string n,.bool true,.int .i64 k] 217))
 have HX:=hide (fun (w1:World) (hg:(w.alloc (.cells #[.string n,.bool true,.int .i64 k] 217)).grownBy w1 v.ownBlock)=>(hg.block wb (by simp;omega) (fun e=>h.ne e.symm)).trans ((Below.heap_alloc _ _ _ hwl).trans h.cells))
 clear h
 go_enter Tryz.func185,Tryz.ntmps185
 go_wp2_with (at_builtin;refine wpList_append_own _ rfl _ _ 160 rfl B 217 i0 _ 3 32 Tryz.underlying160 hi hz0 hz1 hz2 rfl (by decide) v ps.length (prC ps) rfl (uh HR) ⟨w.heap.size,0,none⟩ 1 1 [.string n,.bool true,.int .i64 k] rfl rfl (World.news_of_block (cs:=#[.string n,.bool true,.int .i64 k]) (t:=217) (fr:=(0,0)) (heap_alloc_new _ _)) (pr_one ⟨n,true,k⟩) (by unfold maxLen;omega) (by omega) (by simp;omega) ?_;intro v6 w6 hown6 hgrow6 _;obtain ⟨g6,cp6,rfl,_,_⟩:=World.ownsRow.form hown6 (by omega);have hs1:=uh HX w6 hgrow6;have k2:w6.cell? ⟨wb,1,none⟩=some v:=cq 1 hs1;have f2:w6.frozen? ⟨wb,1,none⟩=false:=(by simp [World.frozen?,hs1]);have HO:=hide hown6;clear hown6 hs1)
 go_end0
 have:=wrd_snoc (uh HP) hB (p:=⟨n,true,k⟩) (uh HO) hgrow6
 exact ⟨rfl,⟨_,this.1⟩,this.2⟩
def addT (ps:List Prt) (t:ByteArray):List Prt:=match ps.getLast? with
 | some p=>if p.isVar=true then ps++[⟨t,false,0⟩] else ps.dropLast++[⟨p.text++t,false,p.place⟩]
 | none=>ps++[⟨t,false,0⟩]
theorem addT_new {ps:List Prt}{t:ByteArray}(h:∀ p,ps.getLast?=some p→p.isVar=true):addT ps t=ps++[⟨t,false,0⟩]:=by
 unfold addT
 cases hp:ps.getLast? with
 | none=>rfl
 | some p=>simp [h p hp]
theorem addT_on {qs:List Prt}{p:Prt}{t:ByteArray}(h:p.isVar=false):addT (qs++[p]) t=qs++[⟨p.text++t,false,p.place⟩]:=by
 unfold addT
 simp [h]
theorem last_cases (ps:List Prt):(ps=[]∨∃ qs p,ps=qs++[p]∧p.isVar=true)∨∃ qs p,ps=qs++[p]∧p.isVar=false:=by
 rcases List.eq_nil_or_concat ps with h | ⟨qs,p,h⟩
 ·exact .inl (.inl h)
 ·rw [List.concat_eq_append] at h
  cases hp:p.isVar with
  | true=>exact .inl (.inr ⟨qs,p,h,hp⟩)
  | false=>exact .inr ⟨qs,p,h,hp⟩
theorem prC_at (qs:List Prt) (p:Prt):(prC (qs++[p]))[qs.length*3]?=some (.string p.text)∧(prC (qs++[p]))[qs.length*3+1]?=some (.bool p.isVar):=by
 rw [prC_snoc,←prC_len]
 refine ⟨?_,?_⟩
 ·rw [List.getElem?_append_right (Nat.le_refl _)];simp [Prt.cells]
 ·rw [List.getElem?_append_right (by omega)];simp [Prt.cells]
theorem prC_set (qs:List Prt) (p:Prt) (t:ByteArray):(prC (qs++[p])).set (qs.length*3) (.string t)=prC (qs++[⟨t,p.isVar,p.place⟩]):=by
 rw [prC_snoc,prC_snoc,←prC_len,List.set_append_right _ _ (Nat.le_refl _)]
 simp [Prt.cells]
set_option maxHeartbeats 1000000 in
set_option maxRecDepth 10000 in
theorem addText_new (B wb:Nat) (pl:Int) (v:Value) (ps:List Prt) (t:ByteArray) (w:World) (h:Wrd w B wb pl v ps) (hB:B≤w.heap.size) (hn:ps.length≤1000000) (hc:ps=[]∨∃ qs p,ps=qs++[p]∧p.isVar=true) :
  Calls Tryz.prog 186 #[.pointer (some ⟨wb,0,none⟩),.string t] w fun ev w'=>ev=.returned (.tuple #[])∧(∃ v',Wrd w' B wb pl v' (ps++[⟨t,false,0⟩]))∧Below B w w':=by
 obtain ⟨i0,hi,hz0,hz1,hz2⟩:=info_parts info167
 have hwl:=h.lt
 have c1:w.cell? ⟨wb,1,none⟩=some v:=cq 1 h.cells
 have HP:=hide h
 have HR:=hide (h.row.alloc (.cells #[.string t,.bool false,.int .i64 0] 217))
 have HX:=hide (fun (w1:World) (hg:(w.alloc (.cells #[.string t,.bool false,.int .i64 0] 217)).grownBy w1 v.ownBlock)=>(hg.block wb (by simp;omega) (fun e=>h.ne e.symm)).trans ((Below.heap_alloc _ _ _ hwl).trans h.cells))
 rcases hc with rfl | ⟨qs,p,rfl,hp⟩
 ·obtain rfl:=h.nil rfl
  clear h
  go_enter Tryz.func186,Tryz.ntmps186
  go_upto_region 3 with fail
  go_wp2_with (at_builtin;refine wpList_append_own _ rfl _ _ 160 rfl B 217 i0 _ 3 32 Tryz.underlying160 hi hz0 hz1 hz2 rfl (by decide) (.slice none 0 0) (0) (prC []) rfl (uh HR) ⟨w.heap.size,0,none⟩ 1 1 [.string t,.bool false,.int .i64 0] rfl rfl (World.news_of_block (cs:=#[.string t,.bool false,.int .i64 0]) (t:=217) (fr:=(0,0)) (heap_alloc_new _ _)) (pr_one ⟨t,false,0⟩) (by unfold maxLen;omega) (by omega) (by simp;omega) ?_;intro v6 w6 hown6 hgrow6 _;obtain ⟨g6,cp6,rfl,_,_⟩:=World.ownsRow.form hown6 (by omega);have hs1:=uh HX w6 hgrow6;have k2:w6.cell? ⟨wb,1,none⟩=some (.slice none 0 0):=cq 1 hs1;have f2:w6.frozen? ⟨wb,1,none⟩=false:=(by simp [World.frozen?,hs1]);have HO:=hide hown6;clear hown6 hs1)
  go_end0
  have:=wrd_snoc (uh HP) hB (p:=⟨t,false,0⟩) (uh HO) hgrow6
  exact ⟨rfl,⟨_,this.1⟩,this.2⟩
 ·obtain ⟨g,cap,rfl,_,_⟩:=World.ownsRow.form h.row (by simp)
  have q1:w.cell? ⟨g,qs.length*3+1,none⟩=some (.bool true):=by
   rw [World.ownsRow.cellAt h.row _ (by simp;omega),(prC_at qs p).2,hp]
  have hl:(qs++[p]).length=qs.length+1:=by simp
  have HL:=hide hl
  clear h
  rw [hl] at c1 HP HR HX hn
  clear hl
  go_enter Tryz.func186,Tryz.ntmps186
  go_upto_region 3 with fail
  go_wp2_with (at_builtin;refine wpList_append_own _ rfl _ _ 160 rfl B 217 i0 _ 3 32 Tryz.underlying160 hi hz0 hz1 hz2 rfl (by decide) (.slice (some ⟨g,0,none⟩) (qs.length+1) cap) (qs.length+1) (prC (qs++[p])) rfl (uh HR) ⟨w.heap.size,0,none⟩ 1 1 [.string t,.bool false,.int .i64 0] rfl rfl (World.news_of_block (cs:=#[.string t,.bool false,.int .i64 0]) (t:=217) (fr:=(0,0)) (heap_alloc_new _ _)) (pr_one ⟨t,false,0⟩) (by unfold maxLen;omega) (by omega) (by simp;omega) ?_;intro v6 w6 hown6 hgrow6 _;obtain ⟨g6,cp6,rfl,_,_⟩:=World.ownsRow.form hown6 (by omega);have hs1:=uh HX w6 hgrow6;have k2:w6.cell? ⟨wb,1,none⟩=some (.slice (some ⟨g,0,none⟩) (qs.length+1) cap):=cq 1 hs1;have f2:w6.frozen? ⟨wb,1,none⟩=false:=(by simp [World.frozen?,hs1]);have HO:=hide hown6;clear hown6 hs1)
  go_end0
  have HO':w6.ownsRow B 217 3 (.slice (some ⟨g6,0,none⟩) (qs.length+1+1) cp6) ((qs++[p]).length+1) (prC (qs++[p])++(⟨t,false,0⟩:Prt).cells):=by
   rw [uh HL];exact uh HO
  have:=wrd_snoc (uh HP) hB (p:=⟨t,false,0⟩) HO' hgrow6
  exact ⟨rfl,⟨_,this.1⟩,this.2⟩
theorem wrd_set {w:World}{B wb g cap:Nat}{pl:Int}{qs:List Prt}{p:Prt}(t:ByteArray) (h:Wrd w B wb pl (.slice (some ⟨g,0,none⟩) (qs.length+1) cap) (qs++[p])) (hp:p.isVar=false) :
  Wrd (w.setCell ⟨g,qs.length*3,none⟩ (.string t)) B wb pl (.slice (some ⟨g,0,none⟩) (qs.length+1) cap) (qs++[⟨t,false,p.place⟩])∧Below B w (w.setCell ⟨g,qs.length*3,none⟩ (.string t)):=by
 have hgb:=(World.ownsRow.lt h.row g rfl).1
 have hne:wb≠g:=fun e=>h.ne (by rw [e];rfl)
 refine ⟨⟨(Below.heap_setCell _ _ _ _ hne).trans h.cells,?_,h.base,by simp⟩,(Below.refl B w).setCell (p:=⟨g,qs.length*3,none⟩) hgb _⟩
 have hr:=h.row
 rw [show (qs++[p]).length=qs.length+1 by simp] at hr
 have:=(World.ownsRow.stored hr (qs.length*3) (.string t)).1
 rw [prC_set,hp] at this
 rw [show (qs++[(⟨t,false,p.place⟩:Prt)]).length=qs.length+1 by simp]
 exact this
set_option maxHeartbeats 1000000 in
set_option maxRecDepth 10000 in
theorem addText_on (B wb:Nat) (pl:Int) (v:Value) (qs:List Prt) (p:Prt) (t:ByteArray) (w:World) (h:Wrd w B wb pl v (qs++[p])) (hn:qs.length≤1000000) (hp:p.isVar=false) (h1:p.text.size≤1000000) (h2:t.size≤1000000) :
  Calls Tryz.prog 186 #[.pointer (some ⟨wb,0,none⟩),.string t] w fun ev w'=>ev=.returned (.tuple #[])∧(∃ v',Wrd w' B wb pl v' (qs++[⟨p.text++t,false,p.place⟩]))∧Below B w w':=by
 have c1:w.cell? ⟨wb,1,none⟩=some v:=cq 1 h.cells
 obtain ⟨g,cap,rfl,_,_⟩:=World.ownsRow.form h.row (by simp)
 have q1:w.cell? ⟨g,qs.length*3+1,none⟩=some (.bool false):=by
  rw [World.ownsRow.cellAt h.row _ (by simp;omega),(prC_at qs p).2,hp]
 have q0:w.cell? ⟨g,qs.length*3,none⟩=some (.string p.text):=by
  rw [World.ownsRow.cellAt h.row _ (by simp),(prC_at qs p).1]
 have z0:w.frozen? ⟨g,qs.length*3,none⟩=false:=World.ownsRow.frozenAt h.row _
 have hl:(qs++[p]).length=qs.length+1:=by simp
 rw [hl] at c1 h
 have HP:=hide h
 clear h hl
 go_enter Tryz.func186,Tryz.ntmps186
 go_wp2_with fail
 refine bodyPost_ret (results_none rfl _ _ _) rfl ?_
 have:=wrd_set (p.text++t) (uh HP) hp
 exact ⟨rfl,⟨_,this.1⟩,this.2⟩
theorem addText_any (B wb:Nat) (pl:Int) (v:Value) (ps:List Prt) (t:ByteArray) (w:World) (h:Wrd w B wb pl v ps) (hB:B≤w.heap.size) (hn:ps.length≤1000000) (hz:∀ p∈ps,p.isVar=false→p.text.size≤1000000) (ht:t.size≤1000000) :
  Calls Tryz.prog 186 #[.pointer (some ⟨wb,0,none⟩),.string t] w fun ev w'=>ev=.returned (.tuple #[])∧(∃ v',Wrd w' B wb pl v' (addT ps t))∧Below B w w':=by
 rcases last_cases ps with hc | ⟨qs,p,rfl,hp⟩
 ·have e:addT ps t=ps++[⟨t,false,0⟩]:=addT_new (by
   rintro q hq
   rcases hc with rfl | ⟨qs,p,rfl,hp⟩
   ·cases hq
   ·simp at hq;subst hq;exact hp)
  rw [e]
  exact addText_new B wb pl v ps t w h hB hn hc
 ·rw [addT_on hp]
  exact addText_on B wb pl v qs p t w h (by simp at hn;omega) hp (hz p (by simp) hp) ht
def bt (l:List UInt8):ByteArray:=⟨l.toArray⟩
theorem bt_of (s:ByteArray):bt s.data.toList=s:=by cases s;rfl
theorem bt_list (l:List UInt8):(bt l).data.toList=l:=by simp [bt]
theorem bt_size (l:List UInt8):(bt l).size=l.length:=by rw [Lib.size_eq,bt_list]
theorem bt_app (a b:List UInt8):bt a++bt b=bt (a++b):=by
 rw [←bt_of (bt a++bt b),ByteArray.data_append,Array.toList_append,bt_list,bt_list]
def addA (ps:List Prt):Atm→List Prt
 | .inl c=>addT ps (bt [c])
 | .inr (n, k)=>ps++[⟨bt n,true,(k:Int)⟩]
def parts (xs:List Atm):List Prt:=xs.foldl addA []
theorem parts_snoc (xs:List Atm) (a:Atm):parts (xs++[a])=addA (parts xs) a:=by simp [parts,List.foldl_append]
theorem rev_ind {α:Type}{P:List α→Prop}(h0:P []) (h1:∀ l a,P l→P (l++[a])) (l:List α):P l:=by
 have h:∀ l:List α,P l.reverse:=fun l=>by
  induction l with
  | nil=>exact h0
  | cons a r ih=>rw [List.reverse_cons];exact h1 _ _ ih
 have:=h l.reverse
 rwa [List.reverse_reverse] at this
theorem parts_le (xs:List Atm):(parts xs).length≤xs.length∧∀ p∈parts xs,p.isVar=false→p.text.size≤xs.length:=by
 induction xs using rev_ind with
 | h0=>simp [parts]
 | h1 xs a ih=>
   rw [parts_snoc,List.length_append,List.length_singleton]
   obtain ⟨i1,i2⟩:=ih
   cases a with
   | inr pA =>
     obtain ⟨n, k⟩ := pA
     refine ⟨by simp [addA];omega,fun p hp hv=>?_⟩
     rcases List.mem_append.1 hp with h | h
     ·have:=i2 p h hv;omega
     ·rw [List.mem_singleton] at h;subst h;cases hv
   | inl c =>
     rcases last_cases (parts xs) with hc | ⟨qs,q,he,hq⟩
     ·have e:addA (parts xs) (.inl c)=parts xs++[⟨bt [c],false,0⟩]:=addT_new (by
       rintro q hq
       rcases hc with h | ⟨qs,p,h,hp⟩
       ·rw [h] at hq;cases hq
       ·rw [h] at hq;simp at hq;subst hq;exact hp)
      rw [e]
      refine ⟨by simp;omega,fun p hp hv=>?_⟩
      rcases List.mem_append.1 hp with h | h
      ·have:=i2 p h hv;omega
      ·rw [List.mem_singleton] at h;subst h;show (bt [c]).size≤_;rw [bt_size];simp
     ·have e:addA (parts xs) (.inl c)=qs++[⟨q.text++bt [c],false,q.place⟩]:=by
       show addT (parts xs) (bt [c])=_
       rw [he,addT_on hq]
      rw [e]
      rw [he] at i1 i2
      refine ⟨by simp at i1 ⊢;omega,fun p hp hv=>?_⟩
      rcases List.mem_append.1 hp with h | h
      ·have:=i2 p (by simp [h]) hv;omega
      ·rw [List.mem_singleton] at h;subst h
       have:=i2 q (by simp) hq
       show (q.text++bt [c]).size≤_
       rw [ByteArray.size_append,bt_size];simp;omega
theorem ext_one (s:ByteArray) (k:Nat) (h:k<s.size):s.extract k (k+1)=bt [s[k]]:=by
 rw [←bt_of (s.extract k (k+1)),ByteArray.data_extract,Array.toList_extract,List.extract_eq_take_drop]
 rw [List.drop_eq_getElem_cons (by rw [←Lib.size_eq];exact h),show k+1-k=1 by omega]
 rfl
structure RW (w:World) (B rb wb:Nat) (s:ByteArray) (k:Nat) (pl:Int) (xs:List Atm):Prop where
 rdr:Rdr w rb s k
 wrd:∃ v,Wrd w B wb pl v (parts xs)
 rl:rb<B
 bl:B≤w.heap.size
theorem RW.drew {w:World}{B rb wb:Nat}{s:ByteArray}{k:Nat}{pl:Int}{xs:List Atm}(h:RW w B rb wb s k pl xs):RW w.drew B rb wb s k pl xs:=
 ⟨h.rdr,h.wrd.imp fun _ h'=>⟨h'.cells,h'.row,h'.base,h'.nil⟩,h.rl,h.bl⟩
theorem below0 {B:Nat}{w w1:World}(h:Below B w.drew w1):Below B w w1:=⟨h.os,h.tape,h.output,h.size,h.block⟩
theorem RW.to {w w':World}{B rb wb:Nat}{s:ByteArray}{k k':Nat}{pl:Int}{xs:List Atm}(h:RW w B rb wb s k pl xs) (ht:Tb w.heap.size rb w w') (hr:Rdr w' rb s k'):RW w' B rb wb s k' pl xs:=
 ⟨hr,h.wrd.imp fun _ h'=>h'.tb ht h.rl,h.rl,Nat.le_trans h.bl ht.size⟩
theorem RW.below {w w':World}{B rb wb:Nat}{s:ByteArray}{k:Nat}{pl:Int}{xs:List Atm}(h:RW w B rb wb s k pl xs) (ht:Below w.heap.size w w'):RW w' B rb wb s k pl xs:=
 h.to (Tb.of_below ht) (h.rdr.below ht h.rdr.lt)
set_option maxHeartbeats 1000000 in
set_option maxRecDepth 10000 in
theorem itself_any (B rb wb:Nat) (s:ByteArray) (k:Nat) (pl:Int) (xs:List Atm) (w:World) (h:RW w B rb wb s k pl xs) (hk:k<s.size) (hs:s.size≤1500) (ha:xs.length≤1500) :
  Calls Tryz.prog 147 #[.pointer (some ⟨rb,0,none⟩),.pointer (some ⟨wb,0,none⟩)] w fun ev w'=>ev=.returned (.tuple #[])∧RW w' B rb wb s (k+1) pl (xs++[.inl s[k]])∧Tb B rb w w':=by
 have h0:=h.rdr.c0
 have h1:=h.rdr.c1
 have i0:(0:Int)≤(k:Int):=by omega
 have i1:(k:Int)+1≤(s.size:Int):=by omega
 have i2:(k:Int)≤(k:Int)+1:=by omega
 have i3:IntKind.i64.wrap ((k:Int)+1)=(k:Int)+1:=by have:=wrap_i64 (k+1) (by omega);simpa using this
 have HW:=hide h
 have HA:Hid (∀ W,RW W B rb wb s k pl xs→Calls Tryz.prog 186 #[.pointer (some ⟨wb,0,none⟩),.string (s.extract k (k+1))] W fun ev w'=>ev=.returned (.tuple #[])∧(∃ v',Wrd w' B wb pl v' (parts (xs++[.inl s[k]])))∧Below B W w'):=hide (fun W h=>by
  obtain ⟨v,hv⟩:=h.wrd
  have hp:=parts_le xs
  refine (addText_any B wb pl v (parts xs) (s.extract k (k+1)) W hv h.bl (by omega) (fun p hp' hv'=>by have:=hp.2 p hp' hv';omega) (by rw [ext_one s k hk,bt_size];simp)).mono ?_
  rintro ev w' ⟨rfl,hw,hb⟩
  refine ⟨rfl,?_,hb⟩
  rw [parts_snoc]
  rw [ext_one s k hk] at hw
  exact hw)
 clear h
 go_enter Tryz.func147,Tryz.ntmps147
 go_upto_region 0 with fail
 go_region_held3 (fun w'=>w'.cell? ⟨rb,0,none⟩=some (.string s)∧w'.cell? ⟨rb,1,none⟩=some (.int .i64 (k:Int)))
  (first | exact ⟨p0,p1⟩ | exact ⟨h0,h1⟩ | go_keep)
  (first | (go_at_call 186;refine (uh HA _ (by first | exact (uh HW).drew | exact uh HW | exact (uh HW).drewN _)).mono ?_;rintro ev w1 ⟨rfl,hW1,hb1'⟩;have hb1:Below B w w1:=(by first | exact hb1' | exact below0 hb1');have HR1:=hide ((uh HW).rdr.below hb1 (uh HW).rl);have p0:=(uh HR1).c0;have p1:=(uh HR1).c1;have z1:=(uh HR1).fz 1))
 trace_state
 go_wp2_with fail
 go_end0
 have HR2:=(uh HR1).to (k+1)
 have hT:=Tb.to B rb w1 1 (.int .i64 ((k+1:Nat):Int))
 refine ⟨rfl,⟨HR2,?_,(uh HW).rl,Nat.le_trans (Nat.le_trans (uh HW).bl hb1.size) hT.size⟩,(Tb.of_below hb1).trans hT⟩
 obtain ⟨v',hv'⟩:=hW1
 exact ⟨v',hv'.tb (Tb.to _ rb w1 1 _) (uh HW).rl⟩
set_option maxHeartbeats 1000000 in
set_option maxRecDepth 100000 in
theorem idxl_any (s:ByteArray) (c:Int) (w:World) :
  Calls Tryz.prog 245 #[.string s,.int .u8 c] w fun e w'=>e=.returned (.int .i64 (Lib.indexByte s.data.toList c.toNat.toUInt8))∧w'=w:=by
 go_enter Tryz.func245,Tryz.ntmps245
 go_wp2
 rw [run_callFunc_extern Tryz.func276 (by kernel_rfl) (by kernel_rfl) (by kernel_rfl) (e:=Extern.BytealgIndexByte.indexByte) (by kernel_rfl),Lib.run_indexByteString]
 simp only [Result.andThen]
 rw [Oper.upon_value]
 go_wp2
 go_ret
 exact ⟨rfl,rfl⟩
theorem idx_any (s:ByteArray) (c:Int) (w:World) :
  Calls Tryz.prog 210 #[.string s,.int .u8 c] w fun e w'=>e=.returned (.int .i64 (Lib.indexByte s.data.toList c.toNat.toUInt8))∧w'=w:=by
 have hI:=idxl_any s c w
 go_enter Tryz.func210,Tryz.ntmps210
 go_wp2_with (go_at_call 245;refine hI.mono ?_;clear hI;rintro e w' ⟨rfl,hw⟩;obtain rfl:=hw.symm)
 go_ret
 exact ⟨rfl,rfl⟩
theorem idx_neg (l:List UInt8) (c:UInt8):Lib.indexByte l c<0↔c ∉ l:=by
 induction l with
 | nil=>simp [Lib.indexByte]
 | cons b l ih=>
   have hge:∀ l:List UInt8,-1≤Lib.indexByte l c:=fun l=>by
    induction l with
    | nil=>simp [Lib.indexByte]
    | cons b l ih=>unfold Lib.indexByte;split;omega;split <;> omega
   have:=hge l
   unfold Lib.indexByte
   by_cases hb:b=c
   ·subst hb;simp
   ·have hb':(b==c)=false:=by simpa using hb
    rw [hb']
    simp only [Bool.false_eq_true,if_false,List.mem_cons,not_or]
    have hne:¬ c=b:=fun e=>hb e.symm
    by_cases h1:Lib.indexByte l c=-1
    ·rw [h1] at ih ⊢
     simp only [BEq.rfl,if_true]
     exact ⟨fun _=>⟨hne,ih.1 (by omega)⟩,fun _=>by omega⟩
    ·have h2:(Lib.indexByte l c==-1)=false:=by simpa using h1
     rw [h2]
     simp only [Bool.false_eq_true,if_false]
     exact ⟨fun h=>by omega,fun h=>absurd (ih.2 h.2) (by omega)⟩
def Wrg (w:World) (ev:Ending) (e p:Nat):Prop:=
 ∃ b:Nat,ev=.panicked [{ v:=.iface 203 (.pointer (some ⟨b,0,none⟩)),recovered:=false }]∧w.heap[b]?=some (.cells #[.int .i64 (e:Int),.int .i64 (p:Int)] 206 (0,0))
theorem fail_wrg (e p:Nat) (w:World) :
  Calls Tryz.prog 69 #[.int .i64 (e:Int),.int .i64 (p:Int)] w fun ev w'=>∃ b:Nat,ev=.panicked [{ v:=.iface 203 (.pointer (some ⟨b,0,none⟩)),recovered:=false }]∧w'.heap[b]?=some (.cells #[.int .i64 (e:Int),.int .i64 (p:Int)] 206 (0,0))∧Below w.heap.size w w':=by
 refine (fail_any e p w).mono ?_
 rintro ev w' ⟨rfl,rfl⟩
 exact ⟨_,rfl,heap_alloc_new _ _,(Below.refl _ _).alloc (Nat.le_refl _) _⟩
theorem restR (rb:Nat) (s:ByteArray) (k:Nat) (w:World) (h:Rdr w rb s k) (hk:k≤s.size) :
  Calls Tryz.prog 141 #[.pointer (some ⟨rb,0,none⟩)] w fun e w'=>∃ t:ByteArray,e=.returned (.string t)∧Hid (t=s.extract k s.size)∧t.size=s.size-k∧Below w.heap.size w w':=by
 refine (rest_any rb s k w h hk).mono ?_
 rintro e w' ⟨rfl,hb⟩
 exact ⟨_,rfl,hide rfl,by rw [Lib.size_eq,ext_list,List.length_drop,Lib.size_eq],hb⟩
set_option maxHeartbeats 1000000 in
set_option maxRecDepth 10000 in
theorem escaped_ok (B rb wb:Nat) (s:ByteArray) (k:Nat) (pl:Int) (xs:List Atm) (w:World) (h:RW w B rb wb s k pl xs) (hk:k+1<s.size) (hs:s.size≤1500) (ha:xs.length≤1500) :
  Calls Tryz.prog 146 #[.pointer (some ⟨rb,0,none⟩),.pointer (some ⟨wb,0,none⟩)] w fun ev w'=>ev=.returned (.tuple #[])∧RW w' B rb wb s (k+2) pl (xs++[.inl s[k+1]])∧Tb B rb w w':=by
 have hR:=restR rb s k w h.rdr (by omega)
 have HW:=hide h
 clear h
 go_enter Tryz.func146,Tryz.ntmps146
 go_upto_region 2 with (go_at_call 141;refine hR.mono ?_;clear hR;rintro ev w1 ⟨t,rfl,HT,hts,hb1⟩;have g1:¬ (t.size:Int)<2:=(by omega))
 have HW1:=hide ((uh HW).below hb1)
 have c1:=(uh HW1).rdr.c1
 have z1:=(uh HW1).rdr.fz 1
 go_upto_region 3 with fail
 have e:IntKind.i64.wrap ((k:Int)+1)=((k+1:Nat):Int):=wrap_i64 (k+1) (by omega)
 obtain ⟨W2,hW2⟩:∃ W2,W2=w1.setCell ⟨rb,1,none⟩ (.int .i64 ((k+1:Nat):Int)):=⟨_,rfl⟩
 have hT:Tb w1.heap.size rb w1 W2:=by rw [hW2];exact Tb.to _ _ _ _ _
 have HW2:=hide ((uh HW1).to hT (by rw [hW2];exact (uh HW1).rdr.to (k+1)))
 rw [show ((k:Int)+1)=((k+1:Nat):Int) by omega,←hW2]
 have hB2:Tb B rb w W2:=(Tb.of_below (hb1.mono (uh HW).bl)).trans (hT.mono (uh HW1).bl)
 have hI:=itself_any B rb wb s (k+1) pl xs W2 (uh HW2) hk hs ha
 clear hW2 hT c1 z1 hb1 g1 hts
 go_wp2_with (go_at_call 147;refine hI.mono ?_;clear hI;rintro ev w3 ⟨rfl,hW3,hT3⟩)
 go_end0
 exact ⟨rfl,hW3,hB2.trans hT3⟩
set_option maxHeartbeats 1000000 in
set_option maxRecDepth 10000 in
theorem escaped_bad (B rb wb:Nat) (s:ByteArray) (k:Nat) (pl:Int) (xs:List Atm) (w:World) (h:RW w B rb wb s k pl xs) (hk:k+1=s.size) :
  Calls Tryz.prog 146 #[.pointer (some ⟨rb,0,none⟩),.pointer (some ⟨wb,0,none⟩)] w fun ev w'=>Wrg w' ev 5 k∧Tb B rb w w':=by
 have hR:=restR rb s k w h.rdr (by omega)
 have HW:=hide h
 clear h
 go_enter Tryz.func146,Tryz.ntmps146
 go_upto_region 1 with (go_at_call 141;refine hR.mono ?_;clear hR;rintro ev w1 ⟨t,rfl,HT,hts,hb1⟩;have g1:(t.size:Int)<2:=(by omega))
 have HW1:=hide ((uh HW).below hb1)
 have c1:=(uh HW1).rdr.c1
 have hF:=fail_wrg 5 k w1
 go_wp2_with (go_at_call 69;refine hF.mono ?_;clear hF;rintro ev w2 ⟨b,rfl,hc,hb2⟩)
 exact ⟨rfl,⟨b,rfl,hc⟩,Tb.of_below ((hb1.trans (hb2.mono hb1.size)).mono (uh HW).bl)⟩
theorem esc_idx (c:UInt8):(Lib.indexByte (⟨#[34,92,36]⟩:ByteArray).data.toList c<0)↔escQ c=false:=by
 rw [idx_neg]
 show ¬ c∈[34,92,36]↔_
 unfold escQ
 simp only [List.mem_cons,List.not_mem_nil,or_false,Bool.or_eq_false_iff,beq_eq_false_iff_ne,not_or,and_assoc,ne_eq]
theorem byte_back (c:UInt8):((c.toNat:Int)).toNat.toUInt8=c:=by simp
theorem ext_tail (s:ByteArray) (k:Nat):((s.extract k s.size).extract 1 (s.extract k s.size).size).data.toList=s.data.toList.drop (k+1):=by
 rw [ext_list,ext_list,List.drop_drop]
theorem fst_of {u:ByteArray}{l:List UInt8}{k:Nat}(h:u.data.toList=l.drop k) (hk:k<l.length):∃ h0:0<u.size,u[0]'h0=l[k]:=by
 have h0:0<u.size:=by rw [Lib.size_eq,h,List.length_drop];omega
 refine ⟨h0,?_⟩
 have:u.data.toList[0]'(by rw [←Lib.size_eq];exact h0)=l[k]:=by
  simp only [h];simp
 exact this
set_option maxHeartbeats 1000000 in
set_option maxRecDepth 10000 in
theorem escQ_ok (B rb wb:Nat) (s:ByteArray) (k:Nat) (pl:Int) (xs:List Atm) (w:World) (h:RW w B rb wb s k pl xs) (hk:k+1<s.size) (hs:s.size≤1500) (ha:xs.length≤1500) (hq:escQ s[k+1]=true) :
  Calls Tryz.prog 182 #[.pointer (some ⟨rb,0,none⟩),.pointer (some ⟨wb,0,none⟩)] w fun ev w'=>ev=.returned (.tuple #[])∧RW w' B rb wb s (k+2) pl (xs++[.inl s[k+1]])∧Tb B rb w w':=by
 have hR:=restR rb s k w h.rdr (by omega)
 have HW:=hide h
 clear h
 go_enter Tryz.func182,Tryz.ntmps182
 go_upto_region 1 with (go_at_call 141;refine hR.mono ?_;clear hR;rintro ev w1 ⟨t,rfl,HT,hts,hb1⟩;have g0:(1:Int)≤(t.size:Int):=(by omega);clear hts)
 have HU:Hid ((t.extract 1 t.size).data.toList=s.data.toList.drop (k+1)):=hide (by rw [uh HT];exact ext_tail s k)
 obtain ⟨u,hu⟩:∃ u,u=t.extract 1 t.size:=⟨_,rfl⟩
 rw [←hu] at HU ⊢
 obtain ⟨h0,e0⟩:=fst_of (uh HU) (by rw [←Lib.size_eq];exact hk)
 have g1:u.toList.isEmpty=false:=by
  rw [Lib.toList_data,uh HU]
  cases hd:s.data.toList.drop (k+1) with
  | nil=>have:=congrArg List.length hd;rw [List.length_drop,←Lib.size_eq] at this;simp at this;omega
  | cons _ _=>rfl
 have hI:=idx_any ⟨#[34,92,36]⟩ (u[0].toNat:Int) w1
 rw [byte_back] at hI
 have g2:¬ Lib.indexByte (⟨#[34,92,36]⟩:ByteArray).data.toList u[0]<0:=by
  rw [esc_idx,e0,get_data s (k+1) hk,hq];simp
 obtain ⟨d,hd⟩:∃ d,d=Lib.indexByte (⟨#[34,92,36]⟩:ByteArray).data.toList u[0]:=⟨_,rfl⟩
 rw [←hd] at hI g2
 clear hd e0 hu hq
 have HW1:=hide ((uh HW).below hb1)
 have c1:=(uh HW1).rdr.c1
 have z1:=(uh HW1).rdr.fz 1
 go_upto_region 4 with (go_at_call 210;refine hI.mono ?_;clear hI;rintro ev w9 ⟨rfl,hw⟩;obtain rfl:=hw.symm)
 have e:IntKind.i64.wrap ((k:Int)+1)=((k+1:Nat):Int):=wrap_i64 (k+1) (by omega)
 obtain ⟨W2,hW2⟩:∃ W2,W2=w1.setCell ⟨rb,1,none⟩ (.int .i64 ((k+1:Nat):Int)):=⟨_,rfl⟩
 have hT:Tb w1.heap.size rb w1 W2:=by rw [hW2];exact Tb.to _ _ _ _ _
 have HW2:=hide ((uh HW1).to hT (by rw [hW2];exact (uh HW1).rdr.to (k+1)))
 rw [show ((k:Int)+1)=((k+1:Nat):Int) by omega,←hW2]
 have hB2:Tb B rb w W2:=(Tb.of_below (hb1.mono (uh HW).bl)).trans (hT.mono (uh HW1).bl)
 have hI:=itself_any B rb wb s (k+1) pl xs W2 (uh HW2) hk hs ha
 clear hW2 hT c1 z1 hb1 g1 g2 g0
 go_wp2_with (go_at_call 147;refine hI.mono ?_;clear hI;rintro ev w3 ⟨rfl,hW3,hT3⟩)
 go_end0
 exact ⟨rfl,hW3,hB2.trans hT3⟩
set_option maxHeartbeats 1000000 in
set_option maxRecDepth 10000 in
theorem escQ_bad (B rb wb:Nat) (s:ByteArray) (k:Nat) (pl:Int) (xs:List Atm) (w:World) (h:RW w B rb wb s k pl xs) (hk:k<s.size) (hq:∀ h:k+1<s.size,escQ s[k+1]=false) :
  Calls Tryz.prog 182 #[.pointer (some ⟨rb,0,none⟩),.pointer (some ⟨wb,0,none⟩)] w fun ev w'=>Wrg w' ev 5 k∧Tb B rb w w':=by
 have hR:=restR rb s k w h.rdr (by omega)
 have HW:=hide h
 have HQ:=hide hq
 clear h hq
 go_enter Tryz.func182,Tryz.ntmps182
 go_upto_region 1 with (go_at_call 141;refine hR.mono ?_;clear hR;rintro ev w1 ⟨t,rfl,HT,hts,hb1⟩;have g0:(1:Int)≤(t.size:Int):=(by omega);clear hts)
 have HU:Hid ((t.extract 1 t.size).data.toList=s.data.toList.drop (k+1)):=hide (by rw [uh HT];exact ext_tail s k)
 obtain ⟨u,hu⟩:∃ u,u=t.extract 1 t.size:=⟨_,rfl⟩
 rw [←hu] at HU ⊢
 have HW1:=hide ((uh HW).below hb1)
 have c1:=(uh HW1).rdr.c1
 have hF:=fail_wrg 5 k w1
 by_cases hlt:k+1<s.size
 ·obtain ⟨h0,e0⟩:=fst_of (uh HU) (by rw [←Lib.size_eq];exact hlt)
  have g1:u.toList.isEmpty=false:=by
   rw [Lib.toList_data,uh HU]
   cases hd:s.data.toList.drop (k+1) with
   | nil=>have:=congrArg List.length hd;rw [List.length_drop,←Lib.size_eq] at this;simp at this;omega
   | cons _ _=>rfl
  have hI:=idx_any ⟨#[34,92,36]⟩ (u[0].toNat:Int) w1
  rw [byte_back] at hI
  have g2:Lib.indexByte (⟨#[34,92,36]⟩:ByteArray).data.toList u[0]<0:=by
   rw [esc_idx,e0,get_data s (k+1) hlt];exact uh HQ hlt
  obtain ⟨d,hd⟩:∃ d,d=Lib.indexByte (⟨#[34,92,36]⟩:ByteArray).data.toList u[0]:=⟨_,rfl⟩
  rw [←hd] at hI g2
  clear hd e0 hu
  go_wp2_with (first
   | (go_at_call 210;refine hI.mono ?_;clear hI;rintro ev w9 ⟨rfl,hw⟩;obtain rfl:=hw.symm)
   | (go_at_call 69;refine hF.mono ?_;clear hF;rintro ev w2 ⟨b,rfl,hc,hb2⟩))
  exact ⟨rfl,⟨b,rfl,hc⟩,Tb.of_below ((hb1.trans (hb2.mono hb1.size)).mono (uh HW).bl)⟩
 ·have g1:u.toList.isEmpty=true:=by
   rw [Lib.toList_data,uh HU,List.drop_eq_nil_of_le (by rw [←Lib.size_eq];omega)];rfl
  clear hu
  go_wp2_with (go_at_call 69;refine hF.mono ?_;clear hF;rintro ev w2 ⟨b,rfl,hc,hb2⟩)
  exact ⟨rfl,⟨b,rfl,hc⟩,Tb.of_below ((hb1.trans (hb2.mono hb1.size)).mono (uh HW).bl)⟩
theorem nameN_le (l:List UInt8):nameN l≤l.length:=by
 cases l with
 | nil=>simp [nameN]
 | cons c r=>
   simp only [nameN]
   split
   ·exact (List.takeWhile_prefix _).length_le
   ·omega
theorem tw_take {p:UInt8→Bool}(l:List UInt8):(l.take (l.takeWhile p).length)=l.takeWhile p:=by
 induction l with
 | nil=>rfl
 | cons c r ih=>
   by_cases h:p c=true
   ·rw [List.takeWhile_cons_of_pos h];simp [ih]
   ·rw [List.takeWhile_cons_of_neg h];simp
theorem tw_tw {p:UInt8→Bool}(l:List UInt8):(l.takeWhile p).takeWhile p=l.takeWhile p:=by
 induction l with
 | nil=>rfl
 | cons c r ih=>
   by_cases h:p c=true
   ·rw [List.takeWhile_cons_of_pos h,List.takeWhile_cons_of_pos h,ih]
   ·rw [List.takeWhile_cons_of_neg h];rfl
theorem nameN_take (l:List UInt8):nameN (l.take (nameN l))=nameN l:=by
 cases l with
 | nil=>rfl
 | cons c r=>
   by_cases h:isCapC c=true
   ·have e:nameN (c :: r)=((c :: r).takeWhile isNmC).length:=by simp [nameN,h]
    rw [e,tw_take]
    have hc:isNmC c=true:=by simp [isNmC,h]
    rw [List.takeWhile_cons_of_pos hc]
    simp only [nameN,h,if_true]
    rw [List.takeWhile_cons_of_pos hc,tw_tw]
   ·have e:nameN (c :: r)=0:=by simp [nameN,h]
    rw [e];rfl
theorem isVar_take (l:List UInt8):isVarN (l.take (nameN l))=decide (nameN l≠0∧nameN l≤10):=by
 unfold isVarN
 have hl:(l.take (nameN l)).length=nameN l:=by rw [List.length_take];have:=nameN_le l;omega
 rw [nameN_take,hl]
 by_cases h0:nameN l=0
 ·rw [h0];simp
 ·have:(l.take (nameN l) != [])=true:=by
   simp only [bne_iff_ne,ne_eq]
   intro e;have:=congrArg List.length e;rw [hl] at this;exact h0 this
  rw [this];simp [h0]
theorem Rdr.tb {w w':World}{rb:Nat}{s:ByteArray}{k:Nat}(h:Rdr w rb s k) (hb:Below w.heap.size w w'):Rdr w' rb s k:=h.below hb h.lt
def VarOut (w:World) (ev:Ending) (B rb wb:Nat) (s:ByteArray) (k:Nat) (pl:Int) (xs:List Atm):Prop:=match varG s.data.toList k with
 | none=>Wrg w ev 5 k
 | some (n,t)=>ev=.returned (.tuple #[])∧RW w B rb wb s t pl (xs++[.inr (n, k)])∧k<t∧t≤s.size
set_option maxHeartbeats 2000000 in
set_option maxRecDepth 10000 in
theorem var_any (B rb wb:Nat) (s:ByteArray) (k:Nat) (pl:Int) (xs:List Atm) (w:World) (h:RW w B rb wb s k pl xs) (hk:k<s.size) (hs:s.size≤1500) (ha:xs.length≤1500) :
  Calls Tryz.prog 145 #[.pointer (some ⟨rb,0,none⟩),.pointer (some ⟨wb,0,none⟩)] w fun ev w'=>VarOut w' ev B rb wb s k pl xs∧Tb B rb w w':=by
 have HW:=hide h
 have c1:=h.rdr.c1
 have z1:=h.rdr.fz 1
 obtain ⟨b,hb⟩:∃ b,(s.data.toList[k+1]?==some 123)=b:=⟨_,rfl⟩
 obtain ⟨f,hf⟩:∃ f,f=if b=true then k+1+1 else k+1:=⟨_,rfl⟩
 have hfk:k<f:=by rw [hf];split <;> omega
 have hfs:f≤s.size:=by
  rw [hf]
  cases b with
  | false=>simp only [Bool.false_eq_true,if_false];omega
  | true=>
    have:=(List.getElem?_eq_some_iff.1 (beq_iff_eq.1 hb)).1
    rw [←Lib.size_eq] at this;simp only [if_true];omega
 have HV:Hid (varG s.data.toList k=if nameN (s.data.toList.drop f)=0∨10<nameN (s.data.toList.drop f)∨(b=true∧s.data.toList[f+nameN (s.data.toList.drop f)]?≠some 125) then none else some ((s.data.toList.drop f).take (nameN (s.data.toList.drop f)),if b then f+nameN (s.data.toList.drop f)+1 else f+nameN (s.data.toList.drop f))):=hide (by
  unfold varG;rw [hb,hf])
 clear h
 have HB:=hide hb
 have HF:=hide hf
 clear hb hf
 go_enter Tryz.func145,Tryz.ntmps145
 go_upto_region 2 with fail
 have e:IntKind.i64.wrap ((k:Int)+1)=((k+1:Nat):Int):=wrap_i64 (k+1) (by omega)
 obtain ⟨W2,hW2⟩:∃ W2,W2=w.setCell ⟨rb,1,none⟩ (.int .i64 ((k+1:Nat):Int)):=⟨_,rfl⟩
 have hT2:Tb w.heap.size rb w W2:=by rw [hW2];exact Tb.to _ _ _ _ _
 have HW2:=hide ((uh HW).to hT2 (by rw [hW2];exact (uh HW).rdr.to (k+1)))
 rw [show ((k:Int)+1)=((k+1:Nat):Int) by omega,←hW2]
 have hB2:Tb B rb w W2:=hT2.mono (uh HW).bl
 have hK:=take_any rb s ⟨#[123]⟩ (k+1) W2 (uh HW2).rdr (by omega) (by omega)
 rw [beg_one,uh HB,show (⟨#[123]⟩:ByteArray).size=1 from rfl,←uh HF] at hK
 clear hW2 hT2 c1 z1 e
 go_upto_region 3 with (go_at_call 108;refine hK.mono ?_;clear hK;rintro ev w3 ⟨rfl,hR3,hT3⟩)
 have HW3:=hide ((uh HW2).to hT3 hR3)
 have hB3:Tb B rb w w3:=hB2.trans (hT3.mono (uh HW2).bl)
 have hQ1:=rest_any rb s f w3 hR3 hfs
 have hQ2:=fun (w':World) (h':Below w3.heap.size w3 w')=>rest_any rb s f w' (hR3.tb h') hfs
 obtain ⟨u,hu⟩:∃ u,u=s.extract f s.size:=⟨_,rfl⟩
 rw [←hu] at hQ1
 simp only [←hu] at hQ2
 have hul:u.data.toList=s.data.toList.drop f:=by rw [hu,ext_list]
 have hus:u.size≤1500:=by rw [Lib.size_eq,hul,List.length_drop,←Lib.size_eq];omega
 have hN:=fun w'=>name_any u w' (by omega)
 rw [hul] at hN
 obtain ⟨n,hn⟩:∃ n,n=nameN (s.data.toList.drop f):=⟨_,rfl⟩
 simp only [←hn] at hN
 have hnu:n≤u.size:=by rw [hn,Lib.size_eq,hul];exact nameN_le _
 have hnl:f+n≤s.size:=by rw [Lib.size_eq,hul,List.length_drop,←Lib.size_eq] at hnu;omega
 rw [←hn] at HV
 have i0:(0:Int)≤(n:Int):=by omega
 have i1:(n:Int)≤(u.size:Int):=by omega
 have HUL:=hide hul
 have HN:=hide hn
 clear hT3 hR3 hu hul hn hus
 go_upto_region 4 with (first
  | (go_at_call 141;refine hQ1.mono ?_;clear hQ1;rintro ev w4 ⟨rfl,hb4⟩)
  | (go_at_call 141;refine (hQ2 _ hb4).mono ?_;clear hQ2;rintro ev w5 ⟨rfl,hb5⟩)
  | (go_at_call 183;refine (hN _).mono ?_;clear hN;rintro ev w6 ⟨rfl,hw⟩;obtain rfl:=hw.symm))
 have hb35:Below w3.heap.size w3 w5:=hb4.trans (hb5.mono hb4.size)
 have HW5:=hide ((uh HW3).below hb35)
 have hB5:Tb B rb w w5:=hB3.trans (Tb.of_below (hb35.mono (uh HW3).bl))
 obtain ⟨nm,hnm⟩:∃ nm,nm=u.extract 0 n:=⟨_,rfl⟩
 rw [←hnm]
 have hml:nm.data.toList=(s.data.toList.drop f).take n:=by
  rw [hnm,ByteArray.data_extract,Array.toList_extract,List.extract_eq_take_drop,uh HUL];simp
 have hms:nm.size=n:=by
  rw [Lib.size_eq,hml,List.length_take,List.length_drop,←Lib.size_eq];omega
 have hbt:nm=bt ((s.data.toList.drop f).take n):=by rw [←hml,bt_of]
 have hIV:=fun w'=>isVar_any nm w' (by omega)
 have hvd:isVarN nm.data.toList=decide (n≠0∧n≤10):=by rw [hml,uh HN];exact isVar_take _
 simp only [hvd] at hIV
 have c1:=(uh HW5).rdr.c1
 have z1:=(uh HW5).rdr.fz 1
 have HMS:=hide hms
 have HBT:=hide hbt
 have hms':(nm.size:Int)=(n:Int):=by omega
 clear hb4 hb5 hb35 hnm hml hms hbt hvd hnu
 go_upto_region 5 with fail
 have e:IntKind.i64.wrap ((f:Int)+(n:Int))=((f+n:Nat):Int):=by rw [←Int.natCast_add];exact wrap_i64 (f+n) (by omega)
 obtain ⟨W6,hW6⟩:∃ W6,W6=w5.setCell ⟨rb,1,none⟩ (.int .i64 ((f+n:Nat):Int)):=⟨_,rfl⟩
 have hT6:Tb w5.heap.size rb w5 W6:=by rw [hW6];exact Tb.to _ _ _ _ _
 have HW6:=hide ((uh HW5).to hT6 (by rw [hW6];exact (uh HW5).rdr.to (f+n)))
 rw [show ((f:Int)+(n:Int))=((f+n:Nat):Int) by omega,←hW6]
 have hB6:Tb B rb w W6:=hB5.trans (hT6.mono (uh HW5).bl)
 clear hW6 hT6 c1 z1 e hms'
 have hF:=fun w'=>fail_wrg 5 k w'
 by_cases hv:n≠0∧n≤10
 ·rw [decide_eq_true hv] at hIV
  have hAV:=fun (w':World) (k':Nat) (h':RW w' B rb wb s k' pl xs)=>(let ⟨v,hv'⟩:=h'.wrd;addVar_any B wb pl v (parts xs) nm k w' hv' h'.bl (by have:=(parts_le xs).1;omega))
  have HAV:=hide hAV
  clear hAV
  have fin:∀ (w7:World) (k':Nat),RW w7 B rb wb s k' pl xs→Tb B rb w w7→k<k'→k'≤s.size→varG s.data.toList k=some ((s.data.toList.drop f).take n,k')→∀ (w8:World),(∃ v',Wrd w8 B wb pl v' (parts xs++[⟨nm,true,(k:Int)⟩]))→Below B w7 w8 →
    VarOut w8 (.returned (.tuple #[])) B rb wb s k pl xs∧Tb B rb w w8:=by
   intro w7 k' h7 hT7 hk1 hk2 hG w8 h8 hb8
   unfold VarOut
   rw [hG]
   refine ⟨⟨rfl,⟨h7.rdr.below hb8 h7.rl,?_,h7.rl,Nat.le_trans h7.bl hb8.size⟩,hk1,hk2⟩,hT7.trans (Tb.of_below hb8)⟩
   rw [parts_snoc]
   rw [uh HBT] at h8
   exact h8
  have FIN:=hide fin
  clear fin
  cases b with
  | false=>
    have HG:Hid (varG s.data.toList k=some ((s.data.toList.drop f).take n,f+n)):=hide (by
     rw [uh HV,if_neg (by simp;omega)];rfl)
    clear HV
    go_wp2_with (first
     | (go_at_call 184;refine (hIV _).mono ?_;clear hIV;rintro ev w7 ⟨rfl,hw⟩;obtain rfl:=hw.symm)
     | (go_at_call 185;refine (uh HAV W6 (f+n) (uh HW6)).mono ?_;rintro ev w8 ⟨rfl,hw8,hb8⟩))
    go_end0
    exact uh FIN W6 (f+n) (uh HW6) hB6 (by omega) hnl (uh HG) w8 hw8 hb8
  | true=>
    have hK2:=take_any rb s ⟨#[125]⟩ (f+n) W6 (uh HW6).rdr hnl (by omega)
    rw [beg_one,show (⟨#[125]⟩:ByteArray).size=1 from rfl] at hK2
    by_cases h5:s.data.toList[f+n]?=some 125
    ·have HG:Hid (varG s.data.toList k=some ((s.data.toList.drop f).take n,f+n+1)):=hide (by
      rw [uh HV,if_neg (by simp [h5];omega)];rfl)
     have hlt:f+n<s.size:=by rw [Lib.size_eq];exact (List.getElem?_eq_some_iff.1 h5).1
     rw [h5] at hK2
     simp only [BEq.rfl,if_true] at hK2
     clear HV h5
     go_wp2_with (first
      | (go_at_call 184;refine (hIV _).mono ?_;clear hIV;rintro ev w7 ⟨rfl,hw⟩;obtain rfl:=hw.symm)
      | (go_at_call 108;refine hK2.mono ?_;clear hK2;rintro ev w7 ⟨rfl,hR7,hT7⟩;have HW7:=hide ((uh HW6).to hT7 hR7);have hB7:Tb B rb w w7:=hB6.trans (hT7.mono (uh HW6).bl))
      | (go_at_call 185;refine (uh HAV w7 (f+n+1) (uh HW7)).mono ?_;rintro ev w8 ⟨rfl,hw8,hb8⟩))
     go_end0
     exact uh FIN w7 (f+n+1) (uh HW7) hB7 (by omega) (by omega) (uh HG) w8 hw8 hb8
    ·have HG:Hid (varG s.data.toList k=none):=hide (by
      rw [uh HV,if_pos (.inr (.inr ⟨rfl,h5⟩))])
     have h5':(s.data.toList[f+n]?==some 125)=false:=by simpa using h5
     rw [h5'] at hK2
     simp only [Bool.false_eq_true,if_false] at hK2
     clear HV h5 h5'
     go_wp2_with (first
      | (go_at_call 184;refine (hIV _).mono ?_;clear hIV;rintro ev w7 ⟨rfl,hw⟩;obtain rfl:=hw.symm)
      | (go_at_call 108;refine hK2.mono ?_;clear hK2;rintro ev w7 ⟨rfl,hR7,hT7⟩;have hB7:Tb B rb w w7:=hB6.trans (hT7.mono (uh HW6).bl);have HZ:=hide (Nat.le_trans (uh HW6).bl hT7.size))
      | (go_at_call 69;refine (hF _).mono ?_;clear hF;rintro ev w8 ⟨bb,rfl,hc,hb8⟩))
     refine ⟨rfl,?_,hB7.trans (Tb.of_below (hb8.mono (uh HZ)))⟩
     unfold VarOut
     rw [uh HG]
     exact ⟨bb,rfl,hc⟩
 ·rw [decide_eq_false hv] at hIV
  have HG:Hid (varG s.data.toList k=none):=hide (by
   rw [uh HV,if_pos (by
    by_cases h0:n=0
    ·exact .inl h0
    ·exact .inr (.inl (by omega)))])
  clear HV hv
  go_wp2_with (first
   | (go_at_call 184;refine (hIV _).mono ?_;clear hIV;rintro ev w7 ⟨rfl,hw⟩;obtain rfl:=hw.symm)
   | (go_at_call 69;refine (hF _).mono ?_;clear hF;rintro ev w8 ⟨bb,rfl,hc,hb8⟩))
  refine ⟨rfl,?_,hB6.trans (Tb.of_below (hb8.mono (uh HW6).bl))⟩
  unfold VarOut
  rw [uh HG]
  exact ⟨bb,rfl,hc⟩
end Go.Proofs.YtehfpjcclknipaaGreatDoor
