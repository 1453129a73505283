import Derived.Test.YtehfpjcclknipaaGreatDoorTPatO
import Derived.Test.YtehfpjcclknipaaGreatDoorJRPlainb
namespace Go.Proofs.YtehfpjcclknipaaGreatDoor.T
open Go.RowKit Go.Maps
def jnp (d n:List UInt8):List UInt8:=if d=[] then n else d++47 :: n
theorem join_path (d n:ByteArray) (w:World) (hd:d.size≤1073741824) (hn:n.size≤1073741824) :
  Calls Tryz.prog 175 #[.string d,.string n] w fun e w'=>∃ s:ByteArray,e=.returned (.string s)∧s.data.toList=jnp d.data.toList n.data.toList∧w'=w:=by
 by_cases h:d.data.toList=[]
 ·have g1:(d.toList==[])=true:=by rw [Lib.toList_data,h];rfl
  have HJ:Hid (jnp d.data.toList n.data.toList=n.data.toList):=hide (by rw [jnp,if_pos h])
  clear h
  go_enter Tryz.func175,Tryz.ntmps175
  go_wp2_with fail
  go_ret
  exact ⟨n,rfl,(uh HJ).symm,rfl⟩
 ·have g1:(d.toList==[])=false:=by rw [Lib.toList_data];simpa using h
  have HJ:Hid (jnp d.data.toList n.data.toList=d.data.toList++47 :: n.data.toList):=hide (by rw [jnp,if_neg h])
  have e1:¬ 9223372036854775807<d.size+1:=by omega
  have e2:¬ 9223372036854775807<d.size+1+n.size:=by omega
  clear h
  go_enter Tryz.func175,Tryz.ntmps175
  go_wp2_with fail
  go_ret
  refine ⟨_,rfl,?_,rfl⟩
  rw [uh HJ]
  simp
theorem resolve_any (s t:ByteArray) (m:Int) (w:World) (hs:s.size≤1073741824) (ht:t.size≤1073741824) (hm:w.cell? ⟨14,0,none⟩=some (.int .i64 m)) :
  Calls Tryz.prog 281 #[.string s,.string t] w fun e w'=>e=.returned (.tuple #[.string (bs ((R.resP s.data.toList t.data.toList).getD [])),R.errV (R.resP s.data.toList t.data.toList)])∧Below w.heap.size w w':=by
 cases h:isP s.data.toList
 ·exact R.paths_bad s t m w hm h
 ·by_cases hsl:t.data.toList.head?=some 47
  ·exact R.paths_slash s t m w hs ht hm h hsl
  ·by_cases hE:s.data.toList=[]
   ·exact R.paths_nil s t m w hs ht hm h hsl hE
   ·exact R.paths_row s t m w hs ht hm h hsl hE
structure StA (w:World) (B sb:Nat) (r:Nd) (ns:List Nd) (work:ByteArray) (ev:Value):Prop where
 cells:w.heap[sb]?=some (.cells #[.pointer (some ⟨r.nb,0,none⟩),.string work,ev,.slice none 0 0] 112 (0,0))
 mem:Mem w B r ns
 tree:TreeS (entsN ns)
 lim:14<B
 base:B≤w.heap.size
theorem StA.c0 {w:World}{B sb:Nat}{r:Nd}{ns:List Nd}{work:ByteArray}{ev:Value}(h:StA w B sb r ns work ev):w.cell? ⟨sb,0,none⟩=some (.pointer (some ⟨r.nb,0,none⟩)):=cq 0 h.cells
theorem StA.c1 {w:World}{B sb:Nat}{r:Nd}{ns:List Nd}{work:ByteArray}{ev:Value}(h:StA w B sb r ns work ev):w.cell? ⟨sb,1,none⟩=some (.string work):=cq 1 h.cells
theorem StA.lt {w:World}{B sb:Nat}{r:Nd}{ns:List Nd}{work:ByteArray}{ev:Value}(h:StA w B sb r ns work ev):sb<w.heap.size:=(Array.getElem?_eq_some_iff.1 h.cells).1
theorem StA.below {w w':World}{B sb:Nat}{r:Nd}{ns:List Nd}{work:ByteArray}{ev:Value}(h:StA w B sb r ns work ev) (hb:Below w.heap.size w w'):StA w' B sb r ns work ev:=
 ⟨(hb.block sb h.lt).trans h.cells,h.mem.below hb,h.tree,h.lim,Nat.le_trans h.base hb.size⟩
theorem StA.ok {w:World}{B sb:Nat}{r:Nd}{ns:List Nd}{work:ByteArray}{ev:Value}(h:StA w B sb r ns work ev):OkTo (entsN ns) ns.length:=by
 have:=h.tree.ok
 rwa [show (entsN ns).length=ns.length from by simp [entsN]] at this
set_option maxHeartbeats 1000000 in
theorem sResolve_any (sb:Nat) (work t:ByteArray) (m:Int) (w:World) (hc:w.cell? ⟨sb,1,none⟩=some (.string work)) (hs:work.size≤1073741824) (ht:t.size≤1073741824) (hm:w.cell? ⟨14,0,none⟩=some (.int .i64 m)) :
  Calls Tryz.prog 263 #[.pointer (some ⟨sb,0,none⟩),.string t] w fun e w'=>e=.returned (.tuple #[.string (bs ((R.resP work.data.toList t.data.toList).getD [])),R.errV (R.resP work.data.toList t.data.toList)])∧Below w.heap.size w w':=by
 have hR:=resolve_any work t m w hs ht hm
 obtain ⟨p,hp⟩:∃ p,p=bs ((R.resP work.data.toList t.data.toList).getD []):=⟨_,rfl⟩
 obtain ⟨e,he⟩:∃ e,e=R.errV (R.resP work.data.toList t.data.toList):=⟨_,rfl⟩
 rw [←hp,←he] at hR ⊢
 clear hp he hm
 go_enter Tryz.func263,Tryz.ntmps263
 go_wp2_with (go_at_call 281;refine hR.mono ?_;clear hR;rintro ev w1 ⟨rfl,hb1⟩)
 go_ret2
 exact ⟨rfl,hb1⟩
theorem work_any (sb:Nat) (work:ByteArray) (w:World) (hc:w.cell? ⟨sb,1,none⟩=some (.string work)) (hs:work.size≤1073741824) :
  Calls Tryz.prog 37 #[.pointer (some ⟨sb,0,none⟩)] w fun e w'=>∃ s:ByteArray,e=.returned (.string s)∧s.data.toList=47 :: work.data.toList∧w'=w:=by
 have e1:¬ 9223372036854775807<1+work.size:=by omega
 go_enter Tryz.func37,Tryz.ntmps37
 go_wp2_with fail
 go_ret
 exact ⟨_,rfl,by simp,rfl⟩
end Go.Proofs.YtehfpjcclknipaaGreatDoor.T
