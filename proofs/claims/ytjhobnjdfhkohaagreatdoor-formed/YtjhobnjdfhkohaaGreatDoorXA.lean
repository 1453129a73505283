import Derived.Lib.Join
import Derived.Lib.SplitLaws
import Derived.Test.YtjhobnjdfhkohaaGreatDoorProg
import Derived.WalkSpells
set_option linter.all false
namespace Go.Proofs.YtjhobnjdfhkohaaGreatDoor
open Go.Proofs.Tryz
open Go Go.RowKit
theorem aq.{u}{α:Sort u}(a:α):∃x,x=a:=⟨_,rfl⟩
theorem em {w W:World}{r}(h:W=w.alloc r):W.heap[w.heap.size]?=some r:=by rw[h];exact heap_alloc_new _ _
abbrev Bw (w v:World):Prop:=Below w.heap.size w v
theorem eD {w:World}{r}:Below w.heap.size w (w.alloc r):=(Below.refl _ _).alloc (Nat.le_refl _) _
theorem dw {w W:World}{r}(h:W=w.alloc r):Below w.heap.size w W:=by rw[h];exact eD
abbrev Cl:=Calls Tryz.prog
abbrev LU:=List UInt8
abbrev BA:=ByteArray
abbrev OA:=Option Addr
theorem gA {α:Type}{a:Array α}{i:Nat}{b:α}(h:a[i]?=some b):i<a.size:=(Array.getElem?_eq_some_iff.1 h).1
theorem gL {α:Type}{a:List α}{i:Nat}{b:α}(h:a[i]?=some b):i<a.length:=(List.getElem?_eq_some_iff.1 h).1
def eA:=@Array.getElem?_eq_some_iff
def eL:=@List.getElem?_eq_some_iff
def nR:=@Nat.le_refl
def nT:=@Nat.le_trans
def bR:=@Below.refl
def zE:=@Lib.size_eq
def gG:=@List.getElem?_eq_getElem
def mG:=@List.mem_of_getElem?
def lA:=@List.length_append
def lC:=@List.length_cons
def lN:=@List.length_nil
def tD:=@Lib.toList_data
def bA:=@Bool.and_eq_true
def mC:=@List.mem_cons
def mA:=@List.mem_append
def aA:=@List.append_assoc
def hN:=@heap_alloc_new
def cL:=@cell_later
def hS:=@heap_setCell_same
def dT:=@decide_eq_true
def dF:=@decide_eq_false
def sZ:=@List.size_toArray
def bO:=@Bool.or_eq_true
def GP:=@Array.getElem?_eq_some_iff
def KP:=@List.getElem?_eq_some_iff
def bH:=@Nat.le_refl
def dz:=@Nat.le_trans
def ju:=@Below.refl
def im:=@Lib.size_eq
def pS:=@List.getElem?_eq_getElem
def oG:=@List.mem_of_getElem?
def qJ:=@List.length_append
def mr:=@List.length_cons
def nD:=@List.length_nil
def Nf:=@Lib.toList_data
def LZ:=@Bool.and_eq_true
def nh:=@List.mem_cons
def JJ:=@List.mem_append
def yL:=@List.append_assoc
def ft:=@heap_alloc_new
def aM:=@cell_later
def oX:=@heap_setCell_same
def EV:=@decide_eq_true
def EJ:=@decide_eq_false
def pL:=@List.size_toArray
def NX:=@Bool.or_eq_true
theorem bY {α:Type}{a:Array α}{i:Nat}{b:α}(h:a[i]?=some b):i<a.size:=(Array.getElem?_eq_some_iff.1 h).1
theorem sI {α:Type}{a:List α}{i:Nat}{b:α}(h:a[i]?=some b):i<a.length:=(List.getElem?_eq_some_iff.1 h).1
theorem aL {w:World}{g:Nat}{cs:Array Value}{t:TypeId}{fr:Nat × Nat}(j:Nat)(hg:w.heap[g]?=some (.cells cs t fr)):w.cell? ⟨g,j,none⟩=cs[j]?:=cell_of_row w g j cs t fr hg
end Go.Proofs.YtjhobnjdfhkohaaGreatDoor
