import Derived.Test.YtehfpjcclknipaaGreatDoorCbE
import Derived.Test.YtehfpjcclknipaaGreatDoorJBmG
import Derived.Test.YtehfpjcclknipaaGreatDoorJPrsZ
namespace Go.Proofs.YtehfpjcclknipaaGreatDoor.T
open Go.RowKit Go.Maps
theorem down_ents (ns:List Nd) (p:List UInt8):(entsN ns).filter (fun e=>underB p e.path.data.toList)=entsN (downX ns p):=by
 rw [entsN,List.filter_map]; rfl
theorem cb_all {es:List Ent} (hG:TreeG es) (hl:es.length≤80) (Bs:Nat) (rs:Nd) (nss:List Nd) (hE:entsN nss=es):CbAll Bs rs nss:=by
 intro w B sb r ns work ev m hm hn hA y d W hy _ hd hS hM hb ⟨t,ht⟩
 have hlen:nss.length≤80:=by rw [← hE] at hl; simpa [entsN] using hl
 unfold cpBelowG at ht
 cases h1:mkDirG (entsN ns) d.data.toList with
 | error k=>rw [h1] at ht; cases ht
 | ok t1=>
  rw [h1] at ht
  simp only [down_ents] at ht
  have hx:cpBelowG (entsN ns) (entsN nss) y.p d.data.toList=.ok t:=by
   unfold cpBelowG
   rw [h1]
   simp only [down_ents]
   exact ht
  refine (copyBelow_any es sb B Bs r rs y ns nss work d ev m W hy hd hS hM (hide hE) (hide hG) hlen hn (by
   rintro k ⟨x,hx,rfl | rfl⟩
   ·exact (hA x hx).1
   ·exact (hA x hx).2) (cell_later hb hm) t t1 (hide h1) (hide ht)).mono ?_
  rintro e w' h
  rw [hx]
  have h2:=h
  obtain ⟨_,ns2,_,_,hs,_⟩:=h2
  exact ⟨h,hs.below,keepX_foot hS.mem hs.foot⟩
theorem pick_any (c n:Int) (w:World) (h0:0<n) (h1:n≤1000) :
  Calls Tryz.prog 11 #[.int .i64 c,.int .i64 n] w fun ev w'=>∃ k:Int,ev=.returned (.int .i64 k)∧0≤k∧k<n∧w'=w:=by
 have hn:¬ n=0:=by omega
 have hn2:(n==0)=false:=by simp [hn]
 have ha:-n<c.tmod n:=by
  have:=Int.lt_tmod_of_pos c h0
  omega
 have hb:c.tmod n<n:=Int.tmod_lt_of_pos c h0
 by_cases hneg:c.tmod n<0
 ·go_enter Tryz.func11,Tryz.ntmps11
  go_wp2
  go_ret
  exact ⟨_,rfl,by omega,by omega,rfl⟩
 ·go_enter Tryz.func11,Tryz.ntmps11
  go_wp2
  go_ret
  exact ⟨_,rfl,by omega,by omega,rfl⟩
theorem kpick_any (c n:Int) (w:World) (h0:0<n) (h1:n≤1000) :
  Calls Tryz.prog 4 #[.int .i64 c,.int .i64 n] w fun ev w'=>∃ k:Nat,ev=.returned (.int .i64 (k:Int))∧(k:Int)<n∧w'=w:=by
 have hP:=pick_any c n w h0 h1
 go_enter Tryz.func4,Tryz.ntmps4
 go_wp2_with (go_at_call 11; refine hP.mono ?_; rintro ev w' ⟨k,rfl,k0,k1,hw⟩; obtain rfl:=hw.symm; obtain ⟨j,rfl⟩:∃ j:Nat,k=(j:Int):=⟨k.toNat,by omega⟩)
 go_ret
 exact ⟨j,rfl,k1,rfl⟩
theorem erow_of {W:World} {g t:Nat} {es:List Ent} (h:W.heap[g]?=some (.cells (entC es).toArray t (0,0))):ERow W (some ⟨g,0,none⟩) es:=fun k e hk=>by
 have h4:∀ (es:List Ent) (k i:Nat) (e:Ent),es[k]?=some e→i<4→(entC es)[k*4+i]?=(ec e)[i]?:=by
  intro es
  induction es with
  | nil=>intro k i e h; cases h
  | cons x r ih=>
   intro k i e h hi
   cases k with
   | zero=>
    cases h
    show (ec x++entC r)[0*4+i]?=_
    rw [Nat.zero_mul,Nat.zero_add,List.getElem?_append_left (by simpa [ec] using hi)]
   | succ k=>
    show (ec x++entC r)[(k+1)*4+i]?=_
    rw [List.getElem?_append_right (by simp [ec]; omega),show (k+1)*4+i-(ec x).length=k*4+i by simp [ec]; omega]
    exact ih k i e h hi
 have hc:∀ i,W.cell? ⟨g,i,none⟩=(entC es)[i]?:=fun i=>by rw [cq i h]; simp
 refine ⟨g,0,rfl,?_,?_,?_,?_⟩
 ·show W.cell? ⟨g,0+k*4,none⟩=_
  rw [hc,Nat.zero_add]; exact h4 es k 0 e hk (by omega)
 ·show W.cell? ⟨g,0+k*4+1,none⟩=_
  rw [hc,Nat.zero_add]; exact h4 es k 1 e hk (by omega)
 ·show W.cell? ⟨g,0+k*4+2,none⟩=_
  rw [hc,Nat.zero_add]; exact h4 es k 2 e hk (by omega)
 ·show W.cell? ⟨g,0+k*4+3,none⟩=_
  rw [hc,Nat.zero_add]; exact h4 es k 3 e hk (by omega)
theorem context_any (w:World):Calls Tryz.prog 6 #[] w fun e w'=>∃ g:Nat,e=.returned (.slice (some ⟨g,0,none⟩) 2 2)∧ERow w' (some ⟨g,0,none⟩) cxK∧Below w.heap.size w w':=by
 go_enter Tryz.func6,Tryz.ntmps6
 go_wp2
 go_ret
 exact ⟨w.heap.size,rfl,erow_of (t:=38) (by exact heap_alloc_new _ _),(Below.refl _ _).alloc (Nat.le_refl _) _⟩
end Go.Proofs.YtehfpjcclknipaaGreatDoor.T
