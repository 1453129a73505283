import Derived.Test.YtehfpjcclknipaaGreatDoorJTLaw
import Derived.Test.YtehfpjcclknipaaGreatDoorJTKidD
import Derived.RangeFuncBox
import Derived.Maps.AppendAt
import Derived.Test.YtehfpjcclknipaaGreatDoorTPatO
import Derived.LaidEql
import Derived.Test.YtehfpjcclknipaaGreatDoorJTUpA
import Derived.Test.YtehfpjcclknipaaGreatDoorJTChgA
import Derived.Test.YtehfpjcclknipaaGreatDoorJTPlaina
import Derived.Test.YtehfpjcclknipaaGreatDoorJPlain
import Derived.BigQuiet
import Derived.Test.YtehfpjcclknipaaGreatDoorJWrE
import Derived.Lib.BufferWrite
import Derived.Lib.SlBuf
import Derived.Laws.Tables
import Derived.Laws.BitsAllLaws
import Derived.Lib.Strings
import Derived.Below
import Derived.Lib.ConvBytes
import Derived.Shelf.Bits.Mul64
import Derived.Handy
namespace Go.Proofs.YtehfpjcclknipaaGreatDoor.T
open Go.RowKit Go.Maps Go.Sort Go.Shelf
attribute [local go_sem] Oper.semAt_some
def MemA (Bb:Nat) (W:World) (B:Nat) (r:Nd) (ns:List Nd):Prop:=Mem W B r ns∧∀ x∈r :: ns,Away Bb W x.nb∧Away Bb W x.mb
theorem MemA.kc {Bb B:Nat}{W W':World}{r:Nd}{ns:List Nd}(h:MemA Bb W B r ns) (hk:Kc Bb W W'):MemA Bb W' B r ns:=by
 refine ⟨⟨h.1.root,fun x hx=>?_,h.1.apart⟩,fun x hx=>⟨hk.away (h.2 x hx).1,hk.away (h.2 x hx).2⟩⟩
 obtain ⟨h1,h2,h3,es,clock,hb,F,hs,hD⟩:=h.1.all x hx
 exact ⟨h1,h2,hk.at (h.2 x hx).1 h3 (.inl rfl),es,clock,hk.at (h.2 x hx).2 hb (.inr rfl),F,hs,hD⟩
theorem flat_pre {ns:List Nd}{f:Nat}{p:List UInt8}(pre:List (Kid ns p)) (y:Kid ns p):((pre++[y]).map fun k=>preX ns f k.1).flatten=(pre.map fun k=>preX ns f k.1).flatten++preX ns f y.1:=by simp
theorem flat_all (ns:List Nd) (f:Nat) (p:List UInt8):((kidsX ns p).attach.map fun k=>preX ns f k.1).flatten=((kidsX ns p).map (preX ns f)).flatten:=by
 rw [List.attach_map_val (f:=preX ns f)]
theorem pre_pre {ns:List Nd}{f:Nat}{p:List UInt8}{l:List (Kid ns p)}(h:l <+: (kidsX ns p).attach):(l.map fun k=>preX ns f k.1).flatten <+: ((kidsX ns p).map (preX ns f)).flatten:=by
 rw [←flat_all]
 obtain ⟨t,e⟩:=h
 rw [←e,List.map_append,List.flatten_append]
 exact List.prefix_append _ _
set_option maxRecDepth 100000 in
set_option maxHeartbeats 2000000 in
theorem each_any (es:List Ent) (B Bb B0:Nat) (r:Nd) (ns:List Nd) (HE:Hid (entsN ns=es)) (HT:Hid (TreeG es)) (l:Nat) (xs:List Nd) (J:List Nd→World→Prop) (hJ:Stay Bb B0 J)
  (hY:∀ m pre y W1,J pre W1→pre++[y] <+: xs→YieldAt Fence.wide m Tryz.prog l #[.pointer (some ⟨y.nb,0,none⟩)] W1 fun e W'=>e=.returned (.bool true)∧J (pre++[y]) W'∧KeepsOthers W1 W'∧Kc Bb W1 W') :
  ∀ (f:Nat) (x:Nd),x∈r :: ns→Hid (Deep es f x.ent)→∀ (pre:List Nd) (W:World),B0≤W.heap.size→Bb<W.heap.size→MemA Bb W B r ns→J pre W→pre++preX ns f x <+: xs →
   Calls Tryz.prog 99 #[.pointer (some ⟨x.nb,0,none⟩),.func (.yield l) #[] #[]] W fun e W'=>e=.returned (.bool true)∧J (pre++preX ns f x) W'∧KeepsOthers W W'∧Kc Bb W W':=by
 intro f
 induction f with
 | zero=>intro x _ HD;exact absurd rfl (deep_pos (uh HD))
 | succ f ih=>
   intro x hx HD pre W hB0 hBb hM hj hp
   rw [preX] at hp ⊢
   have hlen:ns.length≤120:=by have:=(uh HT).len;rw [←uh HE] at this;simpa [entsN] using this
   have HO:Hid (OkTo (entsN ns) ns.length):=hide (by
    have h:=(uh HT).ok
    rw [←uh HE] at h
    simpa [entsN] using h)
   have HS:Hid (∀ y∈ns,y.ent.path.size≤1048576):=hide fun y hy=>((uh HT).small y.ent (by rw [←uh HE];exact List.mem_map.2 ⟨y,hy,rfl⟩)).1
   have HP:=hide hp
   have rin:∀ {s V},J s V→Bb<V.heap.size→RowIn Bb V:=fun {s V} hs hb=>⟨hb,fun k hk=>by
    obtain ⟨o,ho,_⟩:=hJ.row s V hs k hk
    exact (Array.getElem?_eq_some_iff.1 ho).1⟩
   obtain ⟨W2,hW2⟩:∃ W2,W2=(W.alloc (.cells #[.func (.yield l) #[] #[]] 195)).alloc (.cells #[.bool false] 4):=⟨_,rfl⟩
   have b2:Below W.heap.size W W2:=by rw [hW2];exact ((Below.refl _ W).alloc (Nat.le_refl _) _).alloc (by simp) _
   have s2:W2.heap.size=W.heap.size+2:=by rw [hW2];simp
   have y2:W2.heap[W.heap.size]?=some (.cells #[.func (.yield l) #[] #[]] 195 (0,0)):=by rw [hW2];exact (Below.heap_alloc _ _ _ (by simp)).trans (heap_alloc_new _ _)
   have r2:W2.heap[W.heap.size+1]?=some (.cells #[.bool false] 4 (0,0)):=by
    have:=heap_alloc_new (W.alloc (.cells #[.func (.yield l) #[] #[]] 195)) (.cells #[.bool false] 4)
    rw [World.size_alloc] at this
    rw [hW2];exact this
   have hj2:J pre W2:=hJ.go _ _ _ hj (Kept.below b2)
   have HA1:=hide (away_new (g:=W.heap.size) (rin hj hBb) b2 (Nat.le_refl _) (by omega))
   have HA2:=hide (away_new (g:=W.heap.size+1) (rin hj hBb) b2 (by omega) (by omega))
   obtain ⟨fn,tmps,assign,body,hy,hR⟩:=hY 5 pre x W2 hj2 (List.IsPrefix.trans ⟨((kidsX ns x.p).map (preX ns f)).flatten,by simp⟩ hp)
   have c1:W2.cell? ⟨W.heap.size,0,none⟩=some (.func (.yield l) #[] #[]):=cq 0 y2
   have HM:=hide hM
   have HY2:=hide y2
   have HR2:=hide r2
   have hf88:Fence.wide.fn 92:=trivial
   clear hM y2 r2 hp hj hj2
   refine (callsIn_wide (n:=6)).1 ?_
   refine callsIn_of_wp_marks Tryz.func99 rfl trivial ?_ rfl
   simp only [Tryz.ntmps99,List.size_toArray,List.length_cons,List.length_nil,Nat.reduceAdd,Nat.reduceSub,Array.replicate_succ,Array.replicate_zero,List.push_toArray,List.append_toArray,List.nil_append,List.cons_append]
   gi_wp2
   rw [←hW2,hy]
   clear hy hW2
   gi_wp2
   refine hR.mono ?_
   clear hR
   rintro e W3 ⟨rfl,hj3,hk3,hc3⟩
   gi_wp2_with (gi_at_call 92;refine (callsIn_wide.2 (inside_any _ _)).mono ?_;rintro e w4 ⟨rfl,rfl⟩)
   have s3:=hc3.size
   have hB3:Bb<W3.heap.size:=by omega
   have hcW3:Kc Bb W W3:=(Kc.below b2 hBb).trans hc3
   have hkW3:KeepsOthers W W3:=(keeps_below b2).trans hk3
   have hM3:=(uh HM).kc hcW3
   have rin3:=rin hj3 hB3
   obtain ⟨W4,hW4⟩:∃ W4,W4=W3.alloc (.cells #[.pointer (some ⟨x.nb,0,none⟩)] 60):=⟨_,rfl⟩
   have b4:Below W3.heap.size W3 W4:=by rw [hW4];exact (Below.refl _ _).alloc (Nat.le_refl _) _
   have s4:W4.heap.size=W3.heap.size+1:=by rw [hW4];simp
   have x4:W4.heap[W3.heap.size]?=some (.cells #[.pointer (some ⟨x.nb,0,none⟩)] 60 (0,0)):=by rw [hW4];exact heap_alloc_new _ _
   have hj4:J (pre++x :: ([].map fun k:Kid ns x.p=>preX ns f k.1).flatten) W4:=hJ.go _ _ _ hj3 (Kept.below b4)
   have hc4:Kc Bb W3 W4:=Kc.below b4 hB3
   have hcW4:=hcW3.trans hc4
   have hkW4:=hkW3.trans (keeps_below b4)
   have hM4:=hM3.kc hc4
   have rin4:=rin hj4 (by omega)
   have aX:=away_new (g:=W3.heap.size) rin3 b4 (Nat.le_refl _) (by omega)
   have y4:=(hc3.trans hc4).at (uh HA1) (uh HY2) (.inl rfl)
   have r4:=(hc3.trans hc4).at (uh HA2) (uh HR2) (.inl rfl)
   have a1:=(hc3.trans hc4).away (uh HA1)
   have a2:=(hc3.trans hc4).away (uh HA2)
   rw [←hW4]
   clear hj3 hk3 hc3 hM3 c1 rin3 hW4
   refine range_all (Bb:=Bb) (α:=Kid ns x.p) rfl (by omega) (gf:=126) (lb:=#[.pointer (some ⟨W3.heap.size,0,none⟩)]) rfl trivial (enters_of Tryz.func126 (by kernel_rfl) rfl)
    (inside_all 5 (by omega) W3.heap.size Bb B r x ns W4 hx hM4.1 HO HS (by omega) x4 aX (hM4.2 x hx).1 (hM4.2 x hx).2 rin4) (by omega) (Below.refl _ _) (fun _=>rfl)
    (fun p V=>J (pre++x :: (p.map fun k=>preX ns f k.1).flatten) V∧Kc Bb W4 V∧KeepsOthers W4 V)
    ⟨fun s V V' hs hk=>⟨hJ.go _ _ _ hs.1 (hk.mono (by omega)),hs.2.1.kept (by omega) hk (Nat.le_refl _),keeps_kept hs.2.2 hk (Nat.le_refl _)⟩,fun s V hs=>hJ.row _ _ hs.1⟩
    ⟨hj4,Kc.refl _ _,KeepsOthers.refl _⟩ (fun t k=>((t.setIfInBounds 13 (.string (nm k.1))).setIfInBounds 14 (.pointer (some ⟨k.1.nb,0,none⟩))).setIfInBounds 6 (.pointer (some ⟨k.1.nb,0,none⟩))) ?assign ?body ?done
   case assign=>
    intro l' y V K hK
    unfold encK
    gi_wp2
    simpa using hK
   case body=>
    rintro l' p y V ⟨hjv,hcv,hkv⟩ hpp
    have hk:=kidsX_mem y.2
    have hdk:Deep es f y.1.ent:=deep_kid (uh HT).ok (uh HD) (by
     rw [←uh HE]
     show y.1.ent∈kidsE (entsN ns) x.p
     rw [kidsE_eq]
     exact List.mem_map.2 ⟨y.1,y.2,rfl⟩)
    have hpx:pre++x :: (p.map fun k=>preX ns f k.1).flatten++preX ns f y.1 <+: xs:=by
     refine List.IsPrefix.trans ?_ (uh HP)
     obtain ⟨t,ht⟩:=pre_pre (f:=f) hpp
     exact ⟨t,by rw [←ht,flat_pre];simp⟩
    have sv:=hcv.size
    have HIH:=hide (ih y.1 (List.mem_cons_of_mem _ hk.1) (hide hdk) (pre++x :: (p.map fun k=>preX ns f k.1).flatten) V (by omega) (by omega) (hM4.kc hcv) hjv hpx)
    have cy:V.cell? ⟨W.heap.size,0,none⟩=some (.func (.yield l) #[] #[]):=cq 0 (hcv.at a1 y4 (.inl rfl))
    have hf106:(Fence.wide.inRound l').fn 99:=trivial
    clear ih hpx hpp hdk
    gi_wp2_with (refine ⟨trivial,?_⟩;gi_at_call 99;refine (CallsIn.inRound l' (callsIn_wide.2 (uh HIH))).mono ?_;rintro e V2 ⟨rfl,hj5,hk5,hc5⟩)
    refine ⟨hk5,hc5,?_,hcv.trans hc5,hkv.trans hk5⟩
    rw [flat_pre]
    simpa using hj5
   case done=>
    rintro D V hD ⟨hjv,hcv,hkv⟩ hK
    have cr:=hcv.at a2 r4 (.inl rfl)
    have sv:=hcv.size
    have c1:V.cell? ⟨W.heap.size+1,0,none⟩=some (.bool false):=cq 0 cr
    have c2:V.frozen? ⟨W.heap.size+1,0,none⟩=false:=by simp [World.frozen?,cr]
    gi_wp2
    have hK2:(V.setCell ⟨W.heap.size+1,0,none⟩ (.bool true)).heap[D]?=some (.deferred (some [])):=(KeepsOthers.setCell V ⟨W.heap.size+1,0,none⟩ (.bool true)).same D _ hK rfl
    have c3:((V.setCell ⟨W.heap.size+1,0,none⟩ (.bool true)).putObj D (.deferred none)).cell? ⟨W.heap.size+1,0,none⟩=some (.bool true):=by
     rw [cell_put _ (by show W.heap.size+1≠D;omega)]
     exact World.cell?_setCell_same' _ _ _ (by rw [c1];rfl)
    have av:=hcv.away a2
    have j1:J (pre++x :: ((kidsX ns x.p).map (preX ns f)).flatten) (V.setCell ⟨W.heap.size+1,0,none⟩ (.bool true)):=by
     rw [←flat_all]
     exact hJ.go _ _ _ hjv (Kept.set _ (by show B0≤W.heap.size+1;omega) av.2.1 av.2.2)
    have j2:J (pre++x :: ((kidsX ns x.p).map (preX ns f)).flatten) ((V.setCell ⟨W.heap.size+1,0,none⟩ (.bool true)).putObj D (.deferred none)):=
     hJ.go _ _ _ j1 (Kept.put _ (by omega) (by omega) (fun hr=>by
      obtain ⟨o,h5,h6⟩:=hJ.row _ _ j1 D hr
      rw [hK2] at h5;cases h5;cases h6))
    refine ⟨by simp,.inl ⟨_,_,rfl,run_takeDeferred hK2,?_⟩⟩
    refine ⟨.bool true,?_,rfl,j2,keeps_putNew ((hkW4.trans hkv).trans (KeepsOthers.setCell _ _ _)) _ (by omega),((hcW4.trans hcv).setNew _ hBb (by show W.heap.size≤W.heap.size+1;omega)).putNew _ hBb (by omega)⟩
    simp [results,Tryz.results99,go_sem,c3]
theorem all_any (p:Option Addr) (w:World):Calls Tryz.prog 58 #[.pointer p] w fun ev w'=>ev=.returned (.func (.func 98) #[] #[.pointer (some ⟨w.heap.size,0,none⟩)])∧w'=w.alloc (.cells #[.pointer p] 60):=by
 go_enter Tryz.func58,Tryz.ntmps58
 go_wp2
 go_ret
 exact ⟨rfl,rfl⟩
set_option maxRecDepth 100000 in
set_option maxHeartbeats 1000000 in
theorem all_seq (es:List Ent) (B Bb Bx n:Nat) (r:Nd) (ns:List Nd) (w:World) (HE:Hid (entsN ns=es)) (HT:Hid (TreeG es)) (hM:MemA Bb w B r ns) (hbx:w.heap[Bx]?=some (.cells #[.pointer (some ⟨r.nb,0,none⟩)] 60 (0,0))) (h4:Bb<w.heap.size) :
  SeqAll Bb Fence.wide n Tryz.prog 98 #[.pointer (some ⟨Bx,0,none⟩)] (fun y:Nd=>#[.pointer (some ⟨y.nb,0,none⟩)]) (r :: ns) w:=by
 intro l J W hW hJ hY h0
 have hK:=Kc.below hW h4
 have c1:W.cell? ⟨Bx,0,none⟩=some (.pointer (some ⟨r.nb,0,none⟩)):=cq 0 ((hW.block _ (Array.getElem?_eq_some_iff.1 hbx).1).trans hbx)
 have hpr:=pre_root (uh HE) (uh HT).ok hM.1.root
 have hd:Deep es (es.length+1) r.ent:=by rw [hM.1.root];exact deep_root es
 have hE:=each_any es B Bb W.heap.size r ns HE HT l (r :: ns) J hJ (fun m pre y W1 hj hp=>yield_deep (hY pre y W1 hj hp)) (es.length+1) r (by simp) (hide hd) [] W (Nat.le_refl _) (Nat.lt_of_lt_of_le h4 hW.size) (hM.kc hK) h0 (by rw [hpr];exact List.prefix_refl _)
 rw [hpr] at hE
 have HE2:=hide hE
 have hf106:Fence.wide.fn 99:=trivial
 clear hE hY h0 hM
 refine (callsIn_wide (n:=n)).2 ((callsIn_wide (n:=6)).1 ?_)
 refine callsIn_of_wp Tryz.func98 rfl trivial ?_ rfl
 simp only [Tryz.ntmps98,List.size_toArray,List.length_cons,List.length_nil,Nat.reduceAdd,Nat.reduceSub,Array.replicate_succ,Array.replicate_zero,List.push_toArray,List.append_toArray,List.nil_append,List.cons_append]
 gi_wp2_with (gi_at_call 99;refine (callsIn_wide.2 (uh HE2)).mono ?_;rintro e W2 ⟨rfl,hj2,_,_⟩)
 go_end0
 exact ⟨⟨_,rfl⟩,hj2⟩
end Go.Proofs.YtehfpjcclknipaaGreatDoor.T
namespace Go.Proofs.YtehfpjcclknipaaGreatDoor.T
open Go.RowKit Go.Maps Go.Sort Go.Shelf
attribute [local go_sem] Oper.semAt_some
theorem opApp {F:Fence}{n:Nat}{P:Program}{w w1:World}{o:Oper}{a:Act}{K:Act→World→Prop}{Q:Exit→Act→World→Prop}(s x:Operand) (t:TypeId) (hop:o.op=Op.call { callee:=Callee.builtin Builtin.append,args:=#[s,x],argTypes:=#[t,t] })
  {v u v':Value}(hs:a.eval s=v) (hx:a.eval x=u) (hrun:(Builtin.append_ #[t,t] o.type #[v,u]).run P w=.ok v' w1) (hK:K (a.put o.dst v') w1):Oper.wpIn F n P o a w K Q:=by
 unfold Oper.wpIn
 refine ⟨?_,?_⟩
 ·simp [Oper.about,hop,resolve,Target.leads,Sem.run_pure]
 ·rw [Oper.semAt_plain F _ _ (by rw [hop];intro c hc';cases hc')]
  simp [execOp,hop,resolve,invoke,builtin,hs,hx,hrun,Result.andThen]
  exact hK
end Go.Proofs.YtehfpjcclknipaaGreatDoor.T
namespace Go.Proofs.YtehfpjcclknipaaGreatDoor.T
open Go.RowKit Go.Maps Go.Sort Go.Shelf
attribute [local go_sem] Oper.semAt_some
theorem ptr67:Tryz.prog.underlying 60=some (.pointer 129):=by kernel_rfl
theorem info87:(Tryz.prog.info? 129).map (fun i=>i.size)=some 5:=by kernel_rfl
theorem size87:∃ j,Tryz.prog.info? 129=some j∧j.size=5:=by
 have h:=info87
 cases hj:Tryz.prog.info? 129 with
 | none=>rw [hj] at h;cases h
 | some j=>rw [hj] at h;exact ⟨j,rfl,by simpa using h⟩
theorem neq67_same (w:World) (a:Addr):(binOp .neq 60 (.pointer (some a)) (.pointer (some a))).run Tryz.prog w=.ok (.bool false) w:=by
 obtain ⟨j,hj,hz⟩:=size87
 have h:∀ d:Nat,(Op.equalIn (d+1) 60 (.pointer (some a)) (.pointer (some a))).run Tryz.prog w=.ok true w:=fun d=>by
  simp [Op.equalIn,run_underlying ptr67,sizeOf,typeInfo,hj,run_sameAddr_same]
 simp only [binOp]
 simp [Op.equal,Op.maxDepth,h 9999]
theorem neq67_other (w:World) {a b:Nat}{ca cb:Array Value}{ta tb:TypeId}(hne:a≠b) (ha:w.heap[a]?=some (.cells ca ta (0,0))) (hb:w.heap[b]?=some (.cells cb tb (0,0))):(binOp .neq 60 (.pointer (some ⟨a,0,none⟩)) (.pointer (some ⟨b,0,none⟩))).run Tryz.prog w=.ok (.bool true) w:=by
 obtain ⟨j,hj,hz⟩:=size87
 have hs:=run_sameAddr_other (P:=Tryz.prog) (w:=w) (a:=⟨a,0,none⟩) (b:=⟨b,0,none⟩) (fun e=>hne (by cases e;rfl)) ha hb
 have h:∀ d:Nat,(Op.equalIn (d+1) 60 (.pointer (some ⟨a,0,none⟩)) (.pointer (some ⟨b,0,none⟩))).run Tryz.prog w=.ok false w:=fun d=>by
  simp [Op.equalIn,run_underlying ptr67,sizeOf,typeInfo,hj,hz,hs]
 simp only [binOp]
 simp [Op.equal,Op.maxDepth,h 9999]
def CntJ (w:World) (r:Nd) (pre:List Nd) (W:World):Prop:=Boxed W (w.heap.size+1) 3 (.int .i64 ((pre.length-1:Nat):Int))∧W.heap[w.heap.size]?=some (.cells #[.pointer (some ⟨r.nb,0,none⟩)] 60 (0,0))∧Below w.heap.size w W
theorem cnt_norow {w W:World}{r:Nd}{pre:List Nd}(h:CntJ w r pre W):∀ k,¬ rowAt W (w.heap.size+1) k:=fun k ⟨o,s,n,c,e⟩=>by
 rw [h.1.cell] at e;cases e
theorem cnt_stay (w:World) (r:Nd) (B0:Nat) (hB:w.heap.size<B0):Stay (w.heap.size+1) B0 (fun pre W=>CntJ w r pre W):=by
 refine ⟨fun s W W' hs hk=>?_,fun s W hs k hk=>absurd hk (cnt_norow hs k)⟩
 have hz:=hs.2.2.size
 have h0:w.heap.size<W.heap.size:=(Array.getElem?_eq_some_iff.1 hs.2.1).1
 refine ⟨(hk.block _ hs.1.lt (.inr (.inl rfl))).trans hs.1,(hk.block _ h0 (.inl hB)).trans hs.2.1,⟨hk.os.trans hs.2.2.os,hk.tape.trans hs.2.2.tape,hk.output.trans hs.2.2.output,Nat.le_trans hz hk.size,fun k h=>(hk.block k (by omega) (.inl (by omega))).trans (hs.2.2.block k h)⟩⟩
theorem cnt_set {w W:World}{r:Nd}{pre pre':List Nd}(h:CntJ w r pre W):CntJ w r pre' (W.setCell ⟨w.heap.size+1,0,none⟩ (.int .i64 ((pre'.length-1:Nat):Int)))∧KeepsOthers W (W.setCell ⟨w.heap.size+1,0,none⟩ (.int .i64 ((pre'.length-1:Nat):Int)))∧Kc (w.heap.size+1) W (W.setCell ⟨w.heap.size+1,0,none⟩ (.int .i64 ((pre'.length-1:Nat):Int))):=by
 have h1:=h.1.set (.int .i64 ((pre'.length-1:Nat):Int))
 have hs:=(KeepsWalks.setCell W ⟨w.heap.size+1,0,none⟩ (.int .i64 ((pre'.length-1:Nat):Int))).size
 have hc:CntJ w r pre' (W.setCell ⟨w.heap.size+1,0,none⟩ (.int .i64 ((pre'.length-1:Nat):Int))):=⟨h1,(Below.heap_setCell _ _ _ _ (by show w.heap.size≠w.heap.size+1;omega)).trans h.2.1,h.2.2.setCell (by show w.heap.size≤w.heap.size+1;omega) _⟩
 refine ⟨hc,⟨hs,fun k o hk ho=>?_⟩,⟨hs,fun k o hk _ hne _=>(Below.heap_setCell _ _ _ k hne).trans hk,fun k hk=>absurd hk (cnt_norow hc k)⟩⟩
 refine (Below.heap_setCell _ _ _ k (fun e=>?_)).trans hk
 rw [show k=w.heap.size+1 from e,show W.heap[w.heap.size+1]?=_ from h.1] at hk
 cases hk;cases ho
theorem nb_apart {w:World}{B:Nat}{r:Nd}{ns:List Nd}(h:Mem w B r ns) {y:Nd}(hy:y∈ns):y.nb≠r.nb:=fun en=>by
 have hmb:=(List.pairwise_cons.1 h.apart).1 y hy
 have h3:=(h.all y (by simp [hy])).2.2.1
 have h4:=(h.all r (by simp)).2.2.1
 rw [en,h4] at h3
 have h5:=congrArg (fun o=>match o with | some (Obj.cells cs _ _)=>cs[4]? | _=>none) h3
 simp [Nd.cells] at h5
 exact hmb h5
set_option maxHeartbeats 2000000 in
set_option maxRecDepth 100000 in
theorem below_any {B:Nat}{r:Nd}{ns:List Nd}{es:List Ent}(w:World) (hM:Mem w B r ns) (HE:Hid (entsN ns=es)) (HT:Hid (TreeG es)) :
  Calls Tryz.prog 57 #[.pointer (some ⟨r.nb,0,none⟩)] w fun ev w'=>ev=.returned (.int .i64 (ns.length:Nat))∧Below w.heap.size w w':=by
 have HA:=hide hM
 have hf73:Fence.wide.fn 58:=trivial
 have hln:ns.length≤120:=by have:=(uh HT).len;rw [←uh HE] at this;simpa [entsN] using this
 clear hM
 refine (callsIn_wide (n:=6)).1 ?_
 refine callsIn_of_wp_marks Tryz.func57 rfl trivial ?_ rfl
 simp only [Tryz.ntmps57,List.size_toArray,List.length_cons,List.length_nil,Nat.reduceAdd,Nat.reduceSub,Array.replicate_succ,Array.replicate_zero,List.push_toArray,List.append_toArray,List.nil_append,List.cons_append]
 gi_wp2_with (gi_at_call 58;refine (callsIn_wide.2 (all_any _ _)).mono ?_;rintro e w4 ⟨rfl,rfl⟩)
 obtain ⟨W2,hW2⟩:∃ W2,W2=((w.alloc (.cells #[.pointer (some ⟨r.nb,0,none⟩)] 60)).alloc (.cells #[.int .i64 0] 3)).alloc (.cells #[.pointer (some ⟨r.nb,0,none⟩)] 60):=⟨_,rfl⟩
 have s2:W2.heap.size=w.heap.size+3:=by rw [hW2];simp
 have hb2:Below w.heap.size w W2:=by rw [hW2];exact (((Below.refl _ _).alloc (Nat.le_refl _) _).alloc (by simp) _).alloc (by simp;omega) _
 have j0:W2.heap[w.heap.size]?=some (.cells #[.pointer (some ⟨r.nb,0,none⟩)] 60 (0,0)):=by
  rw [hW2]
  exact (Below.heap_alloc _ _ _ (by simp;omega)).trans ((Below.heap_alloc _ _ _ (by simp)).trans (heap_alloc_new _ _))
 have j1:W2.heap[w.heap.size+1]?=some (.cells #[.int .i64 0] 3 (0,0)):=by
  rw [hW2]
  refine (Below.heap_alloc _ _ _ (by simp)).trans ?_
  have:=heap_alloc_new (w.alloc (.cells #[.pointer (some ⟨r.nb,0,none⟩)] 60)) (.cells #[.int .i64 0] 3)
  rw [World.size_alloc] at this
  exact this
 have x2:W2.heap[w.heap.size+1+1]?=some (.cells #[.pointer (some ⟨r.nb,0,none⟩)] 60 (0,0)):=by
  have:=heap_alloc_new ((w.alloc (.cells #[.pointer (some ⟨r.nb,0,none⟩)] 60)).alloc (.cells #[.int .i64 0] 3)) (.cells #[.pointer (some ⟨r.nb,0,none⟩)] 60)
  rw [World.size_alloc,World.size_alloc] at this
  rw [hW2];exact this
 rw [←hW2]
 have hJ0:CntJ w r [] W2:=⟨j1,j0,hb2⟩
 have hMA:MemA (w.heap.size+1) W2 B r ns:=⟨(uh HA).below hb2,fun x hx=>by
  have h1:x.nb<w.heap.size:=(Array.getElem?_eq_some_iff.1 ((uh HA).all x hx).2.2.1).1
  have h2:x.mb<w.heap.size:=World.ownsMap.lt ((uh HA).all x hx).2.2.2
  exact ⟨⟨by omega,by omega,cnt_norow hJ0 _⟩,⟨by omega,by omega,cnt_norow hJ0 _⟩⟩⟩
 clear hW2 j0 j1
 refine range_all (Bb:=w.heap.size+1) (α:=Nd) (xs:=r :: ns) rfl (by omega) (gf:=98) (lb:=#[.pointer (some ⟨w.heap.size+1+1,0,none⟩)]) rfl trivial (enters_of Tryz.func98 (by kernel_rfl) rfl)
  (all_seq es B (w.heap.size+1) (w.heap.size+1+1) 5 r ns W2 HE HT hMA x2 (by omega)) (by omega) (Below.refl _ _) (fun _=>rfl)
  (fun pre W=>CntJ w r pre W) (cnt_stay w r W2.heap.size (by omega)) hJ0
  (fun t y=>(t.setIfInBounds 7 (.pointer (some ⟨y.nb,0,none⟩))).setIfInBounds 4 (.pointer (some ⟨y.nb,0,none⟩))) ?assign ?body ?done
 case assign=>
  intro l y W K hK
  gi_wp2
  simpa using hK
 case body=>
  rintro l pre y W hJ hp
  have cb:=hJ.1.cell
  have cf:=hJ.1.frozen
  have cr:W.cell? ⟨w.heap.size,0,none⟩=some (.pointer (some ⟨r.nb,0,none⟩)):=cq 0 hJ.2.1
  cases pre with
  | nil=>
    have hy:y=r:=by
     obtain ⟨t,e⟩:=hp
     simpa using (List.cons.inj e).1
    subst hy
    have HJ:Hid (CntJ w y ([]++[y]) W):=hide hJ
    have hneq:=neq67_same W ⟨y.nb,0,none⟩
    clear hJ
    gi_wp2
    exact ⟨KeepsOthers.refl _,Kc.refl _ _,uh HJ⟩
  | cons x pre=>
    have hy:y∈ns:=by
     obtain ⟨t,e⟩:=hp
     have e2:=(List.cons.inj e).2
     rw [←e2];simp
    have hnb:=nb_apart (uh HA) hy
    have hlp:(x :: pre).length≤121:=by
     have:=hp.length_le
     simp at this ⊢
     omega
    have hMW:=(uh HA).below hJ.2.2
    have hneq:=neq67_other W hnb (hMW.all y (by simp [hy])).2.2.1 (hMW.all r (by simp)).2.2.1
    clear hMW
    have Q:=hide (cnt_set (pre':=(x :: pre)++[y]) hJ)
    have ew:IntKind.i64.wrap ((((x :: pre).length-1:Nat):Int)+1)=((((x :: pre)++[y]).length-1:Nat):Int):=by
     rw [show ((((x :: pre).length-1:Nat):Int)+1)=((((x :: pre)++[y]).length-1:Nat):Int) from by simp]
     exact wrap_i64 _ (by simp at hlp ⊢;omega)
    obtain ⟨a,ha⟩:∃ a:Int,a=(((x :: pre).length-1:Nat):Int):=⟨_,rfl⟩
    obtain ⟨b,hb⟩:∃ b:Int,b=((((x :: pre)++[y]).length-1:Nat):Int):=⟨_,rfl⟩
    rw [←ha,←hb] at ew
    rw [←ha] at cb
    rw [←hb] at Q
    have HQ:=hide Q
    clear ha hb hJ Q
    gi_wp2
    exact ⟨(uh (uh HQ)).2.1,(uh (uh HQ)).2.2,(uh (uh HQ)).1⟩
 case done=>
  rintro D W hD hJ hK
  have cb:=hJ.1.cell
  have HJ:=hide hJ
  clear hJ
  gi_wp2
  refine ⟨by simp,.inl ⟨_,_,rfl,run_takeDeferred hK,?_⟩⟩
  refine ⟨_,results_tmp rfl _ _ _,?_⟩
  refine ⟨by simp,?_⟩
  exact (uh HJ).2.2.trans (belowK_b (w:=w) (Nat.le_refl _) _ D _ _ (by omega) hK rfl rfl)
end Go.Proofs.YtehfpjcclknipaaGreatDoor.T
namespace Go.Proofs.YtehfpjcclknipaaGreatDoor.T
open Go.RowKit
def octL (n:Nat):List UInt8:=if n<8 then [UInt8.ofNat (48+n)] else octL (n / 8)++[UInt8.ofNat (48+n % 8)]
def fillL (s:List UInt8) (n:Nat):List UInt8:=s++List.replicate (n-s.length) 0
def digL (v n:Nat):List UInt8:=List.replicate (n-(octL v).length) 48++octL v++[0]
def inL (d r:List UInt8):List UInt8:=if d=[] then r else d++47 :: r
def whL:List UInt8:=[46,119,104,46]
def opqL:List UInt8:=[46,119,104,46,46,119,104,46,46,111,112,113]
def nameL (c:Ent):List UInt8:=
 if c.kind=1 then c.path.data.toList++[47]
 else if c.kind=4 then inL (dirOf c.path.data.toList) (whL++nameOf c.path.data.toList)
 else if c.kind=5 then inL c.path.data.toList opqL
 else c.path.data.toList
def slashFrom (n:List UInt8) (k:Nat):Option Nat:=((List.range n.length).find? fun i=>decide (k≤i)&&n.getD i 0==47)
def partL (n:List UInt8):List UInt8 × List UInt8:=
 if n.length≤100 then ([],n) else match slashFrom n (n.length-101) with
  | some i=>(n.take i,n.drop (i+1))
  | none=>([],n)
def flagL (c:Ent):UInt8:=if c.kind=1 then 53 else if c.kind=3 then 50 else 48
def linkL (c:Ent):List UInt8:=if c.kind=3 then c.data.data.toList else []
def dataL (c:Ent):List UInt8:=if c.kind=2 then c.data.data.toList else []
def headL (c:Ent):List UInt8:=fillL (partL (nameL c)).2 100++digL c.mode.toNat 7++digL 0 7++digL 0 7++digL (dataL c).length 11++digL 0 11
def magicL:List UInt8:=[117,115,116,97,114,0,48,48]
def tailL (c:Ent):List UInt8:=[flagL c]++fillL (linkL c) 100++magicL++List.replicate 64 0++digL 0 7++digL 0 7++fillL (partL (nameL c)).1 155++List.replicate 12 0
def sumL (l:List UInt8):Nat:=l.foldl (fun t b=>t+b.toNat) 0
def totalL (c:Ent):Nat:=256+sumL (headL c)+sumL (tailL c)
def padL (n:Nat):Nat:=(512-n % 512) % 512
def entryL (c:Ent):List UInt8:=headL c++digL (totalL c) 6++[32]++tailL c++dataL c++List.replicate (padL (dataL c).length) 0
def packL (cs:List Ent):List UInt8:=(cs.map entryL).flatten++List.replicate 1024 0
theorem fillL_len {s:List UInt8}{n:Nat}(h:s.length≤n):(fillL s n).length=n:=by
 rw [fillL,List.length_append,List.length_replicate];omega
theorem octL_lt:∀ (k:Nat) (n:Nat),n<8 ^ (k+1)→(octL n).length≤k+1
 | 0,n,h=>by
   rw [octL,if_pos (by simpa using h)];simp
 | k+1,n,h=>by
   rw [octL]
   split
   ·simp
   ·have h2:n / 8<8 ^ (k+1):=by
     rw [Nat.div_lt_iff_lt_mul (by decide),←Nat.pow_succ];exact h
    have:=octL_lt k (n / 8) h2
    simp;omega
theorem digL_len {v n:Nat}(h:(octL v).length≤n):(digL v n).length=n+1:=by
 simp only [digL,List.length_append,List.length_replicate,List.length_cons,List.length_nil];omega
theorem sumL_app (a b:List UInt8):sumL (a++b)=sumL a+sumL b:=by
 have h:∀ (l:List UInt8) (t:Nat),l.foldl (fun t b=>t+b.toNat) t=t+l.foldl (fun t b=>t+b.toNat) 0:=fun l=>by
  induction l with
  | nil=>intro t;simp
  | cons x l ih=>intro t;rw [List.foldl_cons,List.foldl_cons,ih,ih (0+x.toNat)];omega
 rw [sumL,List.foldl_append,h b,←sumL,←sumL]
theorem sumL_le (l:List UInt8):sumL l≤l.length*255:=by
 induction l with
 | nil=>simp [sumL]
 | cons x l ih=>
   rw [←List.singleton_append,sumL_app]
   have hx:sumL [x]≤255:=by
    have:=x.toNat_lt
    simp [sumL];omega
   simp only [List.singleton_append,List.length_cons]
   omega
theorem sumL_take {l:List UInt8}{k:Nat}(h:k<l.length):sumL (l.take (k+1))=sumL (l.take k)+l[k].toNat:=by
 rw [List.take_add_one,List.getElem?_eq_getElem h,sumL_app];simp [sumL]
def bt (l:List UInt8):ByteArray:=⟨l.toArray⟩
theorem bt_of (s:ByteArray):bt s.data.toList=s:=by
 cases s;simp [bt]
theorem bt_app (a b:List UInt8):bt a++bt b=bt (a++b):=by
 apply ByteArray.ext
 simp [bt,ByteArray.data_append]
theorem bt_size (a:List UInt8):(bt a).size=a.length:=by
 rw [Lib.size_eq];simp [bt]
theorem bt_list (a:List UInt8):(bt a).data.toList=a:=by simp [bt]
theorem below_drewN2 {B:Nat}{w W:World}(n:Nat) (h:Below B w W):Below B w (W.drewN n):=⟨h.os,h.tape,h.output,h.size,h.block⟩
theorem ext_take (s:ByteArray) (k:Nat):s.extract 0 k=bt (s.data.toList.take k):=by
 apply ByteArray.ext
 apply Array.ext'
 rw [ByteArray.data_extract,Array.toList_extract]
 simp [bt,List.extract]
theorem ext_drop (s:ByteArray) (k:Nat):s.extract k s.size=bt (s.data.toList.drop k):=by
 apply ByteArray.ext
 apply Array.ext'
 rw [ByteArray.data_extract,Array.toList_extract]
 have h:=Lib.size_eq s
 simp only [bt,List.extract]
 rw [List.take_of_length_le (by rw [List.length_drop];omega)]
theorem join_any (d r:ByteArray) (w:World) (_:d.size≤1073741824) (_:r.size≤1073741824) :
  Calls Tryz.prog 175 #[.string d,.string r] w fun ev w'=>ev=.returned (.string (bt (inL d.data.toList r.data.toList)))∧w'=w:=by
 by_cases hd:d.data.toList=[]
 ·have g1:d.toList.isEmpty=true:=by rw [Lib.toList_data];simpa using hd
  have HF:Hid (r=bt (inL d.data.toList r.data.toList)):=hide (by rw [inL,if_pos hd,bt_of])
  clear hd
  go_enter Tryz.func175,Tryz.ntmps175
  go_wp2
  go_ret
  exact ⟨congrArg (fun t=>Ending.returned (Value.string t)) (uh HF),rfl⟩
 ·have g1:d.toList.isEmpty=false:=by rw [Lib.toList_data];simpa using hd
  have HF:Hid (d++(⟨#[47]⟩:ByteArray)++r=bt (inL d.data.toList r.data.toList)):=hide (by
   rw [inL,if_neg hd]
   conv=>lhs;rw [←bt_of d,←bt_of r,show (⟨#[47]⟩:ByteArray)=bt [47] from rfl,bt_app,bt_app]
   simp)
  clear hd
  go_enter Tryz.func175,Tryz.ntmps175
  go_wp2
  go_ret
  exact ⟨congrArg (fun t=>Ending.returned (Value.string t)) (uh HF),rfl⟩
theorem nameOf_any (c:Ent) (w:World) (hs:c.path.size≤1048576) :
  Calls Tryz.prog 134 #[.agg #[.string c.path,.int .i64 c.kind,.int .i64 c.mode,.string c.data]] w fun ev w'=>ev=.returned (.string (bt (nameL c)))∧Below w.heap.size w w':=by
 have hb0:∀ o,Below w.heap.size w (w.alloc o):=fun o=>(Below.refl _ _).alloc (Nat.le_refl _) o
 by_cases h1:c.kind=1
 ·have HF:Hid (c.path++(⟨#[47]⟩:ByteArray)=bt (nameL c)):=hide (by
   rw [nameL,if_pos h1,←bt_app,bt_of];rfl)
  go_enter Tryz.func134,Tryz.ntmps134
  go_wp2
  go_ret
  exact ⟨congrArg (fun t=>Ending.returned (Value.string t)) (uh HF),hb0 _⟩
 ·have h1':(c.kind==1)=false:=by simp [h1]
  by_cases h4:c.kind=4
  ·have HF:∀ d n:ByteArray,d.data.toList=dirOf c.path.data.toList→n.data.toList=nameOf c.path.data.toList→bt (inL d.data.toList ((⟨#[46,119,104,46]⟩:ByteArray)++n).data.toList)=bt (nameL c):=fun d n hd hn=>by
    rw [nameL,if_neg h1,if_pos h4,hd,ByteArray.data_append,Array.toList_append,hn];rfl
   have HFh:=hide HF
   have h4':(c.kind==4)=true:=by simp [h4]
   clear HF
   go_enter Tryz.func134,Tryz.ntmps134
   go_wp2_with (first
    | (go_at_call 86;refine (last_any c.path _ (by omega)).mono ?_;rintro ev w1 ⟨dd,nn,rfl,HD,HNm,hb1⟩;have hds:dd.size≤1048576:=(by rw [Lib.size_eq,uh HD];have:=dir_le c.path.data.toList;rw [Lib.size_eq] at hs;omega);have hns:nn.size≤1048576:=(by rw [Lib.size_eq,uh HNm];have:=name_le c.path.data.toList;rw [Lib.size_eq] at hs;omega))
    | (go_at_call 175;refine (join_any dd ((⟨#[46,119,104,46]⟩:ByteArray)++nn) _ (by omega) (by rw [ByteArray.size_append];show 4+_≤_;omega)).mono ?_;rintro ev w2 ⟨rfl,hw⟩;obtain rfl:=hw.symm))
   go_ret
   exact ⟨congrArg (fun t=>Ending.returned (Value.string t)) (uh HFh dd nn (uh HD) (uh HNm)),(hb0 _).trans (hb1.mono (hb0 _).size)⟩
  ·have h4':(c.kind==4)=false:=by simp [h4]
   by_cases h5:c.kind=5
   ·have h5':(c.kind==5)=true:=by simp [h5]
    have HF:Hid (bt (inL c.path.data.toList (⟨#[46,119,104,46,46,119,104,46,46,111,112,113]⟩:ByteArray).data.toList)=bt (nameL c)):=hide (by
     rw [nameL,if_neg h1,if_neg h4,if_pos h5];rfl)
    go_enter Tryz.func134,Tryz.ntmps134
    go_wp2_with (go_at_call 175;refine (join_any c.path ⟨#[46,119,104,46,46,119,104,46,46,111,112,113]⟩ _ (by omega) (by decide)).mono ?_;rintro ev w2 ⟨rfl,hw⟩;obtain rfl:=hw.symm)
    go_ret
    exact ⟨congrArg (fun t=>Ending.returned (Value.string t)) (uh HF),hb0 _⟩
   ·have h5':(c.kind==5)=false:=by simp [h5]
    have HF:Hid (c.path=bt (nameL c)):=hide (by rw [nameL,if_neg h1,if_neg h4,if_neg h5,bt_of])
    go_enter Tryz.func134,Tryz.ntmps134
    go_wp2
    go_ret
    exact ⟨congrArg (fun t=>Ending.returned (Value.string t)) (uh HF),hb0 _⟩
theorem index_slash (a b:List UInt8) (h:(47:UInt8) ∉ a):Lib.index (a++47 :: b) [47]=(a.length:Int):=by
 induction a with
 | nil=>rw [List.nil_append,Lib.index];simp [List.isPrefixOf]
 | cons c r ih=>
   simp only [List.mem_cons,not_or] at h
   have hp:List.isPrefixOf [47] (c :: (r++47 :: b))=false:=by simp [List.isPrefixOf,h.1]
   rw [List.cons_append,Lib.index,hp,ih h.2]
   have hne:((r.length:Int)==-1)=false:=by simp
   simp [hne]
theorem cut_slash (a b:List UInt8) (h:(47:UInt8) ∉ a):Lib.cut (a++47 :: b) [47]=(a,b,true):=by
 rw [Lib.cut,index_slash a b h,if_pos (by omega)]
 simp
theorem slash_some {l:List UInt8}{k i:Nat}(h:slashFrom l k=some i):k≤i∧i<l.length∧l.drop k=(l.drop k).take (i-k)++47 :: l.drop (i+1)∧(47:UInt8) ∉ (l.drop k).take (i-k):=by
 unfold slashFrom at h
 rw [List.find?_eq_some_iff_getElem] at h
 obtain ⟨h1,j,hj,e,h2⟩:=h
 simp only [List.length_range] at hj
 simp only [List.getElem_range] at e
 subst e
 simp only [Bool.and_eq_true,decide_eq_true_eq,beq_iff_eq] at h1
 have hg:l.getD j 0=l[j]:=by rw [List.getD_eq_getElem?_getD,List.getElem?_eq_getElem hj];rfl
 refine ⟨h1.1,hj,?_,fun hm=>?_⟩
 ·have e1:l.drop j=47 :: l.drop (j+1):=by rw [List.drop_eq_getElem_cons hj,←hg,h1.2]
  have e2:l.drop j=(l.drop k).drop (j-k):=by rw [List.drop_drop];congr 1;omega
  rw [←e1,e2,List.take_append_drop]
 ·obtain ⟨q,hq,e⟩:=List.getElem_of_mem hm
  rw [List.length_take,List.length_drop] at hq
  rw [List.getElem_take,List.getElem_drop] at e
  have:=h2 (k+q) (by omega)
  simp only [List.getElem_range,Bool.not_eq_true',Bool.and_eq_false_iff,decide_eq_false_iff_not] at this
  rcases this with h3 | h3
  ·exact h3 (by omega)
  ·rw [List.getD_eq_getElem?_getD,List.getElem?_eq_getElem (by omega),Option.getD_some,e] at h3
   simp at h3
def fieldTab:List (Nat × Nat × Nat):=[(1,100,8),(2,108,8),(3,116,8),(4,124,12),(5,136,12),(6,257,8),(7,329,8),(8,337,8),(9,345,155),(10,0,100),(11,156,1),(12,157,100),(13,148,8)]
def Flds (w:World):Prop:=∀ t∈fieldTab,w.cell? ⟨t.1,0,none⟩=some (.int .i64 (t.2.1:Nat))∧w.cell? ⟨t.1,1,none⟩=some (.int .i64 (t.2.2:Nat))
theorem Flds.below {w w':World}(h:Flds w) (hb:Below w.heap.size w w'):Flds w':=fun t ht=>⟨cell_later hb (h t ht).1,cell_later hb (h t ht).2⟩
theorem Flds.at {w:World}(h:Flds w) {b o n:Nat}(ht:(b,o,n)∈fieldTab):w.cell? ⟨b,0,none⟩=some (.int .i64 (o:Nat))∧w.cell? ⟨b,1,none⟩=some (.int .i64 (n:Nat)):=h _ ht
set_option maxRecDepth 10000 in
theorem parted_any (l:List UInt8) (mx:Int) (w:World) (hl:l.length≤1048576) (hF:Flds w) (hm:w.cell? ⟨14,0,none⟩=some (.int .i64 mx)) (hp:l.length≤100∨∃ i,slashFrom l (l.length-101)=some i) :
  Calls Tryz.prog 174 #[.string (bt l)] w fun ev w'=>ev=.returned (.tuple #[.string (bt (partL l).1),.string (bt (partL l).2)])∧Below w.heap.size w w':=by
 obtain ⟨f0,f1⟩:=hF.at (b:=10) (o:=0) (n:=100) (by decide)
 obtain ⟨s,hs⟩:∃ s,s=bt l:=⟨_,rfl⟩
 have hsl:s.data.toList=l:=by rw [hs,bt_list]
 have hsz:s.size=l.length:=by rw [hs,bt_size]
 have HS:=hide hs
 have HL:=hide hsl
 have HZ:=hide hsz
 rw [←hs]
 have hs2:s.size≤1048576:=by omega
 by_cases h1:l.length≤100
 ·have i1:(s.size:Int)-100-1<0:=by omega
  have HF:Hid (partL l=([],l)):=hide (by rw [partL,if_pos h1])
  clear h1 hsl hs hp hsz
  go_enter Tryz.func174,Tryz.ntmps174
  go_wp2
  go_ret2
  refine ⟨?_,Below.refl _ _⟩
  rw [uh HF,uh HS];rfl
 ·obtain ⟨i,hi⟩:=hp.resolve_left h1
  obtain ⟨k1,k2,k3,k4⟩:=slash_some hi
  have HF:Hid (partL l=(l.take i,l.drop (i+1))):=hide (by rw [partL,if_neg h1,hi])
  obtain ⟨k,hk⟩:∃ k:Nat,k=l.length-101:=⟨_,rfl⟩
  rw [←hk] at k1 k3 k4
  have hkz:(s.size:Int)-100-1=(k:Int):=by omega
  have i1:¬ (k:Int)<0:=by omega
  have i2:(0:Int)≤(k:Int):=by omega
  have i3:(k:Int)≤(s.size:Int):=by omega
  have E1:Hid (s.extract k s.size=bt ((l.drop k).take (i-k)++47 :: l.drop (i+1))):=hide (by rw [ext_drop,hsl,←k3])
  have E2:Hid (s.extract 0 k=bt (l.take k)):=hide (by rw [ext_take,hsl])
  have E3:Hid (l.take i=l.take k++(l.drop k).take (i-k)):=hide (by
   rw [←List.take_add];congr 1;omega)
  have K4:=hide k4
  clear h1 hsl hs hp hsz hi k1 k2 k3 k4 hk
  obtain ⟨A,hA⟩:∃ A,A=(l.drop k).take (i-k):=⟨_,rfl⟩
  obtain ⟨B,hB⟩:∃ B,B=l.drop (i+1):=⟨_,rfl⟩
  rw [←hA,←hB] at E1
  rw [←hA] at E3 K4
  rw [←hB] at HF
  have hcut:Calls Tryz.prog 142 #[.string (s.extract k s.size),.string ⟨#[47]⟩] w fun ev w'=>ev=.returned (.tuple #[.string (bt A),.string (bt B),.bool true])∧Below w.heap.size w w':=by
   refine (Tryz.strings_Cut (s.extract k s.size) ⟨#[47]⟩ mx w (by rw [ByteArray.size_extract];omega) hm).mono ?_
   rintro e w' ⟨rfl,n,rfl⟩
   refine ⟨?_,below_drewN2 n (Below.refl _ _)⟩
   have e1:(s.extract k s.size).data.toList=A++47 :: B:=by rw [uh E1,bt_list]
   rw [e1,show (⟨#[47]⟩:ByteArray).data.toList=[47] from rfl,cut_slash A B (uh K4)]
   rfl
  have hAz:(bt A).size≤1048576:=by
   rw [bt_size,hA,List.length_take,List.length_drop];omega
  obtain ⟨sa,hsa⟩:∃ sa,sa=bt A:=⟨_,rfl⟩
  obtain ⟨sb,hsb⟩:∃ sb,sb=bt B:=⟨_,rfl⟩
  rw [←hsa,←hsb] at hcut
  rw [←hsa] at hAz
  have HR:Hid (s.extract 0 k++sa=bt (l.take i)):=hide (by rw [uh E2,hsa,bt_app,uh E3])
  have HSB:=hide hsb
  clear hA hB hsa hsb E1 E2 E3 K4
  go_enter Tryz.func174,Tryz.ntmps174
  go_wp2_with (go_at_call 142;refine hcut.mono ?_;clear hcut;rintro ev w1 ⟨rfl,hb1⟩)
  go_ret2
  refine ⟨?_,hb1⟩
  rw [uh HF]
  exact ret2 (uh HR) (uh HSB)
set_option maxRecDepth 10000 in
theorem bytes_any (b o n:Nat) (w:World) (h:o+n≤512) (h0:0<n) :
  Calls Tryz.prog 177 #[.pointer (some ⟨b,0,none⟩),.agg #[.int .i64 (o:Nat),.int .i64 (n:Nat)]] w fun ev w'=>ev=.returned (.slice (some ⟨b,o,none⟩) n (512-o))∧Below w.heap.size w w':=by
 have i0:(0:Int)≤(o:Int):=by omega
 have i1:(o:Int)≤(o:Int)+(n:Int):=by omega
 have i2:(o:Int)+(n:Int)≤512:=by omega
 have i3:¬ 512=o:=by omega
 go_enter Tryz.func177,Tryz.ntmps177
 go_upto_region 1 with fail
 go_quiet (fail)
 go_wp2
 go_ret
 exact ⟨congrArg (fun t=>Ending.returned (.slice (some ⟨b,o,none⟩) t (512-o))) (Nat.add_sub_cancel_left o n),below_drewN2 _ ((Below.refl _ _).alloc (Nat.le_refl _) _)⟩
def Blk (w:World) (b:Nat) (xs:List UInt8):Prop:=w.heap[b]?=some (.cells (Lib.byteCells xs).toArray 198 (0,0))∧xs.length=512
theorem Blk.below {w w':World}{b:Nat}{xs:List UInt8}(h:Blk w b xs) (hb:Below w.heap.size w w'):Blk w' b xs:=
 ⟨(hb.block b (Array.getElem?_eq_some_iff.1 h.1).1).trans h.1,h.2⟩
theorem cell_grown {w w':World}{b:Nat}(h:w.grownBy w' (some b)) {a:Addr}{v:Value}(ha:w.cell? a=some v) (hne:a.block≠b):w'.cell? a=some v:=by
 rw [World.cell?_of_block (h.block a.block (World.block_lt_of_cell? _ _ ha) (fun e=>hne (Option.some.inj e)))];exact ha
theorem grown_trans {w w1 w2:World}{b:Nat}(h1:w.grownBy w1 (some b)) (h2:w1.grownBy w2 (some b)):w.grownBy w2 (some b):=
 ⟨h2.os.trans h1.os,h2.tape.trans h1.tape,h2.output.trans h1.output,Nat.le_trans h1.size h2.size,fun k hk hne=>(h2.block k (Nat.lt_of_lt_of_le hk h1.size) hne).trans (h1.block k hk hne)⟩
theorem grown_below {w w':World}{b:Nat}(h:Below w.heap.size w w'):w.grownBy w' (some b):=⟨h.os,h.tape,h.output,h.size,fun k hk _=>h.block k hk⟩
theorem Flds.grown {w w':World}{b:Nat}(h:Flds w) (hg:w.grownBy w' (some b)) (hb:15<b):Flds w':=fun t ht=>by
 have hlt:t.1<15:=by
  simp only [fieldTab,List.mem_cons,List.not_mem_nil,or_false] at ht
  rcases ht with rfl | rfl | rfl | rfl | rfl | rfl | rfl | rfl | rfl | rfl | rfl | rfl | rfl <;> decide
 exact ⟨cell_grown hg (h t ht).1 (by show t.1≠b;omega),cell_grown hg (h t ht).2 (by show t.1≠b;omega)⟩
theorem splice_cells {A X B s:List UInt8}(hs:s.length≤X.length):(Lib.byteCells (A++X++B)).take A.length++Lib.byteCells s++(Lib.byteCells (A++X++B)).drop (A.length+s.length)=Lib.byteCells (A++(s++X.drop s.length)++B):=by
 have e1:(Lib.byteCells (A++X++B)).take A.length=Lib.byteCells A:=by
  rw [List.append_assoc,Lib.byteCells_append,List.take_left' (by rw [Lib.byteCells_length])]
 have e2:(Lib.byteCells (A++X++B)).drop (A.length+s.length)=Lib.byteCells (X.drop s.length++B):=by
  rw [List.append_assoc,Lib.byteCells_append,←List.drop_drop,List.drop_left' (by rw [Lib.byteCells_length]),Lib.byteCells,←List.map_drop,←Lib.byteCells,List.drop_append_of_le_length hs]
 rw [e1,e2,←Lib.byteCells_append,←Lib.byteCells_append]
 simp [List.append_assoc]
theorem size5:(Tryz.prog.info? 5).map (·.size)=some 1:=by kernel_rfl
set_option maxRecDepth 10000 in
theorem setText_any (b o n:Nat) (A X B:List UInt8) (s:ByteArray) (w:World) (hk:Blk w b (A++X++B)) (hA:A.length=o) (hX:X.length=n) (hs:s.size≤n) (h0:0<n) :
  Calls Tryz.prog 137 #[.pointer (some ⟨b,0,none⟩),.agg #[.int .i64 (o:Nat),.int .i64 (n:Nat)],.string s] w fun ev w'=>ev=.returned (.tuple #[])∧Hid (Blk w' b (A++(s.data.toList++X.drop s.size)++B))∧w.grownBy w' (some b):=by
 have hl:=hk.2
 simp only [List.length_append] at hl
 have hon:o+n≤512:=by omega
 have hz:s.size=s.data.toList.length:=Lib.size_eq s
 have HK:=hide hk
 have HA:=hide hA
 have HZ:=hide hz
 have hbl:b<w.heap.size:=(Array.getElem?_eq_some_iff.1 hk.1).1
 have hfit:∀ w1:World,Below w.heap.size w w1→∃ w2,(Builtin.copy_ #[145,9] 3 #[.slice (some ⟨b,o,none⟩) n (512-o),.string s]).run Tryz.prog w1=.ok (.int .i64 s.size) w2∧Hid (Blk w2 b (A++(s.data.toList++X.drop s.size)++B))∧w.grownBy w2 (some b):=fun w1 hb1=>by
  have hk1:=(uh HK).below hb1
  refine ⟨_,Lib.run_copy_row_string w1 145 9 3 5 b o n (512-o) s _ 198 Tryz.underlying145 size5 hk1.1 hs ?_,hide ⟨?_,?_⟩,?_⟩
  ·rw [List.size_toArray,Lib.byteCells_length,hk1.2];omega
  ·refine (setRow_heap _ _ _ _ _ _ hk1.1).trans ?_
   congr 2
   rw [←hA,hz]
   exact congrArg List.toArray (splice_cells (by omega))
  ·have:=(uh HK).2
   simp only [List.length_append,List.length_drop] at this ⊢
   omega
  ·exact ⟨hb1.os,hb1.tape,hb1.output,by simpa using hb1.size,fun k hk hne=>(setRow_other _ _ _ _ (fun e=>hne (congrArg some e))).trans (hb1.block k hk)⟩
 have HFit:=hide hfit
 have hb0:Below w.heap.size w (w.alloc (.cells #[.int .i64 (o:Nat),.int .i64 (n:Nat)] 233)):=(Below.refl _ _).alloc (Nat.le_refl _) _
 clear hk hA hl hz hfit hX
 go_enter Tryz.func137,Tryz.ntmps137
 go_wp2_with (first
  | (go_at_call 177;refine (bytes_any b o n _ hon h0).mono ?_;rintro ev w1 ⟨rfl,hb1⟩;obtain ⟨w2,hrun,HB,hg⟩:=uh HFit w1 (hb0.trans (hb1.mono hb0.size)))
  | (at_builtin;refine Lib.wpList_copy_run _ rfl _ _ 145 9 rfl _ _ rfl rfl hrun ?_))
 go_end0
 exact ⟨rfl,HB,hg⟩
end Go.Proofs.YtehfpjcclknipaaGreatDoor.T
namespace Go.Proofs.YtehfpjcclknipaaGreatDoor.T
open Go Go.RowKit
theorem ofInt_i64 (a:Nat) (ha:a<9223372036854775808):(BitVec.ofInt 64 (a:Int)).toNat=a:=by
 rw [BitVec.ofInt_natCast,BitVec.toNat_ofNat];exact Nat.mod_eq_of_lt (by omega)
def rr (x n:Nat):Nat:=(x / 2 ^ n) ||| (x*2 ^ (32-n) % 4294967296)
end Go.Proofs.YtehfpjcclknipaaGreatDoor.T
namespace Go.Proofs.YtehfpjcclknipaaGreatDoor.T
open Go.RowKit
theorem pow2_8 (w:World):Calls Tryz.prog 274 #[.int .i64 8] w fun ev w'=>ev=.returned (.bool true)∧w'=w:=by
 have e1:bits .and .i64 8 7=0:=by rfl
 go_enter Tryz.func274,Tryz.ntmps274
 go_wp2
 go_ret
 simp
theorem tz64_8 (w:World) (h:w.cell? ⟨19,7,none⟩=some (.int .u8 3)):Calls Tryz.prog 290 #[.int .u64 8] w fun ev w'=>ev=.returned (.int .i64 3)∧w'=w:=by
 have e1:IntKind.u64.wrap (-8)=18446744073709551608:=by rfl
 have e2:bits .and .u64 8 18446744073709551608=8:=by rfl
 have e3:IntKind.u64.wrap (8*285870213051353865)=2286961704410830920:=by rfl
 go_enter Tryz.func290,Tryz.ntmps290
 go_wp2
 go_ret
 exact ⟨rfl,rfl⟩
theorem tz_8 (w:World) (h:w.cell? ⟨19,7,none⟩=some (.int .u8 3)):Calls Tryz.prog 275 #[.int .u64 8] w fun ev w'=>ev=.returned (.int .i64 3)∧w'=w:=by
 go_enter Tryz.func275,Tryz.ntmps275
 go_wp2_with (go_at_call 290;refine (tz64_8 _ h).mono ?_;rintro ev w1 ⟨rfl,rfl⟩)
 go_ret
 exact ⟨rfl,rfl⟩
