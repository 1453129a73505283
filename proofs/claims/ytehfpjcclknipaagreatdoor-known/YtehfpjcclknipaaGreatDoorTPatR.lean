import Derived.Test.YtehfpjcclknipaaGreatDoorJTChgA
namespace Go.Proofs.YtehfpjcclknipaaGreatDoor.T
open Go.RowKit Go.Maps
def mark1 (t:List Ent) (c:Ent):List Ent:=if c.kind=4 then wo t c.path.data.toList true else if c.kind=5 then wo t c.path.data.toList false else t
def marksF (t cs:List Ent):List Ent:=cs.foldl mark1 t
theorem mark1_tree {t:List Ent}(h:TreeS t) (c:Ent):TreeS (mark1 t c):=by
 unfold mark1
 split
 ·exact wo_tree h _ _
 ·split
  ·exact wo_tree h _ _
  ·exact h
theorem marks_tree:∀ (cs:List Ent) {t:List Ent},TreeS t→TreeS (marksF t cs)
 | [],_,h=>h
 | c :: cs,_,h=>marks_tree cs (mark1_tree h c)
theorem mark1_len (t:List Ent) (c:Ent):(mark1 t c).length≤t.length:=by
 unfold mark1
 split
 ·exact List.length_filter_le _ _
 ·split
  ·exact List.length_filter_le _ _
  ·exact Nat.le_refl _
theorem marks_len:∀ (cs t:List Ent),(marksF t cs).length≤t.length
 | [],_=>Nat.le_refl _
 | c :: cs,t=>Nat.le_trans (marks_len cs (mark1 t c)) (mark1_len t c)
theorem marks_snoc {t cs:List Ent}{k:Nat}{c:Ent}(h:cs[k]?=some c):marksF t (cs.take (k+1))=mark1 (marksF t (cs.take k)) c:=by
 rw [List.take_add_one,h,marksF,marksF,List.foldl_append];rfl
def put1 (t:List Ent) (c:Ent):List Ent:=if c.kind=4∨c.kind=5 then t else putE t c
def putsF (t cs:List Ent):List Ent:=cs.foldl put1 t
theorem puts_snoc {t cs:List Ent}{k:Nat}{c:Ent}(h:cs[k]?=some c):putsF t (cs.take (k+1))=put1 (putsF t (cs.take k)) c:=by
 rw [List.take_add_one,h,putsF,putsF,List.foldl_append];rfl
def putBad (t cs:List Ent) (i:Nat):Bool:=match cs[i]? with
 | none=>false
 | some c=>!decide (c.kind=4∨c.kind=5)&&!decide (kindP (putsF t (cs.take i)) (dirOf c.path.data.toList)=1)
theorem putBad_eq {t cs:List Ent}{i:Nat}{c:Ent}(h:cs[i]?=some c):putBad t cs i=(!decide (c.kind=4∨c.kind=5)&&!decide (kindP (putsF t (cs.take i)) (dirOf c.path.data.toList)=1)):=by unfold putBad;rw [h]
theorem put_len {α:Type}{f:α→List UInt8}{l:List α}(h:l.Pairwise fun a b=>ltP (f a) (f b)=true) (both:Bool) (y:α):(putG f l both y).length≤l.length+1:=by
 have e:=sorted_split (fun x=>ltP (f x) (f y)) (fun x=>keepPut both (f y) (f x)) l (h.imp fun {x z} hl hb=>by
  have h1:=(keepPut_iff.1 hb).1
  cases h2:ltP (f z) (f y)
  ·rfl
  ·have:=totP.trans (totP.trans h1 hl) h2
   rw [totP.irr] at this;cases this) (fun x _ ha=>by
  cases hb:keepPut both (f y) (f x)
  ·rfl
  ·have:=totP.trans ha (keepPut_iff.1 hb).1
   rw [totP.irr] at this;cases this)
 have h2:=congrArg List.length e
 have h3:=List.length_filter_le (fun x=>ltP (f x) (f y) || keepPut both (f y) (f x)) l
 rw [List.length_append] at h2
 rw [putG,List.length_append,List.length_cons]
 omega
theorem chOk_parted {c:Ent}(h:chOk c=true) (h4:c.kind=4):Parted c.path.data.toList:=by
 have h1:=chOk_path h
 exact prt_up h1.1 (fun e=>by have:=h1.2 e;omega)
theorem chOk_ent {c:Ent}(h:chOk c=true) (hk:¬ (c.kind=4∨c.kind=5)):entOk c=true:=by
 unfold chOk at h
 rw [if_neg hk] at h
 exact h
set_option maxHeartbeats 2000000 in
set_option maxRecDepth 100000 in
theorem doMarks_any (r:Nd) (ns:List Nd) (B:Nat) (es:List Ent) (ao:Option Addr) (cap n:Nat) (cs:List Ent) (m:Int) (w:World) (hM:Mem w B r ns) (HE:Hid (entsN ns=es)) (HT:Hid (TreeS es)) (hr:∀ W,Below B w W→ERow W ao cs) (HN:Hid (n=cs.length)) (hn:n≤4294967280) (HS:Hid (Small cs)) (HC:Hid (∀ c∈cs,chOk c=true)) (hB:B≤w.heap.size) (hm:∀ W,Below B w W→W.cell? ⟨14,0,none⟩=some (.int .i64 m)) :
  Calls Tryz.prog 55 #[.pointer (some ⟨r.nb,0,none⟩),.slice ao n cap] w fun ev w'=>ev=.returned (.tuple #[])∧Hid (∃ ns',Mem w' B r ns'∧entsN ns'=marksF es cs)∧Below B w w':=by
 have HM:=hide hm
 have HMem:=hide hM
 have HR:=hide hr
 have HB:=hide hB
 clear hm hM hr hB
 go_enter Tryz.func55,Tryz.ntmps55
 go_wp2_with fail
 go_loopw [8] (fun i wr=>∃ (k:Nat) (ns1:List Nd),k≤n∧i=.int .i64 k∧Below B w wr∧Hid (entsN ns1=marksF es (cs.take k))∧Hid (Mem wr B r ns1)) (fun i _=>n-(intOf i).toNat)
 case atStart=>exact ⟨0,ns,by omega,rfl,Below.refl _ _,hide (uh HE),HMem⟩
 case round=>
  obtain ⟨k,ns1,hk,rfl,hb,HE1,HM1⟩:=hrel
  by_cases hlt:k<n
  ·obtain ⟨c,he⟩:∃ c,cs[k]?=some c:=⟨cs[k]'(by have:=uh HN;omega),List.getElem?_eq_getElem (by have:=uh HN;omega)⟩
   obtain ⟨g,o,rfl,c0,c1,c2,c3⟩:=(uh HR wr hb) k c he
   have i0:(0:Int)≤(k:Int):=by omega
   have i1:(k:Int)<(n:Int):=by omega
   have hs1:=(uh HS c (List.mem_of_getElem? he)).1
   have HLen:Hid (k<cs.length):=hide (by have:=uh HN;omega)
   obtain ⟨W0,hW0⟩:∃ W0,W0=wr.alloc (.cells #[.string c.path,.int .i64 c.kind,.int .i64 c.mode,.string c.data] 41):=⟨_,rfl⟩
   have hB0w:Below wr.heap.size wr W0:=by rw [hW0];exact (Below.refl _ _).alloc (Nat.le_refl _) _
   have q0:W0.cell? ⟨wr.heap.size,0,none⟩=some (.string c.path):=by rw [hW0];exact cq 0 (heap_alloc_new _ _)
   have q1:W0.cell? ⟨wr.heap.size,1,none⟩=some (.int .i64 c.kind):=by rw [hW0];exact cq 1 (heap_alloc_new _ _)
   have q2:W0.cell? ⟨wr.heap.size,2,none⟩=some (.int .i64 c.mode):=by rw [hW0];exact cq 2 (heap_alloc_new _ _)
   have q3:W0.cell? ⟨wr.heap.size,3,none⟩=some (.string c.data):=by rw [hW0];exact cq 3 (heap_alloc_new _ _)
   have HEc:=hide he
   clear he
   go_upto_region 3 with fail
   rw [←hW0]
   clear hW0 c0 c1 c2 c3
   have hBz:=Nat.le_trans (uh HB) hb.size
   have hB0:=hb.trans (hB0w.mono hBz)
   have hBW:=Nat.le_trans hBz hB0w.size
   have HM0:=hide ((uh HM1).below hB0w)
   have HT1:Hid (TreeS (entsN ns1)):=hide (by rw [uh HE1];exact marks_tree _ (uh HT))
   have HCc:=hide (uh HC c (List.mem_of_getElem? (uh HEc)))
   have HSn:=hide (marks_snoc (t:=es) (uh HEc))
   clear hB0w q2 q3
   by_cases h4:c.kind=4
   ·rw [h4] at q1
    have HQ:Hid (Parted c.path.data.toList):=hide (chOk_parted (uh HCc) h4)
    have HH4:=hide h4
    clear h4
    go_wp2_with (go_at_call 95;refine (remove_any r ns1 B c.path m _ (uh HM0) HT1 HQ hBW hs1 (uh HM _ hB0)).mono ?_;rintro ev w3 ⟨rfl,HX3,hb3⟩)
    obtain ⟨ns2,hm3,he3⟩:=uh HX3
    have hB3:=hB0.trans hb3
    have HM3:=hide hm3
    have R:entsN ns2=marksF es (cs.take (k+1)):=by rw [uh HSn,he3,uh HE1,mark1,if_pos (uh HH4)]
    clear hm3 he3
    go_roundw
    case rel=>
     first
      | exact ⟨k+1,ns2,by omega,by go_num,hB3,hide R,HM3⟩
      | ((repeat apply Exists.intro);exact ⟨⟨k+1,ns2,by omega,by go_num,hB3,hide R,HM3⟩,rfl⟩)
    case measure=>simp [intOf];omega
   ·have h4':(c.kind==4)=false:=by simp [h4]
    by_cases h5:c.kind=5
    ·rw [h5] at q1
     have HH4:=hide h4
     have HH5:=hide h5
     clear h4 h4' h5
     go_wp2_with (go_at_call 96;refine (clear_any r ns1 B c.path m _ (uh HM0) HT1 hBW hs1 (uh HM _ hB0)).mono ?_;rintro ev w3 ⟨rfl,HX3,hb3⟩)
     obtain ⟨ns2,hm3,he3⟩:=uh HX3
     have hB3:=hB0.trans hb3
     have HM3:=hide hm3
     have R:entsN ns2=marksF es (cs.take (k+1)):=by rw [uh HSn,he3,uh HE1,mark1,if_neg (uh HH4),if_pos (uh HH5)]
     clear hm3 he3
     go_roundw
     case rel=>
      first
       | exact ⟨k+1,ns2,by omega,by go_num,hB3,hide R,HM3⟩
       | ((repeat apply Exists.intro);exact ⟨⟨k+1,ns2,by omega,by go_num,hB3,hide R,HM3⟩,rfl⟩)
     case measure=>simp [intOf];omega
    ·have h5':(c.kind==5)=false:=by simp [h5]
     have R0:Hid (entsN ns1=marksF es (cs.take (k+1))):=hide (by rw [uh HSn,uh HE1,mark1,if_neg h4,if_neg h5])
     go_wp2_with fail
     go_roundw
     case rel=>
      have R:=uh R0
      first
       | exact ⟨k+1,ns1,by omega,by go_num,hB0,hide R,HM0⟩
       | ((repeat apply Exists.intro);exact ⟨⟨k+1,ns1,by omega,by go_num,hB0,hide R,HM0⟩,rfl⟩)
     case measure=>simp [intOf];omega
  ·have HF:Hid (entsN ns1=marksF es cs):=hide (by rw [uh HE1,List.take_of_length_le (by have:=uh HN;omega)])
   go_wp2_with fail
   go_end0
   exact ⟨rfl,hide ⟨ns1,uh HM1,uh HF⟩,hb⟩
set_option maxHeartbeats 2000000 in
set_option maxRecDepth 100000 in
theorem putEntries_any (r:Nd) (ns:List Nd) (B:Nat) (es:List Ent) (ao:Option Addr) (cap n:Nat) (cs:List Ent) (m:Int) (w:World) (hM:Mem w B r ns) (HE:Hid (entsN ns=es)) (HT:Hid (TreeS es)) (hl:es.length≤40) (hr:∀ W,Below B w W→ERow W ao cs) (HN:Hid (n=cs.length)) (hn:n≤80) (HS:Hid (Small cs)) (HC:Hid (∀ c∈cs,chOk c=true)) (hB:B≤w.heap.size) (hm:∀ W,Below B w W→W.cell? ⟨14,0,none⟩=some (.int .i64 m)) :
  Calls Tryz.prog 56 #[.pointer (some ⟨r.nb,0,none⟩),.slice ao n cap] w fun ev w'=>∃ er,ev=.returned er∧Hid (ErrP w' (putBad es cs) cs.length 9 er)∧Hid (er=.nilIface→∃ ns',Mem w' B r ns'∧entsN ns'=putsF es cs∧TreeS (putsF es cs)∧(putsF es cs).length≤120)∧Below B w w':=by
 have HM:=hide hm
 have HMem:=hide hM
 have HR:=hide hr
 have HB:=hide hB
 clear hm hM hr hB
 go_enter Tryz.func56,Tryz.ntmps56
 go_wp2_with fail
 go_loopw [9] (fun i wr=>∃ (k:Nat) (ns1:List Nd),k≤n∧i=.int .i64 k∧Below B w wr∧Hid (entsN ns1=putsF es (cs.take k)∧TreeS (entsN ns1)∧ns1.length≤40+k)∧Hid (Mem wr B r ns1)∧Hid (∀ j,j<k→putBad es cs j=false)) (fun i _=>n-(intOf i).toNat)
 case atStart=>exact ⟨0,ns,by omega,rfl,Below.refl _ _,hide ⟨uh HE,by rw [uh HE];exact uh HT,by have:=congrArg List.length (uh HE);simp [entsN] at this;omega⟩,HMem,hide (by intro j hj;omega)⟩
 case round=>
  obtain ⟨k,ns1,hk,rfl,hb,HE1,HM1,HK⟩:=hrel
  by_cases hlt:k<n
  ·obtain ⟨c,he⟩:∃ c,cs[k]?=some c:=⟨cs[k]'(by have:=uh HN;omega),List.getElem?_eq_getElem (by have:=uh HN;omega)⟩
   obtain ⟨g,o,rfl,c0,c1,c2,c3⟩:=(uh HR wr hb) k c he
   have i0:(0:Int)≤(k:Int):=by omega
   have i1:(k:Int)<(n:Int):=by omega
   have hs1:=(uh HS c (List.mem_of_getElem? he)).1
   have HLen:Hid (k<cs.length):=hide (by have:=uh HN;omega)
   obtain ⟨W0,hW0⟩:∃ W0,W0=wr.alloc (.cells #[.string c.path,.int .i64 c.kind,.int .i64 c.mode,.string c.data] 41):=⟨_,rfl⟩
   have hB0w:Below wr.heap.size wr W0:=by rw [hW0];exact (Below.refl _ _).alloc (Nat.le_refl _) _
   have q0:W0.cell? ⟨wr.heap.size,0,none⟩=some (.string c.path):=by rw [hW0];exact cq 0 (heap_alloc_new _ _)
   have q1:W0.cell? ⟨wr.heap.size,1,none⟩=some (.int .i64 c.kind):=by rw [hW0];exact cq 1 (heap_alloc_new _ _)
   have q2:W0.cell? ⟨wr.heap.size,2,none⟩=some (.int .i64 c.mode):=by rw [hW0];exact cq 2 (heap_alloc_new _ _)
   have q3:W0.cell? ⟨wr.heap.size,3,none⟩=some (.string c.data):=by rw [hW0];exact cq 3 (heap_alloc_new _ _)
   have HEc:=hide he
   clear he
   go_upto_region 4 with fail
   rw [←hW0]
   clear hW0 c0 c1 c2 c3
   have hBz:=Nat.le_trans (uh HB) hb.size
   have hB0:=hb.trans (hB0w.mono hBz)
   have HM0:=hide ((uh HM1).below hB0w)
   have HCc:=hide (uh HC c (List.mem_of_getElem? (uh HEc)))
   have HSn:=hide (puts_snoc (t:=es) (uh HEc))
   have hln:=(uh HE1).2.2
   have hMk:=isMark_any c W0
   by_cases hmk:c.kind=4∨c.kind=5
   ·rw [decide_eq_true hmk] at hMk
    have C:Hid (putBad es cs k=false):=hide (by rw [putBad_eq (uh HEc),decide_eq_true hmk];rfl)
    have R0:Hid (entsN ns1=putsF es (cs.take (k+1))):=hide (by rw [uh HSn,(uh HE1).1,put1,if_pos hmk])
    clear hmk
    go_wp2_with (go_at_call 97;refine hMk.mono ?_;clear hMk;rintro ev w3 ⟨rfl,hb3⟩)
    have hB3:=hB0.trans (hb3.mono (Nat.le_trans hBz hB0w.size))
    have HM3:=hide ((uh HM0).below hb3)
    go_roundw
    case rel=>
     have R:∀ j,j<k+1→putBad es cs j=false:=fun j hj=>by
      rcases Nat.lt_or_ge j k with h | h
      ·exact uh HK j h
      ·have e9:j=k:=by omega
       rw [e9];exact uh C
     have R1:entsN ns1=putsF es (cs.take (k+1))∧TreeS (entsN ns1)∧ns1.length≤40+(k+1):=⟨uh R0,(uh HE1).2.1,by omega⟩
     first
      | exact ⟨k+1,ns1,by omega,by go_num,hB3,hide R1,HM3,hide R⟩
      | ((repeat apply Exists.intro);exact ⟨⟨k+1,ns1,by omega,by go_num,hB3,hide R1,HM3,hide R⟩,rfl⟩)
    case measure=>simp [intOf];omega
   ·rw [decide_eq_false hmk] at hMk
    have HEn:Hid (entOk c=true):=hide (chOk_ent (uh HCc) hmk)
    have HMk:=hide hmk
    clear hmk
    by_cases hkd:kindP (entsN ns1) (dirOf c.path.data.toList)=1
    ·have HKd:=hide hkd
     clear hkd
     have C:Hid (putBad es cs k=false):=hide (by
      have h1:=uh HKd
      rw [(uh HE1).1] at h1
      rw [putBad_eq (uh HEc),h1];simp)
     go_wp2_with (first
      | (go_at_call 97;refine hMk.mono ?_;clear hMk;rintro ev w3 ⟨rfl,hb3⟩;have q0:=cell_later hb3 q0;have q1:=cell_later hb3 q1;have q2:=cell_later hb3 q2;have q3:=cell_later hb3 q3;have HM3:=hide ((uh HM0).below hb3);have hB3:=hB0.trans (Below.mono (B':=B) hb3 (Nat.le_trans hBz hB0w.size)))
      | (go_at_call 45;refine (put_any r ns1 B c m w3 (uh HM3) (hide (uh HE1).2.1) HEn (by omega) (Nat.le_trans (Nat.le_trans hBz hB0w.size) hb3.size) hs1 (uh HM _ hB3)).mono ?_;rintro ev w4 ⟨b,rfl,HBk,HX4,hb4⟩;obtain rfl:b=true:=(uh HBk).trans (decide_eq_true (uh HKd))))
     have hB4:=hB3.trans hb4
     obtain ⟨ns2,hm4,he4⟩:=uh HX4 (by simp)
     have HM4:=hide hm4
     have HE2:Hid (entsN ns2=putsF es (cs.take (k+1))∧TreeS (entsN ns2)∧ns2.length≤40+(k+1)):=hide (by
      refine ⟨by rw [uh HSn,he4,(uh HE1).1,put1,if_neg (uh HMk)],by rw [he4];exact put_tree (uh HE1).2.1 (uh HEn) (uh HKd),?_⟩
      have h1:=congrArg List.length he4
      have h2:=put_len (f:=Ent.q) (uh HE1).2.1.ord (bothE (entsN ns1) c) c
      rw [putE] at h1
      simp only [entsN,List.length_map] at h1 h2
      omega)
     clear hm4 he4
     go_roundw
     case rel=>
      have R:∀ j,j<k+1→putBad es cs j=false:=fun j hj=>by
       rcases Nat.lt_or_ge j k with h | h
       ·exact uh HK j h
       ·have e9:j=k:=by omega
        rw [e9];exact uh C
      first
       | exact ⟨k+1,ns2,by omega,by go_num,hB4,HE2,HM4,hide R⟩
       | ((repeat apply Exists.intro);exact ⟨⟨k+1,ns2,by omega,by go_num,hB4,HE2,HM4,hide R⟩,rfl⟩)
     case measure=>simp [intOf];omega
    ·have HKd:=hide hkd
     clear hkd
     have C:Hid (putBad es cs k=true):=hide (by
      have h1:=uh HKd
      rw [(uh HE1).1] at h1
      rw [putBad_eq (uh HEc),decide_eq_false (uh HMk),decide_eq_false h1];rfl)
     go_wp2_with (first
      | (go_at_call 97;refine hMk.mono ?_;clear hMk;rintro ev w3 ⟨rfl,hb3⟩;have q0:=cell_later hb3 q0;have q1:=cell_later hb3 q1;have q2:=cell_later hb3 q2;have q3:=cell_later hb3 q3;have HM3:=hide ((uh HM0).below hb3);have hB3:=hB0.trans (Below.mono (B':=B) hb3 (Nat.le_trans hBz hB0w.size)))
      | (go_at_call 45;refine (put_any r ns1 B c m w3 (uh HM3) (hide (uh HE1).2.1) HEn (by omega) (Nat.le_trans (Nat.le_trans hBz hB0w.size) hb3.size) hs1 (uh HM _ hB3)).mono ?_;rintro ev w4 ⟨b,rfl,HBk,HX4,hb4⟩;obtain rfl:b=false:=(uh HBk).trans (decide_eq_false (uh HKd))))
     have hB4:=hB3.trans hb4
     go_ret
     refine ⟨_,rfl,hide (.inr ⟨k,⟨w4.heap.size,rfl,?_,?_⟩,.inr ⟨k,rfl,uh HLen,uh C,uh HK⟩⟩),hide (by intro h;cases h),hB4.alloc (Nat.le_trans (uh HB) hB4.size) _⟩
     ·exact cq 0 (heap_alloc_new w4 _)
     ·exact cq 1 (heap_alloc_new w4 _)
  ·have HF:Hid (FirstP (putBad es cs) cs.length (-1)):=hide (.inl ⟨rfl,fun i hi=>uh HK i (by have:=uh HN;omega)⟩)
   have HG:Hid (entsN ns1=putsF es cs):=hide (by rw [(uh HE1).1,List.take_of_length_le (by have:=uh HN;omega)])
   have hln:=(uh HE1).2.2
   go_wp2_with fail
   go_ret
   refine ⟨.nilIface,rfl,hide (.inl ⟨rfl,uh HF⟩),hide (fun _=>⟨ns1,uh HM1,uh HG,by rw [←uh HG];exact (uh HE1).2.1,?_⟩),hb⟩
   rw [←uh HG]
   simp only [entsN,List.length_map]
   omega
end Go.Proofs.YtehfpjcclknipaaGreatDoor.T
