import Derived.Test.YtehfpjcclknipaaGreatDoorJAs
namespace Go.Proofs.YtehfpjcclknipaaGreatDoor
open Go.RowKit
theorem pre_cons (c:UInt8) (l p:List UInt8):Lib.hasPrefix l (c :: p)=(match l with | []=>false | d :: r=>c==d&&Lib.hasPrefix r p):=by
 cases l with
 | nil=>rfl
 | cons d r=>simp [Lib.hasPrefix,List.isPrefixOf]
theorem pre_nil (l:List UInt8):Lib.hasPrefix l []=true:=by simp [Lib.hasPrefix,List.isPrefixOf]
theorem beq_swap (c d:UInt8):(c==d)=(some d==some c):=by
 rw [Bool.eq_iff_iff,beq_iff_eq,beq_iff_eq]
 exact ⟨fun h=>by rw [h],fun h=>by injection h with h; exact h.symm⟩
theorem beg_one (s:ByteArray) (k:Nat) (c:UInt8):begG s k ⟨#[c]⟩=(s.data.toList[k]?==some c):=by
 unfold begG
 show Lib.hasPrefix _ [c]=_
 rw [pre_cons]
 cases h:s.data.toList[k]? with
 | none=>
  rw [List.drop_eq_nil_of_le (by simpa using h)]; rfl
 | some d=>
  obtain ⟨h1,h2⟩:=List.getElem?_eq_some_iff.1 h
  rw [List.drop_eq_getElem_cons h1,h2]
  simp only [pre_nil,Bool.and_true]
  exact beq_swap c d
theorem beg_two (s:ByteArray) (k:Nat):begG s k ⟨#[92,10]⟩=goesG s.data.toList k:=by
 unfold begG goesG
 show Lib.hasPrefix _ [92,10]=_
 rw [pre_cons]
 cases h:s.data.toList[k]? with
 | none=>
  rw [List.drop_eq_nil_of_le (by simpa using h)]; rfl
 | some d=>
  obtain ⟨h1,h2⟩:=List.getElem?_eq_some_iff.1 h
  rw [List.drop_eq_getElem_cons h1,h2]
  simp only
  have:=beg_one s (k+1) 10
  unfold begG at this
  rw [show (⟨#[10]⟩:ByteArray).data.toList=[10] from rfl] at this
  rw [this]
  rw [beq_swap 92 d]
def skpG (l:List UInt8) (k:Nat):Nat:=
 if hk:l[k]?=some 32 then
  have hlt:k<l.length:=(List.getElem?_eq_some_iff.1 hk).1
  skpG l (k+1)
 else if hg:goesG l k=true then
  have hlt:k<l.length:=by
   unfold goesG at hg; simp only [Bool.and_eq_true,beq_iff_eq] at hg
   exact (List.getElem?_eq_some_iff.1 hg.1).1
  skpG l (k+2)
 else k
termination_by l.length-k
decreasing_by all_goals omega
theorem goes_lt {l:List UInt8} {k:Nat} (hg:goesG l k=true):k+1<l.length:=by
 unfold goesG at hg; simp only [Bool.and_eq_true,beq_iff_eq] at hg
 exact (List.getElem?_eq_some_iff.1 hg.2).1
theorem skp_blank {l:List UInt8} {k:Nat} (h:l[k]?=some 32):skpG l k=skpG l (k+1):=by rw [skpG,dif_pos h]
theorem skp_goes {l:List UInt8} {k:Nat} (h:goesG l k=true):skpG l k=skpG l (k+2):=by
 rw [skpG]
 have hn:¬ l[k]?=some 32:=by
  unfold goesG at h; simp only [Bool.and_eq_true,beq_iff_eq] at h
  rw [h.1]; simp
 rw [dif_neg hn,dif_pos h]
theorem skp_end {l:List UInt8} {k:Nat} (h:¬ l[k]?=some 32) (hg:goesG l k=false):skpG l k=k:=by
 rw [skpG,dif_neg h,dif_neg (by simp [hg])]
theorem skp_ge (l:List UInt8) (k:Nat):k≤skpG l k:=by
 fun_induction skpG l k <;> omega
theorem skp_le {l:List UInt8} {k:Nat} (h:k≤l.length):skpG l k≤l.length:=by
 fun_induction skpG l k with
 | case1 k hk hlt ih=>exact ih (by omega)
 | case2 k hk hg hlt ih=>exact ih (by have:=goes_lt hg; omega)
 | case3=>exact h
theorem skp_stop (l:List UInt8) (k:Nat):¬ l[skpG l k]?=some 32∧goesG l (skpG l k)=false:=by
 fun_induction skpG l k with
 | case1 k hk hlt ih=>exact ih
 | case2 k hk hg hlt ih=>exact ih
 | case3 k hk hg=>exact ⟨hk,by simpa using hg⟩
theorem lin_skp (l:List UInt8) (ws:List Wd) (k:Nat):linG l ws k=linG l ws (skpG l k):=by
 fun_induction skpG l k with
 | case1 k hk hlt ih=>
  rw [← ih]
  conv=>lhs; rw [linG]
  split
  ·rename_i h; rw [hk] at h; cases h
  ·rename_i c h
   rw [hk] at h; cases h
   have:goesG l k=false:=by unfold goesG; rw [hk]; rfl
   simp [this]
 | case2 k hk hg hlt ih=>
  rw [← ih]
  have h0:l[k]?=some 92:=by
   unfold goesG at hg; simp only [Bool.and_eq_true,beq_iff_eq] at hg; exact hg.1
  conv=>lhs; rw [linG]
  split
  ·rename_i h; rw [h0] at h; cases h
  ·rename_i c h
   rw [h0] at h; cases h
   simp [hg]
 | case3=>rfl
def atOf (w:World) (rb:Nat):Nat:=match w.cell? ⟨rb,1,none⟩ with
 | some (.int _ q)=>q.toNat
 | _=>0
theorem Rdr.at {w:World} {rb:Nat} {s:ByteArray} {k:Nat} (h:Rdr w rb s k):atOf w rb=k:=by
 unfold atOf; rw [h.c1]; simp
theorem take_any (rb:Nat) (s p:ByteArray) (k:Nat) (w:World) (h:Rdr w rb s k) (hk:k≤s.size) (hs:s.size≤1073741824) :
  Calls Tryz.prog 108 #[.pointer (some ⟨rb,0,none⟩),.string p] w fun e w'=>e=.returned (.bool (begG s k p))∧Rdr w' rb s (if begG s k p=true then k+p.size else k)∧Tb w.heap.size rb w w':=by
 cases hp:begG s k p with
 | true=>exact take_yes rb s p k w h hk hs hp
 | false=>
  refine (take_no rb s p k w h hk hp).mono ?_
  rintro e w' ⟨rfl,hb⟩
  exact ⟨rfl,by simpa using h.below hb h.lt,Tb.of_below hb⟩
set_option maxHeartbeats 400000 in
theorem skip_any (rb:Nat) (s:ByteArray) (k:Nat) (w:World) (h:Rdr w rb s k) (hk:k≤s.size) (hs:s.size≤1073741824) :
  Calls Tryz.prog 105 #[.pointer (some ⟨rb,0,none⟩)] w fun e w'=>e=.returned (.tuple #[])∧Rdr w' rb s (skpG s.data.toList k)∧Tb w.heap.size rb w w':=by
 have H:=hide h
 clear h
 go_enter Tryz.func105,Tryz.ntmps105
 go_wp2_with fail
 go_loopw [2] (fun _ wr=>∃ j:Nat,j≤s.size∧Rdr wr rb s j∧skpG s.data.toList k=skpG s.data.toList j∧Tb w.heap.size rb w wr) (fun _ wr=>s.size-atOf wr rb)
 case atStart=>exact ⟨k,hk,uh H,rfl,Tb.refl _ _ _⟩
 case round=>
  obtain ⟨j,hj,hR,hG,hT⟩:=hrel
  have HR:=hide hR
  have HG:=hide hG
  have hA:=hR.at
  have hT1:=take_any rb s ⟨#[32]⟩ j wr hR hj hs
  rw [beg_one] at hT1
  clear hR hG
  by_cases h1:s.data.toList[j]?=some 32
  ·have hlt:j<s.size:=by rw [Lib.size_eq]; exact (List.getElem?_eq_some_iff.1 h1).1
   have HE:=hide (skp_blank h1)
   rw [h1] at hT1
   simp only [BEq.rfl,if_true] at hT1
   clear h1
   go_wp2_with (go_at_call 108; refine hT1.mono ?_; clear hT1; rintro ev w1 ⟨rfl,hR1,hT2⟩)
   go_roundw
   case rel=>exact ⟨j+1,by omega,hR1,(uh HG).trans (uh HE),hT.trans (hT2.mono hT.size)⟩
   case measure=>rw [hA,hR1.at]; show s.size-(j+1)<_; omega
  ·have hT1':Calls Tryz.prog 108 #[.pointer (some ⟨rb,0,none⟩),.string ⟨#[32]⟩] wr fun e w'=>e=.returned (.bool false)∧Rdr w' rb s j∧Tb wr.heap.size rb wr w':=by
    have e:(s.data.toList[j]?==some 32)=false:=by simpa using h1
    rw [e] at hT1; simpa using hT1
   clear hT1
   cases hg:goesG s.data.toList j with
   | true=>
    have HE:=hide (skp_goes hg)
    have hlt:j+1<s.size:=by rw [Lib.size_eq]; exact goes_lt hg
    have hb2:begG s j ⟨#[92,10]⟩=true:=by rw [beg_two,hg]
    clear h1 hg
    go_wp2_with (first
     | (go_at_call 108; refine hT1'.mono ?_; clear hT1'; rintro ev w1 ⟨rfl,hR1,hT2⟩; have hT3:=take_yes rb s ⟨#[92,10]⟩ j w1 hR1 hj hs hb2)
     | (go_at_call 108; refine hT3.mono ?_; clear hT3; rintro ev w2 ⟨rfl,hR2,hT4⟩))
    go_roundw
    case rel=>exact ⟨j+2,by omega,hR2,(uh HG).trans (uh HE),(hT.trans (hT2.mono hT.size)).trans (hT4.mono (Nat.le_trans hT.size hT2.size))⟩
    case measure=>rw [hA,hR2.at]; show s.size-(j+2)<_; omega
   | false=>
    have HE:=hide (skp_end h1 hg)
    have hb2:begG s j ⟨#[92,10]⟩=false:=by rw [beg_two,hg]
    clear h1 hg
    go_wp2_with (first
     | (go_at_call 108; refine hT1'.mono ?_; clear hT1'; rintro ev w1 ⟨rfl,hR1,hT2⟩; have hT3:=take_no rb s ⟨#[92,10]⟩ j w1 hR1 hj hb2)
     | (go_at_call 108; refine hT3.mono ?_; clear hT3; rintro ev w2 ⟨rfl,hb4⟩))
    go_end0
    exact ⟨rfl,by rw [uh HG,uh HE]; exact hR1.below hb4 hR1.lt,(hT.trans (hT2.mono hT.size)).trans (Tb.of_below (hb4.mono (Nat.le_trans hT.size hT2.size)))⟩
theorem fail_any (e p:Int) (w:World) :
  Calls Tryz.prog 69 #[.int .i64 e,.int .i64 p] w fun ev w'=>ev=.panicked [{ v:=.iface 203 (.pointer (some ⟨w.heap.size,0,none⟩)),recovered:=false }]∧w'=w.alloc (.cells #[.int .i64 e,.int .i64 p] 206):=by
 go_enter Tryz.func69,Tryz.ntmps69
 go_wp2
 exact ⟨rfl,rfl,rfl⟩
theorem begR (rb:Nat) (s p:ByteArray) (k:Nat) (b:Bool) (w:World) (h:Rdr w rb s k) (hk:k≤s.size) (hb:begG s k p=b) :
  Calls Tryz.prog 106 #[.pointer (some ⟨rb,0,none⟩),.string p] w fun e w'=>e=.returned (.bool b)∧Rdr w' rb s k∧Below w.heap.size w w':=by
 refine (begins_any rb s p k w h hk).mono ?_
 rintro e w' ⟨rfl,hb'⟩
 exact ⟨by rw [hb],h.below hb' h.lt,hb'⟩
theorem moreR (rb:Nat) (s:ByteArray) (k:Nat) (b:Bool) (w:World) (h:Rdr w rb s k) (hb:decide (k<s.size)=b) :
  Calls Tryz.prog 66 #[.pointer (some ⟨rb,0,none⟩)] w fun e w'=>e=.returned (.bool b)∧Rdr w' rb s k∧Below w.heap.size w w':=by
 refine (more_any rb s k w h).mono ?_
 rintro e w' ⟨rfl,hb'⟩
 exact ⟨by rw [hb],h.below hb' h.lt,hb'⟩
def endG (l:List UInt8) (k:Nat):Bool:=!decide (k<l.length) || l[k]?==some 32 || l[k]?==some 10 || goesG l k
theorem ends_any (rb:Nat) (s:ByteArray) (k:Nat) (w:World) (h:Rdr w rb s k) (hk:k≤s.size) :
  Calls Tryz.prog 143 #[.pointer (some ⟨rb,0,none⟩)] w fun e w'=>e=.returned (.bool (endG s.data.toList k))∧Below w.heap.size w w':=by
 obtain ⟨b0,e0⟩:∃ b,decide (k<s.size)=b:=⟨_,rfl⟩
 obtain ⟨b1,e1⟩:∃ b,begG s k ⟨#[32]⟩=b:=⟨_,rfl⟩
 obtain ⟨b2,e2⟩:∃ b,begG s k ⟨#[10]⟩=b:=⟨_,rfl⟩
 obtain ⟨b3,e3⟩:∃ b,begG s k ⟨#[92,10]⟩=b:=⟨_,rfl⟩
 have HE:Hid (endG s.data.toList k=(!b0 || b1 || b2 || b3)):=hide (by
  unfold endG; rw [← e0,← e1,← e2,← e3,beg_one,beg_one,beg_two,Lib.size_eq])
 have m0:=moreR rb s k b0 w h e0
 have m1:=fun w' (h':Rdr w' rb s k)=>begR rb s ⟨#[32]⟩ k b1 w' h' hk e1
 have m2:=fun w' (h':Rdr w' rb s k)=>begR rb s ⟨#[10]⟩ k b2 w' h' hk e2
 have m3:=fun w' (h':Rdr w' rb s k)=>begR rb s ⟨#[92,10]⟩ k b3 w' h' hk e3
 clear e0 e1 e2 e3 h
 have done:∀ b,(!b0 || b1 || b2 || b3)=b→endG s.data.toList k=b:=fun b e=>(uh HE).trans e
 have HD:=hide done
 clear done HE
 cases b0 <;> cases b1 <;> cases b2 <;> cases b3
 all_goals
  have D:=hide (uh HD _ rfl)
  clear HD
  go_enter Tryz.func143,Tryz.ntmps143
  go_wp2_with (first
   | (go_at_call 66; refine m0.mono ?_; clear m0; rintro ev w1 ⟨rfl,hR1,hb1⟩)
   | (go_at_call 106; refine (m1 _ hR1).mono ?_; clear m1; rintro ev w2 ⟨rfl,hR2,hb2⟩)
   | (go_at_call 106; refine (m2 _ hR2).mono ?_; clear m2; rintro ev w3 ⟨rfl,hR3,hb3⟩)
   | (go_at_call 106; refine (m3 _ hR3).mono ?_; clear m3; rintro ev w4 ⟨rfl,hR4,hb4⟩))
  go_ret
  first
   | exact ⟨ret_bool (uh D).symm,hb1⟩
   | exact ⟨ret_bool (uh D).symm,hb1.trans (hb2.mono hb1.size)⟩
   | exact ⟨ret_bool (uh D).symm,(hb1.trans (hb2.mono hb1.size)).trans (hb3.mono (Nat.le_trans hb1.size hb2.size))⟩
   | exact ⟨ret_bool (uh D).symm,((hb1.trans (hb2.mono hb1.size)).trans (hb3.mono (Nat.le_trans hb1.size hb2.size))).trans (hb4.mono (Nat.le_trans hb1.size (Nat.le_trans hb2.size hb3.size)))⟩
theorem cap_any (n:Nat) (w:World):Calls Tryz.prog 211 #[.int .u8 (n:Int)] w fun e w'=>e=.returned (.bool (decide (65≤n∧n≤90)))∧w'=w:=by
 go_enter Tryz.func211,Tryz.ntmps211
 go_wp2
 all_goals
  go_ret
  exact ⟨ret_bool (by rw [Bool.eq_iff_iff]; simp <;> omega),rfl⟩
theorem dig_any (n:Nat) (w:World):Calls Tryz.prog 212 #[.int .u8 (n:Int)] w fun e w'=>e=.returned (.bool (decide (48≤n∧n≤57)))∧w'=w:=by
 go_enter Tryz.func212,Tryz.ntmps212
 go_wp2
 all_goals
  go_ret
  exact ⟨ret_bool (by rw [Bool.eq_iff_iff]; simp <;> omega),rfl⟩
def mayC (c:UInt8):Bool:=decide (c.toNat=10∨(32≤c.toNat∧c.toNat≤126))
theorem may_any (n:Nat) (w:World):Calls Tryz.prog 104 #[.int .u8 (n:Int)] w fun e w'=>e=.returned (.bool (decide (n=10∨(32≤n∧n≤126))))∧w'=w:=by
 go_enter Tryz.func104,Tryz.ntmps104
 go_wp2
 all_goals
  go_ret
  exact ⟨ret_bool (by rw [Bool.eq_iff_iff]; simp at*<;> omega),rfl⟩
theorem tw_stop {p:UInt8→Bool} (l:List UInt8) (k:Nat) (h:k<l.length) (ha:(l.take k).all p=true) (hc:p l[k]=false):(l.takeWhile p).length=k:=by
 have e:l=l.take k++l[k] :: l.drop (k+1):=by
  rw [← List.drop_eq_getElem_cons h,List.take_append_drop]
 conv=>lhs; rw [e]
 rw [List.takeWhile_append_of_pos (fun a ha'=>List.all_eq_true.1 ha a ha'),List.takeWhile_cons_of_neg (by simp [hc])]
 simp; omega
theorem tw_all {p:UInt8→Bool} (l:List UInt8) (ha:l.all p=true):(l.takeWhile p).length=l.length:=by
 have:=List.takeWhile_append_of_pos (l₁:=l) (l₂:=[]) (p:=p) (fun a ha'=>List.all_eq_true.1 ha a ha')
 rw [List.append_nil] at this
 rw [this]; simp
theorem all_more {p:UInt8→Bool} (s:ByteArray) (k:Nat) (h:k<s.size) (h1:(s.data.toList.take k).all p=true) (h2:p s[k]=true):(s.data.toList.take (k+1)).all p=true:=by
 rw [take_snoc s k h,List.all_append,h1]; simp [h2]
theorem nameN_cap {l:List UInt8} (h0:0<l.length) (h:isCapC l[0]=true):nameN l=(l.takeWhile isNmC).length:=by
 cases l with
 | nil=>simp at h0
 | cons c r=>simp only [List.getElem_cons_zero] at h; simp [nameN,h]
theorem nameN_not {l:List UInt8} (h0:0<l.length) (h:isCapC l[0]=false):nameN l=0:=by
 cases l with
 | nil=>simp at h0
 | cons c r=>simp only [List.getElem_cons_zero] at h; simp [nameN,h]
theorem isNm95 {c:UInt8} (h:c=95):isNmC c=true:=by subst h; decide
theorem get_data (s:ByteArray) (k:Nat) (h:k<s.size):s.data.toList[k]'(by rw [← Lib.size_eq]; exact h)=s[k]:=rfl
theorem capN (c:UInt8):decide (65≤c.toNat∧c.toNat≤90)=isCapC c:=rfl
theorem digN (c:UInt8):decide (48≤c.toNat∧c.toNat≤57)=isDigC c:=rfl
set_option maxHeartbeats 1000000 in
theorem name_any (s:ByteArray) (w:World) (hs:s.size≤1073741824) :
  Calls Tryz.prog 183 #[.string s] w fun e w'=>e=.returned (.int .i64 (nameN s.data.toList:Nat))∧w'=w:=by
 by_cases he:s.data.toList=[]
 ·have g1:s.toList.isEmpty=true:=by rw [Lib.toList_data,he]; rfl
  have HN:Hid (nameN s.data.toList=0):=hide (by rw [he]; rfl)
  clear he
  go_enter Tryz.func183,Tryz.ntmps183
  go_wp2
  go_ret
  exact ⟨by rw [uh HN]; rfl,rfl⟩
 ·have g1:s.toList.isEmpty=false:=by rw [Lib.toList_data]; simpa using he
  have h0:0<s.size:=by rw [Lib.size_eq]; exact List.length_pos_iff.2 he
  have c0:=cap_any s[0].toNat w
  rw [capN] at c0
  cases hc:isCapC s[0] with
  | false=>
   have HN:Hid (nameN s.data.toList=0):=hide (nameN_not (by rw [← Lib.size_eq]; exact h0) hc)
   rw [hc] at c0
   clear he hc
   go_enter Tryz.func183,Tryz.ntmps183
   go_wp2_with (go_at_call 211; refine c0.mono ?_; clear c0; rintro ev w1 ⟨rfl,hw⟩; obtain rfl:=hw.symm)
   go_ret
   exact ⟨by rw [uh HN]; rfl,rfl⟩
  | true=>
   have HN:Hid (nameN s.data.toList=(s.data.toList.takeWhile isNmC).length):=hide (nameN_cap (by rw [← Lib.size_eq]; exact h0) hc)
   rw [hc] at c0
   clear he hc
   go_enter Tryz.func183,Tryz.ntmps183
   go_wp2_with (go_at_call 211; refine c0.mono ?_; clear c0; rintro ev w1 ⟨rfl,hw⟩; obtain rfl:=hw.symm)
   go_loop [14] (fun i=>∃ k:Nat,k≤s.size∧i=.int .i64 k∧(s.data.toList.take k).all isNmC=true) (fun i=>s.size-(intOf i).toNat)
   case atStart=>exact ⟨0,Nat.zero_le _,rfl,rfl⟩
   case round=>
    obtain ⟨k,hk,rfl,ha⟩:=hrel
    have A:=hide ha
    clear ha
    by_cases hlt:k<s.size
    ·have c1:=cap_any s[k].toNat w
     have c2:=dig_any s[k].toNat w
     rw [capN] at c1
     rw [digN] at c2
     cases h1:isCapC s[k] with
     | true=>
      have B:=hide (all_more s k hlt (uh A) (show isNmC s[k]=true by simp [isNmC,h1]))
      rw [h1] at c1
      clear c2 h1
      go_wp2_with (go_at_call 211; refine c1.mono ?_; clear c1; rintro ev w1 ⟨rfl,hw⟩; obtain rfl:=hw.symm)
      go_round
      case rel=>exact ⟨k+1,by omega,by go_num,uh B⟩
      case measure=>simp [intOf]; omega
     | false=>
      rw [h1] at c1
      cases h2:isDigC s[k] with
      | true=>
       have B:=hide (all_more s k hlt (uh A) (show isNmC s[k]=true by simp [isNmC,h2]))
       rw [h2] at c2
       clear h1 h2
       go_wp2_with (first
        | (go_at_call 211; refine c1.mono ?_; clear c1; rintro ev w1 ⟨rfl,hw⟩; obtain rfl:=hw.symm)
        | (go_at_call 212; refine c2.mono ?_; clear c2; rintro ev w1 ⟨rfl,hw⟩; obtain rfl:=hw.symm))
       go_round
       case rel=>exact ⟨k+1,by omega,by go_num,uh B⟩
       case measure=>simp [intOf]; omega
      | false=>
       rw [h2] at c2
       by_cases h3:s[k]=95
       ·have B:=hide (all_more s k hlt (uh A) (isNm95 h3))
        have e3:s[k].toNat=(95:UInt8).toNat:=congrArg UInt8.toNat h3
        have g3:((s[k].toNat:Int) != 95)=false:=by rw [e3]; decide
        clear e3
        clear h1 h2 h3
        go_wp2_with (first
         | (go_at_call 211; refine c1.mono ?_; clear c1; rintro ev w1 ⟨rfl,hw⟩; obtain rfl:=hw.symm)
         | (go_at_call 212; refine c2.mono ?_; clear c2; rintro ev w1 ⟨rfl,hw⟩; obtain rfl:=hw.symm))
        go_round
        case rel=>exact ⟨k+1,by omega,by go_num,uh B⟩
        case measure=>simp [intOf]; omega
       ·have B:=hide (tw_stop s.data.toList k (by rw [← Lib.size_eq]; exact hlt) (uh A) (show isNmC s[k]=false by simp [isNmC,h1,h2,h3]))
        have g3:¬ (s[k].toNat:Int)=95:=fun e=>h3 (UInt8.toNat_inj.1 (by show s[k].toNat=95; omega))
        have g4:((s[k].toNat:Int) != 95)=true:=by simpa using g3
        clear h1 h2 h3 g3
        go_wp2_with (first
         | (go_at_call 211; refine c1.mono ?_; clear c1; rintro ev w1 ⟨rfl,hw⟩; obtain rfl:=hw.symm)
         | (go_at_call 212; refine c2.mono ?_; clear c2; rintro ev w1 ⟨rfl,hw⟩; obtain rfl:=hw.symm))
        go_ret
        exact ⟨by rw [uh HN,uh B]; rfl,rfl⟩
    ·have B:Hid ((s.data.toList.takeWhile isNmC).length=s.size):=hide (by
      rw [Lib.size_eq]; exact tw_all _ (by have:=uh A; rwa [List.take_of_length_le (by rw [← Lib.size_eq]; omega)] at this))
     go_wp2
     go_ret
     exact ⟨by rw [uh HN,uh B]; rfl,rfl⟩
set_option maxHeartbeats 1000000 in
theorem isVar_any (s:ByteArray) (w:World) (hs:s.size≤1073741824) :
  Calls Tryz.prog 184 #[.string s] w fun e w'=>e=.returned (.bool (isVarN s.data.toList))∧w'=w:=by
 have hN:=name_any s w hs
 by_cases he:s.data.toList=[]
 ·have g1:s.toList.isEmpty=true:=by rw [Lib.toList_data,he]; rfl
  have HV:Hid (isVarN s.data.toList=false):=hide (by rw [he]; rfl)
  clear he
  go_enter Tryz.func184,Tryz.ntmps184
  go_wp2_with fail
  go_ret
  exact ⟨ret_bool (uh HV).symm,rfl⟩
 ·have g1:s.toList.isEmpty=false:=by rw [Lib.toList_data]; simpa using he
  have e1:(s.data.toList != [])=true:=by simpa using he
  by_cases h2:s.size≤10
  ·have HV:Hid (isVarN s.data.toList=decide ((nameN s.data.toList:Int)=(s.size:Int))):=hide (by
    rw [isVarN,e1,← Lib.size_eq,decide_eq_true h2]
    rw [Bool.eq_iff_iff]; simp; omega)
   have g2:(s.size:Int)≤10:=by omega
   clear he e1 h2
   go_enter Tryz.func184,Tryz.ntmps184
   go_wp2_with (go_at_call 183; refine hN.mono ?_; clear hN; rintro ev w1 ⟨rfl,hw⟩; obtain rfl:=hw.symm)
   go_ret
   exact ⟨ret_bool (by rw [uh HV]; try (rw [Bool.eq_iff_iff]; simp)),rfl⟩
  ·have HV:Hid (isVarN s.data.toList=false):=hide (by rw [isVarN,← Lib.size_eq,decide_eq_false h2]; simp)
   have g2:¬ (s.size:Int)≤10:=by omega
   clear he e1 h2
   go_enter Tryz.func184,Tryz.ntmps184
   go_wp2_with fail
   go_ret
   exact ⟨ret_bool (uh HV).symm,rfl⟩
structure Prt where
 text:ByteArray
 isVar:Bool
 place:Int
def Prt.cells (p:Prt):List Value:=[.string p.text,.bool p.isVar,.int .i64 p.place]
def prC (l:List Prt):List Value:=(l.map Prt.cells).flatten
theorem prC_len (l:List Prt):(prC l).length=l.length*3:=by
 induction l with
 | nil=>rfl
 | cons a r ih=>simp only [prC,List.map_cons,List.flatten_cons,List.length_append,List.length_cons] at ih ⊢; rw [ih]; simp [Prt.cells]; omega
theorem prC_snoc (l:List Prt) (a:Prt):prC (l++[a])=prC l++a.cells:=by simp [prC]
theorem pr_one (a:Prt):∀ u∈a.cells,u.oneCell'=true:=fun u hu=>by
 simp only [Prt.cells,List.mem_cons,List.not_mem_nil,or_false] at hu
 rcases hu with rfl | rfl | rfl <;> rfl
theorem info167:(Tryz.prog.info? 217).map (fun i=>(i.zero,i.size,i.bytes))=some (some (.agg #[.string ByteArray.empty,.bool false,.int .i64 0]),3,32):=by kernel_rfl
theorem info_parts {P:Program} {t:TypeId} {z:Option Value} {a b:Nat} (h:(P.info? t).map (fun i=>(i.zero,i.size,i.bytes))=some (z,a,b)):∃ i,P.info? t=some i∧i.zero=z∧i.size=a∧i.bytes=b:=by
 cases hi:P.info? t with
 | none=>rw [hi] at h; cases h
 | some i=>
  rw [hi] at h
  simp only [Option.map_some,Option.some.injEq,Prod.mk.injEq] at h
  exact ⟨i,rfl,h.1,h.2.1,h.2.2⟩
structure Wrd (w:World) (B wb:Nat) (pl:Int) (v:Value) (ps:List Prt):Prop where
 cells:w.heap[wb]?=some (.cells #[.int .i64 pl,v] 162 (0,0))
 row:w.ownsRow B 217 3 v ps.length (prC ps)
 base:B≤wb
 nil:ps=[]→v=.slice none 0 0
theorem Wrd.ne {w:World} {B wb:Nat} {pl:Int} {v:Value} {ps:List Prt} (h:Wrd w B wb pl v ps):v.ownBlock≠some wb:=by
 rintro e
 rcases h.row.2 with ⟨rfl,_⟩ | ⟨g,cap,cur,rfl,_,hg,_⟩
 ·cases e
 ·obtain rfl:g=wb:=by simpa [Value.ownBlock] using e
  have:=h.cells
  rw [hg] at this; cases this
theorem Wrd.lt {w:World} {B wb:Nat} {pl:Int} {v:Value} {ps:List Prt} (h:Wrd w B wb pl v ps):wb<w.heap.size:=(Array.getElem?_eq_some_iff.1 h.cells).1
theorem row_same {w w':World} {B e z n:Nat} {v:Value} {xs:List Value} (h:w.ownsRow B e z v n xs) (hk:∀ k,v.ownBlock=some k→w'.heap[k]?=w.heap[k]?):w'.ownsRow B e z v n xs:=by
 refine ⟨h.1,?_⟩
 rcases h.2 with h0 | ⟨g,cap,cur,hv,h1,h2,h3⟩
 ·exact .inl h0
 ·refine .inr ⟨g,cap,cur,hv,h1,(hk g ?_).trans h2,h3⟩
  rw [hv]; rfl
theorem Wrd.same {w w':World} {B wb:Nat} {pl:Int} {v:Value} {ps:List Prt} (h:Wrd w B wb pl v ps) (hk:∀ k,k=wb∨v.ownBlock=some k→w'.heap[k]?=w.heap[k]?):Wrd w' B wb pl v ps:=
 ⟨(hk wb (.inl rfl)).trans h.cells,row_same h.row fun k e=>hk k (.inr e),h.base,h.nil⟩
theorem Wrd.tb {w w':World} {B wb rb:Nat} {pl:Int} {v:Value} {ps:List Prt} (h:Wrd w B wb pl v ps) (hb:Tb w.heap.size rb w w') (hr:rb<B):Wrd w' B wb pl v ps:=
 h.same fun k e=>hb.block k (by
  rcases e with rfl | e
  ·exact h.lt
  ·exact (World.ownsRow.lt h.row k e).2) (by
  rcases e with rfl | e
  ·have:=h.base; omega
  ·have:=(World.ownsRow.lt h.row k e).1; omega)
theorem wrd_snoc {w w1:World} {o:Obj} {B wb:Nat} {pl:Int} {v v':Value} {ps:List Prt} {p:Prt} (h:Wrd w B wb pl v ps) (hB:B≤w.heap.size) (hown:w1.ownsRow B 217 3 v' (ps.length+1) (prC ps++p.cells)) (hg:(w.alloc o).grownBy w1 v.ownBlock) :
  Wrd (w1.setCell ⟨wb,1,none⟩ v') B wb pl v' (ps++[p])∧Below B w (w1.setCell ⟨wb,1,none⟩ v'):=by
 have hc:w1.heap[wb]?=some (.cells #[.int .i64 pl,v] 162 (0,0)):=
  (hg.block wb (by have:=h.lt; simp; omega) (fun e=>h.ne e.symm)).trans ((Below.heap_alloc _ _ _ h.lt).trans h.cells)
 have hb:Below B w w1:=((Below.refl B w).alloc hB o).grown hg (by simp; omega) (fun q hq=>(World.ownsRow.lt h.row q hq).1)
 have hb2:Below B w (w1.setCell ⟨wb,1,none⟩ v'):=hb.setCell (p:=⟨wb,1,none⟩) h.base _
 refine ⟨⟨heap_setCell_same _ _ 1 _ _ _ hc,?_,h.base,by simp⟩,hb2⟩
 rw [prC_snoc,List.length_append]
 refine row_same hown fun k hk=>Below.heap_setCell _ _ _ _ (fun e=>?_)
 obtain rfl:k=wb:=e
 rcases hown.2 with ⟨rfl,_⟩ | ⟨g,cap,cur,rfl,_,hg',_⟩
 ·cases hk
 ·obtain rfl:g=k:=by simpa [Value.ownBlock] using hk
  rw [hg'] at hc; cases hc
set_option maxHeartbeats 1000000 in
set_option maxRecDepth 10000 in
theorem addVar_any (B wb:Nat) (pl:Int) (v:Value) (ps:List Prt) (n:ByteArray) (k:Int) (w:World) (h:Wrd w B wb pl v ps) (hB:B≤w.heap.size) (hn:ps.length≤1000000) :
  Calls Tryz.prog 185 #[.pointer (some ⟨wb,0,none⟩),.string n,.int .i64 k] w fun ev w'=>ev=.returned (.tuple #[])∧(∃ v',Wrd w' B wb pl v' (ps++[⟨n,true,k⟩]))∧Below B w w':=by
 obtain ⟨i0,hi,hz0,hz1,hz2⟩:=info_parts info167
 have hwl:=h.lt
 have c1:w.cell? ⟨wb,1,none⟩=some v:=cq 1 h.cells
 have HP:=hide h
 have HR:=hide (h.row.alloc (.cells #[.string n,.bool true,.int .i64 k] 217))
 have HX:=hide (fun (w1:World) (hg:(w.alloc (.cells #[.string n,.bool true,.int .i64 k] 217)).grownBy w1 v.ownBlock)=>(hg.block wb (by simp; omega) (fun e=>h.ne e.symm)).trans ((Below.heap_alloc _ _ _ hwl).trans h.cells))
 clear h
 go_enter Tryz.func185,Tryz.ntmps185
 go_wp2_with (at_builtin; refine wpList_append_own _ rfl _ _ 160 rfl B 217 i0 _ 3 32 Tryz.underlying160 hi hz0 hz1 hz2 rfl (by decide) v ps.length (prC ps) rfl (uh HR) ⟨w.heap.size,0,none⟩ 1 1 [.string n,.bool true,.int .i64 k] rfl rfl (World.news_of_block (cs:=#[.string n,.bool true,.int .i64 k]) (t:=217) (fr:=(0,0)) (heap_alloc_new _ _)) (pr_one ⟨n,true,k⟩) (by unfold maxLen; omega) (by omega) (by simp; omega) ?_; intro v6 w6 hown6 hgrow6 _; obtain ⟨g6,cp6,rfl,_,_⟩:=World.ownsRow.form hown6 (by omega); have hs1:=uh HX w6 hgrow6; have k2:w6.cell? ⟨wb,1,none⟩=some v:=cq 1 hs1; have f2:w6.frozen? ⟨wb,1,none⟩=false:=(by simp [World.frozen?,hs1]); have HO:=hide hown6; clear hown6 hs1)
 go_end0
 have:=wrd_snoc (uh HP) hB (p:=⟨n,true,k⟩) (uh HO) hgrow6
 exact ⟨rfl,⟨_,this.1⟩,this.2⟩
def addT (ps:List Prt) (t:ByteArray):List Prt:=match ps.getLast? with
 | some p=>if p.isVar=true then ps++[⟨t,false,0⟩] else ps.dropLast++[⟨p.text++t,false,p.place⟩]
 | none=>ps++[⟨t,false,0⟩]
theorem addT_new {ps:List Prt} {t:ByteArray} (h:∀ p,ps.getLast?=some p→p.isVar=true):addT ps t=ps++[⟨t,false,0⟩]:=by
 unfold addT
 cases hp:ps.getLast? with
 | none=>rfl
 | some p=>simp [h p hp]
theorem addT_on {qs:List Prt} {p:Prt} {t:ByteArray} (h:p.isVar=false):addT (qs++[p]) t=qs++[⟨p.text++t,false,p.place⟩]:=by
 unfold addT
 simp [h]
theorem last_cases (ps:List Prt):(ps=[]∨∃ qs p,ps=qs++[p]∧p.isVar=true)∨∃ qs p,ps=qs++[p]∧p.isVar=false:=by
 rcases List.eq_nil_or_concat ps with h | ⟨qs,p,h⟩
 ·exact .inl (.inl h)
 ·rw [List.concat_eq_append] at h
  cases hp:p.isVar with
  | true=>exact .inl (.inr ⟨qs,p,h,hp⟩)
  | false=>exact .inr ⟨qs,p,h,hp⟩
theorem prC_at (qs:List Prt) (p:Prt):(prC (qs++[p]))[qs.length*3]?=some (.string p.text)∧(prC (qs++[p]))[qs.length*3+1]?=some (.bool p.isVar):=by
 rw [prC_snoc,← prC_len]
 refine ⟨?_,?_⟩
 ·rw [List.getElem?_append_right (Nat.le_refl _)]; simp [Prt.cells]
 ·rw [List.getElem?_append_right (by omega)]; simp [Prt.cells]
theorem prC_set (qs:List Prt) (p:Prt) (t:ByteArray):(prC (qs++[p])).set (qs.length*3) (.string t)=prC (qs++[⟨t,p.isVar,p.place⟩]):=by
 rw [prC_snoc,prC_snoc,← prC_len,List.set_append_right _ _ (Nat.le_refl _)]
 simp [Prt.cells]
set_option maxHeartbeats 1000000 in
set_option maxRecDepth 10000 in
theorem addText_new (B wb:Nat) (pl:Int) (v:Value) (ps:List Prt) (t:ByteArray) (w:World) (h:Wrd w B wb pl v ps) (hB:B≤w.heap.size) (hn:ps.length≤1000000) (hc:ps=[]∨∃ qs p,ps=qs++[p]∧p.isVar=true) :
  Calls Tryz.prog 186 #[.pointer (some ⟨wb,0,none⟩),.string t] w fun ev w'=>ev=.returned (.tuple #[])∧(∃ v',Wrd w' B wb pl v' (ps++[⟨t,false,0⟩]))∧Below B w w':=by
 obtain ⟨i0,hi,hz0,hz1,hz2⟩:=info_parts info167
 have hwl:=h.lt
 have c1:w.cell? ⟨wb,1,none⟩=some v:=cq 1 h.cells
 have HP:=hide h
 have HR:=hide (h.row.alloc (.cells #[.string t,.bool false,.int .i64 0] 217))
 have HX:=hide (fun (w1:World) (hg:(w.alloc (.cells #[.string t,.bool false,.int .i64 0] 217)).grownBy w1 v.ownBlock)=>(hg.block wb (by simp; omega) (fun e=>h.ne e.symm)).trans ((Below.heap_alloc _ _ _ hwl).trans h.cells))
 rcases hc with rfl | ⟨qs,p,rfl,hp⟩
 ·obtain rfl:=h.nil rfl
  clear h
  go_enter Tryz.func186,Tryz.ntmps186
  go_upto_region 3 with fail
  go_wp2_with (at_builtin; refine wpList_append_own _ rfl _ _ 160 rfl B 217 i0 _ 3 32 Tryz.underlying160 hi hz0 hz1 hz2 rfl (by decide) (.slice none 0 0) (0) (prC []) rfl (uh HR) ⟨w.heap.size,0,none⟩ 1 1 [.string t,.bool false,.int .i64 0] rfl rfl (World.news_of_block (cs:=#[.string t,.bool false,.int .i64 0]) (t:=217) (fr:=(0,0)) (heap_alloc_new _ _)) (pr_one ⟨t,false,0⟩) (by unfold maxLen; omega) (by omega) (by simp; omega) ?_; intro v6 w6 hown6 hgrow6 _; obtain ⟨g6,cp6,rfl,_,_⟩:=World.ownsRow.form hown6 (by omega); have hs1:=uh HX w6 hgrow6; have k2:w6.cell? ⟨wb,1,none⟩=some (.slice none 0 0):=cq 1 hs1; have f2:w6.frozen? ⟨wb,1,none⟩=false:=(by simp [World.frozen?,hs1]); have HO:=hide hown6; clear hown6 hs1)
  go_end0
  have:=wrd_snoc (uh HP) hB (p:=⟨t,false,0⟩) (uh HO) hgrow6
  exact ⟨rfl,⟨_,this.1⟩,this.2⟩
 ·obtain ⟨g,cap,rfl,_,_⟩:=World.ownsRow.form h.row (by simp)
  have q1:w.cell? ⟨g,qs.length*3+1,none⟩=some (.bool true):=by
   rw [World.ownsRow.cellAt h.row _ (by simp; omega),(prC_at qs p).2,hp]
  have hl:(qs++[p]).length=qs.length+1:=by simp
  have HL:=hide hl
  clear h
  rw [hl] at c1 HP HR HX hn
  clear hl
  go_enter Tryz.func186,Tryz.ntmps186
  go_upto_region 3 with fail
  go_wp2_with (at_builtin; refine wpList_append_own _ rfl _ _ 160 rfl B 217 i0 _ 3 32 Tryz.underlying160 hi hz0 hz1 hz2 rfl (by decide) (.slice (some ⟨g,0,none⟩) (qs.length+1) cap) (qs.length+1) (prC (qs++[p])) rfl (uh HR) ⟨w.heap.size,0,none⟩ 1 1 [.string t,.bool false,.int .i64 0] rfl rfl (World.news_of_block (cs:=#[.string t,.bool false,.int .i64 0]) (t:=217) (fr:=(0,0)) (heap_alloc_new _ _)) (pr_one ⟨t,false,0⟩) (by unfold maxLen; omega) (by omega) (by simp; omega) ?_; intro v6 w6 hown6 hgrow6 _; obtain ⟨g6,cp6,rfl,_,_⟩:=World.ownsRow.form hown6 (by omega); have hs1:=uh HX w6 hgrow6; have k2:w6.cell? ⟨wb,1,none⟩=some (.slice (some ⟨g,0,none⟩) (qs.length+1) cap):=cq 1 hs1; have f2:w6.frozen? ⟨wb,1,none⟩=false:=(by simp [World.frozen?,hs1]); have HO:=hide hown6; clear hown6 hs1)
  go_end0
  have HO':w6.ownsRow B 217 3 (.slice (some ⟨g6,0,none⟩) (qs.length+1+1) cp6) ((qs++[p]).length+1) (prC (qs++[p])++(⟨t,false,0⟩:Prt).cells):=by
   rw [uh HL]; exact uh HO
  have:=wrd_snoc (uh HP) hB (p:=⟨t,false,0⟩) HO' hgrow6
  exact ⟨rfl,⟨_,this.1⟩,this.2⟩
theorem wrd_set {w:World} {B wb g cap:Nat} {pl:Int} {qs:List Prt} {p:Prt} (t:ByteArray) (h:Wrd w B wb pl (.slice (some ⟨g,0,none⟩) (qs.length+1) cap) (qs++[p])) (hp:p.isVar=false) :
  Wrd (w.setCell ⟨g,qs.length*3,none⟩ (.string t)) B wb pl (.slice (some ⟨g,0,none⟩) (qs.length+1) cap) (qs++[⟨t,false,p.place⟩])∧Below B w (w.setCell ⟨g,qs.length*3,none⟩ (.string t)):=by
 have hgb:=(World.ownsRow.lt h.row g rfl).1
 have hne:wb≠g:=fun e=>h.ne (by rw [e]; rfl)
 refine ⟨⟨(Below.heap_setCell _ _ _ _ hne).trans h.cells,?_,h.base,by simp⟩,(Below.refl B w).setCell (p:=⟨g,qs.length*3,none⟩) hgb _⟩
 have hr:=h.row
 rw [show (qs++[p]).length=qs.length+1 by simp] at hr
 have:=(World.ownsRow.stored hr (qs.length*3) (.string t)).1
 rw [prC_set,hp] at this
 rw [show (qs++[(⟨t,false,p.place⟩:Prt)]).length=qs.length+1 by simp]
 exact this
set_option maxHeartbeats 1000000 in
set_option maxRecDepth 10000 in
theorem addText_on (B wb:Nat) (pl:Int) (v:Value) (qs:List Prt) (p:Prt) (t:ByteArray) (w:World) (h:Wrd w B wb pl v (qs++[p])) (hn:qs.length≤1000000) (hp:p.isVar=false) (h1:p.text.size≤1000000) (h2:t.size≤1000000) :
  Calls Tryz.prog 186 #[.pointer (some ⟨wb,0,none⟩),.string t] w fun ev w'=>ev=.returned (.tuple #[])∧(∃ v',Wrd w' B wb pl v' (qs++[⟨p.text++t,false,p.place⟩]))∧Below B w w':=by
 have c1:w.cell? ⟨wb,1,none⟩=some v:=cq 1 h.cells
 obtain ⟨g,cap,rfl,_,_⟩:=World.ownsRow.form h.row (by simp)
 have q1:w.cell? ⟨g,qs.length*3+1,none⟩=some (.bool false):=by
  rw [World.ownsRow.cellAt h.row _ (by simp; omega),(prC_at qs p).2,hp]
 have q0:w.cell? ⟨g,qs.length*3,none⟩=some (.string p.text):=by
  rw [World.ownsRow.cellAt h.row _ (by simp),(prC_at qs p).1]
 have z0:w.frozen? ⟨g,qs.length*3,none⟩=false:=World.ownsRow.frozenAt h.row _
 have hl:(qs++[p]).length=qs.length+1:=by simp
 rw [hl] at c1 h
 have HP:=hide h
 clear h hl
 go_enter Tryz.func186,Tryz.ntmps186
 go_wp2_with fail
 refine bodyPost_ret (results_none rfl _ _ _) rfl ?_
 have:=wrd_set (p.text++t) (uh HP) hp
 exact ⟨rfl,⟨_,this.1⟩,this.2⟩
theorem addText_any (B wb:Nat) (pl:Int) (v:Value) (ps:List Prt) (t:ByteArray) (w:World) (h:Wrd w B wb pl v ps) (hB:B≤w.heap.size) (hn:ps.length≤1000000) (hz:∀ p∈ps,p.isVar=false→p.text.size≤1000000) (ht:t.size≤1000000) :
  Calls Tryz.prog 186 #[.pointer (some ⟨wb,0,none⟩),.string t] w fun ev w'=>ev=.returned (.tuple #[])∧(∃ v',Wrd w' B wb pl v' (addT ps t))∧Below B w w':=by
 rcases last_cases ps with hc | ⟨qs,p,rfl,hp⟩
 ·have e:addT ps t=ps++[⟨t,false,0⟩]:=addT_new (by
   rintro q hq
   rcases hc with rfl | ⟨qs,p,rfl,hp⟩
   ·cases hq
   ·simp at hq; subst hq; exact hp)
  rw [e]
  exact addText_new B wb pl v ps t w h hB hn hc
 ·rw [addT_on hp]
  exact addText_on B wb pl v qs p t w h (by simp at hn; omega) hp (hz p (by simp) hp) ht
def bt (l:List UInt8):ByteArray:=⟨l.toArray⟩
theorem bt_of (s:ByteArray):bt s.data.toList=s:=by cases s; rfl
theorem bt_list (l:List UInt8):(bt l).data.toList=l:=by simp [bt]
theorem bt_size (l:List UInt8):(bt l).size=l.length:=by rw [Lib.size_eq,bt_list]
theorem bt_app (a b:List UInt8):bt a++bt b=bt (a++b):=by
 rw [← bt_of (bt a++bt b),ByteArray.data_append,Array.toList_append,bt_list,bt_list]
def addA (ps:List Prt):Atm→List Prt
 | .byte c=>addT ps (bt [c])
 | .var n k=>ps++[⟨bt n,true,(k:Int)⟩]
def parts (xs:List Atm):List Prt:=xs.foldl addA []
theorem parts_snoc (xs:List Atm) (a:Atm):parts (xs++[a])=addA (parts xs) a:=by simp [parts,List.foldl_append]
theorem rev_ind {α:Type} {P:List α→Prop} (h0:P []) (h1:∀ l a,P l→P (l++[a])) (l:List α):P l:=by
 have h:∀ l:List α,P l.reverse:=fun l=>by
  induction l with
  | nil=>exact h0
  | cons a r ih=>rw [List.reverse_cons]; exact h1 _ _ ih
 have:=h l.reverse
 rwa [List.reverse_reverse] at this
theorem parts_le (xs:List Atm):(parts xs).length≤xs.length∧∀ p∈parts xs,p.isVar=false→p.text.size≤xs.length:=by
 induction xs using rev_ind with
 | h0=>simp [parts]
 | h1 xs a ih=>
  rw [parts_snoc,List.length_append,List.length_singleton]
  obtain ⟨i1,i2⟩:=ih
  cases a with
  | var n k=>
   refine ⟨by simp [addA]; omega,fun p hp hv=>?_⟩
   rcases List.mem_append.1 hp with h | h
   ·have:=i2 p h hv; omega
   ·rw [List.mem_singleton] at h; subst h; cases hv
  | byte c=>
   rcases last_cases (parts xs) with hc | ⟨qs,q,he,hq⟩
   ·have e:addA (parts xs) (.byte c)=parts xs++[⟨bt [c],false,0⟩]:=addT_new (by
     rintro q hq
     rcases hc with h | ⟨qs,p,h,hp⟩
     ·rw [h] at hq; cases hq
     ·rw [h] at hq; simp at hq; subst hq; exact hp)
    rw [e]
    refine ⟨by simp; omega,fun p hp hv=>?_⟩
    rcases List.mem_append.1 hp with h | h
    ·have:=i2 p h hv; omega
    ·rw [List.mem_singleton] at h; subst h; show (bt [c]).size≤_; rw [bt_size]; simp
   ·have e:addA (parts xs) (.byte c)=qs++[⟨q.text++bt [c],false,q.place⟩]:=by
     show addT (parts xs) (bt [c])=_
     rw [he,addT_on hq]
    rw [e]
    rw [he] at i1 i2
    refine ⟨by simp at i1 ⊢; omega,fun p hp hv=>?_⟩
    rcases List.mem_append.1 hp with h | h
    ·have:=i2 p (by simp [h]) hv; omega
    ·rw [List.mem_singleton] at h; subst h
     have:=i2 q (by simp) hq
     show (q.text++bt [c]).size≤_
     rw [ByteArray.size_append,bt_size]; simp; omega
theorem ext_one (s:ByteArray) (k:Nat) (h:k<s.size):s.extract k (k+1)=bt [s[k]]:=by
 rw [← bt_of (s.extract k (k+1)),ByteArray.data_extract,Array.toList_extract,List.extract_eq_take_drop]
 rw [List.drop_eq_getElem_cons (by rw [← Lib.size_eq]; exact h),show k+1-k=1 by omega]
 rfl
structure RW (w:World) (B rb wb:Nat) (s:ByteArray) (k:Nat) (pl:Int) (xs:List Atm):Prop where
 rdr:Rdr w rb s k
 wrd:∃ v,Wrd w B wb pl v (parts xs)
 rl:rb<B
 bl:B≤w.heap.size
theorem RW.drew {w:World} {B rb wb:Nat} {s:ByteArray} {k:Nat} {pl:Int} {xs:List Atm} (h:RW w B rb wb s k pl xs):RW w.drew B rb wb s k pl xs:=
 ⟨h.rdr,h.wrd.imp fun _ h'=>⟨h'.cells,h'.row,h'.base,h'.nil⟩,h.rl,h.bl⟩
theorem below0 {B:Nat} {w w1:World} (h:Below B w.drew w1):Below B w w1:=⟨h.os,h.tape,h.output,h.size,h.block⟩
theorem RW.to {w w':World} {B rb wb:Nat} {s:ByteArray} {k k':Nat} {pl:Int} {xs:List Atm} (h:RW w B rb wb s k pl xs) (ht:Tb w.heap.size rb w w') (hr:Rdr w' rb s k'):RW w' B rb wb s k' pl xs:=
 ⟨hr,h.wrd.imp fun _ h'=>h'.tb ht h.rl,h.rl,Nat.le_trans h.bl ht.size⟩
theorem RW.below {w w':World} {B rb wb:Nat} {s:ByteArray} {k:Nat} {pl:Int} {xs:List Atm} (h:RW w B rb wb s k pl xs) (ht:Below w.heap.size w w'):RW w' B rb wb s k pl xs:=
 h.to (Tb.of_below ht) (h.rdr.below ht h.rdr.lt)
set_option maxHeartbeats 1000000 in
set_option maxRecDepth 10000 in
theorem itself_any (B rb wb:Nat) (s:ByteArray) (k:Nat) (pl:Int) (xs:List Atm) (w:World) (h:RW w B rb wb s k pl xs) (hk:k<s.size) (hs:s.size≤1500) (ha:xs.length≤1500) :
  Calls Tryz.prog 147 #[.pointer (some ⟨rb,0,none⟩),.pointer (some ⟨wb,0,none⟩)] w fun ev w'=>ev=.returned (.tuple #[])∧RW w' B rb wb s (k+1) pl (xs++[.byte s[k]])∧Tb B rb w w':=by
 have h0:=h.rdr.c0
 have h1:=h.rdr.c1
 have i0:(0:Int)≤(k:Int):=by omega
 have i1:(k:Int)+1≤(s.size:Int):=by omega
 have i2:(k:Int)≤(k:Int)+1:=by omega
 have i3:IntKind.i64.wrap ((k:Int)+1)=(k:Int)+1:=by have:=wrap_i64 (k+1) (by omega); simpa using this
 have HW:=hide h
 have HA:Hid (∀ W,RW W B rb wb s k pl xs→Calls Tryz.prog 186 #[.pointer (some ⟨wb,0,none⟩),.string (s.extract k (k+1))] W fun ev w'=>ev=.returned (.tuple #[])∧(∃ v',Wrd w' B wb pl v' (parts (xs++[.byte s[k]])))∧Below B W w'):=hide (fun W h=>by
  obtain ⟨v,hv⟩:=h.wrd
  have hp:=parts_le xs
  refine (addText_any B wb pl v (parts xs) (s.extract k (k+1)) W hv h.bl (by omega) (fun p hp' hv'=>by have:=hp.2 p hp' hv'; omega) (by rw [ext_one s k hk,bt_size]; simp)).mono ?_
  rintro ev w' ⟨rfl,hw,hb⟩
  refine ⟨rfl,?_,hb⟩
  rw [parts_snoc]
  rw [ext_one s k hk] at hw
  exact hw)
 clear h
 go_enter Tryz.func147,Tryz.ntmps147
 go_upto_region 0 with fail
 go_region_held3 (fun w'=>w'.cell? ⟨rb,0,none⟩=some (.string s)∧w'.cell? ⟨rb,1,none⟩=some (.int .i64 (k:Int)))
  (first | exact ⟨p0,p1⟩ | exact ⟨h0,h1⟩ | go_keep)
  (first | (go_at_call 186; refine (uh HA _ (by first | exact (uh HW).drew | exact uh HW | exact (uh HW).drewN _)).mono ?_; rintro ev w1 ⟨rfl,hW1,hb1'⟩; have hb1:Below B w w1:=(by first | exact hb1' | exact below0 hb1'); have HR1:=hide ((uh HW).rdr.below hb1 (uh HW).rl); have p0:=(uh HR1).c0; have p1:=(uh HR1).c1; have z1:=(uh HR1).fz 1))
 trace_state
 go_wp2_with fail
 go_end0
 have HR2:=(uh HR1).to (k+1)
 have hT:=Tb.to B rb w1 1 (.int .i64 ((k+1:Nat):Int))
 refine ⟨rfl,⟨HR2,?_,(uh HW).rl,Nat.le_trans (Nat.le_trans (uh HW).bl hb1.size) hT.size⟩,(Tb.of_below hb1).trans hT⟩
 obtain ⟨v',hv'⟩:=hW1
 exact ⟨v',hv'.tb (Tb.to _ rb w1 1 _) (uh HW).rl⟩
end Go.Proofs.YtehfpjcclknipaaGreatDoor
