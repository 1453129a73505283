import Derived.Test.YtehfpjcclknipaaGreatDoorJRdB
import Derived.Lib.Strings
import Derived.Lib.Slices
import Derived.Lib.Walk
import Derived.Lib.Bytealg
namespace Go.Proofs.YtehfpjcclknipaaGreatDoor
open Go.RowKit
set_option maxHeartbeats 1000000 in
set_option maxRecDepth 100000 in
theorem idxl_any (s:ByteArray) (c:Int) (w:World) :
  Calls Tryz.prog 245 #[.string s,.int .u8 c] w fun e w'=>e=.returned (.int .i64 (Lib.indexByte s.data.toList c.toNat.toUInt8))∧w'=w:=by
 go_enter Tryz.func245,Tryz.ntmps245
 go_wp2
 rw [run_callFunc_extern Tryz.func276 (by kernel_rfl) (by kernel_rfl) (by kernel_rfl) (e:=Extern.BytealgIndexByte.indexByte) (by kernel_rfl),Lib.run_indexByteString]
 simp only [Result.andThen]
 rw [Oper.upon_value]
 go_wp2
 go_ret
 exact ⟨rfl,rfl⟩
theorem idx_any (s:ByteArray) (c:Int) (w:World) :
  Calls Tryz.prog 210 #[.string s,.int .u8 c] w fun e w'=>e=.returned (.int .i64 (Lib.indexByte s.data.toList c.toNat.toUInt8))∧w'=w:=by
 have hI:=idxl_any s c w
 go_enter Tryz.func210,Tryz.ntmps210
 go_wp2_with (go_at_call 245; refine hI.mono ?_; clear hI; rintro e w' ⟨rfl,hw⟩; obtain rfl:=hw.symm)
 go_ret
 exact ⟨rfl,rfl⟩
theorem idx_neg (l:List UInt8) (c:UInt8):Lib.indexByte l c<0↔c ∉ l:=by
 induction l with
 | nil=>simp [Lib.indexByte]
 | cons b l ih=>
  have hge:∀ l:List UInt8,-1≤Lib.indexByte l c:=fun l=>by
   induction l with
   | nil=>simp [Lib.indexByte]
   | cons b l ih=>unfold Lib.indexByte; split; omega; split <;> omega
  have:=hge l
  unfold Lib.indexByte
  by_cases hb:b=c
  ·subst hb; simp
  ·have hb':(b==c)=false:=by simpa using hb
   rw [hb']
   simp only [Bool.false_eq_true,if_false,List.mem_cons,not_or]
   have hne:¬ c=b:=fun e=>hb e.symm
   by_cases h1:Lib.indexByte l c=-1
   ·rw [h1] at ih ⊢
    simp only [BEq.rfl,if_true]
    exact ⟨fun _=>⟨hne,ih.1 (by omega)⟩,fun _=>by omega⟩
   ·have h2:(Lib.indexByte l c==-1)=false:=by simpa using h1
    rw [h2]
    simp only [Bool.false_eq_true,if_false]
    exact ⟨fun h=>by omega,fun h=>absurd (ih.2 h.2) (by omega)⟩
def Wrg (w:World) (ev:Ending) (e p:Nat):Prop:=
 ∃ b:Nat,ev=.panicked [{ v:=.iface 203 (.pointer (some ⟨b,0,none⟩)),recovered:=false }]∧w.heap[b]?=some (.cells #[.int .i64 (e:Int),.int .i64 (p:Int)] 206 (0,0))
theorem fail_wrg (e p:Nat) (w:World) :
  Calls Tryz.prog 69 #[.int .i64 (e:Int),.int .i64 (p:Int)] w fun ev w'=>∃ b:Nat,ev=.panicked [{ v:=.iface 203 (.pointer (some ⟨b,0,none⟩)),recovered:=false }]∧w'.heap[b]?=some (.cells #[.int .i64 (e:Int),.int .i64 (p:Int)] 206 (0,0))∧Below w.heap.size w w':=by
 refine (fail_any e p w).mono ?_
 rintro ev w' ⟨rfl,rfl⟩
 exact ⟨_,rfl,heap_alloc_new _ _,(Below.refl _ _).alloc (Nat.le_refl _) _⟩
theorem restR (rb:Nat) (s:ByteArray) (k:Nat) (w:World) (h:Rdr w rb s k) (hk:k≤s.size) :
  Calls Tryz.prog 141 #[.pointer (some ⟨rb,0,none⟩)] w fun e w'=>∃ t:ByteArray,e=.returned (.string t)∧Hid (t=s.extract k s.size)∧t.size=s.size-k∧Below w.heap.size w w':=by
 refine (rest_any rb s k w h hk).mono ?_
 rintro e w' ⟨rfl,hb⟩
 exact ⟨_,rfl,hide rfl,by rw [Lib.size_eq,ext_list,List.length_drop,Lib.size_eq],hb⟩
set_option maxHeartbeats 1000000 in
set_option maxRecDepth 10000 in
theorem escaped_ok (B rb wb:Nat) (s:ByteArray) (k:Nat) (pl:Int) (xs:List Atm) (w:World) (h:RW w B rb wb s k pl xs) (hk:k+1<s.size) (hs:s.size≤1500) (ha:xs.length≤1500) :
  Calls Tryz.prog 146 #[.pointer (some ⟨rb,0,none⟩),.pointer (some ⟨wb,0,none⟩)] w fun ev w'=>ev=.returned (.tuple #[])∧RW w' B rb wb s (k+2) pl (xs++[.byte s[k+1]])∧Tb B rb w w':=by
 have hR:=restR rb s k w h.rdr (by omega)
 have HW:=hide h
 clear h
 go_enter Tryz.func146,Tryz.ntmps146
 go_upto_region 2 with (go_at_call 141; refine hR.mono ?_; clear hR; rintro ev w1 ⟨t,rfl,HT,hts,hb1⟩; have g1:¬ (t.size:Int)<2:=(by omega))
 have HW1:=hide ((uh HW).below hb1)
 have c1:=(uh HW1).rdr.c1
 have z1:=(uh HW1).rdr.fz 1
 go_upto_region 3 with fail
 have e:IntKind.i64.wrap ((k:Int)+1)=((k+1:Nat):Int):=wrap_i64 (k+1) (by omega)
 obtain ⟨W2,hW2⟩:∃ W2,W2=w1.setCell ⟨rb,1,none⟩ (.int .i64 ((k+1:Nat):Int)):=⟨_,rfl⟩
 have hT:Tb w1.heap.size rb w1 W2:=by rw [hW2]; exact Tb.to _ _ _ _ _
 have HW2:=hide ((uh HW1).to hT (by rw [hW2]; exact (uh HW1).rdr.to (k+1)))
 rw [show ((k:Int)+1)=((k+1:Nat):Int) by omega,← hW2]
 have hB2:Tb B rb w W2:=(Tb.of_below (hb1.mono (uh HW).bl)).trans (hT.mono (uh HW1).bl)
 have hI:=itself_any B rb wb s (k+1) pl xs W2 (uh HW2) hk hs ha
 clear hW2 hT c1 z1 hb1 g1 hts
 go_wp2_with (go_at_call 147; refine hI.mono ?_; clear hI; rintro ev w3 ⟨rfl,hW3,hT3⟩)
 go_end0
 exact ⟨rfl,hW3,hB2.trans hT3⟩
set_option maxHeartbeats 1000000 in
set_option maxRecDepth 10000 in
theorem escaped_bad (B rb wb:Nat) (s:ByteArray) (k:Nat) (pl:Int) (xs:List Atm) (w:World) (h:RW w B rb wb s k pl xs) (hk:k+1=s.size) :
  Calls Tryz.prog 146 #[.pointer (some ⟨rb,0,none⟩),.pointer (some ⟨wb,0,none⟩)] w fun ev w'=>Wrg w' ev 5 k∧Tb B rb w w':=by
 have hR:=restR rb s k w h.rdr (by omega)
 have HW:=hide h
 clear h
 go_enter Tryz.func146,Tryz.ntmps146
 go_upto_region 1 with (go_at_call 141; refine hR.mono ?_; clear hR; rintro ev w1 ⟨t,rfl,HT,hts,hb1⟩; have g1:(t.size:Int)<2:=(by omega))
 have HW1:=hide ((uh HW).below hb1)
 have c1:=(uh HW1).rdr.c1
 have hF:=fail_wrg 5 k w1
 go_wp2_with (go_at_call 69; refine hF.mono ?_; clear hF; rintro ev w2 ⟨b,rfl,hc,hb2⟩)
 exact ⟨rfl,⟨b,rfl,hc⟩,Tb.of_below ((hb1.trans (hb2.mono hb1.size)).mono (uh HW).bl)⟩
theorem esc_idx (c:UInt8):(Lib.indexByte (⟨#[34,92,36]⟩:ByteArray).data.toList c<0)↔escQ c=false:=by
 rw [idx_neg]
 show ¬ c∈[34,92,36]↔_
 unfold escQ
 simp only [List.mem_cons,List.not_mem_nil,or_false,Bool.or_eq_false_iff,beq_eq_false_iff_ne,not_or,and_assoc,ne_eq]
theorem byte_back (c:UInt8):((c.toNat:Int)).toNat.toUInt8=c:=by simp
theorem ext_tail (s:ByteArray) (k:Nat):((s.extract k s.size).extract 1 (s.extract k s.size).size).data.toList=s.data.toList.drop (k+1):=by
 rw [ext_list,ext_list,List.drop_drop]
theorem fst_of {u:ByteArray} {l:List UInt8} {k:Nat} (h:u.data.toList=l.drop k) (hk:k<l.length):∃ h0:0<u.size,u[0]'h0=l[k]:=by
 have h0:0<u.size:=by rw [Lib.size_eq,h,List.length_drop]; omega
 refine ⟨h0,?_⟩
 have:u.data.toList[0]'(by rw [← Lib.size_eq]; exact h0)=l[k]:=by
  simp only [h]; simp
 exact this
set_option maxHeartbeats 1000000 in
set_option maxRecDepth 10000 in
theorem escQ_ok (B rb wb:Nat) (s:ByteArray) (k:Nat) (pl:Int) (xs:List Atm) (w:World) (h:RW w B rb wb s k pl xs) (hk:k+1<s.size) (hs:s.size≤1500) (ha:xs.length≤1500) (hq:escQ s[k+1]=true) :
  Calls Tryz.prog 182 #[.pointer (some ⟨rb,0,none⟩),.pointer (some ⟨wb,0,none⟩)] w fun ev w'=>ev=.returned (.tuple #[])∧RW w' B rb wb s (k+2) pl (xs++[.byte s[k+1]])∧Tb B rb w w':=by
 have hR:=restR rb s k w h.rdr (by omega)
 have HW:=hide h
 clear h
 go_enter Tryz.func182,Tryz.ntmps182
 go_upto_region 1 with (go_at_call 141; refine hR.mono ?_; clear hR; rintro ev w1 ⟨t,rfl,HT,hts,hb1⟩; have g0:(1:Int)≤(t.size:Int):=(by omega); clear hts)
 have HU:Hid ((t.extract 1 t.size).data.toList=s.data.toList.drop (k+1)):=hide (by rw [uh HT]; exact ext_tail s k)
 obtain ⟨u,hu⟩:∃ u,u=t.extract 1 t.size:=⟨_,rfl⟩
 rw [← hu] at HU ⊢
 obtain ⟨h0,e0⟩:=fst_of (uh HU) (by rw [← Lib.size_eq]; exact hk)
 have g1:u.toList.isEmpty=false:=by
  rw [Lib.toList_data,uh HU]
  cases hd:s.data.toList.drop (k+1) with
  | nil=>have:=congrArg List.length hd; rw [List.length_drop,← Lib.size_eq] at this; simp at this; omega
  | cons _ _=>rfl
 have hI:=idx_any ⟨#[34,92,36]⟩ (u[0].toNat:Int) w1
 rw [byte_back] at hI
 have g2:¬ Lib.indexByte (⟨#[34,92,36]⟩:ByteArray).data.toList u[0]<0:=by
  rw [esc_idx,e0,get_data s (k+1) hk,hq]; simp
 obtain ⟨d,hd⟩:∃ d,d=Lib.indexByte (⟨#[34,92,36]⟩:ByteArray).data.toList u[0]:=⟨_,rfl⟩
 rw [← hd] at hI g2
 clear hd e0 hu hq
 have HW1:=hide ((uh HW).below hb1)
 have c1:=(uh HW1).rdr.c1
 have z1:=(uh HW1).rdr.fz 1
 go_upto_region 4 with (go_at_call 210; refine hI.mono ?_; clear hI; rintro ev w9 ⟨rfl,hw⟩; obtain rfl:=hw.symm)
 have e:IntKind.i64.wrap ((k:Int)+1)=((k+1:Nat):Int):=wrap_i64 (k+1) (by omega)
 obtain ⟨W2,hW2⟩:∃ W2,W2=w1.setCell ⟨rb,1,none⟩ (.int .i64 ((k+1:Nat):Int)):=⟨_,rfl⟩
 have hT:Tb w1.heap.size rb w1 W2:=by rw [hW2]; exact Tb.to _ _ _ _ _
 have HW2:=hide ((uh HW1).to hT (by rw [hW2]; exact (uh HW1).rdr.to (k+1)))
 rw [show ((k:Int)+1)=((k+1:Nat):Int) by omega,← hW2]
 have hB2:Tb B rb w W2:=(Tb.of_below (hb1.mono (uh HW).bl)).trans (hT.mono (uh HW1).bl)
 have hI:=itself_any B rb wb s (k+1) pl xs W2 (uh HW2) hk hs ha
 clear hW2 hT c1 z1 hb1 g1 g2 g0
 go_wp2_with (go_at_call 147; refine hI.mono ?_; clear hI; rintro ev w3 ⟨rfl,hW3,hT3⟩)
 go_end0
 exact ⟨rfl,hW3,hB2.trans hT3⟩
set_option maxHeartbeats 1000000 in
set_option maxRecDepth 10000 in
theorem escQ_bad (B rb wb:Nat) (s:ByteArray) (k:Nat) (pl:Int) (xs:List Atm) (w:World) (h:RW w B rb wb s k pl xs) (hk:k<s.size) (hq:∀ h:k+1<s.size,escQ s[k+1]=false) :
  Calls Tryz.prog 182 #[.pointer (some ⟨rb,0,none⟩),.pointer (some ⟨wb,0,none⟩)] w fun ev w'=>Wrg w' ev 5 k∧Tb B rb w w':=by
 have hR:=restR rb s k w h.rdr (by omega)
 have HW:=hide h
 have HQ:=hide hq
 clear h hq
 go_enter Tryz.func182,Tryz.ntmps182
 go_upto_region 1 with (go_at_call 141; refine hR.mono ?_; clear hR; rintro ev w1 ⟨t,rfl,HT,hts,hb1⟩; have g0:(1:Int)≤(t.size:Int):=(by omega); clear hts)
 have HU:Hid ((t.extract 1 t.size).data.toList=s.data.toList.drop (k+1)):=hide (by rw [uh HT]; exact ext_tail s k)
 obtain ⟨u,hu⟩:∃ u,u=t.extract 1 t.size:=⟨_,rfl⟩
 rw [← hu] at HU ⊢
 have HW1:=hide ((uh HW).below hb1)
 have c1:=(uh HW1).rdr.c1
 have hF:=fail_wrg 5 k w1
 by_cases hlt:k+1<s.size
 ·obtain ⟨h0,e0⟩:=fst_of (uh HU) (by rw [← Lib.size_eq]; exact hlt)
  have g1:u.toList.isEmpty=false:=by
   rw [Lib.toList_data,uh HU]
   cases hd:s.data.toList.drop (k+1) with
   | nil=>have:=congrArg List.length hd; rw [List.length_drop,← Lib.size_eq] at this; simp at this; omega
   | cons _ _=>rfl
  have hI:=idx_any ⟨#[34,92,36]⟩ (u[0].toNat:Int) w1
  rw [byte_back] at hI
  have g2:Lib.indexByte (⟨#[34,92,36]⟩:ByteArray).data.toList u[0]<0:=by
   rw [esc_idx,e0,get_data s (k+1) hlt]; exact uh HQ hlt
  obtain ⟨d,hd⟩:∃ d,d=Lib.indexByte (⟨#[34,92,36]⟩:ByteArray).data.toList u[0]:=⟨_,rfl⟩
  rw [← hd] at hI g2
  clear hd e0 hu
  go_wp2_with (first
   | (go_at_call 210; refine hI.mono ?_; clear hI; rintro ev w9 ⟨rfl,hw⟩; obtain rfl:=hw.symm)
   | (go_at_call 69; refine hF.mono ?_; clear hF; rintro ev w2 ⟨b,rfl,hc,hb2⟩))
  exact ⟨rfl,⟨b,rfl,hc⟩,Tb.of_below ((hb1.trans (hb2.mono hb1.size)).mono (uh HW).bl)⟩
 ·have g1:u.toList.isEmpty=true:=by
   rw [Lib.toList_data,uh HU,List.drop_eq_nil_of_le (by rw [← Lib.size_eq]; omega)]; rfl
  clear hu
  go_wp2_with (go_at_call 69; refine hF.mono ?_; clear hF; rintro ev w2 ⟨b,rfl,hc,hb2⟩)
  exact ⟨rfl,⟨b,rfl,hc⟩,Tb.of_below ((hb1.trans (hb2.mono hb1.size)).mono (uh HW).bl)⟩
theorem nameN_le (l:List UInt8):nameN l≤l.length:=by
 cases l with
 | nil=>simp [nameN]
 | cons c r=>
  simp only [nameN]
  split
  ·exact (List.takeWhile_prefix _).length_le
  ·omega
theorem tw_take {p:UInt8→Bool} (l:List UInt8):(l.take (l.takeWhile p).length)=l.takeWhile p:=by
 induction l with
 | nil=>rfl
 | cons c r ih=>
  by_cases h:p c=true
  ·rw [List.takeWhile_cons_of_pos h]; simp [ih]
  ·rw [List.takeWhile_cons_of_neg h]; simp
theorem tw_tw {p:UInt8→Bool} (l:List UInt8):(l.takeWhile p).takeWhile p=l.takeWhile p:=by
 induction l with
 | nil=>rfl
 | cons c r ih=>
  by_cases h:p c=true
  ·rw [List.takeWhile_cons_of_pos h,List.takeWhile_cons_of_pos h,ih]
  ·rw [List.takeWhile_cons_of_neg h]; rfl
theorem nameN_take (l:List UInt8):nameN (l.take (nameN l))=nameN l:=by
 cases l with
 | nil=>rfl
 | cons c r=>
  by_cases h:isCapC c=true
  ·have e:nameN (c :: r)=((c :: r).takeWhile isNmC).length:=by simp [nameN,h]
   rw [e,tw_take]
   have hc:isNmC c=true:=by simp [isNmC,h]
   rw [List.takeWhile_cons_of_pos hc]
   simp only [nameN,h,if_true]
   rw [List.takeWhile_cons_of_pos hc,tw_tw]
  ·have e:nameN (c :: r)=0:=by simp [nameN,h]
   rw [e]; rfl
theorem isVar_take (l:List UInt8):isVarN (l.take (nameN l))=decide (nameN l≠0∧nameN l≤10):=by
 unfold isVarN
 have hl:(l.take (nameN l)).length=nameN l:=by rw [List.length_take]; have:=nameN_le l; omega
 rw [nameN_take,hl]
 by_cases h0:nameN l=0
 ·rw [h0]; simp
 ·have:(l.take (nameN l) != [])=true:=by
   simp only [bne_iff_ne,ne_eq]
   intro e; have:=congrArg List.length e; rw [hl] at this; exact h0 this
  rw [this]; simp [h0]
theorem Rdr.tb {w w':World} {rb:Nat} {s:ByteArray} {k:Nat} (h:Rdr w rb s k) (hb:Below w.heap.size w w'):Rdr w' rb s k:=h.below hb h.lt
def VarOut (w:World) (ev:Ending) (B rb wb:Nat) (s:ByteArray) (k:Nat) (pl:Int) (xs:List Atm):Prop:=match varG s.data.toList k with
 | none=>Wrg w ev 5 k
 | some (n,t)=>ev=.returned (.tuple #[])∧RW w B rb wb s t pl (xs++[.var n k])∧k<t∧t≤s.size
set_option maxHeartbeats 2000000 in
set_option maxRecDepth 10000 in
theorem var_any (B rb wb:Nat) (s:ByteArray) (k:Nat) (pl:Int) (xs:List Atm) (w:World) (h:RW w B rb wb s k pl xs) (hk:k<s.size) (hs:s.size≤1500) (ha:xs.length≤1500) :
  Calls Tryz.prog 145 #[.pointer (some ⟨rb,0,none⟩),.pointer (some ⟨wb,0,none⟩)] w fun ev w'=>VarOut w' ev B rb wb s k pl xs∧Tb B rb w w':=by
 have HW:=hide h
 have c1:=h.rdr.c1
 have z1:=h.rdr.fz 1
 obtain ⟨b,hb⟩:∃ b,(s.data.toList[k+1]?==some 123)=b:=⟨_,rfl⟩
 obtain ⟨f,hf⟩:∃ f,f=if b=true then k+1+1 else k+1:=⟨_,rfl⟩
 have hfk:k<f:=by rw [hf]; split <;> omega
 have hfs:f≤s.size:=by
  rw [hf]
  cases b with
  | false=>simp only [Bool.false_eq_true,if_false]; omega
  | true=>
   have:=(List.getElem?_eq_some_iff.1 (beq_iff_eq.1 hb)).1
   rw [← Lib.size_eq] at this; simp only [if_true]; omega
 have HV:Hid (varG s.data.toList k=if nameN (s.data.toList.drop f)=0∨10<nameN (s.data.toList.drop f)∨(b=true∧s.data.toList[f+nameN (s.data.toList.drop f)]?≠some 125) then none else some ((s.data.toList.drop f).take (nameN (s.data.toList.drop f)),if b then f+nameN (s.data.toList.drop f)+1 else f+nameN (s.data.toList.drop f))):=hide (by
  unfold varG; rw [hb,hf])
 clear h
 have HB:=hide hb
 have HF:=hide hf
 clear hb hf
 go_enter Tryz.func145,Tryz.ntmps145
 go_upto_region 2 with fail
 have e:IntKind.i64.wrap ((k:Int)+1)=((k+1:Nat):Int):=wrap_i64 (k+1) (by omega)
 obtain ⟨W2,hW2⟩:∃ W2,W2=w.setCell ⟨rb,1,none⟩ (.int .i64 ((k+1:Nat):Int)):=⟨_,rfl⟩
 have hT2:Tb w.heap.size rb w W2:=by rw [hW2]; exact Tb.to _ _ _ _ _
 have HW2:=hide ((uh HW).to hT2 (by rw [hW2]; exact (uh HW).rdr.to (k+1)))
 rw [show ((k:Int)+1)=((k+1:Nat):Int) by omega,← hW2]
 have hB2:Tb B rb w W2:=hT2.mono (uh HW).bl
 have hK:=take_any rb s ⟨#[123]⟩ (k+1) W2 (uh HW2).rdr (by omega) (by omega)
 rw [beg_one,uh HB,show (⟨#[123]⟩:ByteArray).size=1 from rfl,← uh HF] at hK
 clear hW2 hT2 c1 z1 e
 go_upto_region 3 with (go_at_call 108; refine hK.mono ?_; clear hK; rintro ev w3 ⟨rfl,hR3,hT3⟩)
 have HW3:=hide ((uh HW2).to hT3 hR3)
 have hB3:Tb B rb w w3:=hB2.trans (hT3.mono (uh HW2).bl)
 have hQ1:=rest_any rb s f w3 hR3 hfs
 have hQ2:=fun (w':World) (h':Below w3.heap.size w3 w')=>rest_any rb s f w' (hR3.tb h') hfs
 obtain ⟨u,hu⟩:∃ u,u=s.extract f s.size:=⟨_,rfl⟩
 rw [← hu] at hQ1
 simp only [← hu] at hQ2
 have hul:u.data.toList=s.data.toList.drop f:=by rw [hu,ext_list]
 have hus:u.size≤1500:=by rw [Lib.size_eq,hul,List.length_drop,← Lib.size_eq]; omega
 have hN:=fun w'=>name_any u w' (by omega)
 rw [hul] at hN
 obtain ⟨n,hn⟩:∃ n,n=nameN (s.data.toList.drop f):=⟨_,rfl⟩
 simp only [← hn] at hN
 have hnu:n≤u.size:=by rw [hn,Lib.size_eq,hul]; exact nameN_le _
 have hnl:f+n≤s.size:=by rw [Lib.size_eq,hul,List.length_drop,← Lib.size_eq] at hnu; omega
 rw [← hn] at HV
 have i0:(0:Int)≤(n:Int):=by omega
 have i1:(n:Int)≤(u.size:Int):=by omega
 have HUL:=hide hul
 have HN:=hide hn
 clear hT3 hR3 hu hul hn hus
 go_upto_region 4 with (first
  | (go_at_call 141; refine hQ1.mono ?_; clear hQ1; rintro ev w4 ⟨rfl,hb4⟩)
  | (go_at_call 141; refine (hQ2 _ hb4).mono ?_; clear hQ2; rintro ev w5 ⟨rfl,hb5⟩)
  | (go_at_call 183; refine (hN _).mono ?_; clear hN; rintro ev w6 ⟨rfl,hw⟩; obtain rfl:=hw.symm))
 have hb35:Below w3.heap.size w3 w5:=hb4.trans (hb5.mono hb4.size)
 have HW5:=hide ((uh HW3).below hb35)
 have hB5:Tb B rb w w5:=hB3.trans (Tb.of_below (hb35.mono (uh HW3).bl))
 obtain ⟨nm,hnm⟩:∃ nm,nm=u.extract 0 n:=⟨_,rfl⟩
 rw [← hnm]
 have hml:nm.data.toList=(s.data.toList.drop f).take n:=by
  rw [hnm,ByteArray.data_extract,Array.toList_extract,List.extract_eq_take_drop,uh HUL]; simp
 have hms:nm.size=n:=by
  rw [Lib.size_eq,hml,List.length_take,List.length_drop,← Lib.size_eq]; omega
 have hbt:nm=bt ((s.data.toList.drop f).take n):=by rw [← hml,bt_of]
 have hIV:=fun w'=>isVar_any nm w' (by omega)
 have hvd:isVarN nm.data.toList=decide (n≠0∧n≤10):=by rw [hml,uh HN]; exact isVar_take _
 simp only [hvd] at hIV
 have c1:=(uh HW5).rdr.c1
 have z1:=(uh HW5).rdr.fz 1
 have HMS:=hide hms
 have HBT:=hide hbt
 have hms':(nm.size:Int)=(n:Int):=by omega
 clear hb4 hb5 hb35 hnm hml hms hbt hvd hnu
 go_upto_region 5 with fail
 have e:IntKind.i64.wrap ((f:Int)+(n:Int))=((f+n:Nat):Int):=by rw [← Int.natCast_add]; exact wrap_i64 (f+n) (by omega)
 obtain ⟨W6,hW6⟩:∃ W6,W6=w5.setCell ⟨rb,1,none⟩ (.int .i64 ((f+n:Nat):Int)):=⟨_,rfl⟩
 have hT6:Tb w5.heap.size rb w5 W6:=by rw [hW6]; exact Tb.to _ _ _ _ _
 have HW6:=hide ((uh HW5).to hT6 (by rw [hW6]; exact (uh HW5).rdr.to (f+n)))
 rw [show ((f:Int)+(n:Int))=((f+n:Nat):Int) by omega,← hW6]
 have hB6:Tb B rb w W6:=hB5.trans (hT6.mono (uh HW5).bl)
 clear hW6 hT6 c1 z1 e hms'
 have hF:=fun w'=>fail_wrg 5 k w'
 by_cases hv:n≠0∧n≤10
 ·rw [decide_eq_true hv] at hIV
  have hAV:=fun (w':World) (k':Nat) (h':RW w' B rb wb s k' pl xs)=>(let ⟨v,hv'⟩:=h'.wrd; addVar_any B wb pl v (parts xs) nm k w' hv' h'.bl (by have:=(parts_le xs).1; omega))
  have HAV:=hide hAV
  clear hAV
  have fin:∀ (w7:World) (k':Nat),RW w7 B rb wb s k' pl xs→Tb B rb w w7→k<k'→k'≤s.size→varG s.data.toList k=some ((s.data.toList.drop f).take n,k')→∀ (w8:World),(∃ v',Wrd w8 B wb pl v' (parts xs++[⟨nm,true,(k:Int)⟩]))→Below B w7 w8 →
    VarOut w8 (.returned (.tuple #[])) B rb wb s k pl xs∧Tb B rb w w8:=by
   intro w7 k' h7 hT7 hk1 hk2 hG w8 h8 hb8
   unfold VarOut
   rw [hG]
   refine ⟨⟨rfl,⟨h7.rdr.below hb8 h7.rl,?_,h7.rl,Nat.le_trans h7.bl hb8.size⟩,hk1,hk2⟩,hT7.trans (Tb.of_below hb8)⟩
   rw [parts_snoc]
   rw [uh HBT] at h8
   exact h8
  have FIN:=hide fin
  clear fin
  cases b with
  | false=>
   have HG:Hid (varG s.data.toList k=some ((s.data.toList.drop f).take n,f+n)):=hide (by
    rw [uh HV,if_neg (by simp; omega)]; rfl)
   clear HV
   go_wp2_with (first
    | (go_at_call 184; refine (hIV _).mono ?_; clear hIV; rintro ev w7 ⟨rfl,hw⟩; obtain rfl:=hw.symm)
    | (go_at_call 185; refine (uh HAV W6 (f+n) (uh HW6)).mono ?_; rintro ev w8 ⟨rfl,hw8,hb8⟩))
   go_end0
   exact uh FIN W6 (f+n) (uh HW6) hB6 (by omega) hnl (uh HG) w8 hw8 hb8
  | true=>
   have hK2:=take_any rb s ⟨#[125]⟩ (f+n) W6 (uh HW6).rdr hnl (by omega)
   rw [beg_one,show (⟨#[125]⟩:ByteArray).size=1 from rfl] at hK2
   by_cases h5:s.data.toList[f+n]?=some 125
   ·have HG:Hid (varG s.data.toList k=some ((s.data.toList.drop f).take n,f+n+1)):=hide (by
     rw [uh HV,if_neg (by simp [h5]; omega)]; rfl)
    have hlt:f+n<s.size:=by rw [Lib.size_eq]; exact (List.getElem?_eq_some_iff.1 h5).1
    rw [h5] at hK2
    simp only [BEq.rfl,if_true] at hK2
    clear HV h5
    go_wp2_with (first
     | (go_at_call 184; refine (hIV _).mono ?_; clear hIV; rintro ev w7 ⟨rfl,hw⟩; obtain rfl:=hw.symm)
     | (go_at_call 108; refine hK2.mono ?_; clear hK2; rintro ev w7 ⟨rfl,hR7,hT7⟩; have HW7:=hide ((uh HW6).to hT7 hR7); have hB7:Tb B rb w w7:=hB6.trans (hT7.mono (uh HW6).bl))
     | (go_at_call 185; refine (uh HAV w7 (f+n+1) (uh HW7)).mono ?_; rintro ev w8 ⟨rfl,hw8,hb8⟩))
    go_end0
    exact uh FIN w7 (f+n+1) (uh HW7) hB7 (by omega) (by omega) (uh HG) w8 hw8 hb8
   ·have HG:Hid (varG s.data.toList k=none):=hide (by
     rw [uh HV,if_pos (.inr (.inr ⟨rfl,h5⟩))])
    have h5':(s.data.toList[f+n]?==some 125)=false:=by simpa using h5
    rw [h5'] at hK2
    simp only [Bool.false_eq_true,if_false] at hK2
    clear HV h5 h5'
    go_wp2_with (first
     | (go_at_call 184; refine (hIV _).mono ?_; clear hIV; rintro ev w7 ⟨rfl,hw⟩; obtain rfl:=hw.symm)
     | (go_at_call 108; refine hK2.mono ?_; clear hK2; rintro ev w7 ⟨rfl,hR7,hT7⟩; have hB7:Tb B rb w w7:=hB6.trans (hT7.mono (uh HW6).bl); have HZ:=hide (Nat.le_trans (uh HW6).bl hT7.size))
     | (go_at_call 69; refine (hF _).mono ?_; clear hF; rintro ev w8 ⟨bb,rfl,hc,hb8⟩))
    refine ⟨rfl,?_,hB7.trans (Tb.of_below (hb8.mono (uh HZ)))⟩
    unfold VarOut
    rw [uh HG]
    exact ⟨bb,rfl,hc⟩
 ·rw [decide_eq_false hv] at hIV
  have HG:Hid (varG s.data.toList k=none):=hide (by
   rw [uh HV,if_pos (by
    by_cases h0:n=0
    ·exact .inl h0
    ·exact .inr (.inl (by omega)))])
  clear HV hv
  go_wp2_with (first
   | (go_at_call 184; refine (hIV _).mono ?_; clear hIV; rintro ev w7 ⟨rfl,hw⟩; obtain rfl:=hw.symm)
   | (go_at_call 69; refine (hF _).mono ?_; clear hF; rintro ev w8 ⟨bb,rfl,hc,hb8⟩))
  refine ⟨rfl,?_,hB6.trans (Tb.of_below (hb8.mono (uh HW6).bl))⟩
  unfold VarOut
  rw [uh HG]
  exact ⟨bb,rfl,hc⟩
theorem begW (B rb wb:Nat) (s p:ByteArray) (k:Nat) (pl:Int) (xs:List Atm) (b:Bool) (w:World) (h:RW w B rb wb s k pl xs) (hk:k≤s.size) (hb:begG s k p=b) :
  Calls Tryz.prog 106 #[.pointer (some ⟨rb,0,none⟩),.string p] w fun e w'=>e=.returned (.bool b)∧RW w' B rb wb s k pl xs∧Tb B rb w w':=by
 refine (begR rb s p k b w h.rdr hk hb).mono ?_
 rintro e w' ⟨rfl,_,hb'⟩
 exact ⟨rfl,h.below hb',Tb.of_below (hb'.mono h.bl)⟩
theorem moreW (B rb wb:Nat) (s:ByteArray) (k:Nat) (pl:Int) (xs:List Atm) (b:Bool) (w:World) (h:RW w B rb wb s k pl xs) (hb:decide (k<s.size)=b) :
  Calls Tryz.prog 66 #[.pointer (some ⟨rb,0,none⟩)] w fun e w'=>e=.returned (.bool b)∧RW w' B rb wb s k pl xs∧Tb B rb w w':=by
 refine (moreR rb s k b w h.rdr hb).mono ?_
 rintro e w' ⟨rfl,_,hb'⟩
 exact ⟨rfl,h.below hb',Tb.of_below (hb'.mono h.bl)⟩
theorem takeW (B rb wb:Nat) (s p:ByteArray) (k:Nat) (pl:Int) (xs:List Atm) (b:Bool) (w:World) (h:RW w B rb wb s k pl xs) (hk:k≤s.size) (hs:s.size≤1500) (hb:begG s k p=b) :
  Calls Tryz.prog 108 #[.pointer (some ⟨rb,0,none⟩),.string p] w fun e w'=>e=.returned (.bool b)∧RW w' B rb wb s (if b=true then k+p.size else k) pl xs∧Tb B rb w w':=by
 refine (take_any rb s p k w h.rdr hk (by omega)).mono ?_
 rintro e w' ⟨rfl,hr,ht⟩
 rw [hb] at hr
 exact ⟨by rw [hb],h.to ht hr,ht.mono h.bl⟩
theorem endsW (B rb wb:Nat) (s:ByteArray) (k:Nat) (pl:Int) (xs:List Atm) (b:Bool) (w:World) (h:RW w B rb wb s k pl xs) (hk:k≤s.size) (hb:endG s.data.toList k=b) :
  Calls Tryz.prog 143 #[.pointer (some ⟨rb,0,none⟩)] w fun e w'=>e=.returned (.bool b)∧RW w' B rb wb s k pl xs∧Tb B rb w w':=by
 refine (ends_any rb s k w h.rdr hk).mono ?_
 rintro e w' ⟨rfl,hb'⟩
 exact ⟨by rw [hb],h.below hb',Tb.of_below (hb'.mono h.bl)⟩
theorem quo_none {l:List UInt8} {i k:Nat} {acc:List Atm} (h:l[k]?=none):quoG l i acc k=.error (5,i):=by
 rw [quoG]; split
 ·rfl
 ·rename_i c h'; rw [h] at h'; cases h'
theorem quo_some {l:List UInt8} {i k:Nat} {acc:List Atm} {c:UInt8} (h:l[k]?=some c):quoG l i acc k =
  if c=10 then .error (5,i)
  else if c=34 then .ok (acc,k+1)
  else if c=36 then
   match varG l k with
   | none=>.error (5,k)
   | some (n,t)=>if k<t then quoG l i (acc++[.var n k]) t else .error (5,k)
  else if c=92 then
   match l[k+1]? with
   | none=>.error (5,k)
   | some d=>if escQ d=true then quoG l i (acc++[.byte d]) (k+2) else .error (5,k)
  else quoG l i (acc++[.byte c]) (k+1):=by
 rw [quoG]; split
 ·rename_i h'; rw [h] at h'; cases h'
 ·rename_i d h'; rw [h] at h'; cases h'; rfl
theorem beg_is {s:ByteArray} {k:Nat} {c:UInt8} (d:UInt8) (h:s.data.toList[k]?=some c):begG s k ⟨#[d]⟩=decide (c=d):=by
 rw [beg_one,h,Bool.eq_iff_iff]
 simp
theorem beg_off {s:ByteArray} {k:Nat} (d:UInt8) (h:s.data.toList[k]?=none):begG s k ⟨#[d]⟩=false:=by
 rw [beg_one,h]; rfl
def QuoOut (w:World) (ev:Ending) (B rb wb:Nat) (s:ByteArray) (i:Nat) (pl:Int) (xs:List Atm) (k:Nat):Prop:=match quoG s.data.toList i xs k with
 | .error (e,p)=>Wrg w ev e p
 | .ok (ys,t)=>ev=.returned (.tuple #[])∧RW w B rb wb s t pl ys∧k≤t∧t≤s.size∧ys.length≤t
theorem QuoOut.bad {w:World} {ev:Ending} {B rb wb:Nat} {s:ByteArray} {i:Nat} {pl:Int} {xs ys:List Atm} {k j e p:Nat} (h:quoG s.data.toList i xs k=quoG s.data.toList i ys j) (hg:quoG s.data.toList i ys j=.error (e,p)) (hw:Wrg w ev e p):QuoOut w ev B rb wb s i pl xs k:=by
 unfold QuoOut; rw [h,hg]; exact hw
theorem get_some {s:ByteArray} {k:Nat} {c:UInt8} (h:s.data.toList[k]?=some c):∃ hlt:k<s.size,s[k]=c:=by
 obtain ⟨h1,h2⟩:=List.getElem?_eq_some_iff.1 h
 exact ⟨by rw [Lib.size_eq]; exact h1,h2⟩
set_option maxHeartbeats 4000000 in
set_option maxRecDepth 10000 in
theorem quoted_any (B rb wb:Nat) (s:ByteArray) (k:Nat) (pl:Int) (xs:List Atm) (w:World) (h:RW w B rb wb s k pl xs) (hk:k<s.size) (hs:s.size≤1500) (ha:xs.length≤k) :
  Calls Tryz.prog 144 #[.pointer (some ⟨rb,0,none⟩),.pointer (some ⟨wb,0,none⟩)] w fun ev w'=>QuoOut w' ev B rb wb s k pl xs (k+1)∧Tb B rb w w':=by
 have HW:=hide h
 have c1:=h.rdr.c1
 have z1:=h.rdr.fz 1
 clear h
 go_enter Tryz.func144,Tryz.ntmps144
 go_upto_region 2 with fail
 have e:IntKind.i64.wrap ((k:Int)+1)=((k+1:Nat):Int):=wrap_i64 (k+1) (by omega)
 obtain ⟨W2,hW2⟩:∃ W2,W2=w.setCell ⟨rb,1,none⟩ (.int .i64 ((k+1:Nat):Int)):=⟨_,rfl⟩
 have hT2:Tb w.heap.size rb w W2:=by rw [hW2]; exact Tb.to _ _ _ _ _
 have HW2:=hide ((uh HW).to hT2 (by rw [hW2]; exact (uh HW).rdr.to (k+1)))
 rw [show ((k:Int)+1)=((k+1:Nat):Int) by omega,← hW2]
 have hB2:Tb B rb w W2:=hT2.mono (uh HW).bl
 clear hW2 hT2 c1 z1 e
 go_loopw [16] (fun _ wr=>∃ (j:Nat) (ys:List Atm),RW wr B rb wb s j pl ys∧quoG s.data.toList k xs (k+1)=quoG s.data.toList k ys j∧ys.length≤j∧k<j∧j≤s.size∧Tb B rb w wr) (fun _ wr=>s.size-atOf wr rb)
 case atStart=>exact ⟨k+1,xs,uh HW2,rfl,by omega,by omega,by omega,hB2⟩
 case round=>
  obtain ⟨j,ys,hR,hG,hy,hkj,hj,hT⟩:=hrel
  have hA:=hR.rdr.at
  have HR:=hide hR
  have HG:=hide hG
  have HA:=hide hA
  have hF:=fun p w'=>fail_wrg 5 p w'
  clear hR hG hA
  cases hc:s.data.toList[j]? with
  | none=>
   have e0:=beg_off 34 hc
   have hjs:decide (j<s.size)=false:=by
    have:=List.getElem?_eq_none_iff.1 hc
    rw [← Lib.size_eq] at this; simp; omega
   have HQ:=hide (quo_none (i:=k) (acc:=ys) hc)
   have mT:=fun W (h:RW W B rb wb s j pl ys)=>takeW B rb wb s ⟨#[34]⟩ j pl ys false W h hj hs e0
   have mM:=fun W (h:RW W B rb wb s j pl ys)=>moreW B rb wb s j pl ys false W h hjs
   clear hc e0 hjs
   go_wp2_with (first
    | (go_at_call 108; refine (mT _ (uh HR)).mono ?_; clear mT; rintro ev w1 ⟨rfl,hW1,hT1⟩; have HW1:=hide hW1; clear hW1)
    | (go_at_call 66; refine (mM _ (uh HW1)).mono ?_; clear mM; rintro ev w2 ⟨rfl,hW2,hT2⟩; have HW2:=hide hW2; clear hW2)
    | (go_at_call 69; refine (hF _ _).mono ?_; clear hF; rintro ev w8 ⟨bb,rfl,hc,hb8⟩))
   exact ⟨rfl,QuoOut.bad (uh HG) (uh HQ) ⟨bb,rfl,hc⟩,((hT.trans hT1).trans hT2).trans (Tb.of_below (hb8.mono (uh HW2).bl))⟩
  | some c=>
   obtain ⟨hlt,hcv⟩:=get_some hc
   have HQ:=hide (quo_some (i:=k) (acc:=ys) hc)
   have mM:=fun W (h:RW W B rb wb s j pl ys)=>moreW B rb wb s j pl ys true W h (decide_eq_true hlt)
   by_cases hn34:c=34
   ·have hcc:=hn34
    have mT:=fun W (h:RW W B rb wb s j pl ys)=>takeW B rb wb s ⟨#[34]⟩ j pl ys true W h hj hs (by rw [beg_is 34 hc]; exact decide_eq_true hcc)
    have HQ2:Hid (quoG s.data.toList k ys j=.ok (ys,j+1)):=hide (by rw [uh HQ,if_neg (by rw [hcc]; decide),if_pos hcc])
    clear hc hcc hn34 hcv mM HQ
    go_wp2_with (first
     | (go_at_call 108; refine (mT _ (uh HR)).mono ?_; clear mT; rintro ev w1 ⟨rfl,hW1,hT1⟩; have HW1:=hide hW1; clear hW1))
    go_end0
    refine ⟨?_,hT.trans hT1⟩
    unfold QuoOut
    rw [uh HG,uh HQ2]
    exact ⟨rfl,uh HW1,by omega,by omega,by omega⟩
   by_cases hn10:c=10
   ·have hcc:=hn10
    have mT:=fun W (h:RW W B rb wb s j pl ys)=>takeW B rb wb s ⟨#[34]⟩ j pl ys false W h hj hs (by rw [beg_is 34 hc]; exact decide_eq_false hn34)
    have m10:=fun W (h:RW W B rb wb s j pl ys)=>begW B rb wb s ⟨#[10]⟩ j pl ys true W h hj (by rw [beg_is 10 hc]; exact decide_eq_true hcc)
    have HQ2:Hid (quoG s.data.toList k ys j=.error (5,k)):=hide (by rw [uh HQ,if_pos hcc])
    clear hc hcc hn34 hn10 hcv HQ
    go_wp2_with (first
     | (go_at_call 108; refine (mT _ (uh HR)).mono ?_; clear mT; rintro ev w1 ⟨rfl,hW1,hT1⟩; have HW1:=hide hW1; clear hW1)
     | (go_at_call 66; refine (mM _ (uh HW1)).mono ?_; clear mM; rintro ev w2 ⟨rfl,hW2,hT2⟩; have HW2:=hide hW2; clear hW2)
     | (go_at_call 106; refine (m10 _ (uh HW2)).mono ?_; clear m10; rintro ev w3 ⟨rfl,hW3,hT3⟩; have HW3:=hide hW3; clear hW3)
     | (go_at_call 69; refine (hF _ _).mono ?_; clear hF; rintro ev w8 ⟨bb,rfl,hc,hb8⟩))
    exact ⟨rfl,QuoOut.bad (uh HG) (uh HQ2) ⟨bb,rfl,hc⟩,(((hT.trans hT1).trans hT2).trans hT3).trans (Tb.of_below (hb8.mono (uh HW3).bl))⟩
   by_cases hn36:c=36
   ·have hcc:=hn36
    have mT:=fun W (h:RW W B rb wb s j pl ys)=>takeW B rb wb s ⟨#[34]⟩ j pl ys false W h hj hs (by rw [beg_is 34 hc]; exact decide_eq_false hn34)
    have m10:=fun W (h:RW W B rb wb s j pl ys)=>begW B rb wb s ⟨#[10]⟩ j pl ys false W h hj (by rw [beg_is 10 hc]; exact decide_eq_false hn10)
    have m36:=fun W (h:RW W B rb wb s j pl ys)=>begW B rb wb s ⟨#[36]⟩ j pl ys true W h hj (by rw [beg_is 36 hc]; exact decide_eq_true hcc)
    have hV:=fun W (h:RW W B rb wb s j pl ys)=>var_any B rb wb s j pl ys W h hlt hs (by omega)
    cases hv:varG s.data.toList j with
    | none=>
     have HQ2:Hid (quoG s.data.toList k ys j=.error (5,j)):=hide (by rw [uh HQ,if_neg hn10,if_neg hn34,if_pos hcc,hv])
     unfold VarOut at hV
     rw [hv] at hV
     unfold Wrg at hV
     clear hc hcc hn34 hn10 hn36 hcv HQ hv
     go_wp2_with (first
      | (go_at_call 108; refine (mT _ (uh HR)).mono ?_; clear mT; rintro ev w1 ⟨rfl,hW1,hT1⟩; have HW1:=hide hW1; clear hW1)
      | (go_at_call 66; refine (mM _ (uh HW1)).mono ?_; clear mM; rintro ev w2 ⟨rfl,hW2,hT2⟩; have HW2:=hide hW2; clear hW2)
      | (go_at_call 106; refine (m10 _ (uh HW2)).mono ?_; clear m10; rintro ev w3 ⟨rfl,hW3,hT3⟩; have HW3:=hide hW3; clear hW3)
      | (go_at_call 106; refine (m36 _ (uh HW3)).mono ?_; clear m36; rintro ev w4 ⟨rfl,hW4,hT4⟩; have HW4:=hide hW4; clear hW4)
      | (go_at_call 145; refine (hV _ (uh HW4)).mono ?_; clear hV; rintro ev w8 ⟨⟨bb,rfl,hc⟩,hT8⟩))
     exact ⟨rfl,QuoOut.bad (uh HG) (uh HQ2) ⟨bb,rfl,hc⟩,((((hT.trans hT1).trans hT2).trans hT3).trans hT4).trans hT8⟩
    | some q=>
     obtain ⟨n,t⟩:=q
     unfold VarOut at hV
     rw [hv] at hV
     have HQ2:Hid (k<j→j<t→quoG s.data.toList k ys j=quoG s.data.toList k (ys++[.var n j]) t):=hide (fun _ ht=>by
      rw [uh HQ,if_neg hn10,if_neg hn34,if_pos hcc,hv]; simp only; rw [if_pos ht])
     clear hc hcc hn34 hn10 hn36 hcv HQ hv
     go_wp2_with (first
      | (go_at_call 108; refine (mT _ (uh HR)).mono ?_; clear mT; rintro ev w1 ⟨rfl,hW1,hT1⟩; have HW1:=hide hW1; clear hW1)
      | (go_at_call 66; refine (mM _ (uh HW1)).mono ?_; clear mM; rintro ev w2 ⟨rfl,hW2,hT2⟩; have HW2:=hide hW2; clear hW2)
      | (go_at_call 106; refine (m10 _ (uh HW2)).mono ?_; clear m10; rintro ev w3 ⟨rfl,hW3,hT3⟩; have HW3:=hide hW3; clear hW3)
      | (go_at_call 106; refine (m36 _ (uh HW3)).mono ?_; clear m36; rintro ev w4 ⟨rfl,hW4,hT4⟩; have HW4:=hide hW4; clear hW4)
      | (go_at_call 145; refine (hV _ (uh HW4)).mono ?_; clear hV; rintro ev w8 ⟨⟨rfl,hW8,ht1,ht2⟩,hT8⟩))
     go_roundw
     case rel=>
      first
       | exact ⟨t,ys++[.var n j],hW8,(uh HG).trans (uh HQ2 hkj ht1),by simp; omega,by omega,ht2,((((hT.trans hT1).trans hT2).trans hT3).trans hT4).trans hT8⟩
       | ((repeat apply Exists.intro); exact ⟨⟨t,ys++[.var n j],hW8,(uh HG).trans (uh HQ2 hkj ht1),by simp; omega,by omega,ht2,((((hT.trans hT1).trans hT2).trans hT3).trans hT4).trans hT8⟩,rfl⟩)
     case measure=>rw [uh HA,hW8.rdr.at]; omega
   by_cases hn92:c=92
   ·have hcc:=hn92
    have mT:=fun W (h:RW W B rb wb s j pl ys)=>takeW B rb wb s ⟨#[34]⟩ j pl ys false W h hj hs (by rw [beg_is 34 hc]; exact decide_eq_false hn34)
    have m10:=fun W (h:RW W B rb wb s j pl ys)=>begW B rb wb s ⟨#[10]⟩ j pl ys false W h hj (by rw [beg_is 10 hc]; exact decide_eq_false hn10)
    have m36:=fun W (h:RW W B rb wb s j pl ys)=>begW B rb wb s ⟨#[36]⟩ j pl ys false W h hj (by rw [beg_is 36 hc]; exact decide_eq_false hn36)
    have m92:=fun W (h:RW W B rb wb s j pl ys)=>begW B rb wb s ⟨#[92]⟩ j pl ys true W h hj (by rw [beg_is 92 hc]; exact decide_eq_true hcc)
    cases hd:s.data.toList[j+1]? with
    | none=>
     have HQ2:Hid (quoG s.data.toList k ys j=.error (5,j)):=hide (by rw [uh HQ,if_neg hn10,if_neg hn34,if_neg hn36,if_pos hcc,hd])
     have hE:=fun W (h:RW W B rb wb s j pl ys)=>escQ_bad B rb wb s j pl ys W h hlt (fun h'=>by
      have:=List.getElem?_eq_none_iff.1 hd
      rw [← Lib.size_eq] at this; omega)
     unfold Wrg at hE
     clear hc hcc hn34 hn10 hn36 hn92 hcv HQ hd
     go_wp2_with (first
      | (go_at_call 108; refine (mT _ (uh HR)).mono ?_; clear mT; rintro ev w1 ⟨rfl,hW1,hT1⟩; have HW1:=hide hW1; clear hW1)
      | (go_at_call 66; refine (mM _ (uh HW1)).mono ?_; clear mM; rintro ev w2 ⟨rfl,hW2,hT2⟩; have HW2:=hide hW2; clear hW2)
      | (go_at_call 106; refine (m10 _ (uh HW2)).mono ?_; clear m10; rintro ev w3 ⟨rfl,hW3,hT3⟩; have HW3:=hide hW3; clear hW3)
      | (go_at_call 106; refine (m36 _ (uh HW3)).mono ?_; clear m36; rintro ev w4 ⟨rfl,hW4,hT4⟩; have HW4:=hide hW4; clear hW4)
      | (go_at_call 106; refine (m92 _ (uh HW4)).mono ?_; clear m92; rintro ev w5 ⟨rfl,hW5,hT5⟩; have HW5:=hide hW5; clear hW5)
      | (go_at_call 182; refine (hE _ (uh HW5)).mono ?_; clear hE; rintro ev w8 ⟨⟨bb,rfl,hc⟩,hT8⟩))
     exact ⟨rfl,QuoOut.bad (uh HG) (uh HQ2) ⟨bb,rfl,hc⟩,(((((hT.trans hT1).trans hT2).trans hT3).trans hT4).trans hT5).trans hT8⟩
    | some d=>
     obtain ⟨hlt2,hdv⟩:=get_some hd
     cases hq:escQ d with
     | false=>
      have HQ2:Hid (quoG s.data.toList k ys j=.error (5,j)):=hide (by rw [uh HQ,if_neg hn10,if_neg hn34,if_neg hn36,if_pos hcc,hd]; simp only; rw [if_neg (by simp [hq])])
      have hE:=fun W (h:RW W B rb wb s j pl ys)=>escQ_bad B rb wb s j pl ys W h hlt (fun h'=>by rw [hdv]; exact hq)
      unfold Wrg at hE
      clear hc hcc hn34 hn10 hn36 hn92 hcv HQ hd hdv hq
      go_wp2_with (first
       | (go_at_call 108; refine (mT _ (uh HR)).mono ?_; clear mT; rintro ev w1 ⟨rfl,hW1,hT1⟩; have HW1:=hide hW1; clear hW1)
       | (go_at_call 66; refine (mM _ (uh HW1)).mono ?_; clear mM; rintro ev w2 ⟨rfl,hW2,hT2⟩; have HW2:=hide hW2; clear hW2)
       | (go_at_call 106; refine (m10 _ (uh HW2)).mono ?_; clear m10; rintro ev w3 ⟨rfl,hW3,hT3⟩; have HW3:=hide hW3; clear hW3)
       | (go_at_call 106; refine (m36 _ (uh HW3)).mono ?_; clear m36; rintro ev w4 ⟨rfl,hW4,hT4⟩; have HW4:=hide hW4; clear hW4)
       | (go_at_call 106; refine (m92 _ (uh HW4)).mono ?_; clear m92; rintro ev w5 ⟨rfl,hW5,hT5⟩; have HW5:=hide hW5; clear hW5)
       | (go_at_call 182; refine (hE _ (uh HW5)).mono ?_; clear hE; rintro ev w8 ⟨⟨bb,rfl,hc⟩,hT8⟩))
      exact ⟨rfl,QuoOut.bad (uh HG) (uh HQ2) ⟨bb,rfl,hc⟩,(((((hT.trans hT1).trans hT2).trans hT3).trans hT4).trans hT5).trans hT8⟩
     | true=>
      have HQ2:Hid (quoG s.data.toList k ys j=quoG s.data.toList k (ys++[.byte d]) (j+2)):=hide (by rw [uh HQ,if_neg hn10,if_neg hn34,if_neg hn36,if_pos hcc,hd]; simp only; rw [if_pos hq])
      have hE:=fun W (h:RW W B rb wb s j pl ys)=>escQ_ok B rb wb s j pl ys W h hlt2 hs (by omega) (by rw [hdv]; exact hq)
      rw [hdv] at hE
      clear hc hcc hn34 hn10 hn36 hn92 hcv HQ hd hdv hq
      go_wp2_with (first
       | (go_at_call 108; refine (mT _ (uh HR)).mono ?_; clear mT; rintro ev w1 ⟨rfl,hW1,hT1⟩; have HW1:=hide hW1; clear hW1)
       | (go_at_call 66; refine (mM _ (uh HW1)).mono ?_; clear mM; rintro ev w2 ⟨rfl,hW2,hT2⟩; have HW2:=hide hW2; clear hW2)
       | (go_at_call 106; refine (m10 _ (uh HW2)).mono ?_; clear m10; rintro ev w3 ⟨rfl,hW3,hT3⟩; have HW3:=hide hW3; clear hW3)
       | (go_at_call 106; refine (m36 _ (uh HW3)).mono ?_; clear m36; rintro ev w4 ⟨rfl,hW4,hT4⟩; have HW4:=hide hW4; clear hW4)
       | (go_at_call 106; refine (m92 _ (uh HW4)).mono ?_; clear m92; rintro ev w5 ⟨rfl,hW5,hT5⟩; have HW5:=hide hW5; clear hW5)
       | (go_at_call 182; refine (hE _ (uh HW5)).mono ?_; clear hE; rintro ev w8 ⟨rfl,hW8,hT8⟩))
      go_roundw
      case rel=>
       first
        | exact ⟨j+2,ys++[.byte d],hW8,(uh HG).trans (uh HQ2),by simp; omega,by omega,by omega,(((((hT.trans hT1).trans hT2).trans hT3).trans hT4).trans hT5).trans hT8⟩
        | ((repeat apply Exists.intro); exact ⟨⟨j+2,ys++[.byte d],hW8,(uh HG).trans (uh HQ2),by simp; omega,by omega,by omega,(((((hT.trans hT1).trans hT2).trans hT3).trans hT4).trans hT5).trans hT8⟩,rfl⟩)
      case measure=>rw [uh HA,hW8.rdr.at]; omega
   have mT:=fun W (h:RW W B rb wb s j pl ys)=>takeW B rb wb s ⟨#[34]⟩ j pl ys false W h hj hs (by rw [beg_is 34 hc]; exact decide_eq_false hn34)
   have m10:=fun W (h:RW W B rb wb s j pl ys)=>begW B rb wb s ⟨#[10]⟩ j pl ys false W h hj (by rw [beg_is 10 hc]; exact decide_eq_false hn10)
   have m36:=fun W (h:RW W B rb wb s j pl ys)=>begW B rb wb s ⟨#[36]⟩ j pl ys false W h hj (by rw [beg_is 36 hc]; exact decide_eq_false hn36)
   have m92:=fun W (h:RW W B rb wb s j pl ys)=>begW B rb wb s ⟨#[92]⟩ j pl ys false W h hj (by rw [beg_is 92 hc]; exact decide_eq_false hn92)
   have HQ2:Hid (quoG s.data.toList k ys j=quoG s.data.toList k (ys++[.byte c]) (j+1)):=hide (by rw [uh HQ,if_neg hn10,if_neg hn34,if_neg hn36,if_neg hn92])
   have hE:=fun W (h:RW W B rb wb s j pl ys)=>itself_any B rb wb s j pl ys W h hlt hs (by omega)
   rw [hcv] at hE
   clear hc hn34 hn10 hn36 hn92 hcv HQ
   go_wp2_with (first
    | (go_at_call 108; refine (mT _ (uh HR)).mono ?_; clear mT; rintro ev w1 ⟨rfl,hW1,hT1⟩; have HW1:=hide hW1; clear hW1)
    | (go_at_call 66; refine (mM _ (uh HW1)).mono ?_; clear mM; rintro ev w2 ⟨rfl,hW2,hT2⟩; have HW2:=hide hW2; clear hW2)
    | (go_at_call 106; refine (m10 _ (uh HW2)).mono ?_; clear m10; rintro ev w3 ⟨rfl,hW3,hT3⟩; have HW3:=hide hW3; clear hW3)
    | (go_at_call 106; refine (m36 _ (uh HW3)).mono ?_; clear m36; rintro ev w4 ⟨rfl,hW4,hT4⟩; have HW4:=hide hW4; clear hW4)
    | (go_at_call 106; refine (m92 _ (uh HW4)).mono ?_; clear m92; rintro ev w5 ⟨rfl,hW5,hT5⟩; have HW5:=hide hW5; clear hW5)
    | (go_at_call 147; refine (hE _ (uh HW5)).mono ?_; clear hE; rintro ev w8 ⟨rfl,hW8,hT8⟩))
   go_roundw
   case rel=>
    first
     | exact ⟨j+1,ys++[.byte c],hW8,(uh HG).trans (uh HQ2),by simp; omega,by omega,by omega,(((((hT.trans hT1).trans hT2).trans hT3).trans hT4).trans hT5).trans hT8⟩
     | ((repeat apply Exists.intro); exact ⟨⟨j+1,ys++[.byte c],hW8,(uh HG).trans (uh HQ2),by simp; omega,by omega,by omega,(((((hT.trans hT1).trans hT2).trans hT3).trans hT4).trans hT5).trans hT8⟩,rfl⟩)
   case measure=>rw [uh HA,hW8.rdr.at]; omega
end Go.Proofs.YtehfpjcclknipaaGreatDoor
