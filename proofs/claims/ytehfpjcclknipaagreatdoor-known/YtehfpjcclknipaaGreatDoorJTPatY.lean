import Derived.Test.YtehfpjcclknipaaGreatDoorJTTopK
import Derived.Test.YtehfpjcclknipaaGreatDoorTelE
import Derived.Test.YtehfpjcclknipaaGreatDoorJTChl
import Derived.Test.YtehfpjcclknipaaGreatDoorJTDifA
import Derived.Test.YtehfpjcclknipaaGreatDoorJTOctB
import Derived.Deep.RegionWith
import Derived.Test.YtehfpjcclknipaaGreatDoorJTPckJ
import Derived.Test.YtehfpjcclknipaaGreatDoorJTChgA
import Derived.Deep.Cut
import Derived.Deep.CutRange
namespace Go.Proofs.YtehfpjcclknipaaGreatDoor.T
open Go.RowKit Go.Maps
def PErr (xa cs:List Ent) (c:Int) (i:Nat):Prop:=
 (c=3∧FirstBadC cs i)∨(c=8∧FirstBadC cs (-1)∧FirstP (mrkAt xa cs) cs.length i) ∨
 (c=9∧FirstBadC cs (-1)∧FirstP (mrkAt xa cs) cs.length (-1)∧FirstP (putBad (marksF xa cs) cs) cs.length i)
def PFine (xa cs:List Ent):Prop:=FirstBadC cs (-1)∧FirstP (mrkAt xa cs) cs.length (-1)∧FirstP (putBad (marksF xa cs) cs) cs.length (-1)
def LPatIs (w:World) (xa cs ks:List Ent) (er:Value):Prop:=
 (∃ i:Nat,ks=[]∧ErIs w er 2 i∧FirstBad xa i) ∨
 (FirstBad xa (-1)∧∃ (c:Int) (i:Nat),ks=[]∧ErIs w er c i∧PErr xa cs c i) ∨
 (FirstBad xa (-1)∧PFine xa cs∧40<(patF xa cs).length∧ks=[]∧er=.iface 22 (.int .i64 10)) ∨
 (FirstBad xa (-1)∧PFine xa cs∧(patF xa cs).length≤40∧ks=patF xa cs∧er=.nilIface)
def PPatIs (xa cs ks:List Ent) (e n:Int):Prop:=
 (∃ i:Nat,ks=[]∧e=2∧n=i∧FirstBad xa i) ∨
 (FirstBad xa (-1)∧∃ (c:Int) (i:Nat),ks=[]∧e=c∧n=i∧PErr xa cs c i) ∨
 (FirstBad xa (-1)∧PFine xa cs∧40<(patF xa cs).length∧ks=[]∧e=10∧n=-1) ∨
 (FirstBad xa (-1)∧PFine xa cs∧(patF xa cs).length≤40∧ks=patF xa cs∧e=0∧n=-1)
set_option maxHeartbeats 2000000 in
theorem lpatch_any (ao bo:Option Addr) (ca cb na nb:Nat) (xa cs:List Ent) (w:World) (ha:ERow w ao xa) (hb:ERow w bo cs) (HNa:Hid (na=xa.length)) (HNb:Hid (nb=cs.length)) (hna:na≤4294967280) (hnb:nb≤4294967280) (hcb:nb≤cb) (HSa:Hid (Small xa)) (HSb:Hid (Small cs)) (hl:Laid w) :
  Calls Tryz.prog 15 #[.slice ao na ca,.slice bo nb cb] w fun ev w'=>∃ (vo:Option Addr) (vc vn:Nat) (ks:List Ent) (er:Value),ev=.returned (.tuple #[.slice vo vn vc,er])∧Hid (vn=ks.length)∧Hid (ERow w' vo ks)∧Hid (LPatIs w' xa cs ks er)∧Below w.heap.size w w':=by
 obtain ⟨m,hm⟩:=hl.max
 have HM:=hide hm
 have HRb:=hide hb
 have hOa:=of_tree ao ca na xa m w ha HNa hna HSa hm
 clear hl hb hm
 go_enter Tryz.func15,Tryz.ntmps15
 go_upto_region 2 with (go_at_call 23;refine hOa.mono ?_;clear hOa;rintro ev w1 ⟨v1,e1,rfl,HO1,hb1⟩)
 rcases uh HO1 with ⟨r,ns,rfl,rfl,hE,hMm,hF⟩ | ⟨i,q,rfl,rfl,c0,c1,hF⟩
 ·have HT1:Hid (Tree xa):=hide (tree_of hF (uh HSa))
  have HF1:=hide hF
  have HMm:=hide hMm
  have HE:=hide hE
  have hP:=patch_any r ns w.heap.size xa bo cb nb cs m w1 hMm HE HT1 (fun W h=>(uh HRb).below (hb1.trans h)) HNb hnb hcb HSb hb1.size (fun W h=>cell_later (hb1.trans h) (uh HM))
  clear HO1 hE hMm hF ha
  go_upto_region 5 with (go_at_call 25;refine hP.mono ?_;clear hP;rintro ev w2 ⟨er,rfl,HP2,hb2⟩)
  have hB2:Below w.heap.size w w2:=hb1.trans hb2
  have bad:∀ (c:Int) (i:Nat),ErIs w2 er c i→PErr xa cs c i→∃ b:Nat,er=.iface 80 (.pointer (some ⟨b,0,none⟩))∧Hid (LPatIs w2 xa cs [] er):=fun c i he hp=>by
   obtain ⟨b,h1,h2,h3⟩:=he
   exact ⟨b,h1,hide (.inr (.inl ⟨uh HF1,c,i,rfl,⟨b,h1,h2,h3⟩,hp⟩))⟩
  have HBad:=hide bad
  clear bad
  have fin:(∃ b:Nat,er=.iface 80 (.pointer (some ⟨b,0,none⟩))∧Hid (LPatIs w2 xa cs [] er))∨(er=.iface 22 (.int .i64 10)∧Hid (LPatIs w2 xa cs [] er))∨(er=.nilIface∧Hid (PFine xa cs∧(patF xa cs).length≤40∧TreeS (patF xa cs)∧∃ ns,Mem w2 w.heap.size r ns∧entsN ns=patF xa cs)):=by
   rcases uh HP2 with ⟨i,he,hf⟩ | ⟨h0,i,he,hf⟩ | ⟨h0,h1,i,he,hf⟩ | ⟨h0,h1,h2,hts,_,h3⟩
   ·exact .inl (uh HBad 3 i he (.inl ⟨rfl,hf⟩))
   ·exact .inl (uh HBad 8 i he (.inr (.inl ⟨rfl,h0,hf⟩)))
   ·exact .inl (uh HBad 9 i he (.inr (.inr ⟨rfl,h0,h1,hf⟩)))
   ·rcases h3 with ⟨h3,h4⟩ | ⟨h3,h4,h5⟩
    ·exact .inr (.inl ⟨h4,hide (.inr (.inr (.inl ⟨uh HF1,⟨h0,h1,h2⟩,h3,rfl,h4⟩)))⟩)
    ·exact .inr (.inr ⟨h4,hide ⟨⟨h0,h1,h2⟩,h3,hts,h5⟩⟩)
  clear HP2 HBad
  rcases fin with ⟨b,rfl,HL⟩ | ⟨rfl,HL⟩ | ⟨rfl,HL⟩
  ·go_wp2_with fail
   go_ret2
   exact ⟨none,0,0,[],_,rfl,hide rfl,hide (erow_nil _ _),HL,hB2⟩
  ·go_wp2_with fail
   go_ret2
   exact ⟨none,0,0,[],_,rfl,hide rfl,hide (erow_nil _ _),HL,hB2⟩
  ·obtain ⟨hfine,hlen,hts,ns2,hM2,hE2⟩:=uh HL
   have HTG:Hid (TreeG (patF xa cs)):=hide ⟨hts.ok,by omega,puts_small cs (marks_small cs (uh HSa)) (uh HSb)⟩
   have hL:=list_any w2 hM2 (hide hE2) HTG
   have HFi:=hide hfine
   have HLe:=hide hlen
   clear HL hfine hlen hts hM2 hE2
   go_wp2_with (go_at_call 26;refine hL.mono ?_;clear hL;rintro ev w3 ⟨vo,vc,vn,rfl,HVN,hvr,hb3⟩)
   go_ret2
   exact ⟨vo,vc,vn,patF xa cs,_,rfl,HVN,hide hvr,hide (.inr (.inr (.inr ⟨uh HF1,uh HFi,uh HLe,rfl,rfl⟩))),hB2.trans (hb3.mono hB2.size)⟩
 ·have HF1:=hide hF
  clear HO1 hF ha
  go_wp2_with fail
  go_ret2
  exact ⟨none,0,0,[],_,rfl,hide rfl,hide (erow_nil _ _),hide (.inl ⟨i,rfl,⟨q,rfl,c0,c1⟩,uh HF1⟩),hb1⟩
set_option maxHeartbeats 2000000 in
theorem ppatch_any (ao bo:Option Addr) (ca cb na nb:Nat) (xa cs:List Ent) (w:World) (ha:ERow w ao xa) (hb:ERow w bo cs) (HNa:Hid (na=xa.length)) (HNb:Hid (nb=cs.length)) (hna:na≤4294967280) (hnb:nb≤4294967280) (hcb:nb≤cb) (HSa:Hid (Small xa)) (HSb:Hid (Small cs)) (hl:Laid w) :
  Calls Tryz.prog 8 #[.slice ao na ca,.slice bo nb cb] w fun ev w'=>∃ (vo:Option Addr) (vc vn:Nat) (ks:List Ent) (e n:Int),ev=.returned (.tuple #[.slice vo vn vc,.int .i64 e,.int .i64 n])∧Hid (vn=ks.length)∧Hid (ERow w' vo ks)∧Hid (PPatIs xa cs ks e n)∧Below w.heap.size w w':=by
 have HL:=hide hl
 have hD:=lpatch_any ao bo ca cb na nb xa cs w ha hb HNa HNb hna hnb hcb HSa HSb hl
 clear ha hb hl
 go_enter Tryz.func8,Tryz.ntmps8
 go_upto_region 2 with (go_at_call 15;refine hD.mono ?_;clear hD;rintro ev w1 ⟨vo,vc,vn,ks,er,rfl,HVN,HVR,HO,hb1⟩)
 have HL1:=hide ((uh HL).below hb1)
 have fin:(∃ (b:Nat) (c i:Int),er=.iface 80 (.pointer (some ⟨b,0,none⟩))∧w1.cell? ⟨b,0,none⟩=some (.int .i64 c)∧w1.cell? ⟨b,1,none⟩=some (.int .i64 i)∧Hid (PPatIs xa cs ks c i))∨(er=.iface 22 (.int .i64 10)∧Hid (PPatIs xa cs ks 10 (-1)))∨(er=.nilIface∧Hid (PPatIs xa cs ks 0 (-1))):=by
  rcases uh HO with ⟨i,h1,⟨b,h2,h3,h4⟩,h5⟩ | ⟨h0,c,i,h1,⟨b,h2,h3,h4⟩,h5⟩ | ⟨h0,h1,h2,h3,h4⟩ | ⟨h0,h1,h2,h3,h4⟩
  ·exact .inl ⟨b,2,i,h2,h3,h4,hide (.inl ⟨i,h1,rfl,rfl,h5⟩)⟩
  ·exact .inl ⟨b,c,i,h2,h3,h4,hide (.inr (.inl ⟨h0,c,i,h1,rfl,rfl,h5⟩))⟩
  ·exact .inr (.inl ⟨h4,hide (.inr (.inr (.inl ⟨h0,h1,h2,h3,rfl,rfl⟩)))⟩)
  ·exact .inr (.inr ⟨h4,hide (.inr (.inr (.inr ⟨h0,h1,h2,h3,rfl,rfl⟩)))⟩)
 clear HO
 rcases fin with ⟨b,c,i,rfl,c0,c1,HP⟩ | ⟨rfl,HP⟩ | ⟨rfl,HP⟩
 ·have hT:=tell_at b c i w1 (uh HL1).err c0 c1
  clear c0 c1
  go_wp2_with (go_at_call 13;refine hT.mono ?_;clear hT;rintro ev w2 ⟨rfl,hb2⟩)
  refine bodyPost_ret (results_tmp3 rfl _ _ _) rfl ?_
  exact ⟨_,_,_,_,_,_,rfl,HVN,hide ((uh HVR).below hb2),HP,hb1.trans (hb2.mono hb1.size)⟩
 ·have hT:=tell_errno 10 w1 (uh HL1).err
  go_wp2_with (go_at_call 13;refine hT.mono ?_;clear hT;rintro ev w2 ⟨rfl,hb2⟩)
  refine bodyPost_ret (results_tmp3 rfl _ _ _) rfl ?_
  exact ⟨_,_,_,_,_,_,rfl,HVN,hide ((uh HVR).below hb2),HP,hb1.trans (hb2.mono hb1.size)⟩
 ·go_wp2_with (go_at_call 13;refine (tell_nil w1).mono ?_;rintro ev w2 ⟨rfl,hb2⟩)
  refine bodyPost_ret (results_tmp3 rfl _ _ _) rfl ?_
  exact ⟨_,_,_,_,_,_,rfl,HVN,hide ((uh HVR).below hb2),HP,hb1.trans (hb2.mono hb1.size)⟩
end Go.Proofs.YtehfpjcclknipaaGreatDoor.T
namespace Go.Proofs.YtehfpjcclknipaaGreatDoor.T
open Go.RowKit
theorem entry_len {c:Ent}{m:Nat}(h:PkC c m):(entryL c).length≤6000:=by
 have h1:=octL_lt 5 (totalL c) (by have:=total_lt h;simp;omega)
 have h2:=h.file
 have h3:padL (dataL c).length<512:=Nat.mod_lt _ (by omega)
 simp only [entryL,List.length_append,head_len h,tail_len h,digL_len h1,List.length_replicate,List.length_cons,List.length_nil]
 omega
theorem flatE_snoc {cs:List Ent}{k:Nat}{c:Ent}(h:cs[k]?=some c):((cs.take (k+1)).map entryL).flatten=((cs.take k).map entryL).flatten++entryL c:=by
 rw [List.take_add_one,h];simp
structure St where
 a:Nat
 b:Nat
 c:Nat
 d:Nat
 e:Nat
 f:Nat
 g:Nat
 q:Nat
def St.list (v:St):List Nat:=[v.a,v.b,v.c,v.d,v.e,v.f,v.g,v.q]
attribute [local go_sem] setCell_drewN alloc_drewN
attribute [local go_sem] Go.wp_at_zero Go.wp_at_succ
def pl (v y:St) (k:Nat):List Nat:=(List.range 8).map fun i=>if i<k then (v.list.getD i 0+y.list.getD i 0) % 4294967296 else v.list.getD i 0
end Go.Proofs.YtehfpjcclknipaaGreatDoor.T
namespace Go.Proofs.YtehfpjcclknipaaGreatDoor.T
open Go.RowKit
attribute [local go_sem] setCell_drewN alloc_drewN
attribute [local go_sem] Go.wp_at_zero Go.wp_at_succ
def H0:St:=⟨1779033703,3144134277,1013904242,2773480762,1359893119,2600822924,528734635,1541459225⟩
end Go.Proofs.YtehfpjcclknipaaGreatDoor.T
namespace Go.Proofs.YtehfpjcclknipaaGreatDoor.T
open Go.RowKit
theorem builder_later {T e:TypeId}{B b:Nat}{p:Value}{bs:List Value}{w w':World}(h:Lib.BuilderAt T e B b p bs w) (hb:Below w.heap.size w w'):Lib.BuilderAt T e B b p bs w':=by
 obtain ⟨h1,v,h2,h3,h4⟩:=h
 refine ⟨h1,v,(hb.block b (Array.getElem?_eq_some_iff.1 h2).1).trans h2,h3.kept (grown_of_below hb) ?_,h4⟩
 cases hv:v.ownBlock <;> simp
def Bld (B b:Nat) (l:List UInt8) (w:World):Prop:=Lib.IsBuilder 147 5 B b (Lib.byteCells l) w∧B≤w.heap.size
theorem Bld.later {B b:Nat}{l:List UInt8}{w w':World}(h:Bld B b l w) (hb:Below w.heap.size w w'):Bld B b l w':=by
 refine ⟨?_,Nat.le_trans h.2 hb.size⟩
 rcases h.1 with h1 | h1
 ·exact .inl (builder_later h1 hb)
 ·exact .inr (builder_later h1 hb)
theorem bld_new (w:World):Bld w.heap.size w.heap.size [] (w.alloc (.cells #[.pointer none,.slice none 0 0] 147)):=
 ⟨.inl ⟨Nat.le_refl _,.slice none 0 0,heap_alloc_new _ _,World.ownsRow_nil _ _ _ _,by simp [Value.ownBlock]⟩,by simp⟩
theorem byteCells_len (l:List UInt8):(Lib.byteCells l).length=l.length:=by simp [Lib.byteCells]
theorem wb (B b:Nat) (l:List UInt8) (c:Int) (x:UInt8) (w:World) (h:Bld B b l w) (hc:c=(x.toNat:Int)) (hl:l.length≤4294967296) :
  Calls Tryz.prog 192 #[.pointer (some ⟨b,0,none⟩),.int .u8 c] w fun e w'=>e=.returned .nilIface∧Bld B b (l++[x]) w'∧Below B w w':=by
 subst hc
 refine (Tryz.Builder_WriteByte B b _ _ w h.1 (by rw [byteCells_len];omega) h.2).mono ?_
 rintro e w' ⟨rfl,hb,hbl⟩
 refine ⟨rfl,⟨.inr ?_,Nat.le_trans h.2 hbl.size⟩,hbl⟩
 simpa [Lib.byteCells] using hb
theorem ws (B b:Nat) (l:List UInt8) (s:ByteArray) (w:World) (h:Bld B b l w) (hl:l.length+s.size≤4294967296) :
  Calls Tryz.prog 59 #[.pointer (some ⟨b,0,none⟩),.string s] w fun e w'=>e=.returned (.tuple #[.int .i64 s.size,.nilIface])∧Bld B b (l++s.data.toList) w'∧Below B w w':=by
 refine (Tryz.Builder_WriteString B b _ _ w h.1 (by rw [byteCells_len];omega) h.2).mono ?_
 rintro e w' ⟨rfl,hb,hbl⟩
 refine ⟨rfl,⟨.inr ?_,Nat.le_trans h.2 hbl.size⟩,hbl⟩
 simpa [Lib.byteCells,Lib.strCells] using hb
theorem wstr (B b:Nat) (l:List UInt8) (w:World) (h:Bld B b l w) :
  Calls Tryz.prog 62 #[.pointer (some ⟨b,0,none⟩)] w fun e w'=>e=.returned (.string ⟨l.toArray⟩)∧Below B w w':=
 Tryz.Builder_String_any B b l w h.1 h.2
structure PkG (c:Ent):Prop where
 pkc:∃ m,PkC c m
 kind:c.kind=1∨c.kind=2∨c.kind=3∨c.kind=4∨c.kind=5
 part:(nameL c).length≤100∨∃ i,slashFrom (nameL c) ((nameL c).length-101)=some i
def APkIs (w:World) (cs:List Ent) (v er:Value):Prop:=
 (∃ s:ByteArray,v=.string s∧s=bt (packL cs)∧er=.nilIface∧FirstBadC cs (-1)) ∨
 (∃ i:Nat,v=.string ⟨#[]⟩∧ErIs w er 3 i∧FirstBadC cs i)
theorem packs_len {cs:List Ent}(h:∀ c∈cs,PkG c) (k:Nat):((cs.take k).map entryL).flatten.length≤k*6000:=by
 induction k with
 | zero=>simp
 | succ k ih=>
   by_cases hk:k<cs.length
   ·have hc:cs[k]?=some cs[k]:=List.getElem?_eq_getElem hk
    obtain ⟨m,hm⟩:=(h cs[k] (List.mem_of_getElem? hc)).pkc
    have h1:=entry_len hm
    rw [flatE_snoc hc,List.length_append,Nat.add_mul]
    exact Nat.add_le_add ih (by omega)
   ·rw [List.take_of_length_le (by omega)] at ih ⊢
    exact Nat.le_trans ih (Nat.mul_le_mul_right _ (Nat.le_succ k))
set_option maxHeartbeats 2000000 in
set_option maxRecDepth 10000 in
theorem aPack_any (ao:Option Addr) (cap n:Nat) (cs:List Ent) (w:World) (hr:ERow w ao cs) (HN:Hid (n=cs.length)) (hn:n≤4294967280) (hcap:n≤cap) (HS:Hid (Small cs)) (hP:Pk w) (HG:Hid (FirstBadC cs (-1)→n≤80∧∀ c∈cs,PkG c)) :
  Calls Tryz.prog 27 #[.slice ao n cap] w fun ev w'=>∃ v er,ev=.returned (.tuple #[v,er])∧Hid (APkIs w' cs v er)∧Below w.heap.size w w':=by
 obtain ⟨mx,hm⟩:=hP.max
 have hC:=check_any ao cap n cs mx w hr HN hn hcap HS hm
 have HP:=hide hP
 have HR:=hide hr
 clear hP hr hm
 go_enter Tryz.func27,Tryz.ntmps27
 go_upto_region 2 with (go_at_call 53;refine hC.mono ?_;clear hC;rintro ev w1 ⟨er,rfl,HO,hb1⟩)
 rcases uh HO with ⟨rfl,hF⟩ | ⟨i,⟨q,rfl,e0,e1⟩,hF⟩
 ·have HF:=hide hF
  have hn80:=(uh HG hF).1
  have HA:=hide (uh HG hF).2
  have HP1:=hide ((uh HP).below hb1)
  have HR1:=hide ((uh HR).below hb1)
  have HB0:=hide (bld_new w1)
  have hB0:Below w1.heap.size w1 (w1.alloc (.cells #[.pointer none,.slice none 0 0] 147)):=(Below.refl _ _).alloc (Nat.le_refl _) _
  clear HO hF hn HS
  go_wp2_with fail
  go_loopw [15] (fun i wr=>∃ k:Nat,k≤n∧i=.int .i64 k∧Hid (Bld w1.heap.size w1.heap.size ((cs.take k).map entryL).flatten wr)∧Below w1.heap.size w1 wr) (fun i _=>n-(intOf i).toNat)
  case atStart=>exact ⟨0,by omega,rfl,HB0,hB0⟩
  case round=>
   obtain ⟨k,hk,rfl,HB,hb⟩:=hrel
   clear HB0 hB0
   have HL:Hid (((cs.take k).map entryL).flatten.length≤k*6000):=hide (packs_len (uh HA) k)
   by_cases hlt:k<n
   ·obtain ⟨c,hc⟩:∃ c,cs[k]?=some c:=⟨cs[k]'(by have:=uh HN;omega),List.getElem?_eq_getElem (by have:=uh HN;omega)⟩
    obtain ⟨g,o,rfl,c0,c1,c2,c3⟩:=((uh HR1).below hb) k c hc
    have hG:=uh HA c (List.mem_of_getElem? hc)
    obtain ⟨m,hm⟩:=hG.pkc
    have HFl:=hide (flatE_snoc hc)
    have HEl:=hide (entry_len hm)
    have i0:(0:Int)≤(k:Int):=by omega
    have i1:(k:Int)<(n:Int):=by omega
    obtain ⟨W0,hW0⟩:∃ W0,W0=wr.alloc (.cells #[.string c.path,.int .i64 c.kind,.int .i64 c.mode,.string c.data] 41):=⟨_,rfl⟩
    have hB0w:Below wr.heap.size wr W0:=by rw [hW0];exact (Below.refl _ _).alloc (Nat.le_refl _) _
    have hB0:=hb.trans (hB0w.mono hb.size)
    have q0:W0.cell? ⟨wr.heap.size,0,none⟩=some (.string c.path):=by rw [hW0];exact cq 0 (heap_alloc_new _ _)
    have q1:W0.cell? ⟨wr.heap.size,1,none⟩=some (.int .i64 c.kind):=by rw [hW0];exact cq 1 (heap_alloc_new _ _)
    have q2:W0.cell? ⟨wr.heap.size,2,none⟩=some (.int .i64 c.mode):=by rw [hW0];exact cq 2 (heap_alloc_new _ _)
    have q3:W0.cell? ⟨wr.heap.size,3,none⟩=some (.string c.data):=by rw [hW0];exact cq 3 (heap_alloc_new _ _)
    have hWr:=written_any c m W0 (hide hm) ((uh HP1).below hB0) hG.kind hG.part
    have HB1:=hide ((uh HB).later hB0w)
    have HSz:Hid ((bt (entryL c)).size≤6000):=hide (by rw [bt_size];exact uh HEl)
    obtain ⟨T,hT⟩:∃ T,T=bt (entryL c):=⟨_,rfl⟩
    rw [←hT] at hWr HSz
    have HT:=hide hT
    clear hc hG hm hT
    go_upto_region 8 with fail
    rw [←hW0]
    clear hW0 c0 c1 c2 c3
    go_upto_region 9 with (first
     | (go_at_call 60;refine hWr.mono ?_;clear hWr;rintro ev w2 ⟨rfl,hb2⟩)
     | (go_at_call 59;refine (ws _ _ _ _ _ ((uh HB1).later hb2) (by have:=uh HL;have:=uh HSz;omega)).mono ?_;rintro ev w3 ⟨rfl,HB3,hb3⟩))
    have HB4:Hid (Bld w1.heap.size w1.heap.size ((cs.take (k+1)).map entryL).flatten w3):=hide (by rw [uh HFl];rw [uh HT,bt_list] at HB3;exact HB3)
    have hB3:=(hB0.trans (hb2.mono hB0.size)).trans hb3
    clear HB3 hb3 hb2
    go_wp2_with fail
    go_roundw
    case rel=>
     first
      | exact ⟨k+1,by omega,by go_num,HB4,hB3⟩
      | ((repeat apply Exists.intro);exact ⟨⟨k+1,by omega,by go_num,HB4,hB3⟩,rfl⟩)
    case measure=>simp [intOf];omega
   ·have HE:Hid ((cs.take k).map entryL=cs.map entryL):=hide (by rw [List.take_of_length_le (by have:=uh HN;omega)])
    obtain ⟨T,hT⟩:∃ T,T=bt (List.replicate 1024 0):=⟨_,rfl⟩
    have hEn:=ending_any wr
    rw [←hT] at hEn
    have HTz:Hid (T.size=1024):=hide (by rw [hT,bt_size,List.length_replicate])
    have HT:=hide hT
    clear hT
    go_wp2_with (first
     | (go_at_call 61;refine hEn.mono ?_;clear hEn;rintro ev w2 ⟨rfl,hb2⟩)
     | (go_at_call 59;refine (ws _ _ _ _ _ ((uh HB).later hb2) (by have:=uh HL;have:=uh HTz;omega)).mono ?_;rintro ev w3 ⟨rfl,HB3,hb3⟩)
     | (go_at_call 62;refine (wstr _ _ _ _ HB3).mono ?_;rintro ev w4 ⟨rfl,hb4⟩))
    go_ret2
    have hB2:=hb.trans (hb2.mono hb.size)
    refine ⟨_,_,rfl,hide (.inl ⟨_,rfl,?_,rfl,uh HF⟩),hb1.trans (((hB2.trans hb3).trans hb4).mono hb1.size)⟩
    rw [←List.map_take,uh HE,uh HT,bt_list,packL];rfl
 ·have HF:=hide hF
  clear HO hF
  go_wp2_with fail
  go_ret2
  exact ⟨_,_,rfl,hide (.inr ⟨i,rfl,⟨q,rfl,e0,e1⟩,uh HF⟩),hb1⟩
attribute [local go_sem] setCell_drewN alloc_drewN
end Go.Proofs.YtehfpjcclknipaaGreatDoor.T
namespace Go.Proofs.YtehfpjcclknipaaGreatDoor.T
open Go.RowKit
structure LaidK (w:World):Prop where
 err:w.cell? ⟨0,0,none⟩=some (.iface 168 (.agg #[.pointer (some ⟨22,47,none⟩)]))
 pk:Pk w
theorem LaidK.below {w w':World}(h:LaidK w) (hb:Below w.heap.size w w'):LaidK w':=⟨cell_later hb h.err,h.pk.below hb⟩
theorem lPack_any (ao:Option Addr) (cap n:Nat) (cs:List Ent) (w:World) (hr:ERow w ao cs) (HN:Hid (n=cs.length)) (hn:n≤4294967280) (hcap:n≤cap) (HS:Hid (Small cs)) (hP:Pk w) (HG:Hid (FirstBadC cs (-1)→n≤80∧∀ c∈cs,PkG c)) :
  Calls Tryz.prog 16 #[.slice ao n cap] w fun ev w'=>∃ v er,ev=.returned (.tuple #[v,er])∧Hid (APkIs w' cs v er)∧Below w.heap.size w w':=by
 have h:=aPack_any ao cap n cs w hr HN hn hcap HS hP HG
 clear hr HN HS hP HG
 go_enter Tryz.func16,Tryz.ntmps16
 go_wp2_with (go_at_call 27;refine h.mono ?_;clear h;rintro ev w1 ⟨v,er,rfl,HO,hb1⟩)
 go_ret2
 exact ⟨_,_,rfl,HO,hb1⟩
def PPkIs (cs:List Ent) (s:ByteArray) (e n:Int):Prop:=
 (s=bt (packL cs)∧e=0∧n=-1∧FirstBadC cs (-1))∨(∃ i:Nat,s=⟨#[]⟩∧e=3∧n=i∧FirstBadC cs i)
theorem pPack_any (ao:Option Addr) (cap n:Nat) (cs:List Ent) (w:World) (hr:ERow w ao cs) (HN:Hid (n=cs.length)) (hn:n≤4294967280) (hcap:n≤cap) (HS:Hid (Small cs)) (hl:LaidK w) (HG:Hid (FirstBadC cs (-1)→n≤80∧∀ c∈cs,PkG c)) :
  Calls Tryz.prog 9 #[.slice ao n cap] w fun ev w'=>∃ s e k,ev=.returned (.tuple #[.string s,.int .i64 e,.int .i64 k])∧Hid (PPkIs cs s e k)∧Below w.heap.size w w':=by
 have h:=lPack_any ao cap n cs w hr HN hn hcap HS hl.pk HG
 have HL:=hide hl
 clear hr HN HS hl HG
 go_enter Tryz.func9,Tryz.ntmps9
 go_upto_region 2 with (go_at_call 16;refine h.mono ?_;clear h;rintro ev w1 ⟨v,er,rfl,HO,hb1⟩)
 have HL1:=hide ((uh HL).below hb1)
 rcases uh HO with ⟨s,rfl,hs,rfl,hF⟩ | ⟨i,rfl,⟨q,rfl,c0,c1⟩,hF⟩
 ·have HF:=hide hF
  have HS2:=hide hs
  clear HO hF hs
  go_wp2_with (go_at_call 13;refine (tell_nil _).mono ?_;rintro ev w2 ⟨rfl,hb2⟩)
  go_ret3
  exact ⟨_,_,_,rfl,hide (.inl ⟨uh HS2,rfl,rfl,uh HF⟩),hb1.trans (hb2.mono hb1.size)⟩
 ·have HF:=hide hF
  clear HO hF
  go_wp2_with (go_at_call 13;refine (tell_at q 3 i _ (uh HL1).err c0 c1).mono ?_;rintro ev w2 ⟨rfl,hb2⟩)
  go_ret3
  exact ⟨_,_,_,rfl,hide (.inr ⟨i,rfl,rfl,rfl,uh HF⟩),hb1.trans (hb2.mono hb1.size)⟩
end Go.Proofs.YtehfpjcclknipaaGreatDoor.T
