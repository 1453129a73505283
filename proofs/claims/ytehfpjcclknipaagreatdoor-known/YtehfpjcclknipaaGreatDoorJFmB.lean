import Derived.Test.YtehfpjcclknipaaGreatDoorJRdX
import Derived.Test.YtehfpjcclknipaaGreatDoorJWrH
import Derived.Test.YtehfpjcclknipaaGreatDoorJBfH
namespace Go.Proofs.YtehfpjcclknipaaGreatDoor
open Go.RowKit Go.Maps
theorem builder_later {T e:TypeId}{B b:Nat}{p:Value}{bs:List Value}{w w':World}(h:Lib.BuilderAt T e B b p bs w) (hb:Below w.heap.size w w'):Lib.BuilderAt T e B b p bs w':=by
 obtain ⟨h1,v,h2,h3,h4⟩:=h
 refine ⟨h1,v,(hb.block b (Array.getElem?_eq_some_iff.1 h2).1).trans h2,h3.kept (grown_of_below hb) ?_,h4⟩
 cases hv:v.ownBlock <;> simp
def Bld (B b:Nat) (l:List UInt8) (w:World):Prop:=Lib.IsBuilder 147 5 B b (Lib.byteCells l) w∧B≤w.heap.size
theorem Bld.later {B b:Nat}{l:List UInt8}{w w':World}(h:Bld B b l w) (hb:Below w.heap.size w w'):Bld B b l w':=by
 refine ⟨?_,Nat.le_trans h.2 hb.size⟩
 rcases h.1 with h1 | h1
 ·exact .inl (builder_later h1 hb)
 ·exact .inr (builder_later h1 hb)
theorem bld_new (w:World):Bld w.heap.size w.heap.size [] (w.alloc (.cells #[.pointer none,.slice none 0 0] 147)):=
 ⟨.inl ⟨Nat.le_refl _,.slice none 0 0,heap_alloc_new _ _,World.ownsRow_nil _ _ _ _,by simp [Value.ownBlock]⟩,by simp⟩
theorem byteCells_len (l:List UInt8):(Lib.byteCells l).length=l.length:=by simp [Lib.byteCells]
theorem wbB (B b:Nat) (l:List UInt8) (c:Int) (x:UInt8) (w:World) (h:Bld B b l w) (hc:c=(x.toNat:Int)) (hl:l.length≤4294967296) :
  Calls Tryz.prog 192 #[.pointer (some ⟨b,0,none⟩),.int .u8 c] w fun e w'=>e=.returned .nilIface∧Bld B b (l++[x]) w'∧Below B w w':=by
 subst hc
 refine (Tryz.Builder_WriteByte B b _ _ w h.1 (by rw [byteCells_len];omega) h.2).mono ?_
 rintro e w' ⟨rfl,hb,hbl⟩
 refine ⟨rfl,⟨.inr ?_,Nat.le_trans h.2 hbl.size⟩,hbl⟩
 simpa [Lib.byteCells] using hb
theorem wsB (B b:Nat) (l:List UInt8) (s:ByteArray) (w:World) (h:Bld B b l w) (hl:l.length+s.size≤4294967296) :
  Calls Tryz.prog 59 #[.pointer (some ⟨b,0,none⟩),.string s] w fun e w'=>e=.returned (.tuple #[.int .i64 s.size,.nilIface])∧Bld B b (l++s.data.toList) w'∧Below B w w':=by
 refine (Tryz.Builder_WriteString B b _ _ w h.1 (by rw [byteCells_len];omega) h.2).mono ?_
 rintro e w' ⟨rfl,hb,hbl⟩
 refine ⟨rfl,⟨.inr ?_,Nat.le_trans h.2 hbl.size⟩,hbl⟩
 simpa [Lib.byteCells,Lib.strCells] using hb
theorem wstr (B b:Nat) (l:List UInt8) (w:World) (h:Bld B b l w) :
  Calls Tryz.prog 62 #[.pointer (some ⟨b,0,none⟩)] w fun e w'=>e=.returned (.string ⟨l.toArray⟩)∧Below B w w':=
 Tryz.Builder_String_any B b l w h.1 h.2
def byteF (c:UInt8):List UInt8:=if unchN c.toNat then [c] else [92,c]
def bytesF (l:List UInt8):List UInt8:=(l.map byteF).flatten
def textF (l:List UInt8):List UInt8:=if l=[] then [34,34] else bytesF l
theorem bytesF_len (l:List UInt8):(bytesF l).length≤2*l.length:=by
 induction l with
 | nil=>simp [bytesF]
 | cons a r ih=>
   have h1:bytesF (a :: r)=byteF a++bytesF r:=by simp [bytesF]
   rw [h1,List.length_append,List.length_cons]
   have:(byteF a).length≤2:=by unfold byteF;split <;> simp
   omega
theorem bytesF_snoc (l:List UInt8) (c:UInt8):bytesF (l++[c])=bytesF l++byteF c:=by simp [bytesF]
theorem byteF_yes {c:UInt8}(h:unchN c.toNat=true):byteF c=[c]:=by simp [byteF,h]
theorem byteF_no {c:UInt8}(h:unchN c.toNat=false):byteF c=[92]++[c]:=by simp [byteF,h]
set_option maxHeartbeats 2000000 in
set_option maxRecDepth 10000 in
theorem text_any (s:ByteArray) (w:World) (hs:s.size≤1073741824) :
  Calls Tryz.prog 150 #[.string s] w fun e w'=>(∃ u:ByteArray,e=.returned (.string u)∧u.data.toList=textF s.data.toList)∧Below w.heap.size w w':=by
 by_cases he:s.data.toList=[]
 ·have g1:s.toList.isEmpty=true:=by rw [Lib.toList_data,he];rfl
  have HN:Hid (textF s.data.toList=[34,34]):=hide (by rw [he];rfl)
  clear he
  go_enter Tryz.func150,Tryz.ntmps150
  go_wp2_with fail
  go_ret
  exact ⟨⟨_,rfl,(uh HN).symm⟩,Below.refl _ _⟩
 ·have g1:s.toList.isEmpty=false:=by rw [Lib.toList_data];simpa using he
  have HN:Hid (textF s.data.toList=bytesF s.data.toList):=hide (by unfold textF;rw [if_neg he])
  clear he
  obtain ⟨W0,hW0⟩:∃ W0,W0=w.alloc (.cells #[.pointer none,.slice none 0 0] 147):=⟨_,rfl⟩
  have hb0:Below w.heap.size w W0:=by rw [hW0];exact (Below.refl _ _).alloc (Nat.le_refl _) _
  have hB0:Bld w.heap.size w.heap.size [] W0:=by rw [hW0];exact bld_new w
  go_enter Tryz.func150,Tryz.ntmps150
  go_wp2_with fail
  rw [←hW0]
  clear hW0
  go_loopw [9] (fun i wr=>∃ k:Nat,k≤s.size∧i=.int .i64 k∧Bld w.heap.size w.heap.size (bytesF (s.data.toList.take k)) wr∧Below w.heap.size w wr) (fun i _=>s.size-(intOf i).toNat)
  case atStart=>exact ⟨0,Nat.zero_le _,rfl,hB0,hb0⟩
  case round=>
   obtain ⟨k,hk,rfl,hB,hb⟩:=hrel
   have HB:=hide hB
   have Hb:=hide hb
   clear hB hb hB0 hb0
   by_cases hlt:k<s.size
   ·have hl:(bytesF (s.data.toList.take k)).length≤2147483648:=by
     have:=bytesF_len (s.data.toList.take k)
     rw [List.length_take] at this
     omega
    have HL:=hide hl
    clear hl
    have hU:=unch_any s[k].toNat wr
    cases hu:unchN s[k].toNat with
    | true=>
      rw [hu] at hU
      have HS:Hid (bytesF (s.data.toList.take (k+1))=bytesF (s.data.toList.take k)++[s[k]]):=hide (by rw [take_snoc s k hlt,bytesF_snoc,byteF_yes hu])
      clear hu
      have hW:=fun w2 h=>wbB w.heap.size w.heap.size (bytesF (s.data.toList.take k)) (s[k].toNat:Int) s[k] w2 h rfl (by have:=uh HL;omega)
      go_wp2_with (first
       | (go_at_call 191;refine hU.mono ?_;clear hU;rintro ev w2 ⟨rfl,hw⟩;obtain rfl:=hw.symm)
       | (go_at_call 192;refine (hW _ (uh HB)).mono ?_;clear hW;rintro ev w3 ⟨rfl,hB3,hb3⟩))
      go_roundw
      case rel=>exact ⟨k+1,hlt,by go_num,by rw [uh HS];exact hB3,(uh Hb).trans hb3⟩
      case measure=>simp [intOf];omega
    | false=>
      rw [hu] at hU
      have HS:Hid (bytesF (s.data.toList.take (k+1))=bytesF (s.data.toList.take k)++[92]++[s[k]]):=hide (by rw [take_snoc s k hlt,bytesF_snoc,byteF_no hu,List.append_assoc])
      clear hu
      have hV:=fun w2 h=>wsB w.heap.size w.heap.size (bytesF (s.data.toList.take k)) ⟨#[92]⟩ w2 h (by have:=uh HL;have h1:(ByteArray.mk #[92]).size=1:=rfl;omega)
      have hW:=fun w2 h=>wbB w.heap.size w.heap.size (bytesF (s.data.toList.take k)++[92]) (s[k].toNat:Int) s[k] w2 h rfl (by have:=uh HL;simp;omega)
      go_wp2_with (first
       | (go_at_call 191;refine hU.mono ?_;clear hU;rintro ev w2 ⟨rfl,hw⟩;obtain rfl:=hw.symm)
       | (go_at_call 59;refine (hV _ (uh HB)).mono ?_;clear hV;rintro ev w3 ⟨rfl,hB3,hb3⟩)
       | (go_at_call 192;refine (hW _ hB3).mono ?_;clear hW;rintro ev w4 ⟨rfl,hB4,hb4⟩))
      go_roundw
      case rel=>exact ⟨k+1,hlt,by go_num,by rw [uh HS];exact hB4,((uh Hb).trans hb3).trans hb4⟩
      case measure=>simp [intOf];omega
   ·have hke:k=s.size:=by omega
    have hW:=wstr w.heap.size w.heap.size _ wr (uh HB)
    have HS:Hid (bytesF (s.data.toList.take k)=textF s.data.toList):=hide (by rw [uh HN,List.take_of_length_le (by rw [hke,Lib.size_eq];exact Nat.le_refl _)])
    clear hke
    go_wp2_with (go_at_call 62;refine hW.mono ?_;clear hW;rintro ev w3 ⟨rfl,hb3⟩)
    go_ret
    exact ⟨⟨_,rfl,(List.toList_toArray).trans (uh HS)⟩,(uh Hb).trans hb3⟩
def partF (p:Prt):List UInt8:=if p.isVar then [36,123]++p.text.data.toList++[125] else textF p.text.data.toList
def partsF (l:List Prt):List UInt8:=(l.map partF).flatten
def formW (l:List Prt):List UInt8:=if l=[] then [34,34] else partsF l
def szP (l:List Prt):Nat:=(l.map fun p=>2*p.text.size+3).sum
theorem textF_len (l:List UInt8):(textF l).length≤2*l.length+2:=by
 unfold textF
 split
 ·simp
 ·have:=bytesF_len l;omega
theorem partF_len (p:Prt):(partF p).length≤2*p.text.size+3:=by
 unfold partF
 split
 ·have:=Lib.size_eq p.text;rw [List.length_append,List.length_append,←this];simp;omega
 ·have:=textF_len p.text.data.toList;rw [←Lib.size_eq] at this;omega
theorem partsF_snoc (l:List Prt) (p:Prt):partsF (l++[p])=partsF l++partF p:=by simp [partsF]
theorem partsF_len (l:List Prt):(partsF l).length≤szP l:=by
 induction l with
 | nil=>simp [partsF,szP]
 | cons a r ih=>
   have h1:partsF (a :: r)=partF a++partsF r:=by simp [partsF]
   have h2:szP (a :: r)=2*a.text.size+3+szP r:=by simp [szP]
   rw [h1,h2,List.length_append]
   have:=partF_len a
   omega
theorem szP_app (l r:List Prt):szP (l++r)=szP l+szP r:=by simp [szP]
theorem szP_take (l:List Prt) (k:Nat):szP (l.take k)≤szP l:=by
 have:=szP_app (l.take k) (l.drop k)
 rw [List.take_append_drop] at this
 omega
theorem szP_mem {l:List Prt}{k:Nat}{p:Prt}(h:l[k]?=some p):szP (l.take k)+(2*p.text.size+3)≤szP l:=by
 have h1:l.take (k+1)=l.take k++[p]:=by rw [List.take_add_one,h];rfl
 have h2:=szP_take l (k+1)
 rw [h1,szP_app] at h2
 have h3:szP [p]=2*p.text.size+3:=by simp [szP]
 omega
set_option maxHeartbeats 4000000 in
set_option maxRecDepth 10000 in
theorem form_word (m:WdM) (B:Nat) (w:World) (h:m.Ok w B) (hl:(parts m.xs).length≤1500) (hz:szP (parts m.xs)≤268435456) :
  Calls Tryz.prog 114 #[m.val] w fun ev w'=>(∃ u:ByteArray,ev=.returned (.string u)∧u.data.toList=formW (parts m.xs))∧Below w.heap.size w w':=by
 obtain ⟨place,v,xs⟩:=m
 unfold WdM.Ok at h
 simp only at h hl hz ⊢
 obtain ⟨ps,hps⟩:∃ ps,ps=parts xs:=⟨_,rfl⟩
 rw [←hps] at h hl hz ⊢
 clear hps
 obtain ⟨W0,hW0⟩:∃ W0,W0=w.alloc (.cells #[.int .i64 (place:Int),v] 162):=⟨_,rfl⟩
 have hb0:Below w.heap.size w W0:=by rw [hW0];exact (Below.refl _ _).alloc (Nat.le_refl _) _
 have hz0:W0.heap.size=w.heap.size+1:=by rw [hW0];simp
 have hc0:W0.heap[w.heap.size]?=some (.cells #[.int .i64 (place:Int),v] 162 (0,0)):=by rw [hW0];exact heap_alloc_new _ _
 have p1:W0.cell? ⟨w.heap.size,1,none⟩=some v:=cq 1 hc0
 by_cases he:ps=[]
 ·subst he
  have HB:=hide hb0
  have hT:=text_any ⟨#[]⟩ W0 (by decide)
  have HF:Hid (formW []=textF (ByteArray.mk #[]).data.toList):=hide rfl
  rcases row_nil0 h with rfl | ⟨g,cap,rfl⟩
  all_goals
   clear h hl hz hb0 hc0
   go_enter Tryz.func114,Tryz.ntmps114
   go_upto_region 1 with fail
   rw [←hW0]
   clear hW0
   go_wp2_with (go_at_call 150;refine hT.mono ?_;clear hT;rintro ev w2 ⟨⟨u,rfl,hu⟩,hb2⟩)
   go_ret
   exact ⟨⟨_,rfl,by rw [uh HF];exact hu⟩,(uh HB).trans (hb2.mono (by omega))⟩
 ·have hpos:0<ps.length:=List.length_pos_iff.2 he
  obtain ⟨g,cap,rfl,_,hgl⟩:=World.ownsRow.form h hpos
  have HF:Hid (formW ps=partsF ps):=hide (by unfold formW;rw [if_neg he])
  clear he
  obtain ⟨n,hn⟩:∃ n,n=ps.length:=⟨_,rfl⟩
  have HN:=hide hn
  have HROW:=hide h
  have HZ:=hide hz
  have HG:=hide hgl
  rw [←hn] at p1 hl hpos hW0 ⊢
  have g0:((n:Int)==0)=false:=by simp;omega
  obtain ⟨W1,hW1⟩:∃ W1,W1=W0.alloc (.cells #[.pointer none,.slice none 0 0] 147):=⟨_,rfl⟩
  have HB1:Hid (Below (w.heap.size+1) W0 W1):=hide (by rw [hW1];exact (Below.refl _ _).alloc (by omega) _)
  have HBl:Hid (Bld (w.heap.size+1) (w.heap.size+1) [] W1):=hide (by rw [hW1,←hz0];exact bld_new W0)
  have p2:W1.cell? ⟨w.heap.size,1,none⟩=some (.slice (some ⟨g,0,none⟩) n cap):=cell_later ((uh HB1).mono (by omega)) p1
  have HB0:=hide hb0
  clear h hz hgl hc0 hb0 hn
  go_enter Tryz.func114,Tryz.ntmps114
  go_upto_region 1 with fail
  rw [←hW0]
  clear hW0
  go_upto_region 4 with fail
  rw [←hW1]
  clear hW1
  go_wp2_with fail
  clear p1 p2
  go_loopw [14] (fun i wr=>∃ k:Nat,k≤n∧i=.int .i64 k∧Bld (w.heap.size+1) (w.heap.size+1) (partsF (ps.take k)) wr∧Below (w.heap.size+1) W0 wr) (fun i _=>n-(intOf i).toNat)
  case atStart=>exact ⟨0,Nat.zero_le _,rfl,uh HBl,uh HB1⟩
  case round=>
   obtain ⟨k,hk,rfl,hB,hb⟩:=hrel
   have HB:=hide hB
   have Hb:=hide hb
   clear hB HBl HB1
   by_cases hlt:k<n
   ·obtain ⟨p,hp⟩:∃ p,ps[k]?=some p:=⟨_,List.getElem?_eq_getElem (by rw [←uh HN];exact hlt)⟩
    have hbw:Below w.heap.size w wr:=(uh HB0).trans (hb.mono (by omega))
    have hrow3:=row_same (uh HROW) (w':=wr) (fun i hi=>hbw.block i (World.ownsRow.lt (uh HROW) i hi).2)
    obtain ⟨t0,t1,t2⟩:=prC_get _ k p hp
    have hjl:k<ps.length:=by rw [←uh HN];exact hlt
    have u0:wr.cell? ⟨g,k*3,none⟩=some (.string p.text):=by rw [World.ownsRow.cellAt hrow3 _ (by omega)];exact t0
    have u1:wr.cell? ⟨g,k*3+1,none⟩=some (.bool p.isVar):=by rw [World.ownsRow.cellAt hrow3 _ (by omega)];exact t1
    have u2:wr.cell? ⟨g,k*3+2,none⟩=some (.int .i64 p.place):=by rw [World.ownsRow.cellAt hrow3 _ (by omega)];exact t2
    have hsp:=szP_mem hp
    have hsz:p.text.size≤1073741824∧(partsF (ps.take k)).length+(2*p.text.size+3)≤268435456:=by
     have h1:=partsF_len (ps.take k)
     have h2:=uh HZ
     omega
    have HSZ:=hide hsz
    have HS:Hid (partsF (ps.take (k+1))=partsF (ps.take k)++partF p):=hide (by rw [List.take_add_one,hp];exact partsF_snoc _ _)
    have n0:=World.new_ne wr ⟨g,k*3,none⟩ u0
    obtain ⟨W2,hW2⟩:∃ W2,W2=wr.alloc (.cells #[.string p.text,.bool p.isVar,.int .i64 p.place] 217):=⟨_,rfl⟩
    have hb2:Below wr.heap.size wr W2:=by rw [hW2];exact (Below.refl _ _).alloc (Nat.le_refl _) _
    have HB2:Hid (Below (w.heap.size+1) W0 W2):=hide (hb.trans (hb2.mono (by have:=hb.size;omega)))
    have HL2:Hid (Bld (w.heap.size+1) (w.heap.size+1) (partsF (ps.take k)) W2):=hide ((uh HB).later hb2)
    have hc2:W2.heap[wr.heap.size]?=some (.cells #[.string p.text,.bool p.isVar,.int .i64 p.place] 217 (0,0)):=by rw [hW2];exact heap_alloc_new _ _
    have q0:W2.cell? ⟨wr.heap.size,0,none⟩=some (.string p.text):=cq 0 hc2
    have q1:W2.cell? ⟨wr.heap.size,1,none⟩=some (.bool p.isVar):=cq 1 hc2
    clear hp hbw hrow3 t0 t1 t2 hjl hsp hsz hb2 hc2 hb HB Hb
    go_upto_region 7 with fail
    rw [←hW2]
    clear hW2 u0 u1 u2 n0
    cases hv:p.isVar with
    | true=>
      rw [hv] at q1
      have HP:Hid (partF p=[36,123]++p.text.data.toList++[125]):=hide (by unfold partF;rw [hv];rfl)
      clear hv
      have HV:Hid (({ data:=#[36,123] }++p.text++{ data:=#[125] }:ByteArray).size=p.text.size+3):=hide (by
       rw [ByteArray.size_append,ByteArray.size_append]
       have h1:(ByteArray.mk #[36,123]).size=2:=rfl
       have h2:(ByteArray.mk #[125]).size=1:=rfl
       omega)
      have hps1:p.text.size≤1073741824:=(uh HSZ).1
      go_wp2_with (go_at_call 59;refine (wsB _ _ _ _ _ (uh HL2) ?_).mono ?_;(have hh:=(uh HSZ).2;rw [uh HV];omega);rintro ev w3 ⟨rfl,hB3,hb3⟩)
      go_roundw
      case rel=>exact ⟨k+1,hlt,by go_num,by rw [uh HS,uh HP];simpa using hB3,(uh HB2).trans hb3⟩
      case measure=>simp [intOf];omega
    | false=>
      rw [hv] at q1
      have HP:Hid (partF p=textF p.text.data.toList):=hide (by unfold partF;rw [hv];rfl)
      clear hv
      have hT:=text_any p.text W2 (uh HSZ).1
      have hlen:=textF_len p.text.data.toList
      have HLE:=hide hlen
      clear hlen
      go_wp2_with (first
       | (go_at_call 150;refine hT.mono ?_;clear hT;rintro ev w3 ⟨⟨u,rfl,hu⟩,hb3⟩;have HU:=hide hu;have HL3:=hide ((uh HL2).later hb3);clear hu)
       | (go_at_call 59;refine (wsB _ _ _ _ _ (uh HL3) ?_).mono ?_;(have hh:=(uh HSZ).2;have h2:=uh HLE;rw [←uh HU,←Lib.size_eq,←Lib.size_eq] at h2;omega);rintro ev w4 ⟨rfl,hB4,hb4⟩))
      go_roundw
      case rel=>exact ⟨k+1,hlt,by go_num,by rw [uh HS,uh HP,←uh HU];exact hB4,((uh HB2).trans (hb3.mono (by have:=(uh HB2).size;omega))).trans hb4⟩
      case measure=>simp [intOf];omega
   ·have hke:k=n:=by omega
    have hW:=wstr _ _ _ wr (uh HB)
    have HS:Hid (partsF (ps.take k)=formW ps):=hide (by rw [uh HF,List.take_of_length_le (by rw [hke,uh HN];exact Nat.le_refl _)])
    clear hke hb
    go_wp2_with (go_at_call 62;refine hW.mono ?_;clear hW;rintro ev w3 ⟨rfl,hb3⟩)
    go_ret
    exact ⟨⟨_,rfl,(List.toList_toArray).trans (uh HS)⟩,((uh HB0).trans ((uh Hb).mono (by omega))).trans (hb3.mono (by omega))⟩
def txtP (l:List Prt):List UInt8:=(l.map fun p=>p.text.data.toList).flatten
theorem txtP_snoc (l:List Prt) (p:Prt):txtP (l++[p])=txtP l++p.text.data.toList:=by simp [txtP]
theorem txtP_len (l:List Prt):(txtP l).length≤szP l:=by
 induction l with
 | nil=>simp [txtP,szP]
 | cons a r ih=>
   have h1:txtP (a :: r)=a.text.data.toList++txtP r:=by simp [txtP]
   have h2:szP (a :: r)=2*a.text.size+3+szP r:=by simp [szP]
   rw [h1,h2,List.length_append,←Lib.size_eq]
   omega
theorem row_lenz {w:World}{B e z n:Nat}{ao:Option Addr}{n' cap:Nat}{xs:List Value}(h:w.ownsRow B e z (.slice ao n' cap) n xs):n'=n:=by
 rcases h.2 with ⟨e,h0⟩ | ⟨g,c,cur,e,_⟩
 ·injection e with _ e _;omega
 ·injection e
set_option maxHeartbeats 4000000 in
set_option maxRecDepth 10000 in
theorem filled_plain (m:WdM) (fv:Value) (B:Nat) (w:World) (h:m.Ok w B) (hl:(parts m.xs).length≤1500) (hz:szP (parts m.xs)≤268435456) (hpl:∀ p∈parts m.xs,p.isVar=false) :
  Calls Tryz.prog 73 #[m.val,fv] w fun ev w'=>(∃ u:ByteArray,ev=.returned (.string u)∧u.data.toList=txtP (parts m.xs))∧Below w.heap.size w w':=by
 obtain ⟨place,v,xs⟩:=m
 unfold WdM.Ok at h
 simp only at h hl hz hpl ⊢
 obtain ⟨ps,hps⟩:∃ ps,ps=parts xs:=⟨_,rfl⟩
 rw [←hps] at h hl hz hpl ⊢
 clear hps
 obtain ⟨ao,n',cap,hv⟩:=row_form h
 have hn':n'=ps.length:=by rw [hv] at h;exact row_lenz h
 subst hv
 obtain ⟨W0,hW0⟩:∃ W0,W0=w.alloc (.cells #[.int .i64 (place:Int),.slice ao n' cap] 162):=⟨_,rfl⟩
 have hb0:Below w.heap.size w W0:=by rw [hW0];exact (Below.refl _ _).alloc (Nat.le_refl _) _
 have hz0:W0.heap.size=w.heap.size+1:=by rw [hW0];simp
 have hc0:W0.heap[w.heap.size]?=some (.cells #[.int .i64 (place:Int),.slice ao n' cap] 162 (0,0)):=by rw [hW0];exact heap_alloc_new _ _
 have p1:W0.cell? ⟨w.heap.size,1,none⟩=some (.slice ao n' cap):=cq 1 hc0
 have HN:=hide hn'
 have HROW:=hide h
 have HZ:=hide hz
 have HPL:=hide hpl
 obtain ⟨W1,hW1⟩:∃ W1,W1=W0.alloc (.cells #[.pointer none,.slice none 0 0] 147):=⟨_,rfl⟩
 have HB1:Hid (Below (w.heap.size+1) W0 W1):=hide (by rw [hW1];exact (Below.refl _ _).alloc (by omega) _)
 have HBl:Hid (Bld (w.heap.size+1) (w.heap.size+1) [] W1):=hide (by rw [hW1,←hz0];exact bld_new W0)
 have p2:W1.cell? ⟨w.heap.size,1,none⟩=some (.slice ao n' cap):=cell_later ((uh HB1).mono (by omega)) p1
 have HB0:=hide hb0
 have hn15:n'≤1500:=by omega
 clear h hz hc0 hb0 hn' hl hpl
 go_enter Tryz.func73,Tryz.ntmps73
 go_upto_region 1 with fail
 rw [←hW0]
 clear hW0
 go_upto_region 2 with fail
 rw [←hW1]
 clear hW1
 go_wp2_with fail
 clear p1 p2
 go_loopw [11] (fun i wr=>∃ k:Nat,k≤n'∧i=.int .i64 k∧Bld (w.heap.size+1) (w.heap.size+1) (txtP (ps.take k)) wr∧Below (w.heap.size+1) W0 wr) (fun i _=>n'-(intOf i).toNat)
 case atStart=>exact ⟨0,Nat.zero_le _,rfl,uh HBl,uh HB1⟩
 case round=>
  obtain ⟨k,hk,rfl,hB,hb⟩:=hrel
  have HB:=hide hB
  have Hb:=hide hb
  clear hB HBl HB1
  by_cases hlt:k<n'
  ·obtain ⟨p,hp⟩:∃ p,ps[k]?=some p:=⟨_,List.getElem?_eq_getElem (by rw [←uh HN];exact hlt)⟩
   have hbw:Below w.heap.size w wr:=(uh HB0).trans (hb.mono (by omega))
   have hrow3:=row_same (uh HROW) (w':=wr) (fun i hi=>hbw.block i (World.ownsRow.lt (uh HROW) i hi).2)
   obtain ⟨g,cp,hv,_,_⟩:=World.ownsRow.form hrow3 (by rw [←uh HN];omega)
   injection hv with e1 e2 e3
   subst e1 e3
   rw [e2] at hrow3
   obtain ⟨t0,t1,t2⟩:=prC_get _ k p hp
   have hjl:k<ps.length:=by rw [←uh HN];exact hlt
   have u0:wr.cell? ⟨g,k*3,none⟩=some (.string p.text):=by rw [World.ownsRow.cellAt hrow3 _ (by omega)];exact t0
   have u1:wr.cell? ⟨g,k*3+1,none⟩=some (.bool false):=by rw [World.ownsRow.cellAt hrow3 _ (by omega),←uh HPL p (List.mem_of_getElem? hp)];exact t1
   have u2:wr.cell? ⟨g,k*3+2,none⟩=some (.int .i64 p.place):=by rw [World.ownsRow.cellAt hrow3 _ (by omega)];exact t2
   have hsp:=szP_mem hp
   have hsz:p.text.size≤1073741824∧(txtP (ps.take k)).length+p.text.size≤268435456:=by
    have h1:=txtP_len (ps.take k)
    have h2:=uh HZ
    omega
   have HSZ:=hide hsz
   have HS:Hid (txtP (ps.take (k+1))=txtP (ps.take k)++p.text.data.toList):=hide (by rw [List.take_add_one,hp];exact txtP_snoc _ _)
   have n0:=World.new_ne wr ⟨g,k*3,none⟩ u0
   obtain ⟨W2,hW2⟩:∃ W2,W2=wr.alloc (.cells #[.string p.text,.bool false,.int .i64 p.place] 217):=⟨_,rfl⟩
   have hb2:Below wr.heap.size wr W2:=by rw [hW2];exact (Below.refl _ _).alloc (Nat.le_refl _) _
   have HB2:Hid (Below (w.heap.size+1) W0 W2):=hide (hb.trans (hb2.mono (by have:=hb.size;omega)))
   have HL2:Hid (Bld (w.heap.size+1) (w.heap.size+1) (txtP (ps.take k)) W2):=hide ((uh HB).later hb2)
   have hc2:W2.heap[wr.heap.size]?=some (.cells #[.string p.text,.bool false,.int .i64 p.place] 217 (0,0)):=by rw [hW2];exact heap_alloc_new _ _
   have q0:W2.cell? ⟨wr.heap.size,0,none⟩=some (.string p.text):=cq 0 hc2
   have q1:W2.cell? ⟨wr.heap.size,1,none⟩=some (.bool false):=cq 1 hc2
   clear hp hbw hrow3 t0 t1 t2 hjl hsp hsz hb2 hc2 hb HB Hb e2
   go_upto_region 5 with fail
   rw [←hW2]
   clear hW2 u0 u1 u2 n0
   go_wp2_with (go_at_call 59;refine (wsB _ _ _ _ _ (uh HL2) ?_).mono ?_;(have hh:=(uh HSZ).2;omega);rintro ev w3 ⟨rfl,hB3,hb3⟩)
   go_roundw
   case rel=>
    first
     | exact ⟨k+1,hlt,by go_num,by rw [uh HS];exact hB3,(uh HB2).trans hb3⟩
     | ((repeat apply Exists.intro);exact ⟨⟨k+1,hlt,by go_num,by rw [uh HS];exact hB3,(uh HB2).trans hb3⟩,rfl⟩)
   case measure=>simp [intOf];omega
  ·have hke:k=n':=by omega
   have hW:=wstr _ _ _ wr (uh HB)
   have HS:Hid (txtP (ps.take k)=txtP ps):=hide (by rw [List.take_of_length_le (by rw [hke,uh HN];exact Nat.le_refl _)])
   clear hke hb
   go_wp2_with (go_at_call 62;refine hW.mono ?_;clear hW;rintro ev w3 ⟨rfl,hb3⟩)
   go_ret
   exact ⟨⟨_,rfl,(List.toList_toArray).trans (uh HS)⟩,((uh HB0).trans ((uh Hb).mono (by omega))).trans (hb3.mono (by omega))⟩
abbrev wCOPY:List UInt8:=[67,79,80,89]
abbrev wADD:List UInt8:=[65,68,68]
def InM.arr (m:InM):Array Value:=#[m.wv,.int .i64 m.stage,.int .i64 (ruleT m.rule).1,.int .i64 (ruleT m.rule).2.1,fnV (ruleT m.rule).2.2.1,fnV (ruleT m.rule).2.2.2]
theorem row_capw {w:World}{B e z n:Nat}{v:Value}{xs:List Value}(h:w.ownsRow B e z v n xs) (hn:0<n):∃ g cap,v=.slice (some ⟨g,0,none⟩) n cap∧n≤cap∧cap≤maxLen:=by
 rcases h.2 with ⟨_,h0⟩ | ⟨g,cap,cur,hv,_,_,h1,h2,_⟩
 ·omega
 ·exact ⟨g,cap,hv,h1,h2⟩
theorem rule_pos (i:Nat):1≤(ruleT i).1:=by unfold ruleT;split <;> decide
def OpsOut (m:InM) (ev:Ending):Prop:=∃ g cap,m.wv=.slice (some ⟨g,0,none⟩) m.ws.length cap∧ev=.returned (.slice (some ⟨g,2,none⟩) (m.ws.length-1) (cap-1))
set_option maxHeartbeats 2000000 in
set_option maxRecDepth 10000 in
theorem operands_none (m:InM) (x:WdM) (B:Nat) (w:World) (h:m.Ok w B) (h0:m.ws[0]?=some x) (hst:m.stage=-1) :
  Calls Tryz.prog 72 #[m.val] w fun ev w'=>OpsOut m ev∧Below w.heap.size w w':=by
 have hl0:=(List.getElem?_eq_some_iff.1 h0).1
 obtain ⟨g,cap,hcp,hc1,hc2⟩:=row_capw h.ws.row (by omega)
 have hsh:=h.short
 have hle:=h.least
 have hrp:=rule_pos m.rule
 obtain ⟨W0,hW0⟩:∃ W0,W0=w.alloc (.cells #[m.wv,.int .i64 m.stage,.int .i64 (ruleT m.rule).1,.int .i64 (ruleT m.rule).2.1,fnV (ruleT m.rule).2.2.1,fnV (ruleT m.rule).2.2.2] 76):=⟨_,rfl⟩
 have hb0:Below w.heap.size w W0:=by rw [hW0];exact (Below.refl _ _).alloc (Nat.le_refl _) _
 have hc0:W0.heap[w.heap.size]?=some (.cells #[m.wv,.int .i64 m.stage,.int .i64 (ruleT m.rule).1,.int .i64 (ruleT m.rule).2.1,fnV (ruleT m.rule).2.2.1,fnV (ruleT m.rule).2.2.2] 76 (0,0)):=by rw [hW0];exact heap_alloc_new _ _
 have hIs:=in_is m x ⟨#[67,79,80,89]⟩ B W0 (h.below hb0).ws h0 (h.small x (List.mem_of_getElem? h0)).1
 obtain ⟨b,hb⟩:∃ b,b=(plainW x.xs==some (⟨#[67,79,80,89]⟩:ByteArray).data.toList):=⟨_,rfl⟩
 rw [←hb] at hIs
 obtain ⟨wv,ws,stage,rule⟩:=m
 simp only at hcp hst hIs hc0 hl0 hc1 hsh hW0 hle hrp ⊢
 subst hcp hst
 unfold InM.val at hIs ⊢
 simp only at hIs ⊢
 have r0:=cq 0 hc0
 have r1:=cq 1 hc0
 have r2:=cq 2 hc0
 have r3:=cq 3 hc0
 have r4:=cq 4 hc0
 have r5:=cq 5 hc0
 obtain ⟨n,hn⟩:∃ n,ws.length=n+1:=⟨ws.length-1,by omega⟩
 obtain ⟨c,hc⟩:∃ c,cap=c+1:=⟨cap-1,by omega⟩
 rw [hn] at hIs hW0 r0 hc0 hc1 hsh ⊢
 subst hc
 have HC:=hide hc0
 have hc00:¬ c=0:=by omega
 have HO:Hid (∀ ev,ev=.returned (.slice (some ⟨g,2,none⟩) n c)→OpsOut ⟨.slice (some ⟨g,0,none⟩) (n+1) (c+1),ws,-1,rule⟩ ev):=hide (fun ev he=>⟨g,c+1,by rw [hn],by rw [he];simp [hn]⟩)
 obtain ⟨OO,hOO⟩:∃ OO,OO=OpsOut ⟨.slice (some ⟨g,0,none⟩) (n+1) (c+1),ws,-1,rule⟩:=⟨_,rfl⟩
 rw [←hOO] at HO ⊢
 have i1:(1:Int)≤(n:Int)+1∧(n:Int)+1≤(c:Int)+1:=by omega
 clear h h0 hb hc0 hn hl0 hc1 hc2 hsh hle hrp hOO
 cases b with
 | false=>
   go_enter Tryz.func72,Tryz.ntmps72
   go_upto_region 1 with fail
   rw [←hW0]
   clear hW0
   go_upto_region 3 with (go_at_call 116;refine hIs.mono ?_;clear hIs;rintro e1 w1 ⟨rfl,hb1⟩)
   have q0:w1.cell? ⟨w.heap.size,0,none⟩=some (.slice (some ⟨g,0,none⟩) (n+1) (c+1)):=cell_later hb1 r0
   clear r0 r1 r2 r3 r4 r5
   go_wp2_with fail
   go_ret
   exact ⟨uh HO _ rfl,hb0.trans (hb1.mono hb0.size)⟩
 | true=>
   have HK:Hid (∀ W,Below W0.heap.size W0 W→W.cell? ⟨w.heap.size,1,none⟩=some (.int .i64 (-1))∧W.cell? ⟨w.heap.size,0,none⟩=some (.slice (some ⟨g,0,none⟩) (n+1) (c+1))):=hide (fun W hB=>⟨cell_later hB r1,cell_later hB r0⟩)
   go_enter Tryz.func72,Tryz.ntmps72
   go_upto_region 1 with fail
   rw [←hW0]
   clear hW0
   go_wp2_with (go_at_call 116;refine hIs.mono ?_;clear hIs;rintro e1 w1 ⟨rfl,hb1⟩;obtain ⟨q1,q0⟩:=uh HK w1 hb1)
   go_ret
   exact ⟨uh HO _ rfl,hb0.trans (hb1.mono hb0.size)⟩
def takesW (xs:List Atm):Bool:=plainW xs==some wCOPY || plainW xs==some wADD
set_option maxHeartbeats 2000000 in
set_option maxRecDepth 10000 in
theorem source_none (m:InM) (x:WdM) (mb:Nat) (cv:Option Addr) (B:Nat) (w:World) (hcv:w.cell? ⟨mb,0,none⟩=some (.pointer cv)) (h:m.Ok w B) (h0:m.ws[0]?=some x) (hst:m.stage=-1) :
  Calls Tryz.prog 71 #[.pointer (some ⟨mb,0,none⟩),m.val] w fun ev w'=>ev=.returned (.pointer (if takesW x.xs=true then cv else none))∧Below w.heap.size w w':=by
 obtain ⟨W0,hW0⟩:∃ W0,W0=w.alloc (.cells #[m.wv,.int .i64 m.stage,.int .i64 (ruleT m.rule).1,.int .i64 (ruleT m.rule).2.1,fnV (ruleT m.rule).2.2.1,fnV (ruleT m.rule).2.2.2] 76):=⟨_,rfl⟩
 have hb0:Below w.heap.size w W0:=by rw [hW0];exact (Below.refl _ _).alloc (Nat.le_refl _) _
 have hc0:W0.heap[w.heap.size]?=some (.cells #[m.wv,.int .i64 m.stage,.int .i64 (ruleT m.rule).1,.int .i64 (ruleT m.rule).2.1,fnV (ruleT m.rule).2.2.1,fnV (ruleT m.rule).2.2.2] 76 (0,0)):=by rw [hW0];exact heap_alloc_new _ _
 have hok:=h.below hb0
 have hsm:=(h.small x (List.mem_of_getElem? h0)).1
 obtain ⟨g,cap,hcp,_,_⟩:=row_capw h.ws.row (by have:=(List.getElem?_eq_some_iff.1 h0).1;omega)
 have hIs:∀ (t:ByteArray) W,Below W0.heap.size W0 W→Calls Tryz.prog 116 #[m.val,.string t] W fun ev w'=>ev=.returned (.bool (plainW x.xs==some t.data.toList))∧Below W.heap.size W w':=fun t W hB=>in_is m x t B W (hok.below hB).ws h0 hsm
 have hI1:=hIs ⟨#[67,79,80,89]⟩ W0 (Below.refl _ _)
 have hI2:=fun W hB=>hIs ⟨#[65,68,68]⟩ W hB
 rw [show (⟨#[67,79,80,89]⟩:ByteArray).data.toList=wCOPY from rfl] at hI1
 rw [show (⟨#[65,68,68]⟩:ByteArray).data.toList=wADD from rfl] at hI2
 obtain ⟨b1,hb1e⟩:∃ b1,b1=(plainW x.xs==some wCOPY):=⟨_,rfl⟩
 obtain ⟨b2,hb2e⟩:∃ b2,b2=(plainW x.xs==some wADD):=⟨_,rfl⟩
 have ht:takesW x.xs=(b1 || b2):=by unfold takesW;rw [hb1e,hb2e]
 rw [←hb1e] at hI1
 rw [←hb2e] at hI2
 rw [ht]
 have HK:Hid (∀ W,Below W0.heap.size W0 W→W.heap[w.heap.size]?=some (.cells #[m.wv,.int .i64 m.stage,.int .i64 (ruleT m.rule).1,.int .i64 (ruleT m.rule).2.1,fnV (ruleT m.rule).2.2.1,fnV (ruleT m.rule).2.2.2] 76 (0,0))∧W.cell? ⟨mb,0,none⟩=some (.pointer cv)):=hide (fun W hB=>⟨(hB.block w.heap.size (Array.getElem?_eq_some_iff.1 hc0).1).trans hc0,cell_later hB (cell_later hb0 hcv)⟩)
 obtain ⟨wv,ws,stage,rule⟩:=m
 simp only at hcp hst hW0 HK hc0
 subst hcp hst
 unfold InM.val at hI1 hI2 ⊢
 simp only at hI1 hI2 ⊢
 obtain ⟨n,hn⟩:∃ n,n=ws.length:=⟨_,rfl⟩
 rw [←hn] at hI1 hI2 hW0 HK hc0 ⊢
 have r0:=cq 0 hc0
 have r1:=cq 1 hc0
 have r2:=cq 2 hc0
 have r3:=cq 3 hc0
 have r4:=cq 4 hc0
 have r5:=cq 5 hc0
 clear h h0 hok hIs hb1e hb2e ht hn hsm hc0 hcv
 cases b1 with
 | true=>
   simp only [Bool.true_or,if_true]
   go_enter Tryz.func71,Tryz.ntmps71
   go_upto_region 1 with fail
   rw [←hW0]
   clear hW0
   go_upto_region 3 with (go_at_call 116;refine hI1.mono ?_;clear hI1;rintro e1 w1 ⟨rfl,hb1⟩)
   obtain ⟨hh,hcv⟩:=uh HK w1 hb1
   have s1:=cq 1 hh
   clear hh r0 r1 r2 r3 r4 r5
   go_wp2_with fail
   go_ret
   exact ⟨rfl,hb0.trans (hb1.mono hb0.size)⟩
 | false=>
   have HK2:Hid (∀ W,Below W0.heap.size W0 W→W.cell? ⟨w.heap.size,0,none⟩=some (.slice (some ⟨g,0,none⟩) n cap)∧W.cell? ⟨w.heap.size,1,none⟩=some (.int .i64 (-1))∧W.cell? ⟨w.heap.size,2,none⟩=some (.int .i64 (ruleT rule).1)∧W.cell? ⟨w.heap.size,3,none⟩=some (.int .i64 (ruleT rule).2.1)∧W.cell? ⟨w.heap.size,4,none⟩=some (fnV (ruleT rule).2.2.1)∧W.cell? ⟨w.heap.size,5,none⟩=some (fnV (ruleT rule).2.2.2)∧W.cell? ⟨mb,0,none⟩=some (.pointer cv)):=hide (fun W hB=>by
    obtain ⟨hh,hcv⟩:=uh HK W hB
    exact ⟨cq 0 hh,cq 1 hh,cq 2 hh,cq 3 hh,cq 4 hh,cq 5 hh,hcv⟩)
   have HI2:=hide hI2
   clear hI2
   cases b2 with
   | true=>
     simp only [Bool.false_or,if_true]
     go_enter Tryz.func71,Tryz.ntmps71
     go_upto_region 1 with fail
     rw [←hW0]
     clear hW0
     go_wp2_with (first
      | (go_at_call_of 116 (Value.string ⟨#[67,79,80,89]⟩);refine hI1.mono ?_;clear hI1;rintro e1 w1 ⟨rfl,hb1⟩;obtain ⟨s0,s1,s2,s3,s4,s5,hcv⟩:=uh HK2 w1 hb1;clear r0 r1 r2 r3 r4 r5)
      | (go_at_call_of 116 (Value.string ⟨#[65,68,68]⟩);refine (uh HI2 _ hb1).mono ?_;rintro e2 w2 ⟨rfl,hb2⟩;obtain ⟨_,v1,_,_,_,_,hcv2⟩:=uh HK2 w2 (hb1.trans (hb2.mono hb1.size));clear s0 s1 s2 s3 s4 s5))
     go_ret
     exact ⟨rfl,hb0.trans ((hb1.trans (hb2.mono hb1.size)).mono hb0.size)⟩
   | false=>
     simp only [Bool.false_or,Bool.false_eq_true,if_false]
     go_enter Tryz.func71,Tryz.ntmps71
     go_upto_region 1 with fail
     rw [←hW0]
     clear hW0
     go_wp2_with (first
      | (go_at_call_of 116 (Value.string ⟨#[67,79,80,89]⟩);refine hI1.mono ?_;clear hI1;rintro e1 w1 ⟨rfl,hb1⟩;obtain ⟨s0,s1,s2,s3,s4,s5,hcv⟩:=uh HK2 w1 hb1;clear r0 r1 r2 r3 r4 r5)
      | (go_at_call_of 116 (Value.string ⟨#[65,68,68]⟩);refine (uh HI2 _ hb1).mono ?_;rintro e2 w2 ⟨rfl,hb2⟩))
     go_ret
     exact ⟨rfl,hb0.trans ((hb1.trans (hb2.mono hb1.size)).mono hb0.size)⟩
def formI (ws:List (List Atm)):List UInt8:=Lib.join (ws.map fun x=>formW (parts x)) [32]
def szI (ws:List (List Atm)):Nat:=(ws.map fun x=>szP (parts x)+3).sum
theorem formW_len (l:List Prt):(formW l).length≤szP l+2:=by
 unfold formW
 split
 ·simp
 ·have:=partsF_len l;omega
theorem join_len:∀ xs:List (List UInt8),(Lib.join xs [32]).length≤(xs.map fun l=>l.length+1).sum
 | []=>by simp [Lib.join,List.intercalate]
 | [a]=>by simp [Lib.join,List.intercalate]
 | a :: b :: r=>by
   have ih:=join_len (b :: r)
   have h1:Lib.join (a :: b :: r) [32]=a++[32]++Lib.join (b :: r) [32]:=by simp [Lib.join,List.intercalate]
   rw [h1,List.length_append,List.length_append,List.map_cons,List.sum_cons]
   simp only [List.length_cons,List.length_nil]
   omega
theorem formI_len (ws:List (List Atm)):(formI ws).length≤szI ws:=by
 refine Nat.le_trans (join_len _) ?_
 unfold szI
 induction ws with
 | nil=>simp
 | cons a r ih=>
   simp only [List.map_cons,List.sum_cons]
   have:=formW_len (parts a)
   omega
theorem szI_mem {ws:List (List Atm)}{x:List Atm}(h:x∈ws):szP (parts x)≤szI ws:=by
 induction ws with
 | nil=>cases h
 | cons a r ih=>
   have h2:szI (a :: r)=szP (parts a)+3+szI r:=by simp [szI]
   rcases List.mem_cons.1 h with rfl | h
   ·omega
   ·have:=ih h;omega
theorem info9w:(Tryz.prog.info? 9).map (fun i=>(i.zero,i.size,i.bytes))=some (some (.string ByteArray.empty),1,16):=by kernel_rfl
abbrev StrRow (w:World) (B:Nat) (v:Value) (us:List ByteArray):Prop:=w.ownsRow B 9 1 v us.length (us.map Value.string)
set_option maxHeartbeats 1000000 in
set_option maxRecDepth 10000 in
theorem form_in (m:InM) (B:Nat) (w:World) (h:m.Ok w B) (hz:szI (m.ws.map WdM.xs)≤268435456) :
  Calls Tryz.prog 70 #[m.val] w fun ev w'=>(∃ u:ByteArray,ev=.returned (.string u)∧u.data.toList=formI (m.ws.map WdM.xs))∧Below w.heap.size w w':=by
 obtain ⟨wv,ws,st,rl⟩:=m
 obtain ⟨hws,hop,_,hsm,hsh⟩:=h
 simp only at hws hop hsm hsh hz ⊢
 have hpos:0<ws.length:=by
  cases ws with
  | nil=>cases hop
  | cons a r=>simp
 obtain ⟨g,cap,rfl,_,hgl⟩:=World.ownsRow.form hws.row hpos
 obtain ⟨n,hn⟩:∃ n,n=ws.length:=⟨_,rfl⟩
 have HN:=hide hn
 have HWS:=hide hws
 have HSM:=hide hsm
 have HZ:=hide hz
 unfold InM.val
 simp only
 generalize (ruleT rl).1=r1
 generalize (ruleT rl).2.1=r2
 generalize (ruleT rl).2.2.1=r3
 generalize (ruleT rl).2.2.2=r4
 rw [←hn] at hsh hpos ⊢
 obtain ⟨W0,hW0⟩:∃ W0,W0=w.alloc (.cells #[.slice (some ⟨g,0,none⟩) n cap,.int .i64 st,.int .i64 r1,.int .i64 r2,fnV r3,fnV r4] 76):=⟨_,rfl⟩
 have hb0:Below w.heap.size w W0:=by rw [hW0];exact (Below.refl _ _).alloc (Nat.le_refl _) _
 have hz0':W0.heap.size=w.heap.size+1:=by rw [hW0];simp
 have hc0:W0.heap[w.heap.size]?=some (.cells #[.slice (some ⟨g,0,none⟩) n cap,.int .i64 st,.int .i64 r1,.int .i64 r2,fnV r3,fnV r4] 76 (0,0)):=by rw [hW0];exact heap_alloc_new _ _
 have p0:W0.cell? ⟨w.heap.size,0,none⟩=some (.slice (some ⟨g,0,none⟩) n cap):=cq 0 hc0
 have HB0:=hide hb0
 clear hws hop hsm hz hn hb0 hc0
 go_enter Tryz.func70,Tryz.ntmps70
 go_upto_region 1 with fail
 rw [←hW0]
 clear hW0
 go_wp2_with fail
 clear p0
 go_loopw [3,9] (fun sv i wr=>∃ (k:Nat) (us:List ByteArray),k≤n∧us.length=k∧i=.int .i64 k∧StrRow wr (w.heap.size+1) sv us∧us.map (·.data.toList)=(ws.take k).map (fun x=>formW (parts x.xs))∧Below (w.heap.size+1) W0 wr) (fun _ i _=>n-(intOf i).toNat)
 case atStart=>exact ⟨0,[],Nat.zero_le _,rfl,rfl,World.ownsRow_nil _ _ _ _,rfl,Below.refl _ _⟩
 case round=>
  obtain ⟨k,us,hk,huk,rfl,hrow,hus,hb⟩:=hrel
  obtain ⟨aos,ns,caps,hsv⟩:=row_form hrow
  subst hsv
  have HROW:=hide hrow
  have HUS:=hide hus
  have HUK:=hide huk
  have Hb:=hide hb
  clear hrow hus huk
  have hbw:Below w.heap.size w wr:=(uh HB0).trans (hb.mono (by omega))
  by_cases hlt:k<n
  ·have hlt':k<ws.length:=by rw [←uh HN];exact hlt
   obtain ⟨x,hx⟩:∃ x,ws[k]?=some x:=⟨_,List.getElem?_eq_getElem hlt'⟩
   have hWr:=(uh HWS).below hbw
   obtain ⟨gw,capw,hwv,q0,q1,_⟩:=wd_at hWr k x hx
   rw [←uh HN] at hwv
   injection hwv with e1 e2 e3
   injection e1 with e1
   injection e1 with e1
   subst e1 e3
   clear e2
   have hok:=hWr.all x (List.mem_of_getElem? hx)
   obtain ⟨aox,nx,capx,hxv⟩:=row_form hok
   rw [hxv] at q1
   have n0:=World.new_ne wr ⟨g,k*2,none⟩ q0
   obtain ⟨W1,hW1⟩:∃ W1,W1=wr.alloc (.cells #[.int .i64 (x.place:Int),.slice aox nx capx] 162):=⟨_,rfl⟩
   have hb1:Below wr.heap.size wr W1:=by rw [hW1];exact (Below.refl _ _).alloc (Nat.le_refl _) _
   have hc1:W1.heap[wr.heap.size]?=some (.cells #[.int .i64 (x.place:Int),.slice aox nx capx] 162 (0,0)):=by rw [hW1];exact heap_alloc_new _ _
   have p0:W1.cell? ⟨wr.heap.size,0,none⟩=some (.int .i64 (x.place:Int)):=cq 0 hc1
   have p1:W1.cell? ⟨wr.heap.size,1,none⟩=some (.slice aox nx capx):=cq 1 hc1
   have hok1:x.Ok W1 B:=row_same hok fun j hj=>hb1.block j (World.ownsRow.lt hok j hj).2
   have hF:=form_word x B W1 hok1 (uh HSM x (List.mem_of_getElem? hx)).1 (Nat.le_trans (szI_mem (List.mem_map.2 ⟨x,List.mem_of_getElem? hx,rfl⟩)) (uh HZ))
   unfold WdM.val at hF
   rw [hxv] at hF
   have HB1:Hid (Below (w.heap.size+1) W0 W1):=hide (hb.trans (hb1.mono (by have:=hb.size;omega)))
   have HR1:Hid (StrRow W1 (w.heap.size+1) (.slice aos ns caps) us):=hide (row_same (uh HROW) fun j hj=>hb1.block j (World.ownsRow.lt (uh HROW) j hj).2)
   have HX:Hid ((ws.take (k+1)).map (fun x=>formW (parts x.xs))=(ws.take k).map (fun x=>formW (parts x.xs))++[formW (parts x.xs)]):=hide (by rw [List.take_add_one,hx];simp)
   obtain ⟨i0,hi,hz0,hz1,hz2⟩:=info_parts info9w
   clear hx hWr hok hxv hb1 hc1 hok1 hbw hb
   go_upto_region 5 with fail
   rw [←hW1]
   clear hW1 q0 q1 n0
   go_wp2_with (first
    | (go_at_call 114;refine hF.mono ?_;clear hF;rintro ev w3 ⟨⟨u,rfl,hu⟩,hb3⟩;have HU:=hide hu;have HB3:=hide hb3;have HR3:Hid (StrRow w3 (w.heap.size+1) (.slice aos ns caps) us):=hide (row_same (uh HR1) fun j hj=>hb3.block j (World.ownsRow.lt (uh HR1) j hj).2);have HR4:=hide ((uh HR3).alloc (.cells #[.string u] 9));have HSZ:=hide (Nat.le_trans (uh HB1).size hb3.size);clear hu hb3)
    | (at_builtin;refine wpList_append_own _ rfl _ _ 27 rfl (w.heap.size+1) 9 i0 _ 1 16 Tryz.underlying27 hi hz0 hz1 hz2 rfl (by decide) _ us.length (us.map Value.string) rfl (uh HR4) ⟨w3.heap.size,0,none⟩ 1 1 [.string u] rfl rfl (World.news_of_block (cs:=#[.string u]) (t:=9) (fr:=(0,0)) (heap_alloc_new _ _)) (by intro u hu;simp only [List.mem_cons,List.not_mem_nil,or_false] at hu;rw [hu];rfl) (by have:=uh HUK;unfold maxLen;omega) (by have:=uh HUK;omega) (by have:=uh HSZ;simp;omega) ?_;intro v6 w6 hown6 hgrow6 _))
   have hb6:Below (w.heap.size+1) w3 w6:=((Below.refl _ w3).alloc (by have:=uh HSZ;omega) _).grown hgrow6 (by have:=uh HSZ;simp;omega) (fun q hq=>(World.ownsRow.lt (uh HR3) q hq).1)
   have HB6:Hid (Below (w.heap.size+1) W0 w6):=hide (((uh HB1).trans ((uh HB3).mono (by have:=(uh HB1).size;omega))).trans hb6)
   have HR6:Hid (StrRow w6 (w.heap.size+1) v6 (us++[u])):=hide (by unfold StrRow;rw [List.length_append,List.map_append];exact hown6)
   have HU6:Hid ((us++[u]).map (·.data.toList)=(ws.take (k+1)).map (fun x=>formW (parts x.xs))):=hide (by rw [uh HX,List.map_append,uh HUS,←uh HU];rfl)
   clear hgrow6 hown6 hb6
   go_roundw
   case rel=>exact ⟨k+1,us++[u],hlt,by rw [List.length_append,uh HUK];rfl,by go_num,uh HR6,uh HU6,uh HB6⟩
   case measure=>simp [intOf];omega
  ·have hke:k=n:=by omega
   have hul:us.length=n:=by rw [uh HUK,hke]
   rcases (uh HROW).2 with ⟨_,h0⟩ | ⟨g2,cap2,cur,hv2,_,hg2,hc2,_⟩
   ·omega
   injection hv2 with e1 e2 e3
   subst e1 e2 e3
   have hcells:∀ (j:Nat) x,us[j]?=some x→wr.cell? ⟨g2,0+j,none⟩=some (.string x):=fun j x hj=>by
    have hjl:=(List.getElem?_eq_some_iff.1 hj).1
    rw [Nat.zero_add,World.ownsRow.cellAt (uh HROW) j (by omega),List.getElem?_map,hj];rfl
   have HFI:Hid (Lib.join (us.map (·.data.toList)) [32]=formI (ws.map WdM.xs)):=hide (by
    rw [uh HUS,List.take_of_length_le (by rw [hke,uh HN];exact Nat.le_refl _)]
    unfold formI;rw [List.map_map];rfl)
   have hJ:=Tryz.strings_Join g2 0 caps us ⟨#[32]⟩ wr hcells (Array.getElem?_eq_some_iff.1 hg2).1 (by omega) hc2 (by
    show (Lib.join (us.map (·.data.toList)) [32]).length≤_
    rw [uh HFI]
    have h1:=formI_len (ws.map WdM.xs)
    have h2:=uh HZ
    omega)
   have HJ:Hid ((Lib.join (us.map (·.data.toList)) (ByteArray.mk #[32]).data.toList)=formI (ws.map WdM.xs)):=hide (uh HFI)
   generalize (Lib.join (us.map (·.data.toList)) (ByteArray.mk #[32]).data.toList)=J at hJ HJ
   clear hke hul hcells hg2 hc2 hb
   go_wp2_with (go_at_call 115;refine hJ.mono ?_;clear hJ;rintro ev w3 ⟨rfl,hb3⟩)
   go_ret
   exact ⟨⟨_,rfl,(List.toList_toArray).trans (uh HJ)⟩,hbw.trans (hb3.mono hbw.size)⟩
end Go.Proofs.YtehfpjcclknipaaGreatDoor
