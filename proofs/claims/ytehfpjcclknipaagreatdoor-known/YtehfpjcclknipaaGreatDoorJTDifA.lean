import Derived.Test.YtehfpjcclknipaaGreatDoorJTPth
import Derived.Test.YtehfpjcclknipaaGreatDoorJTChl
import Derived.Test.YtehfpjcclknipaaGreatDoorJTTopK
import Derived.Test.YtehfpjcclknipaaGreatDoorTPatR
import Derived.Test.YtehfpjcclknipaaGreatDoorJTEach
namespace Go.Proofs.YtehfpjcclknipaaGreatDoor.T
open Go.RowKit Go.Maps
theorem mark_eq {b:ByteArray}{p:List UInt8}(h:b.data.toList=p) (k:Int):markE p k=⟨b,k,0,⟨#[]⟩⟩:=by
 subst h;rfl
theorem step_take {xa xb:List Ent}{k:Nat}{p:List UInt8}(h:(allP xa xb)[k]?=some p):(((allP xa xb).take (k+1)).map (stepF xa xb)).flatten=(((allP xa xb).take k).map (stepF xa xb)).flatten++stepF xa xb p:=by
 rw [List.take_add_one,h];simp
theorem clr_is {B B2:Nat}{r r2:Nd}{ns ms:List Nd}{xa xb:List Ent}{p:List UInt8}{v u:Value}{c:Bool}(w:World) (hc:Hid (clrF xa xb p=c)) (h:Tr w B r ns xa) (h2:Tr w B2 r2 ms xb) (hv:Found r ns xa p v) (hu:Found r2 ms xb p u) :
  Calls Tryz.prog 50 #[v,u] w fun ev w'=>ev=.returned (.bool c)∧Below w.heap.size w w':=(uh hc) ▸ clr_at w h h2 hv hu
theorem told_is {B B2:Nat}{r r2:Nd}{ns ms:List Nd}{xa xb:List Ent}{c:Bool}(s:ByteArray) (m:Int) (w:World) (hc:Hid ((decide (kindP xb (dirOf s.data.toList)=1)&&!clrF xa xb (dirOf s.data.toList))=c)) (h:Tr w B r ns xa) (h2:Tr w B2 r2 ms xb) (hs:s.size≤1048576) (hm:w.cell? ⟨14,0,none⟩=some (.int .i64 m)) :
  Calls Tryz.prog 52 #[.pointer (some ⟨r.nb,0,none⟩),.pointer (some ⟨r2.nb,0,none⟩),.string s] w fun ev w'=>ev=.returned (.bool c)∧Below w.heap.size w w':=(uh hc) ▸ told_any s m w h h2 hs hm
theorem same_is {c:Bool}(x y:Nd) (w:World) (hc:Hid (eqE x.ent y.ent=c)) (hx:w.heap[x.nb]?=some (.cells x.cells 129 (0,0))) (hy:w.heap[y.nb]?=some (.cells y.cells 129 (0,0))) :
  Calls Tryz.prog 48 #[.pointer (some ⟨x.nb,0,none⟩),.pointer (some ⟨y.nb,0,none⟩)] w fun ev w'=>ev=.returned (.bool c)∧Below w.heap.size w w':=(uh hc) ▸ same_any x y w hx hy
set_option maxHeartbeats 3000000 in
set_option maxRecDepth 100000 in
theorem diff_any {B B2:Nat}{r r2:Nd}{ns ms:List Nd}{xa xb:List Ent}(m:Int) (w:World) (h:Tr w B r ns xa) (h2:Tr w B2 r2 ms xb) (hm:w.cell? ⟨14,0,none⟩=some (.int .i64 m)) :
  Calls Tryz.prog 24 #[.pointer (some ⟨r.nb,0,none⟩),.pointer (some ⟨r2.nb,0,none⟩)] w fun ev w'=>∃ v,ev=.returned v∧OwnC w' w.heap.size v (diffF xa xb)∧Below w.heap.size w w':=by
 obtain ⟨i0,hi,hz0,hz1,hz2⟩:=info_parts Tryz.info41
 have HA:=hide h
 have HB:=hide h2
 have HM:=hide hm
 have HR:Hid (eqE r.ent r2.ent=true):=hide (by rw [h.mem.root,h2.mem.root];exact eqE_iff.2 rfl)
 clear h h2 hm
 go_enter Tryz.func24,Tryz.ntmps24
 go_upto_region 3 with (go_at_call 46;refine (paths_any m w (uh HA) (uh HB) (uh HM)).mono ?_;rintro ev w1 ⟨g,cap,n,ps,rfl,HN,ht,HT,hb1⟩)
 have hn:n≤81:=by
  have:=allP_len (uh HA).tree (uh HB).tree
  rw [uh HN,←txts_len,uh HT];exact this
 have HTR:=hide ht
 clear ht
 go_loopw [5,14] (fun v i wr=>∃ (k:Nat) (ks:List Ent),k≤n∧i=.int .i64 k∧ks.length≤3*k∧OwnC wr w1.heap.size v ks∧Below w1.heap.size w1 wr∧Hid (ks=(((allP xa xb).take k).map (stepF xa xb)).flatten)) (fun _ i _=>n-(intOf i).toNat)
 case atStart=>exact ⟨0,[],by omega,rfl,by simp,World.ownsRow_nil _ _ _ _,Below.refl _ _,hide (by simp)⟩
 case round=>
  obtain ⟨k,ks,hk,rfl,hkl,hown,hbr,HK⟩:=hrel
  have hb:Below w.heap.size w wr:=hb1.trans (hbr.mono hb1.size)
  by_cases hlt:k<n
  ·obtain ⟨b,hbk⟩:=get_lt (uh HN) hlt
   obtain ⟨g',hg',cb⟩:=(uh HTR).below hbr k b hbk
   cases hg'
   have hpk:(allP xa xb)[k]?=some b.data.toList:=by rw [←uh HT];exact txts_get hbk
   have HP:=hide (step_take hpk)
   have hmem:=allP_mem.1 (List.mem_of_getElem? hpk)
   have hbs:b.size≤1048576:=by
    rcases hmem with h | h | h
    ·rw [Lib.size_eq,h];simp
    ·obtain ⟨e,he,hp⟩:=List.mem_map.1 h
     rw [Lib.size_eq,←hp,←Lib.size_eq];exact ((uh HA).tree.small e he).1
    ·obtain ⟨e,he,hp⟩:=List.mem_map.1 h
     rw [Lib.size_eq,←hp,←Lib.size_eq];exact ((uh HB).tree.small e he).1
   have HMem:=hide hmem
   have i0':(0:Int)≤(k:Int):=by omega
   have i1':(k:Int)<(n:Int):=by omega
   have HOwn:=hide hown
   clear hbk hpk hmem hown
   go_upto_region 6 with (first
    | (go_at_call_of 47 (Value.pointer (some ⟨r.nb,0,none⟩));refine (find_tr b m _ ((uh HA).below hb) hbs (cell_later hb (uh HM))).mono ?_;rintro ev w2 ⟨v1,rfl,HF1,hb2⟩;have hB2:=hb.trans (hb2.mono hb.size))
    | (go_at_call_of 47 (Value.pointer (some ⟨r2.nb,0,none⟩));refine (find_tr b m _ ((uh HB).below hB2) hbs (cell_later hB2 (uh HM))).mono ?_;rintro ev w3 ⟨v2,rfl,HF2,hb3⟩;have hB3:=hB2.trans (hb3.mono hB2.size)))
   have hO3:=((uh HOwn).later hb2).later hb3
   have hR3:Below w1.heap.size w1 w3:=hbr.trans ((hb2.trans (hb3.mono hb2.size)).mono hbr.size)
   have HO3:=hide hO3
   clear HOwn hO3 hb2 hb3
   have hR3':=hR3
   rcases uh HF2 with ⟨hv2,hp,hno⟩ | ⟨hv2,hp⟩ | ⟨y,hy,hv2,hyp,hp,hay⟩
   ·obtain ⟨x,hv1,hax⟩:∃ x:Nd,v1=.pointer (some ⟨x.nb,0,none⟩)∧atE xa b.data.toList=some x.ent:=by
     rcases uh HF1 with ⟨_,_,ha⟩ | ⟨_,hp'⟩ | ⟨x,hx,hv,hxp,_,ha⟩
     ·exfalso
      rcases uh HMem with h | h | h
      ·exact hp h
      ·obtain ⟨e,he,hep⟩:=List.mem_map.1 h;exact atE_none ha e he hep
      ·obtain ⟨e,he,hep⟩:=List.mem_map.1 h;exact atE_none hno e he hep
     ·exact absurd hp' hp
     ·exact ⟨x,hv,ha⟩
    have HC:Hid (clrF xa xb b.data.toList=false):=hide (by simp [clrF,kindP_at hp,hno])
    have HG:Hid (goneF xa xb b.data.toList=(decide (kindP xb (dirOf b.data.toList)=1)&&!clrF xa xb (dirOf b.data.toList))):=hide (by simp [goneF,hax,hno])
    have HPu:Hid (putF xa xb b.data.toList=[]):=hide (by simp [putF,hno])
    subst hv1 hv2
    clear hp hno hax
    cases htd:(decide (kindP xb (dirOf b.data.toList)=1)&&!clrF xa xb (dirOf b.data.toList))
    ·have HTd:=hide htd
     have HS:Hid (stepF xa xb b.data.toList=[]):=hide (by rw [stepF,uh HPu,uh HC,uh HG,htd];rfl)
     clear htd
     go_wp2_with (first
      | (go_at_call 50;refine (clr_is w3 HC ((uh HA).below hB3) ((uh HB).below hB3) (uh HF1) (uh HF2)).mono ?_;rintro ev w4 ⟨rfl,hb4⟩;have hB4:=hB3.trans (hb4.mono hB3.size);have hR4:=hR3.trans (hb4.mono hR3.size);have HO4:=hide ((uh HO3).later hb4);clear hb4)
      | (go_at_call 52;refine (told_is b m w4 HTd ((uh HA).below hB4) ((uh HB).below hB4) hbs (cell_later hB4 (uh HM))).mono ?_;rintro ev w5 ⟨rfl,hb5⟩;have hB5:=hB4.trans (hb5.mono hB4.size);have hR5:=hR4.trans (hb5.mono hR4.size);have HO5:=hide ((uh HO4).later hb5);clear hb5))
     go_roundw
     case rel=>
      have hl:(ks).length≤3*(k+1):=by
       have h3:=stepF_len xa xb b.data.toList
       rw [uh HS] at h3
       simp at h3 ⊢
       omega
      have R:ks=(((allP xa xb).take (k+1)).map (stepF xa xb)).flatten:=by rw [uh HP,←uh HK,uh HS] <;> simp
      have RO:OwnC _ w1.heap.size _ (ks):=uh HO5
      have RB:Below w1.heap.size w1 _:=hR5
      first
       | exact ⟨k+1,ks,by omega,by go_num,hl,RO,RB,hide R⟩
       | ((repeat apply Exists.intro);exact ⟨⟨k+1,ks,by omega,by go_num,hl,RO,RB,hide R⟩,rfl⟩)
     case measure=>simp [intOf];omega
    ·have HTd:=hide htd
     have HS:Hid (stepF xa xb b.data.toList=[(⟨b,4,0,⟨#[]⟩⟩:Ent)]):=hide (by rw [stepF,uh HPu,uh HC,uh HG,htd,←mark_eq rfl];rfl)
     clear htd
     go_wp2_with (first
      | (go_at_call 50;refine (clr_is w3 HC ((uh HA).below hB3) ((uh HB).below hB3) (uh HF1) (uh HF2)).mono ?_;rintro ev w4 ⟨rfl,hb4⟩;have hB4:=hB3.trans (hb4.mono hB3.size);have hR4:=hR3.trans (hb4.mono hR3.size);have HO4:=hide ((uh HO3).later hb4);clear hb4)
      | (go_at_call 52;refine (told_is b m w4 HTd ((uh HA).below hB4) ((uh HB).below hB4) hbs (cell_later hB4 (uh HM))).mono ?_;rintro ev w5 ⟨rfl,hb5⟩;have hB5:=hB4.trans (hb5.mono hB4.size);have hR5:=hR4.trans (hb5.mono hR4.size);have HO5:=hide ((uh HO4).later hb5);clear hb5)
      | (go_at_call 51;refine (mark_any b 4 _ hbs).mono ?_;rintro ev w6 ⟨rfl,hb6⟩;have hB6:=hB5.trans (hb6.mono hB5.size);have hR6:=hR5.trans (hb6.mono hR5.size);have HO6:=hide ((uh HO5).later hb6);clear hb6)
      | (at_builtin;refine wpList_append_own _ rfl _ _ 34 rfl w1.heap.size 41 i0 _ 4 48 Tryz.underlying34 hi hz0 hz1 hz2 rfl (by decide) _ _ _ rfl (World.ownsRow.alloc (uh HO6) _) ⟨w6.heap.size,0,none⟩ 1 1 (ec (⟨b,4,0,⟨#[]⟩⟩:Ent)) rfl rfl (World.news_of_block (cs:=#[.string (⟨b,4,0,⟨#[]⟩⟩:Ent).path,.int .i64 (⟨b,4,0,⟨#[]⟩⟩:Ent).kind,.int .i64 (⟨b,4,0,⟨#[]⟩⟩:Ent).mode,.string (⟨b,4,0,⟨#[]⟩⟩:Ent).data]) (t:=41) (fr:=(0,0)) (heap_alloc_new _ _)) (ec_oneC _) (by unfold maxLen;(try simp only [List.length_append,List.length_cons,List.length_nil]);omega) (by (try simp only [List.length_append,List.length_cons,List.length_nil]);omega) (by have:=hR6.size;simp;omega) ?_;intro v7 w7 hown7 hgrow7 _;have HO7:=hide (ownC_snoc hown7);have hR7:=ownC_below (uh HO6) hR6 hgrow7;have hB7:=hb1.trans (hR7.mono hb1.size);clear hown7 hgrow7))
     go_roundw
     case rel=>
      have hl:(ks++[(⟨b,4,0,⟨#[]⟩⟩:Ent)]).length≤3*(k+1):=by
       have h3:=stepF_len xa xb b.data.toList
       rw [uh HS] at h3
       simp at h3 ⊢
       omega
      have R:ks++[(⟨b,4,0,⟨#[]⟩⟩:Ent)]=(((allP xa xb).take (k+1)).map (stepF xa xb)).flatten:=by rw [uh HP,←uh HK,uh HS] <;> simp
      have RO:OwnC _ w1.heap.size _ (ks++[(⟨b,4,0,⟨#[]⟩⟩:Ent)]):=uh HO7
      have RB:Below w1.heap.size w1 _:=hR7
      first
       | exact ⟨k+1,ks++[(⟨b,4,0,⟨#[]⟩⟩:Ent)],by omega,by go_num,hl,RO,RB,hide R⟩
       | ((repeat apply Exists.intro);exact ⟨⟨k+1,ks++[(⟨b,4,0,⟨#[]⟩⟩:Ent)],by omega,by go_num,hl,RO,RB,hide R⟩,rfl⟩)
     case measure=>simp [intOf];omega
   ·have hv1:v1=.pointer (some ⟨r.nb,0,none⟩):=by
     rcases uh HF1 with ⟨_,hp',_⟩ | ⟨hv,_⟩ | ⟨_,_,_,_,hp',_⟩
     ·exact absurd hp hp'
     ·exact hv
     ·exact absurd hp hp'
    have HPu:Hid (putF xa xb b.data.toList=[]):=hide (by
     have:atE xb b.data.toList=none:=atE_miss fun e he=>by rw [hp];exact ((uh HB).tree.path he).1
     simp [putF,this])
    have HG:Hid (goneF xa xb b.data.toList=false):=hide (by
     have:atE xa b.data.toList=none:=atE_miss fun e he=>by rw [hp];exact ((uh HA).tree.path he).1
     simp [goneF,this])
    have HE1:Hid (eqE r.ent r2.ent=true):=HR
    have HXm:Hid (r∈r :: ns):=hide (by simp)
    have HYm:Hid (r2∈r2 :: ms):=hide (by simp)
    subst hv1 hv2
    clear hp
    cases hcl:clrF xa xb b.data.toList
    ·have HC:=hide hcl
     have HS:Hid (stepF xa xb b.data.toList=[]):=hide (by rw [stepF,uh HPu,hcl,uh HG];rfl)
     clear hcl
     go_wp2_with (first
      | (go_at_call 48;refine (same_is r r2 w3 HE1 (((uh HA).below hB3).mem.all r (uh HXm)).2.2.1 (((uh HB).below hB3).mem.all r2 (uh HYm)).2.2.1).mono ?_;rintro ev w4 ⟨rfl,hb4⟩;have hB4:=hB3.trans (hb4.mono hB3.size);have hR4:=hR3.trans (hb4.mono hR3.size);have HO4:=hide ((uh HO3).later hb4);clear hb4)
      | (go_at_call 50;refine (clr_is w4 HC ((uh HA).below hB4) ((uh HB).below hB4) (uh HF1) (uh HF2)).mono ?_;rintro ev w5 ⟨rfl,hb5⟩;have hB5:=hB4.trans (hb5.mono hB4.size);have hR5:=hR4.trans (hb5.mono hR4.size);have HO5:=hide ((uh HO4).later hb5);clear hb5))
     go_roundw
     case rel=>
      have hl:(ks).length≤3*(k+1):=by
       have h3:=stepF_len xa xb b.data.toList
       rw [uh HS] at h3
       simp at h3 ⊢
       omega
      have R:ks=(((allP xa xb).take (k+1)).map (stepF xa xb)).flatten:=by rw [uh HP,←uh HK,uh HS] <;> simp
      have RO:OwnC _ w1.heap.size _ (ks):=uh HO5
      have RB:Below w1.heap.size w1 _:=hR5
      first
       | exact ⟨k+1,ks,by omega,by go_num,hl,RO,RB,hide R⟩
       | ((repeat apply Exists.intro);exact ⟨⟨k+1,ks,by omega,by go_num,hl,RO,RB,hide R⟩,rfl⟩)
     case measure=>simp [intOf];omega
    ·have HC:=hide hcl
     have HS:Hid (stepF xa xb b.data.toList=[(⟨b,5,0,⟨#[]⟩⟩:Ent)]):=hide (by rw [stepF,uh HPu,hcl,uh HG,←mark_eq rfl];rfl)
     clear hcl
     go_wp2_with (first
      | (go_at_call 48;refine (same_is r r2 w3 HE1 (((uh HA).below hB3).mem.all r (uh HXm)).2.2.1 (((uh HB).below hB3).mem.all r2 (uh HYm)).2.2.1).mono ?_;rintro ev w4 ⟨rfl,hb4⟩;have hB4:=hB3.trans (hb4.mono hB3.size);have hR4:=hR3.trans (hb4.mono hR3.size);have HO4:=hide ((uh HO3).later hb4);clear hb4)
      | (go_at_call 50;refine (clr_is w4 HC ((uh HA).below hB4) ((uh HB).below hB4) (uh HF1) (uh HF2)).mono ?_;rintro ev w5 ⟨rfl,hb5⟩;have hB5:=hB4.trans (hb5.mono hB4.size);have hR5:=hR4.trans (hb5.mono hR4.size);have HO5:=hide ((uh HO4).later hb5);clear hb5)
      | (go_at_call 51;refine (mark_any b 5 _ hbs).mono ?_;rintro ev w6 ⟨rfl,hb6⟩;have hB6:=hB5.trans (hb6.mono hB5.size);have hR6:=hR5.trans (hb6.mono hR5.size);have HO6:=hide ((uh HO5).later hb6);clear hb6)
      | (at_builtin;refine wpList_append_own _ rfl _ _ 34 rfl w1.heap.size 41 i0 _ 4 48 Tryz.underlying34 hi hz0 hz1 hz2 rfl (by decide) _ _ _ rfl (World.ownsRow.alloc (uh HO6) _) ⟨w6.heap.size,0,none⟩ 1 1 (ec (⟨b,5,0,⟨#[]⟩⟩:Ent)) rfl rfl (World.news_of_block (cs:=#[.string (⟨b,5,0,⟨#[]⟩⟩:Ent).path,.int .i64 (⟨b,5,0,⟨#[]⟩⟩:Ent).kind,.int .i64 (⟨b,5,0,⟨#[]⟩⟩:Ent).mode,.string (⟨b,5,0,⟨#[]⟩⟩:Ent).data]) (t:=41) (fr:=(0,0)) (heap_alloc_new _ _)) (ec_oneC _) (by unfold maxLen;(try simp only [List.length_append,List.length_cons,List.length_nil]);omega) (by (try simp only [List.length_append,List.length_cons,List.length_nil]);omega) (by have:=hR6.size;simp;omega) ?_;intro v7 w7 hown7 hgrow7 _;have HO7:=hide (ownC_snoc hown7);have hR7:=ownC_below (uh HO6) hR6 hgrow7;have hB7:=hb1.trans (hR7.mono hb1.size);clear hown7 hgrow7))
     go_roundw
     case rel=>
      have hl:(ks++[(⟨b,5,0,⟨#[]⟩⟩:Ent)]).length≤3*(k+1):=by
       have h3:=stepF_len xa xb b.data.toList
       rw [uh HS] at h3
       simp at h3 ⊢
       omega
      have R:ks++[(⟨b,5,0,⟨#[]⟩⟩:Ent)]=(((allP xa xb).take (k+1)).map (stepF xa xb)).flatten:=by rw [uh HP,←uh HK,uh HS] <;> simp
      have RO:OwnC _ w1.heap.size _ (ks++[(⟨b,5,0,⟨#[]⟩⟩:Ent)]):=uh HO7
      have RB:Below w1.heap.size w1 _:=hR7
      first
       | exact ⟨k+1,ks++[(⟨b,5,0,⟨#[]⟩⟩:Ent)],by omega,by go_num,hl,RO,RB,hide R⟩
       | ((repeat apply Exists.intro);exact ⟨⟨k+1,ks++[(⟨b,5,0,⟨#[]⟩⟩:Ent)],by omega,by go_num,hl,RO,RB,hide R⟩,rfl⟩)
     case measure=>simp [intOf];omega
   ·have HYm:Hid (y∈r2 :: ms):=hide (by simp [hy])
    have HYs:Hid (y.ent.path.size≤1048576∧y.ent.data.size≤1048576):=hide ((uh HB).tree.small y.ent ((uh HB).in hy))
    have HG:Hid (goneF xa xb b.data.toList=false):=hide (by simp [goneF,hay])
    subst hv2
    rcases uh HF1 with ⟨hv1,_,hax⟩ | ⟨_,hp'⟩ | ⟨x,hx,hv1,hxp,_,hax⟩
    ·have HPu:Hid (putF xa xb b.data.toList=[y.ent]):=hide (by simp [putF,hay,hax])
     have HC:Hid (clrF xa xb b.data.toList=false):=hide (by simp [clrF,kindP_at hp,hax])
     have HS:Hid (stepF xa xb b.data.toList=[y.ent]):=hide (by rw [stepF,uh HPu,uh HC,uh HG];rfl)
     subst hv1
     clear hp hay hax hyp hy
     go_wp2_with (first
      | (go_at_call 48;refine (same_nil _ w3).mono ?_;rintro ev w4 ⟨rfl,hb4⟩;have hB4:=hB3.trans (hb4.mono hB3.size);have hR4:=hR3.trans (hb4.mono hR3.size);have HO4:=hide ((uh HO3).later hb4);clear hb4)
      | (go_at_call 49;refine (copy_any y w4 (((uh HB).below hB4).mem.all y (uh HYm)).2.2.1 (uh HYs).1 (uh HYs).2).mono ?_;rintro ev w5 ⟨rfl,hb5⟩;have hB5:=hB4.trans (hb5.mono hB4.size);have hR5:=hR4.trans (hb5.mono hR4.size);have HO5:=hide ((uh HO4).later hb5);clear hb5)
      | (at_builtin;refine wpList_append_own _ rfl _ _ 34 rfl w1.heap.size 41 i0 _ 4 48 Tryz.underlying34 hi hz0 hz1 hz2 rfl (by decide) _ _ _ rfl (World.ownsRow.alloc (uh HO5) _) ⟨w5.heap.size,0,none⟩ 1 1 (ec y.ent) rfl rfl (World.news_of_block (cs:=#[.string y.ent.path,.int .i64 y.ent.kind,.int .i64 y.ent.mode,.string y.ent.data]) (t:=41) (fr:=(0,0)) (heap_alloc_new _ _)) (ec_oneC _) (by unfold maxLen;(try simp only [List.length_append,List.length_cons,List.length_nil]);omega) (by (try simp only [List.length_append,List.length_cons,List.length_nil]);omega) (by have:=hR5.size;simp;omega) ?_;intro v6 w6 hown6 hgrow6 _;have HO6:=hide (ownC_snoc hown6);have hR6:=ownC_below (uh HO5) hR5 hgrow6;have hB6:=hb1.trans (hR6.mono hb1.size);clear hown6 hgrow6)
      | (go_at_call 50;refine (clr_is w6 HC ((uh HA).below hB6) ((uh HB).below hB6) (uh HF1) (uh HF2)).mono ?_;rintro ev w7 ⟨rfl,hb7⟩;have hB7:=hB6.trans (hb7.mono hB6.size);have hR7:=hR6.trans (hb7.mono hR6.size);have HO7:=hide ((uh HO6).later hb7);clear hb7))
     go_roundw
     case rel=>
      have hl:(ks++[y.ent]).length≤3*(k+1):=by
       have h3:=stepF_len xa xb b.data.toList
       rw [uh HS] at h3
       simp at h3 ⊢
       omega
      have R:ks++[y.ent]=(((allP xa xb).take (k+1)).map (stepF xa xb)).flatten:=by rw [uh HP,←uh HK,uh HS] <;> simp
      have RO:OwnC _ w1.heap.size _ (ks++[y.ent]):=uh HO7
      have RB:Below w1.heap.size w1 _:=hR7
      first
       | exact ⟨k+1,ks++[y.ent],by omega,by go_num,hl,RO,RB,hide R⟩
       | ((repeat apply Exists.intro);exact ⟨⟨k+1,ks++[y.ent],by omega,by go_num,hl,RO,RB,hide R⟩,rfl⟩)
     case measure=>simp [intOf];omega
    ·exact absurd hp' hp
    ·have HXm:Hid (x∈r :: ns):=hide (by simp [hx])
     subst hv1
     cases heq:eqE x.ent y.ent
     ·have HE1:=hide heq
      have HPu:Hid (putF xa xb b.data.toList=[y.ent]):=hide (by simp [putF,hay,hax,heq])
      clear hp hay hax hyp hy hx hxp heq
      cases hcl:clrF xa xb b.data.toList
      ·have HC:=hide hcl
       have HS:Hid (stepF xa xb b.data.toList=[y.ent]):=hide (by rw [stepF,uh HPu,hcl,uh HG];rfl)
       clear hcl
       go_wp2_with (first
        | (go_at_call 48;refine (same_is x y w3 HE1 (((uh HA).below hB3).mem.all x (uh HXm)).2.2.1 (((uh HB).below hB3).mem.all y (uh HYm)).2.2.1).mono ?_;rintro ev w4 ⟨rfl,hb4⟩;have hB4:=hB3.trans (hb4.mono hB3.size);have hR4:=hR3.trans (hb4.mono hR3.size);have HO4:=hide ((uh HO3).later hb4);clear hb4)
        | (go_at_call 49;refine (copy_any y w4 (((uh HB).below hB4).mem.all y (uh HYm)).2.2.1 (uh HYs).1 (uh HYs).2).mono ?_;rintro ev w5 ⟨rfl,hb5⟩;have hB5:=hB4.trans (hb5.mono hB4.size);have hR5:=hR4.trans (hb5.mono hR4.size);have HO5:=hide ((uh HO4).later hb5);clear hb5)
        | (at_builtin;refine wpList_append_own _ rfl _ _ 34 rfl w1.heap.size 41 i0 _ 4 48 Tryz.underlying34 hi hz0 hz1 hz2 rfl (by decide) _ _ _ rfl (World.ownsRow.alloc (uh HO5) _) ⟨w5.heap.size,0,none⟩ 1 1 (ec y.ent) rfl rfl (World.news_of_block (cs:=#[.string y.ent.path,.int .i64 y.ent.kind,.int .i64 y.ent.mode,.string y.ent.data]) (t:=41) (fr:=(0,0)) (heap_alloc_new _ _)) (ec_oneC _) (by unfold maxLen;(try simp only [List.length_append,List.length_cons,List.length_nil]);omega) (by (try simp only [List.length_append,List.length_cons,List.length_nil]);omega) (by have:=hR5.size;simp;omega) ?_;intro v6 w6 hown6 hgrow6 _;have HO6:=hide (ownC_snoc hown6);have hR6:=ownC_below (uh HO5) hR5 hgrow6;have hB6:=hb1.trans (hR6.mono hb1.size);clear hown6 hgrow6)
        | (go_at_call 50;refine (clr_is w6 HC ((uh HA).below hB6) ((uh HB).below hB6) (uh HF1) (uh HF2)).mono ?_;rintro ev w7 ⟨rfl,hb7⟩;have hB7:=hB6.trans (hb7.mono hB6.size);have hR7:=hR6.trans (hb7.mono hR6.size);have HO7:=hide ((uh HO6).later hb7);clear hb7))
       go_roundw
       case rel=>
        have hl:(ks++[y.ent]).length≤3*(k+1):=by
         have h3:=stepF_len xa xb b.data.toList
         rw [uh HS] at h3
         simp at h3 ⊢
         omega
        have R:ks++[y.ent]=(((allP xa xb).take (k+1)).map (stepF xa xb)).flatten:=by rw [uh HP,←uh HK,uh HS] <;> simp
        have RO:OwnC _ w1.heap.size _ (ks++[y.ent]):=uh HO7
        have RB:Below w1.heap.size w1 _:=hR7
        first
         | exact ⟨k+1,ks++[y.ent],by omega,by go_num,hl,RO,RB,hide R⟩
         | ((repeat apply Exists.intro);exact ⟨⟨k+1,ks++[y.ent],by omega,by go_num,hl,RO,RB,hide R⟩,rfl⟩)
       case measure=>simp [intOf];omega
      ·have HC:=hide hcl
       have HS:Hid (stepF xa xb b.data.toList=[y.ent]++[(⟨b,5,0,⟨#[]⟩⟩:Ent)]):=hide (by rw [stepF,uh HPu,hcl,uh HG,←mark_eq rfl];rfl)
       clear hcl
       go_wp2_with (first
        | (go_at_call 48;refine (same_is x y w3 HE1 (((uh HA).below hB3).mem.all x (uh HXm)).2.2.1 (((uh HB).below hB3).mem.all y (uh HYm)).2.2.1).mono ?_;rintro ev w4 ⟨rfl,hb4⟩;have hB4:=hB3.trans (hb4.mono hB3.size);have hR4:=hR3.trans (hb4.mono hR3.size);have HO4:=hide ((uh HO3).later hb4);clear hb4)
        | (go_at_call 49;refine (copy_any y w4 (((uh HB).below hB4).mem.all y (uh HYm)).2.2.1 (uh HYs).1 (uh HYs).2).mono ?_;rintro ev w5 ⟨rfl,hb5⟩;have hB5:=hB4.trans (hb5.mono hB4.size);have hR5:=hR4.trans (hb5.mono hR4.size);have HO5:=hide ((uh HO4).later hb5);clear hb5)
        | (at_builtin;refine wpList_append_own _ rfl _ _ 34 rfl w1.heap.size 41 i0 _ 4 48 Tryz.underlying34 hi hz0 hz1 hz2 rfl (by decide) _ _ _ rfl (World.ownsRow.alloc (uh HO5) _) ⟨w5.heap.size,0,none⟩ 1 1 (ec y.ent) rfl rfl (World.news_of_block (cs:=#[.string y.ent.path,.int .i64 y.ent.kind,.int .i64 y.ent.mode,.string y.ent.data]) (t:=41) (fr:=(0,0)) (heap_alloc_new _ _)) (ec_oneC _) (by unfold maxLen;(try simp only [List.length_append,List.length_cons,List.length_nil]);omega) (by (try simp only [List.length_append,List.length_cons,List.length_nil]);omega) (by have:=hR5.size;simp;omega) ?_;intro v6 w6 hown6 hgrow6 _;have HO6:=hide (ownC_snoc hown6);have hR6:=ownC_below (uh HO5) hR5 hgrow6;have hB6:=hb1.trans (hR6.mono hb1.size);clear hown6 hgrow6)
        | (go_at_call 50;refine (clr_is w6 HC ((uh HA).below hB6) ((uh HB).below hB6) (uh HF1) (uh HF2)).mono ?_;rintro ev w7 ⟨rfl,hb7⟩;have hB7:=hB6.trans (hb7.mono hB6.size);have hR7:=hR6.trans (hb7.mono hR6.size);have HO7:=hide ((uh HO6).later hb7);clear hb7)
        | (go_at_call 51;refine (mark_any b 5 _ hbs).mono ?_;rintro ev w8 ⟨rfl,hb8⟩;have hB8:=hB7.trans (hb8.mono hB7.size);have hR8:=hR7.trans (hb8.mono hR7.size);have HO8:=hide ((uh HO7).later hb8);clear hb8)
        | (at_builtin;refine wpList_append_own _ rfl _ _ 34 rfl w1.heap.size 41 i0 _ 4 48 Tryz.underlying34 hi hz0 hz1 hz2 rfl (by decide) _ _ _ rfl (World.ownsRow.alloc (uh HO8) _) ⟨w8.heap.size,0,none⟩ 1 1 (ec (⟨b,5,0,⟨#[]⟩⟩:Ent)) rfl rfl (World.news_of_block (cs:=#[.string (⟨b,5,0,⟨#[]⟩⟩:Ent).path,.int .i64 (⟨b,5,0,⟨#[]⟩⟩:Ent).kind,.int .i64 (⟨b,5,0,⟨#[]⟩⟩:Ent).mode,.string (⟨b,5,0,⟨#[]⟩⟩:Ent).data]) (t:=41) (fr:=(0,0)) (heap_alloc_new _ _)) (ec_oneC _) (by unfold maxLen;(try simp only [List.length_append,List.length_cons,List.length_nil]);omega) (by (try simp only [List.length_append,List.length_cons,List.length_nil]);omega) (by have:=hR8.size;simp;omega) ?_;intro v9 w9 hown9 hgrow9 _;have HO9:=hide (ownC_snoc hown9);have hR9:=ownC_below (uh HO8) hR8 hgrow9;have hB9:=hb1.trans (hR9.mono hb1.size);clear hown9 hgrow9))
       go_roundw
       case rel=>
        have hl:(ks++[y.ent]++[(⟨b,5,0,⟨#[]⟩⟩:Ent)]).length≤3*(k+1):=by
         have h3:=stepF_len xa xb b.data.toList
         rw [uh HS] at h3
         simp at h3 ⊢
         omega
        have R:ks++[y.ent]++[(⟨b,5,0,⟨#[]⟩⟩:Ent)]=(((allP xa xb).take (k+1)).map (stepF xa xb)).flatten:=by rw [uh HP,←uh HK,uh HS] <;> simp
        have RO:OwnC _ w1.heap.size _ (ks++[y.ent]++[(⟨b,5,0,⟨#[]⟩⟩:Ent)]):=uh HO9
        have RB:Below w1.heap.size w1 _:=hR9
        first
         | exact ⟨k+1,ks++[y.ent]++[(⟨b,5,0,⟨#[]⟩⟩:Ent)],by omega,by go_num,hl,RO,RB,hide R⟩
         | ((repeat apply Exists.intro);exact ⟨⟨k+1,ks++[y.ent]++[(⟨b,5,0,⟨#[]⟩⟩:Ent)],by omega,by go_num,hl,RO,RB,hide R⟩,rfl⟩)
       case measure=>simp [intOf];omega
     ·have HE1:=hide heq
      have HPu:Hid (putF xa xb b.data.toList=[]):=hide (by simp [putF,hay,hax,heq])
      clear hp hay hax hyp hy hx hxp heq
      cases hcl:clrF xa xb b.data.toList
      ·have HC:=hide hcl
       have HS:Hid (stepF xa xb b.data.toList=[]):=hide (by rw [stepF,uh HPu,hcl,uh HG];rfl)
       clear hcl
       go_wp2_with (first
        | (go_at_call 48;refine (same_is x y w3 HE1 (((uh HA).below hB3).mem.all x (uh HXm)).2.2.1 (((uh HB).below hB3).mem.all y (uh HYm)).2.2.1).mono ?_;rintro ev w4 ⟨rfl,hb4⟩;have hB4:=hB3.trans (hb4.mono hB3.size);have hR4:=hR3.trans (hb4.mono hR3.size);have HO4:=hide ((uh HO3).later hb4);clear hb4)
        | (go_at_call 50;refine (clr_is w4 HC ((uh HA).below hB4) ((uh HB).below hB4) (uh HF1) (uh HF2)).mono ?_;rintro ev w5 ⟨rfl,hb5⟩;have hB5:=hB4.trans (hb5.mono hB4.size);have hR5:=hR4.trans (hb5.mono hR4.size);have HO5:=hide ((uh HO4).later hb5);clear hb5))
       go_roundw
       case rel=>
        have hl:(ks).length≤3*(k+1):=by
         have h3:=stepF_len xa xb b.data.toList
         rw [uh HS] at h3
         simp at h3 ⊢
         omega
        have R:ks=(((allP xa xb).take (k+1)).map (stepF xa xb)).flatten:=by rw [uh HP,←uh HK,uh HS] <;> simp
        have RO:OwnC _ w1.heap.size _ (ks):=uh HO5
        have RB:Below w1.heap.size w1 _:=hR5
        first
         | exact ⟨k+1,ks,by omega,by go_num,hl,RO,RB,hide R⟩
         | ((repeat apply Exists.intro);exact ⟨⟨k+1,ks,by omega,by go_num,hl,RO,RB,hide R⟩,rfl⟩)
       case measure=>simp [intOf];omega
      ·have HC:=hide hcl
       have HS:Hid (stepF xa xb b.data.toList=[(⟨b,5,0,⟨#[]⟩⟩:Ent)]):=hide (by rw [stepF,uh HPu,hcl,uh HG,←mark_eq rfl];rfl)
       clear hcl
       go_wp2_with (first
        | (go_at_call 48;refine (same_is x y w3 HE1 (((uh HA).below hB3).mem.all x (uh HXm)).2.2.1 (((uh HB).below hB3).mem.all y (uh HYm)).2.2.1).mono ?_;rintro ev w4 ⟨rfl,hb4⟩;have hB4:=hB3.trans (hb4.mono hB3.size);have hR4:=hR3.trans (hb4.mono hR3.size);have HO4:=hide ((uh HO3).later hb4);clear hb4)
        | (go_at_call 50;refine (clr_is w4 HC ((uh HA).below hB4) ((uh HB).below hB4) (uh HF1) (uh HF2)).mono ?_;rintro ev w5 ⟨rfl,hb5⟩;have hB5:=hB4.trans (hb5.mono hB4.size);have hR5:=hR4.trans (hb5.mono hR4.size);have HO5:=hide ((uh HO4).later hb5);clear hb5)
        | (go_at_call 51;refine (mark_any b 5 _ hbs).mono ?_;rintro ev w6 ⟨rfl,hb6⟩;have hB6:=hB5.trans (hb6.mono hB5.size);have hR6:=hR5.trans (hb6.mono hR5.size);have HO6:=hide ((uh HO5).later hb6);clear hb6)
        | (at_builtin;refine wpList_append_own _ rfl _ _ 34 rfl w1.heap.size 41 i0 _ 4 48 Tryz.underlying34 hi hz0 hz1 hz2 rfl (by decide) _ _ _ rfl (World.ownsRow.alloc (uh HO6) _) ⟨w6.heap.size,0,none⟩ 1 1 (ec (⟨b,5,0,⟨#[]⟩⟩:Ent)) rfl rfl (World.news_of_block (cs:=#[.string (⟨b,5,0,⟨#[]⟩⟩:Ent).path,.int .i64 (⟨b,5,0,⟨#[]⟩⟩:Ent).kind,.int .i64 (⟨b,5,0,⟨#[]⟩⟩:Ent).mode,.string (⟨b,5,0,⟨#[]⟩⟩:Ent).data]) (t:=41) (fr:=(0,0)) (heap_alloc_new _ _)) (ec_oneC _) (by unfold maxLen;(try simp only [List.length_append,List.length_cons,List.length_nil]);omega) (by (try simp only [List.length_append,List.length_cons,List.length_nil]);omega) (by have:=hR6.size;simp;omega) ?_;intro v7 w7 hown7 hgrow7 _;have HO7:=hide (ownC_snoc hown7);have hR7:=ownC_below (uh HO6) hR6 hgrow7;have hB7:=hb1.trans (hR7.mono hb1.size);clear hown7 hgrow7))
       go_roundw
       case rel=>
        have hl:(ks++[(⟨b,5,0,⟨#[]⟩⟩:Ent)]).length≤3*(k+1):=by
         have h3:=stepF_len xa xb b.data.toList
         rw [uh HS] at h3
         simp at h3 ⊢
         omega
        have R:ks++[(⟨b,5,0,⟨#[]⟩⟩:Ent)]=(((allP xa xb).take (k+1)).map (stepF xa xb)).flatten:=by rw [uh HP,←uh HK,uh HS] <;> simp
        have RO:OwnC _ w1.heap.size _ (ks++[(⟨b,5,0,⟨#[]⟩⟩:Ent)]):=uh HO7
        have RB:Below w1.heap.size w1 _:=hR7
        first
         | exact ⟨k+1,ks++[(⟨b,5,0,⟨#[]⟩⟩:Ent)],by omega,by go_num,hl,RO,RB,hide R⟩
         | ((repeat apply Exists.intro);exact ⟨⟨k+1,ks++[(⟨b,5,0,⟨#[]⟩⟩:Ent)],by omega,by go_num,hl,RO,RB,hide R⟩,rfl⟩)
       case measure=>simp [intOf];omega
  ·have HF:Hid (ks=diffF xa xb):=hide (by
    rw [uh HK,diffF,List.take_of_length_le]
    rw [←uh HT,txts_len,←uh HN];omega)
   go_wp2_with fail
   go_ret
   exact ⟨_,rfl,by rw [←uh HF];exact hown.base hb1.size,hb⟩
end Go.Proofs.YtehfpjcclknipaaGreatDoor.T
namespace Go.Proofs.YtehfpjcclknipaaGreatDoor.T
open Go.RowKit
end Go.Proofs.YtehfpjcclknipaaGreatDoor.T
namespace Go.Proofs.YtehfpjcclknipaaGreatDoor.T
open Go.RowKit Go.Maps
def LDiffIs (w:World) (xa xb:List Ent) (v er:Value):Prop:=
 (∃ (i q:Nat),(FirstBad xa i∨(FirstBad xa (-1)∧FirstBad xb i))∧v=.slice none 0 0∧er=.iface 80 (.pointer (some ⟨q,0,none⟩))∧w.cell? ⟨q,0,none⟩=some (.int .i64 2)∧w.cell? ⟨q,1,none⟩=some (.int .i64 (i:Int))) ∨
 (FirstBad xa (-1)∧FirstBad xb (-1)∧er=.nilIface∧∃ B,OwnC w B v (diffF xa xb))
theorem ldiff_any (ao bo:Option Addr) (ca cb na nb:Nat) (xa xb:List Ent) (w:World) (ha:ERow w ao xa) (hb:ERow w bo xb) (HNa:Hid (na=xa.length)) (HNb:Hid (nb=xb.length)) (hna:na≤4294967280) (hnb:nb≤4294967280) (HSa:Hid (Small xa)) (HSb:Hid (Small xb)) (hl:Laid w) :
  Calls Tryz.prog 14 #[.slice ao na ca,.slice bo nb cb] w fun ev w'=>∃ v er,ev=.returned (.tuple #[v,er])∧Hid (LDiffIs w' xa xb v er)∧Below w.heap.size w w':=by
 obtain ⟨m,hm⟩:=hl.max
 have HM:=hide hm
 have hOa:=of_tree ao ca na xa m w ha HNa hna HSa hm
 clear hl
 go_enter Tryz.func14,Tryz.ntmps14
 go_upto_region 2 with (go_at_call 23;refine hOa.mono ?_;clear hOa;rintro ev w1 ⟨v1,e1,rfl,HO1,hb1⟩)
 rcases uh HO1 with ⟨r,ns,rfl,rfl,hE,hMm,hF⟩ | ⟨i,q,rfl,rfl,c0,c1,hF⟩
 ·have HT1:Hid (Tr w1 w.heap.size r ns xa):=hide ⟨hMm,hE,tree_of hF (uh HSa)⟩
  have HF1:=hide hF
  have hOb:=of_tree bo cb nb xb m w1 (hb.below hb1) HNb hnb HSb (cell_later hb1 (uh HM))
  clear HO1 hE hMm hF ha hb hm
  go_upto_region 5 with (go_at_call 23;refine hOb.mono ?_;clear hOb;rintro ev w2 ⟨v2,e2,rfl,HO2,hb2⟩)
  have hB2:Below w.heap.size w w2:=hb1.trans (hb2.mono hb1.size)
  rcases uh HO2 with ⟨r2,ms,rfl,rfl,hE2,hMm2,hF2⟩ | ⟨i,q,rfl,rfl,c0,c1,hF2⟩
  ·have HT2:Hid (Tr w2 w1.heap.size r2 ms xb):=hide ⟨hMm2,hE2,tree_of hF2 (uh HSb)⟩
   have HF2:=hide hF2
   have hD:=diff_any m w2 ((uh HT1).below hb2) (uh HT2) (cell_later hB2 (uh HM))
   clear HO2 hE2 hMm2 hF2
   go_wp2_with (go_at_call 24;refine hD.mono ?_;clear hD;rintro ev w3 ⟨v3,rfl,hO3,hb3⟩)
   go_ret2
   exact ⟨_,_,rfl,hide (.inr ⟨uh HF1,uh HF2,rfl,_,hO3⟩),hB2.trans (hb3.mono hB2.size)⟩
  ·have HF2:=hide hF2
   clear HO2 hF2
   go_wp2_with fail
   go_ret2
   exact ⟨_,_,rfl,hide (.inl ⟨i,q,.inr ⟨uh HF1,uh HF2⟩,rfl,rfl,c0,c1⟩),hB2⟩
 ·have HF1:=hide hF
  clear HO1 hF ha hb hm
  go_wp2_with fail
  go_ret2
  exact ⟨_,_,rfl,hide (.inl ⟨i,q,.inl (uh HF1),rfl,rfl,c0,c1⟩),hb1⟩
def PDiffIs (w:World) (xa xb:List Ent) (v:Value) (e n:Int):Prop:=
 (∃ i:Nat,(FirstBad xa i∨(FirstBad xa (-1)∧FirstBad xb i))∧v=.slice none 0 0∧e=2∧n=i) ∨
 (FirstBad xa (-1)∧FirstBad xb (-1)∧e=0∧n=-1∧∃ B,OwnC w B v (diffF xa xb))
theorem pdiff_any (ao bo:Option Addr) (ca cb na nb:Nat) (xa xb:List Ent) (w:World) (ha:ERow w ao xa) (hb:ERow w bo xb) (HNa:Hid (na=xa.length)) (HNb:Hid (nb=xb.length)) (hna:na≤4294967280) (hnb:nb≤4294967280) (HSa:Hid (Small xa)) (HSb:Hid (Small xb)) (hl:Laid w) :
  Calls Tryz.prog 7 #[.slice ao na ca,.slice bo nb cb] w fun ev w'=>∃ (v:Value) (e n:Int),ev=.returned (.tuple #[v,.int .i64 e,.int .i64 n])∧Hid (PDiffIs w' xa xb v e n)∧Below w.heap.size w w':=by
 have HL:=hide hl
 have hD:=ldiff_any ao bo ca cb na nb xa xb w ha hb HNa HNb hna hnb HSa HSb hl
 clear ha hb hl
 go_enter Tryz.func7,Tryz.ntmps7
 go_upto_region 2 with (go_at_call 14;refine hD.mono ?_;clear hD;rintro ev w1 ⟨v,er,rfl,HO,hb1⟩)
 have HL1:=hide ((uh HL).below hb1)
 rcases uh HO with ⟨i,q,hF,rfl,rfl,c0,c1⟩ | ⟨hF1,hF2,rfl,B,hO⟩
 ·have HF:=hide hF
  have hT:=tell_at q 2 i w1 (uh HL1).err c0 c1
  clear HO hF c0 c1
  go_wp2_with (go_at_call 13;refine hT.mono ?_;clear hT;rintro ev w2 ⟨rfl,hb2⟩)
  refine bodyPost_ret (results_tmp3 rfl _ _ _) rfl ?_
  exact ⟨_,_,_,rfl,hide (.inl ⟨i,uh HF,rfl,rfl,rfl⟩),hb1.trans (hb2.mono hb1.size)⟩
 ·have HF1:=hide hF1
  have HF2:=hide hF2
  have HOw:=hide hO
  clear HO hF1 hF2 hO
  go_wp2_with (go_at_call 13;refine (tell_nil w1).mono ?_;rintro ev w2 ⟨rfl,hb2⟩)
  refine bodyPost_ret (results_tmp3 rfl _ _ _) rfl ?_
  exact ⟨_,_,_,rfl,hide (.inr ⟨uh HF1,uh HF2,rfl,rfl,B,(uh HOw).later hb2⟩),hb1.trans (hb2.mono hb1.size)⟩
def patF (es cs:List Ent):List Ent:=putsF (marksF es cs) cs
def PatIs (w:World) (B:Nat) (r:Nd) (es cs:List Ent) (er:Value):Prop:=
 (∃ i:Nat,ErIs w er 3 i∧FirstBadC cs i) ∨
 (FirstBadC cs (-1)∧∃ i:Nat,ErIs w er 8 i∧FirstP (mrkAt es cs) cs.length i) ∨
 (FirstBadC cs (-1)∧FirstP (mrkAt es cs) cs.length (-1)∧∃ i:Nat,ErIs w er 9 i∧FirstP (putBad (marksF es cs) cs) cs.length i) ∨
 (FirstBadC cs (-1)∧FirstP (mrkAt es cs) cs.length (-1)∧FirstP (putBad (marksF es cs) cs) cs.length (-1)∧TreeS (patF es cs)∧(patF es cs).length≤120 ∧
   ((40<(patF es cs).length∧er=.iface 22 (.int .i64 10))∨((patF es cs).length≤40∧er=.nilIface∧∃ ns,Mem w B r ns∧entsN ns=patF es cs)))
theorem okAll {cs:List Ent}(h:FirstBadC cs (-1)):(∀ c∈cs,chOk c=true)∧cs.length≤80:=by
 rcases h with ⟨_,h⟩ | ⟨i,hi,_⟩
 ·refine ⟨fun c hc=>?_,allCh_lt h⟩
  obtain ⟨k,hk,rfl⟩:=List.getElem_of_mem hc
  exact (okCh_parts (List.getElem?_eq_getElem hk) (h k hk)).1
 ·omega
theorem puts_small:∀ (cs:List Ent) {t:List Ent},Small t→Small cs→Small (putsF t cs)
 | [],_,h,_=>h
 | c :: cs,t,h,hc=>puts_small cs (t:=put1 t c) (by
    unfold put1
    split
    ·exact h
    ·intro e he
     rcases put_mem.1 he with e1 | ⟨e1,_⟩
     ·rw [e1];exact hc c (by simp)
     ·exact h e e1) (fun e he=>hc e (by simp [he]))
theorem marks_small:∀ (cs:List Ent) {t:List Ent},Small t→Small (marksF t cs)
 | [],_,h=>h
 | c :: cs,t,h=>marks_small cs (t:=mark1 t c) (fun e he=>h e (by
    unfold mark1 at he
    split at he
    ·exact (List.mem_filter.1 he).1
    ·split at he
     ·exact (List.mem_filter.1 he).1
     ·exact he))
set_option maxHeartbeats 2000000 in
set_option maxRecDepth 100000 in
theorem patch_any (r:Nd) (ns:List Nd) (B:Nat) (es:List Ent) (ao:Option Addr) (cap n:Nat) (cs:List Ent) (m:Int) (w:World) (hM:Mem w B r ns) (HE:Hid (entsN ns=es)) (HT:Hid (Tree es)) (hr:∀ W,Below B w W→ERow W ao cs) (HN:Hid (n=cs.length)) (hn:n≤4294967280) (hcap:n≤cap) (HS:Hid (Small cs)) (hB:B≤w.heap.size) (hm:∀ W,Below B w W→W.cell? ⟨14,0,none⟩=some (.int .i64 m)) :
  Calls Tryz.prog 25 #[.pointer (some ⟨r.nb,0,none⟩),.slice ao n cap] w fun ev w'=>∃ er,ev=.returned er∧Hid (PatIs w' B r es cs er)∧Below B w w':=by
 have HM:=hide hm
 have HMem:=hide hM
 have HR:=hide hr
 have HB:=hide hB
 have HTS:Hid (TreeS es):=hide (treeS_of (uh HT).ok)
 clear hm hM hr hB
 go_enter Tryz.func25,Tryz.ntmps25
 go_upto_region 2 with (go_at_call 53;refine (check_any ao cap n cs m w (uh HR _ (Below.refl _ _)) HN hn hcap HS (uh HM _ (Below.refl _ _))).mono ?_;rintro ev w1 ⟨er1,rfl,HC1,hb1⟩)
 have hB1:=hb1.mono (uh HB)
 rcases uh HC1 with ⟨rfl,hf1⟩ | ⟨i,⟨b,rfl,hc,hi⟩,hf1⟩
 ·have HF1:=hide hf1
  clear hf1 HC1
  have HM1:=hide ((uh HMem).below hb1)
  go_upto_region 5 with (go_at_call 54;refine (checkMarks_any r ns B es ao cap n cs m w1 (uh HM1) HE HTS (uh HR _ hB1) HN hn HS (uh HM _ hB1)).mono ?_;rintro ev w2 ⟨er2,rfl,HC2,hb2⟩)
  have hB2:=hB1.trans (hb2.mono (Nat.le_trans (uh HB) hb1.size))
  rcases uh HC2 with ⟨rfl,hf2⟩ | ⟨i,⟨b,rfl,hc,hi⟩,hf2⟩
  ·have HF2:=hide hf2
   clear hf2 HC2
   have HM2:=hide ((uh HM1).below hb2)
   have hz2:B≤w2.heap.size:=Nat.le_trans (uh HB) hB2.size
   have HCk:Hid (∀ c∈cs,chOk c=true):=hide (okAll (uh HF1)).1
   have hn80:n≤80:=by rw [uh HN];exact (okAll (uh HF1)).2
   go_upto_region 8 with (go_at_call 55;refine (doMarks_any r ns B es ao cap n cs m w2 (uh HM2) HE HTS (fun W h=>uh HR W (hB2.trans h)) HN hn HS HCk hz2 (fun W h=>uh HM W (hB2.trans h))).mono ?_;rintro ev w3 ⟨rfl,HC3,hb3⟩)
   have hB3:=hB2.trans hb3
   obtain ⟨ns3,hm3,he3⟩:=uh HC3
   have HM3:=hide hm3
   have HE3:=hide he3
   have hz3:B≤w3.heap.size:=Nat.le_trans (uh HB) hB3.size
   have HT3:Hid (TreeS (marksF es cs)):=hide (marks_tree cs (uh HTS))
   have hl3:(marksF es cs).length≤40:=Nat.le_trans (marks_len cs es) (uh HT).len
   clear hm3 he3 HC3
   go_upto_region 9 with (go_at_call 56;refine (putEntries_any r ns3 B (marksF es cs) ao cap n cs m w3 (uh HM3) HE3 HT3 hl3 (fun W h=>uh HR W (hB3.trans h)) HN hn80 HS HCk hz3 (fun W h=>uh HM W (hB3.trans h))).mono ?_;rintro ev w4 ⟨er4,rfl,HC4,HG4,hb4⟩)
   have hB4:=hB3.trans hb4
   rcases uh HC4 with ⟨rfl,hf4⟩ | ⟨i,⟨b,rfl,hc,hi⟩,hf4⟩
   ·have HF4:=hide hf4
    obtain ⟨ns4,hm4,he4,ht4,hl4⟩:=uh HG4 (by simp)
    have HM4:=hide hm4
    have HE4:Hid (entsN ns4=patF es cs):=hide he4
    have HT4:Hid (TreeS (patF es cs)):=hide ht4
    have HG:Hid (TreeG (patF es cs)):=hide ⟨ht4.ok,hl4,puts_small cs (marks_small cs (uh HT).small) (uh HS)⟩
    have hl5:ns4.length=(patF es cs).length:=by rw [←uh HE4];simp [entsN]
    have hl6:(patF es cs).length≤120:=hl4
    clear hf4 HC4 HG4 hm4 he4 ht4 hl4
    have hBl:=below_any w4 (uh HM4) HE4 HG
    rw [hl5] at hBl
    obtain ⟨q,hq⟩:∃ q,q=(patF es cs).length:=⟨_,rfl⟩
    rw [←hq] at hBl hl6
    have HQ:=hide hq
    clear hq hl5
    by_cases h40:q≤40
    ·have i40:(q:Int)≤40:=by omega
     go_wp2_with (go_at_call 57;refine hBl.mono ?_;clear hBl;rintro ev w5 ⟨rfl,hb5⟩)
     go_ret
     refine ⟨_,rfl,hide (.inr (.inr (.inr ⟨uh HF1,uh HF2,uh HF4,uh HT4,(by rw [←uh HQ];exact hl6),.inr ⟨(by rw [←uh HQ];exact h40),rfl,ns4,(uh HM4).below hb5,uh HE4⟩⟩))),hB4.trans (hb5.mono (Nat.le_trans (uh HB) hB4.size))⟩
    ·have i40:¬ (q:Int)≤40:=by omega
     have i41:(40:Int)<(q:Int):=by omega
     go_wp2_with (go_at_call 57;refine hBl.mono ?_;clear hBl;rintro ev w5 ⟨rfl,hb5⟩)
     go_ret
     refine ⟨_,rfl,hide (.inr (.inr (.inr ⟨uh HF1,uh HF2,uh HF4,uh HT4,(by rw [←uh HQ];exact hl6),.inl ⟨(by rw [←uh HQ];omega),rfl⟩⟩))),hB4.trans (hb5.mono (Nat.le_trans (uh HB) hB4.size))⟩
   ·have HX:Hid (PatIs w4 B r es cs (.iface 80 (.pointer (some ⟨b,0,none⟩)))):=hide (.inr (.inr (.inl ⟨uh HF1,uh HF2,i,⟨b,rfl,hc,hi⟩,hf4⟩)))
    clear hf4 HC4 HG4 hc hi
    go_wp2_with fail
    go_ret
    exact ⟨_,rfl,HX,hB4⟩
  ·have HX:Hid (PatIs w2 B r es cs (.iface 80 (.pointer (some ⟨b,0,none⟩)))):=hide (.inr (.inl ⟨uh HF1,i,⟨b,rfl,hc,hi⟩,hf2⟩))
   clear hf2 HC2 hc hi
   go_wp2_with fail
   go_ret
   exact ⟨_,rfl,HX,hB2⟩
 ·have HX:Hid (PatIs w1 B r es cs (.iface 80 (.pointer (some ⟨b,0,none⟩)))):=hide (.inl ⟨i,⟨b,rfl,hc,hi⟩,hf1⟩)
  clear hf1 HC1 hc hi
  go_wp2_with fail
  go_ret
  exact ⟨_,rfl,HX,hB1⟩
end Go.Proofs.YtehfpjcclknipaaGreatDoor.T
