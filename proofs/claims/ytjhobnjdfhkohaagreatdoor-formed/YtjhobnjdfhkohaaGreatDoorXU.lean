import Derived.Test.YtjhobnjdfhkohaaGreatDoorXT
set_option linter.all false
set_option maxHeartbeats 1600000
set_option maxRecDepth 100000
namespace Go.Proofs.YtjhobnjdfhkohaaGreatDoor.R
open Go.Proofs.Tryz
open Go.Proofs.YtjhobnjdfhkohaaGreatDoor.T
open Go.RowKit
theorem paths_slash(s t:BA)(m:Int)(w:World)(hs:s.size<=1073741824)(ht:t.size<=1073741824)(hm:w.cell? ⟨1,0,none⟩=some (.int .i64 m))(h:isP s.data.toList=true)(hsl:t.data.toList.head?=some 47): Cl 199 #[.string s,.string t] w λe w'=>e=.returned (.tuple #[.string (bs ((resP s.data.toList t.data.toList).getD [])),errV (resP s.data.toList t.data.toList)])/\Bw w w':=by
 obtain⟨i0,hi,hz0,hz1,hz2⟩:=info_parts Tryz.info9;have HX0:Hid (resP s.data.toList t.data.toList=fin (run (pu s.data.toList t.data.toList) (eJ t.data.toList))):=ab (by simp[resP,h]);have HW:Hid (wt (pu s.data.toList t.data.toList)+wt (eJ t.data.toList)<=2147483652):=ab (by have h1:=zU s.data.toList t.data.toList;rw[vg,<-zE];rw[<-zE]at h1;omega);have HL:Hid (pu s.data.toList t.data.toList=txts []):=ab (by simp[pu,hsl,txts]);have hpre:Lib.hasPrefix t.data.toList [47]=true:=by rw[GA];simp[hsl]
 clear hsl;go_enter func199,ntmps199;go_wp2_with (first|(go_at_call 95;refine(is_any _ m _ hm).mono ?_;rintro e w1⟨rfl,hb1⟩;have hm1:=(hb1.cell (p:=⟨1,0,none⟩) (World.block_lt_of_cell? _ _ hm)).trans hm)|(go_at_call 80;refine(hasPrefix_any _ _ _).mono ?_;rintro e w'⟨rfl,rfl⟩)|(go_at_call 126;refine(split_any _ m _ (by omega) hm1).mono ?_;rintro e w2⟨gs,caps,aps,rfl,hown2',ht2,hb2',_⟩;have HT2:=ab ht2;clear ht2))
 obtain⟨lps,hlps⟩:∃lps:List BA,lps=[]:=⟨[],rfl⟩
 have hb2:=hb1.trans (hb2'.mono hb1.size);have hown2:=qZ hown2' hb1.size;have hownl:Own w2 w.heap.size (.slice none 0 0) lps:=by rw[hlps];exact World.ownsRow_nil _ _ _ _
 have hnel:(Value.slice none 0 0).ownBlock≠some gs:=by simp[Value.ownBlock]
 rw[<-hlps]at HL;clear hown2' hb2' hb1 hm1 hlps;have HX:Hid (resP s.data.toList t.data.toList=fin (run (pu s.data.toList t.data.toList) (txts aps))):=ab (by rw[uh HX0,uh HT2]);have hwt:Hid (wt (pu s.data.toList t.data.toList)+wt (txts aps)<=4294967280):=ab (by rw[uh HT2];have:=uh HW;omega);have hal:aps.length<=4294967280:=by have:=pa (txts aps);rw[txts_len]at this;have:=uh hwt;omega
 clear HX0 HW HT2;go_loopw [6,22] (λv i wr=>∃(k:Nat) (outs:List BA),k<=aps.length/\i=.int .i64 k/\Own wr w.heap.size v outs/\Hid (v.ownBlock≠some gs)/\Own wr w.heap.size (.slice (some ⟨gs,0,none⟩) aps.length caps) aps/\Bw w wr/\Hid (jc (txts aps) (pu s.data.toList t.data.toList) (txts outs) k)) (λ_ i _=>aps.length-(intOf i).toNat);case atStart=>exact⟨0,lps,Nat.zero_le _,rfl,hownl,ab hnel,hown2,hb2,ab (by rw[uh HL];exact Aw _ _)⟩
 case round=>
  obtain⟨k,outs,hk,rfl,hown,HNE,hspl,hb,HG⟩:=hrel;obtain⟨ao,cap,rfl⟩:=oE hown;have hne:=uh HNE;have hol:outs.length<=4294967280:=by have h1:=pa (txts outs);rw[txts_len]at h1;have:=jx (uh HG);have:=uh hwt;omega
  have hsz:=hb.size;by_cases hlt:k<aps.length
  .obtain⟨b,hbk⟩:∃b,aps[k]?=some b:=⟨aps[k],gG hlt⟩
   have hcell:=own_cell hspl hbk;have HB:=ab (txts_get hbk);clear hbk;rcases ow b with⟨c0,c1,c2,c3⟩|⟨c0,c1,c2,c3⟩|⟨c0,c1,c2,c3⟩|⟨c0,c1,c2,c3⟩
   .have G:=ab (fy (uh HG) (uh HB) (.inl c0));clear c0 hne;go_wp2;go_roundw;case rel=>exact⟨k+1,outs,by omega,by go_num,hown,HNE,hspl,hb,G⟩
    case measure=>simp[intOf];omega
   .have G:=ab (fy (uh HG) (uh HB) (.inr c0));clear c0 hne;go_wp2;go_roundw;case rel=>exact⟨k+1,outs,by omega,by go_num,hown,HNE,hspl,hb,G⟩
    case measure=>simp[intOf];omega
   .have hel:gN b.data.toList=false:=by rw[c0];decide
    rw[c0]at HB;clear c0 hne;by_cases ho:outs=[]
    .subst ho;have G:=ab (om (uh HG) (uh HB));go_wp2_with (go_at_call 124;refine(isEl_any _ _).mono ?_;rintro e w'⟨rfl,hw⟩;obtain rfl:=hw.symm)
     go_ret2;exact⟨dR (by rw[uh HX,uh G];rfl) (by rw[uh HX,uh G];rfl),hb⟩
    have G:=ab (qM (uh HG) (uh HB) (uq ho));obtain⟨n,hn⟩:∃n,outs.length=n+1:=⟨outs.length-1,by have:=List.length_pos_iff.2 ho;omega⟩
    have hz:(0:Int)<outs.length:=by omega
    obtain⟨g,cap',hv⟩:=own_form hown ho;cases hv;have hp:=wa hown hn;have hcp:(1:Int)<=outs.length/\(outs.length:Int)-1<=cap:=by have:=qe hown;omega
    have HP:Hid (Own wr w.heap.size (.slice (some ⟨g,0,none⟩) (outs.length-1) cap) outs.dropLast):=ab (by rw[hn];exact hp);clear hn hp;go_wp2;go_roundw;case rel=>exact⟨k+1,outs.dropLast,by omega,by go_num,uh HP,ab (uh HNE),hspl,hb,ab (by rw[jh];exact uh G)⟩
    case measure=>simp[intOf];omega
   cases hok:gN b.data.toList
   .have G:=ab (oT (uh HG) (uh HB) c0.1 c0.2.1 c0.2.2 hok);clear c0 hne;go_wp2_with (go_at_call 124;refine(isEl_any _ _).mono ?_;rintro e w'⟨rfl,hw⟩;obtain rfl:=hw.symm)
    go_ret2;exact⟨dR (by rw[uh HX,uh G];rfl) (by rw[uh HX,uh G];rfl),hb⟩
   have G:=ab (qB (uh HG) (uh HB) hok);clear c0;go_wp2_with (first|(go_at_call 124;refine(isEl_any _ _).mono ?_;rintro e w'⟨rfl,hw⟩;obtain rfl:=hw.symm)|(at_builtin;refine ef _ rfl _ _ 26 rfl w.heap.size 9 i0 (.string ByteArray.empty) 1 16 underlying26 hi hz0 hz1 hz2 rfl (by decide) _ _ _ rfl (World.ownsRow.alloc hown _) ⟨wr.heap.size,0,none⟩ 1 1 [.string b] rfl rfl (cell_one_new _ _ _) (λx hx=>by simp at hx;subst hx;rfl) (by decide) (by unfold maxLen;omega) (by omega) (by simp;omega) ?_;intro v' w3 hown' hgrow hap;have hb3:Bw w w3:=(hb.alloc hsz _).grown hgrow (by simp;omega) (λq hq=>(hown.lt q hq).1);have hs3:=mR hspl hgrow hne;have hn3:=fh hap hne (ph hspl);have HO:=ab hown';have HS3:=ab hs3;have HN3:=ab hn3;clear hgrow hown' hap hs3 hn3))
   go_roundw;case rel=>exact⟨k+1,outs++[b],by omega,by go_num,mn (uh HO) (by simp) (by simp),HN3,uh HS3,hb3,ab (by rw[oW];exact uh G)⟩
   case measure=>simp[intOf];omega
  have G:=ab (oL (uh HG) (by rw[txts_len];omega));have hjl:Hid ((Lib.join (txts outs) [47]).length<=4294967280):=ab (by have h1:=vj (txts outs);have:=jx (uh HG);have:=uh hwt;omega);have HF:Hid (resP s.data.toList t.data.toList=if isP (Lib.join (txts outs) [47])=true then some (Lib.join (txts outs) [47]) else none):=ab (by rw[uh HX,uh G];rfl);have HJ:=ab (ii ao cap _ outs wr hown hol (by have:=uh hjl;omega));have hmr:=(hb.cell (p:=⟨1,0,none⟩) (World.block_lt_of_cell? _ _ hm)).trans hm;clear hne hm;generalize hJ:Lib.join (txts outs) [47]=J at *;have hJs:(bs J).size<=4294967280:=by have:=uh hjl;rw[zE,data_bs];omega
  clear hJ;cases hp:isP (bs J).data.toList
  .have HY:Hid (resP s.data.toList t.data.toList=none):=ab (by rw[uh HF,if_neg];rw[data_bs]at hp;simp[hp]);go_wp2_with (first|(go_at_call 65;refine(uh HJ).mono ?_;rintro e w4⟨rfl,hb4⟩;have hm4:=(hb4.cell (p:=⟨1,0,none⟩) (World.block_lt_of_cell? _ _ hmr)).trans hmr)|(go_at_call 95;refine(is_any _ m _ hm4).mono ?_;rintro e w5⟨rfl,hb5⟩))
   go_ret2;exact⟨dR (by rw[uh HY];rfl) (by rw[uh HY];rfl),(hb.trans (hb4.mono hb.size)).trans (hb5.mono (nT hb.size hb4.size))⟩
  have HY:Hid (resP s.data.toList t.data.toList=some J):=ab (by rw[uh HF,if_pos];rw[data_bs]at hp;simp[hp]);go_wp2_with (first|(go_at_call 65;refine(uh HJ).mono ?_;rintro e w4⟨rfl,hb4⟩;have hm4:=(hb4.cell (p:=⟨1,0,none⟩) (World.block_lt_of_cell? _ _ hmr)).trans hmr)|(go_at_call 95;refine(is_any _ m _ hm4).mono ?_;rintro e w5⟨rfl,hb5⟩)|(go_at_call 108;refine(fF _ _ (by omega)).mono ?_;rintro e w6⟨rfl,hb6⟩))
  go_ret2;exact⟨dR (by rw[uh HY];rfl) (by rw[uh HY];rfl),((hb.trans (hb4.mono hb.size)).trans (hb5.mono (nT hb.size hb4.size))).trans (hb6.mono (nT hb.size (nT hb4.size hb5.size)))⟩
theorem paths_nil(s t:BA)(m:Int)(w:World)(hs:s.size<=1073741824)(ht:t.size<=1073741824)(hm:w.cell? ⟨1,0,none⟩=some (.int .i64 m))(h:isP s.data.toList=true)(hsl:t.data.toList.head?≠some 47)(hE:s.data.toList=[]): Cl 199 #[.string s,.string t] w λe w'=>e=.returned (.tuple #[.string (bs ((resP s.data.toList t.data.toList).getD [])),errV (resP s.data.toList t.data.toList)])/\Bw w w':=by
 obtain⟨i0,hi,hz0,hz1,hz2⟩:=info_parts Tryz.info9;have HX0:Hid (resP s.data.toList t.data.toList=fin (run (pu s.data.toList t.data.toList) (eJ t.data.toList))):=ab (by simp[resP,h]);have HW:Hid (wt (pu s.data.toList t.data.toList)+wt (eJ t.data.toList)<=2147483652):=ab (by have h1:=zU s.data.toList t.data.toList;rw[vg,<-zE];rw[<-zE]at h1;omega);have HL:Hid (pu s.data.toList t.data.toList=txts []):=ab (by simp[pu,hsl,hE,prt_nil,txts]);have hpre:Lib.hasPrefix t.data.toList [47]=false:=by rw[GA];simp[hsl]
 have HE:=ab hE;clear hsl hE;go_enter func199,ntmps199;go_wp2_with (first|(go_at_call 95;refine(is_any _ m _ hm).mono ?_;rintro e w1⟨rfl,hb1⟩;have hm1:=(hb1.cell (p:=⟨1,0,none⟩) (World.block_lt_of_cell? _ _ hm)).trans hm)|(go_at_call 80;refine(hasPrefix_any _ _ _).mono ?_;rintro e w'⟨rfl,rfl⟩)|(go_at_call 99;refine(elems_nil _ _ (uh HE)).mono ?_;rintro e w'⟨rfl,rfl⟩)|(go_at_call 126;refine(split_any _ m _ (by omega) hm1).mono ?_;rintro e w2⟨gs,caps,aps,rfl,hown2',ht2,hb2',_⟩;have HT2:=ab ht2;clear ht2))
 obtain⟨lps,hlps⟩:∃lps:List BA,lps=[]:=⟨[],rfl⟩
 have hb2:=hb1.trans (hb2'.mono hb1.size);have hown2:=qZ hown2' hb1.size;have hownl:Own w2 w.heap.size (.slice none 0 0) lps:=by rw[hlps];exact World.ownsRow_nil _ _ _ _
 have hnel:(Value.slice none 0 0).ownBlock≠some gs:=by simp[Value.ownBlock]
 rw[<-hlps]at HL;clear hown2' hb2' hb1 hm1 hlps;have HX:Hid (resP s.data.toList t.data.toList=fin (run (pu s.data.toList t.data.toList) (txts aps))):=ab (by rw[uh HX0,uh HT2]);have hwt:Hid (wt (pu s.data.toList t.data.toList)+wt (txts aps)<=4294967280):=ab (by rw[uh HT2];have:=uh HW;omega);have hal:aps.length<=4294967280:=by have:=pa (txts aps);rw[txts_len]at this;have:=uh hwt;omega
 clear HX0 HW HT2;go_loopw [6,22] (λv i wr=>∃(k:Nat) (outs:List BA),k<=aps.length/\i=.int .i64 k/\Own wr w.heap.size v outs/\Hid (v.ownBlock≠some gs)/\Own wr w.heap.size (.slice (some ⟨gs,0,none⟩) aps.length caps) aps/\Bw w wr/\Hid (jc (txts aps) (pu s.data.toList t.data.toList) (txts outs) k)) (λ_ i _=>aps.length-(intOf i).toNat);case atStart=>exact⟨0,lps,Nat.zero_le _,rfl,hownl,ab hnel,hown2,hb2,ab (by rw[uh HL];exact Aw _ _)⟩
 case round=>
  obtain⟨k,outs,hk,rfl,hown,HNE,hspl,hb,HG⟩:=hrel;obtain⟨ao,cap,rfl⟩:=oE hown;have hne:=uh HNE;have hol:outs.length<=4294967280:=by have h1:=pa (txts outs);rw[txts_len]at h1;have:=jx (uh HG);have:=uh hwt;omega
  have hsz:=hb.size;by_cases hlt:k<aps.length
  .obtain⟨b,hbk⟩:∃b,aps[k]?=some b:=⟨aps[k],gG hlt⟩
   have hcell:=own_cell hspl hbk;have HB:=ab (txts_get hbk);clear hbk;rcases ow b with⟨c0,c1,c2,c3⟩|⟨c0,c1,c2,c3⟩|⟨c0,c1,c2,c3⟩|⟨c0,c1,c2,c3⟩
   .have G:=ab (fy (uh HG) (uh HB) (.inl c0));clear c0 hne;go_wp2;go_roundw;case rel=>exact⟨k+1,outs,by omega,by go_num,hown,HNE,hspl,hb,G⟩
    case measure=>simp[intOf];omega
   .have G:=ab (fy (uh HG) (uh HB) (.inr c0));clear c0 hne;go_wp2;go_roundw;case rel=>exact⟨k+1,outs,by omega,by go_num,hown,HNE,hspl,hb,G⟩
    case measure=>simp[intOf];omega
   .have hel:gN b.data.toList=false:=by rw[c0];decide
    rw[c0]at HB;clear c0 hne;by_cases ho:outs=[]
    .subst ho;have G:=ab (om (uh HG) (uh HB));go_wp2_with (go_at_call 124;refine(isEl_any _ _).mono ?_;rintro e w'⟨rfl,hw⟩;obtain rfl:=hw.symm)
     go_ret2;exact⟨dR (by rw[uh HX,uh G];rfl) (by rw[uh HX,uh G];rfl),hb⟩
    have G:=ab (qM (uh HG) (uh HB) (uq ho));obtain⟨n,hn⟩:∃n,outs.length=n+1:=⟨outs.length-1,by have:=List.length_pos_iff.2 ho;omega⟩
    have hz:(0:Int)<outs.length:=by omega
    obtain⟨g,cap',hv⟩:=own_form hown ho;cases hv;have hp:=wa hown hn;have hcp:(1:Int)<=outs.length/\(outs.length:Int)-1<=cap:=by have:=qe hown;omega
    have HP:Hid (Own wr w.heap.size (.slice (some ⟨g,0,none⟩) (outs.length-1) cap) outs.dropLast):=ab (by rw[hn];exact hp);clear hn hp;go_wp2;go_roundw;case rel=>exact⟨k+1,outs.dropLast,by omega,by go_num,uh HP,ab (uh HNE),hspl,hb,ab (by rw[jh];exact uh G)⟩
    case measure=>simp[intOf];omega
   cases hok:gN b.data.toList
   .have G:=ab (oT (uh HG) (uh HB) c0.1 c0.2.1 c0.2.2 hok);clear c0 hne;go_wp2_with (go_at_call 124;refine(isEl_any _ _).mono ?_;rintro e w'⟨rfl,hw⟩;obtain rfl:=hw.symm)
    go_ret2;exact⟨dR (by rw[uh HX,uh G];rfl) (by rw[uh HX,uh G];rfl),hb⟩
   have G:=ab (qB (uh HG) (uh HB) hok);clear c0;go_wp2_with (first|(go_at_call 124;refine(isEl_any _ _).mono ?_;rintro e w'⟨rfl,hw⟩;obtain rfl:=hw.symm)|(at_builtin;refine ef _ rfl _ _ 26 rfl w.heap.size 9 i0 (.string ByteArray.empty) 1 16 underlying26 hi hz0 hz1 hz2 rfl (by decide) _ _ _ rfl (World.ownsRow.alloc hown _) ⟨wr.heap.size,0,none⟩ 1 1 [.string b] rfl rfl (cell_one_new _ _ _) (λx hx=>by simp at hx;subst hx;rfl) (by decide) (by unfold maxLen;omega) (by omega) (by simp;omega) ?_;intro v' w3 hown' hgrow hap;have hb3:Bw w w3:=(hb.alloc hsz _).grown hgrow (by simp;omega) (λq hq=>(hown.lt q hq).1);have hs3:=mR hspl hgrow hne;have hn3:=fh hap hne (ph hspl);have HO:=ab hown';have HS3:=ab hs3;have HN3:=ab hn3;clear hgrow hown' hap hs3 hn3))
   go_roundw;case rel=>exact⟨k+1,outs++[b],by omega,by go_num,mn (uh HO) (by simp) (by simp),HN3,uh HS3,hb3,ab (by rw[oW];exact uh G)⟩
   case measure=>simp[intOf];omega
  have G:=ab (oL (uh HG) (by rw[txts_len];omega));have hjl:Hid ((Lib.join (txts outs) [47]).length<=4294967280):=ab (by have h1:=vj (txts outs);have:=jx (uh HG);have:=uh hwt;omega);have HF:Hid (resP s.data.toList t.data.toList=if isP (Lib.join (txts outs) [47])=true then some (Lib.join (txts outs) [47]) else none):=ab (by rw[uh HX,uh G];rfl);have HJ:=ab (ii ao cap _ outs wr hown hol (by have:=uh hjl;omega));have hmr:=(hb.cell (p:=⟨1,0,none⟩) (World.block_lt_of_cell? _ _ hm)).trans hm;clear hne hm;generalize hJ:Lib.join (txts outs) [47]=J at *;have hJs:(bs J).size<=4294967280:=by have:=uh hjl;rw[zE,data_bs];omega
  clear hJ;cases hp:isP (bs J).data.toList
  .have HY:Hid (resP s.data.toList t.data.toList=none):=ab (by rw[uh HF,if_neg];rw[data_bs]at hp;simp[hp]);go_wp2_with (first|(go_at_call 65;refine(uh HJ).mono ?_;rintro e w4⟨rfl,hb4⟩;have hm4:=(hb4.cell (p:=⟨1,0,none⟩) (World.block_lt_of_cell? _ _ hmr)).trans hmr)|(go_at_call 95;refine(is_any _ m _ hm4).mono ?_;rintro e w5⟨rfl,hb5⟩))
   go_ret2;exact⟨dR (by rw[uh HY];rfl) (by rw[uh HY];rfl),(hb.trans (hb4.mono hb.size)).trans (hb5.mono (nT hb.size hb4.size))⟩
  have HY:Hid (resP s.data.toList t.data.toList=some J):=ab (by rw[uh HF,if_pos];rw[data_bs]at hp;simp[hp]);go_wp2_with (first|(go_at_call 65;refine(uh HJ).mono ?_;rintro e w4⟨rfl,hb4⟩;have hm4:=(hb4.cell (p:=⟨1,0,none⟩) (World.block_lt_of_cell? _ _ hmr)).trans hmr)|(go_at_call 95;refine(is_any _ m _ hm4).mono ?_;rintro e w5⟨rfl,hb5⟩)|(go_at_call 108;refine(fF _ _ (by omega)).mono ?_;rintro e w6⟨rfl,hb6⟩))
  go_ret2;exact⟨dR (by rw[uh HY];rfl) (by rw[uh HY];rfl),((hb.trans (hb4.mono hb.size)).trans (hb5.mono (nT hb.size hb4.size))).trans (hb6.mono (nT hb.size (nT hb4.size hb5.size)))⟩
theorem paths_row(s t:BA)(m:Int)(w:World)(hs:s.size<=1073741824)(ht:t.size<=1073741824)(hm:w.cell? ⟨1,0,none⟩=some (.int .i64 m))(h:isP s.data.toList=true)(hsl:t.data.toList.head?≠some 47)(hE:s.data.toList≠[]): Cl 199 #[.string s,.string t] w λe w'=>e=.returned (.tuple #[.string (bs ((resP s.data.toList t.data.toList).getD [])),errV (resP s.data.toList t.data.toList)])/\Bw w w':=by
 obtain⟨i0,hi,hz0,hz1,hz2⟩:=info_parts Tryz.info9;have HX0:Hid (resP s.data.toList t.data.toList=fin (run (pu s.data.toList t.data.toList) (eJ t.data.toList))):=ab (by simp[resP,h]);have HW:Hid (wt (pu s.data.toList t.data.toList)+wt (eJ t.data.toList)<=2147483652):=ab (by have h1:=zU s.data.toList t.data.toList;rw[vg,<-zE];rw[<-zE]at h1;omega);have HL0:Hid (pu s.data.toList t.data.toList=eJ s.data.toList):=ab (by simp[pu,hsl,prt_ne hE]);have hpre:Lib.hasPrefix t.data.toList [47]=false:=by rw[GA];simp[hsl]
 have HE:=ab hE;clear hsl hE;go_enter func199,ntmps199;go_wp2_with (first|(go_at_call 95;refine(is_any _ m _ hm).mono ?_;rintro e w1⟨rfl,hb1⟩;have hm1:=(hb1.cell (p:=⟨1,0,none⟩) (World.block_lt_of_cell? _ _ hm)).trans hm)|(go_at_call 80;refine(hasPrefix_any _ _ _).mono ?_;rintro e w'⟨rfl,rfl⟩)|(go_at_call 99;refine(elems_some _ m _ (by omega) hm1 (uh HE)).mono ?_;rintro e w3⟨gl,capl,lps,rfl,hownl0,htl,hb3,_⟩;have HTL:=ab htl;clear htl;have hm3:=(hb3.cell (p:=⟨1,0,none⟩) (World.block_lt_of_cell? _ _ hm1)).trans hm1)|(go_at_call 126;refine(split_any _ m _ (by omega) hm3).mono ?_;rintro e w2⟨gs,caps,aps,rfl,hown2',ht2,hb2',_⟩;have HT2:=ab ht2;clear ht2))
 have HL:Hid (pu s.data.toList t.data.toList=txts lps):=ab (by rw[uh HL0,uh HTL]);have hb2:=(hb1.trans (hb3.mono hb1.size)).trans (hb2'.mono (nT hb1.size hb3.size));have hown2:=qZ hown2' (nT hb1.size hb3.size);have hownl:=CB (qZ hownl0 hb1.size) hb2' (ph hownl0);have hnel:(Value.slice (some ⟨gl,0,none⟩) lps.length capl).ownBlock≠some gs:=by have h1:=(hown2'.lt gs rfl).1;have h2:=ph hownl0;simp only[Value.ownBlock,ne_eq,Option.some.injEq];omega
 clear hown2' hownl0 hb2' hb3 hb1 hm1 hm3 HTL HL0;have HX:Hid (resP s.data.toList t.data.toList=fin (run (pu s.data.toList t.data.toList) (txts aps))):=ab (by rw[uh HX0,uh HT2]);have hwt:Hid (wt (pu s.data.toList t.data.toList)+wt (txts aps)<=4294967280):=ab (by rw[uh HT2];have:=uh HW;omega);have hal:aps.length<=4294967280:=by have:=pa (txts aps);rw[txts_len]at this;have:=uh hwt;omega
 clear HX0 HW HT2;go_loopw [6,22] (λv i wr=>∃(k:Nat) (outs:List BA),k<=aps.length/\i=.int .i64 k/\Own wr w.heap.size v outs/\Hid (v.ownBlock≠some gs)/\Own wr w.heap.size (.slice (some ⟨gs,0,none⟩) aps.length caps) aps/\Bw w wr/\Hid (jc (txts aps) (pu s.data.toList t.data.toList) (txts outs) k)) (λ_ i _=>aps.length-(intOf i).toNat);case atStart=>exact⟨0,lps,Nat.zero_le _,rfl,hownl,ab hnel,hown2,hb2,ab (by rw[uh HL];exact Aw _ _)⟩
 case round=>
  obtain⟨k,outs,hk,rfl,hown,HNE,hspl,hb,HG⟩:=hrel;obtain⟨ao,cap,rfl⟩:=oE hown;have hne:=uh HNE;have hol:outs.length<=4294967280:=by have h1:=pa (txts outs);rw[txts_len]at h1;have:=jx (uh HG);have:=uh hwt;omega
  have hsz:=hb.size;by_cases hlt:k<aps.length
  .obtain⟨b,hbk⟩:∃b,aps[k]?=some b:=⟨aps[k],gG hlt⟩
   have hcell:=own_cell hspl hbk;have HB:=ab (txts_get hbk);clear hbk;rcases ow b with⟨c0,c1,c2,c3⟩|⟨c0,c1,c2,c3⟩|⟨c0,c1,c2,c3⟩|⟨c0,c1,c2,c3⟩
   .have G:=ab (fy (uh HG) (uh HB) (.inl c0));clear c0 hne;go_wp2;go_roundw;case rel=>exact⟨k+1,outs,by omega,by go_num,hown,HNE,hspl,hb,G⟩
    case measure=>simp[intOf];omega
   .have G:=ab (fy (uh HG) (uh HB) (.inr c0));clear c0 hne;go_wp2;go_roundw;case rel=>exact⟨k+1,outs,by omega,by go_num,hown,HNE,hspl,hb,G⟩
    case measure=>simp[intOf];omega
   .have hel:gN b.data.toList=false:=by rw[c0];decide
    rw[c0]at HB;clear c0 hne;by_cases ho:outs=[]
    .subst ho;have G:=ab (om (uh HG) (uh HB));go_wp2_with (go_at_call 124;refine(isEl_any _ _).mono ?_;rintro e w'⟨rfl,hw⟩;obtain rfl:=hw.symm)
     go_ret2;exact⟨dR (by rw[uh HX,uh G];rfl) (by rw[uh HX,uh G];rfl),hb⟩
    have G:=ab (qM (uh HG) (uh HB) (uq ho));obtain⟨n,hn⟩:∃n,outs.length=n+1:=⟨outs.length-1,by have:=List.length_pos_iff.2 ho;omega⟩
    have hz:(0:Int)<outs.length:=by omega
    obtain⟨g,cap',hv⟩:=own_form hown ho;cases hv;have hp:=wa hown hn;have hcp:(1:Int)<=outs.length/\(outs.length:Int)-1<=cap:=by have:=qe hown;omega
    have HP:Hid (Own wr w.heap.size (.slice (some ⟨g,0,none⟩) (outs.length-1) cap) outs.dropLast):=ab (by rw[hn];exact hp);clear hn hp;go_wp2;go_roundw;case rel=>exact⟨k+1,outs.dropLast,by omega,by go_num,uh HP,ab (uh HNE),hspl,hb,ab (by rw[jh];exact uh G)⟩
    case measure=>simp[intOf];omega
   cases hok:gN b.data.toList
   .have G:=ab (oT (uh HG) (uh HB) c0.1 c0.2.1 c0.2.2 hok);clear c0 hne;go_wp2_with (go_at_call 124;refine(isEl_any _ _).mono ?_;rintro e w'⟨rfl,hw⟩;obtain rfl:=hw.symm)
    go_ret2;exact⟨dR (by rw[uh HX,uh G];rfl) (by rw[uh HX,uh G];rfl),hb⟩
   have G:=ab (qB (uh HG) (uh HB) hok);clear c0;go_wp2_with (first|(go_at_call 124;refine(isEl_any _ _).mono ?_;rintro e w'⟨rfl,hw⟩;obtain rfl:=hw.symm)|(at_builtin;refine ef _ rfl _ _ 26 rfl w.heap.size 9 i0 (.string ByteArray.empty) 1 16 underlying26 hi hz0 hz1 hz2 rfl (by decide) _ _ _ rfl (World.ownsRow.alloc hown _) ⟨wr.heap.size,0,none⟩ 1 1 [.string b] rfl rfl (cell_one_new _ _ _) (λx hx=>by simp at hx;subst hx;rfl) (by decide) (by unfold maxLen;omega) (by omega) (by simp;omega) ?_;intro v' w3 hown' hgrow hap;have hb3:Bw w w3:=(hb.alloc hsz _).grown hgrow (by simp;omega) (λq hq=>(hown.lt q hq).1);have hs3:=mR hspl hgrow hne;have hn3:=fh hap hne (ph hspl);have HO:=ab hown';have HS3:=ab hs3;have HN3:=ab hn3;clear hgrow hown' hap hs3 hn3))
   go_roundw;case rel=>exact⟨k+1,outs++[b],by omega,by go_num,mn (uh HO) (by simp) (by simp),HN3,uh HS3,hb3,ab (by rw[oW];exact uh G)⟩
   case measure=>simp[intOf];omega
  have G:=ab (oL (uh HG) (by rw[txts_len];omega));have hjl:Hid ((Lib.join (txts outs) [47]).length<=4294967280):=ab (by have h1:=vj (txts outs);have:=jx (uh HG);have:=uh hwt;omega);have HF:Hid (resP s.data.toList t.data.toList=if isP (Lib.join (txts outs) [47])=true then some (Lib.join (txts outs) [47]) else none):=ab (by rw[uh HX,uh G];rfl);have HJ:=ab (ii ao cap _ outs wr hown hol (by have:=uh hjl;omega));have hmr:=(hb.cell (p:=⟨1,0,none⟩) (World.block_lt_of_cell? _ _ hm)).trans hm;clear hne hm;generalize hJ:Lib.join (txts outs) [47]=J at *;have hJs:(bs J).size<=4294967280:=by have:=uh hjl;rw[zE,data_bs];omega
  clear hJ;cases hp:isP (bs J).data.toList
  .have HY:Hid (resP s.data.toList t.data.toList=none):=ab (by rw[uh HF,if_neg];rw[data_bs]at hp;simp[hp]);go_wp2_with (first|(go_at_call 65;refine(uh HJ).mono ?_;rintro e w4⟨rfl,hb4⟩;have hm4:=(hb4.cell (p:=⟨1,0,none⟩) (World.block_lt_of_cell? _ _ hmr)).trans hmr)|(go_at_call 95;refine(is_any _ m _ hm4).mono ?_;rintro e w5⟨rfl,hb5⟩))
   go_ret2;exact⟨dR (by rw[uh HY];rfl) (by rw[uh HY];rfl),(hb.trans (hb4.mono hb.size)).trans (hb5.mono (nT hb.size hb4.size))⟩
  have HY:Hid (resP s.data.toList t.data.toList=some J):=ab (by rw[uh HF,if_pos];rw[data_bs]at hp;simp[hp]);go_wp2_with (first|(go_at_call 65;refine(uh HJ).mono ?_;rintro e w4⟨rfl,hb4⟩;have hm4:=(hb4.cell (p:=⟨1,0,none⟩) (World.block_lt_of_cell? _ _ hmr)).trans hmr)|(go_at_call 95;refine(is_any _ m _ hm4).mono ?_;rintro e w5⟨rfl,hb5⟩)|(go_at_call 108;refine(fF _ _ (by omega)).mono ?_;rintro e w6⟨rfl,hb6⟩))
  go_ret2;exact⟨dR (by rw[uh HY];rfl) (by rw[uh HY];rfl),((hb.trans (hb4.mono hb.size)).trans (hb5.mono (nT hb.size hb4.size))).trans (hb6.mono (nT hb.size (nT hb4.size hb5.size)))⟩
end Go.Proofs.YtjhobnjdfhkohaaGreatDoor.R
namespace Go.Proofs.YtjhobnjdfhkohaaGreatDoor.T
open Go.Proofs.Tryz
open Go.RowKit Go.Maps
def gj(d n:LU):LU:=if d=[] then n else d++47::n
theorem gT(d n:BA)(w:World)(hd:d.size<=1073741824)(hn:n.size<=1073741824): Cl 174 #[.string d,.string n] w λe w'=>∃s:BA,e=.returned (.string s)/\s.data.toList=gj d.data.toList n.data.toList/\w'=w:=by
 by_cases h:d.data.toList=[]
 .have g1:(d.toList==[])=true:=by rw[tD,h];rfl
  have HJ:Hid (gj d.data.toList n.data.toList=n.data.toList):=ab (by rw[gj,if_pos h]);clear h;go_enter func174,ntmps174;go_wp2_with fail;go_ret;exact⟨n,rfl,(uh HJ).symm,rfl⟩
 have g1:(d.toList==[])=false:=by rw[tD];simpa using h
 have HJ:Hid (gj d.data.toList n.data.toList=d.data.toList++47::n.data.toList):=ab (by rw[gj,if_neg h]);have e1:¬9223372036854775807<d.size+1:=by omega
 have e2:¬9223372036854775807<d.size+1+n.size:=by omega
 clear h;go_enter func174,ntmps174;go_wp2_with fail;go_ret;refine⟨_,rfl,?_,rfl⟩;rw[uh HJ];simp
theorem pC(s t:BA)(m:Int)(w:World)(hs:s.size<=1073741824)(ht:t.size<=1073741824)(hm:w.cell? ⟨1,0,none⟩=some (.int .i64 m)): Cl 199 #[.string s,.string t] w λe w'=>e=.returned (.tuple #[.string (bs ((R.resP s.data.toList t.data.toList).getD [])),R.errV (R.resP s.data.toList t.data.toList)])/\Bw w w':=by
 cases h:isP s.data.toList
 .exact R.paths_bad s t m w hm h
 by_cases hsl:t.data.toList.head?=some 47
 .exact R.paths_slash s t m w hs ht hm h hsl
 by_cases hE:s.data.toList=[]
 .exact R.paths_nil s t m w hs ht hm h hsl hE
 exact R.paths_row s t m w hs ht hm h hsl hE
structure ed(w:World)(B sb:Nat)(r:Nd)(ns:List Nd)(work:BA)(ev:Value):Prop where
 cells:w.heap[sb]?=some (.cells #[.pointer (some ⟨r.nb,0,none⟩),.string work,ev,.slice none 0 0] 134 (0,0))
 mem:cw w B r ns
 tree:aO (ac ns)
 lim:21<B
 base:B<=w.heap.size
theorem ed.c0{w:World}{B sb:Nat}{r:Nd}{ns:List Nd}{work:BA}{ev:Value}(h:ed w B sb r ns work ev):w.cell? ⟨sb,0,none⟩=some (.pointer (some ⟨r.nb,0,none⟩)):=cq 0 h.cells
theorem ed.c1{w:World}{B sb:Nat}{r:Nd}{ns:List Nd}{work:BA}{ev:Value}(h:ed w B sb r ns work ev):w.cell? ⟨sb,1,none⟩=some (.string work):=cq 1 h.cells
theorem ed.lt{w:World}{B sb:Nat}{r:Nd}{ns:List Nd}{work:BA}{ev:Value}(h:ed w B sb r ns work ev):sb<w.heap.size:=(eA.1 h.cells).1
theorem ed.below{w w':World}{B sb:Nat}{r:Nd}{ns:List Nd}{work:BA}{ev:Value}(h:ed w B sb r ns work ev)(hb:Bw w w'):ed w' B sb r ns work ev:= ⟨(hb.block sb h.lt).trans h.cells,h.mem.below hb,h.tree,h.lim,nT h.base hb.size⟩
theorem ed.ok{w:World}{B sb:Nat}{r:Nd}{ns:List Nd}{work:BA}{ev:Value}(h:ed w B sb r ns work ev):cX (ac ns) ns.length:=by have:=h.tree.ok;rwa [show (ac ns).length=ns.length from by simp[ac]]at this
theorem dS(sb:Nat)(work t:BA)(m:Int)(w:World)(hc:w.cell? ⟨sb,1,none⟩=some (.string work))(hs:work.size<=1073741824)(ht:t.size<=1073741824)(hm:w.cell? ⟨1,0,none⟩=some (.int .i64 m)): Cl 180 #[.pointer (some ⟨sb,0,none⟩),.string t] w λe w'=>e=.returned (.tuple #[.string (bs ((R.resP work.data.toList t.data.toList).getD [])),R.errV (R.resP work.data.toList t.data.toList)])/\Bw w w':=by
 have hR:=pC work t m w hs ht hm;obtain⟨p,hp⟩:=aq (bs ((R.resP work.data.toList t.data.toList).getD []));obtain⟨e,he⟩:=aq (R.errV (R.resP work.data.toList t.data.toList));rw[<-hp,<-he]at hR⊢;clear hp he hm;go_enter func180,ntmps180;go_wp2_with (go_at_call 199;refine hR.mono ?_;clear hR;rintro ev w1⟨rfl,hb1⟩)
 go_ret2;exact⟨rfl,hb1⟩
theorem Fy(sb:Nat)(work:BA)(w:World)(hc:w.cell? ⟨sb,1,none⟩=some (.string work))(hs:work.size<=1073741824): Cl 50 #[.pointer (some ⟨sb,0,none⟩)] w λe w'=>∃s:BA,e=.returned (.string s)/\s.data.toList=47::work.data.toList/\w'=w:=by
 have e1:¬9223372036854775807<1+work.size:=by omega
 go_enter func50,ntmps50;go_wp2_with fail;go_ret;exact⟨_,rfl,by simp,rfl⟩
end Go.Proofs.YtjhobnjdfhkohaaGreatDoor.T
namespace Go.Proofs.YtjhobnjdfhkohaaGreatDoor.T
open Go.Proofs.Tryz
open Go.RowKit
def bT(c:aj):Bool:=if c.kind=4\/c.kind=5 then !(decide (c.kind=4)&&c.path.data.toList==[])&&isP c.path.data.toList&&decide (c.mode=0)&&c.data.data.toList==[] else bK c
def Ls(d c:aj):Bool:=if d.path.data.toList=c.path.data.toList then decide (d.kind=1)&&decide (c.kind=5) else gP d.path.data.toList c.path.data.toList&&(decide (d.kind=1\/d.kind=5)||!Lib.hasPrefix c.path.data.toList (d.path.data.toList++[47]))
def vt(cs:List aj)(i:Nat):Bool:=match cs[i]? with
 |none=>false
 |some c=>decide (i<80)&&bT c&&(decide (i=0)||match cs[i-1]? with
  |none=>false
  |some d=>Ls d c)
theorem A8{cs:List aj}{i:Nat}{c:aj}(h:cs[i]?=some c):vt cs i=(decide (i<80)&&bT c&&(decide (i=0)||match cs[i-1]? with
 |none=>false
 |some d=>Ls d c)):=by unfold vt;rw[h]
theorem uE{l:LU}(h:l≠[]):(l==[])=false:=by
 cases l with
 |nil=>exact absurd rfl h
 |cons _ _=>rfl
theorem ry(c:aj)(w:World):Cl 179 #[.agg #[.string c.path,.int .i64 c.kind,.int .i64 c.mode,.string c.data]] w λev w'=>ev=.returned (.bool (decide (c.kind=4\/c.kind=5)))/\Bw w w':=by
 by_cases h4:c.kind=4
 .have C:Hid (decide (c.kind=4\/c.kind=5)=true):=ab (by simp[h4]);go_enter func179,ntmps179;go_wp2;go_ret;exact⟨ag (uh C).symm,eD⟩
 by_cases h5:c.kind=5
 .have C:Hid (decide (c.kind=4\/c.kind=5)=true):=ab (by simp[h5]);have h4':(c.kind==4)=false:=by simp[h4]
  go_enter func179,ntmps179;go_wp2;go_ret;exact⟨ag (uh C).symm,eD⟩
 have C:Hid (decide (c.kind=4\/c.kind=5)=false):=ab (by simp[h4,h5]);have h4':(c.kind==4)=false:=by simp[h4]
 have h5':(c.kind==5)=false:=by simp[h5]
 go_enter func179,ntmps179;go_wp2;go_ret;exact⟨ag (uh C).symm,eD⟩
theorem pA(c:aj)(w:World):Cl 239 #[.agg #[.string c.path,.int .i64 c.kind,.int .i64 c.mode,.string c.data]] w λev w'=>ev=.returned (.bool (decide (c.kind=1\/c.kind=5)))/\Bw w w':=by
 by_cases h4:c.kind=1
 .have C:Hid (decide (c.kind=1\/c.kind=5)=true):=ab (by simp[h4]);go_enter func239,ntmps239;go_wp2;go_ret;exact⟨ag (uh C).symm,eD⟩
 by_cases h5:c.kind=5
 .have C:Hid (decide (c.kind=1\/c.kind=5)=true):=ab (by simp[h5]);have h4':(c.kind==1)=false:=by simp[h4]
  go_enter func239,ntmps239;go_wp2;go_ret;exact⟨ag (uh C).symm,eD⟩
 have C:Hid (decide (c.kind=1\/c.kind=5)=false):=ab (by simp[h4,h5]);have h4':(c.kind==1)=false:=by simp[h4]
 have h5':(c.kind==5)=false:=by simp[h5]
 go_enter func239,ntmps239;go_wp2;go_ret;exact⟨ag (uh C).symm,eD⟩
theorem ww(s t:BA)(w:World)(ht:t.size<=1073741824):Cl 240 #[.string s,.string t] w λev w'=>ev=.returned (.bool (Lib.hasPrefix s.data.toList (t.data.toList++[47])))/\w'=w:=by
 have hP:=hasPrefix_any s (t++⟨#[47]⟩) w;have e:(t++⟨#[47]⟩:BA).data.toList=t.data.toList++[47]:=by rw[data_append]
 rw[e]at hP;have n1:¬9223372036854775807<t.size+1:=by omega
 clear e;go_enter func240,ntmps240;go_wp2_with (go_at_call 80;refine hP.mono ?_;clear hP;rintro ev w1⟨rfl,hw⟩;obtain rfl:=hw.symm)
 go_ret;exact⟨rfl,rfl⟩
theorem uo(c:aj)(m:Int)(w:World)(hm:w.cell? ⟨1,0,none⟩=some (.int .i64 m)):Cl 238 #[.agg #[.string c.path,.int .i64 c.kind,.int .i64 c.mode,.string c.data]] w λev w'=>ev=.returned (.bool (bT c))/\Bw w w':=by
 obtain⟨W0,hW0⟩:=aq (w.alloc (.cells #[.string c.path,.int .i64 c.kind,.int .i64 c.mode,.string c.data] 246));have hb0:=dw hW0;have hq0:=em hW0;have hMk:=ry c W0;have HW0:=ab hW0;have HQ:=ab hq0;have HM:=ab hm;clear hW0 hm;by_cases hk:c.kind=4\/c.kind=5
 .rw[dT hk]at hMk;have HC:Hid (bT c=(!(decide (c.kind=4)&&c.path.data.toList==[])&&isP c.path.data.toList&&decide (c.mode=0)&&c.data.data.toList==[])):=ab (by rw[bT,if_pos hk]);clear hk hq0;go_enter func238,ntmps238;go_upto_region 3 with(go_at_call 179;rw[<-uh HW0];refine hMk.mono ?_;clear hMk;rintro ev w1⟨rfl,hb1⟩)
  have hB1:=hb0.trans (hb1.mono hb0.size);have hq1:=(hb1.block w.heap.size (gA (uh HQ))).trans (uh HQ);have q0:=cq 0 hq1;have q1:=cq 1 hq1;have q2:=cq 2 hq1;have q3:=cq 3 hq1;have HQ1:=ab hq1;have hIs:=is_any c.path m w1 (cL hB1 (uh HM));clear hq1 hb1;by_cases hg:c.kind=4/\c.path.data.toList=[]
  .have R:Hid (bT c=false):=ab (by rw[uh HC];simp[hg.1,hg.2]);have g4:=hg.1;have g1:c.path.toList.isEmpty=true:=by rw[tD,hg.2];rfl
   rw[g4]at q1;clear hg g4;go_wp2_with fail;go_ret;exact⟨ag (uh R).symm,hB1⟩
  have R0:Hid (bT c=(isP c.path.data.toList&&decide (c.mode=0)&&c.data.data.toList==[])):=ab (by
   rw[uh HC];have:(decide (c.kind=4)&&c.path.data.toList==[])=false:=by
    by_cases h4:c.kind=4
    .have:c.path.data.toList≠[]:=λe=>hg ⟨h4,e⟩;rw[uE this,Bool.and_false]
    simp[h4]
   rw[this];rfl)
  have HG:=ab hg;clear hg HC;by_cases h4:c.kind=4
  .have hpe:c.path.data.toList≠[]:=λe=>uh HG ⟨h4,e⟩;have g1:c.path.toList.isEmpty=false:=by rw[tD];simpa using hpe
   rw[h4]at q1;clear hpe h4;cases hP:isP c.path.data.toList
   .have R:Hid (bT c=false):=ab (by rw[uh R0,hP];rfl);rw[hP]at hIs;go_wp2_with (go_at_call 95;refine hIs.mono ?_;clear hIs;rintro ev w2⟨rfl,hb2⟩)
    go_ret;exact⟨ag (uh R).symm,hB1.trans (hb2.mono hB1.size)⟩
   rw[hP]at hIs;by_cases hmd:c.mode=0
   .by_cases hdt:c.data.data.toList=[]
    .have R:Hid (bT c=true):=ab (by rw[uh R0,hP,hmd,hdt];rfl);have g2:c.data.toList.isEmpty=true:=by rw[tD,hdt];rfl
     rw[hmd]at q2;clear hdt hmd;go_wp2_with (go_at_call 95;refine hIs.mono ?_;clear hIs;rintro ev w2⟨rfl,hb2⟩;have q2:=cL hb2 q2;have q3:=cL hb2 q3)
     go_ret;exact⟨ag (uh R).symm,hB1.trans (hb2.mono hB1.size)⟩
    have R:Hid (bT c=false):=ab (by rw[uh R0,uE hdt,Bool.and_false]);have g2:c.data.toList.isEmpty=false:=by rw[tD];simpa using hdt
    rw[hmd]at q2;clear hdt hmd;go_wp2_with (go_at_call 95;refine hIs.mono ?_;clear hIs;rintro ev w2⟨rfl,hb2⟩;have q2:=cL hb2 q2;have q3:=cL hb2 q3)
    go_ret;exact⟨ag (uh R).symm,hB1.trans (hb2.mono hB1.size)⟩
   have R:Hid (bT c=false):=ab (by rw[uh R0,hP];simp[hmd]);have hmd':(c.mode==0)=false:=by simp[hmd]
   go_wp2_with (go_at_call 95;refine hIs.mono ?_;clear hIs;rintro ev w2⟨rfl,hb2⟩;have q2:=cL hb2 q2;have q3:=cL hb2 q3)
   go_ret;exact⟨ag (uh R).symm,hB1.trans (hb2.mono hB1.size)⟩
  have h4':(c.kind==4)=false:=by simp[h4]
  cases hP:isP c.path.data.toList
  .have R:Hid (bT c=false):=ab (by rw[uh R0,hP];rfl);rw[hP]at hIs;go_wp2_with (go_at_call 95;refine hIs.mono ?_;clear hIs;rintro ev w2⟨rfl,hb2⟩)
   go_ret;exact⟨ag (uh R).symm,hB1.trans (hb2.mono hB1.size)⟩
  rw[hP]at hIs;by_cases hmd:c.mode=0
  .by_cases hdt:c.data.data.toList=[]
   .have R:Hid (bT c=true):=ab (by rw[uh R0,hP,hmd,hdt];rfl);have g2:c.data.toList.isEmpty=true:=by rw[tD,hdt];rfl
    rw[hmd]at q2;clear hdt hmd;go_wp2_with (go_at_call 95;refine hIs.mono ?_;clear hIs;rintro ev w2⟨rfl,hb2⟩;have q2:=cL hb2 q2;have q3:=cL hb2 q3)
    go_ret;exact⟨ag (uh R).symm,hB1.trans (hb2.mono hB1.size)⟩
   have R:Hid (bT c=false):=ab (by rw[uh R0,uE hdt,Bool.and_false]);have g2:c.data.toList.isEmpty=false:=by rw[tD];simpa using hdt
   rw[hmd]at q2;clear hdt hmd;go_wp2_with (go_at_call 95;refine hIs.mono ?_;clear hIs;rintro ev w2⟨rfl,hb2⟩;have q2:=cL hb2 q2;have q3:=cL hb2 q3)
   go_ret;exact⟨ag (uh R).symm,hB1.trans (hb2.mono hB1.size)⟩
  have R:Hid (bT c=false):=ab (by rw[uh R0,hP];simp[hmd]);have hmd':(c.mode==0)=false:=by simp[hmd]
  go_wp2_with (go_at_call 95;refine hIs.mono ?_;clear hIs;rintro ev w2⟨rfl,hb2⟩;have q2:=cL hb2 q2;have q3:=cL hb2 q3)
  go_ret;exact⟨ag (uh R).symm,hB1.trans (hb2.mono hB1.size)⟩
 rw[dF hk]at hMk;have HC:Hid (bT c=bK c):=ab (by rw[bT,if_neg hk]);clear hk hq0;go_enter func238,ntmps238;go_wp2_with (first|(go_at_call 179;rw[<-uh HW0];refine hMk.mono ?_;clear hMk;rintro ev w1⟨rfl,hb1⟩;have hB1:Bw w w1:=(hb0.trans (hb1.mono hb0.size));have hq1:=(hb1.block w.heap.size (gA (uh HQ))).trans (uh HQ);have q0:w1.cell? ⟨w.heap.size,0,none⟩=some (.string c.path):=cq 0 hq1;have q1:w1.cell? ⟨w.heap.size,1,none⟩=some (.int .i64 c.kind):=cq 1 hq1;have q2:w1.cell? ⟨w.heap.size,2,none⟩=some (.int .i64 c.mode):=cq 2 hq1;have q3:w1.cell? ⟨w.heap.size,3,none⟩=some (.string c.data):=cq 3 hq1;clear hq1)|(go_at_call 70;refine(fY c m w1 (cL hB1 (uh HM))).mono ?_;rintro ev w2⟨rfl,hb2⟩))
 go_ret;exact⟨ag (uh HC).symm,hB1.trans (hb2.mono hB1.size)⟩
end Go.Proofs.YtjhobnjdfhkohaaGreatDoor.T
