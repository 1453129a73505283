import Derived.Test.YtjhobnjdfhkohaaGreatDoorXH
set_option linter.all false
set_option maxHeartbeats 2000000
set_option maxRecDepth 100000
namespace Go.Proofs.YtjhobnjdfhkohaaGreatDoor
open Go.Proofs.Tryz
open Go.RowKit
structure dC where
 text:BA
 isVar:Bool
 place:Int
def dC.cells(p:dC):List Value:=[.string p.text,.bool p.isVar,.int .i64 p.place]
def tf(l:List dC):List Value:=(l.map dC.cells).flatten
theorem Bn(l:List dC):(tf l).length=l.length*3:=by
 induction l with
 |nil=>rfl
 |cons a r ih=>simp only[tf,List.map_cons,List.flatten_cons,lA,lC]at ih⊢;rw[ih];simp[dC.cells];omega
theorem mZ(l:List dC)(a:dC):tf (l++[a])=tf l++a.cells:=by simp[tf]
theorem zN(a:dC):∀u∈a.cells,u.oneCell'=true:=λu hu=>by simp only[dC.cells,mC,List.not_mem_nil,or_false]at hu;rcases hu with rfl|rfl|rfl<;>rfl
theorem Ca:(prog.info? 192).map (λi=>(i.zero,i.size,i.bytes))=some (some (.agg #[.string ByteArray.empty,.bool false,.int .i64 0]),3,32):=by kernel_rfl
theorem info_parts{P:Program}{t:TypeId}{z:Option Value}{a b:Nat}(h:(P.info? t).map (λi=>(i.zero,i.size,i.bytes))=some (z,a,b)):∃i,P.info? t=some i/\i.zero=z/\i.size=a/\i.bytes=b:=by
 cases hi:P.info? t with
 |none=>rw[hi]at h;cases h
 |some i=>rw[hi]at h;simp only[Option.map_some,Option.some.injEq,Prod.mk.injEq]at h;exact⟨i,rfl,h.1,h.2.1,h.2.2⟩
structure og(w:World)(B wb:Nat)(pl:Int)(v:Value)(ps:List dC):Prop where
 cells:w.heap[wb]?=some (.cells #[.int .i64 pl,v] 148 (0,0))
 row:w.ownsRow B 192 3 v ps.length (tf ps)
 base:B<=wb
 nil:ps=[]->v=.slice none 0 0
theorem og.ne{w:World}{B wb:Nat}{pl:Int}{v:Value}{ps:List dC}(h:og w B wb pl v ps):v.ownBlock≠some wb:=by
 rintro e;rcases h.row.2 with⟨rfl,_⟩|⟨g,cap,cur,rfl,_,hg,_⟩
 .cases e
 obtain rfl:g=wb:=by simpa[Value.ownBlock]using e
 have:=h.cells;rw[hg]at this;cases this
theorem og.lt{w:World}{B wb:Nat}{pl:Int}{v:Value}{ps:List dC}(h:og w B wb pl v ps):wb<w.heap.size:=(eA.1 h.cells).1
theorem ap{w w':World}{B e z n:Nat}{v:Value}{xs:List Value}(h:w.ownsRow B e z v n xs)(hk:∀k,v.ownBlock=some k->w'.heap[k]?=w.heap[k]?):w'.ownsRow B e z v n xs:=by
 refine⟨h.1,?_⟩;rcases h.2 with h0|⟨g,cap,cur,hv,h1,h2,h3⟩
 .exact .inl h0
 refine .inr ⟨g,cap,cur,hv,h1,(hk g ?_).trans h2,h3⟩;rw[hv];rfl
theorem og.same{w w':World}{B wb:Nat}{pl:Int}{v:Value}{ps:List dC}(h:og w B wb pl v ps)(hk:∀k,k=wb\/v.ownBlock=some k->w'.heap[k]?=w.heap[k]?):og w' B wb pl v ps:= ⟨(hk wb (.inl rfl)).trans h.cells,ap h.row λk e=>hk k (.inr e),h.base,h.nil⟩
theorem og.below{w w':World}{B wb:Nat}{pl:Int}{v:Value}{ps:List dC}(h:og w B wb pl v ps)(hb:Bw w w'):og w' B wb pl v ps:= h.same λk e=>hb.block k (by
 rcases e with rfl|e
 .exact h.lt
 exact(World.ownsRow.lt h.row k e).2)
theorem og.tb{w w':World}{B wb rb:Nat}{pl:Int}{v:Value}{ps:List dC}(h:og w B wb pl v ps)(hb:Tb w.heap.size rb w w')(hr:rb<B):og w' B wb pl v ps:= h.same λk e=>hb.block k (by
 rcases e with rfl|e
 .exact h.lt
 .exact(World.ownsRow.lt h.row k e).2) (by
 rcases e with rfl|e
 .have:=h.base;omega
 have:=(World.ownsRow.lt h.row k e).1;omega)
theorem rS{w w1:World}{o:Obj}{B wb:Nat}{pl:Int}{v v':Value}{ps:List dC}{p:dC}(h:og w B wb pl v ps)(hB:B<=w.heap.size)(hown:w1.ownsRow B 192 3 v' (ps.length+1) (tf ps++p.cells))(hg:(w.alloc o).grownBy w1 v.ownBlock): og (w1.setCell ⟨wb,1,none⟩ v') B wb pl v' (ps++[p])/\Below B w (w1.setCell ⟨wb,1,none⟩ v'):=by
 have hc:w1.heap[wb]?=some (.cells #[.int .i64 pl,v] 148 (0,0)):= (hg.block wb (by have:=h.lt;simp;omega) (λe=>h.ne e.symm)).trans ((Below.heap_alloc _ _ _ h.lt).trans h.cells);have hb:Below B w w1:=((bR B w).alloc hB o).grown hg (by simp;omega) (λq hq=>(World.ownsRow.lt h.row q hq).1);have hb2:Below B w (w1.setCell ⟨wb,1,none⟩ v'):=hb.setCell (p:=⟨wb,1,none⟩) h.base _;refine⟨⟨hS _ _ 1 _ _ _ hc,?_,h.base,by simp⟩,hb2⟩;rw[mZ,lA];refine ap hown λk hk=>Below.heap_setCell _ _ _ _ (λe=>?_);obtain rfl:k=wb:=e;rcases hown.2 with⟨rfl,_⟩|⟨g,cap,cur,rfl,_,hg',_⟩
 .cases hk
 obtain rfl:g=k:=by simpa[Value.ownBlock]using hk
 rw[hg']at hc;cases hc
theorem Ak(B wb:Nat)(pl:Int)(v:Value)(ps:List dC)(n:BA)(k:Int)(w:World)(h:og w B wb pl v ps)(hB:B<=w.heap.size)(hn:ps.length<=1000000): Cl 114 #[.pointer (some ⟨wb,0,none⟩),.string n,.int .i64 k] w λev w'=>ev=.returned (.tuple #[])/\(∃v',og w' B wb pl v' (ps++[⟨n,true,k⟩]))/\Below B w w':=by
 obtain⟨i0,hi,hz0,hz1,hz2⟩:=info_parts Ca;have hwl:=h.lt;have c1:=cq 1 h.cells;have HP:=ab h;have HR:=ab (h.row.alloc (.cells #[.string n,.bool true,.int .i64 k] 192));have HX:=ab (λ(w1:World) (hg:(w.alloc (.cells #[.string n,.bool true,.int .i64 k] 192)).grownBy w1 v.ownBlock)=>(hg.block wb (by simp;omega) (λe=>h.ne e.symm)).trans ((Below.heap_alloc _ _ _ hwl).trans h.cells));clear h;go_enter func114,ntmps114;go_wp2_with (at_builtin;refine wpList_append_own _ rfl _ _ 146 rfl B 192 i0 _ 3 32 underlying146 hi hz0 hz1 hz2 rfl (by decide) v ps.length (tf ps) rfl (uh HR) ⟨w.heap.size,0,none⟩ 1 1 [.string n,.bool true,.int .i64 k] rfl rfl (World.news_of_block (cs:=#[.string n,.bool true,.int .i64 k]) (t:=192) (fr:=(0,0)) (hN _ _)) (zN ⟨n,true,k⟩) (by unfold maxLen;omega) (by omega) (by simp;omega) ?_;intro v6 w6 hown6 hgrow6 _;obtain⟨g6,cp6,rfl,_,_⟩:=World.ownsRow.form hown6 (by omega);have hs1:=uh HX w6 hgrow6;have k2:w6.cell? ⟨wb,1,none⟩=some v:=cq 1 hs1;have f2:w6.frozen? ⟨wb,1,none⟩=false:=(by simp[World.frozen?,hs1]);have HO:=ab hown6;clear hown6 hs1)
 go_end0;have:=rS (uh HP) hB (p:=⟨n,true,k⟩) (uh HO) hgrow6;exact⟨rfl,⟨_,this.1⟩,this.2⟩
def lU(ps:List dC)(t:BA):List dC:=match ps.getLast? with
 |some p=>if p.isVar=true then ps++[⟨t,false,0⟩] else ps.dropLast++[⟨p.text++t,false,p.place⟩]
 |none=>ps++[⟨t,false,0⟩]
theorem iC{ps:List dC}{t:BA}(h:∀p,ps.getLast?=some p->p.isVar=true):lU ps t=ps++[⟨t,false,0⟩]:=by
 unfold lU;cases hp:ps.getLast? with
 |none=>rfl
 |some p=>simp[h p hp]
theorem jb{qs:List dC}{p:dC}{t:BA}(h:p.isVar=false):lU (qs++[p]) t=qs++[⟨p.text++t,false,p.place⟩]:=by unfold lU;simp[h]
theorem eR(ps:List dC):(ps=[]\/∃qs p,ps=qs++[p]/\p.isVar=true)\/∃qs p,ps=qs++[p]/\p.isVar=false:=by
 rcases List.eq_nil_or_concat ps with h|⟨qs,p,h⟩
 .exact .inl (.inl h)
 rw[List.concat_eq_append]at h;cases hp:p.isVar with
 |true=>exact .inl (.inr ⟨qs,p,h,hp⟩)
 |false=>exact .inr ⟨qs,p,h,hp⟩
theorem zJ(qs:List dC)(p:dC):(tf (qs++[p]))[qs.length*3]?=some (.string p.text)/\(tf (qs++[p]))[qs.length*3+1]?=some (.bool p.isVar):=by
 rw[mZ,<-Bn];refine⟨?_,?_⟩
 .rw[List.getElem?_append_right (nR _)];simp[dC.cells]
 rw[List.getElem?_append_right (by omega)];simp[dC.cells]
theorem JC(qs:List dC)(p:dC)(t:BA):(tf (qs++[p])).set (qs.length*3) (.string t)=tf (qs++[⟨t,p.isVar,p.place⟩]):=by rw[mZ,mZ,<-Bn,List.set_append_right _ _ (nR _)];simp[dC.cells]
theorem xf(B wb:Nat)(pl:Int)(v:Value)(ps:List dC)(t:BA)(w:World)(h:og w B wb pl v ps)(hB:B<=w.heap.size)(hn:ps.length<=1000000)(hc:ps=[]\/∃qs p,ps=qs++[p]/\p.isVar=true): Cl 115 #[.pointer (some ⟨wb,0,none⟩),.string t] w λev w'=>ev=.returned (.tuple #[])/\(∃v',og w' B wb pl v' (ps++[⟨t,false,0⟩]))/\Below B w w':=by
 obtain⟨i0,hi,hz0,hz1,hz2⟩:=info_parts Ca;have hwl:=h.lt;have c1:=cq 1 h.cells;have HP:=ab h;have HR:=ab (h.row.alloc (.cells #[.string t,.bool false,.int .i64 0] 192));have HX:=ab (λ(w1:World) (hg:(w.alloc (.cells #[.string t,.bool false,.int .i64 0] 192)).grownBy w1 v.ownBlock)=>(hg.block wb (by simp;omega) (λe=>h.ne e.symm)).trans ((Below.heap_alloc _ _ _ hwl).trans h.cells));rcases hc with rfl|⟨qs,p,rfl,hp⟩
 .obtain rfl:=h.nil rfl;clear h;go_enter func115,ntmps115;go_upto_region 3 with fail;go_wp2_with (at_builtin;refine wpList_append_own _ rfl _ _ 146 rfl B 192 i0 _ 3 32 underlying146 hi hz0 hz1 hz2 rfl (by decide) (.slice none 0 0) (0) (tf []) rfl (uh HR) ⟨w.heap.size,0,none⟩ 1 1 [.string t,.bool false,.int .i64 0] rfl rfl (World.news_of_block (cs:=#[.string t,.bool false,.int .i64 0]) (t:=192) (fr:=(0,0)) (hN _ _)) (zN ⟨t,false,0⟩) (by unfold maxLen;omega) (by omega) (by simp;omega) ?_;intro v6 w6 hown6 hgrow6 _;obtain⟨g6,cp6,rfl,_,_⟩:=World.ownsRow.form hown6 (by omega);have hs1:=uh HX w6 hgrow6;have k2:w6.cell? ⟨wb,1,none⟩=some (.slice none 0 0):=cq 1 hs1;have f2:w6.frozen? ⟨wb,1,none⟩=false:=(by simp[World.frozen?,hs1]);have HO:=ab hown6;clear hown6 hs1)
  go_end0;have:=rS (uh HP) hB (p:=⟨t,false,0⟩) (uh HO) hgrow6;exact⟨rfl,⟨_,this.1⟩,this.2⟩
 obtain⟨g,cap,rfl,_,_⟩:=World.ownsRow.form h.row (by simp);have q1:w.cell? ⟨g,qs.length*3+1,none⟩=some (.bool true):=by rw[World.ownsRow.cellAt h.row _ (by simp;omega),(zJ qs p).2,hp]
 have hl:(qs++[p]).length=qs.length+1:=by simp
 have HL:=ab hl;clear h;rw[hl]at c1 HP HR HX hn;clear hl;go_enter func115,ntmps115;go_upto_region 3 with fail;go_wp2_with (at_builtin;refine wpList_append_own _ rfl _ _ 146 rfl B 192 i0 _ 3 32 underlying146 hi hz0 hz1 hz2 rfl (by decide) (.slice (some ⟨g,0,none⟩) (qs.length+1) cap) (qs.length+1) (tf (qs++[p])) rfl (uh HR) ⟨w.heap.size,0,none⟩ 1 1 [.string t,.bool false,.int .i64 0] rfl rfl (World.news_of_block (cs:=#[.string t,.bool false,.int .i64 0]) (t:=192) (fr:=(0,0)) (hN _ _)) (zN ⟨t,false,0⟩) (by unfold maxLen;omega) (by omega) (by simp;omega) ?_;intro v6 w6 hown6 hgrow6 _;obtain⟨g6,cp6,rfl,_,_⟩:=World.ownsRow.form hown6 (by omega);have hs1:=uh HX w6 hgrow6;have k2:w6.cell? ⟨wb,1,none⟩=some (.slice (some ⟨g,0,none⟩) (qs.length+1) cap):=cq 1 hs1;have f2:w6.frozen? ⟨wb,1,none⟩=false:=(by simp[World.frozen?,hs1]);have HO:=ab hown6;clear hown6 hs1)
 go_end0;have HO':w6.ownsRow B 192 3 (.slice (some ⟨g6,0,none⟩) (qs.length+1+1) cp6) ((qs++[p]).length+1) (tf (qs++[p])++(⟨t,false,0⟩:dC).cells):=by rw[uh HL];exact uh HO
 have:=rS (uh HP) hB (p:=⟨t,false,0⟩) HO' hgrow6;exact⟨rfl,⟨_,this.1⟩,this.2⟩
theorem JT{w:World}{B wb g cap:Nat}{pl:Int}{qs:List dC}{p:dC}(t:BA)(h:og w B wb pl (.slice (some ⟨g,0,none⟩) (qs.length+1) cap) (qs++[p]))(hp:p.isVar=false): og (w.setCell ⟨g,qs.length*3,none⟩ (.string t)) B wb pl (.slice (some ⟨g,0,none⟩) (qs.length+1) cap) (qs++[⟨t,false,p.place⟩])/\Below B w (w.setCell ⟨g,qs.length*3,none⟩ (.string t)):=by have hgb:=(World.ownsRow.lt h.row g rfl).1;have hne:wb≠g:=λe=>h.ne (by rw[e];rfl);refine⟨⟨(Below.heap_setCell _ _ _ _ hne).trans h.cells,?_,h.base,by simp⟩,(bR B w).setCell (p:=⟨g,qs.length*3,none⟩) hgb _⟩;have hr:=h.row;rw[show (qs++[p]).length=qs.length+1 by simp]at hr;have:=(World.ownsRow.stored hr (qs.length*3) (.string t)).1;rw[JC,hp]at this;rw[show (qs++[(⟨t,false,p.place⟩:dC)]).length=qs.length+1 by simp];exact this
theorem AO(B wb:Nat)(pl:Int)(v:Value)(qs:List dC)(p:dC)(t:BA)(w:World)(h:og w B wb pl v (qs++[p]))(hn:qs.length<=1000000)(hp:p.isVar=false)(h1:p.text.size<=1000000)(h2:t.size<=1000000): Cl 115 #[.pointer (some ⟨wb,0,none⟩),.string t] w λev w'=>ev=.returned (.tuple #[])/\(∃v',og w' B wb pl v' (qs++[⟨p.text++t,false,p.place⟩]))/\Below B w w':=by
 have c1:=cq 1 h.cells;obtain⟨g,cap,rfl,_,_⟩:=World.ownsRow.form h.row (by simp);have q1:w.cell? ⟨g,qs.length*3+1,none⟩=some (.bool false):=by rw[World.ownsRow.cellAt h.row _ (by simp;omega),(zJ qs p).2,hp]
 have q0:w.cell? ⟨g,qs.length*3,none⟩=some (.string p.text):=by rw[World.ownsRow.cellAt h.row _ (by simp),(zJ qs p).1]
 have z0:w.frozen? ⟨g,qs.length*3,none⟩=false:=World.ownsRow.frozenAt h.row _;have hl:(qs++[p]).length=qs.length+1:=by simp
 rw[hl]at c1 h;have HP:=ab h;clear h hl;go_enter func115,ntmps115;go_wp2_with fail;refine bodyPost_ret (results_none rfl _ _ _) rfl ?_;have:=JT (p.text++t) (uh HP) hp;exact⟨rfl,⟨_,this.1⟩,this.2⟩
theorem yI(B wb:Nat)(pl:Int)(v:Value)(ps:List dC)(t:BA)(w:World)(h:og w B wb pl v ps)(hB:B<=w.heap.size)(hn:ps.length<=1000000)(hz:∀p∈ps,p.isVar=false->p.text.size<=1000000)(ht:t.size<=1000000): Cl 115 #[.pointer (some ⟨wb,0,none⟩),.string t] w λev w'=>ev=.returned (.tuple #[])/\(∃v',og w' B wb pl v' (lU ps t))/\Below B w w':=by
 rcases eR ps with hc|⟨qs,p,rfl,hp⟩
 .have e:lU ps t=ps++[⟨t,false,0⟩]:=iC (by
   rintro q hq;rcases hc with rfl|⟨qs,p,rfl,hp⟩
   .cases hq
   simp at hq;subst hq;exact hp)
  rw[e];exact xf B wb pl v ps t w h hB hn hc
 rw[jb hp];exact AO B wb pl v qs p t w h (by simp at hn;omega) hp (hz p (by simp) hp) ht
def bt(l:LU):BA:=⟨l.toArray⟩
theorem cF(s:BA):bt s.data.toList=s:=by cases s;rfl
theorem aK(l:LU):(bt l).data.toList=l:=by simp[bt]
theorem bF(l:LU):(bt l).size=l.length:=by rw[zE,aK]
theorem gn(a b:LU):bt a++bt b=bt (a++b):=by rw[<-cF (bt a++bt b),ByteArray.data_append,Array.toList_append,aK,aK]
def Dl(ps:List dC):bM->List dC
 |.inl c=>lU ps (bt [c])
 |.inr (n,k)=>ps++[⟨bt n,true,(k:Int)⟩]
def parts(xs:List bM):List dC:=xs.foldl Dl []
theorem dJ(xs:List bM)(a:bM):parts (xs++[a])=Dl (parts xs) a:=by simp[parts,List.foldl_append]
theorem lS{α:Type}{P:List α->Prop}(h0:P [])(h1:∀l a,P l->P (l++[a]))(l:List α):P l:=by
 have h:∀l:List α,P l.reverse:=λl=>by
  induction l with
  |nil=>exact h0
  |cons a r ih=>rw[List.reverse_cons];exact h1 _ _ ih
 have:=h l.reverse;rwa [List.reverse_reverse]at this
theorem rK(xs:List bM):(parts xs).length<=xs.length/\∀p∈parts xs,p.isVar=false->p.text.size<=xs.length:=by
 induction xs using lS with
 |h0=>simp[parts]
 |h1 xs a ih=>
  rw[dJ,lA,List.length_singleton];obtain⟨i1,i2⟩:=ih;cases a with
  |inr pA=>
   obtain⟨n,k⟩:=pA
   refine⟨by simp[Dl];omega,λp hp hv=>?_⟩;rcases mA.1 hp with h|h
   .have:=i2 p h hv;omega
   rw[List.mem_singleton]at h;subst h;cases hv
  |inl c=>
   rcases eR (parts xs)with hc|⟨qs,q,he,hq⟩
   .have e:Dl (parts xs) (.inl c)=parts xs++[⟨bt [c],false,0⟩]:=iC (by
     rintro q hq;rcases hc with h|⟨qs,p,h,hp⟩
     .rw[h]at hq;cases hq
     rw[h]at hq;simp at hq;subst hq;exact hp)
    rw[e];refine⟨by simp;omega,λp hp hv=>?_⟩;rcases mA.1 hp with h|h
    .have:=i2 p h hv;omega
    rw[List.mem_singleton]at h;subst h;show (bt [c]).size<=_;rw[bF];simp
   have e:Dl (parts xs) (.inl c)=qs++[⟨q.text++bt [c],false,q.place⟩]:=by show lU (parts xs) (bt [c])=_;rw[he,jb hq]
   rw[e];rw[he]at i1 i2;refine⟨by simp at i1⊢;omega,λp hp hv=>?_⟩;rcases mA.1 hp with h|h
   .have:=i2 p (by simp[h]) hv;omega
   rw[List.mem_singleton]at h;subst h;have:=i2 q (by simp) hq;show (q.text++bt [c]).size<=_;rw[ByteArray.size_append,bF];simp;omega
theorem B7(s:BA)(k:Nat)(h:k<s.size):s.extract k (k+1)=bt [s[k]]:=by rw[<-cF (s.extract k (k+1)),ByteArray.data_extract,Array.toList_extract,List.extract_eq_take_drop];rw[List.drop_eq_getElem_cons (by rw[<-zE];exact h),show k+1-k=1 by omega];rfl
structure RW(w:World)(B rb wb:Nat)(s:BA)(k:Nat)(pl:Int)(xs:List bM):Prop where
 rdr:dB w rb s k
 wrd:∃v,og w B wb pl v (parts xs)
 rl:rb<B
 bl:B<=w.heap.size
theorem RW.drewN{w:World}{B rb wb:Nat}{s:BA}{k:Nat}{pl:Int}{xs:List bM}(h:RW w B rb wb s k pl xs)(n:Nat):RW (w.drewN n) B rb wb s k pl xs:= ⟨h.rdr,h.wrd.imp λ_ h'=>⟨h'.cells,h'.row,h'.base,h'.nil⟩,h.rl,h.bl⟩
theorem RW.drew{w:World}{B rb wb:Nat}{s:BA}{k:Nat}{pl:Int}{xs:List bM}(h:RW w B rb wb s k pl xs):RW w.drew B rb wb s k pl xs:= ⟨h.rdr,h.wrd.imp λ_ h'=>⟨h'.cells,h'.row,h'.base,h'.nil⟩,h.rl,h.bl⟩
theorem Md{B:Nat}{w w1:World}(h:Below B w.drew w1):Below B w w1:=⟨h.os,h.tape,h.output,h.size,h.block⟩
theorem RW.to{w w':World}{B rb wb:Nat}{s:BA}{k k':Nat}{pl:Int}{xs:List bM}(h:RW w B rb wb s k pl xs)(ht:Tb w.heap.size rb w w')(hr:dB w' rb s k'):RW w' B rb wb s k' pl xs:= ⟨hr,h.wrd.imp λ_ h'=>h'.tb ht h.rl,h.rl,nT h.bl ht.size⟩
theorem RW.below{w w':World}{B rb wb:Nat}{s:BA}{k:Nat}{pl:Int}{xs:List bM}(h:RW w B rb wb s k pl xs)(ht:Bw w w'):RW w' B rb wb s k pl xs:= h.to (Tb.of_below ht) (h.rdr.below ht h.rdr.lt)
theorem jX(B rb wb:Nat)(s:BA)(k:Nat)(pl:Int)(xs:List bM)(w:World)(h:RW w B rb wb s k pl xs)(hk:k<s.size)(hs:s.size<=1500)(ha:xs.length<=1500): Cl 87 #[.pointer (some ⟨rb,0,none⟩),.pointer (some ⟨wb,0,none⟩)] w λev w'=>ev=.returned (.tuple #[])/\RW w' B rb wb s (k+1) pl (xs++[.inl s[k]])/\Tb B rb w w':=by
 have h0:=h.rdr.c0;have h1:=h.rdr.c1;have i0:(0:Int)<=(k:Int):=by omega
 have i1:(k:Int)+1<=(s.size:Int):=by omega
 have i2:(k:Int)<=(k:Int)+1:=by omega
 have i3:IntKind.i64.wrap ((k:Int)+1)=(k:Int)+1:=by have:=wrap_i64 (k+1) (by omega);simpa using this
 have HW:=ab h;have HA:Hid (∀W,RW W B rb wb s k pl xs->Cl 115 #[.pointer (some ⟨wb,0,none⟩),.string (s.extract k (k+1))] W λev w'=>ev=.returned (.tuple #[])/\(∃v',og w' B wb pl v' (parts (xs++[.inl s[k]])))/\Below B W w'):=ab (λW h=>by obtain⟨v,hv⟩:=h.wrd;have hp:=rK xs;refine(yI B wb pl v (parts xs) (s.extract k (k+1)) W hv h.bl (by omega) (λp hp' hv'=>by have:=hp.2 p hp' hv';omega) (by rw[B7 s k hk,bF];simp)).mono ?_;rintro ev w'⟨rfl,hw,hb⟩;refine⟨rfl,?_,hb⟩;rw[dJ];rw[B7 s k hk]at hw;exact hw);clear h;go_enter func87,ntmps87;go_upto_region 0 with fail;go_region_held3 (λw'=>w'.cell? ⟨rb,0,none⟩=some (.string s)/\w'.cell? ⟨rb,1,none⟩=some (.int .i64 (k:Int))) (first|exact⟨p0,p1⟩|exact⟨h0,h1⟩|go_keep) (first|(go_at_call 115;refine(uh HA _ (by first|exact(uh HW).drew|exact uh HW|exact(uh HW).drewN _)).mono ?_;rintro ev w1⟨rfl,hW1,hb1'⟩;have hb1:Below B w w1:=(by first|exact hb1'|exact Md hb1');have HR1:=ab ((uh HW).rdr.below hb1 (uh HW).rl);have p0:=(uh HR1).c0;have p1:=(uh HR1).c1;have z1:=(uh HR1).fz 1));trace_state;go_wp2_with fail;go_end0;have HR2:=(uh HR1).to (k+1);have hT:=Tb.to B rb w1 1 (.int .i64 ((k+1:Nat):Int));refine⟨rfl,⟨HR2,?_,(uh HW).rl,nT (nT (uh HW).bl hb1.size) hT.size⟩,(Tb.of_below hb1).trans hT⟩;obtain⟨v',hv'⟩:=hW1;exact⟨v',hv'.tb (Tb.to _ rb w1 1 _) (uh HW).rl⟩
theorem Fu(s:BA)(c:Int)(w:World): Cl 160 #[.string s,.int .u8 c] w λe w'=>e=.returned (.int .i64 (Lib.indexByte s.data.toList c.toNat.toUInt8))/\w'=w:=by go_enter func160,ntmps160;go_wp2;rw[run_callFunc_extern func194 (by kernel_rfl) (by kernel_rfl) (by kernel_rfl) (e:=Extern.BytealgIndexByte.indexByte) (by kernel_rfl),Lib.run_indexByteString];simp only[Result.andThen];rw[Oper.upon_value];go_wp2;go_ret;exact⟨rfl,rfl⟩
theorem vx(s:BA)(c:Int)(w:World): Cl 134 #[.string s,.int .u8 c] w λe w'=>e=.returned (.int .i64 (Lib.indexByte s.data.toList c.toNat.toUInt8))/\w'=w:=by
 have hI:=Fu s c w;go_enter func134,ntmps134;go_wp2_with (go_at_call 160;refine hI.mono ?_;clear hI;rintro e w'⟨rfl,hw⟩;obtain rfl:=hw.symm)
 go_ret;exact⟨rfl,rfl⟩
theorem Id(l:LU)(c:UInt8):Lib.indexByte l c<0↔c∉l:=by
 induction l with
 |nil=>simp[Lib.indexByte]
 |cons b l ih=>
  have hge:∀l:LU,-1<=Lib.indexByte l c:=λl=>by
   induction l with
   |nil=>simp[Lib.indexByte]
   |cons b l ih=>unfold Lib.indexByte;split;omega;split<;>omega
  have:=hge l;unfold Lib.indexByte;by_cases hb:b=c
  .subst hb;simp
  have hb':(b==c)=false:=by simpa using hb
  rw[hb'];simp only[Bool.false_eq_true,if_false,mC,not_or];have hne:¬c=b:=λe=>hb e.symm;by_cases h1:Lib.indexByte l c=-1
  .rw[h1]at ih⊢;simp only[BEq.rfl,if_true];exact⟨λ_=>⟨hne,ih.1 (by omega)⟩,λ_=>by omega⟩
  have h2:(Lib.indexByte l c==-1)=false:=by simpa using h1
  rw[h2];simp only[Bool.false_eq_true,if_false];exact⟨λh=>by omega,λh=>absurd (ih.2 h.2) (by omega)⟩
def jm(w:World)(ev:Ending)(e p:Nat):Prop:=
 ∃b:Nat,ev=.panicked [{ v:=.iface 137 (.pointer (some ⟨b,0,none⟩)),recovered:=false }]/\w.heap[b]?=some (.cells #[.int .i64 (e:Int),.int .i64 (p:Int)] 140 (0,0))
theorem aZ(e p:Nat)(w:World): Cl 35 #[.int .i64 (e:Int),.int .i64 (p:Int)] w λev w'=>∃b:Nat,ev=.panicked [{ v:=.iface 137 (.pointer (some ⟨b,0,none⟩)),recovered:=false }]/\w'.heap[b]?=some (.cells #[.int .i64 (e:Int),.int .i64 (p:Int)] 140 (0,0))/\Bw w w':=by refine(EW e p w).mono ?_;rintro ev w'⟨rfl,rfl⟩;exact⟨_,rfl,hN _ _,eD⟩
theorem B9(rb:Nat)(s:BA)(k:Nat)(w:World)(h:dB w rb s k)(hk:k<=s.size): Cl 81 #[.pointer (some ⟨rb,0,none⟩)] w λe w'=>∃t:BA,e=.returned (.string t)/\Hid (t=s.extract k s.size)/\t.size=s.size-k/\Bw w w':=by refine(kH rb s k w h hk).mono ?_;rintro e w'⟨rfl,hb⟩;exact⟨_,rfl,ab rfl,by rw[zE,gZ,List.length_drop,zE],hb⟩
theorem zA(B rb wb:Nat)(s:BA)(k:Nat)(pl:Int)(xs:List bM)(w:World)(h:RW w B rb wb s k pl xs)(hk:k+1<s.size)(hs:s.size<=1500)(ha:xs.length<=1500): Cl 86 #[.pointer (some ⟨rb,0,none⟩),.pointer (some ⟨wb,0,none⟩)] w λev w'=>ev=.returned (.tuple #[])/\RW w' B rb wb s (k+2) pl (xs++[.inl s[k+1]])/\Tb B rb w w':=by
 have hR:=B9 rb s k w h.rdr (by omega);have HW:=ab h;clear h;go_enter func86,ntmps86;go_upto_region 2 with(go_at_call 81;refine hR.mono ?_;clear hR;rintro ev w1⟨t,rfl,HT,hts,hb1⟩;have g1:¬(t.size:Int)<2:=(by omega))
 have HW1:=ab ((uh HW).below hb1);have c1:=(uh HW1).rdr.c1;have z1:=(uh HW1).rdr.fz 1;go_upto_region 3 with fail;have e:=wrap_i64 (k+1) (by omega);obtain⟨W2,hW2⟩:=aq (w1.setCell ⟨rb,1,none⟩ (.int .i64 ((k+1:Nat):Int)));have hT:Tb w1.heap.size rb w1 W2:=by rw[hW2];exact Tb.to _ _ _ _ _
 have HW2:=ab ((uh HW1).to hT (by rw[hW2];exact(uh HW1).rdr.to (k+1)));rw[show ((k:Int)+1)=((k+1:Nat):Int) by omega,<-hW2];have hB2:=(Tb.of_below (hb1.mono (uh HW).bl)).trans (hT.mono (uh HW1).bl);have hI:=jX B rb wb s (k+1) pl xs W2 (uh HW2) hk hs ha;clear hW2 hT c1 z1 hb1 g1 hts;go_wp2_with (go_at_call 87;refine hI.mono ?_;clear hI;rintro ev w3⟨rfl,hW3,hT3⟩)
 go_end0;exact⟨rfl,hW3,hB2.trans hT3⟩
theorem wC(B rb wb:Nat)(s:BA)(k:Nat)(pl:Int)(xs:List bM)(w:World)(h:RW w B rb wb s k pl xs)(hk:k+1=s.size): Cl 86 #[.pointer (some ⟨rb,0,none⟩),.pointer (some ⟨wb,0,none⟩)] w λev w'=>jm w' ev 5 k/\Tb B rb w w':=by
 have hR:=B9 rb s k w h.rdr (by omega);have HW:=ab h;clear h;go_enter func86,ntmps86;go_upto_region 1 with(go_at_call 81;refine hR.mono ?_;clear hR;rintro ev w1⟨t,rfl,HT,hts,hb1⟩;have g1:(t.size:Int)<2:=(by omega))
 have HW1:=ab ((uh HW).below hb1);have c1:=(uh HW1).rdr.c1;have hF:=aZ 5 k w1;go_wp2_with (go_at_call 35;refine hF.mono ?_;clear hF;rintro ev w2⟨b,rfl,hc,hb2⟩)
 exact⟨rfl,⟨b,rfl,hc⟩,Tb.of_below ((hb1.trans (hb2.mono hb1.size)).mono (uh HW).bl)⟩
theorem B6(c:UInt8):(Lib.indexByte (⟨#[34,92,36]⟩:BA).data.toList c<0)↔Ai c=false:=by rw[Id];show ¬c∈[34,92,36]↔_;unfold Ai;simp only[mC,List.not_mem_nil,or_false,Bool.or_eq_false_iff,beq_eq_false_iff_ne,not_or,and_assoc,ne_eq]
theorem tM(c:UInt8):((c.toNat:Int)).toNat.toUInt8=c:=by simp
theorem xO(s:BA)(k:Nat):((s.extract k s.size).extract 1 (s.extract k s.size).size).data.toList=s.data.toList.drop (k+1):=by rw[gZ,gZ,List.drop_drop]
theorem Hg{u:BA}{l:LU}{k:Nat}(h:u.data.toList=l.drop k)(hk:k<l.length):∃h0:0<u.size,u[0]'h0=l[k]:=by
 have h0:0<u.size:=by rw[zE,h,List.length_drop];omega
 refine⟨h0,?_⟩;have:u.data.toList[0]'(by rw[<-zE];exact h0)=l[k]:=by simp only[h];simp
 exact this
theorem JD(B rb wb:Nat)(s:BA)(k:Nat)(pl:Int)(xs:List bM)(w:World)(h:RW w B rb wb s k pl xs)(hk:k+1<s.size)(hs:s.size<=1500)(ha:xs.length<=1500)(hq:Ai s[k+1]=true): Cl 111 #[.pointer (some ⟨rb,0,none⟩),.pointer (some ⟨wb,0,none⟩)] w λev w'=>ev=.returned (.tuple #[])/\RW w' B rb wb s (k+2) pl (xs++[.inl s[k+1]])/\Tb B rb w w':=by
 have hR:=B9 rb s k w h.rdr (by omega);have HW:=ab h;clear h;go_enter func111,ntmps111;go_upto_region 1 with(go_at_call 81;refine hR.mono ?_;clear hR;rintro ev w1⟨t,rfl,HT,hts,hb1⟩;have g0:(1:Int)<=(t.size:Int):=(by omega);clear hts)
 have HU:Hid ((t.extract 1 t.size).data.toList=s.data.toList.drop (k+1)):=ab (by rw[uh HT];exact xO s k);obtain⟨u,hu⟩:=aq (t.extract 1 t.size);rw[<-hu]at HU⊢;obtain⟨h0,e0⟩:=Hg (uh HU) (by rw[<-zE];exact hk);have g1:u.toList.isEmpty=false:=by
  rw[tD,uh HU];cases hd:s.data.toList.drop (k+1)with
  |nil=>have:=congrArg List.length hd;rw[List.length_drop,<-zE]at this;simp at this;omega
  |cons _ _=>rfl
 have hI:=vx ⟨#[34,92,36]⟩ (u[0].toNat:Int) w1;rw[tM]at hI;have g2:¬Lib.indexByte (⟨#[34,92,36]⟩:BA).data.toList u[0]<0:=by rw[B6,e0,yK s (k+1) hk,hq];simp
 obtain⟨d,hd⟩:=aq (Lib.indexByte (⟨#[34,92,36]⟩:BA).data.toList u[0]);rw[<-hd]at hI g2;clear hd e0 hu hq;have HW1:=ab ((uh HW).below hb1);have c1:=(uh HW1).rdr.c1;have z1:=(uh HW1).rdr.fz 1;go_upto_region 4 with(go_at_call 134;refine hI.mono ?_;clear hI;rintro ev w9⟨rfl,hw⟩;obtain rfl:=hw.symm)
 have e:=wrap_i64 (k+1) (by omega);obtain⟨W2,hW2⟩:=aq (w1.setCell ⟨rb,1,none⟩ (.int .i64 ((k+1:Nat):Int)));have hT:Tb w1.heap.size rb w1 W2:=by rw[hW2];exact Tb.to _ _ _ _ _
 have HW2:=ab ((uh HW1).to hT (by rw[hW2];exact(uh HW1).rdr.to (k+1)));rw[show ((k:Int)+1)=((k+1:Nat):Int) by omega,<-hW2];have hB2:=(Tb.of_below (hb1.mono (uh HW).bl)).trans (hT.mono (uh HW1).bl);have hI:=jX B rb wb s (k+1) pl xs W2 (uh HW2) hk hs ha;clear hW2 hT c1 z1 hb1 g1 g2 g0;go_wp2_with (go_at_call 87;refine hI.mono ?_;clear hI;rintro ev w3⟨rfl,hW3,hT3⟩)
 go_end0;exact⟨rfl,hW3,hB2.trans hT3⟩
theorem yv(B rb wb:Nat)(s:BA)(k:Nat)(pl:Int)(xs:List bM)(w:World)(h:RW w B rb wb s k pl xs)(hk:k<s.size)(hq:∀h:k+1<s.size,Ai s[k+1]=false): Cl 111 #[.pointer (some ⟨rb,0,none⟩),.pointer (some ⟨wb,0,none⟩)] w λev w'=>jm w' ev 5 k/\Tb B rb w w':=by
 have hR:=B9 rb s k w h.rdr (by omega);have HW:=ab h;have HQ:=ab hq;clear h hq;go_enter func111,ntmps111;go_upto_region 1 with(go_at_call 81;refine hR.mono ?_;clear hR;rintro ev w1⟨t,rfl,HT,hts,hb1⟩;have g0:(1:Int)<=(t.size:Int):=(by omega);clear hts)
 have HU:Hid ((t.extract 1 t.size).data.toList=s.data.toList.drop (k+1)):=ab (by rw[uh HT];exact xO s k);obtain⟨u,hu⟩:=aq (t.extract 1 t.size);rw[<-hu]at HU⊢;have HW1:=ab ((uh HW).below hb1);have c1:=(uh HW1).rdr.c1;have hF:=aZ 5 k w1;by_cases hlt:k+1<s.size
 .obtain⟨h0,e0⟩:=Hg (uh HU) (by rw[<-zE];exact hlt);have g1:u.toList.isEmpty=false:=by
   rw[tD,uh HU];cases hd:s.data.toList.drop (k+1)with
   |nil=>have:=congrArg List.length hd;rw[List.length_drop,<-zE]at this;simp at this;omega
   |cons _ _=>rfl
  have hI:=vx ⟨#[34,92,36]⟩ (u[0].toNat:Int) w1;rw[tM]at hI;have g2:Lib.indexByte (⟨#[34,92,36]⟩:BA).data.toList u[0]<0:=by rw[B6,e0,yK s (k+1) hlt];exact uh HQ hlt
  obtain⟨d,hd⟩:=aq (Lib.indexByte (⟨#[34,92,36]⟩:BA).data.toList u[0]);rw[<-hd]at hI g2;clear hd e0 hu;go_wp2_with (first|(go_at_call 134;refine hI.mono ?_;clear hI;rintro ev w9⟨rfl,hw⟩;obtain rfl:=hw.symm)|(go_at_call 35;refine hF.mono ?_;clear hF;rintro ev w2⟨b,rfl,hc,hb2⟩))
  exact⟨rfl,⟨b,rfl,hc⟩,Tb.of_below ((hb1.trans (hb2.mono hb1.size)).mono (uh HW).bl)⟩
 have g1:u.toList.isEmpty=true:=by rw[tD,uh HU,List.drop_eq_nil_of_le (by rw[<-zE];omega)];rfl
 clear hu;go_wp2_with (go_at_call 35;refine hF.mono ?_;clear hF;rintro ev w2⟨b,rfl,hc,hb2⟩)
 exact⟨rfl,⟨b,rfl,hc⟩,Tb.of_below ((hb1.trans (hb2.mono hb1.size)).mono (uh HW).bl)⟩
theorem nL(l:LU):aC l<=l.length:=by
 cases l with
 |nil=>simp[aC]
 |cons c r=>
  simp only[aC];split
  .exact(List.takeWhile_prefix _).length_le
  omega
theorem J3{p:UInt8->Bool}(l:LU):(l.take (l.takeWhile p).length)=l.takeWhile p:=by
 induction l with
 |nil=>rfl
 |cons c r ih=>
  by_cases h:p c=true
  .rw[List.takeWhile_cons_of_pos h];simp[ih]
  rw[List.takeWhile_cons_of_neg h];simp
theorem Ng{p:UInt8->Bool}(l:LU):(l.takeWhile p).takeWhile p=l.takeWhile p:=by
 induction l with
 |nil=>rfl
 |cons c r ih=>
  by_cases h:p c=true
  .rw[List.takeWhile_cons_of_pos h,List.takeWhile_cons_of_pos h,ih]
  rw[List.takeWhile_cons_of_neg h];rfl
theorem AJ(l:LU):aC (l.take (aC l))=aC l:=by
 cases l with
 |nil=>rfl
 |cons c r=>
  by_cases h:iF c=true
  .have e:aC (c::r)=((c::r).takeWhile c9).length:=by simp[aC,h]
   rw[e,J3];have hc:c9 c=true:=by simp[c9,h]
   rw[List.takeWhile_cons_of_pos hc];simp only[aC,h,if_true];rw[List.takeWhile_cons_of_pos hc,Ng]
  have e:aC (c::r)=0:=by simp[aC,h]
  rw[e];rfl
theorem Ar(l:LU):fN (l.take (aC l))=decide (aC l≠0/\aC l<=10):=by
 unfold fN;have hl:(l.take (aC l)).length=aC l:=by rw[List.length_take];have:=nL l;omega
 rw[AJ,hl];by_cases h0:aC l=0
 .rw[h0];simp
 have:(l.take (aC l) != [])=true:=by simp only[bne_iff_ne,ne_eq];intro e;have:=congrArg List.length e;rw[hl]at this;exact h0 this
 rw[this];simp[h0]
theorem dB.tb{w w':World}{rb:Nat}{s:BA}{k:Nat}(h:dB w rb s k)(hb:Bw w w'):dB w' rb s k:=h.below hb h.lt
def kF(w:World)(ev:Ending)(B rb wb:Nat)(s:BA)(k:Nat)(pl:Int)(xs:List bM):Prop:=match ie s.data.toList k with
 |none=>jm w ev 5 k
 |some (n,t)=>ev=.returned (.tuple #[])/\RW w B rb wb s t pl (xs++[.inr (n,k)])/\k<t/\t<=s.size
theorem Bc(B rb wb:Nat)(s:BA)(k:Nat)(pl:Int)(xs:List bM)(w:World)(h:RW w B rb wb s k pl xs)(hk:k<s.size)(hs:s.size<=1500)(ha:xs.length<=1500): Cl 85 #[.pointer (some ⟨rb,0,none⟩),.pointer (some ⟨wb,0,none⟩)] w λev w'=>kF w' ev B rb wb s k pl xs/\Tb B rb w w':=by
 have HW:=ab h;have c1:=h.rdr.c1;have z1:=h.rdr.fz 1;obtain⟨b,hb⟩:∃b,(s.data.toList[k+1]?==some 123)=b:=⟨_,rfl⟩
 obtain⟨f,hf⟩:=aq (if b=true then k+1+1 else k+1);have hfk:k<f:=by rw[hf];split<;>omega
 have hfs:f<=s.size:=by
  rw[hf];cases b with
  |false=>simp only[Bool.false_eq_true,if_false];omega
  |true=>
   have:=(gL (beq_iff_eq.1 hb))
   rw[<-zE]at this;simp only[if_true];omega
 have HV:Hid (ie s.data.toList k=if aC (s.data.toList.drop f)=0\/10<aC (s.data.toList.drop f)\/(b=true/\s.data.toList[f+aC (s.data.toList.drop f)]?≠some 125) then none else some ((s.data.toList.drop f).take (aC (s.data.toList.drop f)),if b then f+aC (s.data.toList.drop f)+1 else f+aC (s.data.toList.drop f))):=ab (by unfold ie;rw[hb,hf]);clear h;have HB:=ab hb;have HF:=ab hf;clear hb hf;go_enter func85,ntmps85;go_upto_region 2 with fail;have e:=wrap_i64 (k+1) (by omega);obtain⟨W2,hW2⟩:=aq (w.setCell ⟨rb,1,none⟩ (.int .i64 ((k+1:Nat):Int)));have hT2:Tb w.heap.size rb w W2:=by rw[hW2];exact Tb.to _ _ _ _ _
 have HW2:=ab ((uh HW).to hT2 (by rw[hW2];exact(uh HW).rdr.to (k+1)));rw[show ((k:Int)+1)=((k+1:Nat):Int) by omega,<-hW2];have hB2:=hT2.mono (uh HW).bl;have hK:=kL rb s ⟨#[123]⟩ (k+1) W2 (uh HW2).rdr (by omega) (by omega);rw[fP,uh HB,show (⟨#[123]⟩:BA).size=1 from rfl,<-uh HF]at hK;clear hW2 hT2 c1 z1 e;go_upto_region 3 with(go_at_call 56;refine hK.mono ?_;clear hK;rintro ev w3⟨rfl,hR3,hT3⟩)
 have HW3:=ab ((uh HW2).to hT3 hR3);have hB3:=hB2.trans (hT3.mono (uh HW2).bl);have hQ1:=kH rb s f w3 hR3 hfs;have hQ2:=λ(w':World) (h':Bw w3 w')=>kH rb s f w' (hR3.tb h') hfs;obtain⟨u,hu⟩:=aq (s.extract f s.size);rw[<-hu]at hQ1;simp only[<-hu]at hQ2;have hul:u.data.toList=s.data.toList.drop f:=by rw[hu,gZ]
 have hus:u.size<=1500:=by rw[zE,hul,List.length_drop,<-zE];omega
 have hN:=λw'=>yg u w' (by omega);rw[hul]at hN;obtain⟨n,hn⟩:=aq (aC (s.data.toList.drop f));simp only[<-hn]at hN;have hnu:n<=u.size:=by rw[hn,zE,hul];exact nL _
 have hnl:f+n<=s.size:=by rw[zE,hul,List.length_drop,<-zE]at hnu;omega
 rw[<-hn]at HV;have i0:(0:Int)<=(n:Int):=by omega
 have i1:(n:Int)<=(u.size:Int):=by omega
 have HUL:=ab hul;have HN:=ab hn;clear hT3 hR3 hu hul hn hus;go_upto_region 4 with(first|(go_at_call 81;refine hQ1.mono ?_;clear hQ1;rintro ev w4⟨rfl,hb4⟩)|(go_at_call 81;refine(hQ2 _ hb4).mono ?_;clear hQ2;rintro ev w5⟨rfl,hb5⟩)|(go_at_call 112;refine(hN _).mono ?_;clear hN;rintro ev w6⟨rfl,hw⟩;obtain rfl:=hw.symm))
 have hb35:=hb4.trans (hb5.mono hb4.size);have HW5:=ab ((uh HW3).below hb35);have hB5:=hB3.trans (Tb.of_below (hb35.mono (uh HW3).bl));obtain⟨nm,hnm⟩:=aq (u.extract 0 n);rw[<-hnm];have hml:nm.data.toList=(s.data.toList.drop f).take n:=by rw[hnm,ByteArray.data_extract,Array.toList_extract,List.extract_eq_take_drop,uh HUL];simp
 have hms:nm.size=n:=by rw[zE,hml,List.length_take,List.length_drop,<-zE];omega
 have hbt:nm=bt ((s.data.toList.drop f).take n):=by rw[<-hml,cF]
 have hIV:=λw'=>tK nm w' (by omega);have hvd:fN nm.data.toList=decide (n≠0/\n<=10):=by rw[hml,uh HN];exact Ar _
 simp only[hvd]at hIV;have c1:=(uh HW5).rdr.c1;have z1:=(uh HW5).rdr.fz 1;have HMS:=ab hms;have HBT:=ab hbt;have hms':(nm.size:Int)=(n:Int):=by omega
 clear hb4 hb5 hb35 hnm hml hms hbt hvd hnu;go_upto_region 5 with fail;have e:IntKind.i64.wrap ((f:Int)+(n:Int))=((f+n:Nat):Int):=by rw[<-Int.natCast_add];exact wrap_i64 (f+n) (by omega)
 obtain⟨W6,hW6⟩:=aq (w5.setCell ⟨rb,1,none⟩ (.int .i64 ((f+n:Nat):Int)));have hT6:Tb w5.heap.size rb w5 W6:=by rw[hW6];exact Tb.to _ _ _ _ _
 have HW6:=ab ((uh HW5).to hT6 (by rw[hW6];exact(uh HW5).rdr.to (f+n)));rw[show ((f:Int)+(n:Int))=((f+n:Nat):Int) by omega,<-hW6];have hB6:=hB5.trans (hT6.mono (uh HW5).bl);clear hW6 hT6 c1 z1 e hms';have hF:=λw'=>aZ 5 k w';by_cases hv:n≠0/\n<=10
 .rw[dT hv]at hIV;have hAV:=λ(w':World) (k':Nat) (h':RW w' B rb wb s k' pl xs)=>(let ⟨v,hv'⟩:=h'.wrd;Ak B wb pl v (parts xs) nm k w' hv' h'.bl (by have:=(rK xs).1;omega))
  have HAV:=ab hAV;clear hAV;have fin:∀(w7:World) (k':Nat),RW w7 B rb wb s k' pl xs->Tb B rb w w7->k<k'->k'<=s.size->ie s.data.toList k=some ((s.data.toList.drop f).take n,k')->∀(w8:World),(∃v',og w8 B wb pl v' (parts xs++[⟨nm,true,(k:Int)⟩]))->Below B w7 w8->kF w8 (.returned (.tuple #[])) B rb wb s k pl xs/\Tb B rb w w8:=by intro w7 k' h7 hT7 hk1 hk2 hG w8 h8 hb8;unfold kF;rw[hG];refine⟨⟨rfl,⟨h7.rdr.below hb8 h7.rl,?_,h7.rl,nT h7.bl hb8.size⟩,hk1,hk2⟩,hT7.trans (Tb.of_below hb8)⟩;rw[dJ];rw[uh HBT]at h8;exact h8
  have FIN:=ab fin;clear fin;cases b with
  |false=>
   have HG:Hid (ie s.data.toList k=some ((s.data.toList.drop f).take n,f+n)):=ab (by rw[uh HV,if_neg (by simp;omega)];rfl);clear HV;go_wp2_with (first|(go_at_call 113;refine(hIV _).mono ?_;clear hIV;rintro ev w7⟨rfl,hw⟩;obtain rfl:=hw.symm)|(go_at_call 114;refine(uh HAV W6 (f+n) (uh HW6)).mono ?_;rintro ev w8⟨rfl,hw8,hb8⟩))
   go_end0;exact uh FIN W6 (f+n) (uh HW6) hB6 (by omega) hnl (uh HG) w8 hw8 hb8
  |true=>
   have hK2:=kL rb s ⟨#[125]⟩ (f+n) W6 (uh HW6).rdr hnl (by omega);rw[fP,show (⟨#[125]⟩:BA).size=1 from rfl]at hK2;by_cases h5:s.data.toList[f+n]?=some 125
   .have HG:Hid (ie s.data.toList k=some ((s.data.toList.drop f).take n,f+n+1)):=ab (by rw[uh HV,if_neg (by simp[h5];omega)];rfl);have hlt:f+n<s.size:=by rw[zE];exact(gL h5)
    rw[h5]at hK2;simp only[BEq.rfl,if_true]at hK2;clear HV h5;go_wp2_with (first|(go_at_call 113;refine(hIV _).mono ?_;clear hIV;rintro ev w7⟨rfl,hw⟩;obtain rfl:=hw.symm)|(go_at_call 56;refine hK2.mono ?_;clear hK2;rintro ev w7⟨rfl,hR7,hT7⟩;have HW7:=ab ((uh HW6).to hT7 hR7);have hB7:Tb B rb w w7:=hB6.trans (hT7.mono (uh HW6).bl))|(go_at_call 114;refine(uh HAV w7 (f+n+1) (uh HW7)).mono ?_;rintro ev w8⟨rfl,hw8,hb8⟩))
    go_end0;exact uh FIN w7 (f+n+1) (uh HW7) hB7 (by omega) (by omega) (uh HG) w8 hw8 hb8
   have HG:Hid (ie s.data.toList k=none):=ab (by rw[uh HV,if_pos (.inr (.inr ⟨rfl,h5⟩))]);have h5':(s.data.toList[f+n]?==some 125)=false:=by simpa using h5
   rw[h5']at hK2;simp only[Bool.false_eq_true,if_false]at hK2;clear HV h5 h5';go_wp2_with (first|(go_at_call 113;refine(hIV _).mono ?_;clear hIV;rintro ev w7⟨rfl,hw⟩;obtain rfl:=hw.symm)|(go_at_call 56;refine hK2.mono ?_;clear hK2;rintro ev w7⟨rfl,hR7,hT7⟩;have hB7:Tb B rb w w7:=hB6.trans (hT7.mono (uh HW6).bl);have HZ:=ab (nT (uh HW6).bl hT7.size))|(go_at_call 35;refine(hF _).mono ?_;clear hF;rintro ev w8⟨bb,rfl,hc,hb8⟩))
   refine⟨rfl,?_,hB7.trans (Tb.of_below (hb8.mono (uh HZ)))⟩;unfold kF;rw[uh HG];exact⟨bb,rfl,hc⟩
 rw[dF hv]at hIV;have HG:Hid (ie s.data.toList k=none):=ab (by
  rw[uh HV,if_pos (by
   by_cases h0:n=0
   .exact .inl h0
   exact .inr (.inl (by omega)))])
 clear HV hv;go_wp2_with (first|(go_at_call 113;refine(hIV _).mono ?_;clear hIV;rintro ev w7⟨rfl,hw⟩;obtain rfl:=hw.symm)|(go_at_call 35;refine(hF _).mono ?_;clear hF;rintro ev w8⟨bb,rfl,hc,hb8⟩))
 refine⟨rfl,?_,hB6.trans (Tb.of_below (hb8.mono (uh HW6).bl))⟩;unfold kF;rw[uh HG];exact⟨bb,rfl,hc⟩
end Go.Proofs.YtjhobnjdfhkohaaGreatDoor
