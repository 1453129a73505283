import Derived.Test.YtehfpjcclknipaaGreatDoorJTPlaina
import Derived.Laws.AppendOwnNone
import Derived.Test.YtehfpjcclknipaaGreatDoorJRdX
namespace Go.Proofs.YtehfpjcclknipaaGreatDoor.R
open Go.Proofs.YtehfpjcclknipaaGreatDoor.T
open Go Go.RowKit
def run:List (List UInt8)→List (List UInt8)→Option (List (List UInt8))
 | out,[]=>some out
 | out,p :: r=>
   if p=[]∨p=[46] then run out r
   else if p=[46,46] then (if out=[] then none else run out.dropLast r)
   else if elt p=true then run (out++[p]) r else none
theorem run_skip {out r:List (List UInt8)}{p:List UInt8}(h:p=[]∨p=[46]):run out (p :: r)=run out r:=by rw [run,if_pos h]
theorem run_up {out r:List (List UInt8)}(h:out≠[]):run out ([46,46] :: r)=run out.dropLast r:=by rw [run,if_neg (by decide),if_pos rfl,if_neg h]
theorem run_up0 {r:List (List UInt8)}:run [] ([46,46] :: r)=none:=by rw [run,if_neg (by decide),if_pos rfl,if_pos rfl]
theorem run_el {out r:List (List UInt8)}{p:List UInt8}(h:elt p=true):run out (p :: r)=run (out++[p]) r:=by
 have h0:hdr p=false:=by
  cases hh:hdr p
  ·rfl
  ·rw [elt_hdr hh] at h;cases h
 obtain ⟨h1,_,h3,h4,_⟩:=hdr_parts h0
 rw [run,if_neg (by simp [h1,h3]),if_neg h4,if_pos h]
theorem run_bad {out r:List (List UInt8)}{p:List UInt8}(h1:p≠[]) (h2:p≠[46]) (h3:p≠[46,46]) (h:elt p=false):run out (p :: r)=none:=by
 rw [run,if_neg (by simp [h1,h2]),if_neg h3,if_neg (by simp [h])]
def wt (xs:List (List UInt8)):Nat:=(xs.map (fun x=>x.length+1)).sum
theorem wt_append (a b:List (List UInt8)):wt (a++b)=wt a+wt b:=by simp [wt]
theorem wt_cons (a:List UInt8) (b:List (List UInt8)):wt (a :: b)=a.length+1+wt b:=by simp [wt]
theorem wt_nil:wt []=0:=rfl
theorem wt_len (xs:List (List UInt8)):xs.length≤wt xs:=by
 induction xs with
 | nil=>simp [wt]
 | cons x r ih=>rw [wt_cons,List.length_cons];omega
theorem wt_dropLast (xs:List (List UInt8)):wt xs.dropLast≤wt xs:=by
 induction xs with
 | nil=>simp
 | cons x r ih=>
   cases r with
   | nil=>simp [wt]
   | cons y t=>rw [List.dropLast_cons_cons,wt_cons,wt_cons];omega
theorem wt_join (xs:List (List UInt8)):(Lib.join xs [47]).length≤wt xs:=by
 cases xs with
 | nil=>simp [Lib.join_nil]
 | cons x r=>
   rw [Lib.join_cons,List.length_append,Lib.joinTail_length,wt_cons]
   have:r.length+Lib.lens r=wt r:=by
    induction r with
    | nil=>rfl
    | cons y t ih=>rw [wt_cons,←ih];simp only [Lib.lens,List.length_cons,List.map_cons,List.sum_cons];omega
   simp only [List.length_cons,List.length_nil]
   omega
theorem wt_spl (l:List UInt8):wt (spl l)=l.length+1:=by
 induction l with
 | nil=>rfl
 | cons c r ih=>
   rw [spl]
   split
   ·rw [wt_cons,ih];simp;omega
   ·cases h:spl r with
    | nil=>exact absurd h (spl_ne r)
    | cons x y=>rw [h] at ih;rw [wt_cons] at ih;rw [wt_cons];simp;omega
theorem wt_prt (l:List UInt8):wt (prt l)≤l.length+1:=by
 unfold prt;split
 ·simp [wt]
 ·rw [wt_spl];omega
theorem drop_at {xs:List (List UInt8)}{k:Nat}{b:List UInt8}(h:xs[k]?=some b):xs.drop k=b :: xs.drop (k+1):=by
 obtain ⟨hl,rfl⟩:=List.getElem?_eq_some_iff.1 h
 exact List.drop_eq_getElem_cons hl
def Going (xs out0 out:List (List UInt8)) (k:Nat):Prop:=run out (xs.drop k)=run out0 xs∧wt out+wt (xs.drop k)≤wt out0+wt xs
theorem going0 (xs out0:List (List UInt8)):Going xs out0 out0 0:=⟨rfl,Nat.le_refl _⟩
theorem going_skip {xs out0 out:List (List UInt8)}{k:Nat}{b:List UInt8}(h:Going xs out0 out k) (hk:xs[k]?=some b) (hb:b=[]∨b=[46]):Going xs out0 out (k+1):=by
 obtain ⟨h1,h2⟩:=h
 rw [drop_at hk] at h1 h2
 rw [run_skip hb] at h1
 rw [wt_cons] at h2
 exact ⟨h1,by omega⟩
theorem going_up {xs out0 out:List (List UInt8)}{k:Nat}(h:Going xs out0 out k) (hk:xs[k]?=some [46,46]) (ho:out≠[]):Going xs out0 out.dropLast (k+1):=by
 obtain ⟨h1,h2⟩:=h
 rw [drop_at hk] at h1 h2
 rw [run_up ho] at h1
 rw [wt_cons] at h2
 have:=wt_dropLast out
 exact ⟨h1,by omega⟩
theorem going_el {xs out0 out:List (List UInt8)}{k:Nat}{b:List UInt8}(h:Going xs out0 out k) (hk:xs[k]?=some b) (hb:elt b=true):Going xs out0 (out++[b]) (k+1):=by
 obtain ⟨h1,h2⟩:=h
 rw [drop_at hk] at h1 h2
 rw [run_el hb] at h1
 rw [wt_cons] at h2
 refine ⟨h1,?_⟩
 rw [wt_append,wt_cons,wt_nil];omega
theorem going_up0 {xs out0:List (List UInt8)}{k:Nat}(h:Going xs out0 [] k) (hk:xs[k]?=some [46,46]):run out0 xs=none:=by
 rw [←h.1,drop_at hk,run_up0]
theorem going_bad {xs out0 out:List (List UInt8)}{k:Nat}{b:List UInt8}(h:Going xs out0 out k) (hk:xs[k]?=some b) (h1:b≠[]) (h2:b≠[46]) (h3:b≠[46,46]) (hb:elt b=false):run out0 xs=none:=by
 rw [←h.1,drop_at hk,run_bad h1 h2 h3 hb]
theorem going_end {xs out0 out:List (List UInt8)}{k:Nat}(h:Going xs out0 out k) (hk:xs.length≤k):run out0 xs=some out:=by
 rw [←h.1,List.drop_of_length_le hk];rfl
theorem going_wt {xs out0 out:List (List UInt8)}{k:Nat}(h:Going xs out0 out k):wt out≤wt out0+wt xs:=by have:=h.2;omega
def bgn (work text:List UInt8):List (List UInt8):=if text.head?=some 47 then [] else prt work
def fin:Option (List (List UInt8))→Option (List UInt8)
 | none=>none
 | some out=>if isP (Lib.join out [47])=true then some (Lib.join out [47]) else none
def res (work text:List UInt8):Option (List UInt8):=fin (run [] (bgn work text++spl text))
def resP (work text:List UInt8):Option (List UInt8):=if isP work=true then fin (run (bgn work text) (spl text)) else none
end Go.Proofs.YtehfpjcclknipaaGreatDoor.R
namespace Go.Proofs.YtehfpjcclknipaaGreatDoor.R
open Go.Proofs.YtehfpjcclknipaaGreatDoor.T
open Go.RowKit
theorem own_le {w:World}{B B':Nat}{v:Value}{e:TypeId}{size n:Nat}{xs:List Value}(h:w.ownsRow B e size v n xs) (hB:B'≤B):w.ownsRow B' e size v n xs:=by
 refine ⟨h.1,?_⟩
 rcases h.2 with hn | ⟨g,cap,cur,hv,hb,r⟩
 ·exact .inl hn
 ·exact .inr ⟨g,cap,cur,hv,by omega,r⟩
theorem own_below {w w':World}{B B':Nat}{g n cap:Nat}{ps:List ByteArray}(h:Own w B (.slice (some ⟨g,0,none⟩) n cap) ps) (hb:Below B' w w') (hg:g<B'):Own w' B (.slice (some ⟨g,0,none⟩) n cap) ps:=by
 refine ⟨h.1,?_⟩
 rcases h.2 with ⟨h0,_⟩ | ⟨g',cap',cur,hv,hbg,hh,r⟩
 ·cases h0
 ·have:g'=g:=by cases hv;rfl
  subst this
  exact .inr ⟨g',cap',cur,hv,hbg,(hb.block g' hg).trans hh,r⟩
theorem own_lt {w:World}{B g n cap:Nat}{ps:List ByteArray}(h:Own w B (.slice (some ⟨g,0,none⟩) n cap) ps):g<w.heap.size:=(h.lt g rfl).2
theorem own_append {w:World}{B:Nat}{v:Value}{ps qs:List ByteArray}{n:Nat}{xs:List Value}(h:w.ownsRow B 9 1 v n xs) (hn:n=(ps++qs).length) (hx:xs=(ps++qs).map Value.string):Own w B v (ps++qs):=by
 subst hn hx;exact h
theorem own_shape {w:World}{B:Nat}{v:Value}{ps:List ByteArray}(h:Own w B v ps):∃ ao cap,v=.slice ao ps.length cap:=by
 rcases h.2 with ⟨hv,h0⟩ | ⟨g,cap,cur,hv,_⟩
 ·exact ⟨none,0,by rw [h0];exact hv⟩
 ·exact ⟨_,cap,hv⟩
theorem own_cap {w:World}{B g n cap:Nat}{ps:List ByteArray}(h:Own w B (.slice (some ⟨g,0,none⟩) n cap) ps):n≤cap:=by
 rcases h.2 with ⟨h0,_⟩ | ⟨g',cap',cur,hv,hbg,hh,hn,_⟩
 ·cases h0
 ·cases hv;exact hn
theorem txts_snoc (ps:List ByteArray) (b:ByteArray):txts (ps++[b])=txts ps++[b.data.toList]:=by simp [txts]
theorem txts_dropLast (ps:List ByteArray):txts ps.dropLast=(txts ps).dropLast:=by simp [txts,List.map_dropLast]
theorem txts_ne {ps:List ByteArray}(h:ps≠[]):txts ps≠[]:=by simpa [txts] using h
theorem own_pop {w:World}{B g cap n:Nat}{ps:List ByteArray}(h:Own w B (.slice (some ⟨g,0,none⟩) ps.length cap) ps) (hn:ps.length=n+1):Own w B (.slice (some ⟨g,0,none⟩) n cap) ps.dropLast:=by
 have hne:ps≠[]:=by rintro rfl;simp at hn
 have hl:ps.dropLast.length=n:=by simp [hn]
 have e:ps.map Value.string=ps.dropLast.map Value.string++[.string (ps.getLast hne)]:=by
  conv=>lhs;rw [←List.dropLast_concat_getLast hne]
  simp
 unfold Own at h ⊢
 rw [hl]
 rw [hn,e] at h
 exact ownsRow_pop (by rw [List.length_map,hl];omega) h
theorem str_cases (b:ByteArray):(b.data.toList=[]∧b.toList.isEmpty=true∧(b.toList==[46])=false∧(b.toList==[46,46])=false)∨(b.data.toList=[46]∧b.toList.isEmpty=false∧(b.toList==[46])=true∧(b.toList==[46,46])=false) ∨
  (b.data.toList=[46,46]∧b.toList.isEmpty=false∧(b.toList==[46])=false∧(b.toList==[46,46])=true)∨((b.data.toList≠[]∧b.data.toList≠[46]∧b.data.toList≠[46,46])∧b.toList.isEmpty=false∧(b.toList==[46])=false∧(b.toList==[46,46])=false):=by
 rw [Lib.toList_data]
 by_cases h1:b.data.toList=[]
 ·left;rw [h1];decide
 ·by_cases h2:b.data.toList=[46]
  ·right;left;rw [h2];decide
  ·by_cases h3:b.data.toList=[46,46]
   ·right;right;left;rw [h3];decide
   ·right;right;right;exact ⟨⟨h1,h2,h3⟩,by cases hx:b.data.toList <;> simp_all,by simp [h2],by simp [h3]⟩
theorem wpList_append_apart {P:Program}(w:World) {ops:Array Oper}{rest:List Oper}{o:Oper}{a:Act}{Q:Exit→Act→World→Prop}(hgd:o.guard=none) (s x:Operand) (t:TypeId)
  (ho:o.op=.call { callee:=.builtin .append,args:=#[s,x],argTypes:=#[t,t] })
  (base:Nat) (e:TypeId) (i:TypeInfo) (z:Value) (size bytes:Nat) (ht:P.underlying t=some (.slice e)) (hi:P.info? e=some i) (hz:i.zero=some z)
  (hsize:i.size=size) (hby:i.bytes=bytes) (hzs:z.cells.size=size) (hsz:0<size)
  (v:Value) (n:Nat) (xs:List Value) (hs:a.eval s=v) (hown:w.ownsRow base e size v n xs)
  (ad:Addr) (m c:Nat) (news:List Value) (hx:a.eval x=.slice (some ad) m c) (hl:news.length=m*size) (hnews:∀ j u,news[j]?=some u→w.cell? (ad.add j)=some u) (h1:∀ u∈news,u.oneCell'=true)
  (hm:0<m) (h63:n+m≤maxLen) (hbytes:(n+m)*bytes≤140737488355328) (hbase:base≤w.heap.size)
  (h:∀ v' w',w'.ownsRow base e size v' (n+m) (xs++news)→w.grownBy w' v.ownBlock→(v'.ownBlock=v.ownBlock∨∀ k,v'.ownBlock=some k→w.heap.size≤k)→wpList P ops Q rest (a.put o.dst v') w'):wpList P ops Q (o :: rest) a w:=by
 have fresh:∀ v' w',w'.ownsRow w.heap.size e size v' (n+m) (xs++news)→w.grownBy w' none→wpList P ops Q rest (a.put o.dst v') w':=by
  intro v' w' r1 r2
  exact h v' w' (own_le r1 hbase) ⟨r2.os,r2.tape,r2.output,r2.size,fun k hk _=>r2.block k hk (by simp)⟩ (.inr fun k hk=>(r1.lt k hk).1)
 rcases hown.2 with ⟨rfl,rfl⟩ | ⟨g,cap,cur,rfl,hbg,hg,hnc,hcm,hcs,htake⟩
 ·exact wpList_append_grows w hgd s x t ho e i z size bytes ht hi hz hsize hby hzs hsz none 0 0 xs hs (fun _=>⟨rfl,rfl⟩) hown.1 (fun b hb=>by cases hb) ad m c news hx hl hnews h1 (by omega) h63 hbytes fresh
 ·by_cases hroom:n+m≤cap
  ·exact wpList_append_fits w hgd s x t ho base e i size ht hi hsize g n cap xs hs hown ad m c news hx hl hnews h1 hroom fun w' r1 r2=>h _ w' r1 r2 (.inl rfl)
  ·exact wpList_append_grows w hgd s x t ho e i z size bytes ht hi hz hsize hby hzs hsz (some ⟨g,0,none⟩) n cap xs hs (fun hb=>by cases hb) hown.1 (fun b hb=>by cases hb;exact hown.cells rfl) ad m c news hx hl hnews h1 (by omega) h63 hbytes fresh
theorem bgn_wt (s t:List UInt8):wt (bgn s t)≤s.length+1:=by
 unfold bgn;split
 ·simp [wt]
 ·exact wt_prt s
theorem split_kept {w w':World}{o:Obj}{B gs caps:Nat}{aps:List ByteArray}{v:Value}(h:Own w B (.slice (some ⟨gs,0,none⟩) aps.length caps) aps) (hg:(w.alloc o).grownBy w' v.ownBlock) (hne:v.ownBlock≠some gs):Own w' B (.slice (some ⟨gs,0,none⟩) aps.length caps) aps:=
 World.ownsRow.kept (World.ownsRow.alloc h o) hg (.inr (fun e=>hne e.symm))
theorem apart_ne {w:World}{o:Obj}{v v':Value}{gs:Nat}(h:v'.ownBlock=v.ownBlock∨∀ k,v'.ownBlock=some k→(w.alloc o).heap.size≤k) (hne:v.ownBlock≠some gs) (hg:gs<w.heap.size):v'.ownBlock≠some gs:=by
 rcases h with h | h
 ·rw [h];exact hne
 ·intro e
  have:=h gs e
  simp at this
  omega
def errV (o:Option (List UInt8)):Value:=match o with
 | some _=>.nilIface
 | none=>.iface 22 (.int .i64 1)
theorem ret_err {a b:ByteArray}{c d:Value}(h:a=b) (h2:c=d):Ending.returned (.tuple #[.string a,c])=.returned (.tuple #[.string b,d]):=by rw [h,h2]
theorem has47 (l:List UInt8):Lib.hasPrefix l [47]=decide (l.head?=some 47):=by
 cases l with
 | nil=>rfl
 | cons c r=>
   by_cases h:c=47
   ·subst h;simp [Lib.hasPrefix,List.isPrefixOf]
   ·simp [Lib.hasPrefix,List.isPrefixOf,h,Ne.symm h]
set_option maxHeartbeats 400000 in
theorem clone_any (s:ByteArray) (w:World) (hs:s.size≤281474976710656) :
  Calls Tryz.prog 90 #[.string s] w fun e w'=>e=.returned (.string s)∧Below w.heap.size w w':=by
 go_enter Tryz.func90,Tryz.ntmps90
 go_wp2_with (go_at_call 125;refine (Tryz.stringslite_Clone _ _ hs).mono ?_;rintro e w' ⟨rfl,hb⟩)
 go_ret
 exact ⟨rfl,hb⟩
theorem join_any (ao:Option Addr) (cap B:Nat) (ps:List ByteArray) (w:World) (hown:Own w B (.slice ao ps.length cap) ps) (hl:ps.length≤4294967280) (hM:(Lib.join (txts ps) [47]).length≤17179869184) :
  Calls Tryz.prog 115 #[.slice ao ps.length cap,.string ⟨#[47]⟩] w fun e w'=>e=.returned (.string (bs (Lib.join (txts ps) [47])))∧Below w.heap.size w w':=by
 by_cases ho:ps=[]
 ·subst ho
  refine (Tryz.strings_Join_none ao cap ⟨#[47]⟩ w).mono ?_
  rintro e w' ⟨rfl,rfl⟩
  exact ⟨rfl,Below.refl _ _⟩
 ·obtain ⟨g,cap',hv⟩:=own_form hown ho
  cases hv
  refine (Tryz.strings_Join g 0 cap ps ⟨#[47]⟩ w (fun j x hx=>by rw [Nat.zero_add];exact own_cell hown hx) (own_lt hown) (by omega) (own_cap hown) (by show (Lib.join (txts ps) [47]).length≤_;omega)).mono ?_
  rintro e w' ⟨rfl,hb⟩
  exact ⟨rfl,hb⟩
set_option maxHeartbeats 400000 in
theorem paths_bad (s t:ByteArray) (m:Int) (w:World) (hm:w.cell? ⟨14,0,none⟩=some (.int .i64 m)) (h:isP s.data.toList=false) :
  Calls Tryz.prog 281 #[.string s,.string t] w fun e w'=>e=.returned (.tuple #[.string (bs ((resP s.data.toList t.data.toList).getD [])),errV (resP s.data.toList t.data.toList)])∧Below w.heap.size w w':=by
 have HR:Hid (resP s.data.toList t.data.toList=none):=hide (by simp [resP,h])
 go_enter Tryz.func281,Tryz.ntmps281
 go_wp2_with (go_at_call 81;refine (is_any _ m _ hm).mono ?_;rintro e w1 ⟨rfl,hb1⟩)
 go_ret2
 exact ⟨ret_err (by rw [uh HR];rfl) (by rw [uh HR];rfl),hb1⟩
set_option maxHeartbeats 1600000 in
set_option maxRecDepth 100000 in
theorem paths_slash (s t:ByteArray) (m:Int) (w:World) (hs:s.size≤1073741824) (ht:t.size≤1073741824) (hm:w.cell? ⟨14,0,none⟩=some (.int .i64 m)) (h:isP s.data.toList=true) (hsl:t.data.toList.head?=some 47) :
  Calls Tryz.prog 281 #[.string s,.string t] w fun e w'=>e=.returned (.tuple #[.string (bs ((resP s.data.toList t.data.toList).getD [])),errV (resP s.data.toList t.data.toList)])∧Below w.heap.size w w':=by
 obtain ⟨i0,hi,hz0,hz1,hz2⟩:=info_parts Tryz.info9
 have HX0:Hid (resP s.data.toList t.data.toList=fin (run (bgn s.data.toList t.data.toList) (spl t.data.toList))):=hide (by simp [resP,h])
 have HW:Hid (wt (bgn s.data.toList t.data.toList)+wt (spl t.data.toList)≤2147483652):=hide (by have h1:=bgn_wt s.data.toList t.data.toList;rw [wt_spl,←Lib.size_eq];rw [←Lib.size_eq] at h1;omega)
 have HL:Hid (bgn s.data.toList t.data.toList=txts []):=hide (by simp [bgn,hsl,txts])
 have hpre:Lib.hasPrefix t.data.toList [47]=true:=by rw [has47];simp [hsl]
 clear hsl
 go_enter Tryz.func281,Tryz.ntmps281
 go_wp2_with (first
  | (go_at_call 81;refine (is_any _ m _ hm).mono ?_;rintro e w1 ⟨rfl,hb1⟩;have hm1:=(hb1.cell (p:=⟨14,0,none⟩) (World.block_lt_of_cell? _ _ hm)).trans hm)
  | (go_at_call 140;refine (hasPrefix_any _ _ _).mono ?_;rintro e w' ⟨rfl,rfl⟩)
  | (go_at_call 121;refine (split_any _ m _ (by omega) hm1).mono ?_;rintro e w2 ⟨gs,caps,aps,rfl,hown2',ht2,hb2',_⟩;have HT2:=hide ht2;clear ht2))
 obtain ⟨lps,hlps⟩:∃ lps:List ByteArray,lps=[]:=⟨[],rfl⟩
 have hb2:Below w.heap.size w w2:=hb1.trans (hb2'.mono hb1.size)
 have hown2:Own w2 w.heap.size (.slice (some ⟨gs,0,none⟩) aps.length caps) aps:=own_le hown2' hb1.size
 have hownl:Own w2 w.heap.size (.slice none 0 0) lps:=by rw [hlps];exact World.ownsRow_nil _ _ _ _
 have hnel:(Value.slice none 0 0).ownBlock≠some gs:=by simp [Value.ownBlock]
 rw [←hlps] at HL
 clear hown2' hb2' hb1 hm1 hlps
 have HX:Hid (resP s.data.toList t.data.toList=fin (run (bgn s.data.toList t.data.toList) (txts aps))):=hide (by rw [uh HX0,uh HT2])
 have hwt:Hid (wt (bgn s.data.toList t.data.toList)+wt (txts aps)≤4294967280):=hide (by rw [uh HT2];have:=uh HW;omega)
 have hal:aps.length≤4294967280:=by have:=wt_len (txts aps);rw [txts_len] at this;have:=uh hwt;omega
 clear HX0 HW HT2
 go_loopw [6,22] (fun v i wr=>∃ (k:Nat) (outs:List ByteArray),k≤aps.length∧i=.int .i64 k∧Own wr w.heap.size v outs∧Hid (v.ownBlock≠some gs)∧Own wr w.heap.size (.slice (some ⟨gs,0,none⟩) aps.length caps) aps∧Below w.heap.size w wr∧Hid (Going (txts aps) (bgn s.data.toList t.data.toList) (txts outs) k)) (fun _ i _=>aps.length-(intOf i).toNat)
 case atStart=>exact ⟨0,lps,Nat.zero_le _,rfl,hownl,hide hnel,hown2,hb2,hide (by rw [uh HL];exact going0 _ _)⟩
 case round=>
  obtain ⟨k,outs,hk,rfl,hown,HNE,hspl,hb,HG⟩:=hrel
  obtain ⟨ao,cap,rfl⟩:=own_shape hown
  have hne:=uh HNE
  have hol:outs.length≤4294967280:=by have h1:=wt_len (txts outs);rw [txts_len] at h1;have:=going_wt (uh HG);have:=uh hwt;omega
  have hsz:=hb.size
  by_cases hlt:k<aps.length
  ·obtain ⟨b,hbk⟩:∃ b,aps[k]?=some b:=⟨aps[k],List.getElem?_eq_getElem hlt⟩
   have hcell:wr.cell? ⟨gs,k,none⟩=some (.string b):=own_cell hspl hbk
   have HB:=hide (txts_get hbk)
   clear hbk
   rcases str_cases b with ⟨c0,c1,c2,c3⟩ | ⟨c0,c1,c2,c3⟩ | ⟨c0,c1,c2,c3⟩ | ⟨c0,c1,c2,c3⟩
   ·have G:=hide (going_skip (uh HG) (uh HB) (.inl c0))
    clear c0 hne
    go_wp2
    go_roundw
    case rel=>exact ⟨k+1,outs,by omega,by go_num,hown,HNE,hspl,hb,G⟩
    case measure=>simp [intOf];omega
   ·have G:=hide (going_skip (uh HG) (uh HB) (.inr c0))
    clear c0 hne
    go_wp2
    go_roundw
    case rel=>exact ⟨k+1,outs,by omega,by go_num,hown,HNE,hspl,hb,G⟩
    case measure=>simp [intOf];omega
   ·have hel:elt b.data.toList=false:=by rw [c0];decide
    rw [c0] at HB
    clear c0 hne
    by_cases ho:outs=[]
    ·subst ho
     have G:=hide (going_up0 (uh HG) (uh HB))
     go_wp2_with (go_at_call 119;refine (isEl_any _ _).mono ?_;rintro e w' ⟨rfl,hw⟩;obtain rfl:=hw.symm)
     go_ret2
     exact ⟨ret_err (by rw [uh HX,uh G];rfl) (by rw [uh HX,uh G];rfl),hb⟩
    ·have G:=hide (going_up (uh HG) (uh HB) (txts_ne ho))
     obtain ⟨n,hn⟩:∃ n,outs.length=n+1:=⟨outs.length-1,by have:=List.length_pos_iff.2 ho;omega⟩
     have hz:(0:Int)<outs.length:=by omega
     obtain ⟨g,cap',hv⟩:=own_form hown ho
     cases hv
     have hp:=own_pop hown hn
     have hcp:(1:Int)≤outs.length∧(outs.length:Int)-1≤cap:=by have:=own_cap hown;omega
     have HP:Hid (Own wr w.heap.size (.slice (some ⟨g,0,none⟩) (outs.length-1) cap) outs.dropLast):=hide (by rw [hn];exact hp)
     clear hn hp
     go_wp2
     go_roundw
     case rel=>exact ⟨k+1,outs.dropLast,by omega,by go_num,uh HP,hide (uh HNE),hspl,hb,hide (by rw [txts_dropLast];exact uh G)⟩
     case measure=>simp [intOf];omega
   ·cases hok:elt b.data.toList
    ·have G:=hide (going_bad (uh HG) (uh HB) c0.1 c0.2.1 c0.2.2 hok)
     clear c0 hne
     go_wp2_with (go_at_call 119;refine (isEl_any _ _).mono ?_;rintro e w' ⟨rfl,hw⟩;obtain rfl:=hw.symm)
     go_ret2
     exact ⟨ret_err (by rw [uh HX,uh G];rfl) (by rw [uh HX,uh G];rfl),hb⟩
    ·have G:=hide (going_el (uh HG) (uh HB) hok)
     clear c0
     go_wp2_with (first
      | (go_at_call 119;refine (isEl_any _ _).mono ?_;rintro e w' ⟨rfl,hw⟩;obtain rfl:=hw.symm)
      | (at_builtin;refine wpList_append_apart _ rfl _ _ 27 rfl w.heap.size 9 i0 (.string ByteArray.empty) 1 16 Tryz.underlying27 hi hz0 hz1 hz2 rfl (by decide) _ _ _ rfl (World.ownsRow.alloc hown _) ⟨wr.heap.size,0,none⟩ 1 1 [.string b] rfl rfl (cell_one_new _ _ _) (fun x hx=>by simp at hx;subst hx;rfl) (by decide) (by unfold maxLen;omega) (by omega) (by simp;omega) ?_;intro v' w3 hown' hgrow hap;have hb3:Below w.heap.size w w3:=(hb.alloc hsz _).grown hgrow (by simp;omega) (fun q hq=>(hown.lt q hq).1);have hs3:=split_kept hspl hgrow hne;have hn3:=apart_ne hap hne (own_lt hspl);have HO:=hide hown';have HS3:=hide hs3;have HN3:=hide hn3;clear hgrow hown' hap hs3 hn3))
     go_roundw
     case rel=>exact ⟨k+1,outs++[b],by omega,by go_num,own_append (uh HO) (by simp) (by simp),HN3,uh HS3,hb3,hide (by rw [txts_snoc];exact uh G)⟩
     case measure=>simp [intOf];omega
  ·have G:=hide (going_end (uh HG) (by rw [txts_len];omega))
   have hjl:Hid ((Lib.join (txts outs) [47]).length≤4294967280):=hide (by have h1:=wt_join (txts outs);have:=going_wt (uh HG);have:=uh hwt;omega)
   have HF:Hid (resP s.data.toList t.data.toList=if isP (Lib.join (txts outs) [47])=true then some (Lib.join (txts outs) [47]) else none):=hide (by rw [uh HX,uh G];rfl)
   have HJ:=hide (join_any ao cap _ outs wr hown hol (by have:=uh hjl;omega))
   have hmr:=(hb.cell (p:=⟨14,0,none⟩) (World.block_lt_of_cell? _ _ hm)).trans hm
   clear hne hm
   generalize hJ:Lib.join (txts outs) [47]=J at *
   have hJs:(bs J).size≤4294967280:=by have:=uh hjl;rw [Lib.size_eq,data_bs];omega
   clear hJ
   cases hp:isP (bs J).data.toList
   ·have HY:Hid (resP s.data.toList t.data.toList=none):=hide (by rw [uh HF,if_neg];rw [data_bs] at hp;simp [hp])
    go_wp2_with (first
     | (go_at_call 115;refine (uh HJ).mono ?_;rintro e w4 ⟨rfl,hb4⟩;have hm4:=(hb4.cell (p:=⟨14,0,none⟩) (World.block_lt_of_cell? _ _ hmr)).trans hmr)
     | (go_at_call 81;refine (is_any _ m _ hm4).mono ?_;rintro e w5 ⟨rfl,hb5⟩))
    go_ret2
    exact ⟨ret_err (by rw [uh HY];rfl) (by rw [uh HY];rfl),(hb.trans (hb4.mono hb.size)).trans (hb5.mono (Nat.le_trans hb.size hb4.size))⟩
   ·have HY:Hid (resP s.data.toList t.data.toList=some J):=hide (by rw [uh HF,if_pos];rw [data_bs] at hp;simp [hp])
    go_wp2_with (first
     | (go_at_call 115;refine (uh HJ).mono ?_;rintro e w4 ⟨rfl,hb4⟩;have hm4:=(hb4.cell (p:=⟨14,0,none⟩) (World.block_lt_of_cell? _ _ hmr)).trans hmr)
     | (go_at_call 81;refine (is_any _ m _ hm4).mono ?_;rintro e w5 ⟨rfl,hb5⟩)
     | (go_at_call 90;refine (clone_any _ _ (by omega)).mono ?_;rintro e w6 ⟨rfl,hb6⟩))
    go_ret2
    exact ⟨ret_err (by rw [uh HY];rfl) (by rw [uh HY];rfl),((hb.trans (hb4.mono hb.size)).trans (hb5.mono (Nat.le_trans hb.size hb4.size))).trans (hb6.mono (Nat.le_trans hb.size (Nat.le_trans hb4.size hb5.size)))⟩
set_option maxHeartbeats 1600000 in
set_option maxRecDepth 100000 in
theorem paths_nil (s t:ByteArray) (m:Int) (w:World) (hs:s.size≤1073741824) (ht:t.size≤1073741824) (hm:w.cell? ⟨14,0,none⟩=some (.int .i64 m)) (h:isP s.data.toList=true) (hsl:t.data.toList.head?≠some 47) (hE:s.data.toList=[]) :
  Calls Tryz.prog 281 #[.string s,.string t] w fun e w'=>e=.returned (.tuple #[.string (bs ((resP s.data.toList t.data.toList).getD [])),errV (resP s.data.toList t.data.toList)])∧Below w.heap.size w w':=by
 obtain ⟨i0,hi,hz0,hz1,hz2⟩:=info_parts Tryz.info9
 have HX0:Hid (resP s.data.toList t.data.toList=fin (run (bgn s.data.toList t.data.toList) (spl t.data.toList))):=hide (by simp [resP,h])
 have HW:Hid (wt (bgn s.data.toList t.data.toList)+wt (spl t.data.toList)≤2147483652):=hide (by have h1:=bgn_wt s.data.toList t.data.toList;rw [wt_spl,←Lib.size_eq];rw [←Lib.size_eq] at h1;omega)
 have HL:Hid (bgn s.data.toList t.data.toList=txts []):=hide (by simp [bgn,hsl,hE,prt_nil,txts])
 have hpre:Lib.hasPrefix t.data.toList [47]=false:=by rw [has47];simp [hsl]
 have HE:=hide hE
 clear hsl hE
 go_enter Tryz.func281,Tryz.ntmps281
 go_wp2_with (first
  | (go_at_call 81;refine (is_any _ m _ hm).mono ?_;rintro e w1 ⟨rfl,hb1⟩;have hm1:=(hb1.cell (p:=⟨14,0,none⟩) (World.block_lt_of_cell? _ _ hm)).trans hm)
  | (go_at_call 140;refine (hasPrefix_any _ _ _).mono ?_;rintro e w' ⟨rfl,rfl⟩)
  | (go_at_call 85;refine (elems_nil _ _ (uh HE)).mono ?_;rintro e w' ⟨rfl,rfl⟩)
  | (go_at_call 121;refine (split_any _ m _ (by omega) hm1).mono ?_;rintro e w2 ⟨gs,caps,aps,rfl,hown2',ht2,hb2',_⟩;have HT2:=hide ht2;clear ht2))
 obtain ⟨lps,hlps⟩:∃ lps:List ByteArray,lps=[]:=⟨[],rfl⟩
 have hb2:Below w.heap.size w w2:=hb1.trans (hb2'.mono hb1.size)
 have hown2:Own w2 w.heap.size (.slice (some ⟨gs,0,none⟩) aps.length caps) aps:=own_le hown2' hb1.size
 have hownl:Own w2 w.heap.size (.slice none 0 0) lps:=by rw [hlps];exact World.ownsRow_nil _ _ _ _
 have hnel:(Value.slice none 0 0).ownBlock≠some gs:=by simp [Value.ownBlock]
 rw [←hlps] at HL
 clear hown2' hb2' hb1 hm1 hlps
 have HX:Hid (resP s.data.toList t.data.toList=fin (run (bgn s.data.toList t.data.toList) (txts aps))):=hide (by rw [uh HX0,uh HT2])
 have hwt:Hid (wt (bgn s.data.toList t.data.toList)+wt (txts aps)≤4294967280):=hide (by rw [uh HT2];have:=uh HW;omega)
 have hal:aps.length≤4294967280:=by have:=wt_len (txts aps);rw [txts_len] at this;have:=uh hwt;omega
 clear HX0 HW HT2
 go_loopw [6,22] (fun v i wr=>∃ (k:Nat) (outs:List ByteArray),k≤aps.length∧i=.int .i64 k∧Own wr w.heap.size v outs∧Hid (v.ownBlock≠some gs)∧Own wr w.heap.size (.slice (some ⟨gs,0,none⟩) aps.length caps) aps∧Below w.heap.size w wr∧Hid (Going (txts aps) (bgn s.data.toList t.data.toList) (txts outs) k)) (fun _ i _=>aps.length-(intOf i).toNat)
 case atStart=>exact ⟨0,lps,Nat.zero_le _,rfl,hownl,hide hnel,hown2,hb2,hide (by rw [uh HL];exact going0 _ _)⟩
 case round=>
  obtain ⟨k,outs,hk,rfl,hown,HNE,hspl,hb,HG⟩:=hrel
  obtain ⟨ao,cap,rfl⟩:=own_shape hown
  have hne:=uh HNE
  have hol:outs.length≤4294967280:=by have h1:=wt_len (txts outs);rw [txts_len] at h1;have:=going_wt (uh HG);have:=uh hwt;omega
  have hsz:=hb.size
  by_cases hlt:k<aps.length
  ·obtain ⟨b,hbk⟩:∃ b,aps[k]?=some b:=⟨aps[k],List.getElem?_eq_getElem hlt⟩
   have hcell:wr.cell? ⟨gs,k,none⟩=some (.string b):=own_cell hspl hbk
   have HB:=hide (txts_get hbk)
   clear hbk
   rcases str_cases b with ⟨c0,c1,c2,c3⟩ | ⟨c0,c1,c2,c3⟩ | ⟨c0,c1,c2,c3⟩ | ⟨c0,c1,c2,c3⟩
   ·have G:=hide (going_skip (uh HG) (uh HB) (.inl c0))
    clear c0 hne
    go_wp2
    go_roundw
    case rel=>exact ⟨k+1,outs,by omega,by go_num,hown,HNE,hspl,hb,G⟩
    case measure=>simp [intOf];omega
   ·have G:=hide (going_skip (uh HG) (uh HB) (.inr c0))
    clear c0 hne
    go_wp2
    go_roundw
    case rel=>exact ⟨k+1,outs,by omega,by go_num,hown,HNE,hspl,hb,G⟩
    case measure=>simp [intOf];omega
   ·have hel:elt b.data.toList=false:=by rw [c0];decide
    rw [c0] at HB
    clear c0 hne
    by_cases ho:outs=[]
    ·subst ho
     have G:=hide (going_up0 (uh HG) (uh HB))
     go_wp2_with (go_at_call 119;refine (isEl_any _ _).mono ?_;rintro e w' ⟨rfl,hw⟩;obtain rfl:=hw.symm)
     go_ret2
     exact ⟨ret_err (by rw [uh HX,uh G];rfl) (by rw [uh HX,uh G];rfl),hb⟩
    ·have G:=hide (going_up (uh HG) (uh HB) (txts_ne ho))
     obtain ⟨n,hn⟩:∃ n,outs.length=n+1:=⟨outs.length-1,by have:=List.length_pos_iff.2 ho;omega⟩
     have hz:(0:Int)<outs.length:=by omega
     obtain ⟨g,cap',hv⟩:=own_form hown ho
     cases hv
     have hp:=own_pop hown hn
     have hcp:(1:Int)≤outs.length∧(outs.length:Int)-1≤cap:=by have:=own_cap hown;omega
     have HP:Hid (Own wr w.heap.size (.slice (some ⟨g,0,none⟩) (outs.length-1) cap) outs.dropLast):=hide (by rw [hn];exact hp)
     clear hn hp
     go_wp2
     go_roundw
     case rel=>exact ⟨k+1,outs.dropLast,by omega,by go_num,uh HP,hide (uh HNE),hspl,hb,hide (by rw [txts_dropLast];exact uh G)⟩
     case measure=>simp [intOf];omega
   ·cases hok:elt b.data.toList
    ·have G:=hide (going_bad (uh HG) (uh HB) c0.1 c0.2.1 c0.2.2 hok)
     clear c0 hne
     go_wp2_with (go_at_call 119;refine (isEl_any _ _).mono ?_;rintro e w' ⟨rfl,hw⟩;obtain rfl:=hw.symm)
     go_ret2
     exact ⟨ret_err (by rw [uh HX,uh G];rfl) (by rw [uh HX,uh G];rfl),hb⟩
    ·have G:=hide (going_el (uh HG) (uh HB) hok)
     clear c0
     go_wp2_with (first
      | (go_at_call 119;refine (isEl_any _ _).mono ?_;rintro e w' ⟨rfl,hw⟩;obtain rfl:=hw.symm)
      | (at_builtin;refine wpList_append_apart _ rfl _ _ 27 rfl w.heap.size 9 i0 (.string ByteArray.empty) 1 16 Tryz.underlying27 hi hz0 hz1 hz2 rfl (by decide) _ _ _ rfl (World.ownsRow.alloc hown _) ⟨wr.heap.size,0,none⟩ 1 1 [.string b] rfl rfl (cell_one_new _ _ _) (fun x hx=>by simp at hx;subst hx;rfl) (by decide) (by unfold maxLen;omega) (by omega) (by simp;omega) ?_;intro v' w3 hown' hgrow hap;have hb3:Below w.heap.size w w3:=(hb.alloc hsz _).grown hgrow (by simp;omega) (fun q hq=>(hown.lt q hq).1);have hs3:=split_kept hspl hgrow hne;have hn3:=apart_ne hap hne (own_lt hspl);have HO:=hide hown';have HS3:=hide hs3;have HN3:=hide hn3;clear hgrow hown' hap hs3 hn3))
     go_roundw
     case rel=>exact ⟨k+1,outs++[b],by omega,by go_num,own_append (uh HO) (by simp) (by simp),HN3,uh HS3,hb3,hide (by rw [txts_snoc];exact uh G)⟩
     case measure=>simp [intOf];omega
  ·have G:=hide (going_end (uh HG) (by rw [txts_len];omega))
   have hjl:Hid ((Lib.join (txts outs) [47]).length≤4294967280):=hide (by have h1:=wt_join (txts outs);have:=going_wt (uh HG);have:=uh hwt;omega)
   have HF:Hid (resP s.data.toList t.data.toList=if isP (Lib.join (txts outs) [47])=true then some (Lib.join (txts outs) [47]) else none):=hide (by rw [uh HX,uh G];rfl)
   have HJ:=hide (join_any ao cap _ outs wr hown hol (by have:=uh hjl;omega))
   have hmr:=(hb.cell (p:=⟨14,0,none⟩) (World.block_lt_of_cell? _ _ hm)).trans hm
   clear hne hm
   generalize hJ:Lib.join (txts outs) [47]=J at *
   have hJs:(bs J).size≤4294967280:=by have:=uh hjl;rw [Lib.size_eq,data_bs];omega
   clear hJ
   cases hp:isP (bs J).data.toList
   ·have HY:Hid (resP s.data.toList t.data.toList=none):=hide (by rw [uh HF,if_neg];rw [data_bs] at hp;simp [hp])
    go_wp2_with (first
     | (go_at_call 115;refine (uh HJ).mono ?_;rintro e w4 ⟨rfl,hb4⟩;have hm4:=(hb4.cell (p:=⟨14,0,none⟩) (World.block_lt_of_cell? _ _ hmr)).trans hmr)
     | (go_at_call 81;refine (is_any _ m _ hm4).mono ?_;rintro e w5 ⟨rfl,hb5⟩))
    go_ret2
    exact ⟨ret_err (by rw [uh HY];rfl) (by rw [uh HY];rfl),(hb.trans (hb4.mono hb.size)).trans (hb5.mono (Nat.le_trans hb.size hb4.size))⟩
   ·have HY:Hid (resP s.data.toList t.data.toList=some J):=hide (by rw [uh HF,if_pos];rw [data_bs] at hp;simp [hp])
    go_wp2_with (first
     | (go_at_call 115;refine (uh HJ).mono ?_;rintro e w4 ⟨rfl,hb4⟩;have hm4:=(hb4.cell (p:=⟨14,0,none⟩) (World.block_lt_of_cell? _ _ hmr)).trans hmr)
     | (go_at_call 81;refine (is_any _ m _ hm4).mono ?_;rintro e w5 ⟨rfl,hb5⟩)
     | (go_at_call 90;refine (clone_any _ _ (by omega)).mono ?_;rintro e w6 ⟨rfl,hb6⟩))
    go_ret2
    exact ⟨ret_err (by rw [uh HY];rfl) (by rw [uh HY];rfl),((hb.trans (hb4.mono hb.size)).trans (hb5.mono (Nat.le_trans hb.size hb4.size))).trans (hb6.mono (Nat.le_trans hb.size (Nat.le_trans hb4.size hb5.size)))⟩
set_option maxHeartbeats 1600000 in
set_option maxRecDepth 100000 in
theorem paths_row (s t:ByteArray) (m:Int) (w:World) (hs:s.size≤1073741824) (ht:t.size≤1073741824) (hm:w.cell? ⟨14,0,none⟩=some (.int .i64 m)) (h:isP s.data.toList=true) (hsl:t.data.toList.head?≠some 47) (hE:s.data.toList≠[]) :
  Calls Tryz.prog 281 #[.string s,.string t] w fun e w'=>e=.returned (.tuple #[.string (bs ((resP s.data.toList t.data.toList).getD [])),errV (resP s.data.toList t.data.toList)])∧Below w.heap.size w w':=by
 obtain ⟨i0,hi,hz0,hz1,hz2⟩:=info_parts Tryz.info9
 have HX0:Hid (resP s.data.toList t.data.toList=fin (run (bgn s.data.toList t.data.toList) (spl t.data.toList))):=hide (by simp [resP,h])
 have HW:Hid (wt (bgn s.data.toList t.data.toList)+wt (spl t.data.toList)≤2147483652):=hide (by have h1:=bgn_wt s.data.toList t.data.toList;rw [wt_spl,←Lib.size_eq];rw [←Lib.size_eq] at h1;omega)
 have HL0:Hid (bgn s.data.toList t.data.toList=spl s.data.toList):=hide (by simp [bgn,hsl,prt_ne hE])
 have hpre:Lib.hasPrefix t.data.toList [47]=false:=by rw [has47];simp [hsl]
 have HE:=hide hE
 clear hsl hE
 go_enter Tryz.func281,Tryz.ntmps281
 go_wp2_with (first
  | (go_at_call 81;refine (is_any _ m _ hm).mono ?_;rintro e w1 ⟨rfl,hb1⟩;have hm1:=(hb1.cell (p:=⟨14,0,none⟩) (World.block_lt_of_cell? _ _ hm)).trans hm)
  | (go_at_call 140;refine (hasPrefix_any _ _ _).mono ?_;rintro e w' ⟨rfl,rfl⟩)
  | (go_at_call 85;refine (elems_some _ m _ (by omega) hm1 (uh HE)).mono ?_;rintro e w3 ⟨gl,capl,lps,rfl,hownl0,htl,hb3,_⟩;have HTL:=hide htl;clear htl;have hm3:=(hb3.cell (p:=⟨14,0,none⟩) (World.block_lt_of_cell? _ _ hm1)).trans hm1)
  | (go_at_call 121;refine (split_any _ m _ (by omega) hm3).mono ?_;rintro e w2 ⟨gs,caps,aps,rfl,hown2',ht2,hb2',_⟩;have HT2:=hide ht2;clear ht2))
 have HL:Hid (bgn s.data.toList t.data.toList=txts lps):=hide (by rw [uh HL0,uh HTL])
 have hb2:Below w.heap.size w w2:=(hb1.trans (hb3.mono hb1.size)).trans (hb2'.mono (Nat.le_trans hb1.size hb3.size))
 have hown2:Own w2 w.heap.size (.slice (some ⟨gs,0,none⟩) aps.length caps) aps:=own_le hown2' (Nat.le_trans hb1.size hb3.size)
 have hownl:Own w2 w.heap.size (.slice (some ⟨gl,0,none⟩) lps.length capl) lps:=own_below (own_le hownl0 hb1.size) hb2' (own_lt hownl0)
 have hnel:(Value.slice (some ⟨gl,0,none⟩) lps.length capl).ownBlock≠some gs:=by
  have h1:=(hown2'.lt gs rfl).1
  have h2:=own_lt hownl0
  simp only [Value.ownBlock,ne_eq,Option.some.injEq]
  omega
 clear hown2' hownl0 hb2' hb3 hb1 hm1 hm3 HTL HL0
 have HX:Hid (resP s.data.toList t.data.toList=fin (run (bgn s.data.toList t.data.toList) (txts aps))):=hide (by rw [uh HX0,uh HT2])
 have hwt:Hid (wt (bgn s.data.toList t.data.toList)+wt (txts aps)≤4294967280):=hide (by rw [uh HT2];have:=uh HW;omega)
 have hal:aps.length≤4294967280:=by have:=wt_len (txts aps);rw [txts_len] at this;have:=uh hwt;omega
 clear HX0 HW HT2
 go_loopw [6,22] (fun v i wr=>∃ (k:Nat) (outs:List ByteArray),k≤aps.length∧i=.int .i64 k∧Own wr w.heap.size v outs∧Hid (v.ownBlock≠some gs)∧Own wr w.heap.size (.slice (some ⟨gs,0,none⟩) aps.length caps) aps∧Below w.heap.size w wr∧Hid (Going (txts aps) (bgn s.data.toList t.data.toList) (txts outs) k)) (fun _ i _=>aps.length-(intOf i).toNat)
 case atStart=>exact ⟨0,lps,Nat.zero_le _,rfl,hownl,hide hnel,hown2,hb2,hide (by rw [uh HL];exact going0 _ _)⟩
 case round=>
  obtain ⟨k,outs,hk,rfl,hown,HNE,hspl,hb,HG⟩:=hrel
  obtain ⟨ao,cap,rfl⟩:=own_shape hown
  have hne:=uh HNE
  have hol:outs.length≤4294967280:=by have h1:=wt_len (txts outs);rw [txts_len] at h1;have:=going_wt (uh HG);have:=uh hwt;omega
  have hsz:=hb.size
  by_cases hlt:k<aps.length
  ·obtain ⟨b,hbk⟩:∃ b,aps[k]?=some b:=⟨aps[k],List.getElem?_eq_getElem hlt⟩
   have hcell:wr.cell? ⟨gs,k,none⟩=some (.string b):=own_cell hspl hbk
   have HB:=hide (txts_get hbk)
   clear hbk
   rcases str_cases b with ⟨c0,c1,c2,c3⟩ | ⟨c0,c1,c2,c3⟩ | ⟨c0,c1,c2,c3⟩ | ⟨c0,c1,c2,c3⟩
   ·have G:=hide (going_skip (uh HG) (uh HB) (.inl c0))
    clear c0 hne
    go_wp2
    go_roundw
    case rel=>exact ⟨k+1,outs,by omega,by go_num,hown,HNE,hspl,hb,G⟩
    case measure=>simp [intOf];omega
   ·have G:=hide (going_skip (uh HG) (uh HB) (.inr c0))
    clear c0 hne
    go_wp2
    go_roundw
    case rel=>exact ⟨k+1,outs,by omega,by go_num,hown,HNE,hspl,hb,G⟩
    case measure=>simp [intOf];omega
   ·have hel:elt b.data.toList=false:=by rw [c0];decide
    rw [c0] at HB
    clear c0 hne
    by_cases ho:outs=[]
    ·subst ho
     have G:=hide (going_up0 (uh HG) (uh HB))
     go_wp2_with (go_at_call 119;refine (isEl_any _ _).mono ?_;rintro e w' ⟨rfl,hw⟩;obtain rfl:=hw.symm)
     go_ret2
     exact ⟨ret_err (by rw [uh HX,uh G];rfl) (by rw [uh HX,uh G];rfl),hb⟩
    ·have G:=hide (going_up (uh HG) (uh HB) (txts_ne ho))
     obtain ⟨n,hn⟩:∃ n,outs.length=n+1:=⟨outs.length-1,by have:=List.length_pos_iff.2 ho;omega⟩
     have hz:(0:Int)<outs.length:=by omega
     obtain ⟨g,cap',hv⟩:=own_form hown ho
     cases hv
     have hp:=own_pop hown hn
     have hcp:(1:Int)≤outs.length∧(outs.length:Int)-1≤cap:=by have:=own_cap hown;omega
     have HP:Hid (Own wr w.heap.size (.slice (some ⟨g,0,none⟩) (outs.length-1) cap) outs.dropLast):=hide (by rw [hn];exact hp)
     clear hn hp
     go_wp2
     go_roundw
     case rel=>exact ⟨k+1,outs.dropLast,by omega,by go_num,uh HP,hide (uh HNE),hspl,hb,hide (by rw [txts_dropLast];exact uh G)⟩
     case measure=>simp [intOf];omega
   ·cases hok:elt b.data.toList
    ·have G:=hide (going_bad (uh HG) (uh HB) c0.1 c0.2.1 c0.2.2 hok)
     clear c0 hne
     go_wp2_with (go_at_call 119;refine (isEl_any _ _).mono ?_;rintro e w' ⟨rfl,hw⟩;obtain rfl:=hw.symm)
     go_ret2
     exact ⟨ret_err (by rw [uh HX,uh G];rfl) (by rw [uh HX,uh G];rfl),hb⟩
    ·have G:=hide (going_el (uh HG) (uh HB) hok)
     clear c0
     go_wp2_with (first
      | (go_at_call 119;refine (isEl_any _ _).mono ?_;rintro e w' ⟨rfl,hw⟩;obtain rfl:=hw.symm)
      | (at_builtin;refine wpList_append_apart _ rfl _ _ 27 rfl w.heap.size 9 i0 (.string ByteArray.empty) 1 16 Tryz.underlying27 hi hz0 hz1 hz2 rfl (by decide) _ _ _ rfl (World.ownsRow.alloc hown _) ⟨wr.heap.size,0,none⟩ 1 1 [.string b] rfl rfl (cell_one_new _ _ _) (fun x hx=>by simp at hx;subst hx;rfl) (by decide) (by unfold maxLen;omega) (by omega) (by simp;omega) ?_;intro v' w3 hown' hgrow hap;have hb3:Below w.heap.size w w3:=(hb.alloc hsz _).grown hgrow (by simp;omega) (fun q hq=>(hown.lt q hq).1);have hs3:=split_kept hspl hgrow hne;have hn3:=apart_ne hap hne (own_lt hspl);have HO:=hide hown';have HS3:=hide hs3;have HN3:=hide hn3;clear hgrow hown' hap hs3 hn3))
     go_roundw
     case rel=>exact ⟨k+1,outs++[b],by omega,by go_num,own_append (uh HO) (by simp) (by simp),HN3,uh HS3,hb3,hide (by rw [txts_snoc];exact uh G)⟩
     case measure=>simp [intOf];omega
  ·have G:=hide (going_end (uh HG) (by rw [txts_len];omega))
   have hjl:Hid ((Lib.join (txts outs) [47]).length≤4294967280):=hide (by have h1:=wt_join (txts outs);have:=going_wt (uh HG);have:=uh hwt;omega)
   have HF:Hid (resP s.data.toList t.data.toList=if isP (Lib.join (txts outs) [47])=true then some (Lib.join (txts outs) [47]) else none):=hide (by rw [uh HX,uh G];rfl)
   have HJ:=hide (join_any ao cap _ outs wr hown hol (by have:=uh hjl;omega))
   have hmr:=(hb.cell (p:=⟨14,0,none⟩) (World.block_lt_of_cell? _ _ hm)).trans hm
   clear hne hm
   generalize hJ:Lib.join (txts outs) [47]=J at *
   have hJs:(bs J).size≤4294967280:=by have:=uh hjl;rw [Lib.size_eq,data_bs];omega
   clear hJ
   cases hp:isP (bs J).data.toList
   ·have HY:Hid (resP s.data.toList t.data.toList=none):=hide (by rw [uh HF,if_neg];rw [data_bs] at hp;simp [hp])
    go_wp2_with (first
     | (go_at_call 115;refine (uh HJ).mono ?_;rintro e w4 ⟨rfl,hb4⟩;have hm4:=(hb4.cell (p:=⟨14,0,none⟩) (World.block_lt_of_cell? _ _ hmr)).trans hmr)
     | (go_at_call 81;refine (is_any _ m _ hm4).mono ?_;rintro e w5 ⟨rfl,hb5⟩))
    go_ret2
    exact ⟨ret_err (by rw [uh HY];rfl) (by rw [uh HY];rfl),(hb.trans (hb4.mono hb.size)).trans (hb5.mono (Nat.le_trans hb.size hb4.size))⟩
   ·have HY:Hid (resP s.data.toList t.data.toList=some J):=hide (by rw [uh HF,if_pos];rw [data_bs] at hp;simp [hp])
    go_wp2_with (first
     | (go_at_call 115;refine (uh HJ).mono ?_;rintro e w4 ⟨rfl,hb4⟩;have hm4:=(hb4.cell (p:=⟨14,0,none⟩) (World.block_lt_of_cell? _ _ hmr)).trans hmr)
     | (go_at_call 81;refine (is_any _ m _ hm4).mono ?_;rintro e w5 ⟨rfl,hb5⟩)
     | (go_at_call 90;refine (clone_any _ _ (by omega)).mono ?_;rintro e w6 ⟨rfl,hb6⟩))
    go_ret2
    exact ⟨ret_err (by rw [uh HY];rfl) (by rw [uh HY];rfl),((hb.trans (hb4.mono hb.size)).trans (hb5.mono (Nat.le_trans hb.size hb4.size))).trans (hb6.mono (Nat.le_trans hb.size (Nat.le_trans hb4.size hb5.size)))⟩
end Go.Proofs.YtehfpjcclknipaaGreatDoor.R
