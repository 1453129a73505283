import Derived.Test.YtjhobnjdfhkohaaGreatDoorXAT
set_option linter.all false
namespace Go.Proofs.YtjhobnjdfhkohaaGreatDoor.T
open Go.Proofs.Tryz
open Go.RowKit Go.ChangeShapes Go.WideShapes Go.Deep
def litT{H:Type}(e:Tg):DataW H:=.agg [.lit (.int .i64 e.a),.lit (.int .i64 e.b),.lit (.int .i64 e.c),.lit (.string e.d.data.toList)]
def Tg.cells(e:Tg):List Value:=[.int .i64 e.a,.int .i64 e.b,.int .i64 e.c,.string e.d]
structure OkT(e:Tg):Prop where
 a:(Lit.int .i64 e.a).wf=true
 b:(Lit.int .i64 e.b).wf=true
 c:(Lit.int .i64 e.c).wf=true
 d:e.d.size<=maxLen
theorem fK:prog.cellsOf 41=4:=by kernel_rfl
theorem fA:prog.cellsOf 55=4:=by kernel_rfl
theorem mY:prog.cellsOf 9=1:=by kernel_rfl
theorem gc:prog.cellsOf 3=1:=by kernel_rfl
theorem II{α:Type}{l:List α}(h:l.length=4):∃a b c d,l=[a,b,c,d]:=by
 match l,h with
 |[a,b,c,d],_=>exact⟨a,b,c,d,rfl⟩
theorem ua(n:Nat):(List.range n).flatMap (λ_=>([]:List MemPlace))=[]:=List.flatMap_eq_nil_iff.2 (λ_ _=>rfl)
section
variable {H:Type}{enc:TypeId×Value->H}{w:World}{base:Nat}{spare:Nat->Bool}{held:Bool}
theorem wQ{fuel:Nat}{cs:List Value}{x:DataW H×List MemPlace}(h:DataW.trod enc prog w base spare held fuel 41 cs=some x):∃e:Tg,cs=e.cells/\x=(litT e,[])/\OkT e:=by
 obtain⟨xs,n,rfl,hx,hl,hxl,hf⟩:=DataW.trod_struct underlying41 h;rw[fK]at hl;have hx4:xs.length=4:=hxl;clear hxl h;obtain⟨y0,y1,y2,y3,rfl⟩:=II hx4;obtain⟨v0,v1,v2,v3,rfl⟩:=II hl;skip;have g0:DataW.trod enc prog w base spare held n 3 (List.take (prog.cellsOf 3) (List.drop 0 [v0,v1,v2,v3]))=some y0:=hf 0 _ rfl;rw[gc]at g0;replace g0:DataW.trod enc prog w base spare held n 3 [v0]=some y0:=g0;have g1:DataW.trod enc prog w base spare held n 3 (List.take (prog.cellsOf 3) (List.drop 1 [v0,v1,v2,v3]))=some y1:=hf 1 _ rfl;rw[gc]at g1;replace g1:DataW.trod enc prog w base spare held n 3 [v1]=some y1:=g1;have g2:DataW.trod enc prog w base spare held n 3 (List.take (prog.cellsOf 3) (List.drop 2 [v0,v1,v2,v3]))=some y2:=hf 2 _ rfl;rw[gc]at g2;replace g2:DataW.trod enc prog w base spare held n 3 [v2]=some y2:=g2;have g3:DataW.trod enc prog w base spare held n 9 (List.take (prog.cellsOf 9) (List.drop 3 [v0,v1,v2,v3]))=some y3:=hf 3 _ rfl;rw[mY]at g3;replace g3:DataW.trod enc prog w base spare held n 9 [v3]=some y3:=g3;obtain⟨k0,e0,rfl,z0⟩:=DataW.trod_int underlying3 g0;obtain⟨k1,e1,rfl,z1⟩:=DataW.trod_int underlying3 g1;obtain⟨k2,e2,rfl,z2⟩:=DataW.trod_int underlying3 g2;obtain⟨s3,e3,rfl,z3⟩:=DataW.trod_string underlying9 g3;have q0:v0=.int .i64 k0:=by simpa using e0
 subst q0;have q1:v1=.int .i64 k1:=by simpa using e1
 subst q1;have q2:v2=.int .i64 k2:=by simpa using e2
 subst q2;have q3:v3=.string s3:=by simpa using e3
 subst q3;exact⟨⟨k0,k1,k2,s3⟩,rfl,hx.trans (by simp[litT]),⟨z0,z1,z2,z3⟩⟩
theorem EU{e:Tg}(h:OkT e):DataW.trod enc prog w base spare held 2 41 e.cells=some (litT e,[]):=by have:=trod_struct_mk (enc:=enc) (w:=w) (base:=base) (spare:=spare) (held:=held) (n:=1) (cs:=e.cells) (xs:=[(.lit (.int .i64 e.a),[]),(.lit (.int .i64 e.b),[]),(.lit (.int .i64 e.c),[]),(.lit (.string e.d.data.toList),[])]) underlying41 (by rw[fK];rfl) (by simp[Tg.cells,mY,gc,DataW.trod,underlying9,underlying3,h.a,h.b,h.c,h.d]);simpa[litT]using this
theorem open_tgsL{v:Value}{d:DataW H}{p:List MemPlace}(hv:v.cells.toList=[v])(h:DataW.Trod enc prog w 0 (λ_=>true) true 22 v d p): (v=.slice none 0 0/\d=.nil/\p=[])\/∃(a:Addr) (len cap:Nat) (E:Nat->Tg),v=.slice (some a) len cap/\len<=cap/\cap<=maxLen/\d=.slice ((List.range len).map λi=>litT (E i)) ((List.range (cap-len)).map λj=>litT (E (len+j)))/\p=MemPlace.row a (cap*4)/\∀i,i<cap->OkT (E i)/\a.spot=none/\w.cells? 0 (a.add (i*4)) 4=some (E i).cells:=by
 obtain⟨fuel,hf⟩:=h;rw[hv]at hf;rcases open_slice underlying22 hf with⟨h1,h2⟩|⟨a,len,cap,m,n,D,Pl,h1,_,hl,hm,hmm,h2,hx⟩
 .cases h2;exact .inl ⟨List.singleton_inj.1 h1,rfl,rfl⟩
 right;obtain rfl:m=cap:=hmm;have each:∀i,i<m->∃e:Tg,D i=litT e/\Pl i=[]/\OkT e/\a.spot=none/\w.cells? 0 (a.add (i*4)) 4=some e.cells:=by
  intro i hi;obtain⟨cs',g1,g2⟩:=hx i hi;rw[fK]at g1;obtain⟨e,rfl,g3,g4⟩:=wQ g2;have g5:=congrArg Prod.fst g3;have g6:=congrArg Prod.snd g3;refine⟨e,g5,g6,g4,?_,g1⟩;obtain⟨cs0,q1,q2⟩:=hx 0 (Nat.lt_of_le_of_lt (Nat.zero_le _) hi);simp only[fK,Nat.zero_mul,Addr.add_zero']at q1;obtain⟨e0,rfl,_,_⟩:=wQ q2;have q3:=(World.cells?_some q1).2.2 0 (by decide);simp only[Addr.add_zero']at q3;cases hs:a.spot with
  |none=>rfl
  |some y=>unfold World.cell? at q3;rw[hs]at q3;split at q3<;>simp[Tg.cells]at q3
 haveI:Inhabited Tg:=⟨⟨0,0,0,ByteArray.empty⟩⟩;obtain⟨E,hE⟩:=choose_lt each;cases h2;refine⟨a,len,m,E,List.singleton_inj.1 h1,hl,hm,?_,?_,λi hi=>⟨(hE i hi).2.2.1,(hE i hi).2.2.2.1,(hE i hi).2.2.2.2⟩⟩
 .rw[List.map_congr_left (λi hi=>(hE i (by have:=List.mem_range.1 hi;omega)).1),List.map_congr_left (λj hj=>(hE (len+j) (by have:=List.mem_range.1 hj;omega)).1)]
 rw[fK,flatMap_congr_range (λi hi=>(hE i hi).2.1),List.flatMap_eq_nil_iff.2 (λ_ _=>rfl),List.append_nil]
theorem shut_tgsL{a:Addr}{len cap:Nat}{E:Nat->Tg}(hl:len<=cap)(hm:cap<=maxLen)(hsp:spare a.block=true)(hx:∀i,i<cap->OkT (E i)/\w.cells? 0 (a.add (i*4)) 4=some (E i).cells): DataW.Trod enc prog w 0 spare held 22 (.slice (some a) len cap) (.slice ((List.range len).map λi=>litT (E i)) ((List.range (cap-len)).map λj=>litT (E (len+j)))) (MemPlace.row a (cap*4)):=by have h:=shut_slice_whole (enc:=enc) (w:=w) (base:=0) (held:=held) underlying22 (Nat.zero_le _) hl hm hsp (λi=>litT (E i)) (λ_=>[]) (λi hi=>⟨(E i).cells,2,by rw[fK];exact(hx i hi).2,EU (hx i hi).1⟩);rw[fK,ua,List.append_nil]at h;exact h
end
section
variable {H:Type}{enc:TypeId×Value->H}{w:World}{base:Nat}{spare:Nat->Bool}{held:Bool}
theorem xv{fuel:Nat}{cs:List Value}{x:DataW H×List MemPlace}(h:DataW.trod enc prog w base spare held fuel 55 cs=some x):∃e:Tg,cs=e.cells/\x=(litT e,[])/\OkT e:=by
 obtain⟨xs,n,rfl,hx,hl,hxl,hf⟩:=DataW.trod_struct underlying55 h;rw[fA]at hl;have hx4:xs.length=4:=hxl;clear hxl h;obtain⟨y0,y1,y2,y3,rfl⟩:=II hx4;obtain⟨v0,v1,v2,v3,rfl⟩:=II hl;skip;have g0:DataW.trod enc prog w base spare held n 3 (List.take (prog.cellsOf 3) (List.drop 0 [v0,v1,v2,v3]))=some y0:=hf 0 _ rfl;rw[gc]at g0;replace g0:DataW.trod enc prog w base spare held n 3 [v0]=some y0:=g0;have g1:DataW.trod enc prog w base spare held n 3 (List.take (prog.cellsOf 3) (List.drop 1 [v0,v1,v2,v3]))=some y1:=hf 1 _ rfl;rw[gc]at g1;replace g1:DataW.trod enc prog w base spare held n 3 [v1]=some y1:=g1;have g2:DataW.trod enc prog w base spare held n 3 (List.take (prog.cellsOf 3) (List.drop 2 [v0,v1,v2,v3]))=some y2:=hf 2 _ rfl;rw[gc]at g2;replace g2:DataW.trod enc prog w base spare held n 3 [v2]=some y2:=g2;have g3:DataW.trod enc prog w base spare held n 9 (List.take (prog.cellsOf 9) (List.drop 3 [v0,v1,v2,v3]))=some y3:=hf 3 _ rfl;rw[mY]at g3;replace g3:DataW.trod enc prog w base spare held n 9 [v3]=some y3:=g3;obtain⟨k0,e0,rfl,z0⟩:=DataW.trod_int underlying3 g0;obtain⟨k1,e1,rfl,z1⟩:=DataW.trod_int underlying3 g1;obtain⟨k2,e2,rfl,z2⟩:=DataW.trod_int underlying3 g2;obtain⟨s3,e3,rfl,z3⟩:=DataW.trod_string underlying9 g3;have q0:v0=.int .i64 k0:=by simpa using e0
 subst q0;have q1:v1=.int .i64 k1:=by simpa using e1
 subst q1;have q2:v2=.int .i64 k2:=by simpa using e2
 subst q2;have q3:v3=.string s3:=by simpa using e3
 subst q3;exact⟨⟨k0,k1,k2,s3⟩,rfl,hx.trans (by simp[litT]),⟨z0,z1,z2,z3⟩⟩
theorem F0{e:Tg}(h:OkT e):DataW.trod enc prog w base spare held 2 55 e.cells=some (litT e,[]):=by have:=trod_struct_mk (enc:=enc) (w:=w) (base:=base) (spare:=spare) (held:=held) (n:=1) (cs:=e.cells) (xs:=[(.lit (.int .i64 e.a),[]),(.lit (.int .i64 e.b),[]),(.lit (.int .i64 e.c),[]),(.lit (.string e.d.data.toList),[])]) underlying55 (by rw[fA];rfl) (by simp[Tg.cells,mY,gc,DataW.trod,underlying9,underlying3,h.a,h.b,h.c,h.d]);simpa[litT]using this
theorem open_tgsC{v:Value}{d:DataW H}{p:List MemPlace}(hv:v.cells.toList=[v])(h:DataW.Trod enc prog w 0 (λ_=>true) true 23 v d p): (v=.slice none 0 0/\d=.nil/\p=[])\/∃(a:Addr) (len cap:Nat) (E:Nat->Tg),v=.slice (some a) len cap/\len<=cap/\cap<=maxLen/\d=.slice ((List.range len).map λi=>litT (E i)) ((List.range (cap-len)).map λj=>litT (E (len+j)))/\p=MemPlace.row a (cap*4)/\∀i,i<cap->OkT (E i)/\a.spot=none/\w.cells? 0 (a.add (i*4)) 4=some (E i).cells:=by
 obtain⟨fuel,hf⟩:=h;rw[hv]at hf;rcases open_slice underlying23 hf with⟨h1,h2⟩|⟨a,len,cap,m,n,D,Pl,h1,_,hl,hm,hmm,h2,hx⟩
 .cases h2;exact .inl ⟨List.singleton_inj.1 h1,rfl,rfl⟩
 right;obtain rfl:m=cap:=hmm;have each:∀i,i<m->∃e:Tg,D i=litT e/\Pl i=[]/\OkT e/\a.spot=none/\w.cells? 0 (a.add (i*4)) 4=some e.cells:=by
  intro i hi;obtain⟨cs',g1,g2⟩:=hx i hi;rw[fA]at g1;obtain⟨e,rfl,g3,g4⟩:=xv g2;have g5:=congrArg Prod.fst g3;have g6:=congrArg Prod.snd g3;refine⟨e,g5,g6,g4,?_,g1⟩;obtain⟨cs0,q1,q2⟩:=hx 0 (Nat.lt_of_le_of_lt (Nat.zero_le _) hi);simp only[fA,Nat.zero_mul,Addr.add_zero']at q1;obtain⟨e0,rfl,_,_⟩:=xv q2;have q3:=(World.cells?_some q1).2.2 0 (by decide);simp only[Addr.add_zero']at q3;cases hs:a.spot with
  |none=>rfl
  |some y=>unfold World.cell? at q3;rw[hs]at q3;split at q3<;>simp[Tg.cells]at q3
 haveI:Inhabited Tg:=⟨⟨0,0,0,ByteArray.empty⟩⟩;obtain⟨E,hE⟩:=choose_lt each;cases h2;refine⟨a,len,m,E,List.singleton_inj.1 h1,hl,hm,?_,?_,λi hi=>⟨(hE i hi).2.2.1,(hE i hi).2.2.2.1,(hE i hi).2.2.2.2⟩⟩
 .rw[List.map_congr_left (λi hi=>(hE i (by have:=List.mem_range.1 hi;omega)).1),List.map_congr_left (λj hj=>(hE (len+j) (by have:=List.mem_range.1 hj;omega)).1)]
 rw[fA,flatMap_congr_range (λi hi=>(hE i hi).2.1),List.flatMap_eq_nil_iff.2 (λ_ _=>rfl),List.append_nil]
theorem shut_tgsC{a:Addr}{len cap:Nat}{E:Nat->Tg}(hl:len<=cap)(hm:cap<=maxLen)(hsp:spare a.block=true)(hx:∀i,i<cap->OkT (E i)/\w.cells? 0 (a.add (i*4)) 4=some (E i).cells): DataW.Trod enc prog w 0 spare held 23 (.slice (some a) len cap) (.slice ((List.range len).map λi=>litT (E i)) ((List.range (cap-len)).map λj=>litT (E (len+j)))) (MemPlace.row a (cap*4)):=by have h:=shut_slice_whole (enc:=enc) (w:=w) (base:=0) (held:=held) underlying23 (Nat.zero_le _) hl hm hsp (λi=>litT (E i)) (λ_=>[]) (λi hi=>⟨(E i).cells,2,by rw[fA];exact(hx i hi).2,F0 (hx i hi).1⟩);rw[fA,ua,List.append_nil]at h;exact h
end
end Go.Proofs.YtjhobnjdfhkohaaGreatDoor.T
