import Derived.Test.YtjhobnjdfhkohaaGreatDoorXAQ
set_option linter.all false
set_option maxHeartbeats 4000000
set_option maxRecDepth 100000
namespace Go.Proofs.YtjhobnjdfhkohaaGreatDoor.T
open Go.Proofs.Tryz
open Go.RowKit
theorem MI(c n:Int)(w:World)(h0:0<n)(h1:n<=1000): Cl 11 #[.int .i64 c,.int .i64 n] w λev w'=>∃k:Int,ev=.returned (.int .i64 k)/\0<=k/\k<n/\w'=w:=by
 have hn:¬n=0:=by omega
 have hn2:(n==0)=false:=by simp[hn]
 have ha:-n<c.tmod n:=by have:=Int.lt_tmod_of_pos c h0;omega
 have hb:=Int.tmod_lt_of_pos c h0;by_cases hneg:c.tmod n<0
 .go_enter func11,ntmps11;go_wp2;go_ret;exact⟨_,rfl,by omega,by omega,rfl⟩
 go_enter func11,ntmps11;go_wp2;go_ret;exact⟨_,rfl,by omega,by omega,rfl⟩
def bI(c n:Int):Int:=if c.tmod n<0 then c.tmod n+n else c.tmod n
theorem gE(c n:Int)(w:World)(h0:0<n)(h1:n<=1000): Cl 11 #[.int .i64 c,.int .i64 n] w λev w'=>ev=.returned (.int .i64 (bI c n))/\w'=w:=by
 have hn:¬n=0:=by omega
 have hn2:(n==0)=false:=by simp[hn]
 have ha:-n<c.tmod n:=by have:=Int.lt_tmod_of_pos c h0;omega
 have hb:=Int.tmod_lt_of_pos c h0;by_cases hneg:c.tmod n<0
 .have HQ:Hid (bI c n=c.tmod n+n):=ab (by rw[bI,if_pos hneg]);go_enter func11,ntmps11;go_wp2;go_ret;exact⟨congrArg (λt=>Ending.returned (Value.int .i64 t)) (uh HQ).symm,rfl⟩
 have HQ:Hid (bI c n=c.tmod n):=ab (by rw[bI,if_neg hneg]);go_enter func11,ntmps11;go_wp2;go_ret;exact⟨congrArg (λt=>Ending.returned (Value.int .i64 t)) (uh HQ).symm,rfl⟩
theorem wi(c n:Int)(h0:0<n):0<=bI c n/\bI c n<n:=by
 have ha:-n<c.tmod n:=by have:=Int.lt_tmod_of_pos c h0;omega
 have hb:=Int.tmod_lt_of_pos c h0;unfold bI;split<;>omega
theorem no_slash{s:BA}{k:Nat}(hk:k<=s.size)(h:∀j (hj:j<s.size),k<=j->s[j]≠47):(47:UInt8)∉s.data.toList.drop k:=λhm=>by obtain⟨j,hj,e⟩:=List.getElem_of_mem hm;rw[List.length_drop]at hj;have hl:=zE s;rw[List.getElem_drop]at e;have h1:=h (k+j) (by omega) (by omega);refine h1 ?_;rw[<-e];show s.data[k+j]=_;simp
theorem Ef(s:BA)(w:World)(hs:s.size<=1073741824): Cl 16 #[.string s] w λev w'=>∃d:BA,ev=.returned (.string d)/\Hid (d.data.toList=al s.data.toList)/\w'=w:=by
 go_enter func16,ntmps16;go_wp2;go_loop [3] (λi=>∃k:Nat,k<=s.size/\i=.int .i64 ((k:Int)-1)/\Hid (∀j (hj:j<s.size),k<=j->s[j]≠47)) (λi=>(intOf i+1).toNat);case atStart=>exact⟨s.size,nR _,by go_num,ab (λj hj h=>by omega)⟩
 case round=>
  obtain⟨k,hk,rfl,HK⟩:=hrel;cases k with
  |zero=>have hd:=eN (no_slash (Nat.zero_le _) (uh HK));rw[List.drop_zero]at hd;have HD:=ab hd.1;clear hd;go_wp2;go_ret;exact⟨_,rfl,ab (uh HD).symm,rfl⟩
  |succ k=>
   have e1:(((k+1:Nat):Int)-1)=(k:Int):=by omega
   rw[e1];have hlt:k<s.size:=by omega
   have i0:(0:Int)<=(k:Int):=by omega
   have i1:(k:Int)<(s.size:Int):=by omega
   by_cases hc:(s[k].toNat:Int)=47
   .have hc8:s[k]=47:=UInt8.toNat_inj.1 (by have:(47:UInt8).toNat=47:=rfl;omega);have hsp:s.data.toList=s.data.toList.take k++47::s.data.toList.drop (k+1):=by
     have e2:s.data.toList[k]'(by have:=zE s;omega)=47:=by rw[<-hc8];show _=s.data[k];simp
     rw[<-e2,<-List.drop_eq_getElem_cons,List.take_append_drop]
    have hd:=(eV (a:=s.data.toList.take k) (no_slash hk (uh HK))).1;rw[<-hsp]at hd;have HD:=ab hd;clear hd hsp hc8 HK;go_wp2;go_ret;exact⟨_,rfl,ab (by rw[uh HD,ByteArray.data_extract,Array.toList_extract];simp),rfl⟩
   have hne:s[k]≠47:=λe=>hc (by rw[e];rfl);have H2:Hid (∀j (hj:j<s.size),k<=j->s[j]≠47):=ab (λj hj h=>by
    rcases Nat.lt_or_ge k j with h1|h1
    .exact uh HK j hj (by omega)
    have:j=k:=by omega
    subst this;exact hne)
   clear HK hne;go_wp2;go_round;case rel=>exact⟨k,by omega,by go_num,H2⟩
   case measure=>simp[intOf]
def Hj(p:BA)(e:aj):Prop:=e.path=p/\bc e=true/\e.data.size<=4096
theorem IE{p:BA}{md:Int}(h0:0<=md)(h1:md<512):Hj p ⟨p,1,md,⟨#[]⟩⟩:=by
 refine⟨rfl,?_,Nat.zero_le _⟩;have:ci md=true:=by simp[ci];omega
 simp[bc,this]
theorem xy{p d:BA}{md:Int}(h0:0<=md)(h1:md<512)(hd:d.size<=4096):Hj p ⟨p,2,md,d⟩:=by
 refine⟨rfl,?_,hd⟩;have:ci md=true:=by simp[ci];omega
 simp[bc,this,hd]
theorem LG:wm [97,47,98]=true:=by decide +kernel
theorem GW(p:BA):Hj p ⟨p,3,0,⟨#[97,47,98]⟩⟩:=by refine⟨rfl,?_,show (3:Nat)<=4096 by omega⟩;simp[bc,LG]
theorem Gz(d:BA):(d.extract 0 4096).size<=4096:=by rw[ByteArray.size_extract];omega
def xA(x2 x3:Int)(d p:BA):aj:=if bI x2 4=0 then ⟨p,2,bI x3 512,if d.size<=4096 then d else d.extract 0 4096⟩ else if bI x2 4=1 then ⟨p,3,0,⟨#[97,47,98]⟩⟩ else ⟨p,1,bI x3 512,⟨#[]⟩⟩
theorem uc(x1 x2 x3:Int)(d p:BA)(w:World): Cl 17 #[.agg #[.int .i64 x1,.int .i64 x2,.int .i64 x3,.string d],.string p] w λev w'=>∃e:aj,ev=.returned (.agg #[.string e.path,.int .i64 e.kind,.int .i64 e.mode,.string e.data])/\Hid (Hj p e/\e=xA x2 x3 d p)/\Bw w w':=by
 obtain⟨hm0,hm1⟩:=wi x3 512 (by decide);have HE:Hid (xA x2 x3 d p=if bI x2 4=0 then ⟨p,2,bI x3 512,if d.size<=4096 then d else d.extract 0 4096⟩ else if bI x2 4=1 then ⟨p,3,0,⟨#[97,47,98]⟩⟩ else ⟨p,1,bI x3 512,⟨#[]⟩⟩):=ab rfl;have HP1:Hid (∀w,Cl 11 #[.int .i64 x3,.int .i64 512] w λev w'=>ev=.returned (.int .i64 (bI x3 512))/\w'=w):=ab λw=>gE _ _ _ (by omega) (by omega);have HP2:Hid (∀w,Cl 11 #[.int .i64 x2,.int .i64 4] w λev w'=>ev=.returned (.int .i64 (bI x2 4))/\w'=w):=ab λw=>gE _ _ _ (by omega) (by omega);obtain⟨md,hmd⟩:=aq (bI x3 512);obtain⟨kd,hkd⟩:=aq (bI x2 4);rw[<-hmd]at HE HP1 hm0 hm1;rw[<-hkd]at HE HP2;clear hmd hkd;go_enter func17,ntmps17;go_upto_region 2 with(go_at_call 11;refine(uh HP1 _).mono ?_;rintro ev w1⟨rfl,rfl⟩)
 go_upto_region 3 with(go_at_call 11;refine(uh HP2 _).mono ?_;rintro ev w1⟨rfl,rfl⟩)
 by_cases h0:kd=0
 .subst h0;by_cases hd:(d.size:Int)<=4096
  .have H:=ab (And.intro (xy (p:=p) hm0 hm1 (d:=d) (by omega)) (show _=xA x2 x3 d p by rw[uh HE,if_pos rfl,if_pos (by omega)]));clear hm0 hm1;go_wp2_with fail;refine bodyPost_ret (v:=.agg #[.string p,.int .i64 2,.int .i64 md,.string d]) (by simp[results,results17,go_sem]) rfl ⟨⟨p,2,md,d⟩,rfl,H,?_⟩;exact(((eD).alloc (by simp) _).alloc (by simp;omega) _)
  have H:=ab (And.intro (xy (p:=p) hm0 hm1 (d:=d.extract 0 4096) (Gz d)) (show _=xA x2 x3 d p by rw[uh HE,if_pos rfl,if_neg (by omega)]));have i1:(4096:Int)<=(d.size:Int):=by omega
  have i2:(4096:Int)<(d.size:Int):=by omega
  clear hm0 hm1 hd;go_wp2_with fail;refine bodyPost_ret (v:=.agg #[.string p,.int .i64 2,.int .i64 md,.string (d.extract 0 4096)]) (by simp[results,results17,go_sem]) rfl ⟨⟨p,2,md,d.extract 0 4096⟩,rfl,H,?_⟩;exact(((eD).alloc (by simp) _).alloc (by simp;omega) _)
 have h0':(kd==0)=false:=by simp[h0]
 by_cases h1:kd=1
 .subst h1;have H:=ab (And.intro (GW p) (show _=xA x2 x3 d p by rw[uh HE,if_neg (by decide),if_pos rfl]));clear hm0 hm1 h0 h0';go_wp2_with fail;refine bodyPost_ret (v:=.agg #[.string p,.int .i64 3,.int .i64 0,.string ⟨#[97,47,98]⟩]) (by simp[results,results17,go_sem]) rfl ⟨⟨p,3,0,⟨#[97,47,98]⟩⟩,rfl,H,?_⟩;exact(((eD).alloc (by simp) _).alloc (by simp;omega) _)
 have h1':(kd==1)=false:=by simp[h1]
 have H:=ab (And.intro (IE (p:=p) hm0 hm1) (show _=xA x2 x3 d p by rw[uh HE,if_neg h0,if_neg h1]));clear hm0 hm1;go_wp2_with fail;refine bodyPost_ret (v:=.agg #[.string p,.int .i64 1,.int .i64 md,.string ⟨#[]⟩]) (by simp[results,results17,go_sem]) rfl ⟨⟨p,1,md,⟨#[]⟩⟩,rfl,H,?_⟩;exact(((eD).alloc (by simp) _).alloc (by simp;omega) _)
def Kq:BA:=⟨#[108,111,110,103,45,110,97,109,101,45]⟩
def lY:Nat->BA
 |0=>⟨#[]⟩
 |k+1=>lY k++Kq
theorem qF(k:Nat):(lY k).size=10*k:=by
 induction k with
 |zero=>rfl
 |succ k ih=>rw[lY,ByteArray.size_append,ih];show 10*k+10=_;omega
def Lj(s:BA):List BA:=[⟨#[97]⟩,⟨#[97,47,98]⟩,⟨#[97,47,98,47,99]⟩,⟨#[97,47,100]⟩,⟨#[97,47,101]⟩,⟨#[97,45,98]⟩,⟨#[98]⟩,⟨#[100]⟩,⟨#[100,47,120]⟩,⟨#[100,47,120,47,121]⟩,⟨#[100,47,120,47,121,47,122]⟩,⟨#[100,47,122]⟩,
 s.extract 0 50,s.extract 0 50++⟨#[47]⟩++s.extract 0 55,s.extract 0 50++⟨#[47]⟩++s.extract 0 55++⟨#[47]⟩++s.extract 0 60,⟨#[119]⟩,⟨#[119,47,102]⟩]
theorem mw{B:Nat}{w w':World}(h:Below B w w'):Below B w w'.drew:=⟨h.os,h.tape,h.output,h.size,h.block⟩
theorem KZ{w:World}{g:Nat}{cs:Array Value}{ps:List BA}(h:w.heap[g]?=some (.cells cs 9 (0,0)))(he:cs.toList=ps.map Value.string):nW w (some ⟨g,0,none⟩) ps:=λk b hk=>by
 refine⟨g,rfl,?_⟩;have h1:cs[k]?=some (.string b):=by rw[<-Array.getElem?_toList,he,List.getElem?_map,hk];rfl
 exact(cq k h).trans h1
theorem nY(w:World): Cl 15 #[] w λev w'=>∃g:Nat,ev=.returned (.slice (some ⟨g,0,none⟩) 17 17)/\nW w' (some ⟨g,0,none⟩) (Lj (lY 12))/\Bw w w':=by
 go_enter func15,ntmps15;go_wp2;go_loop [1,2] (λs i=>∃k:Nat,k<=12/\i=.int .i64 k/\s=.string (lY k)) (λ_ i=>12-(intOf i).toNat);case atStart=>exact⟨0,by omega,rfl,rfl⟩
 case round=>
  obtain⟨k,hk,rfl,rfl⟩:=hrel;by_cases hlt:k<12
  .have i1:(k:Int)<12:=by omega
   have hsz:=qF k;obtain⟨s,hs⟩:=aq (lY k);have HS:Hid (s++Kq=lY (k+1)):=ab (by rw[hs];rfl);rw[<-hs];have hsz2:s.size=10*k:=by rw[hs];exact hsz
   clear hs hsz;go_wp2;go_round;case rel=>exact⟨k+1,by omega,by go_num,congrArg Value.string (uh HS)⟩
   case measure=>simp[intOf];omega
  obtain rfl:k=12:=by omega
  have hsz:=qF 12;obtain⟨s,hs⟩:=aq (lY 12);rw[<-hs]at hsz⊢;have i5:(50:Int)<=(s.size:Int):=by omega
  have i6:(55:Int)<=(s.size:Int):=by omega
  have i7:(60:Int)<=(s.size:Int):=by omega
  have HS:=ab hs;clear hs;go_upto_region 6 with fail;go_region;go_wp2;go_ret;refine⟨w.heap.size,rfl,?_,mw (eD)⟩;rw[<-uh HS];refine KZ (w:=World.drew _) (hN _ _) ?_;rfl
def places:List BA:=Lj (lY 12)
theorem qV:places.length=17:=rfl
theorem yy:(places.map λb=>b.data.toList).Pairwise λx y=>gP x y=true:=by decide +kernel
theorem po:∀b∈places,b.data.toList≠[]/\isP b.data.toList=true/\b.size<=1048576:=by decide +kernel
structure pT(k:Nat)(es:List aj):Prop where
 tree:aO es
 len:es.length<=k
 at_:∀e∈es,∃j,j<k/\places[j]?=some e.path
 small:∀e∈es,e.data.size<=4096
theorem pT.nil:pT 0 []:=⟨⟨List.Pairwise.nil,λe he=>by simp at he,λe he=>by simp at he⟩,bH _,λe he=>by simp at he,λe he=>by simp at he⟩
theorem pT.more{k:Nat}{es:List aj}(h:pT k es):pT (k+1) es:=⟨h.tree,by have:=h.len;omega,λe he=>by obtain⟨j,h1,h2⟩:=h.at_ e he;exact⟨j,by omega,h2⟩,h.small⟩
theorem CN{i j:Nat}{a b:BA}(hij:i<j)(ha:places[i]?=some a)(hb:places[j]?=some b):gP a.data.toList b.data.toList=true:=by
 have hi:=(KP.1 ha)
 have hj:=(KP.1 hb)
 obtain⟨hi1,hi2⟩:=hi;obtain⟨hj1,hj2⟩:=hj;have h:=List.pairwise_iff_getElem.1 yy i j (by rw[List.length_map];exact hi1) (by rw[List.length_map];exact hj1) hij;rw[List.getElem_map,List.getElem_map,hi2,hj2]at h;exact h
theorem pT.put{k:Nat}{es:List aj}{p:BA}{e:aj}(h:pT k es)(hp:places[k]?=some p)(he:Hj p e)(hd:al p.data.toList=[]\/∃x∈es,x.path.data.toList=al p.data.toList/\x.kind=1):pT (k+1) (es++[e]):=by
 obtain⟨h1,h2,h3⟩:=he;have hpp:=po p (oG hp);have hent:bK e=true:=by simp only[bK,LZ,bne_iff_ne];rw[h1];exact⟨⟨hpp.1,hpp.2.1⟩,h2⟩
 refine⟨⟨?_,λx hx=>?_,λx hx=>?_⟩,by have:=h.len;simp;omega,λx hx=>?_,λx hx=>?_⟩
 .rw[List.pairwise_append];refine⟨h.tree.ord,List.pairwise_singleton _ _,λa ha b hb=>?_⟩;obtain rfl:b=e:=by simpa using hb
  obtain⟨j,hj,hja⟩:=h.at_ a ha;rw[h1];exact CN hj hja hp
 .rcases JJ.1 hx with hx|hx
  .exact h.tree.ent x hx
  obtain rfl:x=e:=by simpa using hx
  exact hent
 .rcases JJ.1 hx with hx|hx
  .rcases h.tree.dir x hx with h0|⟨d,hd,h4,h5⟩
   .exact .inl h0
   exact .inr ⟨d,by simp[hd],h4,h5⟩
  obtain rfl:x=e:=by simpa using hx
  rw[h1];rcases hd with h0|⟨d,hd,h4,h5⟩
  .exact .inl h0
  exact .inr ⟨d,by simp[hd],h4,h5⟩
 .rcases JJ.1 hx with hx|hx
  .obtain⟨j,h4,h5⟩:=h.at_ x hx;exact⟨j,by omega,h5⟩
  obtain rfl:x=e:=by simpa using hx
  exact⟨k,by omega,by rw[h1];exact hp⟩
 rcases JJ.1 hx with hx|hx
 .exact h.small x hx
 obtain rfl:x=e:=by simpa using hx
 exact h3
theorem pT.sizes{k:Nat}{es:List aj}(h:pT k es):ix es:=λe he=>by obtain⟨j,_,hj⟩:=h.at_ e he;exact⟨(po _ (oG hj)).2.2,by have:=h.small e he;omega⟩
def uR(p:BA):BA:=⟨(al p.data.toList).toArray⟩
theorem nX(s:BA)(w:World)(hs:s.size<=1073741824):Cl 16 #[.string s] w λev w'=>ev=.returned (.string (uR s))/\w'=w:=by refine(Ef s w hs).mono ?_;rintro e w'⟨d,rfl,HD,rfl⟩;refine⟨?_,rfl⟩;rw[uR,<-uh HD]
structure Tg where
 a:Int
 b:Int
 c:Int
 d:BA
def TgRow(w:World)(ao:OA)(xs:List Tg):Prop:=∀k x,xs[k]?=some x->∃g o,ao=some ⟨g,o,none⟩/\w.cell? ⟨g,o+k*4,none⟩=some (.int .i64 x.a)/\w.cell? ⟨g,o+k*4+1,none⟩=some (.int .i64 x.b)/\w.cell? ⟨g,o+k*4+2,none⟩=some (.int .i64 x.c)/\w.cell? ⟨g,o+k*4+3,none⟩=some (.string x.d)
theorem TgRow.below{w w':World}{ao:OA}{xs:List Tg}(h:TgRow w ao xs)(hb:Bw w w'):TgRow w' ao xs:=λk e hk=>by obtain⟨g,o,h1,h2,h3,h4,h5⟩:=h k e hk;exact⟨g,o,h1,aM hb h2,aM hb h3,aM hb h4,aM hb h5⟩
def iq(es:List aj)(q:BA)(j:Nat):Bool:=(es.take j).any λx=>x.path.data.toList==q.data.toList&&decide (x.kind=1)
theorem Aj{es:List aj}{q:BA}{j:Nat}{x:aj}(h:es[j]?=some x):iq es q (j+1)=(iq es q j||(x.path.data.toList==q.data.toList&&decide (x.kind=1))):=by rw[iq,iq,List.take_add_one,h];simp
theorem Df{es:List aj}{p:BA}{j:Nat}(h:iq es (uR p) j=true):∃x∈es,x.path.data.toList=al p.data.toList/\x.kind=1:=by rw[iq,List.any_eq_true]at h;obtain⟨x,hx,hb⟩:=h;simp only[LZ,decide_eq_true_eq,beq_iff_eq]at hb;exact⟨x,List.mem_of_mem_take hx,by simpa[uR]using hb.1,hb.2⟩
theorem rO{w w1:World}{cs:Array Value}{t:TypeId}(h:Below (w.alloc (.cells cs t)).drew.heap.size (w.alloc (.cells cs t)).drew w1):w1.heap[w.heap.size]?=some (.cells cs t (0,0)):= (h.block w.heap.size (by show _<(World.alloc w _).heap.size;simp)).trans (hN w (.cells cs t))
theorem lB{W:World}{B:Nat}{v:Value}{ks:List aj}(n:Nat)(h:jM W B v ks):jM (W.drewN n) B v ks:=h
theorem below_drewN{B:Nat}{w W:World}(n:Nat)(h:Below B w W):Below B w (W.drewN n):=⟨h.os,h.tape,h.output,h.size,h.block⟩
theorem Cq{W:World}{B vn vc:Nat}{vo:OA}{ks:List aj}(h:jM W B (.slice vo vn vc) ks):fB W vo ks:=by obtain⟨a,c,n,he,_,hr,_⟩:=rQ h;cases he;exact hr
theorem wL{a b:Bool}(h:a=b):Value.bool a=Value.bool b:=by rw[h]
def MB(es:List aj)(p:BA):Bool:=(uR p).toList.isEmpty||iq es (uR p) es.length
def MZ(xs:List Tg)(k:Nat)(p:BA)(es:List aj):List aj:=if MB es p=true then (match xs.reverse.find? (λx=>bI x.a 17==(k:Int))with|some x=>es++[xA x.b x.c x.d p]|none=>es) else es
def qp(xs:List Tg):Nat->List aj
 |0=>[]
 |k+1=>match places[k]? with
  |some p=>MZ xs k p (qp xs k)
  |none=>qp xs k
theorem wS{xs:List Tg}{k m:Nat}{x:Tg}(hx:xs[m]?=some x)(hk:bI x.a 17=(k:Int))(hd:∀y∈xs.drop (m+1),bI y.a 17≠(k:Int)):xs.reverse.find? (λx=>bI x.a 17==(k:Int))=some x:=by
 obtain⟨hlt,he⟩:=eL.1 hx;have e:xs=xs.take m++x::xs.drop (m+1):=by conv=>lhs;rw[<-List.take_append_drop m xs,List.drop_eq_getElem_cons hlt,he]
 rw[e,List.reverse_append,List.reverse_cons,aA,List.find?_append];have h1:(xs.drop (m+1)).reverse.find? (λx=>bI x.a 17==(k:Int))=none:=by rw[List.find?_eq_none];intro y hy;simpa using hd y (List.mem_reverse.1 hy)
 rw[h1];simp[hk]
theorem Dx{xs:List Tg}{k:Nat}(hd:∀y∈xs.drop 0,bI y.a 17≠(k:Int)):xs.reverse.find? (λx=>bI x.a 17==(k:Int))=none:=by rw[List.find?_eq_none];intro y hy;simpa using hd y (by simpa using List.mem_reverse.1 hy)
theorem CL{xs:List Tg}{k m:Nat}{x:Tg}(hx:xs[m]?=some x)(hk:¬bI x.a 17=(k:Int))(hd:∀y∈xs.drop (m+1),bI y.a 17≠(k:Int)):∀y∈xs.drop m,bI y.a 17≠(k:Int):=by
 obtain⟨hlt,he⟩:=eL.1 hx;intro y hy;rw[List.drop_eq_getElem_cons hlt,he]at hy;rcases mC.1 hy with rfl|hy
 .exact hk
 exact hd y hy
theorem wJ(ao:OA)(cap n:Nat)(xs:List Tg)(w:World)(hr:TgRow w ao xs)(HN:Hid (n=xs.length))(hn:n<=140737488351232): Cl 8 #[.slice ao n cap] w λev w'=>∃(vo:OA) (vc vn:Nat) (es:List aj),ev=.returned (.slice vo vn vc)/\Hid (vn=es.length)/\fB w' vo es/\vn<=vc/\Hid (pT 17 es/\es=qp xs 17)/\Bw w w':=by
 obtain⟨i0,hi,hz0,hz1,hz2⟩:=info_parts Tryz.info39;have HR:=ab hr;clear hr;go_enter func8,ntmps8;go_upto_region 3 with(go_at_call 15;refine(nY w).mono ?_;rintro ev w1⟨g,rfl,hT,hb1⟩)
 obtain⟨P,hP⟩:=aq places;have hT2:nW w1 (some ⟨g,0,none⟩) P:=by rw[hP];exact hT
 have HP:=ab hP;have HT:=ab hT2;have hlP:P.length=17:=by rw[hP];rfl
 have HR1:=ab ((uh HR).below hb1);clear hT hT2 hP HR;go_wp2_with fail;go_loopw [3,5] (λv i wr=>∃(k:Nat) (es:List aj),k<=17/\i=.int .i64 k/\jM wr w1.heap.size v es/\Bw w1 wr/\Hid (pT k es/\es=qp xs k)) (λ_ i _=>17-(intOf i).toNat);case atStart=>exact⟨0,[],by omega,rfl,World.ownsRow_nil _ _ _ _,bR _ _,ab ⟨pT.nil,rfl⟩⟩
 case round=>
  obtain⟨k,es,hk,rfl,hown,hb,HK⟩:=hrel;obtain⟨vo,vc,vn,rfl,HVN,hrow,hnc⟩:=rQ hown;have hvn:vn<=17:=by rw[uh HVN];have:=(uh HK).1.len;omega
  by_cases hlt:k<17
  .obtain⟨p,hp⟩:∃p,P[k]?=some p:=⟨P[k]'(by omega),gG (by omega)⟩
   obtain⟨g',hg',hcp⟩:=((uh HT).below hb) k p hp;cases hg';have HPk:Hid (places[k]?=some p):=ab (by rw[<-uh HP];exact hp);have hps:p.size<=1073741824:=by have:=(po p (mG (uh HPk))).2.2;omega
   have i1:(0:Int)<=(k:Int):=by omega
   have i2:(k:Int)<17:=by omega
   have HOw:=ab hown;have HB:=ab hb;clear hp hown hrow;go_upto_region 7 with(go_at_call 16;refine(nX p _ hps).mono ?_;rintro ev w2⟨rfl,hw⟩;obtain rfl:=hw.symm)
   obtain⟨b0,hb0⟩:=aq ((uR p).toList.isEmpty);have HB00:=ab hb0;have HB0:Hid (b0=true->al p.data.toList=[]):=ab (λh=>by rw[hb0,tD]at h;simpa[uR]using h);rw[<-hb0];clear hb0;go_wp2_with fail;go_loopw [6,7] (λdv jv wr2=>∃j:Nat,j<=vn/\jv=.int .i64 j/\dv=.bool (b0||iq es (uR p) j)/\jM wr2 w1.heap.size (.slice vo vn vc) es/\Bw w1 wr2) (λ_ jv _=>vn-(intOf jv).toNat);case atStart=>exact⟨0,by omega,rfl,wL (by simp[iq]),uh HOw,uh HB⟩
   case round=>
    obtain⟨j,hj,rfl,rfl,hown2,hb2⟩:=hrel;by_cases hjl:j<vn
    .obtain⟨x,hx⟩:∃x,es[j]?=some x:=⟨es[j]'(by have:=uh HVN;omega),gG (by have:=uh HVN;omega)⟩
     obtain⟨q,o,hq,c0,c1,_,_⟩:=(Cq hown2) j x hx;cases hq;obtain⟨g',hg',hcp2⟩:=((uh HT).below hb2) k p (by rw[uh HP];exact uh HPk);cases hg';have HSn:=ab (Aj (q:=uR p) hx);have HOw2:=ab hown2;have HB2:=ab hb2;have j0:(0:Int)<=(j:Int):=by omega
     have j1:(j:Int)<(vn:Int):=by omega
     clear hx hown2 hb2;cases hbb:(b0||iq es (uR p) j)
     .have HBB:=ab hbb;clear hbb;go_upto_region 10 with fail;by_cases hpe:x.path.data.toList=(uR p).data.toList
      .have hpe1:(x.path.toList==(uR p).toList)=true:=by rw[tD,tD,hpe];simp
       by_cases hk1:x.kind=1
       .have hk2:(x.kind==1)=true:=by simp[hk1]
        go_quiet (first|(go_at_call 16;exact Calls.quiet_of_same (nX p _ hps)))
        go_wp2_with fail
        go_roundw;case rel=>have R:Value.bool true=.bool (b0||iq es (uR p) (j+1)):=wL (by rw[uh HSn,<-Bool.or_assoc,uh HBB,hpe,hk1];simp);exact⟨j+1,by omega,by go_num,R,lB nq (uh HOw2),below_drewN nq (uh HB2)⟩
        case measure=>simp[intOf];omega
       have hk2:(x.kind==1)=false:=by simp[hk1]
       go_quiet (first|(go_at_call 16;exact Calls.quiet_of_same (nX p _ hps)))
       go_wp2_with fail
       go_roundw;case rel=>have R:Value.bool false=.bool (b0||iq es (uR p) (j+1)):=wL (by rw[uh HSn,<-Bool.or_assoc,uh HBB,dF hk1];simp);exact⟨j+1,by omega,by go_num,R,lB nq (uh HOw2),below_drewN nq (uh HB2)⟩
       case measure=>simp[intOf];omega
      have hpe1:(x.path.toList==(uR p).toList)=false:=by rw[tD,tD];simpa using hpe
      go_quiet (first|(go_at_call 16;exact Calls.quiet_of_same (nX p _ hps)))
      go_wp2_with fail
      go_roundw;case rel=>have R:Value.bool false=.bool (b0||iq es (uR p) (j+1)):=wL (by rw[uh HSn,<-Bool.or_assoc,uh HBB,beq_false_of_ne hpe];rfl);exact⟨j+1,by omega,by go_num,R,lB nq (uh HOw2),below_drewN nq (uh HB2)⟩
      case measure=>simp[intOf];omega
     have HBB:=ab hbb;clear hbb;go_upto_region 10 with fail;go_quiet (fail);go_wp2_with fail;go_roundw;case rel=>have R:Value.bool true=.bool (b0||iq es (uR p) (j+1)):=wL (by rw[uh HSn,<-Bool.or_assoc,uh HBB];rfl);exact⟨j+1,by omega,by go_num,R,lB nq (uh HOw2),below_drewN nq (uh HB2)⟩
     case measure=>simp[intOf];omega
    obtain rfl:j=vn:=by omega
    obtain⟨D,hD⟩:=aq ((b0||iq es (uR p) j));have HDD:Hid (qp xs (k+1)=if D=true then (match xs.reverse.find? (λx=>bI x.a 17==(k:Int))with|some x=>es++[xA x.b x.c x.d p]|none=>es) else es):=ab (by rw[qp,uh HPk];simp only;rw[<-(uh HK).2,MZ,MB,<-uh HB00,<-uh HVN,hD]);have HD:Hid (D=true->al p.data.toList=[]\/∃x∈es,x.path.data.toList=al p.data.toList/\x.kind=1):=ab (λh=>by
     rw[hD,bO]at h;rcases h with h|h
     .exact .inl (uh HB0 h)
     exact .inr (Df h))
    rw[<-hD];have HOw2:=ab hown2;have HB2:=ab hb2;clear hD hown2 hb2 HB HOw hcp;go_wp2_with fail;go_loopw [3,6,8] (λv dv kv wr3=>∃(m:Nat) (es':List aj) (b:Bool),m<=n/\kv=.int .i64 ((m:Int)-1)/\dv=.bool b/\jM wr3 w1.heap.size v es'/\Bw w1 wr3/\Hid ((pT (k+1) es'/\(b=true->es'=es/\(al p.data.toList=[]\/∃x∈es,x.path.data.toList=al p.data.toList/\x.kind=1)))/\(b=true->D=true/\∀y∈xs.drop m,bI y.a 17≠(k:Int))/\(b=false->es'=qp xs (k+1)))) (λ_ _ kv _=>(intOf kv+1).toNat);case atStart=>exact⟨n,es,D,nR _,by go_num,rfl,uh HOw2,uh HB2,ab ⟨⟨(uh HK).1.more,λh=>⟨rfl,uh HD h⟩⟩,λh=>⟨h,λy hy=>by rw[uh HN,List.drop_length]at hy;cases hy⟩,λh=>by rw[uh HDD,if_neg (by rw[h];decide)]⟩⟩
    case round=>
     obtain⟨m,es',b,hm,rfl,rfl,hown3,hb3,HI⟩:=hrel;cases m with
     |zero=>
      have e1:(((0:Nat):Int)-1)=-1:=by omega
      rw[e1];have HFN:Hid (es'=qp xs (k+1)):=ab (by
       cases b with
       |false=>exact(uh HI).2.2 rfl
       |true=>obtain⟨h1,h2⟩:=(uh HI).2.1 rfl;rw[uh HDD,if_pos h1,Dx h2];exact((uh HI).1.2 rfl).1)
      go_wp2_with fail
      go_roundw;case rel=>
       first
        |exact⟨k+1,es',by omega,by go_num,hown3,hb3,ab ⟨(uh HI).1.1,uh HFN⟩⟩
        |((repeat apply Exists.intro);exact⟨⟨k+1,es',by omega,by go_num,hown3,hb3,ab ⟨(uh HI).1.1,uh HFN⟩⟩,rfl⟩)
      case measure=>simp[intOf];omega
     |succ m=>
      have e1:(((m+1:Nat):Int)-1)=(m:Int):=by omega
      rw[e1];have m0:(0:Int)<=(m:Int):=by omega
      cases b with
      |false=>
       have HFN:=ab ((uh HI).2.2 rfl);go_wp2_with fail;go_roundw;case rel=>
        first
         |exact⟨k+1,es',by omega,by go_num,hown3,hb3,ab ⟨(uh HI).1.1,uh HFN⟩⟩
         |((repeat apply Exists.intro);exact⟨⟨k+1,es',by omega,by go_num,hown3,hb3,ab ⟨(uh HI).1.1,uh HFN⟩⟩,rfl⟩)
       case measure=>simp[intOf];omega
      |true=>
       obtain⟨rfl,hdir⟩:=(uh HI).1.2 rfl;have HNX:=ab ((uh HI).2.1 rfl);have HDir:=ab hdir;obtain⟨x,hx⟩:∃x,xs[m]?=some x:=⟨xs[m]'(by have:=uh HN;omega),gG (by have:=uh HN;omega)⟩
       obtain⟨g2,o2,hq,c0,c1,c2,c3⟩:=((uh HR1).below hb3) m x hx;cases hq;obtain⟨g',hg',hcp3⟩:=((uh HT).below hb3) k p (by rw[uh HP];exact uh HPk);cases hg';have HXM:=ab hx;have m1:(m:Int)<(n:Int):=by omega
       have HOw3:=ab hown3;have HB3:=ab hb3;clear hx hown3 hb3 hdir;by_cases hqk:bI x.a 17=(k:Int)
       .have hqk2:(bI x.a 17==(k:Int))=true:=by simp[hqk]
        have ng2:g2≠wr.heap.size:=Nat.ne_of_lt (World.block_lt_of_cell? _ _ c0);have ng1:g≠wr.heap.size:=Nat.ne_of_lt (World.block_lt_of_cell? _ _ hcp3);go_upto_region 15 with(go_at_call 11;refine(gE _ _ _ (by omega) (by omega)).mono ?_;rintro ev w4⟨rfl,hw⟩;obtain rfl:=hw.symm)
        go_region_held3 (λw'=>w'.cell? ⟨g2,o2+m*4,none⟩=some (.int .i64 x.a)/\w'.cell? ⟨g2,o2+m*4+1,none⟩=some (.int .i64 x.b)/\w'.cell? ⟨g2,o2+m*4+2,none⟩=some (.int .i64 x.c)/\w'.cell? ⟨g2,o2+m*4+3,none⟩=some (.string x.d)/\w'.cell? ⟨g,k,none⟩=some (.string p)) (first|(with_reducible exact⟨c0,c1,c2,c3,hcp3⟩)|(with_reducible exact⟨p0,p1,p2,p3,p4⟩)|(with_reducible exact⟨vr _ _ _ _ ng2 p0,vr _ _ _ _ ng2 p1,vr _ _ _ _ ng2 p2,vr _ _ _ _ ng2 p3,vr _ _ _ _ ng1 p4⟩)|go_keep) (first|(go_at_call 17;refine(uc x.a x.b x.c x.d p _).mono ?_;rintro ev w5⟨e,rfl,HRE,hb5⟩;have p0:=cL (am hb5) c0;have p1:=cL (am hb5) c1;have p2:=cL (am hb5) c2;have p3:=cL (am hb5) c3;have p4:=cL (am hb5) hcp3)|(go_at_call 17;refine(uc x.a x.b x.c x.d p _).mono ?_;rintro ev w5⟨e,rfl,HRE,hb5⟩;have p0:=cL (mu hb5) c0;have p1:=cL (mu hb5) c1;have p2:=cL (mu hb5) c2;have p3:=cL (mu hb5) c3;have p4:=cL (mu hb5) hcp3;have hz:=rO hb5;have z0:w5.cell? ⟨wr.heap.size,0,none⟩=some (.string ⟨#[]⟩):=cq 0 hz;have z1:w5.cell? ⟨wr.heap.size,1,none⟩=some (.int .i64 0):=cq 1 hz;have z2:w5.cell? ⟨wr.heap.size,2,none⟩=some (.int .i64 0):=cq 2 hz;have z3:w5.cell? ⟨wr.heap.size,3,none⟩=some (.string ⟨#[]⟩):=cq 3 hz;have f0:=frz hz 0;have f1:=frz hz 1;have f2:=frz hz 2;have f3:=frz hz 3))
        .have hbV:Bw wr (w5.alloc (.cells #[.string e.path,.int .i64 e.kind,.int .i64 e.mode,.string e.data] 39)):=(am hb5).alloc (am hb5).size _;have v0:(w5.alloc (.cells #[.string e.path,.int .i64 e.kind,.int .i64 e.mode,.string e.data] 39)).cell? ⟨w5.heap.size,0,none⟩=some (.string e.path):=cq 0 (hN _ _);have v1:(w5.alloc (.cells #[.string e.path,.int .i64 e.kind,.int .i64 e.mode,.string e.data] 39)).cell? ⟨w5.heap.size,1,none⟩=some (.int .i64 e.kind):=cq 1 (hN _ _);have v2:(w5.alloc (.cells #[.string e.path,.int .i64 e.kind,.int .i64 e.mode,.string e.data] 39)).cell? ⟨w5.heap.size,2,none⟩=some (.int .i64 e.mode):=cq 2 (hN _ _);have v3:(w5.alloc (.cells #[.string e.path,.int .i64 e.kind,.int .i64 e.mode,.string e.data] 39)).cell? ⟨w5.heap.size,3,none⟩=some (.string e.data):=cq 3 (hN _ _);generalize w5.alloc (.cells #[.string e.path,.int .i64 e.kind,.int .i64 e.mode,.string e.data] 39)=V at hbV v0 v1 v2 v3⊢;have hBV:Bw w1 V:=(uh HB3).trans (hbV.mono (uh HB3).size);have hownV:jM V w1.heap.size u3 es':=World.ownsRow.kept (row:=none) (uh HOw3) ⟨hbV.os,hbV.tape,hbV.output,hbV.size,λk hk _=>hbV.block k hk⟩ (by cases u3.ownBlock<;>simp);have hle:es'.length<=18:=by have:=(uh HK).1.len;omega
         have HPut:=ab ((uh HK).1.put (uh HPk) (uh HRE).1 (uh HDir));have HRES:Hid (es'++[e]=qp xs (k+1)):=ab (by rw[uh HDD,if_pos (uh HNX).1,wS (uh HXM) hqk (uh HNX).2,(uh HRE).2]);clear hb5 p0 p1 p2 p3 p4 c0 c1 c2 c3 hcp3;go_wp2_with (at_builtin;refine wpList_append_own _ rfl _ _ 30 rfl w1.heap.size 39 i0 _ 4 48 underlying30 hi hz0 hz1 hz2 rfl (by decide) _ _ _ rfl (World.ownsRow.alloc hownV _) ⟨V.heap.size,0,none⟩ 1 1 (ec e) rfl rfl (World.news_of_block (cs:=#[.string e.path,.int .i64 e.kind,.int .i64 e.mode,.string e.data]) (t:=39) (fr:=(0,0)) (hN _ _)) (zw e) (by unfold maxLen;omega) (by omega) (by have:=hBV.size;simp;omega) ?_;intro v' w6 hown6 hgrow _)
         go_roundw;case rel=>
          have R1:jM w6 w1.heap.size v' (es'++[e]):=by unfold jM;rw[lA,oD];exact hown6
          have R2:Bw w1 w6:=(hBV.alloc hBV.size _).grown hgrow (by have:=hBV.size;simp;omega) (λq hq=>(World.ownsRow.lt hownV q hq).1);exact⟨m,es'++[e],false,by omega,by go_num,rfl,R1,R2,ab ⟨⟨uh HPut,λh=>(by cases h)⟩,λh=>(by cases h),λ_=>uh HRES⟩⟩
         case measure=>simp[intOf]
        have hbV:Bw wr ((((w5.setCell ⟨wr.heap.size,0,none⟩ (.string e.path)).setCell ⟨wr.heap.size,1,none⟩ (.int .i64 e.kind)).setCell ⟨wr.heap.size,2,none⟩ (.int .i64 e.mode)).setCell ⟨wr.heap.size,3,none⟩ (.string e.data)):=((((mu hb5).setCell (p:=⟨wr.heap.size,0,none⟩) (nR _) _).setCell (p:=⟨wr.heap.size,1,none⟩) (nR _) _).setCell (p:=⟨wr.heap.size,2,none⟩) (nR _) _).setCell (p:=⟨wr.heap.size,3,none⟩) (nR _) _;have v0:((((w5.setCell ⟨wr.heap.size,0,none⟩ (.string e.path)).setCell ⟨wr.heap.size,1,none⟩ (.int .i64 e.kind)).setCell ⟨wr.heap.size,2,none⟩ (.int .i64 e.mode)).setCell ⟨wr.heap.size,3,none⟩ (.string e.data)).cell? ⟨wr.heap.size,0,none⟩=some (.string e.path):=by simp[go_sem,z0]
        have v1:((((w5.setCell ⟨wr.heap.size,0,none⟩ (.string e.path)).setCell ⟨wr.heap.size,1,none⟩ (.int .i64 e.kind)).setCell ⟨wr.heap.size,2,none⟩ (.int .i64 e.mode)).setCell ⟨wr.heap.size,3,none⟩ (.string e.data)).cell? ⟨wr.heap.size,1,none⟩=some (.int .i64 e.kind):=by simp[go_sem,z1]
        have v2:((((w5.setCell ⟨wr.heap.size,0,none⟩ (.string e.path)).setCell ⟨wr.heap.size,1,none⟩ (.int .i64 e.kind)).setCell ⟨wr.heap.size,2,none⟩ (.int .i64 e.mode)).setCell ⟨wr.heap.size,3,none⟩ (.string e.data)).cell? ⟨wr.heap.size,2,none⟩=some (.int .i64 e.mode):=by simp[go_sem,z2]
        have v3:((((w5.setCell ⟨wr.heap.size,0,none⟩ (.string e.path)).setCell ⟨wr.heap.size,1,none⟩ (.int .i64 e.kind)).setCell ⟨wr.heap.size,2,none⟩ (.int .i64 e.mode)).setCell ⟨wr.heap.size,3,none⟩ (.string e.data)).cell? ⟨wr.heap.size,3,none⟩=some (.string e.data):=by simp[go_sem,z3]
        generalize (((w5.setCell ⟨wr.heap.size,0,none⟩ (.string e.path)).setCell ⟨wr.heap.size,1,none⟩ (.int .i64 e.kind)).setCell ⟨wr.heap.size,2,none⟩ (.int .i64 e.mode)).setCell ⟨wr.heap.size,3,none⟩ (.string e.data)=V at hbV v0 v1 v2 v3⊢;have hBV:Bw w1 V:=(uh HB3).trans (hbV.mono (uh HB3).size);have hownV:jM V w1.heap.size u3 es':=World.ownsRow.kept (row:=none) (uh HOw3) ⟨hbV.os,hbV.tape,hbV.output,hbV.size,λk hk _=>hbV.block k hk⟩ (by cases u3.ownBlock<;>simp);have hle:es'.length<=18:=by have:=(uh HK).1.len;omega
        have HPut:=ab ((uh HK).1.put (uh HPk) (uh HRE).1 (uh HDir));have HRES:Hid (es'++[e]=qp xs (k+1)):=ab (by rw[uh HDD,if_pos (uh HNX).1,wS (uh HXM) hqk (uh HNX).2,(uh HRE).2]);clear hb5 p0 p1 p2 p3 p4 c0 c1 c2 c3 hcp3;go_wp2_with (at_builtin;refine wpList_append_own _ rfl _ _ 30 rfl w1.heap.size 39 i0 _ 4 48 underlying30 hi hz0 hz1 hz2 rfl (by decide) _ _ _ rfl (World.ownsRow.alloc hownV _) ⟨V.heap.size,0,none⟩ 1 1 (ec e) rfl rfl (World.news_of_block (cs:=#[.string e.path,.int .i64 e.kind,.int .i64 e.mode,.string e.data]) (t:=39) (fr:=(0,0)) (hN _ _)) (zw e) (by unfold maxLen;omega) (by omega) (by have:=hBV.size;simp;omega) ?_;intro v' w6 hown6 hgrow _)
        go_roundw;case rel=>
         have R1:jM w6 w1.heap.size v' (es'++[e]):=by unfold jM;rw[lA,oD];exact hown6
         have R2:Bw w1 w6:=(hBV.alloc hBV.size _).grown hgrow (by have:=hBV.size;simp;omega) (λq hq=>(World.ownsRow.lt hownV q hq).1);exact⟨m,es'++[e],false,by omega,by go_num,rfl,R1,R2,ab ⟨⟨uh HPut,λh=>(by cases h)⟩,λh=>(by cases h),λ_=>uh HRES⟩⟩
        case measure=>simp[intOf]
       have hqk2:(bI x.a 17==(k:Int))=false:=by simp[hqk]
       go_wp2_with (go_at_call 11;refine(gE _ _ _ (by omega) (by omega)).mono ?_;rintro ev w4⟨rfl,hw⟩;obtain rfl:=hw.symm)
       go_roundw;case rel=>exact⟨m,es',true,by omega,by go_num,rfl,uh HOw3,uh HB3,ab ⟨⟨(uh HI).1.1,λ_=>⟨rfl,uh HDir⟩⟩,λ_=>⟨(uh HNX).1,CL (uh HXM) hqk (uh HNX).2⟩,λh=>(by cases h)⟩⟩
       case measure=>simp[intOf]
  obtain rfl:k=17:=by omega
  have HF:=ab hrow;have HB:=ab hb;clear hown hrow hb;go_wp2_with fail;go_ret;exact⟨vo,vc,vn,es,rfl,HVN,uh HF,hnc,HK,hb1.trans ((uh HB).mono hb1.size)⟩
theorem Ms(n:Int)(h0:0<=n)(h1:n<=1000000000):wrap64 n=n:=by unfold wrap64;omega
theorem Iw(q:Nat)(h:q+1<=36):((⟨#[97,98,99,100,101,102,103,104,105,106,107,108,109,110,111,112,113,114,115,116,117,118,119,120,121,122,48,49,50,51,52,53,54,55,56,57]⟩:BA).extract q (q+1)).size=1:=by rw[ByteArray.size_extract];show min (q+1) 36-q=1;omega
theorem uG(q:Nat)(h:q+1<=10):((⟨#[48,49,50,51,52,53,54,55,56,57]⟩:BA).extract q (q+1)).size=1:=by rw[ByteArray.size_extract];show min (q+1) 10-q=1;omega
theorem He(s:BA)(w:World)(hs:s.size<=9223372036854775807): Cl 20 #[.string s] w λev w'=>∃t:BA,ev=.returned (.string t)/\t.size<=100/\w'=w:=by
 go_enter func20,ntmps20;go_upto_region 3 with fail
 go_loop [3,4] (λtv i=>∃(k:Nat) (t:BA),k<=20/\k<=s.size/\i=.int .i64 (k:Int)/\tv=.string t/\t.size<=k+1) (λ_ i=>20-(intOf i).toNat);case atStart=>exact⟨0,_,Nat.zero_le _,Nat.zero_le _,rfl,rfl,by decide⟩
 case round=>
  obtain⟨k,t,hk,hks,rfl,rfl,ht⟩:=hrel;by_cases h1:k<s.size
  .by_cases h2:k<20
   .have j1:(k:Int)<20:=by omega
    have hb:(s[k]'h1).toNat<256:=(s[k]'h1).toNat_lt;have hw1:wrap64 ((s[k]'h1).toNat:Int)=((s[k]'h1).toNat:Int):=Ms _ (by omega) (by omega);obtain⟨q,hq,hq36⟩:∃q:Nat,((s[k]'h1).toNat:Int).tmod 36=(q:Int)/\q+1<=36:=⟨(s[k]'h1).toNat%36,by rw[Int.tmod_eq_emod_of_nonneg (by omega)];rfl,by have:=Nat.mod_lt (s[k]'h1).toNat (show 0<36 by decide);omega⟩
    have hw2:wrap64 ((q:Int)+1)=(q:Int)+1:=Ms _ (by omega) (by omega);have q0:(0:Int)<=(q:Int):=by omega
    have q1:(q:Int)+1<=36:=by omega
    have q2:(0:Int)<=(q:Int)+1:=by omega
    have q3:(q:Int)<=(q:Int)+1:=by omega
    have HC:=ab (Iw q hq36);go_wp2;go_round;case rel=>exact⟨k+1,_,by omega,by omega,by go_num,rfl,by rw[ByteArray.size_append];have:=uh HC;simp only[Int.toNat_natCast]at this⊢;omega⟩
    case measure=>simp[intOf];omega
   have hk20:k=20:=by omega
   subst hk20;go_wp2;go_ret;exact⟨t,rfl,by omega,rfl⟩
  have hke:k=s.size:=by omega
  go_wp2;go_ret;exact⟨t,rfl,by omega,rfl⟩
theorem pG:∀b∈places,b.size<=170:=by decide +kernel
end Go.Proofs.YtjhobnjdfhkohaaGreatDoor.T
