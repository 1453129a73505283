import Derived.Test.YtjhobnjdfhkohaaGreatDoorXZ
import Derived.Shelf.SlIter.Nil
import Derived.Shelf.SortM.Plain
import Derived.Shelf.SortM.SortNone
set_option linter.all false
set_option maxHeartbeats 2000000
set_option maxRecDepth 100000
namespace Go.Proofs
open Go.Proofs.Tryz
open Go.RowKit Go.Maps Go.Sort Go.Shelf
def Tryz.keys119_ren:Go.Shelf.Ren:=⟨fun|7=>159|10=>193|n=>n,fun|23=>170|26=>9|3=>70|28=>229|0=>0|27=>228|33=>145|4=>4|n=>n,fun|n=>n⟩
theorem Tryz.keys119:Go.Proofs.SlLaysZ.n7 Tryz.prog Tryz.keys119_ren:={
 mixed:=by kernel_rfl
 f7:=⟨Tryz.f159.name,by decide,Tryz.func159.trans (congrArg some (by kernel_rfl))⟩
 f10:=⟨Tryz.f193.name,by decide,Tryz.func193.trans (congrArg some (by kernel_rfl))⟩
 t0:=Tryz.underlying0
 a0:=Tryz.isAgg0
 z0:=Tryz.sizeOf0
 v0:=Tryz.zeroValue0
 t4:=Tryz.underlying4
 a4:=Tryz.isAgg4
 z4:=Tryz.sizeOf4
 v4:=Tryz.zeroValue4
 t23:=Tryz.underlying170
 a23:=Tryz.isAgg170
 z23:=Tryz.sizeOf170
 v23:=Tryz.zeroValue170
 t26:=Tryz.underlying9
 a26:=Tryz.isAgg9
 z26:=Tryz.sizeOf9
 v26:=Tryz.zeroValue9
 t27:=Tryz.underlying228
 a27:=Tryz.isAgg228
 z27:=Tryz.sizeOf228
 v27:=Tryz.zeroValue228
 t28:=Tryz.underlying229
 a28:=Tryz.isAgg229
 z28:=Tryz.sizeOf229
 v28:=Tryz.zeroValue229
 t33:=Tryz.underlying145
 a33:=Tryz.isAgg145
 z33:=Tryz.sizeOf145
 v33:=Tryz.zeroValue145 }
def Tryz.sorted118_ren:Go.Shelf.Ren:=⟨fun|6=>158|8=>191|9=>192|11=>210|13=>212|12=>211|23=>232|24=>233|14=>223|15=>224|16=>225|17=>226|18=>227|19=>228|20=>229|21=>230|22=>231|25=>249|26=>250|27=>251|28=>252|29=>253|30=>152|31=>270|n=>n,fun|26=>9|28=>229|24=>26|0=>0|3=>3|37=>225|48=>250|50=>281|4=>4|40=>274|39=>273|45=>202|5=>5|9=>9|51=>301|55=>305|57=>319|58=>320|33=>145|n=>n,fun|n=>n⟩
theorem Tryz.sorted118:Go.Proofs.SlLaysZ.n6 Tryz.prog Tryz.sorted118_ren:={
 mixed:=by kernel_rfl
 f6:=⟨Tryz.f158.name,by decide,Tryz.func158.trans (congrArg some (by kernel_rfl))⟩
 f8:=⟨Tryz.f191.name,by decide,Tryz.func191.trans (congrArg some (by kernel_rfl))⟩
 f11:=⟨Tryz.f210.name,by decide,Tryz.func210.trans (congrArg some (by kernel_rfl))⟩
 t0:=Tryz.underlying0
 a0:=Tryz.isAgg0
 z0:=Tryz.sizeOf0
 v0:=Tryz.zeroValue0
 t24:=Tryz.underlying26
 a24:=Tryz.isAgg26
 z24:=Tryz.sizeOf26
 v24:=Tryz.zeroValue26
 t26:=Tryz.underlying9
 a26:=Tryz.isAgg9
 z26:=Tryz.sizeOf9
 v26:=Tryz.zeroValue9
 t28:=Tryz.underlying229
 a28:=Tryz.isAgg229
 z28:=Tryz.sizeOf229
 v28:=Tryz.zeroValue229
 i26:=by kernel_rfl }
def Tryz.sort140_ren:Go.Shelf.Ren:=⟨fun|6=>192|8=>212|9=>211|19=>232|20=>233|21=>223|22=>224|23=>225|24=>226|25=>227|26=>228|27=>229|28=>230|29=>231|36=>249|31=>250|32=>251|37=>252|38=>253|39=>152|41=>270|n=>n,fun|27=>26|29=>9|3=>3|32=>225|26=>26|0=>0|44=>250|46=>281|4=>4|36=>274|35=>273|41=>202|5=>5|9=>9|53=>301|57=>305|63=>319|64=>320|n=>n,fun|n=>n⟩
theorem Tryz.sort140:Go.Proofs.SlLaysM.n6 Tryz.prog Tryz.sort140_ren:={
 mixed:=by kernel_rfl
 f6:=⟨Tryz.f192.name,by decide,Tryz.func192.trans (congrArg some (by kernel_rfl))⟩
 f8:=Tryz.func212.trans (congrArg some (by kernel_rfl))
 f9:=⟨Tryz.f211.name,by decide,Tryz.func211.trans (congrArg some (by kernel_rfl))⟩
 f19:=Tryz.func232.trans (congrArg some (by kernel_rfl))
 f20:=Tryz.func233.trans (congrArg some (by kernel_rfl))
 f21:=⟨Tryz.f223.name,by decide,Tryz.func223.trans (congrArg some (by kernel_rfl))⟩
 f22:=⟨Tryz.f224.name,by decide,Tryz.func224.trans (congrArg some (by kernel_rfl))⟩
 f23:=⟨Tryz.f225.name,by decide,Tryz.func225.trans (congrArg some (by kernel_rfl))⟩
 f24:=⟨Tryz.f226.name,by decide,Tryz.func226.trans (congrArg some (by kernel_rfl))⟩
 f25:=⟨Tryz.f227.name,by decide,Tryz.func227.trans (congrArg some (by kernel_rfl))⟩
 f26:=⟨Tryz.f228.name,by decide,Tryz.func228.trans (congrArg some (by kernel_rfl))⟩
 f27:=⟨Tryz.f229.name,by decide,Tryz.func229.trans (congrArg some (by kernel_rfl))⟩
 f28:=⟨Tryz.f230.name,by decide,Tryz.func230.trans (congrArg some (by kernel_rfl))⟩
 f29:=⟨Tryz.f231.name,by decide,Tryz.func231.trans (congrArg some (by kernel_rfl))⟩
 f31:=Tryz.func250.trans (congrArg some (by kernel_rfl))
 f32:=Tryz.func251.trans (congrArg some (by kernel_rfl))
 f36:=⟨Tryz.f249.name,by decide,Tryz.func249.trans (congrArg some (by kernel_rfl))⟩
 f37:=⟨Tryz.f252.name,by decide,Tryz.func252.trans (congrArg some (by kernel_rfl))⟩
 f38:=⟨Tryz.f253.name,by decide,Tryz.func253.trans (congrArg some (by kernel_rfl))⟩
 f39:=⟨Tryz.f152.name,by decide,Tryz.func152.trans (congrArg some (by kernel_rfl))⟩
 f41:=⟨Tryz.f270.name,by decide,Tryz.func270.trans (congrArg some (by kernel_rfl))⟩
 t0:=Tryz.underlying0
 a0:=Tryz.isAgg0
 z0:=Tryz.sizeOf0
 v0:=Tryz.zeroValue0
 t3:=Tryz.underlying3
 a3:=Tryz.isAgg3
 z3:=Tryz.sizeOf3
 v3:=Tryz.zeroValue3
 t4:=Tryz.underlying4
 a4:=Tryz.isAgg4
 z4:=Tryz.sizeOf4
 v4:=Tryz.zeroValue4
 t5:=Tryz.underlying5
 a5:=Tryz.isAgg5
 z5:=Tryz.sizeOf5
 v5:=Tryz.zeroValue5
 t9:=Tryz.underlying9
 a9:=Tryz.isAgg9
 z9:=Tryz.sizeOf9
 v9:=Tryz.zeroValue9
 t26:=Tryz.underlying26
 a26:=Tryz.isAgg26
 z26:=Tryz.sizeOf26
 v26:=Tryz.zeroValue26
 t27:=Tryz.underlying26
 a27:=Tryz.isAgg26
 z27:=Tryz.sizeOf26
 v27:=Tryz.zeroValue26
 t29:=Tryz.underlying9
 a29:=Tryz.isAgg9
 z29:=Tryz.sizeOf9
 v29:=Tryz.zeroValue9
 t32:=Tryz.underlying225
 a32:=Tryz.isAgg225
 z32:=Tryz.sizeOf225
 v32:=Tryz.zeroValue225
 t35:=Tryz.underlying273
 a35:=Tryz.isAgg273
 z35:=Tryz.sizeOf273
 v35:=Tryz.zeroValue273
 t36:=Tryz.underlying274
 a36:=Tryz.isAgg274
 z36:=Tryz.sizeOf274
 v36:=Tryz.zeroValue274
 t41:=Tryz.underlying202
 a41:=Tryz.isAgg202
 z41:=Tryz.sizeOf202
 v41:=Tryz.zeroValue202
 t44:=Tryz.underlying250
 a44:=Tryz.isAgg250
 z44:=Tryz.sizeOf250
 v44:=Tryz.zeroValue250
 t46:=Tryz.underlying281
 a46:=Tryz.isAgg281
 z46:=Tryz.sizeOf281
 v46:=Tryz.zeroValue281
 t53:=Tryz.underlying301
 a53:=Tryz.isAgg301
 z53:=Tryz.sizeOf301
 v53:=Tryz.zeroValue301
 t57:=Tryz.underlying305
 a57:=Tryz.isAgg305
 z57:=Tryz.sizeOf305
 v57:=Tryz.zeroValue305
 t63:=Tryz.underlying319
 a63:=Tryz.isAgg319
 z63:=Tryz.sizeOf319
 v63:=Tryz.zeroValue319
 t64:=Tryz.underlying320
 a64:=Tryz.isAgg320
 z64:=Tryz.sizeOf320
 v64:=Tryz.zeroValue320 }
theorem Tryz.sorts118(m:Nat):AnyZ.SortsIn Tryz.prog Tryz.sorted118_ren Fence.wide m:= ⟨λblk off cap ss W hH hblk hsz=>callsIn_wide.2 (AnyM.slices_Sort_string Tryz.sort140 blk off cap ss W hH hblk hsz), λp cap W=>callsIn_wide.2 (AnyM.slices_Sort_string_none Tryz.sort140 p cap W)⟩
theorem Tryz.maps_Keys_119(mb:Option Nat)(W:World):CallsIn Fence.wide 5 Tryz.prog 159 #[.map mb] W λe w'=>e=.returned (.func (.func 193) #[] #[.pointer (some ⟨W.heap.size,0,none⟩)])/\w'=W.alloc (.cells #[.map mb] 170):= AnyZ.keys_in Tryz.keys119 Fence.wide 5 trivial rfl mb W
theorem Tryz.slices_Sorted_keys_118_119{H:Type}(b nn:Nat)(D0:DataW H)(R:Value->Option (DataW H×List MemPlace))(w:World)(hown:w.ownsMap Tryz.prog 9 R b nn D0)(hmax:Maps.size D0<=maxLen)(hbytes:Maps.size D0*16<=140737488355328): CallsIn Fence.wide 5 Tryz.prog 158 #[.func (.func 193) #[] #[.pointer (some ⟨w.heap.size,0,none⟩)]] (w.alloc (.cells #[.map (some b)] 170)) λe w'=>∃(v:Value) (ss:List (List UInt8)),e=.returned v/\ss.Perm (strKeys D0)/\w'.ownsRow (w.alloc (.cells #[.map (some b)] 170)).heap.size 9 1 v ss.length ((ss.mergeSort (λx y=>decide (x<=y))).map encStr)/\(v=.slice none 0 0↔ss=[])/\Below (w.alloc (.cells #[.map (some b)] 170)).heap.size (w.alloc (.cells #[.map (some b)] 170)) w':=by have hbl:=hown.lt;have hseq:SeqGives Fence.wide 2 Tryz.prog 193 #[.pointer (some ⟨w.heap.size,0,none⟩)] encStr (λss=>ss.Perm (strKeys D0)) (Maps.size D0) (w.alloc (.cells #[.map (some b)] 170)):= AnyZ.keys_gives (ρ:=Tryz.keys119_ren) { Tryz.keys119 with } Fence.wide _ trivial rfl (by omega) w.heap.size b nn D0 _ (by simp) (by simp) (by obtain⟨es,clock,hb,Ft,hs,hD⟩:=hown;exact⟨es,clock,(Below.heap_alloc _ _ b hbl).trans hb,Ft,hs,hD⟩);exact AnyZ.sorted_in Tryz.sorted118 Fence.wide 5 trivial trivial trivial trivial rfl (by omega) (Tryz.sorts118 _) (enters_of Tryz.func192 (by kernel_rfl) rfl) 193 #[.pointer (some ⟨w.heap.size,0,none⟩)] trivial (enters_of Tryz.func193 (by kernel_rfl) rfl) _ _ hmax hbytes _ hseq
end Go.Proofs
namespace Go.Proofs.YtjhobnjdfhkohaaGreatDoor.T
open Go.Proofs.Tryz
open Go.RowKit Go.Maps Go.Sort Go.Shelf
attribute [local go_sem] Oper.semAt_some
theorem mF(p:OA)(w:World):Cl 131 #[.pointer p] w λev w'=>ev=.returned (.func (.func 157) #[] #[.pointer (some ⟨w.heap.size,0,none⟩)])/\w'=w.alloc (.cells #[.pointer p] 70):=by go_enter func131,ntmps131;go_wp2;go_ret;exact⟨rfl,rfl⟩
structure It(W:World)(Bx g:Nat)(x:Nd)(ns:List Nd)(cur:Array Value):Prop where
 box:W.heap[Bx]?=some (.cells #[.pointer (some ⟨x.nb,0,none⟩)] 70 (0,0))
 node:W.heap[x.nb]?=some (.cells x.cells 172 (0,0))
 map:KM W x.mb ns.length (aB ns x.p)
 row:W.heap[g]?=some (.cells cur 9 (0,0))
structure Ns(W:World)(Bb Bx g:Nat)(x:Nd)(ns:List Nd)(cur:Array Value):Prop where
 it:It W Bx g x ns cur
 a1:oS Bb W Bx
 a2:oS Bb W x.nb
 a3:oS Bb W x.mb
 a4:oS Bb W g
theorem Ns.kc{W W':World}{Bx g Bb:Nat}{x:Nd}{ns:List Nd}{cur:Array Value}(h:Ns W Bb Bx g x ns cur)(hk:Kc Bb W W'):Ns W' Bb Bx g x ns cur:=by refine⟨⟨hk.at h.a1 h.it.box (.inl rfl),hk.at h.a2 h.it.node (.inl rfl),?_,hk.at h.a4 h.it.row (.inl rfl)⟩,hk.away h.a1,hk.away h.a2,hk.away h.a3,hk.away h.a4⟩;obtain⟨es,clock,hb,F,hs,hD⟩:=h.it.map;exact⟨es,clock,hk.at h.a3 hb (.inr rfl),F,hs,hD⟩
def nm(y:Nd):BA:=⟨(ai y.p).toArray⟩
abbrev zg(ns:List Nd)(p:LU):={ y:Nd // y∈aF ns p }
def AK{ns:List Nd}{p:LU}(y:zg ns p):Array Value:=#[.string (nm y.1),.pointer (some ⟨y.1.nb,0,none⟩)]
theorem DR{W:World}{B:Nat}{v:Value}{ss:List LU}{n:Nat}(h:W.ownsRow B 9 1 v n (ss.map encStr))(hn:n=ss.length):(ss=[]/\n=0/\∃ao cap,v=.slice ao 0 cap)\/∃(g cap:Nat) (cur:Array Value),v=.slice (some ⟨g,0,none⟩) n cap/\B<=g/\W.heap[g]?=some (.cells cur 9 (0,0))/\∀(k:Nat) (s:LU),ss[k]?=some s->cur[k]?=some (.string ⟨s.toArray⟩):=by
 subst hn;obtain⟨hl,⟨hv,h0⟩|⟨g,cap,cur,hv,hB,hg,h1,h2,h3,h4⟩⟩:=h
 .exact .inl ⟨List.length_eq_zero_iff.1 h0,h0,_,_,by rw[hv]⟩
 refine .inr ⟨g,cap,cur,hv,hB,hg,λk s hs=>?_⟩;have hk:=(gL hs)
 have h5:(ss.map encStr)[k]?=some (encStr s):=by rw[List.getElem?_map,hs];rfl
 rw[<-h4,List.getElem?_take,if_pos (by simpa using hk),Array.getElem?_toList]at h5;exact h5
theorem Ci{W:World}{B:Nat}{v:Value}{xs:List Value}{n:Nat}(h:W.ownsRow B 9 1 v n xs):∃N ao cap,Hid (N=n)/\v=.slice ao N cap:=by
 obtain⟨hl,⟨hv,h0⟩|⟨g,cap,cur,hv,_⟩⟩:=h
 .exact⟨_,_,_,ab h0.symm,hv⟩
 exact⟨_,_,_,ab rfl,hv⟩
theorem It.cells{W:World}{Bx g:Nat}{x:Nd}{ns:List Nd}{cur:Array Value}(h:It W Bx g x ns cur):W.cell? ⟨Bx,0,none⟩=some (.pointer (some ⟨x.nb,0,none⟩))/\W.cell? ⟨x.nb,4,none⟩=some (.map (some x.mb))/\∀k,W.cell? ⟨g,k,none⟩=cur[k]?:= ⟨cq 0 h.box,cq 4 h.node,λk=>cq k h.row⟩
theorem pz(K:World->World->Prop)(n:Nat)(hn:1<=n)(Bx B l:Nat)(r x:Nd)(ns:List Nd)(w:World)(hx:x∈r::ns)(hM:cw w B r ns)(HO:Hid (cX (ac ns) ns.length))(HS:Hid (∀y∈ns,y.ent.path.size<=1048576))(hN:ns.length<=1000)(hbx:w.heap[Bx]?=some (.cells #[.pointer (some ⟨x.nb,0,none⟩)] 70 (0,0)))(T:Nat->Array Value->World->Prop)(hT0:∀W' g cur,Bw w W'->w.heap.size<=g->It W' Bx g x ns cur->T g cur W')(hTi:∀g cur W',T g cur W'->It W' Bx g x ns cur)(hTk:∀g cur W1 W2,T g cur W1->K W1 W2->T g cur W2)(J Jx:List (zg ns x.p)->World->Prop)(hJ:∀W',Bw w W'->J [] W')(hY:∀pre y W1,J pre W1->pre++[y] <+: (aF ns x.p).attach->YieldAt Fence.wide (n-1) prog l (AK y) W1 λe W'=>
 (e=.returned (.bool true)/\J (pre++[y]) W'/\K W1 W')\/(e=.returned (.bool false)/\Jx (pre++[y]) W')) :
 CallsIn Fence.wide n prog 157 #[.func (.yield l) #[] #[],.pointer (some ⟨Bx,0,none⟩)] w λe W'=>(∃v,e=.returned v)/\((∃ys,ys=(aF ns x.p).attach/\J ys W')\/(∃pre,True/\Jx pre W')):=by
 obtain⟨g1,g2,g3,g4⟩:=hM.all x hx;have c1:w.cell? ⟨Bx,0,none⟩=some (.pointer (some ⟨x.nb,0,none⟩)):=cq 0 hbx;have c2:w.cell? ⟨x.nb,4,none⟩=some (.map (some x.mb)):=cq 4 g3;have hmax:Maps.size (DK (aB ns x.p))<=1000:=by rw[JF,jp,List.length_map];exact nT (List.length_filter_le _ _) hN
 have hfK:Fence.wide.fn 159:=trivial;have hfS:Fence.wide.fn 158:=trivial;refine callsIn_of_wp func157 rfl trivial ?_ rfl;simp only[ntmps157,sZ,lC,lN,Nat.reduceAdd,Nat.reduceSub,Array.replicate_succ,Array.replicate_zero,List.push_toArray,List.append_toArray,List.nil_append,List.cons_append];gi_wp2_with (first|(gi_at_call 159;refine(callsIn_wide.2 (callsIn_wide.1 (Tryz.maps_Keys_119 _ _))).mono ?_;rintro e w'⟨rfl,rfl⟩)|(gi_at_call 158;refine(callsIn_wide.2 (callsIn_wide.1 (Tryz.slices_Sorted_keys_118_119 x.mb ns.length _ RK w g4 (by unfold maxLen;omega) (by omega)))).mono ?_;rintro e w'⟨v,ss,rfl,hS,hrow,hnil,hb⟩;obtain⟨N,ao,cap,HN,rfl⟩:=Ci hrow))
 have hlen:N=(aF ns x.p).length:=by rw[uh HN,hS.length_eq,BE,jp];simp
 rw[za (uh HO) hS,<-uh HN]at hrow;have hbw:Bw w w':=(((bR _ w).alloc (nR _) _)).trans (hb.mono (by simp));have hJ1:J [] w':=hJ w' hbw;have hk1:=hbw.block;clear HN;have HN:=ab hlen;clear hS hnil hb hlen c1 c2;have hN2:N<=1000:=by rw[uh HN];exact nT (List.length_filter_le _ _) hN
 rcases DR hrow (by rw[List.length_map];exact uh HN)with⟨he,rfl,ao',cap',hv⟩|⟨g,cap',cur,hv,hgB,hgc,hcells⟩
 all_goals cases hv
 .have hempty:(aF ns x.p).attach=[]:=by rw[List.attach_eq_nil_iff];simpa using he
  gi_wp2;gi_loopw [12] (λi wr=>i=.int .i64 0/\J [] wr) (λ_ _=>0);case atStart=>exact⟨rfl,hJ1⟩
  case round=>obtain⟨rfl,hJr⟩:=hrel;gi_wp2;go_end0;exact⟨⟨_,rfl⟩,.inl ⟨[],hempty.symm,hJr⟩⟩
 have hIt:T g cur w':=hT0 w' g cur hbw (by simp at hgB;omega) ⟨(hk1 _ (gA hbx)).trans hbx,(hk1 _ (gA g3)).trans g3,g4.below hbw,hgc⟩;have HIt:=ab hIt;clear hrow hgc hIt hk1 g3 g4 hbx hM;gi_wp2;gi_loopw [12] (λi wr=>∃k:Nat,k<=N/\i=.int .i64 (k:Int)/\Hid (T g cur wr)/\J ((aF ns x.p).attach.take k) wr) (λi _=>N-(intOf i).toNat);case atStart=>exact⟨0,Nat.zero_le _,rfl,HIt,by simpa using hJ1⟩
 case round=>
  obtain⟨k,hk,rfl,HI,hJs⟩:=hrel;have hI:=hTi _ _ _ (uh HI);by_cases hlt:k<N
  .have hkx:k<(aF ns x.p).length:=by rw[<-uh HN];exact hlt
   have hka:k<(aF ns x.p).attach.length:=by rw[List.length_attach];exact hkx
   obtain⟨y,hy⟩:=aq ((aF ns x.p).attach[k]);have hyk:(aF ns x.p)[k]?=some y.1:=by rw[hy];simp
   have HT:Hid ((aF ns x.p).attach.take (k+1)=(aF ns x.p).attach.take k++[y]):=ab (by rw[List.take_add_one,gG hka,hy];rfl);have hlen:(aF ns x.p).attach.take k++[y] <+: (aF ns x.p).attach:=by rw[<-uh HT];exact List.take_prefix _ _
   obtain⟨fn,tmps,assign,body,hyr,hR⟩:=hY _ y wr hJs hlen;have cc:=hcells k (ai y.1.p) (by rw[List.getElem?_map,hyk];rfl);have d1:=hI.cells.1;have d2:=hI.cells.2.1;have d3:wr.cell? ⟨g,k,none⟩=some (.string (nm y.1)):=(hI.cells.2.2 k).trans cc;have hnz:(nm y.1).size<=1073741824:=by have e1:=fQ y.1.p;have e2:=uh HS y.1 (bW y.2).1;have e3:y.1.p.length=y.1.ent.path.size:=Array.length_toList;have e4:(nm y.1).size=(ai y.1.p).length:=rfl;omega
   have hlook:=KM.at hI.map (uh HO) y.2 (nm y.1) hnz rfl;have i0:(0:Int)<=(k:Int):=by omega
   have i1:(k:Int)<(N:Int):=by omega
   have i2:IntKind.i64.wrap ((k:Int)+1)=((k+1:Nat):Int):=by rw[IntKind.wrap_i64]<;>omega
   unfold AK at hyr;clear hy hcells hY cc hkx hka hlen hI hyk;gi_wp2;refine hR.mono ?_;rintro e W3 (⟨rfl,hJ3,hk3⟩|⟨rfl,hJx3⟩)
   .gi_wp2;go_roundw;case rel=>exact⟨k+1,by omega,rfl,ab (hTk _ _ _ _ (uh HI) hk3),by rw[uh HT];exact hJ3⟩
    case measure=>simp[intOf];omega
   gi_wp2;refine bodyPost_ret (results_none rfl _ _ _) rfl ?_;exact⟨⟨_,rfl⟩,.inr ⟨_,trivial,hJx3⟩⟩
  have hkN:k=N:=by omega
  have i1:¬(k:Int)<(N:Int):=by omega
  have HE:Hid ((aF ns x.p).attach.take k=(aF ns x.p).attach):=ab (List.take_of_length_le (by rw[List.length_attach,<-uh HN];omega));have HKN:=ab hkN;clear hkN;gi_wp2;go_end0;exact⟨⟨_,rfl⟩,.inl (by rw[uh HE]at hJs;first|exact hJs|exact⟨_,rfl,hJs⟩)⟩
theorem zq(n:Nat)(hn:1<=n)(Bx Bb B:Nat)(r x:Nd)(ns:List Nd)(w:World)(hx:x∈r::ns)(hM:cw w B r ns)(HO:Hid (cX (ac ns) ns.length))(HS:Hid (∀y∈ns,y.ent.path.size<=1048576))(hN:ns.length<=1000)(hbx:w.heap[Bx]?=some (.cells #[.pointer (some ⟨x.nb,0,none⟩)] 70 (0,0)))(h1:oS Bb w Bx)(h2:oS Bb w x.nb)(h3:oS Bb w x.mb)(h4:xi Bb w): zD Bb Fence.wide n prog 157 #[.pointer (some ⟨Bx,0,none⟩)] (AK (ns:=ns) (p:=x.p)) (aF ns x.p).attach w:=by
 intro l J W hW hJ hY h0;have hK:=Kc.below hW h4.1;refine(pz (Kc Bb) n hn Bx B l r x ns W hx (hM.below hW) HO HS hN ((hW.block _ (gA hbx)).trans hbx) (λg cur V=>Ns V Bb Bx g x ns cur)
  (λV g cur hb hg hi=>⟨hi,(Kc.below hb (Nat.lt_of_lt_of_le h4.1 hW.size)).away (hK.away h1),(Kc.below hb (Nat.lt_of_lt_of_le h4.1 hW.size)).away (hK.away h2),(Kc.below hb (Nat.lt_of_lt_of_le h4.1 hW.size)).away (hK.away h3),nH (hK.rowIn h4) hb hg (eA.1 hi.row).1⟩) (λ_ _ _ h=>h.it) (λ_ _ _ _ h hk=>h.kc hk) J (λ_ _=>False)
  (λW' hb=>hJ.go [] W W' h0 (jV.below hb)) (λpre y W1 hj hp=>?_)).mono ?_
 .obtain⟨fn,tmps,assign,body,hy,hR⟩:=hY pre y W1 hj hp;exact⟨fn,tmps,assign,body,hy,hR.mono λe W' h=>.inl ⟨h.1,h.2.1,h.2.2.2⟩⟩
 rintro e W'⟨hv,⟨ys,rfl,hj⟩|⟨pre,_,hf⟩⟩
 .exact⟨hv,hj⟩
 exact hf.elim
end Go.Proofs.YtjhobnjdfhkohaaGreatDoor.T
namespace Go.Proofs.YtjhobnjdfhkohaaGreatDoor.T
open Go.Proofs.Tryz
open Go.RowKit Go.Maps Go.Sort Go.Shelf
attribute [local go_sem] Oper.semAt_some
def AE(Bb:Nat)(W:World)(B:Nat)(r:Nd)(ns:List Nd):Prop:=cw W B r ns/\∀x∈r::ns,oS Bb W x.nb/\oS Bb W x.mb
theorem AE.kc{Bb B:Nat}{W W':World}{r:Nd}{ns:List Nd}(h:AE Bb W B r ns)(hk:Kc Bb W W'):AE Bb W' B r ns:=by refine⟨⟨h.1.root,λx hx=>?_,h.1.apart⟩,λx hx=>⟨hk.away (h.2 x hx).1,hk.away (h.2 x hx).2⟩⟩;obtain⟨h1,h2,h3,es,clock,hb,F,hs,hD⟩:=h.1.all x hx;exact⟨h1,h2,hk.at (h.2 x hx).1 h3 (.inl rfl),es,clock,hk.at (h.2 x hx).2 hb (.inr rfl),F,hs,hD⟩
theorem mX{ns:List Nd}{f:Nat}{p:LU}(pre:List (zg ns p))(y:zg ns p):((pre++[y]).map λk=>dV ns f k.1).flatten=(pre.map λk=>dV ns f k.1).flatten++dV ns f y.1:=by simp
theorem qS(ns:List Nd)(f:Nat)(p:LU):((aF ns p).attach.map λk=>dV ns f k.1).flatten=((aF ns p).map (dV ns f)).flatten:=by rw[List.attach_map_val (f:=dV ns f)]
theorem AV{ns:List Nd}{f:Nat}{p:LU}{l:List (zg ns p)}(h:l <+: (aF ns p).attach):(l.map λk=>dV ns f k.1).flatten <+: ((aF ns p).map (dV ns f)).flatten:=by rw[<-qS];obtain⟨t,e⟩:=h;rw[<-e,List.map_append,List.flatten_append];exact List.prefix_append _ _
theorem GH(es:List aj)(B Bb B0:Nat)(r:Nd)(ns:List Nd)(HE:Hid (ac ns=es))(HT:Hid (jo es))(l:Nat)(xs:List Nd)(J:List Nd->World->Prop)(hJ:vC Bb B0 J)(hY:∀m pre y W1,J pre W1->pre++[y] <+: xs->YieldAt Fence.wide m prog l #[.pointer (some ⟨y.nb,0,none⟩)] W1 λe W'=>e=.returned (.bool true)/\J (pre++[y]) W'/\KeepsOthers W1 W'/\Kc Bb W1 W'): ∀(f:Nat) (x:Nd),x∈r::ns->Hid (Deep es f x.ent)->∀(pre:List Nd) (W:World),B0<=W.heap.size->Bb<W.heap.size->AE Bb W B r ns->J pre W->pre++dV ns f x <+: xs->Cl 107 #[.pointer (some ⟨x.nb,0,none⟩),.func (.yield l) #[] #[]] W λe W'=>e=.returned (.bool true)/\J (pre++dV ns f x) W'/\KeepsOthers W W'/\Kc Bb W W':=by
 intro f;induction f with
 |zero=>intro x _ HD;exact absurd rfl (nV (uh HD))
 |succ f ih=>
  intro x hx HD pre W hB0 hBb hM hj hp;rw[dV]at hp⊢;have hlen:ns.length<=600:=by have:=(uh HT).len;rw[<-uh HE]at this;simpa[ac]using this
  have HO:Hid (cX (ac ns) ns.length):=ab (by have h:=(uh HT).ok;rw[<-uh HE]at h;simpa[ac]using h);have HS:Hid (∀y∈ns,y.ent.path.size<=1048576):=ab λy hy=>((uh HT).small y.ent (by rw[<-uh HE];exact List.mem_map.2 ⟨y,hy,rfl⟩)).1;have HP:=ab hp;have rin:∀{s V},J s V->Bb<V.heap.size->xi Bb V:=fun {s V} hs hb=>⟨hb,λk hk=>by obtain⟨o,ho,_⟩:=hJ.row s V hs k hk;exact(bY ho)⟩
  obtain⟨W2,hW2⟩:=aq ((W.alloc (.cells #[.func (.yield l) #[] #[]] 204)).alloc (.cells #[.bool false] 4));have b2:Bw W W2:=by rw[hW2];exact((ju _ W).alloc (bH _) _).alloc (by simp) _
  have s2:W2.heap.size=W.heap.size+2:=by rw[hW2];simp
  have y2:W2.heap[W.heap.size]?=some (.cells #[.func (.yield l) #[] #[]] 204 (0,0)):=by rw[hW2];exact(Below.heap_alloc _ _ _ (by simp)).trans (ft _ _)
  have r2:W2.heap[W.heap.size+1]?=some (.cells #[.bool false] 4 (0,0)):=by have:=ft (W.alloc (.cells #[.func (.yield l) #[] #[]] 204)) (.cells #[.bool false] 4);rw[World.size_alloc]at this;rw[hW2];exact this
  have hj2:J pre W2:=hJ.go _ _ _ hj (jV.below b2);have HA1:=ab (nH (g:=W.heap.size) (rin hj hBb) b2 (bH _) (by omega));have HA2:=ab (nH (g:=W.heap.size+1) (rin hj hBb) b2 (by omega) (by omega));obtain⟨fn,tmps,assign,body,hy,hR⟩:=hY 5 pre x W2 hj2 (List.IsPrefix.trans ⟨((aF ns x.p).map (dV ns f)).flatten,by simp⟩ hp);have c1:=cq 0 y2;have HM:=ab hM;have HY2:=ab y2;have HR2:=ab r2;have hf88:Fence.wide.fn 131:=trivial;clear hM y2 r2 hp hj hj2;refine(callsIn_wide (n:=6)).1 ?_;refine callsIn_of_wp_marks func107 rfl trivial ?_ rfl;simp only[ntmps107,pL,mr,nD,Nat.reduceAdd,Nat.reduceSub,Array.replicate_succ,Array.replicate_zero,List.push_toArray,List.append_toArray,List.nil_append,List.cons_append];gi_wp2;rw[<-hW2,hy];clear hy hW2;gi_wp2;refine hR.mono ?_;clear hR;rintro e W3⟨rfl,hj3,hk3,hc3⟩;gi_wp2_with (gi_at_call 131;refine(callsIn_wide.2 (mF _ _)).mono ?_;rintro e w4⟨rfl,rfl⟩)
  have s3:=hc3.size;have hB3:Bb<W3.heap.size:=by omega
  have hcW3:Kc Bb W W3:=(Kc.below b2 hBb).trans hc3;have hkW3:KeepsOthers W W3:=(kO b2).trans hk3;have hM3:=(uh HM).kc hcW3;have rin3:=rin hj3 hB3;obtain⟨W4,hW4⟩:=aq (W3.alloc (.cells #[.pointer (some ⟨x.nb,0,none⟩)] 70));have b4:=dw hW4;have s4:W4.heap.size=W3.heap.size+1:=by rw[hW4];simp
  have x4:=em hW4;have hj4:J (pre++x::([].map λk:zg ns x.p=>dV ns f k.1).flatten) W4:=hJ.go _ _ _ hj3 (jV.below b4);have hc4:Kc Bb W3 W4:=Kc.below b4 hB3;have hcW4:=hcW3.trans hc4;have hkW4:=hkW3.trans (kO b4);have hM4:=hM3.kc hc4;have rin4:=rin hj4 (by omega);have aX:=nH (g:=W3.heap.size) rin3 b4 (bH _) (by omega);have y4:=(hc3.trans hc4).at (uh HA1) (uh HY2) (.inl rfl)
  have r4:=(hc3.trans hc4).at (uh HA2) (uh HR2) (.inl rfl)
  have a1:=(hc3.trans hc4).away (uh HA1);have a2:=(hc3.trans hc4).away (uh HA2);rw[<-hW4];clear hj3 hk3 hc3 hM3 c1 rin3 hW4;refine oH (Bb:=Bb) (α:=zg ns x.p) rfl (by omega) (gf:=157) (lb:=#[.pointer (some ⟨W3.heap.size,0,none⟩)]) rfl trivial (enters_of func157 (by kernel_rfl) rfl) (zq 5 (by omega) W3.heap.size Bb B r x ns W4 hx hM4.1 HO HS (by omega) x4 aX (hM4.2 x hx).1 (hM4.2 x hx).2 rin4) (by omega) (ju _ _) (λ_=>rfl) (λp V=>J (pre++x::(p.map λk=>dV ns f k.1).flatten) V/\Kc Bb W4 V/\KeepsOthers W4 V) ⟨λs V V' hs hk=>⟨hJ.go _ _ _ hs.1 (hk.mono (by omega)),hs.2.1.kept (by omega) hk (bH _),zv hs.2.2 hk (bH _)⟩,λs V hs=>hJ.row _ _ hs.1⟩ ⟨hj4,Kc.refl _ _,KeepsOthers.refl _⟩ (λt k=>((t.setIfInBounds 13 (.string (nm k.1))).setIfInBounds 14 (.pointer (some ⟨k.1.nb,0,none⟩))).setIfInBounds 6 (.pointer (some ⟨k.1.nb,0,none⟩))) ?assign ?body ?done;case assign=>intro l' y V K hK;unfold AK;gi_wp2;simpa using hK
  case body=>
   rintro l' p y V⟨hjv,hcv,hkv⟩ hpp;have hk:=bW y.2;have hdk:Deep es f y.1.ent:=nf (uh HT).ok (uh HD) (by rw[<-uh HE];show y.1.ent∈pI (ac ns) x.p;rw[nZ];exact List.mem_map.2 ⟨y.1,y.2,rfl⟩);have hpx:pre++x::(p.map λk=>dV ns f k.1).flatten++dV ns f y.1 <+: xs:=by refine List.IsPrefix.trans ?_ (uh HP);obtain⟨t,ht⟩:=AV (f:=f) hpp;exact⟨t,by rw[<-ht,mX];simp⟩
   have sv:=hcv.size;have HIH:=ab (ih y.1 (List.mem_cons_of_mem _ hk.1) (ab hdk) (pre++x::(p.map λk=>dV ns f k.1).flatten) V (by omega) (by omega) (hM4.kc hcv) hjv hpx);have cy:=cq 0 (hcv.at a1 y4 (.inl rfl));have hf106:(Fence.wide.inRound l').fn 107:=trivial;clear ih hpx hpp hdk;gi_wp2_with (refine⟨trivial,?_⟩;gi_at_call 107;refine(CallsIn.inRound l' (callsIn_wide.2 (uh HIH))).mono ?_;rintro e V2⟨rfl,hj5,hk5,hc5⟩)
   refine⟨hk5,hc5,?_,hcv.trans hc5,hkv.trans hk5⟩;rw[mX];simpa using hj5
  case done=>
   rintro D V hD⟨hjv,hcv,hkv⟩ hK;have cr:=hcv.at a2 r4 (.inl rfl);have sv:=hcv.size;have c1:=cq 0 cr;have c2:V.frozen? ⟨W.heap.size+1,0,none⟩=false:=by simp[World.frozen?,cr]
   gi_wp2;have hK2:(V.setCell ⟨W.heap.size+1,0,none⟩ (.bool true)).heap[D]?=some (.deferred (some [])):=(KeepsOthers.setCell V ⟨W.heap.size+1,0,none⟩ (.bool true)).same D _ hK rfl;have c3:((V.setCell ⟨W.heap.size+1,0,none⟩ (.bool true)).putObj D (.deferred none)).cell? ⟨W.heap.size+1,0,none⟩=some (.bool true):=by rw[ik _ (by show W.heap.size+1≠D;omega)];exact World.cell?_setCell_same' _ _ _ (by rw[c1];rfl)
   have av:=hcv.away a2;have j1:J (pre++x::((aF ns x.p).map (dV ns f)).flatten) (V.setCell ⟨W.heap.size+1,0,none⟩ (.bool true)):=by rw[<-qS];exact hJ.go _ _ _ hjv (jV.set _ (by show B0<=W.heap.size+1;omega) av.2.1 av.2.2)
   have j2:J (pre++x::((aF ns x.p).map (dV ns f)).flatten) ((V.setCell ⟨W.heap.size+1,0,none⟩ (.bool true)).putObj D (.deferred none)):= hJ.go _ _ _ j1 (jV.put _ (by omega) (by omega) (λhr=>by obtain⟨o,h5,h6⟩:=hJ.row _ _ j1 D hr;rw[hK2]at h5;cases h5;cases h6));refine⟨by simp,.inl ⟨_,_,rfl,run_takeDeferred hK2,?_⟩⟩;refine⟨.bool true,?_,rfl,j2,vM ((hkW4.trans hkv).trans (KeepsOthers.setCell _ _ _)) _ (by omega),((hcW4.trans hcv).setNew _ hBb (by show W.heap.size<=W.heap.size+1;omega)).putNew _ hBb (by omega)⟩;simp[results,results107,go_sem,c3]
theorem ur(p:OA)(w:World):Cl 78 #[.pointer p] w λev w'=>ev=.returned (.func (.func 106) #[] #[.pointer (some ⟨w.heap.size,0,none⟩)])/\w'=w.alloc (.cells #[.pointer p] 70):=by go_enter func78,ntmps78;go_wp2;go_ret;exact⟨rfl,rfl⟩
theorem Bd(es:List aj)(B Bb Bx n:Nat)(r:Nd)(ns:List Nd)(w:World)(HE:Hid (ac ns=es))(HT:Hid (jo es))(hM:AE Bb w B r ns)(hbx:w.heap[Bx]?=some (.cells #[.pointer (some ⟨r.nb,0,none⟩)] 70 (0,0)))(h4:Bb<w.heap.size): zD Bb Fence.wide n prog 106 #[.pointer (some ⟨Bx,0,none⟩)] (λy:Nd=>#[.pointer (some ⟨y.nb,0,none⟩)]) (r::ns) w:=by
 intro l J W hW hJ hY h0;have hK:=Kc.below hW h4;have c1:=cq 0 ((hW.block _ (bY hbx)).trans hbx);have hpr:=F3 (uh HE) (uh HT).ok hM.1.root;have hd:Deep es (es.length+1) r.ent:=by rw[hM.1.root];exact lL es
 have hE:=GH es B Bb W.heap.size r ns HE HT l (r::ns) J hJ (λm pre y W1 hj hp=>qm (hY pre y W1 hj hp)) (es.length+1) r (by simp) (ab hd) [] W (bH _) (Nat.lt_of_lt_of_le h4 hW.size) (hM.kc hK) h0 (by rw[hpr];exact List.prefix_refl _);rw[hpr]at hE;have HE2:=ab hE;have hf106:Fence.wide.fn 107:=trivial;clear hE hY h0 hM;refine(callsIn_wide (n:=n)).2 ((callsIn_wide (n:=6)).1 ?_);refine callsIn_of_wp func106 rfl trivial ?_ rfl;simp only[ntmps106,pL,mr,nD,Nat.reduceAdd,Nat.reduceSub,Array.replicate_succ,Array.replicate_zero,List.push_toArray,List.append_toArray,List.nil_append,List.cons_append];gi_wp2_with (gi_at_call 107;refine(callsIn_wide.2 (uh HE2)).mono ?_;rintro e W2⟨rfl,hj2,_,_⟩)
 go_end0;exact⟨⟨_,rfl⟩,hj2⟩
end Go.Proofs.YtjhobnjdfhkohaaGreatDoor.T
namespace Go.Proofs.YtjhobnjdfhkohaaGreatDoor.T
open Go.Proofs.Tryz
open Go.RowKit Go.Maps Go.Sort Go.Shelf
attribute [local go_sem] Oper.semAt_some
theorem Cb{F:Fence}{n:Nat}{P:Program}{w w1:World}{o:Oper}{a:Act}{K:Act->World->Prop}{Q:Exit->Act->World->Prop}(s x:Operand)(t:TypeId)(hop:o.op=Op.call { callee:=Callee.builtin Builtin.append,args:=#[s,x],argTypes:=#[t,t] }){v u v':Value}(hs:a.eval s=v)(hx:a.eval x=u)(hrun:(Builtin.append_ #[t,t] o.type #[v,u]).run P w=.ok v' w1)(hK:K (a.put o.dst v') w1):Oper.wpIn F n P o a w K Q:=by
 unfold Oper.wpIn;refine⟨?_,?_⟩
 .simp[Oper.about,hop,resolve,Target.leads,Sem.run_pure]
 rw[Oper.semAt_plain F _ _ (by rw[hop];intro c hc';cases hc')];simp[execOp,hop,resolve,invoke,builtin,hs,hx,hrun,Result.andThen];exact hK
end Go.Proofs.YtjhobnjdfhkohaaGreatDoor.T
namespace Go.Proofs.YtjhobnjdfhkohaaGreatDoor.T
open Go.Proofs.Tryz
open Go.RowKit Go.Maps Go.Sort Go.Shelf
attribute [local go_sem] Oper.semAt_some
theorem Bt:prog.underlying 70=some (.pointer 172):=by kernel_rfl
theorem KH:(prog.info? 172).map (λi=>i.size)=some 5:=by kernel_rfl
theorem uS:∃j,prog.info? 172=some j/\j.size=5:=by
 have h:=KH;cases hj:prog.info? 172 with
 |none=>rw[hj]at h;cases h
 |some j=>rw[hj]at h;exact⟨j,rfl,by simpa using h⟩
theorem qH(w:World)(a:Addr):(binOp .neq 70 (.pointer (some a)) (.pointer (some a))).run prog w=.ok (.bool false) w:=by
 obtain⟨j,hj,hz⟩:=uS;have h:∀d:Nat,(Op.equalIn (d+1) 70 (.pointer (some a)) (.pointer (some a))).run prog w=.ok true w:=λd=>by simp[Op.equalIn,run_underlying Bt,sizeOf,typeInfo,hj,run_sameAddr_same]
 simp only[binOp];simp[Op.equal,Op.maxDepth,h 9999]
theorem pn(w:World){a b:Nat}{ca cb:Array Value}{ta tb:TypeId}(hne:a≠b)(ha:w.heap[a]?=some (.cells ca ta (0,0)))(hb:w.heap[b]?=some (.cells cb tb (0,0))):(binOp .neq 70 (.pointer (some ⟨a,0,none⟩)) (.pointer (some ⟨b,0,none⟩))).run prog w=.ok (.bool true) w:=by
 obtain⟨j,hj,hz⟩:=uS;have hs:=run_sameAddr_other (P:=prog) (w:=w) (a:=⟨a,0,none⟩) (b:=⟨b,0,none⟩) (λe=>hne (by cases e;rfl)) ha hb;have h:∀d:Nat,(Op.equalIn (d+1) 70 (.pointer (some ⟨a,0,none⟩)) (.pointer (some ⟨b,0,none⟩))).run prog w=.ok false w:=λd=>by simp[Op.equalIn,run_underlying Bt,sizeOf,typeInfo,hj,hz,hs]
 simp only[binOp];simp[Op.equal,Op.maxDepth,h 9999]
def wH(w:World)(r:Nd)(pre:List Nd)(W:World):Prop:=Boxed W (w.heap.size+1) 3 (.int .i64 ((pre.length-1:Nat):Int))/\W.heap[w.heap.size]?=some (.cells #[.pointer (some ⟨r.nb,0,none⟩)] 70 (0,0))/\Bw w W
theorem lR{w W:World}{r:Nd}{pre:List Nd}(h:wH w r pre W):∀k,¬il W (w.heap.size+1) k:=λk ⟨o,s,n,c,e⟩=>by rw[h.1.cell]at e;cases e
theorem GF(w:World)(r:Nd)(B0:Nat)(hB:w.heap.size<B0):vC (w.heap.size+1) B0 (λpre W=>wH w r pre W):=by
 refine⟨λs W W' hs hk=>?_,λs W hs k hk=>absurd hk (lR hs k)⟩;have hz:=hs.2.2.size;have h0:=(gA hs.2.1)
 refine⟨(hk.block _ hs.1.lt (.inr (.inl rfl))).trans hs.1,(hk.block _ h0 (.inl hB)).trans hs.2.1,⟨hk.os.trans hs.2.2.os,hk.tape.trans hs.2.2.tape,hk.output.trans hs.2.2.output,nT hz hk.size,λk h=>(hk.block k (by omega) (.inl (by omega))).trans (hs.2.2.block k h)⟩⟩
theorem JZ{w W:World}{r:Nd}{pre pre':List Nd}(h:wH w r pre W):wH w r pre' (W.setCell ⟨w.heap.size+1,0,none⟩ (.int .i64 ((pre'.length-1:Nat):Int)))/\KeepsOthers W (W.setCell ⟨w.heap.size+1,0,none⟩ (.int .i64 ((pre'.length-1:Nat):Int)))/\Kc (w.heap.size+1) W (W.setCell ⟨w.heap.size+1,0,none⟩ (.int .i64 ((pre'.length-1:Nat):Int))):=by
 have h1:=h.1.set (.int .i64 ((pre'.length-1:Nat):Int));have hs:=(KeepsWalks.setCell W ⟨w.heap.size+1,0,none⟩ (.int .i64 ((pre'.length-1:Nat):Int))).size;have hc:wH w r pre' (W.setCell ⟨w.heap.size+1,0,none⟩ (.int .i64 ((pre'.length-1:Nat):Int))):=⟨h1,(Below.heap_setCell _ _ _ _ (by show w.heap.size≠w.heap.size+1;omega)).trans h.2.1,h.2.2.setCell (by show w.heap.size<=w.heap.size+1;omega) _⟩
 refine⟨hc,⟨hs,λk o hk ho=>?_⟩,⟨hs,λk o hk _ hne _=>(Below.heap_setCell _ _ _ k hne).trans hk,λk hk=>absurd hk (lR hc k)⟩⟩;refine(Below.heap_setCell _ _ _ k (λe=>?_)).trans hk;rw[show k=w.heap.size+1 from e,show W.heap[w.heap.size+1]?=_ from h.1]at hk;cases hk;cases ho
theorem y6{w:World}{B:Nat}{r:Nd}{ns:List Nd}(h:cw w B r ns){y:Nd}(hy:y∈ns):y.nb≠r.nb:=λen=>by have hmb:=(List.pairwise_cons.1 h.apart).1 y hy;have h3:=(h.all y (by simp[hy])).2.2.1;have h4:=(h.all r (by simp)).2.2.1;rw[en,h4]at h3;have h5:=congrArg (λo=>match o with|some (Obj.cells cs _ _)=>cs[4]?|_=>none) h3;simp[Nd.cells]at h5;exact hmb h5
theorem CW{B:Nat}{r:Nd}{ns:List Nd}{es:List aj}(w:World)(hM:cw w B r ns)(HE:Hid (ac ns=es))(HT:Hid (jo es)): Cl 105 #[.pointer (some ⟨r.nb,0,none⟩)] w λev w'=>ev=.returned (.int .i64 (ns.length:Nat))/\Bw w w':=by
 have HA:=ab hM;have hf73:Fence.wide.fn 78:=trivial;have hln:ns.length<=600:=by have:=(uh HT).len;rw[<-uh HE]at this;simpa[ac]using this
 clear hM;refine(callsIn_wide (n:=6)).1 ?_;refine callsIn_of_wp_marks func105 rfl trivial ?_ rfl;simp only[ntmps105,sZ,lC,lN,Nat.reduceAdd,Nat.reduceSub,Array.replicate_succ,Array.replicate_zero,List.push_toArray,List.append_toArray,List.nil_append,List.cons_append];gi_wp2_with (gi_at_call 78;refine(callsIn_wide.2 (ur _ _)).mono ?_;rintro e w4⟨rfl,rfl⟩)
 obtain⟨W2,hW2⟩:=aq (((w.alloc (.cells #[.pointer (some ⟨r.nb,0,none⟩)] 70)).alloc (.cells #[.int .i64 0] 3)).alloc (.cells #[.pointer (some ⟨r.nb,0,none⟩)] 70));have s2:W2.heap.size=w.heap.size+3:=by rw[hW2];simp
 have hb2:Bw w W2:=by rw[hW2];exact((eD).alloc (by simp) _).alloc (by simp;omega) _
 have j0:W2.heap[w.heap.size]?=some (.cells #[.pointer (some ⟨r.nb,0,none⟩)] 70 (0,0)):=by rw[hW2];exact(Below.heap_alloc _ _ _ (by simp;omega)).trans ((Below.heap_alloc _ _ _ (by simp)).trans (hN _ _))
 have j1:W2.heap[w.heap.size+1]?=some (.cells #[.int .i64 0] 3 (0,0)):=by rw[hW2];refine(Below.heap_alloc _ _ _ (by simp)).trans ?_;have:=hN (w.alloc (.cells #[.pointer (some ⟨r.nb,0,none⟩)] 70)) (.cells #[.int .i64 0] 3);rw[World.size_alloc]at this;exact this
 have x2:W2.heap[w.heap.size+1+1]?=some (.cells #[.pointer (some ⟨r.nb,0,none⟩)] 70 (0,0)):=by have:=hN ((w.alloc (.cells #[.pointer (some ⟨r.nb,0,none⟩)] 70)).alloc (.cells #[.int .i64 0] 3)) (.cells #[.pointer (some ⟨r.nb,0,none⟩)] 70);rw[World.size_alloc,World.size_alloc]at this;rw[hW2];exact this
 rw[<-hW2];have hJ0:wH w r [] W2:=⟨j1,j0,hb2⟩
 have hMA:AE (w.heap.size+1) W2 B r ns:=⟨(uh HA).below hb2,λx hx=>by have h1:x.nb<w.heap.size:=(eA.1 ((uh HA).all x hx).2.2.1).1;have h2:x.mb<w.heap.size:=World.ownsMap.lt ((uh HA).all x hx).2.2.2;exact⟨⟨by omega,by omega,lR hJ0 _⟩,⟨by omega,by omega,lR hJ0 _⟩⟩⟩
 clear hW2 j0 j1;refine oH (Bb:=w.heap.size+1) (α:=Nd) (xs:=r::ns) rfl (by omega) (gf:=106) (lb:=#[.pointer (some ⟨w.heap.size+1+1,0,none⟩)]) rfl trivial (enters_of func106 (by kernel_rfl) rfl) (Bd es B (w.heap.size+1) (w.heap.size+1+1) 5 r ns W2 HE HT hMA x2 (by omega)) (by omega) (bR _ _) (λ_=>rfl) (λpre W=>wH w r pre W) (GF w r W2.heap.size (by omega)) hJ0 (λt y=>(t.setIfInBounds 7 (.pointer (some ⟨y.nb,0,none⟩))).setIfInBounds 4 (.pointer (some ⟨y.nb,0,none⟩))) ?assign ?body ?done;case assign=>intro l y W K hK;gi_wp2;simpa using hK
 case body=>
  rintro l pre y W hJ hp;have cb:=hJ.1.cell;have cf:=hJ.1.frozen;have cr:=cq 0 hJ.2.1;cases pre with
  |nil=>
   have hy:y=r:=by obtain⟨t,e⟩:=hp;simpa using(List.cons.inj e).1
   subst hy;have HJ:Hid (wH w y ([]++[y]) W):=ab hJ;have hneq:=qH W ⟨y.nb,0,none⟩;clear hJ;gi_wp2;exact⟨KeepsOthers.refl _,Kc.refl _ _,uh HJ⟩
  |cons x pre=>
   have hy:y∈ns:=by obtain⟨t,e⟩:=hp;have e2:=(List.cons.inj e).2;rw[<-e2];simp
   have hnb:=y6 (uh HA) hy;have hlp:(x::pre).length<=601:=by have:=hp.length_le;simp at this⊢;omega
   have hMW:=(uh HA).below hJ.2.2;have hneq:=pn W hnb (hMW.all y (by simp[hy])).2.2.1 (hMW.all r (by simp)).2.2.1;clear hMW;have Q:=ab (JZ (pre':=(x::pre)++[y]) hJ);have ew:IntKind.i64.wrap ((((x::pre).length-1:Nat):Int)+1)=((((x::pre)++[y]).length-1:Nat):Int):=by rw[show ((((x::pre).length-1:Nat):Int)+1)=((((x::pre)++[y]).length-1:Nat):Int) from by simp];exact wrap_i64 _ (by simp at hlp⊢;omega)
   obtain⟨a,ha⟩:∃a:Int,a=(((x::pre).length-1:Nat):Int):=⟨_,rfl⟩
   obtain⟨b,hb⟩:∃b:Int,b=((((x::pre)++[y]).length-1:Nat):Int):=⟨_,rfl⟩
   rw[<-ha,<-hb]at ew;rw[<-ha]at cb;rw[<-hb]at Q;have HQ:=ab Q;clear ha hb hJ Q;gi_wp2;exact⟨(uh (uh HQ)).2.1,(uh (uh HQ)).2.2,(uh (uh HQ)).1⟩
 case done=>rintro D W hD hJ hK;have cb:=hJ.1.cell;have HJ:=ab hJ;clear hJ;gi_wp2;refine⟨by simp,.inl ⟨_,_,rfl,run_takeDeferred hK,?_⟩⟩;refine⟨_,results_tmp rfl _ _ _,?_⟩;refine⟨by simp,?_⟩;exact(uh HJ).2.2.trans (belowK_b (w:=w) (nR _) _ D _ _ (by omega) hK rfl rfl)
end Go.Proofs.YtjhobnjdfhkohaaGreatDoor.T
namespace Go.Proofs.YtjhobnjdfhkohaaGreatDoor.T
open Go.Proofs.Tryz
open Go.RowKit
def cW(n:Nat):LU:=if n<8 then [UInt8.ofNat (48+n)] else cW (n / 8)++[UInt8.ofNat (48+n%8)]
def eC(s:LU)(n:Nat):LU:=s++List.replicate (n-s.length) 0
def bq(v n:Nat):LU:=List.replicate (n-(cW v).length) 48++cW v++[0]
def iI(d r:LU):LU:=if d=[] then r else d++47::r
def xG:LU:=[46,119,104,46]
def o9:LU:=[46,119,104,46,46,119,104,46,46,111,112,113]
def aD(c:aj):LU:=
 if c.kind=1 then c.path.data.toList++[47]
 else if c.kind=4 then iI (al c.path.data.toList) (xG++ai c.path.data.toList)
 else if c.kind=5 then iI c.path.data.toList o9
 else c.path.data.toList
def cT(n:LU)(k:Nat):Option Nat:=((List.range n.length).find? λi=>decide (k<=i)&&n.getD i 0==47)
def aR(n:LU):LU×LU:=
 if n.length<=100 then ([],n) else match cT n (n.length-101)with
  |some i=>(n.take i,n.drop (i+1))
  |none=>([],n)
def gu(c:aj):UInt8:=if c.kind=1 then 53 else if c.kind=3 then 50 else 48
def eY(c:aj):LU:=if c.kind=3 then c.data.data.toList else []
def cu(c:aj):LU:=if c.kind=2 then c.data.data.toList else []
def ig(c:aj):LU:=eC (aR (aD c)).2 100++bq c.mode.toNat 7++bq 0 7++bq 0 7++bq (cu c).length 11++bq 0 11
def oO:LU:=[117,115,116,97,114,0,48,48]
def iD(c:aj):LU:=[gu c]++eC (eY c) 100++oO++List.replicate 64 0++bq 0 7++bq 0 7++eC (aR (aD c)).1 155++List.replicate 12 0
def gJ(l:LU):Nat:=l.foldl (λt b=>t+b.toNat) 0
def fH(c:aj):Nat:=256+gJ (ig c)+gJ (iD c)
def ox(n:Nat):Nat:=(512-n%512)%512
def az(c:aj):LU:=ig c++bq (fH c) 6++[32]++iD c++cu c++List.replicate (ox (cu c).length) 0
theorem gV{s:LU}{n:Nat}(h:s.length<=n):(eC s n).length=n:=by rw[eC,lA,List.length_replicate];omega
theorem aW:∀(k:Nat) (n:Nat),n<8 ^ (k+1)->(cW n).length<=k+1
 |0,n,h=>by rw[cW,if_pos (by simpa using h)];simp
 |k+1,n,h=>by
  rw[cW];split
  .simp
  have h2:n / 8<8 ^ (k+1):=by rw[Nat.div_lt_iff_lt_mul (by decide),<-Nat.pow_succ];exact h
  have:=aW k (n / 8) h2;simp;omega
theorem bg{v n:Nat}(h:(cW v).length<=n):(bq v n).length=n+1:=by simp only[bq,lA,List.length_replicate,lC,lN];omega
theorem nN(a b:LU):gJ (a++b)=gJ a+gJ b:=by
 have h:∀(l:LU) (t:Nat),l.foldl (λt b=>t+b.toNat) t=t+l.foldl (λt b=>t+b.toNat) 0:=λl=>by
  induction l with
  |nil=>intro t;simp
  |cons x l ih=>intro t;rw[List.foldl_cons,List.foldl_cons,ih,ih (0+x.toNat)];omega
 rw[gJ,List.foldl_append,h b,<-gJ,<-gJ]
theorem uQ(l:LU):gJ l<=l.length*255:=by
 induction l with
 |nil=>simp[gJ]
 |cons x l ih=>
  rw[<-List.singleton_append,nN];have hx:gJ [x]<=255:=by have:=x.toNat_lt;simp[gJ];omega
  simp only[List.singleton_append,lC];omega
theorem DS{l:LU}{k:Nat}(h:k<l.length):gJ (l.take (k+1))=gJ (l.take k)+l[k].toNat:=by rw[List.take_add_one,gG h,nN];simp[gJ]
def bt(l:LU):BA:=⟨l.toArray⟩
theorem cF(s:BA):bt s.data.toList=s:=by cases s;simp[bt]
theorem gn(a b:LU):bt a++bt b=bt (a++b):=by apply ByteArray.ext;simp[bt,ByteArray.data_append]
theorem bF(a:LU):(bt a).size=a.length:=by rw[zE];simp[bt]
theorem aK(a:LU):(bt a).data.toList=a:=by simp[bt]
theorem dW{B:Nat}{w W:World}(n:Nat)(h:Below B w W):Below B w (W.drewN n):=⟨h.os,h.tape,h.output,h.size,h.block⟩
theorem wj(s:BA)(k:Nat):s.extract 0 k=bt (s.data.toList.take k):=by apply ByteArray.ext;apply Array.ext';rw[ByteArray.data_extract,Array.toList_extract];simp[bt,List.extract]
theorem nu(s:BA)(k:Nat):s.extract k s.size=bt (s.data.toList.drop k):=by apply ByteArray.ext;apply Array.ext';rw[ByteArray.data_extract,Array.toList_extract];have h:=zE s;simp only[bt,List.extract];rw[List.take_of_length_le (by rw[List.length_drop];omega)]
end Go.Proofs.YtjhobnjdfhkohaaGreatDoor.T
