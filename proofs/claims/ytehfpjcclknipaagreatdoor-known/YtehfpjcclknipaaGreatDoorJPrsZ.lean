import Derived.Test.YtehfpjcclknipaaGreatDoorJTpA
import Derived.Test.YtehfpjcclknipaaGreatDoorJBmN
import Derived.Test.YtehfpjcclknipaaGreatDoorJTDifA
import Derived.Test.YtehfpjcclknipaaGreatDoorJTPatY
import Derived.Sort.QuietTacIn
import Derived.StillTail
import Derived.TacticsInMore
import Derived.WalkKit
import Derived.Test.YtehfpjcclknipaaGreatDoorJTLaw
import Derived.Test.YtehfpjcclknipaaGreatDoorJSpH
import Derived.Test.YtehfpjcclknipaaGreatDoorJTChgA
namespace Go.Proofs.YtehfpjcclknipaaGreatDoor
open Go.RowKit Go.Maps
def wtA:Atm→Nat
 | .inl _=>5
 | .inr (n, _)=>2*n.length+3
def wtL (xs:List Atm):Nat:=(xs.map wtA).sum
theorem wtL_snoc (xs:List Atm) (a:Atm):wtL (xs++[a])=wtL xs+wtA a:=by simp [wtL]
theorem szP_one (p:Prt):szP [p]=2*p.text.size+3:=by simp [szP]
theorem szP_parts (xs:List Atm):szP (parts xs)≤wtL xs:=by
 induction xs using rev_ind with
 | h0=>simp [parts,szP,wtL]
 | h1 xs a ih=>
   rw [parts_snoc,wtL_snoc]
   cases a with
   | inr pA =>
     obtain ⟨n, k⟩ := pA
     show szP (parts xs++[⟨bt n,true,(k:Int)⟩])≤wtL xs+(2*n.length+3)
     rw [szP_app,szP_one,bt_size]
     omega
   | inl c =>
     show szP (addT (parts xs) (bt [c]))≤wtL xs+5
     have hb:(bt [c]).size=1:=bt_size [c]
     rcases last_cases (parts xs) with hc | ⟨qs,q,he,hq⟩
     ·rw [addT_new (by
       rintro q hq
       rcases hc with h | ⟨qs,r,h,hr⟩
       ·rw [h] at hq;cases hq
       ·rw [h] at hq;simp at hq;subst hq;exact hr),szP_app,szP_one]
      simp only
      omega
     ·rw [he] at ih ⊢
      rw [addT_on hq]
      rw [szP_app,szP_one] at ih ⊢
      simp only [ByteArray.size_append]
      omega
theorem var_wt {l:List UInt8}{k t:Nat}{n:List UInt8}(h:varG l k=some (n,t)) (_:k<t):2*n.length+3≤5*(t-k):=by
 unfold varG at h
 simp only at h
 split at h
 ·split at h
  ·cases h
  ·injection h with h
   injection h with h1 h2
   have hl:n.length≤nameN (l.drop (k+2)):=by rw [←h1,List.length_take];omega
   omega
 ·split at h
  ·cases h
  ·injection h with h
   injection h with h1 h2
   have hl:n.length≤nameN (l.drop (k+1)):=by rw [←h1,List.length_take];omega
   omega
theorem quo_wt (l:List UInt8) (i n:Nat):∀ (k:Nat) (acc a:List Atm) (t:Nat),l.length-k≤n→quoG l i acc k=.ok (a,t)→k<t∧wtL a≤wtL acc+5*(t-k):=by
 induction n with
 | zero=>
   intro k acc a t hn h
   rw [quo_none (List.getElem?_eq_none_iff.2 (by omega))] at h
   cases h
 | succ n ih=>
   intro k acc a t hn h
   cases hc:l[k]? with
   | none=>rw [quo_none hc] at h;cases h
   | some c=>
     have hlt:=(List.getElem?_eq_some_iff.1 hc).1
     rw [quo_some hc] at h
     split at h
     ·cases h
     ·split at h
      ·injection h with h;injection h with h1 h2;subst h1 h2;exact ⟨by omega,by omega⟩
      ·split at h
       ·split at h
        ·cases h
        ·rename_i m u hv
         split at h
         ·rename_i hu
          have:=ih _ _ _ _ (by omega) h
          have hw:=var_wt hv hu
          rw [wtL_snoc] at this
          have hA:wtA (.inr (m, k))=2*m.length+3:=rfl
          exact ⟨by omega,by omega⟩
         ·cases h
       ·split at h
        ·split at h
         ·cases h
         ·split at h
          ·have:=ih _ _ _ _ (by omega) h
           rw [wtL_snoc] at this
           rename_i d _ _
           have hA:wtA (.inl d)=5:=rfl
           exact ⟨by omega,by omega⟩
          ·cases h
        ·have:=ih _ _ _ _ (by omega) h
         rw [wtL_snoc] at this
         have hA:wtA (.inl c)=5:=rfl
         exact ⟨by omega,by omega⟩
theorem wrd_wt (l:List UInt8) (n:Nat):∀ (k:Nat) (acc a:List Atm) (t:Nat),l.length-k≤n→wrdG l acc k=.ok (a,t)→k≤t∧wtL a≤wtL acc+5*(t-k):=by
 induction n with
 | zero=>
   intro k acc a t hn h
   rw [wrd_end (end_none (List.getElem?_eq_none_iff.2 (by omega)))] at h
   injection h with h;injection h with h1 h2;subst h1 h2;exact ⟨by omega,by omega⟩
 | succ n ih=>
   intro k acc a t hn h
   cases he:endG l k with
   | true=>rw [wrd_end he] at h;injection h with h;injection h with h1 h2;subst h1 h2;exact ⟨by omega,by omega⟩
   | false=>
     cases hc:l[k]? with
     | none=>rw [end_none hc] at he;cases he
     | some c=>
       have hlt:=(List.getElem?_eq_some_iff.1 hc).1
       rw [wrd_some hc he] at h
       split at h
       ·split at h
        ·cases h
        ·rename_i b u hq
         have hqw:=quo_wt l k _ _ _ _ _ (Nat.le_refl _) hq
         split at h
         ·have:=ih _ _ _ _ (by omega) h
          exact ⟨by omega,by omega⟩
         ·cases h
       ·split at h
        ·split at h
         ·cases h
         ·rename_i m u hv
          split at h
          ·rename_i hu
           have:=ih _ _ _ _ (by omega) h
           have hw:=var_wt hv hu
           rw [wtL_snoc] at this
           have hA:wtA (.inr (m, k))=2*m.length+3:=rfl
           exact ⟨by omega,by omega⟩
          ·cases h
        ·split at h
         ·split at h
          ·cases h
          ·rename_i d _
           have:=ih _ _ _ _ (by omega) h
           rw [wtL_snoc] at this
           have hA:wtA (.inl d)=5:=rfl
           exact ⟨by omega,by omega⟩
         ·have:=ih _ _ _ _ (by omega) h
          rw [wtL_snoc] at this
          have hA:wtA (.inl c)=5:=rfl
          exact ⟨by omega,by omega⟩
def wtW (ws:List Wd):Nat:=(ws.map fun x=>wtL x.atoms+3).sum
theorem wtW_snoc (ws:List Wd) (x:Wd):wtW (ws++[x])=wtW ws+(wtL x.atoms+3):=by simp [wtW]
theorem szI_wt (ws:List Wd):szI (ws.map Wd.atoms)≤wtW ws:=by
 induction ws with
 | nil=>simp [szI,wtW]
 | cons a r ih=>
   have h1:szI ((a :: r).map Wd.atoms)=szP (parts a.atoms)+3+szI (r.map Wd.atoms):=by simp [szI]
   have h2:wtW (a :: r)=wtL a.atoms+3+wtW r:=by simp [wtW]
   rw [h1,h2]
   have:=szP_parts a.atoms
   omega
theorem lin_wt (l:List UInt8) (n:Nat):∀ (k:Nat) (ws ws':List Wd) (t:Nat),l.length-k≤n→linG l ws k=.ok (ws',t)→k≤t∧wtW ws'≤wtW ws+8*(t-k):=by
 induction n with
 | zero=>
   intro k ws ws' t hn h
   rw [lin_none (List.getElem?_eq_none_iff.2 (by omega))] at h
   injection h with h;injection h with h1 h2;subst h1 h2;exact ⟨by omega,by omega⟩
 | succ n ih=>
   intro k ws ws' t hn h
   cases hc:l[k]? with
   | none=>rw [lin_none hc] at h;injection h with h;injection h with h1 h2;subst h1 h2;exact ⟨by omega,by omega⟩
   | some c=>
     have hlt:=(List.getElem?_eq_some_iff.1 hc).1
     rw [lin_some hc] at h
     split at h
     ·injection h with h;injection h with h1 h2;subst h1 h2;exact ⟨by omega,by omega⟩
     ·split at h
      ·have:=ih _ _ _ _ (by omega) h;exact ⟨by omega,by omega⟩
      ·split at h
       ·have:=ih _ _ _ _ (by omega) h;exact ⟨by omega,by omega⟩
       ·split at h
        ·rename_i h35
         have hcm:k<cmtG l k:=cmt_lt (by rw [hc,h35.1])
         have:=ih _ _ _ _ (by omega) h;exact ⟨by omega,by omega⟩
        ·split at h
         ·cases h
         ·rename_i a u hw
          have hww:=wrd_wt l _ _ _ _ _ (Nat.le_refl _) hw
          split at h
          ·have:=ih _ _ _ _ (by omega) h
           rw [wtW_snoc] at this
           have h0:wtL ([]:List Atm)=0:=rfl
           simp only at this
           exact ⟨by omega,by omega⟩
          ·cases h
theorem szG_snoc (st:List Stg) (s:Stg):szG (st++[s])=szG st+(s.ins.map fun i=>szI (i.ws.map Wd.atoms)+1).sum:=by simp [szG]
theorem from_sz {st st':List Stg}{ws:List Wd}{k:Int}(h:fromG st ws=.ok (st',k)):szG st'=szG st:=by
 unfold fromG at h
 split at h
 ·cases h
 ·split at h
  ·cases h
  ·split at h
   ·cases h
   ·split at h
    ·cases h
    ·injection h with h;injection h with h _;rw [←h,szG_snoc];simp
theorem copy_sz {st st':List Stg}{ws:List Wd}{k:Int}(h:copyG st ws=.ok (st',k)):st'=st:=by
 unfold copyG at h
 split at h
 ·split at h
  ·cases h
  ·injection h with h;injection h with h _;exact h.symm
 ·split at h
  ·cases h
  ·split at h
   ·cases h
   ·split at h
    ·cases h
    ·injection h with h;injection h with h _;exact h.symm
theorem read_sz {op:Nat}{st st':List Stg}{ws:List Wd}{k:Int}(h:readG op st ws=.ok (st',k)):szG st'=szG st:=by
 unfold readG at h
 split at h
 ·exact from_sz h
 ·rw [copy_sz h]
 ·split at h
  ·injection h with h;injection h with h _;rw [h]
  ·split at h
   ·split at h
    ·injection h with h;injection h with h _;rw [h]
    ·cases h
   ·cases h
 ·split at h
  ·split at h
   ·injection h with h;injection h with h _;rw [h]
   ·cases h
  ·cases h
 ·injection h with h;injection h with h _;rw [h]
theorem add_sz (st:List Stg) (i:Ins):szG (addIns st i)≤szG st+(szI (i.ws.map Wd.atoms)+1):=by
 unfold addIns
 cases hl:st.getLast? with
 | none=>simp only;omega
 | some s=>
   have hst:st=st.dropLast++[s]:=by
    have hne:st≠[]:=by rintro rfl;cases hl
    have h1:=List.dropLast_concat_getLast hne
    rw [List.getLast?_eq_some_getLast hne] at hl
    injection hl with hl
    rw [hl] at h1
    exact h1.symm
   simp only
   have h2:szG st=szG st.dropLast+(s.ins.map fun i=>szI (i.ws.map Wd.atoms)+1).sum:=by
    conv=>lhs;rw [hst]
    exact szG_snoc _ _
   rw [szG_snoc,h2]
   simp
   omega
theorem take_sz {st st':List Stg}{ws:List Wd}(h:takeG st ws=.ok st'):szG st'≤szG st+(wtW ws+1):=by
 unfold takeG at h
 split at h
 ·cases h
 ·split at h
  ·cases h
  ·split at h
   ·cases h
   ·rename_i st1 k hr
    split at h
    ·cases h
    ·split at h
     ·cases h
     ·injection h with h
      have h1:=add_sz st1 ⟨ws,k⟩
      rw [h] at h1
      have h2:=read_sz hr
      have h3:=szI_wt ws
      simp only at h1
      omega
theorem var_le {l:List UInt8}{k t:Nat}{n:List UInt8}(h:varG l k=some (n,t)):t≤l.length:=by
 unfold varG at h
 simp only at h
 split at h
 ·rename_i hb
  split at h
  ·cases h
  ·rename_i hn
   injection h with h
   injection h with h1 h2
   have h3:=nameN_le (l.drop (k+2))
   rw [List.length_drop] at h3
   have h4:l[k+2+nameN (l.drop (k+2))]?=some 125:=by
    refine Classical.byContradiction fun hc=>hn (.inr (.inr ⟨hb,hc⟩))
   have h5:=(List.getElem?_eq_some_iff.1 h4).1
   omega
 ·split at h
  ·cases h
  ·rename_i hn
   injection h with h
   injection h with h1 h2
   have h3:=nameN_le (l.drop (k+1))
   rw [List.length_drop] at h3
   omega
theorem quo_le (l:List UInt8) (i n:Nat):∀ (k:Nat) (acc a:List Atm) (t:Nat),l.length-k≤n→quoG l i acc k=.ok (a,t)→t≤l.length:=by
 induction n with
 | zero=>
   intro k acc a t hn h
   rw [quo_none (List.getElem?_eq_none_iff.2 (by omega))] at h
   cases h
 | succ n ih=>
   intro k acc a t hn h
   cases hc:l[k]? with
   | none=>rw [quo_none hc] at h;cases h
   | some c=>
     have hlt:=(List.getElem?_eq_some_iff.1 hc).1
     rw [quo_some hc] at h
     split at h
     ·cases h
     ·split at h
      ·injection h with h;injection h with h1 h2;subst h1 h2;omega
      ·split at h
       ·split at h
        ·cases h
        ·rename_i m u hv
         split at h
         ·rename_i hu
          exact ih _ _ _ _ (by omega) h
         ·cases h
       ·split at h
        ·split at h
         ·cases h
         ·split at h
          ·exact ih _ _ _ _ (by omega) h
          ·cases h
        ·exact ih _ _ _ _ (by omega) h
theorem wrd_le (l:List UInt8) (n:Nat):∀ (k:Nat) (acc a:List Atm) (t:Nat),k≤l.length→l.length-k≤n→wrdG l acc k=.ok (a,t)→t≤l.length:=by
 induction n with
 | zero=>
   intro k acc a t hkl hn h
   rw [wrd_end (end_none (List.getElem?_eq_none_iff.2 (by omega)))] at h
   injection h with h;injection h with h1 h2;subst h1 h2;exact hkl
 | succ n ih=>
   intro k acc a t hkl hn h
   cases he:endG l k with
   | true=>rw [wrd_end he] at h;injection h with h;injection h with h1 h2;subst h1 h2;exact hkl
   | false=>
     cases hc:l[k]? with
     | none=>rw [end_none hc] at he;cases he
     | some c=>
       have hlt:=(List.getElem?_eq_some_iff.1 hc).1
       rw [wrd_some hc he] at h
       split at h
       ·split at h
        ·cases h
        ·rename_i b u hq
         have hql:=quo_le l k _ _ _ _ _ (Nat.le_refl _) hq
         split at h
         ·exact ih _ _ _ _ hql (by omega) h
         ·cases h
       ·split at h
        ·split at h
         ·cases h
         ·rename_i m u hv
          split at h
          ·exact ih _ _ _ _ (var_le hv) (by omega) h
          ·cases h
        ·split at h
         ·split at h
          ·cases h
          ·rename_i d hd
           have hd2:=(List.getElem?_eq_some_iff.1 hd).1
           exact ih _ _ _ _ (by omega) (by omega) h
         ·exact ih _ _ _ _ (by omega) (by omega) h
theorem lin_le (l:List UInt8) (n:Nat):∀ (k:Nat) (ws ws':List Wd) (t:Nat),k≤l.length→l.length-k≤n→linG l ws k=.ok (ws',t)→t≤l.length:=by
 induction n with
 | zero=>
   intro k ws ws' t hkl hn h
   rw [lin_none (List.getElem?_eq_none_iff.2 (by omega))] at h
   injection h with h;injection h with h1 h2;subst h1 h2;exact hkl
 | succ n ih=>
   intro k ws ws' t hkl hn h
   cases hc:l[k]? with
   | none=>rw [lin_none hc] at h;injection h with h;injection h with h1 h2;subst h1 h2;exact hkl
   | some c=>
     have hlt:=(List.getElem?_eq_some_iff.1 hc).1
     rw [lin_some hc] at h
     split at h
     ·injection h with h;injection h with h1 h2;subst h1 h2;omega
     ·split at h
      ·rename_i hg
       have hg2:k+1<l.length:=by
        unfold goesG at hg
        simp only [Bool.and_eq_true,beq_iff_eq] at hg
        exact (List.getElem?_eq_some_iff.1 hg.2).1
       exact ih _ _ _ _ (by omega) (by omega) h
      ·split at h
       ·exact ih _ _ _ _ (by omega) (by omega) h
       ·split at h
        ·rename_i h35
         have hcm:k<cmtG l k:=cmt_lt (by rw [hc,h35.1])
         exact ih _ _ _ _ (cmt_len hkl) (by omega) h
        ·split at h
         ·cases h
         ·rename_i a u hw
          have hwl:=wrd_le l _ _ _ _ _ hkl (Nat.le_refl _) hw
          split at h
          ·exact ih _ _ _ _ hwl (by omega) h
          ·cases h
theorem file_sz (l:List UInt8) (n:Nat):∀ (k:Nat) (st st':List Stg),l.length-k≤n→fileG l st k=.ok st'→szG st'≤szG st+9*(l.length-k):=by
 induction n with
 | zero=>
   intro k st st' hn h
   rw [file_end (by omega)] at h
   split at h
   ·cases h
   ·injection h with h;subst h;omega
 | succ n ih=>
   intro k st st' hn h
   by_cases hk:k<l.length
   ·cases hl:linG l [] k with
    | error e=>rw [file_bad hk hl] at h;cases h
    | ok x=>
      obtain ⟨ws,t⟩:=x
      have h1:=lin_wt l _ _ _ _ _ (Nat.le_refl _) hl
      have h2:=lin_le l _ _ _ _ _ (Nat.le_of_lt hk) (Nat.le_refl _) hl
      have h0:wtW []=0:=rfl
      by_cases ht:k<t
      ·by_cases hw:ws=[]
       ·subst hw
        rw [file_none hk hl ht] at h
        have:=ih _ _ _ (by omega) h
        omega
       ·rw [file_some hk hl ht hw] at h
        cases htk:takeG st ws with
        | error e=>rw [htk] at h;cases h
        | ok st1=>
          rw [htk] at h
          have h3:=take_sz htk
          have:=ih _ _ _ (by omega) h
          omega
      ·rw [fileG,if_pos hk,hl] at h
       simp only at h
       rw [dif_neg ht] at h
       cases h
   ·rw [file_end hk] at h
    split at h
    ·cases h
    ·injection h with h;subst h;omega
theorem parse_sz {l:List UInt8}{st:List Stg}(h:parseG l=.ok st):szG st≤13500:=by
 unfold parseG at h
 split at h
 ·cases h
 ·split at h
  ·cases h
  ·have:=file_sz l _ _ _ _ (Nat.le_refl _) h
   have h0:szG []=0:=rfl
   omega
theorem plain_parse_all (s:ByteArray) (m:Int) (w:World) (hm:w.cell? ⟨14,0,none⟩=some (.int .i64 m)) (hg:w.cell? ⟨0,0,none⟩=some (.iface 168 (.agg #[.pointer (some ⟨22,47,none⟩)]))) :
  Calls Tryz.prog 10 #[.string s] w fun ev w'=>TopOut ev (parseG s.data.toList)∧Below w.heap.size w w':=
 plain_parse s m w hm hg fun _ h=>Nat.le_trans (parse_sz h) (by decide)
end Go.Proofs.YtehfpjcclknipaaGreatDoor
namespace Go.Proofs.YtehfpjcclknipaaGreatDoor.T
open Go.RowKit Go.Maps
def lnK:List Ent:=[⟨⟨#[115,114,99]⟩,3,0,⟨#[47,120]⟩⟩]
def clK:List Ent:=[⟨⟨#[115,114,99]⟩,5,0,⟨#[]⟩⟩,⟨⟨#[115,114,99,47,97]⟩,1,1,⟨#[]⟩⟩]
def goK:List Ent:=[⟨⟨#[97]⟩,4,0,⟨#[]⟩⟩]
theorem below2 {p:Nat→Prop}(h0:p 0) (h1:p 1):∀ i,i<2→p i
 | 0,_=>h0
 | 1,_=>h1
theorem below1 {p:Nat→Prop}(h0:p 0):∀ i,i<1→p i
 | 0,_=>h0
theorem cx_ok:FirstBad cxK (-1):=.inl ⟨rfl,below2 (by kernel_rfl) (by kernel_rfl)⟩
theorem ln_ok:FirstBad lnK (-1):=.inl ⟨rfl,below1 (by kernel_rfl)⟩
theorem cl_ok:FirstBadC clK (-1):=.inl ⟨rfl,below2 (by kernel_rfl) (by kernel_rfl)⟩
theorem go_ok:FirstBadC goK (-1):=.inl ⟨rfl,below1 (by kernel_rfl)⟩
theorem cl_mrk:FirstP (mrkAt cxK clK) clK.length (-1):=.inl ⟨rfl,below2 (by kernel_rfl) (by kernel_rfl)⟩
theorem cl_put:FirstP (putBad (marksF cxK clK) clK) clK.length (-1):=.inl ⟨rfl,below2 (by kernel_rfl) (by kernel_rfl)⟩
theorem dif_len:(diffF cxK lnK).length=1:=by kernel_rfl
theorem pat_len:(patF cxK clK).length=2:=by kernel_rfl
theorem cx_tree:TreeS cxK:=treeS_of (below2 (by kernel_rfl) (by kernel_rfl))
theorem cx_small:Small cxK:=by
 intro e he
 simp only [cxK,List.mem_cons,List.not_mem_nil,or_false] at he
 rcases he with rfl | rfl <;> exact ⟨by decide,by decide⟩
theorem cx_g:TreeG cxK:=⟨below2 (by kernel_rfl) (by kernel_rfl),by decide,cx_small⟩
theorem ln_small:Small lnK:=by
 intro e he
 simp only [lnK,List.mem_cons,List.not_mem_nil,or_false] at he
 subst he;exact ⟨by decide,by decide⟩
theorem cl_small:Small clK:=by
 intro e he
 simp only [clK,List.mem_cons,List.not_mem_nil,or_false] at he
 rcases he with rfl | rfl <;> exact ⟨by decide,by decide⟩
theorem go_small:Small goK:=by
 intro e he
 simp only [goK,List.mem_cons,List.not_mem_nil,or_false] at he
 subst he;exact ⟨by decide,by decide⟩
theorem pk_len:(packL goK).length=1536:=by kernel_rfl
theorem pk_head:(packL goK).take 5=[46,119,104,46,97]:=by kernel_rfl
theorem go_pkg:∀ c∈goK,PkG c:=by
 intro c hc
 simp only [goK,List.mem_cons,List.not_mem_nil,or_false] at hc
 subst hc
 exact ⟨⟨0,rfl,by decide,by decide,by decide,fun _=>by decide,by decide +kernel,by decide +kernel,by decide +kernel,by decide +kernel,by decide +kernel⟩,by decide,.inl (by decide +kernel)⟩
theorem dif_is {w:World}{v:Value}{e n:Int}(h:PDiffIs w cxK lnK v e n):e=0∧∃ B,OwnC w B v (diffF cxK lnK):=by
 rcases h with ⟨i,h | ⟨_,h⟩,_⟩ | ⟨_,_,h,_,B,hB⟩
 ·have:=firstBad_one cx_ok h;omega
 ·have:=firstBad_one ln_ok h;omega
 ·exact ⟨h,B,hB⟩
theorem pat_is {ks:List Ent}{e n:Int}(h:PPatIs cxK clK ks e n):e=0∧ks.length=2:=by
 rcases h with ⟨i,_,_,_,h⟩ | ⟨_,c,i,_,_,_,h⟩ | ⟨_,_,h,_⟩ | ⟨_,_,_,rfl,h,_⟩
 ·have:=firstBad_one cx_ok h;omega
 ·rcases h with ⟨_,h⟩ | ⟨_,_,h⟩ | ⟨_,_,_,h⟩
  ·have:=firstBadC_one cl_ok h;omega
  ·have:=firstP_one cl_mrk h;omega
  ·have:=firstP_one cl_put h;omega
 ·rw [pat_len] at h;omega
 ·exact ⟨h,pat_len⟩
theorem pk_is {s:ByteArray}{e n:Int}(h:PPkIs goK s e n):e=0∧s.data.toList=packL goK:=by
 rcases h with ⟨rfl,h,_,_⟩ | ⟨i,_,_,_,h⟩
 ·exact ⟨h,by simp [bt]⟩
 ·have:=firstBadC_one go_ok h;omega
def txP:List UInt8:=[70,82,79,77,32,115,99,114,97,116,99,104,32,92,10,32,65,83,32,111,110,101,10,10,32,35,32,110,111,10,69,78,86,32,65,32,34,120,32,121,34,10,77,75,68,73,82,32,97,36,65,34,36,65,34,39,10]
def foP:List UInt8:=[70,82,79,77,32,115,99,114,97,116,99,104,32,65,83,32,111,110,101,10,69,78,86,32,65,32,120,92,32,121,10,77,75,68,73,82,32,97,36,123,65,125,36,123,65,125,92,39,10]
theorem par_eq:(match parseG txP with | .ok st=>formG st==foP | .error _=>false)=true:=by kernel_rfl
theorem par_is {ev:Ending}(h:TopOut ev (parseG txP)):∃ u:ByteArray,ev=.returned (.tuple #[.string u,.int .i64 0,.int .i64 (-1)])∧u.data.toList=foP:=by
 have h2:=par_eq
 cases h1:parseG txP with
 | error e=>rw [h1] at h2;cases h2
 | ok st=>
   rw [h1] at h h2
   obtain ⟨u,h3,h4⟩:=h
   exact ⟨u,h3,by rw [h4];exact eq_of_beq h2⟩
end Go.Proofs.YtehfpjcclknipaaGreatDoor.T
namespace Go.Proofs.YtehfpjcclknipaaGreatDoor.T
open Go.RowKit
section
variable {F:Fence}{n:Nat}{P:Program}{ops:Array Oper}{md:Region.Mode}{C:World→Prop}
theorem wpIn_of_quietR {o:Oper}{a:Act}{K:Act→Prop}{K':Act→World→Prop}{Q':Exit→Act→World→Prop}{w:World}(hd:∀ c,o.op≠.defer c) (hw:C w) (h:∀ a w',C w'→K a→K' a w')
  (ha:o.askedIn F P a C) (hh:o.quietIn F n P a C K):o.wpIn F n P a w K' Q':=by
 obtain ⟨v,h1,h2⟩:=hh
 have h3:=h1 w hw
 unfold Oper.quietAtIn at h3
 unfold Oper.wpIn
 refine ⟨ha w hw,?_⟩
 rw [Oper.semAt_eq _ _ _ hd]
 generalize (execOp a.eval o).run P w=r at *
 cases r with
 | ok x w'=>
   cases x <;> simp only [Oper.quietUponIn] at h3 <;> simp only [Oper.uponIn]
   case value u=>rw [h3.1,h3.2];exact h _ _ hw h2
   case skip=>rw [h3.1,←h3.2];exact h _ _ hw h2
   case enter f args=>
    obtain ⟨e1,hd,hc⟩:=h3
    rw [e1]
    exact ⟨hd,hc.mono fun e w'' ⟨he,hw''⟩=>by subst he;exact h _ _ hw'' h2⟩
 | halt x w'=>simp only [Oper.quietUponIn] at h3
theorem wpOpIn_of_qOpR {i:Nat}{a:Act}{K:Act→Prop}{K':Act→World→Prop}{Q':Exit→Act→World→Prop}{w:World}(hd:∀ o∈ops.toList,∀ c,o.op≠.defer c) (hC:C w) (h:∀ a w',C w'→K a→K' a w')
  (hh:qOpIn F n P ops C i K a):wpOpIn F n P ops Q' i K' a w:=by
 unfold qOpIn at hh
 unfold wpOpIn
 split
 ·rename_i ho;simp only [ho] at hh;exact h _ _ hC hh
 ·rename_i o ho
  simp only [ho] at hh
  obtain ⟨ha,hh⟩:=hh
  have hm:o∈ops.toList:=Array.mem_toList_iff.2 (Array.mem_of_getElem? ho)
  split
  ·rename_i hw;simp only [hw,if_true] at hh;exact wpIn_of_quietR (hd o hm) hC h ha hh
  ·rename_i hw;simp only [hw] at hh;exact ⟨ha w hC,h _ _ hC hh⟩
def wpHead (F:Fence) (n:Nat) (P:Program) (md:Region.Mode) (ops:Array Oper) (C:World→Prop) (m:Nat) (L:Array Bool→Act→Prop):Nat→Array Bool→Act→Prop
 | 0,listed,a=>L listed a
 | f+1,listed,a=>
   Region.ready md ops listed≠[]∧∀ i∈Region.ready md ops listed,i<m∧qOpIn F n P ops C i (wpHead F n P md ops C m L f (listed.setIfInBounds i true)) a
theorem wpAnyIn_of_head {m g:Nat}{L:Array Bool→Act→Prop}{Q':Exit→Act→World→Prop}(hd:∀ o∈ops.toList,∀ c,o.op≠.defer c) (hL:∀ listed a w,C w→L listed a→wpAnyIn F n P md ops Q' g listed a w) :
  ∀ (f:Nat) (listed:Array Bool) (a:Act) (w:World),C w→wpHead F n P md ops C m L f listed a→wpAnyIn F n P md ops Q' (f+g) listed a w
 | 0,listed,a,w,hw,h=>by rw [Nat.zero_add];exact hL _ _ _ hw h
 | f+1,listed,a,w,hw,h=>by
   rw [show f+1+g=(f+g)+1 by omega]
   exact ⟨fun h0=>absurd h0 h.1,fun i hi=>wpOpIn_of_qOpR hd hw (fun a' w' hw' h'=>wpAnyIn_of_head hd hL f _ a' w' hw' h') (h.2 i hi).2⟩
theorem wpHead_first {m i:Nat}{oi:Oper}{v:Value}{L:Array Bool→Act→Prop}(hi:ops[i]?=some oi) (hsel:∀ (j:Nat) (o:Oper) cs b,ops[j]?=some o→o.op≠.select cs b)
  (hs:Region.sinkB md ops m=true) (hc:Region.chainB md ops m=true) (hn:m<ops.size) (hin:i<m)
  (hdone:∀ listed a,L listed a→∀ j∈Region.ready md ops listed,m≤j) :
  ∀ (f:Nat) (listed:Array Bool) (a:Act),HeadInv md ops m listed →
   (∀ j oj,ops[j]?=some oj→j≠i→listed.getD j true=false→(∀ e∈oj.after,Region.binds md e=true→e.on≠i)→oi.apart ops oj=true) →
   i∈Region.ready md ops listed→YieldsQuiet F n P ops C oi v a →
   wpHead F n P md ops C m L f (listed.setIfInBounds i true) (a.put oi.dst v)→wpHead F n P md ops C m L (f+1) listed a:=by
 intro f
 induction f with
 | zero=>
   intro listed a inv _ hr hy H
   have hun:=(mem_ready.1 hr).1
   refine ⟨fun h=>(by rw [h] at hr;cases hr),fun j hj=>?_⟩
   have hjn:j<m:=by
    rcases Nat.lt_or_ge j m with h | h
    ·exact h
    ·exact absurd hj (tail_waits hs hc hn inv _ i rfl hin hun j h)
   refine ⟨hjn,?_⟩
   by_cases hji:j=i
   ·subst hji;exact hy.qOpIn hi H
   ·have:=hdone _ _ H j (ready_mono hj hji)
    omega
 | succ f ih=>
   intro listed a inv hfree hr hy H
   have hun:=(mem_ready.1 hr).1
   refine ⟨fun h=>(by rw [h] at hr;cases hr),fun j hj=>?_⟩
   have hjn:j<m:=by
    rcases Nat.lt_or_ge j m with h | h
    ·exact h
    ·exact absurd hj (tail_waits hs hc hn inv _ i rfl hin hun j h)
   refine ⟨hjn,?_⟩
   by_cases hji:j=i
   ·subst hji;exact hy.qOpIn hi H
   ·have h1:=(H.2 j (ready_mono hj hji)).2
    obtain ⟨hjun,oj,hoj,hall⟩:=mem_ready.1 hj
    have hnot:∀ e∈oj.after,Region.binds md e=true→e.on≠i:=fun e he hb heq=>by
     have h1:=hall e he hb
     rw [heq,getD_both hun] at h1
     cases h1
    have h2:=qOpIn_put hoj (hfree j oj hoj hji hjun hnot) (fun cs b=>hsel i oi cs b hi) (fun cs b=>hsel j oj cs b hoj) hy h1
    have hfree':∀ k ok,ops[k]?=some ok→k≠i→(listed.setIfInBounds j true).getD k true=false →
      (∀ e∈ok.after,Region.binds md e=true→e.on≠i)→oi.apart ops ok=true:=fun k ok hk hki hun hno=>by
     refine hfree k ok hk hki ?_ hno
     by_cases hjk:j=k
     ·subst hjk;exact hjun
     ·rw [getD_set_ne true hjk] at hun;exact hun
    refine qOpIn_mono (fun a' h3=>ih (listed.setIfInBounds j true) a' (inv.set hj hjn) hfree' (ready_mono hr (Ne.symm hji)) h3.1 ?_) h2
    rw [Array.setIfInBounds_comm _ _ hji]
    exact h3.2
theorem wpHead_lex {m g:Nat}{Lq:Act→Prop}(hsel:Region.noSelect ops=true) (hs:Region.sinkB md ops m=true) (hc:Region.chainB md ops m=true) (hn:m<ops.size) :
  ∀ (l:List Oper) (k:Nat) (listed:Array Bool) (a:Act),(∀ j,j<l.length→l[j]?=ops[k+j]?)→k+l.length=m→HeadInv md ops m listed →
  Region.lexHead md ops g l.length k listed=true→wpQuietIn F n P ops C Lq l a →
  wpHead F n P md ops C m (fun listed' a'=>Region.seqB md ops g m listed'=true∧Lq a') l.length listed a
 | [],k,listed,a,_,hk,_,hB,h=>by
   have:k=m:=by simpa using hk
   subst this
   exact ⟨by simpa [Region.lexHead] using hB,h⟩
 | o :: l,k,listed,a,hl,hk,inv,hB,h=>by
   have h0:ops[k]?=some o:=by simpa using (hl 0 (by simp)).symm
   simp only [List.length_cons,Region.lexHead,Bool.and_eq_true] at hB
   obtain ⟨⟨hr,hf⟩,hB'⟩:=hB
   have hkn:k<m:=by simp only [List.length_cons] at hk;omega
   have hr':k∈Region.ready md ops listed:=by simpa using hr
   have hst:qOpIn F n P ops C k (wpQuietIn F n P ops C Lq l) a:=by unfold qOpIn;simp only [h0];exact h
   obtain ⟨v,hy,hK⟩:=yieldsQuiet_of_qOpIn h0 hst
   exact wpHead_first h0 (Region.noSelect_spec hsel) hs hc hn hkn (fun listed' a' hL=>seqB_ready hL.1) l.length listed a inv (Region.free_spec h0 hf) hr' hy
    (wpHead_lex hsel hs hc hn l (k+1) _ _ (fun j hj=>by have:=hl (j+1) (by simp;omega);simpa [Nat.add_assoc,Nat.add_comm 1 j] using this) (by simp only [List.length_cons] at hk;omega) (inv.set hr' hkn) hB' hK)
theorem wpAnyIn_of_seq {Q':Exit→Act→World→Prop}:∀ (l:List Oper) (k:Nat) (listed:Array Bool) (a:Act) (w:World),(∀ j,l[j]?=ops[k+j]?) →
  Region.seqB md ops l.length k listed=true→wpListIn F n P ops Q' l a w→wpAnyIn F n P md ops Q' l.length listed a w
 | [],_,_,_,_,_,hB,h=>⟨by simpa [Region.seqB] using hB,h⟩
 | o :: l,k,listed,a,w,hl,hB,h=>by
   have h0:ops[k]?=some o:=by simpa using (hl 0).symm
   simp only [List.length_cons,Region.seqB,Bool.and_eq_true,decide_eq_true_eq] at hB
   refine ⟨fun h1=>(by rw [hB.1] at h1;cases h1),fun i hi=>?_⟩
   rw [hB.1] at hi
   have hik:i=k:=by simpa using hi
   subst hik
   have hw:wpOpIn F n P ops Q' i (wpListIn F n P ops Q' l) a w:=by unfold wpOpIn;simp only [h0];exact h
   exact wpOpIn_mono (fun a' w' h'=>wpAnyIn_of_seq l (i+1) _ a' w' (fun j=>by have:=hl (j+1);simpa [Nat.add_assoc,Nat.add_comm 1 j] using this) hB.2 h') hw
theorem wpIn_region_tail {id:Nat}{Q:Exit→Act→World→Prop}{a:Act}{w:World}{l:List Oper}(m:Nat) (hm:P.follows .mixedOrders=true) (hB:Region.lexTailB .any l.toArray m=true) (hd:∀ o∈l,∀ c,o.op≠.defer c) (hC:C w.drew)
  (h:wpQuietIn F n P l.toArray C (fun a'=>∀ w',C w'→wpListIn F n P l.toArray Q (l.drop m) a' w') (l.take m) a):(Code.region id l.toArray true).wpIn F n P Q a w:=by
 simp only [Region.lexTailB,Bool.and_eq_true,decide_eq_true_eq] at hB
 obtain ⟨⟨⟨⟨hsel,hn⟩,hs⟩,hc⟩,hlex⟩:=hB
 have hn':m<l.length:=by simpa using hn
 have htl:(l.take m).length=m:=by simp;omega
 have hdl:(l.drop m).length=l.toArray.size-m:=by simp
 have inv0:HeadInv .any l.toArray m (Array.replicate l.toArray.size false):=
  ⟨by simp,fun j oj _ hl=>(by rw [getD_replicate_false] at hl;cases hl),fun t _ ht=>getD_in (by simpa using ht) (getD_replicate_false _ _)⟩
 have H:=wpHead_lex (md:=.any) (g:=l.toArray.size-m) hsel hs hc hn (l.take m) 0 _ a (fun j hj=>by
  have hj':j<m:=by rw [htl] at hj;exact hj
  simp [hj']) (by simpa using htl) inv0 (by rw [htl];exact hlex) h
 refine wpIn_region_any hm ?_
 have:=wpAnyIn_of_head (Q':=Q) (g:=l.toArray.size-m) (by simpa using hd) (fun listed a' w' hw' hL=>by
  have:=wpAnyIn_of_seq (md:=.any) (Q':=Q) (l.drop m) m listed a' w' (fun j=>by simp [List.getElem?_drop]) (by rw [hdl];exact hL.1) (hL.2 w' hw')
  rwa [hdl] at this) _ _ _ _ hC H
 rw [htl,show m+(l.toArray.size-m)=l.toArray.size by omega] at this
 exact this
end
end Go.Proofs.YtehfpjcclknipaaGreatDoor.T
namespace Go.Proofs.YtehfpjcclknipaaGreatDoor.T
open Go.RowKit
def freeO:Obj→Bool
 | .cells _ t _=>t != 129&&t != 112
 | o=>!o.isWalk
structure Kx (S:Nat→Prop) (W W':World):Prop where
 size:W.heap.size≤W'.heap.size
 keep:∀ k o,W.heap[k]?=some o→(freeO o=true∨S k)→W'.heap[k]?=some o
theorem Kx.refl (S:Nat→Prop) (W:World):Kx S W W:=⟨Nat.le_refl _,fun _ _ h _=>h⟩
theorem Kx.trans {S:Nat→Prop}{A B C:World}(h:Kx S A B) (k:Kx S B C):Kx S A C:=⟨Nat.le_trans h.size k.size,fun i o h1 h2=>k.keep i o (h.keep i o h1 h2) h2⟩
theorem Kx.below {S:Nat→Prop}{W W':World}(h:Below W.heap.size W W'):Kx S W W':=⟨h.size,fun k _ hk _=>(h.block k (Array.getElem?_eq_some_iff.1 hk).1).trans hk⟩
structure Kp (B0:Nat) (W W':World):Prop where
 os:W'.os=W.os
 tape:W'.tape=W.tape
 output:W'.output=W.output
 size:W.heap.size≤W'.heap.size
 block:∀ k o,W.heap[k]?=some o→(k<B0∨freeO o=false)→W'.heap[k]?=some o
theorem Kp.below {B0:Nat}{W W':World}(h:Below W.heap.size W W'):Kp B0 W W':=⟨h.os,h.tape,h.output,h.size,fun k _ hk _=>(h.block k (Array.getElem?_eq_some_iff.1 hk).1).trans hk⟩
theorem Kp.mono {B0 B1:Nat}{W W':World}(h:Kp B1 W W') (hb:B0≤B1):Kp B0 W W':=⟨h.os,h.tape,h.output,h.size,fun k o hk hc=>h.block k o hk (by
 rcases hc with hc | hc
 ·exact .inl (by omega)
 ·exact .inr hc)⟩
theorem Kp.put {B0 l:Nat}{W:World}{o:Obj}(o':Obj) (h1:B0≤l) (h2:W.heap[l]?=some o) (h3:freeO o=true):Kp B0 W (W.putObj l o'):=
 ⟨rfl,rfl,rfl,by simp,fun k x hk hc=>(World.putObj_heap_other (fun e=>by
  subst e
  rw [h2] at hk;cases hk
  rcases hc with hc | hc
  ·omega
  ·rw [h3] at hc;cases hc)).trans hk⟩
theorem Kp.set {B0:Nat}{W:World}{p:Addr}{o:Obj}(v:Value) (h1:B0≤p.block) (h2:W.heap[p.block]?=some o) (h3:freeO o=true):Kp B0 W (W.setCell p v):=
 ⟨rfl,rfl,rfl,(KeepsWalks.setCell W p v).size,fun k x hk hc=>(Below.heap_setCell _ _ _ k (fun e=>by
  subst e
  rw [h2] at hk;cases hk
  rcases hc with hc | hc
  ·omega
  ·rw [h3] at hc;cases hc)).trans hk⟩
theorem Kx.kp {S:Nat→Prop}{B0:Nat}{w W W':World}(h:Kx S w W) (hk:Kp B0 W W') (h0:w.heap.size≤B0):Kx S w W':=
 ⟨Nat.le_trans h.size hk.size,fun k o h1 h2=>hk.block k o (h.keep k o h1 h2) (.inl (Nat.lt_of_lt_of_le (Array.getElem?_eq_some_iff.1 h1).1 h0))⟩
def StayX {β:Type}(B0:Nat) (J:β→World→Prop):Prop:=∀ s W W',J s W→Kp B0 W W'→J s W'
def SeqX {α:Type}(S:Nat→Prop) (F:Fence) (n:Nat) (P:Program) (g:Nat) (lb:Array Value) (encs:α→Array Value) (xs:List α) (w:World):Prop:=
 ∀ (l:Nat) (J:List α→World→Prop) (W:World),Below w.heap.size w W→StayX W.heap.size J →
  (∀ pre x W1,J pre W1→pre++[x] <+: xs→YieldAt F (n-1) P l (encs x) W1 fun e W'=>e=.returned (.bool true)∧J (pre++[x]) W'∧Kx S W1 W') →
  J [] W→CallsIn F n P g (#[.func (.yield l) #[] #[]]++lb) W fun e W'=>(∃ v,e=.returned v)∧J xs W'
def postX {α:Type}(S:Nat→Prop) (I:List α→World→Prop) (s:List α) (W:World):Exit→Act→World→Prop
 | .normal,_,W'=>Kx S W W'∧I s W'
 | _,_,_=>False
theorem range_x {F:Fence}{n:Nat}{P:Program}{α:Type}{g:Operand}{ps:Array Tmp}{assign body:Code}{Q:Exit→Act→World→Prop}{a:Act}{w:World}{S:Nat→Prop}
  (hro:F.round=none) (h1:1≤n) {gf:Nat}{lb:Array Value}(hg:a.eval g=.func (.func gf) #[] lb) (hFg:F.fn gf) (eg:∀ args w,(callFunc gf args).run P w=.ok (.enter gf args) w)
  {encs:α→Array Value}{xs:List α}{w0:World}(hseq:SeqX S F (n-1) P gf lb encs xs w0) (_:∀ k,S k→k<w.heap.size) (hb0:Below w0.heap.size w0 w) (hps:∀ x,(encs x).size=ps.size)
  (I:List α→World→Prop) (hI:StayX w.heap.size I) (h0:I [] w) (f:Array Value→α→Array Value)
  (hassign:∀ (l:Nat) (x:α) (W:World) (K:Act→World→Prop),K { tmps:=f a.tmps x,defers:=[] } W →
    assign.wpIn (F.inRound l) (n-1-1) P (Exit.then K (fun _ _ _=>False)) { tmps:=(ps.zip (encs x)).foldl (fun t (p,v)=>t.setIfInBounds p v) a.tmps,defers:=[] } W)
  (hbody:∀ (l:Nat) (pre:List α) (x:α) (W:World),I pre W→pre++[x] <+: xs→body.wpIn (F.inRound l) (n-1-1) P (postX S I (pre++[x]) W) { tmps:=f a.tmps x,defers:=[] } W)
  (hdone:∀ (D:Nat) (W:World),w.heap.size≤D→I xs W→W.heap[D]?=some (.deferred (some []))→Q .normal { a with defers:={ target:=.collected D,args:=#[] } :: a.defers } W) :
  (Code.rangeFunc g ps assign body).wpIn F n P Q a w:=by
 refine wpIn_rangeFunc fun fn hfn=>?_
 rw [hro]
 obtain ⟨D,hD⟩:∃ D,w.heap.size=D:=⟨_,rfl⟩
 obtain ⟨R,hR⟩:∃ R:LoopState→Loop,∀ st,R st={ state:=st,pending:=none,fn,tmps:=a.tmps,params:=ps,assign,body,defers:=D }:=⟨_,fun _=>rfl⟩
 obtain ⟨V,hV⟩:∃ V,V=(w.alloc (.deferred (some []))).alloc (.loop (R .ready)):=⟨_,rfl⟩
 have sV:V.heap.size=D+2:=by rw [hV];simp [hD]
 have vL:V.heap[D+1]?=some (.loop (R .ready)):=by
  have:=World.alloc_heap_new (w.alloc (.deferred (some []))) (.loop (R .ready))
  rw [World.size_alloc,hD] at this
  rw [hV];exact this
 have vD:V.heap[D]?=some (.deferred (some [])):=by
  have:=World.alloc_heap_new w (.deferred (some []))
  rw [hD] at this
  rw [hV];exact (Below.heap_alloc _ _ _ (by simp [hD])).trans this
 have wV:Below w.heap.size w V:=by
  rw [hV];exact ((Below.refl _ w).alloc (Nat.le_refl _) _).alloc (by simp) _
 have bV:Below w0.heap.size w0 V:=hb0.trans (wV.mono hb0.size)
 have hIV:I [] V:=hI _ _ _ h0 (Kp.below wV)
 rw [hD] at hI
 have put:∀ {s W o}(o':Obj),I s W→W.heap[D+1]?=some o→freeO o=true→I s (W.putObj (D+1) o'):=fun {s W o} o' hs hl hc=>hI s W _ hs (Kp.put o' (by omega) hl hc)
 have hJ:StayX V.heap.size (fun pre W=>I pre W∧W.heap[D+1]?=some (.loop (R .ready))∧W.heap[D]?=some (.deferred (some []))):=by
  intro s A B hs hk
  rw [sV] at hk
  exact ⟨hI s A B hs.1 (hk.mono (by omega)),hk.block _ _ hs.2.1 (.inl (by omega)),hk.block _ _ hs.2.2 (.inl (by omega))⟩
 have hcall:=hseq (D+1) _ V bV hJ ?round ⟨hIV,vL,vD⟩
 case round=>
  rintro pre x W ⟨hi,hl,hk⟩ hlen
  have hlt:D+1<W.heap.size:=(Array.getElem?_eq_some_iff.1 hl).1
  have hy:=run_yield (P:=P) (args:=encs x) hl (by rw [hR];exact hps x)
  rw [hR] at hy
  have bL:(W.putObj (D+1) (.loop { R .ready with state:=.busy })).heap[D+1]?=some (.loop { R .ready with state:=.busy }):=World.putObj_heap_same hlt
  have bD:(W.putObj (D+1) (.loop { R .ready with state:=.busy })).heap[D]?=some (.deferred (some [])):=(World.putObj_heap_other (by omega)).trans hk
  refine ⟨fn,_,assign,body,hy,roundIn_of_wpIn hfn (hassign _ x W _ ⟨_,run_beginRound hl (by rw [hR]),?_⟩)⟩
  refine wpIn_mono (hbody _ pre x _ (put _ hi hl rfl) hlen) ?_
  rintro e a3 W3 hp
  cases e with
  | normal=>
    obtain ⟨hk3,hi3⟩:=hp
    have cL:=hk3.keep _ _ bL (.inl rfl)
    have cE:=run_endRound (P:=P) none cL
    rw [hR] at cE cL
    have c3:D+1<W3.heap.size:=(Array.getElem?_eq_some_iff.1 cL).1
    refine ⟨_,_,cE,rfl,⟨put _ hi3 cL rfl,?_,(World.putObj_heap_other (by omega)).trans (hk3.keep _ _ bD (.inl rfl))⟩,⟨?_,fun k o hko hoc=>?_⟩⟩
    ·rw [hR];exact World.putObj_heap_same c3
    ·exact Nat.le_trans (by simp) (Nat.le_trans hk3.size (by simp))
    ·by_cases hkl:k=D+1
     ·subst hkl
      rw [hl] at hko
      cases hko
      rw [hR];exact World.putObj_heap_same c3
     ·exact (World.putObj_heap_other hkl).trans (hk3.keep _ _ ((World.putObj_heap_other hkl).trans hko) hoc)
  | ret=>exact hp.elim
  | exit id=>exact hp.elim
  | goto t=>exact hp.elim
  | panic ch=>exact hp.elim
  | outgrown=>exact hp.elim
 refine ⟨D+1,[{ target:=.collected D,args:=#[] }],V,{ target:=.fn (.func gf) lb,args:=#[.func (.yield (D+1)) #[] #[]] },V,gf,
  #[.func (.yield (D+1)) #[] #[]]++lb,V,?_,?_,?_,?_,fun _=>h1,?_⟩
 ·have e:V=(w.alloc (.deferred (some []))).alloc (.loop { state:=.ready,pending:=none,fn,tmps:=a.tmps,params:=ps,assign,body,defers:=w.heap.size }):=by rw [hV,hR,hD]
  rw [e,←hD]
  exact run_enterLoop_outer _ _ _ _ _
 ·simp only [resolve,hg]
  simp [go_sem]
 ·intro f' hf';simp [Target.leads] at hf';subst hf';exact hFg
 ·simp [invoke,go_sem,eg]
 ·refine hcall.mono ?_
  rintro e W2 ⟨⟨v,rfl⟩,hi,hl,hk⟩
  have cE:=run_endLoop (P:=P) hl (by rw [hR];simp)
  rw [hR] at cE
  exact ⟨none,_,cE,hdone _ _ (by omega) (put _ hi hl rfl) ((World.putObj_heap_other (by omega)).trans hk)⟩
end Go.Proofs.YtehfpjcclknipaaGreatDoor.T
namespace Go.Proofs
open Go.Shelf
def Tryz.lays101_ren:Go.Shelf.Ren:=⟨fun | 101=>292 | 206=>180 | 208=>297 | n=>n,fun | n=>n,fun | n=>n⟩
theorem Tryz.lays101:Go.Proofs.Lays.n101 Tryz.prog Tryz.lays101_ren:={
 mixed:=by kernel_rfl
 f101:=Tryz.func292.trans (congrArg some (by kernel_rfl))
 f206:=Tryz.func180.trans (congrArg some (by kernel_rfl))
 f208:=Tryz.func297.trans (congrArg some (by kernel_rfl))
 t3:=Tryz.underlying3
 a3:=Tryz.isAgg3
 z3:=Tryz.sizeOf3
 v3:=Tryz.zeroValue3
 t4:=Tryz.underlying4
 a4:=Tryz.isAgg4
 z4:=Tryz.sizeOf4
 v4:=Tryz.zeroValue4
 t9:=Tryz.underlying9
 a9:=Tryz.isAgg9
 z9:=Tryz.sizeOf9
 v9:=Tryz.zeroValue9 }
theorem Tryz.strings_TrimPrefix (s p:ByteArray) (w:World) :
  Calls Tryz.prog 292 #[.string s,.string p] w fun e w'=>e=.returned (.string ⟨(Lib.trimPrefix s.data.toList p.data.toList).toArray⟩)∧w'=w:=Any.strings_TrimPrefix Tryz.lays101 s p w
end Go.Proofs
namespace Go.Proofs.YtehfpjcclknipaaGreatDoor.T
open Go.RowKit Go.Maps Go.Sort Go.Shelf
theorem KM.kx {S:Nat→Prop}{W W':World}{b n:Nat}{L:List (List UInt8 × Nat)}(h:KM W b n L) (hk:Kx S W W') (hb:S b):KM W' b n L:=by
 obtain ⟨es,clock,ho,F,hs,hD⟩:=h
 exact ⟨es,clock,hk.keep _ _ ho (.inr hb),F,hs,hD⟩
theorem KM.kp {B0:Nat}{W W':World}{b n:Nat}{L:List (List UInt8 × Nat)}(h:KM W b n L) (hk:Kp B0 W W'):KM W' b n L:=by
 obtain ⟨es,clock,ho,F,hs,hD⟩:=h
 exact ⟨es,clock,hk.block _ _ ho (.inr rfl),F,hs,hD⟩
def blkS (r:Nd) (ns:List Nd) (k:Nat):Prop:=∃ x∈r :: ns,k=x.nb∨k=x.mb
theorem blk_nb {r x:Nd}{ns:List Nd}(h:x∈r :: ns):blkS r ns x.nb:=⟨x,h,.inl rfl⟩
theorem blk_mb {r x:Nd}{ns:List Nd}(h:x∈r :: ns):blkS r ns x.mb:=⟨x,h,.inr rfl⟩
theorem Mem.kx {B:Nat}{W W':World}{r:Nd}{ns:List Nd}(h:Mem W B r ns) (hk:Kx (blkS r ns) W W'):Mem W' B r ns:=
 ⟨h.root,fun x hx=>⟨(h.all x hx).1,(h.all x hx).2.1,hk.keep _ _ (h.all x hx).2.2.1 (.inr (blk_nb hx)),(h.all x hx).2.2.2.kx hk (blk_mb hx)⟩,h.apart⟩
theorem Mem.kp {B B0:Nat}{W W':World}{r:Nd}{ns:List Nd}(h:Mem W B r ns) (hk:Kp B0 W W'):Mem W' B r ns:=
 ⟨h.root,fun x hx=>⟨(h.all x hx).1,(h.all x hx).2.1,hk.block _ _ (h.all x hx).2.2.1 (.inr rfl),(h.all x hx).2.2.2.kp hk⟩,h.apart⟩
theorem behind_any (q p:ByteArray) (w:World) :
  Calls Tryz.prog 282 #[.string q,.string p] w fun e w'=>e=.returned (.string (bs (Lib.trimPrefix (Lib.trimPrefix q.data.toList p.data.toList) [47])))∧w'=w:=by
 have h1:=Tryz.strings_TrimPrefix q p w
 have h2:=Tryz.strings_TrimPrefix (bs (Lib.trimPrefix q.data.toList p.data.toList)) ⟨#[47]⟩ w
 rw [bs_list] at h2
 obtain ⟨x,hx⟩:∃ x,x=bs (Lib.trimPrefix q.data.toList p.data.toList):=⟨_,rfl⟩
 obtain ⟨z,hz⟩:∃ z,z=bs (Lib.trimPrefix (Lib.trimPrefix q.data.toList p.data.toList) [47]):=⟨_,rfl⟩
 have h1':Calls Tryz.prog 292 #[.string q,.string p] w fun e w'=>e=.returned (.string x)∧w'=w:=by rw [hx];exact h1
 have h2':Calls Tryz.prog 292 #[.string x,.string ⟨#[47]⟩] w fun e w'=>e=.returned (.string z)∧w'=w:=by rw [hx,hz];exact h2
 rw [←hz]
 clear h1 h2 hx hz
 go_enter Tryz.func282,Tryz.ntmps282
 go_wp2_with (first
  | (go_at_call 292;refine h1'.mono ?_;clear h1';rintro e w1 ⟨rfl,rfl⟩)
  | (go_at_call 292;refine h2'.mono ?_;clear h2';rintro e w1 ⟨rfl,rfl⟩))
 go_ret
 exact ⟨rfl,rfl⟩
theorem rel_eq {p q:List UInt8}(hq:isP q=true) (h:under p q):Lib.trimPrefix (Lib.trimPrefix q p) [47]=relP p q∧relP p q≠[]∧(relP p q).length≤q.length:=by
 obtain ⟨_,_,hel⟩:=isP_parts hq
 have hq0:q≠[]:=fun e=>by
  subst e
  obtain ⟨a,u,e⟩:=h
  have:=congrArg List.length e
  simp [prt_nil] at this
 by_cases hp:p=[]
 ·subst hp
  have e1:Lib.trimPrefix q []=q:=by simp [Lib.trimPrefix,Lib.hasPrefix]
  have e2:Lib.hasPrefix q [47]=false:=by
   cases q with
   | nil=>exact absurd rfl hq0
   | cons a t=>
     by_cases ha:a=47
     ·subst ha
      have hm:([]:List UInt8)∈prt (47 :: t):=by
       rw [prt_ne (by simp),show (47 :: t:List UInt8)=[]++47 :: t from rfl,spl_app,spl_no (by simp)]
       simp
      exact absurd rfl (elt_no (hel _ hm)).2
     ·simp only [Lib.hasPrefix,List.isPrefixOf]
      simpa using fun e=>ha e.symm
  rw [e1,Lib.trimPrefix,e2,relP,if_pos rfl]
  exact ⟨by simp,hq0,Nat.le_refl _⟩
 ·have h1:=(prefix_under hp hq).2 h
  rw [Lib.hasPrefix,List.isPrefixOf_iff_prefix] at h1
  obtain ⟨t,ht⟩:=h1
  have e1:Lib.trimPrefix q p=47 :: t:=by
   rw [Lib.trimPrefix,if_pos (by rw [Lib.hasPrefix,List.isPrefixOf_iff_prefix];exact ⟨47 :: t,by rw [←ht];simp⟩),←ht]
   simp
  have e2:relP p q=t:=by rw [relP,if_neg hp,←ht,show p.length+1=(p++[47]).length by simp,List.drop_left]
  refine ⟨by rw [e1,e2];simp [Lib.trimPrefix,Lib.hasPrefix],?_,by rw [e2,←ht];simp;omega⟩
  rw [e2]
  rintro rfl
  have hm:([]:List UInt8)∈prt q:=by
   rw [prt_ne hq0,←ht,show p++[47]++[]=p++47 :: [] by simp,spl_app]
   simp [spl_no]
  exact absurd rfl (elt_no (hel _ hm)).2
theorem nb_two {w:World}{B:Nat}{r:Nd}{ns:List Nd}(h:Mem w B r ns) {x y:Nd}(hx:x∈r :: ns) (hy:y∈r :: ns) (hne:x.p≠y.p):x.nb≠y.nb:=fun en=>by
 have h3:=(h.all x hx).2.2.1
 have h4:=(h.all y hy).2.2.1
 rw [en,h4] at h3
 have h5:=congrArg (fun o=>match o with | some (Obj.cells cs _ _)=>cs[0]? | _=>none) h3
 simp [Nd.cells] at h5
 exact hne (by rw [Nd.p,Nd.p,h5])
theorem kx_stp {w w':World}{B:Nat}{r rs:Nd}{ns ns' nss:List Nd}(hM:Mem w B r ns) (hs:Stp2 w w' B r ns ns') (hA:∀ k,blkS rs nss k→k<B):Kx (blkS rs nss) w w':=by
 refine ⟨hs.below.size,fun k o hk hc=>(hs.foot k (Array.getElem?_eq_some_iff.1 hk).1 fun x hx=>?_).trans hk⟩
 obtain ⟨h1,h2,h3,es,clock,h4,_⟩:=hM.all x hx
 rcases hc with hc | hc
 ·refine ⟨fun e=>?_,fun e=>?_⟩
  ·subst e;rw [h3] at hk;cases hk;cases hc
  ·subst e;rw [h4] at hk;cases hk;cases hc
 ·have:=hA k hc
  exact ⟨by omega,by omega⟩
theorem StA.kp {w w':World}{B sb B0:Nat}{r:Nd}{ns:List Nd}{work:ByteArray}{ev:Value}(h:StA w B sb r ns work ev) (hk:Kp B0 w w'):StA w' B sb r ns work ev:=
 ⟨hk.block _ _ h.cells (.inr rfl),h.mem.kp hk,h.tree,h.lim,Nat.le_trans h.base hk.size⟩
theorem Stp2.kp {w V V':World}{B B0:Nat}{r:Nd}{ns ns':List Nd}(h:Stp2 w V B r ns ns') (hk:Kp B0 V V') (h0:w.heap.size≤B0) (hB:B≤w.heap.size):Stp2 w V' B r ns ns':=by
 have hz:=h.below.size
 have hv:∀ k,k<w.heap.size→V'.heap[k]?=V.heap[k]?:=fun k hk'=>by
  obtain ⟨o,ho⟩:∃ o,V.heap[k]?=some o:=⟨_,Array.getElem?_eq_getElem (by omega)⟩
  rw [ho];exact hk.block k o ho (.inl (by omega))
 exact ⟨⟨hk.os.trans h.below.os,hk.tape.trans h.below.tape,hk.output.trans h.below.output,Nat.le_trans hz hk.size,fun k hk'=>(hv k (by omega)).trans (h.below.block k hk')⟩,fun g hg ho=>(hv g hg).trans (h.foot g hg ho),h.grew⟩
theorem cpB_snoc (d p:List UInt8) (e:Ent):∀ (l:List Ent) (t:List Ent),cpB d p t (l++[e])=match cpB d p t l with | .error k=>.error k | .ok t'=>layG t' (movE e (jnp d (relP p e.path.data.toList)))
 | [],t=>by
   simp only [List.nil_append,cpB]
   cases layG t (movE e (jnp d (relP p e.path.data.toList))) <;> rfl
 | x :: l,t=>by
   simp only [List.cons_append,cpB]
   cases layG t (movE x (jnp d (relP p x.path.data.toList))) with
   | error k=>rfl
   | ok t'=>exact cpB_snoc d p e l t'
theorem cpB_pre {d p:List UInt8}:∀ {l m:List Ent}{t u:List Ent},cpB d p t (l++m)=.ok u→∃ t',cpB d p t l=.ok t'
 | [],m,t,u,_=>⟨t,rfl⟩
 | x :: l,m,t,u,h=>by
   simp only [List.cons_append,cpB] at h ⊢
   cases e:layG t (movE x (jnp d (relP p x.path.data.toList))) with
   | error k=>rw [e] at h;cases h
   | ok t'=>rw [e] at h;exact cpB_pre h
end Go.Proofs.YtehfpjcclknipaaGreatDoor.T
