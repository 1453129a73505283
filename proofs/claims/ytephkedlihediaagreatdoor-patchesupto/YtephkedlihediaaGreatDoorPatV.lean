import Derived.Test.YtephkedlihediaaGreatDoorPatU
import Derived.Test.YtephkedlihediaaGreatDoorChgE
namespace Go.Proofs.YtephkedlihediaaGreatDoor
open Go.RowKit

/-- Has the entry its place already? -/
def dnK (e : Ent) (l : List Ent) : Bool := l.any fun x => ltP e.q x.q
/-- What has come out so far. -/
def outK (both : Bool) (e : Ent) (l : List Ent) : List Ent := if dnK e l = true then putG Ent.q l both e else l.filter fun x => ltP x.q e.q
theorem dnK_snoc (e x : Ent) (l : List Ent) : dnK e (l ++ [x]) = (dnK e l || ltP e.q x.q) := by simp [dnK]
theorem ltP_asymm {a b : List UInt8} (h : ltP a b = true) : ltP b a = false := by
  cases h2 : ltP b a
  · rfl
  · have := totP.trans h h2
    rw [totP.irr] at this; cases this
theorem dnK_before {e x : Ent} {l : List Ent} (hs : (l ++ [x]).Pairwise fun a b => ltP a.q b.q = true) (h : ltP e.q x.q = false) : dnK e l = false := by
  cases hd : dnK e l
  · rfl
  · obtain ⟨y, hy, hl⟩ := List.any_eq_true.1 hd
    have h1 := (List.pairwise_append.1 hs).2.2 y hy x (by simp)
    rw [totP.trans hl h1] at h; cases h
theorem keep_none {both : Bool} {e : Ent} {l : List Ent} (h : dnK e l = false) : (l.filter fun x => keepPut both e.q x.q) = [] := by
  refine List.filter_eq_nil_iff.2 fun x hx hk => ?_
  have h1 := (keepPut_iff.1 hk).1
  have : dnK e l = true := List.any_eq_true.2 ⟨x, hx, h1⟩
  rw [h] at this; cases this
theorem outK_lt {both : Bool} {e x : Ent} {l : List Ent} (hs : (l ++ [x]).Pairwise fun a b => ltP a.q b.q = true) (h : ltP x.q e.q = true) : dnK e l = false ∧ dnK e (l ++ [x]) = false ∧ outK both e (l ++ [x]) = outK both e l ++ [x] := by
  have h1 := dnK_before hs (ltP_asymm h)
  have h2 : dnK e (l ++ [x]) = false := by rw [dnK_snoc, h1, ltP_asymm h]; rfl
  refine ⟨h1, h2, ?_⟩
  rw [outK, outK, if_neg (by rw [h2]; simp), if_neg (by rw [h1]; simp), List.filter_append]
  simp [h]
theorem outK_eq {both : Bool} {e x : Ent} {l : List Ent} (hs : (l ++ [x]).Pairwise fun a b => ltP a.q b.q = true) (h : x.q = e.q) : dnK e l = false ∧ dnK e (l ++ [x]) = false ∧ outK both e (l ++ [x]) = outK both e l := by
  have h0 : ltP e.q x.q = false := by rw [h]; exact totP.irr _
  have h0' : ltP x.q e.q = false := by rw [h]; exact totP.irr _
  have h1 := dnK_before hs h0
  have h2 : dnK e (l ++ [x]) = false := by rw [dnK_snoc, h1, h0]; rfl
  refine ⟨h1, h2, ?_⟩
  rw [outK, outK, if_neg (by rw [h2]; simp), if_neg (by rw [h1]; simp), List.filter_append]
  simp [h0']
theorem outK_gt {both : Bool} {e x : Ent} {l : List Ent} (h : ltP e.q x.q = true) : dnK e (l ++ [x]) = true ∧ outK both e (l ++ [x]) = outK both e l ++ (if dnK e l = true then [] else [e]) ++ (if keepPut both e.q x.q = true then [x] else []) := by
  have h2 : dnK e (l ++ [x]) = true := by rw [dnK_snoc, h]; simp
  refine ⟨h2, ?_⟩
  rw [outK, if_pos h2, putG, List.filter_append, List.filter_append]
  cases hd : dnK e l
  · rw [outK, if_neg (by rw [hd]; simp), keep_none hd]
    simp [ltP_asymm h, List.filter_cons]
  · rw [outK, if_pos hd, putG]
    simp [ltP_asymm h, List.filter_cons]
theorem outK_end {both : Bool} {e : Ent} {l : List Ent} : putG Ent.q l both e = if dnK e l = true then outK both e l else outK both e l ++ [e] := by
  cases hd : dnK e l
  · rw [if_neg (by simp), outK, if_neg (by rw [hd]; simp), putG, keep_none hd]
  · rw [if_pos rfl, outK, if_pos hd]
theorem outK_len {both : Bool} {e : Ent} {l : List Ent} (hs : l.Pairwise fun a b => ltP a.q b.q = true) : (outK both e l).length ≤ l.length + 1 := by
  unfold outK
  split
  · exact put_len hs _ _
  · exact Nat.le_trans (List.length_filter_le _ _) (by omega)
end Go.Proofs.YtephkedlihediaaGreatDoor
