import Derived.Test.YtjhkeaijcdpaaaaGreatDoorDcX
import Derived.Test.YtjhkeaijcdpaaaaGreatDoorJDcJ
namespace Go.Proofs.YtjhkeaijcdpaaaaGreatDoor
open Go.RowKit Go.Maps

set_option maxRecDepth 100000 in
theorem unch_sh : ∀ n : Nat, n < 256 → unchN n = shN n := by decide
theorem byteF_shown (c : UInt8) : byteF c = shownC c := by
  unfold byteF shownC
  rw [unch_sh c.toNat c.toNat_lt]
theorem bytesF_app (a b : List UInt8) : bytesF (a ++ b) = bytesF a ++ bytesF b := by simp [bytesF]
theorem partsF_app (a b : List Prt) : partsF (a ++ b) = partsF a ++ partsF b := by simp [partsF]
/-- No part that is no variable is empty. -/
def Full (l : List Prt) : Prop := ∀ p ∈ l, p.isVar = false → p.text.data.toList ≠ []
theorem parts_full (xs : List Atm) : Full (parts xs) ∧ partsF (parts xs) = atsF xs := by
  induction xs using rev_ind with
  | h0 => exact ⟨fun p hp => by simp [parts] at hp, rfl⟩
  | h1 xs a ih =>
    obtain ⟨hf, he⟩ := ih
    rw [parts_snoc]
    have hat : atsF (xs ++ [a]) = atsF xs ++ atF a := by simp [atsF]
    rw [hat, ← he]
    cases a with
    | inr pA =>
      obtain ⟨n, k⟩ := pA
      show Full (parts xs ++ [⟨bt n, true, (k : Int)⟩]) ∧ partsF (parts xs ++ [⟨bt n, true, (k : Int)⟩]) = _
      refine ⟨fun p hp => ?_, ?_⟩
      · rcases List.mem_append.1 hp with hp | hp
        · exact hf p hp
        · rw [List.mem_singleton] at hp; subst hp; intro h; cases h
      · rw [partsF_app]
        congr 1
        simp [partsF, partF, atF, bt_list]
    | inl c =>
      show Full (addT (parts xs) (bt [c])) ∧ partsF (addT (parts xs) (bt [c])) = _
      rcases last_cases (parts xs) with hc | ⟨qs, q, hq, hv⟩
      · rw [addT_new (by
          rintro q hq
          rcases hc with h | ⟨qs, r, h, hr⟩
          · rw [h] at hq; cases hq
          · rw [h] at hq; simp at hq; subst hq; exact hr)]
        refine ⟨fun p hp => ?_, ?_⟩
        · rcases List.mem_append.1 hp with hp | hp
          · exact hf p hp
          · rw [List.mem_singleton] at hp; subst hp; intro _; rw [bt_list]; simp
        · rw [partsF_app]
          congr 1
          simp [partsF, partF, textF, bytesF, bt_list, atF, byteF_shown]
      · rw [hq] at hf ⊢
        rw [addT_on hv]
        have hqn : q.text.data.toList ≠ [] := hf q (by simp) hv
        refine ⟨fun p hp => ?_, ?_⟩
        · rcases List.mem_append.1 hp with hp | hp
          · exact hf p (by simp [hp])
          · rw [List.mem_singleton] at hp; subst hp; intro _; simp [hqn]
        · rw [partsF_app, partsF_app, List.append_assoc]
          congr 1
          simp only [partsF, List.map_cons, List.map_nil, List.flatten_cons, List.flatten_nil, List.append_nil]
          unfold partF
          simp only [hv]
          have h1 : (q.text ++ bt [c]).data.toList = q.text.data.toList ++ [c] := by simp [bt]
          rw [h1]
          simp only [Bool.false_eq_true, if_false]
          unfold textF
          rw [if_neg hqn, if_neg (by simp [hqn]), bytesF_app]
          congr 1
          simp [bytesF, atF, byteF_shown]
theorem parts_nil {xs : List Atm} : parts xs = [] ↔ xs = [] := by
  constructor
  · intro h
    have := (parts_full xs).2
    rw [h] at this
    exact atsF_nil.1 this.symm
  · intro h; rw [h]; rfl
theorem formD_W (xs : List Atm) : formW (parts xs) = formD xs := by
  unfold formW formD
  by_cases h : xs = []
  · rw [if_pos (parts_nil.2 h), if_pos h]
  · rw [if_neg (fun e => h (parts_nil.1 e)), if_neg h, (parts_full xs).2]
theorem formD_plain : ∀ {xs : List Atm} {t : List UInt8}, plainW xs = some t → (∀ c ∈ t, shN c.toNat = true) → atsF xs = t := by
  intro xs
  induction xs with
  | nil => intro t h _; simp [plainW] at h; subst h; rfl
  | cons a r ih =>
    intro t h hs
    cases a with
    | inr pA => obtain ⟨n, k⟩ := pA; simp [plainW] at h
    | inl c =>
      simp only [plainW] at h
      cases hr : plainW r with
      | none => rw [hr] at h; cases h
      | some u =>
        rw [hr] at h
        injection h with h
        subst h
        have h1 := ih hr (fun x hx => hs x (List.mem_cons_of_mem _ hx))
        show shownC c ++ atsF r = c :: u
        rw [h1]
        unfold shownC
        rw [if_pos (hs c (List.mem_cons_self ..))]; rfl
theorem formW_plain {xs : List Atm} {t : List UInt8} (h : plainW xs = some t) (ht : t ≠ []) (hs : ∀ c ∈ t, shN c.toNat = true) : formW (parts xs) = t := by
  rw [formD_W]
  unfold formD
  rw [if_neg (fun e => by rw [e] at h; simp [plainW] at h; exact ht h)]
  exact formD_plain h hs
theorem sn_sh {t : List UInt8} (h : stageNm t = true) : (∀ c ∈ t, shN c.toNat = true) ∧ t.length ≤ 10 := by
  unfold stageNm at h
  simp only [Bool.and_eq_true, decide_eq_true_eq] at h
  refine ⟨fun c hc => ?_, h.1.1⟩
  have := List.all_eq_true.1 h.2 c hc
  unfold sdC smC isDigC at this
  unfold shN
  simp only [Bool.or_eq_true, decide_eq_true_eq] at this ⊢
  omega
theorem op_sh {t : List UInt8} (h : (opN t).isSome = true) : (∀ c ∈ t, shN c.toNat = true) ∧ t.length ≤ 10 ∧ t ≠ [] := by
  cases ho : opN t with
  | none => rw [ho] at h; cases h
  | some i =>
    have hm := opN_mem ho
    have : ∀ p ∈ tbl, (∀ c ∈ p.1, shN c.toNat = true) ∧ p.1.length ≤ 10 ∧ p.1 ≠ [] := by decide
    exact this _ hm
end Go.Proofs.YtjhkeaijcdpaaaaGreatDoor
