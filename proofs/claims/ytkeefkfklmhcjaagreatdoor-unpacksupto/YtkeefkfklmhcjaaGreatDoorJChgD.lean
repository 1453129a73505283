import Derived.Test.YtkeefkfklmhcjaaGreatDoorJChgB
import Derived.Deep.Cut
import Derived.Deep.CutRange
namespace Go.Proofs.YtkeefkfklmhcjaaGreatDoor
open Go.RowKit

theorem ltL_convex : ∀ {x q u : List (List UInt8)} {a : List UInt8}, ltL x q = true → (q = x ++ a :: u ∨ ltL q (x ++ a :: u) = true) → ∃ b v, q = x ++ b :: v
  | [], [], _, _, h, _ => by simp [ltL] at h
  | [], b :: v, _, _, _, _ => ⟨b, v, rfl⟩
  | _ :: _, [], _, _, h, _ => by simp [ltL] at h
  | c :: x, d :: q, u, a, h1, h2 => by
    by_cases hcd : c = d
    · subst hcd
      have h1' : ltL x q = true := by simpa [ltL, bl_irr] using h1
      have h2' : q = x ++ a :: u ∨ ltL q (x ++ a :: u) = true := by
        rcases h2 with h | h
        · left; simpa using h
        · right; simpa [ltL, bl_irr] using h
      obtain ⟨b, v, e⟩ := ltL_convex h1' h2'
      exact ⟨b, v, by rw [e]; rfl⟩
    · have e1 : Op.bytesLess c d = true := by
        have : (c == d) = false := by simp [hcd]
        simpa [ltL, this] using h1
      rcases h2 with h | h
      · exact absurd (by simpa using (List.cons.inj h).1.symm) hcd
      · have : (d == c) = false := by simp [Ne.symm hcd]
        have e2 : Op.bytesLess d c = true := by simpa [ltL, this] using h
        rw [bl_asymm e1] at e2
        cases e2
theorem prefix_under {c d : List UInt8} (hd : d ≠ []) (hc : isP c = true) : Lib.hasPrefix c (d ++ [47]) = true ↔ under d c := by
  rw [Lib.hasPrefix, List.isPrefixOf_iff_prefix]
  constructor
  · rintro ⟨r, rfl⟩
    have hne : d ++ [47] ++ r ≠ [] := by simp
    cases hs : spl r with
    | nil => exact absurd hs (spl_ne r)
    | cons a u =>
      refine ⟨a, u, ?_⟩
      rw [prt_ne hne, prt_ne hd, ← hs, ← spl_app]
      simp
  · rintro ⟨a, u, e⟩
    have hal : ∀ x ∈ a :: u, 47 ∉ x := fun x hx => by
      have h1 : (prt c).all elt = true := by
        simp only [isP, Bool.and_eq_true] at hc
        exact hc.2
      exact (elt_no (List.all_eq_true.1 h1 x (by rw [e]; exact List.mem_append_right _ hx))).1
    refine ⟨Lib.join (a :: u) [47], ?_⟩
    apply prt_inj
    have hne : d ++ [47] ++ Lib.join (a :: u) [47] ≠ [] := by simp
    rw [prt_ne hne, e, prt_ne hd, show d ++ [47] ++ Lib.join (a :: u) [47] = d ++ 47 :: Lib.join (a :: u) [47] from by simp, spl_app, spl_joined (by simp) hal]
/-- Below, in the document's words. -/
def blw (p q : List UInt8) : Bool := if q = [] then p != [] else Lib.hasPrefix p (q ++ [47])
theorem blw_under {p q : List UInt8} (hp : isP p = true) : blw p q = true ↔ under q p := by
  unfold blw
  split
  · next h =>
    subst h
    simp only [bne_iff_ne, ne_eq, under, prt_nil, List.nil_append]
    constructor
    · intro h
      cases hx : prt p with
      | nil => exact absurd hx (prt_some h)
      | cons a u => exact ⟨a, u, rfl⟩
    · rintro ⟨a, u, e⟩ rfl
      simp [prt] at e
  · next h => exact prefix_under h hp
set_option maxHeartbeats 1000000 in
theorem refBelow_any (s t : ByteArray) (w : World) (ht : t.size ≤ 1073741824) : Calls Tryz.prog 37 #[.string s, .string t] w fun ev w' => ev = .returned (.bool (blw s.data.toList t.data.toList)) ∧ w' = w := by
  have hP := begins_any s (t ++ ⟨#[47]⟩) w
  have e : (t ++ ⟨#[47]⟩ : ByteArray).data.toList = t.data.toList ++ [47] := by rw [data_append]
  rw [e] at hP
  have n1 : ¬ 9223372036854775807 < t.size + 1 := by omega
  clear e
  by_cases h0 : t.data.toList = []
  · have g1 : t.toList.isEmpty = true := by rw [Lib.toList_data, h0]; rfl
    have R : Hid (blw s.data.toList t.data.toList = !s.toList.isEmpty) := hide (by rw [blw, if_pos h0, Lib.toList_data]; cases s.data.toList <;> rfl)
    clear h0
    go_enter Tryz.func37, Tryz.ntmps37
    go_wp2_with fail
    go_ret
    exact ⟨ret_bool (unhide R).symm, rfl⟩
  · have g1 : t.toList.isEmpty = false := by rw [Lib.toList_data]; simpa using h0
    have R : Hid (blw s.data.toList t.data.toList = Lib.hasPrefix s.data.toList (t.data.toList ++ [47])) := hide (by rw [blw, if_neg h0])
    clear h0
    go_enter Tryz.func37, Tryz.ntmps37
    go_wp2_with (go_at_call 59; refine hP.mono ?_; clear hP; rintro ev w1 ⟨rfl, hw⟩; obtain rfl := hw.symm)
    go_ret
    exact ⟨ret_bool (unhide R).symm, rfl⟩
/-- What the document asks of a change beside those ahead of it: none that may hold nothing is above it. -/
def refCh (cs : List Ent) (i : Nat) (c : Ent) : Bool := decide (i < 80) && chOk c && (decide (i = 0) || match cs[i - 1]? with
    | none => false
    | some d => ltP d.path.data.toList c.path.data.toList || (d.path.data.toList == c.path.data.toList && decide (d.kind = 1) && decide (c.kind = 5)))
theorem chOk_path {c : Ent} (h : chOk c = true) : isP c.path.data.toList = true ∧ (c.path.data.toList = [] → c.kind = 5) := by
  unfold chOk at h
  split at h
  · next hk =>
    simp only [Bool.and_eq_true, Bool.not_eq_true', Bool.and_eq_false_iff, decide_eq_false_iff_not] at h
    refine ⟨h.1.1.2, fun e => ?_⟩
    rcases h.1.1.1 with h1 | h1
    · rcases hk with hk | hk
      · exact absurd hk h1
      · exact hk
    · rw [e] at h1; cases h1
  · have h3 := ent_parts h
    exact ⟨h3.2.1, fun e => absurd e h3.1⟩
theorem okCh_parts {cs : List Ent} {i : Nat} {c : Ent} (he : cs[i]? = some c) (h : okCh cs i = true) : chOk c = true ∧ ∀ d, i ≠ 0 → cs[i - 1]? = some d → flw d c = true := by
  rw [okCh_eq he] at h
  simp only [Bool.and_eq_true, Bool.or_eq_true, decide_eq_true_eq] at h
  refine ⟨h.1.2, fun d h0 hd => ?_⟩
  rcases h.2 with h2 | h2
  · exact absurd h2 h0
  · rw [hd] at h2; exact h2
theorem flw_le {d c : Ent} (h : flw d c = true) : d.path.data.toList = c.path.data.toList ∨ ltP d.path.data.toList c.path.data.toList = true := by
  unfold flw at h
  split at h
  · next e => exact .inl e
  · simp only [Bool.and_eq_true] at h; exact .inr h.1
/-- The changes rise. -/
theorem ch_le {cs : List Ent} {n : Nat} (h : ∀ i, i < n → okCh cs i = true) : ∀ (j i : Nat) (d e : Ent), i ≤ j → j < n → cs[i]? = some d → cs[j]? = some e → d.path.data.toList = e.path.data.toList ∨ ltP d.path.data.toList e.path.data.toList = true
  | 0, i, d, e, hij, _, hd, he => by
    have : i = 0 := by omega
    subst this
    rw [hd] at he; cases he; exact .inl rfl
  | j + 1, i, d, e, hij, hj, hd, he => by
    by_cases hij' : i = j + 1
    · subst hij'
      rw [hd] at he; cases he; exact .inl rfl
    · obtain ⟨f, hf⟩ : ∃ f, cs[j]? = some f := ⟨cs[j]'(by have := (List.getElem?_eq_some_iff.1 he).1; omega), List.getElem?_eq_getElem _⟩
      have h1 := ch_le h j i d f (by omega) (by omega) hd hf
      have h2 := flw_le ((okCh_parts he (h (j + 1) hj)).2 f (by omega) hf)
      rcases h1 with h1 | h1 <;> rcases h2 with h2 | h2
      · exact .inl (h1.trans h2)
      · right; rw [h1]; exact h2
      · right; rw [← h2]; exact h1
      · exact .inr (ltL_trans h1 h2)
/-- The last change ahead tells enough. -/
theorem last_tells {cs : List Ent} {i : Nat} {c : Ent} (h : ∀ j, j < i → okCh cs j = true) (he : cs[i]? = some c) (hc : refCh cs i c = true) :
    okCh cs i = true ↔ ∀ k d, k < i → cs[k]? = some d → blw c.path.data.toList d.path.data.toList = true → d.kind = 1 ∨ d.kind = 5 := by
  rw [okCh_eq he]
  unfold refCh at hc
  simp only [Bool.and_eq_true, Bool.or_eq_true, decide_eq_true_eq] at hc
  have hP := (chOk_path hc.1.2).1
  constructor
  · intro h1 k d hk hd hb
    simp only [Bool.and_eq_true, Bool.or_eq_true, decide_eq_true_eq] at h1
    have hd1 := okCh_parts hd (h k hk)
    by_cases hdk : d.kind = 1 ∨ d.kind = 5
    · exact hdk
    · exfalso
      have hd0 : d.path.data.toList ≠ [] := fun e => hdk (.inr ((chOk_path hd1.1).2 e))
      obtain ⟨f, hf⟩ : ∃ f, cs[k + 1]? = some f := ⟨cs[k + 1]'(by have := (List.getElem?_eq_some_iff.1 he).1; omega), List.getElem?_eq_getElem _⟩
      have hfl : flw d f = true := by
        by_cases hki : k + 1 = i
        · subst hki
          rw [he] at hf; cases hf
          rcases h1.2 with h2 | h2
          · omega
          · rw [show k + 1 - 1 = k from rfl, hd] at h2; exact h2
        · exact (okCh_parts hf (h (k + 1) (by omega))).2 d (by omega) hd
      have hfc : f.path.data.toList = c.path.data.toList ∨ ltP f.path.data.toList c.path.data.toList = true := by
        by_cases hki : k + 1 = i
        · subst hki
          rw [he] at hf; cases hf; exact .inl rfl
        · obtain ⟨g, hg⟩ : ∃ g, cs[i - 1]? = some g := ⟨cs[i - 1]'(by have := (List.getElem?_eq_some_iff.1 he).1; omega), List.getElem?_eq_getElem _⟩
          have h3 := ch_le h (i - 1) (k + 1) f g (by omega) (by omega) hf hg
          have h4 : g.path.data.toList = c.path.data.toList ∨ ltP g.path.data.toList c.path.data.toList = true := by
            rcases hc.2 with h5 | h5
            · omega
            · rw [hg] at h5
              simp only [Bool.or_eq_true, Bool.and_eq_true, beq_iff_eq] at h5
              rcases h5 with h5 | h5
              · exact .inr h5
              · exact .inl h5.1.1
          rcases h3 with h3 | h3 <;> rcases h4 with h4 | h4
          · exact .inl (h3.trans h4)
          · right; rw [h3]; exact h4
          · right; rw [← h4]; exact h3
          · exact .inr (ltL_trans h3 h4)
      have hfP : isP f.path.data.toList = true := by
        by_cases hki : k + 1 = i
        · subst hki
          rw [he] at hf; cases hf; exact hP
        · exact (chOk_path (okCh_parts hf (h (k + 1) (by omega))).1).1
      unfold flw at hfl
      split at hfl
      · simp only [Bool.and_eq_true, decide_eq_true_eq] at hfl
        exact hdk (.inl hfl.1)
      · simp only [Bool.and_eq_true, Bool.or_eq_true, decide_eq_true_eq, Bool.not_eq_true'] at hfl
        obtain ⟨a, u, e1⟩ := (blw_under hP).1 hb
        have h6 : ∃ b v, prt f.path.data.toList = prt d.path.data.toList ++ b :: v := ltL_convex hfl.1 (by
          rw [← e1]
          rcases hfc with h7 | h7
          · left; rw [h7]
          · right; exact h7)
        have h8 := (prefix_under hd0 hfP).2 h6
        rcases hfl.2 with h9 | h9
        · exact hdk h9
        · rw [h8] at h9; cases h9
  · intro h1
    simp only [Bool.and_eq_true, Bool.or_eq_true, decide_eq_true_eq]
    refine ⟨hc.1, ?_⟩
    rcases hc.2 with h5 | h5
    · exact .inl h5
    · by_cases h0 : i = 0
      · exact .inl h0
      · right
        obtain ⟨g, hg⟩ : ∃ g, cs[i - 1]? = some g := ⟨cs[i - 1]'(by have := (List.getElem?_eq_some_iff.1 he).1; omega), List.getElem?_eq_getElem _⟩
        rw [hg] at h5 ⊢
        simp only [Bool.or_eq_true, Bool.and_eq_true, beq_iff_eq, decide_eq_true_eq] at h5
        show flw g c = true
        unfold flw
        split
        · next e =>
          rcases h5 with h5 | h5
          · rw [e] at h5
            rw [show ltP c.path.data.toList c.path.data.toList = false from ltL_irr _] at h5
            cases h5
          · simp [h5.1.2, h5.2]
        · next e =>
          rcases h5 with h5 | h5
          · rw [h5, Bool.true_and]
            simp only [Bool.or_eq_true, decide_eq_true_eq, Bool.not_eq_true']
            by_cases hb : Lib.hasPrefix c.path.data.toList (g.path.data.toList ++ [47]) = true
            · left
              refine h1 (i - 1) g (by omega) hg ?_
              by_cases hg0 : g.path.data.toList = []
              · have := chOk_path (okCh_parts hg (h (i - 1) (by omega))).1
                rw [blw, if_pos hg0]
                simp only [bne_iff_ne, ne_eq]
                exact fun e' => e (hg0.trans e'.symm)
              · rw [blw, if_neg hg0]; exact hb
            · right; simpa using hb
          · exact absurd h5.1.1 e
end Go.Proofs.YtkeefkfklmhcjaaGreatDoor

namespace Go.Proofs.YtkeefkfklmhcjaaGreatDoor
open Go.RowKit

/-- Is it a mark? -/
def mkF (c : Ent) : Bool := decide (c.kind = 4 ∨ c.kind = 5) && decide (c.mode = 0) && c.data.data.toList == []
theorem chOk_ref (c : Ent) : chOk c = (isP c.path.data.toList && (goodE c || mkF c) && (c.path.data.toList != [] || decide (c.kind = 5))) := by
  unfold chOk mkF entOk
  by_cases hk : c.kind = 4 ∨ c.kind = 5
  · have hg : goodE c = false := by
      cases h : goodE c
      · rfl
      · have := good_kind h; omega
    rw [if_pos hk, hg]
    cases c.path.data.toList with
    | nil =>
      rcases hk with h | h
      · simp [h]
      · simp [h, Bool.and_assoc]
    | cons a l =>
      have e : (a :: l != []) = true := rfl
      simp [hk, e, Bool.and_assoc]
  · rw [if_neg hk]
    have h5 : c.kind ≠ 5 := fun h => hk (.inr h)
    cases c.path.data.toList with
    | nil => simp [h5]
    | cons a l =>
      have e : (a :: l != []) = true := rfl
      simp [hk, e]
theorem isE (s : ByteArray) : s.toList.isEmpty = (s.data.toList == []) := by rw [Lib.toList_data]; cases s.data.toList <;> rfl
theorem cmpT_eq {x y : List (List UInt8)} (h : cmpT x y = 0) : x = y := by
  unfold cmpT at h
  split at h
  · omega
  · split at h
    · assumption
    · omega
theorem cmpT_same (x : List (List UInt8)) : cmpT x x = 0 := by
  unfold cmpT
  rw [ltL_irr]; simp
theorem chain9 {w w1 : World} (h : Below w.heap.size w w1) : Below w.heap.size w w1.drew := ⟨h.os, h.tape, h.output, h.size, h.block⟩
attribute [local go_sem] setCell_drewN alloc_drewN

set_option maxHeartbeats 4000000 in
set_option maxRecDepth 100000 in
theorem barred_any (ao : Option Addr) (cap n : Nat) (cs : List Ent) (w : World) (hr : ERow w ao cs) (HN : Hid (n = cs.length)) (hn : n ≤ 4294967280) (hcap : n ≤ cap) (HS : Hid (Small cs)) :
    Calls Tryz.prog 16 #[.slice ao n cap] w fun ev w' => ∃ r : Int, ev = .returned (.int .i64 r) ∧ Hid (FirstBadC cs r) ∧ Below w.heap.size w w' := by
  go_enter Tryz.func16, Tryz.ntmps16
  go_wp2
  go_loopw [3] (fun i wr => ∃ k : Nat, k ≤ n ∧ i = .int .i64 k ∧ Below w.heap.size w wr ∧ Hid (∀ j, j < k → okCh cs j = true)) (fun i _ => n - (intOf i).toNat)
  case atStart => exact ⟨0, by omega, rfl, Below.refl _ _, hide (by intro j hj; omega)⟩
  case round =>
    obtain ⟨k, hk, rfl, hb, HK⟩ := hrel
    by_cases hlt : k < n
    · obtain ⟨c, he⟩ : ∃ c, cs[k]? = some c := ⟨cs[k]'(by have := unhide HN; omega), List.getElem?_eq_getElem (by have := unhide HN; omega)⟩
      obtain ⟨g, o, rfl, c0, c1, c2, c3⟩ := (hr.below hb) k c he
      have i0 : (0 : Int) ≤ (k : Int) := by omega
      have i1 : (k : Int) < (n : Int) := by omega
      have ikc : (0 : Int) ≤ (k : Int) ∧ (k : Int) ≤ (cap : Int) := by omega
      have hsz := unhide HS c (List.mem_of_getElem? he)
      have hs1 := hsz.1
      have hs2 := hsz.2
      have k80 := allCh_lt (unhide HK)
      have HE := hide he
      have HLen : Hid (k < cs.length) := hide (by have := unhide HN; omega)
      obtain ⟨W0, hW0⟩ : ∃ W0, W0 = wr.alloc (.cells #[.string c.path, .int .i64 c.kind, .int .i64 c.mode, .string c.data] 39) := ⟨_, rfl⟩
      have hB0w : Below wr.heap.size wr W0 := by rw [hW0]; exact (Below.refl _ _).alloc (Nat.le_refl _) _
      have hB0 := hb.trans (hB0w.mono hb.size)
      have q0 : W0.cell? ⟨wr.heap.size, 0, none⟩ = some (.string c.path) := by rw [hW0]; exact cell_of_row _ _ 0 _ _ _ (heap_alloc_new _ _)
      have q1 : W0.cell? ⟨wr.heap.size, 1, none⟩ = some (.int .i64 c.kind) := by rw [hW0]; exact cell_of_row _ _ 1 _ _ _ (heap_alloc_new _ _)
      have q2 : W0.cell? ⟨wr.heap.size, 2, none⟩ = some (.int .i64 c.mode) := by rw [hW0]; exact cell_of_row _ _ 2 _ _ _ (heap_alloc_new _ _)
      have q3 : W0.cell? ⟨wr.heap.size, 3, none⟩ = some (.string c.data) := by rw [hW0]; exact cell_of_row _ _ 3 _ _ _ (heap_alloc_new _ _)
      clear he hsz
      go_upto_region 5 with fail
      rw [← hW0]
      obtain ⟨cb, hcb⟩ : ∃ cb, cb = wr.heap.size := ⟨_, rfl⟩
      rw [← hcb] at q0 q1 q2 q3 ⊢
      clear hW0 c0 c1 c2 c3 hB0w hcb
      go_upto_region 6 with (go_at_call 27; refine (isPath_any c.path _ (by omega)).mono ?_; rintro ev w1 ⟨rfl, hb1⟩)
      have hB1 := hB0.trans (hb1.mono hB0.size)
      have q0 := cell_later hb1 q0
      have q1 := cell_later hb1 q1
      have q2 := cell_later hb1 q2
      have q3 := cell_later hb1 q3
      clear hb1
      go_upto_region 7 with (go_at_call 28; refine (good_any c (by omega) _).mono ?_; rintro ev w2 ⟨rfl, hb2⟩)
      have hB2 := hB1.trans (hb2.mono hB1.size)
      have q0 := cell_later hb2 q0
      have q1 := cell_later hb2 q1
      have q2 := cell_later hb2 q2
      have q3 := cell_later hb2 q3
      clear hb2
      go_cut [7] from 12 to 134 (fun v wx => v = .bool (mkF c) ∧ wx = w2)
      case first =>
        by_cases h4 : c.kind = 4
        · by_cases h0 : c.mode = 0
          · have R : Hid (mkF c = c.data.toList.isEmpty) := hide (by rw [mkF, isE]; simp [h4, h0])
            rw [h4] at q1
            rw [h0] at q2
            go_wp2_with fail
            go_meet
            exact ⟨congrArg Value.bool (unhide R).symm, rfl⟩
          · have R : Hid (mkF c = false) := hide (by rw [mkF]; simp [h0])
            have h0' : (c.mode == 0) = false := by simp [h0]
            rw [h4] at q1
            go_wp2_with fail
            go_meet
            exact ⟨congrArg Value.bool (unhide R).symm, rfl⟩
        · have h4' : (c.kind == 4) = false := by simp [h4]
          by_cases h5 : c.kind = 5
          · by_cases h0 : c.mode = 0
            · have R : Hid (mkF c = c.data.toList.isEmpty) := hide (by rw [mkF, isE]; simp [h5, h0])
              rw [h5] at q1
              rw [h0] at q2
              go_wp2_with fail
              go_meet
              exact ⟨congrArg Value.bool (unhide R).symm, rfl⟩
            · have R : Hid (mkF c = false) := hide (by rw [mkF]; simp [h0])
              have h0' : (c.mode == 0) = false := by simp [h0]
              rw [h5] at q1
              go_wp2_with fail
              go_meet
              exact ⟨congrArg Value.bool (unhide R).symm, rfl⟩
          · have R : Hid (mkF c = false) := hide (by rw [mkF]; simp [h4, h5])
            have h5' : (c.kind == 5) = false := by simp [h5]
            go_wp2_with fail
            go_meet
            exact ⟨congrArg Value.bool (unhide R).symm, rfl⟩
      case rest =>
        obtain ⟨rfl, rfl⟩ := hcut
        go_upto_region 8 with fail
        obtain ⟨bP, hbP⟩ : ∃ b, b = isP c.path.data.toList := ⟨_, rfl⟩
        obtain ⟨bG, hbG⟩ : ∃ b, b = goodE c := ⟨_, rfl⟩
        obtain ⟨bK, hbK⟩ : ∃ b, b = mkF c := ⟨_, rfl⟩
        rw [← hbP, ← hbG, ← hbK]
        have HbP := hide hbP
        have HbG := hide hbG
        have HbK := hide hbK
        clear hbP hbG hbK
        go_cut [68] from 12 to 134 (fun v wx => v = .bool (!(decide (k < 80) && chOk c)) ∧ wx = wc)
        case first =>
          by_cases k4 : k = 80
          · have k5 : (k : Int) = 80 := by omega
            have R : Hid ((!(decide (k < 80) && chOk c)) = true) := hide (by rw [k4]; rfl)
            clear k4
            go_wp2_with fail
            go_meet
            exact ⟨congrArg Value.bool (unhide R).symm, rfl⟩
          · have k5 : ((k : Int) == 80) = false := by simp; omega
            have k6 : ¬ (k : Int) = 80 := by omega
            have R0 : Hid ((!(decide (k < 80) && chOk c)) = !(isP c.path.data.toList && (goodE c || mkF c) && (c.path.data.toList != [] || decide (c.kind = 5)))) := hide (by rw [chOk_ref, show decide (k < 80) = true from decide_eq_true (by omega), Bool.true_and])
            cases bP
            · have R : Hid ((!(decide (k < 80) && chOk c)) = true) := hide (by rw [unhide R0, ← unhide HbP]; rfl)
              go_wp2_with fail
              go_meet
              exact ⟨congrArg Value.bool (unhide R).symm, rfl⟩
            · cases bG
              · cases bK
                · have R : Hid ((!(decide (k < 80) && chOk c)) = true) := hide (by rw [unhide R0, ← unhide HbP, ← unhide HbG, ← unhide HbK]; rfl)
                  go_wp2_with fail
                  go_meet
                  exact ⟨congrArg Value.bool (unhide R).symm, rfl⟩
                · have R1 : Hid ((!(decide (k < 80) && chOk c)) = !(c.path.data.toList != [] || decide (c.kind = 5))) := hide (by rw [unhide R0, ← unhide HbP, ← unhide HbG, ← unhide HbK]; rfl)
                  by_cases p0 : c.path.data.toList = []
                  · have g1 : c.path.toList.isEmpty = true := by rw [Lib.toList_data, p0]; rfl
                    have R : Hid ((!(decide (k < 80) && chOk c)) = (c.kind != 5)) := hide (by
                      rw [unhide R1, p0]
                      by_cases h : c.kind = 5 <;> simp [h])
                    clear p0
                    go_wp2_with fail
                    go_meet
                    exact ⟨congrArg Value.bool (unhide R).symm, rfl⟩
                  · have g1 : c.path.toList.isEmpty = false := by rw [Lib.toList_data]; simpa using p0
                    have R : Hid ((!(decide (k < 80) && chOk c)) = false) := hide (by
                      have e : (c.path.data.toList != []) = true := by simpa using p0
                      rw [unhide R1, e]; rfl)
                    clear p0
                    go_wp2_with fail
                    go_meet
                    exact ⟨congrArg Value.bool (unhide R).symm, rfl⟩
              · have R1 : Hid ((!(decide (k < 80) && chOk c)) = !(c.path.data.toList != [] || decide (c.kind = 5))) := hide (by rw [unhide R0, ← unhide HbP, ← unhide HbG]; rfl)
                by_cases p0 : c.path.data.toList = []
                · have g1 : c.path.toList.isEmpty = true := by rw [Lib.toList_data, p0]; rfl
                  have R : Hid ((!(decide (k < 80) && chOk c)) = (c.kind != 5)) := hide (by
                    rw [unhide R1, p0]
                    by_cases h : c.kind = 5 <;> simp [h])
                  clear p0
                  go_wp2_with fail
                  go_meet
                  exact ⟨congrArg Value.bool (unhide R).symm, rfl⟩
                · have g1 : c.path.toList.isEmpty = false := by rw [Lib.toList_data]; simpa using p0
                  have R : Hid ((!(decide (k < 80) && chOk c)) = false) := hide (by
                    have e : (c.path.data.toList != []) = true := by simpa using p0
                    rw [unhide R1, e]; rfl)
                  clear p0
                  go_wp2_with fail
                  go_meet
                  exact ⟨congrArg Value.bool (unhide R).symm, rfl⟩
        case rest =>
          obtain ⟨rfl, hw8⟩ := hcut
          obtain rfl := hw8.symm
          have HO := hide (okCh_eq (unhide HE))
          cases hBad : (decide (k < 80) && chOk c)
          · have C : Hid (okCh cs k = false) := hide (by rw [unhide HO, hBad]; rfl)
            clear HO
            go_wp2_with fail
            go_ret
            exact ⟨k, rfl, hide (.inr ⟨k, rfl, unhide HLen, unhide C, unhide HK⟩), hB2⟩
          · have HBd := hide hBad
            clear hBad
            by_cases kz : k = 0
            · subst kz
              have HRC : Hid (refCh cs 0 c = true) := hide (by rw [refCh, unhide HBd]; rfl)
              have hB3 := hB2
              have X0 := hide q0
              clear HO
              go_wp2_with fail
              go_loopw [10] (fun v wi => ∃ j : Nat, j ≤ 0 ∧ v = .int .i64 j ∧ Below wc.heap.size wc wi ∧ Hid (∀ q d, q < j → cs[q]? = some d → blw c.path.data.toList d.path.data.toList = true → d.kind = 1 ∨ d.kind = 5)) (fun v _ => 0 - (intOf v).toNat)
              case atStart => exact ⟨0, by omega, rfl, Below.refl _ _, hide (by intro q d hq; omega)⟩
              case round =>
                obtain ⟨j, hj, rfl, hbi, HJ⟩ := hrel
                have hBi := hB3.trans (hbi.mono hB3.size)
                by_cases hjk : j < 0
                · exact absurd hjk (by omega)
                · have C : Hid (okCh cs 0 = true) := hide ((last_tells (unhide HK) (unhide HE) (unhide HRC)).2 fun q d hq hd hb => unhide HJ q d (by omega) hd hb)
                  go_wp2_with fail
                  go_roundw
                  case rel =>
                    have R : ∀ j, j < 0 + 1 → okCh cs j = true := fun j hj => by
                      rcases Nat.lt_or_ge j 0 with h | h
                      · exact unhide HK j h
                      · have e9 : j = 0 := by omega
                        rw [e9]; exact unhide C
                    first
                      | exact ⟨0 + 1, by omega, by go_num, hBi, hide R⟩
                      | ((repeat apply Exists.intro); exact ⟨⟨0 + 1, by omega, by go_num, hBi, hide R⟩, rfl⟩)
                  case measure => simp [intOf]; omega
            · obtain ⟨q, hq⟩ : ∃ q, q + 1 = k := ⟨k - 1, by omega⟩
              obtain ⟨d, hd⟩ : ∃ d, cs[q]? = some d := ⟨cs[q]'(by have := unhide HN; omega), List.getElem?_eq_getElem (by have := unhide HN; omega)⟩
              obtain ⟨g', o', hgo, d0, d1, _⟩ := (hr.below hB2) q d hd
              cases hgo
              have hsd := (unhide HS d (List.mem_of_getElem? hd)).1
              have hw : IntKind.i64.wrap ((k : Int) - 1) = (q : Int) := by rw [show (k : Int) - 1 = (q : Int) from by omega]; exact wrap_i64 _ (by omega)
              have p0 : (0 : Int) ≤ (q : Int) := by omega
              have p1 : (q : Int) < (n : Int) := by omega
              have p2 : (0 : Int) < (k : Int) := by omega
              have HO2 : Hid (okCh cs k = flw d c) := hide (by
                rw [unhide HO, unhide HBd, show k - 1 = q from by omega, hd]
                simp [kz])
              have HR0 : Hid (refCh cs k c = (ltP d.path.data.toList c.path.data.toList || (d.path.data.toList == c.path.data.toList && decide (d.kind = 1) && decide (c.kind = 5)))) := hide (by
                rw [refCh, unhide HBd, show k - 1 = q from by omega, hd]
                simp [kz])
              clear hd HO hq
              go_upto_region 11 with fail
              go_region_held3 (fun w' => w'.cell? ⟨g, o + q * 4, none⟩ = some (.string d.path) ∧ w'.cell? ⟨cb, 0, none⟩ = some (.string c.path)) (first | exact ⟨d0, q0⟩ | exact ⟨cell_later (chain0 hb3) d0, cell_later (chain0 hb3) q0⟩ | go_keep)
                (first | (go_at_call 29; refine (order_any d.path c.path _ ?_ ?_).mono ?_; omega; omega; rintro ev w3 ⟨r, rfl, hrl, hre, hb3⟩))
              have hB3 := hB2.trans (Below.mono (B' := w.heap.size) (chain0 hb3) hB2.size)
              have d1 := cell_later (chain0 hb3) d1
              have X0 := hide (cell_later (chain0 hb3) q0)
              have q1 := cell_later (chain0 hb3) q1
              have HRl := hide hrl
              have HRe : Hid (r = 0 ↔ d.path.data.toList = c.path.data.toList) := hide (hre.trans ⟨fun h => prt_inj (cmpT_eq h), fun h => by rw [h]; exact cmpT_same _⟩)
              clear hrl hre hb3 q0 d0 q2 q3
              go_upto_region 12 with fail
              go_cut [9] from 12 to 134 (fun v wx => v = .bool (decide (r = 0) && decide (d.kind = 1) && decide (c.kind = 5)) ∧ wx = w3)
              case first =>
                by_cases r0 : r = 0
                · have r1 : (r == 0) = true := by simp [r0]
                  by_cases h1 : d.kind = 1
                  · have R : Hid ((decide (r = 0) && decide (d.kind = 1) && decide (c.kind = 5)) = (c.kind == 5)) := hide (by
                      rw [decide_eq_true r0, decide_eq_true h1]
                      by_cases h5 : c.kind = 5 <;> simp [h5])
                    have h1' : (d.kind == 1) = true := by simp [h1]
                    clear r0 h1
                    go_wp2_with fail
                    go_meet
                    exact ⟨congrArg Value.bool (unhide R).symm, rfl⟩
                  · have R : Hid ((decide (r = 0) && decide (d.kind = 1) && decide (c.kind = 5)) = false) := hide (by simp [h1])
                    have h1' : (d.kind == 1) = false := by simp [h1]
                    clear r0
                    go_wp2_with fail
                    go_meet
                    exact ⟨congrArg Value.bool (unhide R).symm, rfl⟩
                · have R : Hid ((decide (r = 0) && decide (d.kind = 1) && decide (c.kind = 5)) = false) := hide (by simp [r0])
                  have r1 : (r == 0) = false := by simp [r0]
                  go_wp2_with fail
                  go_meet
                  exact ⟨congrArg Value.bool (unhide R).symm, rfl⟩
              case rest =>
                obtain ⟨rfl, hw9⟩ := hcut
                obtain rfl := hw9.symm
                obtain ⟨tw, htw⟩ : ∃ tw, tw = (decide (r = 0) && decide (d.kind = 1) && decide (c.kind = 5)) := ⟨_, rfl⟩
                rw [← htw]
                have HTw := hide htw
                clear htw
                by_cases rn : r < 0
                · have HRC : Hid (refCh cs k c = true) := hide (by rw [unhide HR0, show ltP d.path.data.toList c.path.data.toList = true from (unhide HRl).1 rn]; rfl)
                  have rn2 : ¬ 0 ≤ r := by omega
                  clear HTw
                  go_wp2_with fail
                  go_loopw [10] (fun v wi => ∃ j : Nat, j ≤ k ∧ v = .int .i64 j ∧ Below w3.heap.size w3 wi ∧ Hid (∀ q d, q < j → cs[q]? = some d → blw c.path.data.toList d.path.data.toList = true → d.kind = 1 ∨ d.kind = 5)) (fun v _ => k - (intOf v).toNat)
                  case atStart => exact ⟨0, by omega, rfl, Below.refl _ _, hide (by intro q d hq; omega)⟩
                  case round =>
                    obtain ⟨j, hj, rfl, hbi, HJ⟩ := hrel
                    have hBi := hB3.trans (hbi.mono hB3.size)
                    by_cases hjk : j < k
                    · obtain ⟨d, hd⟩ : ∃ d, cs[j]? = some d := ⟨cs[j]'(by have := unhide HLen; omega), List.getElem?_eq_getElem (by have := unhide HLen; omega)⟩
                      obtain ⟨g', o', hgo, d0, d1, _⟩ := (hr.below hBi) j d hd
                      cases hgo
                      have hsd := (unhide HS d (List.mem_of_getElem? hd)).1
                      have HD := hide hd
                      have b0 := cell_later hbi (unhide X0)
                      have j0 : (0 : Int) ≤ (j : Int) := by omega
                      have j1 : (j : Int) < (n : Int) := by omega
                      have j2 : (j : Int) < ((k : Nat) : Int) := by omega
                      clear hd
                      go_upto_region 18 with fail
                      go_region_held3 (fun w' => w'.cell? ⟨g, o + j * 4, none⟩ = some (.string d.path) ∧ w'.cell? ⟨g, o + j * 4 + 1, none⟩ = some (.int .i64 d.kind) ∧ w'.cell? ⟨cb, 0, none⟩ = some (.string c.path)) (first | exact ⟨d0, d1, b0⟩ | go_keep)
                        (first | (go_at_call 37; refine (refBelow_any c.path d.path _ (by omega)).mono ?_; rintro ev w7 ⟨rfl, hw⟩; obtain rfl := hw.symm))
                      cases hbl : blw c.path.data.toList d.path.data.toList
                      · have HJ2 : Hid (∀ q d, q < j + 1 → cs[q]? = some d → blw c.path.data.toList d.path.data.toList = true → d.kind = 1 ∨ d.kind = 5) := hide (fun q e hq he hb => by
                          rcases Nat.lt_or_ge q j with h | h
                          · exact unhide HJ q e h he hb
                          · have e9 : q = j := by omega
                            rw [e9, unhide HD] at he; cases he
                            rw [hbl] at hb; cases hb)
                        clear hbl
                        go_wp2_with fail
                        go_roundw
                        case rel =>
                          first
                            | exact ⟨j + 1, by omega, by go_num, chain9 hbi, HJ2⟩
                            | ((repeat apply Exists.intro); exact ⟨⟨j + 1, by omega, by go_num, chain9 hbi, HJ2⟩, rfl⟩)
                        case measure => simp [intOf]; omega
                      · by_cases hk15 : d.kind = 1 ∨ d.kind = 5
                        · have HJ2 : Hid (∀ q d, q < j + 1 → cs[q]? = some d → blw c.path.data.toList d.path.data.toList = true → d.kind = 1 ∨ d.kind = 5) := hide (fun q e hq he hb => by
                            rcases Nat.lt_or_ge q j with h | h
                            · exact unhide HJ q e h he hb
                            · have e9 : q = j := by omega
                              rw [e9, unhide HD] at he; cases he
                              exact hk15)
                          clear hbl
                          rcases hk15 with h1 | h5
                          · rw [h1] at d1
                            go_wp2_with fail
                            go_roundw
                            case rel =>
                              first
                                | exact ⟨j + 1, by omega, by go_num, chain9 hbi, HJ2⟩
                                | ((repeat apply Exists.intro); exact ⟨⟨j + 1, by omega, by go_num, chain9 hbi, HJ2⟩, rfl⟩)
                            case measure => simp [intOf]; omega
                          · rw [h5] at d1
                            go_wp2_with fail
                            go_roundw
                            case rel =>
                              first
                                | exact ⟨j + 1, by omega, by go_num, chain9 hbi, HJ2⟩
                                | ((repeat apply Exists.intro); exact ⟨⟨j + 1, by omega, by go_num, chain9 hbi, HJ2⟩, rfl⟩)
                            case measure => simp [intOf]; omega
                        · have h1 : ¬ d.kind = 1 := fun h => hk15 (.inl h)
                          have h5 : ¬ d.kind = 5 := fun h => hk15 (.inr h)
                          have h1' : (d.kind == 1) = false := by simp [h1]
                          have h5' : (d.kind == 5) = false := by simp [h5]
                          have h1n : (d.kind != 1) = true := by simp [h1]
                          have h5n : (d.kind != 5) = true := by simp [h5]
                          have C : Hid (okCh cs k = false) := hide (by
                            cases h : okCh cs k
                            · rfl
                            · exact absurd ((last_tells (unhide HK) (unhide HE) (unhide HRC)).1 h j d hjk (unhide HD) hbl) hk15)
                          clear hbl hk15
                          go_wp2_with fail
                          go_ret
                          exact ⟨_, rfl, hide (.inr ⟨k, rfl, unhide HLen, unhide C, unhide HK⟩), hB3.trans (Below.mono (B' := w.heap.size) (chain9 hbi) hB3.size)⟩
                    · have C : Hid (okCh cs k = true) := hide ((last_tells (unhide HK) (unhide HE) (unhide HRC)).2 fun q d hq hd hb => unhide HJ q d (by omega) hd hb)
                      go_wp2_with fail
                      go_roundw
                      case rel =>
                        have R : ∀ j, j < k + 1 → okCh cs j = true := fun j hj => by
                          rcases Nat.lt_or_ge j k with h | h
                          · exact unhide HK j h
                          · have e9 : j = k := by omega
                            rw [e9]; exact unhide C
                        first
                          | exact ⟨k + 1, by omega, by go_num, hBi, hide R⟩
                          | ((repeat apply Exists.intro); exact ⟨⟨k + 1, by omega, by go_num, hBi, hide R⟩, rfl⟩)
                      case measure => simp [intOf]; omega
                · have rn2 : 0 ≤ r := by omega
                  have hlt0 : ltP d.path.data.toList c.path.data.toList = false := by
                    cases h : ltP d.path.data.toList c.path.data.toList
                    · rfl
                    · exact absurd ((unhide HRl).2 h) rn
                  cases tw
                  · have C : Hid (okCh cs k = false) := hide (by
                      rw [unhide HO2, flw]
                      split
                      · next e =>
                        have e2 := unhide HTw
                        rw [decide_eq_true ((unhide HRe).2 e), Bool.true_and] at e2
                        exact e2.symm
                      · rw [hlt0]; rfl)
                    clear hlt0
                    go_wp2_with fail
                    go_ret
                    exact ⟨_, rfl, hide (.inr ⟨k, rfl, unhide HLen, unhide C, unhide HK⟩), hB3⟩
                  · have HRC : Hid (refCh cs k c = true) := hide (by
                      have e2 := (unhide HTw).symm
                      simp only [Bool.and_eq_true, decide_eq_true_eq] at e2
                      rw [unhide HR0, (unhide HRe).1 e2.1.1]
                      simp [e2.1.2, e2.2])
                    clear hlt0
                    go_wp2_with fail
                    go_loopw [10] (fun v wi => ∃ j : Nat, j ≤ k ∧ v = .int .i64 j ∧ Below w3.heap.size w3 wi ∧ Hid (∀ q d, q < j → cs[q]? = some d → blw c.path.data.toList d.path.data.toList = true → d.kind = 1 ∨ d.kind = 5)) (fun v _ => k - (intOf v).toNat)
                    case atStart => exact ⟨0, by omega, rfl, Below.refl _ _, hide (by intro q d hq; omega)⟩
                    case round =>
                      obtain ⟨j, hj, rfl, hbi, HJ⟩ := hrel
                      have hBi := hB3.trans (hbi.mono hB3.size)
                      by_cases hjk : j < k
                      · obtain ⟨d, hd⟩ : ∃ d, cs[j]? = some d := ⟨cs[j]'(by have := unhide HLen; omega), List.getElem?_eq_getElem (by have := unhide HLen; omega)⟩
                        obtain ⟨g', o', hgo, d0, d1, _⟩ := (hr.below hBi) j d hd
                        cases hgo
                        have hsd := (unhide HS d (List.mem_of_getElem? hd)).1
                        have HD := hide hd
                        have b0 := cell_later hbi (unhide X0)
                        have j0 : (0 : Int) ≤ (j : Int) := by omega
                        have j1 : (j : Int) < (n : Int) := by omega
                        have j2 : (j : Int) < ((k : Nat) : Int) := by omega
                        clear hd
                        go_upto_region 18 with fail
                        go_region_held3 (fun w' => w'.cell? ⟨g, o + j * 4, none⟩ = some (.string d.path) ∧ w'.cell? ⟨g, o + j * 4 + 1, none⟩ = some (.int .i64 d.kind) ∧ w'.cell? ⟨cb, 0, none⟩ = some (.string c.path)) (first | exact ⟨d0, d1, b0⟩ | go_keep)
                          (first | (go_at_call 37; refine (refBelow_any c.path d.path _ (by omega)).mono ?_; rintro ev w7 ⟨rfl, hw⟩; obtain rfl := hw.symm))
                        cases hbl : blw c.path.data.toList d.path.data.toList
                        · have HJ2 : Hid (∀ q d, q < j + 1 → cs[q]? = some d → blw c.path.data.toList d.path.data.toList = true → d.kind = 1 ∨ d.kind = 5) := hide (fun q e hq he hb => by
                            rcases Nat.lt_or_ge q j with h | h
                            · exact unhide HJ q e h he hb
                            · have e9 : q = j := by omega
                              rw [e9, unhide HD] at he; cases he
                              rw [hbl] at hb; cases hb)
                          clear hbl
                          go_wp2_with fail
                          go_roundw
                          case rel =>
                            first
                              | exact ⟨j + 1, by omega, by go_num, chain9 hbi, HJ2⟩
                              | ((repeat apply Exists.intro); exact ⟨⟨j + 1, by omega, by go_num, chain9 hbi, HJ2⟩, rfl⟩)
                          case measure => simp [intOf]; omega
                        · by_cases hk15 : d.kind = 1 ∨ d.kind = 5
                          · have HJ2 : Hid (∀ q d, q < j + 1 → cs[q]? = some d → blw c.path.data.toList d.path.data.toList = true → d.kind = 1 ∨ d.kind = 5) := hide (fun q e hq he hb => by
                              rcases Nat.lt_or_ge q j with h | h
                              · exact unhide HJ q e h he hb
                              · have e9 : q = j := by omega
                                rw [e9, unhide HD] at he; cases he
                                exact hk15)
                            clear hbl
                            rcases hk15 with h1 | h5
                            · rw [h1] at d1
                              go_wp2_with fail
                              go_roundw
                              case rel =>
                                first
                                  | exact ⟨j + 1, by omega, by go_num, chain9 hbi, HJ2⟩
                                  | ((repeat apply Exists.intro); exact ⟨⟨j + 1, by omega, by go_num, chain9 hbi, HJ2⟩, rfl⟩)
                              case measure => simp [intOf]; omega
                            · rw [h5] at d1
                              go_wp2_with fail
                              go_roundw
                              case rel =>
                                first
                                  | exact ⟨j + 1, by omega, by go_num, chain9 hbi, HJ2⟩
                                  | ((repeat apply Exists.intro); exact ⟨⟨j + 1, by omega, by go_num, chain9 hbi, HJ2⟩, rfl⟩)
                              case measure => simp [intOf]; omega
                          · have h1 : ¬ d.kind = 1 := fun h => hk15 (.inl h)
                            have h5 : ¬ d.kind = 5 := fun h => hk15 (.inr h)
                            have h1' : (d.kind == 1) = false := by simp [h1]
                            have h5' : (d.kind == 5) = false := by simp [h5]
                            have h1n : (d.kind != 1) = true := by simp [h1]
                            have h5n : (d.kind != 5) = true := by simp [h5]
                            have C : Hid (okCh cs k = false) := hide (by
                              cases h : okCh cs k
                              · rfl
                              · exact absurd ((last_tells (unhide HK) (unhide HE) (unhide HRC)).1 h j d hjk (unhide HD) hbl) hk15)
                            clear hbl hk15
                            go_wp2_with fail
                            go_ret
                            exact ⟨_, rfl, hide (.inr ⟨k, rfl, unhide HLen, unhide C, unhide HK⟩), hB3.trans (Below.mono (B' := w.heap.size) (chain9 hbi) hB3.size)⟩
                      · have C : Hid (okCh cs k = true) := hide ((last_tells (unhide HK) (unhide HE) (unhide HRC)).2 fun q d hq hd hb => unhide HJ q d (by omega) hd hb)
                        go_wp2_with fail
                        go_roundw
                        case rel =>
                          have R : ∀ j, j < k + 1 → okCh cs j = true := fun j hj => by
                            rcases Nat.lt_or_ge j k with h | h
                            · exact unhide HK j h
                            · have e9 : j = k := by omega
                              rw [e9]; exact unhide C
                          first
                            | exact ⟨k + 1, by omega, by go_num, hBi, hide R⟩
                            | ((repeat apply Exists.intro); exact ⟨⟨k + 1, by omega, by go_num, hBi, hide R⟩, rfl⟩)
                        case measure => simp [intOf]; omega
    · have HF : Hid (FirstBadC cs (-1)) := hide (.inl ⟨rfl, fun i hi => unhide HK i (by have := unhide HN; omega)⟩)
      go_wp2_with fail
      go_ret
      exact ⟨-1, rfl, HF, hb⟩
end Go.Proofs.YtkeefkfklmhcjaaGreatDoor
