import Derived.Test.YtkeefkfklmhcjaaGreatDoorInA
import Derived.Test.YtkeefkfklmhcjaaGreatDoorPure
namespace Go.Proofs.YtkeefkfklmhcjaaGreatDoor
open Go.RowKit Go.Maps Go.Sort

theorem bl_total {a b : List UInt8} : Op.bytesLess a b = false → Op.bytesLess b a = false → a = b := by
  induction a generalizing b with
  | nil =>
    cases b with
    | nil => intros; rfl
    | cons y b => intro h; simp [Op.bytesLess] at h
  | cons x a ih =>
    cases b with
    | nil => intro _ h; simp [Op.bytesLess] at h
    | cons y b =>
      intro h1 h2
      simp only [Op.bytesLess, Bool.or_eq_false_iff, decide_eq_false_iff_not, Bool.and_eq_false_iff, beq_eq_false_iff_ne] at h1 h2
      have e : x = y := UInt8.le_antisymm (UInt8.not_lt.1 h2.1) (UInt8.not_lt.1 h1.1)
      subst e
      rcases h1.2 with h | h
      · exact absurd rfl h
      · rcases h2.2 with h' | h'
        · exact absurd rfl h'
        · rw [ih h h']
theorem ltL_total {x y : List (List UInt8)} : ltL x y = false → ltL y x = false → x = y := by
  induction x generalizing y with
  | nil =>
    cases y with
    | nil => intros; rfl
    | cons b y => intro h; simp [ltL] at h
  | cons a x ih =>
    cases y with
    | nil => intro _ h; simp [ltL] at h
    | cons b y =>
      intro h1 h2
      simp only [ltL, Bool.or_eq_false_iff, Bool.and_eq_false_iff, beq_eq_false_iff_ne] at h1 h2
      have e := bl_total h1.1 h2.1
      subst e
      rcases h1.2 with h | h
      · exact absurd rfl h
      · rcases h2.2 with h' | h'
        · exact absurd rfl h'
        · rw [ih h h']
/-- Tree order of paths. -/
def ltP (x y : List UInt8) : Bool := ltL (prt x) (prt y)
theorem totP : Tot ltP := ⟨fun _ => ltL_irr _, fun h1 h2 => ltL_trans h1 h2, fun h1 h2 => prt_inj (ltL_total h1 h2)⟩
theorem ltL_parted (x u v : List (List UInt8)) {a b : List UInt8} (h : Op.bytesLess a b = true) : ltL (x ++ a :: u) (x ++ b :: v) = true := by
  induction x with
  | nil => simp [ltL, h]
  | cons c r ih => simp [ltL, ih]
theorem ltL_more (x u : List (List UInt8)) (a : List UInt8) : ltL x (x ++ a :: u) = true := by
  induction x with
  | nil => rfl
  | cons c r ih => simp [ltL, ih]
/-- Stands a path below another one? -/
def under (p q : List UInt8) : Prop := ∃ a u, prt q = prt p ++ a :: u
theorem under_kid {ns : List Nd} (hO : OkTo (entsN ns) ns.length) {p : List UInt8} {y : Nd} (hy : y ∈ ns) : under p y.p ↔ ∃ k ∈ kidsX ns p, y = k ∨ under k.p y.p := by
  constructor
  · rintro ⟨a, u, e⟩
    obtain ⟨kz, hkz, _, hez⟩ := nd_at hy
    obtain ⟨qa, ae, hqa, hae, hpa⟩ := ancestor hO (by simp [entsN]) kz y.ent ((prt p).length + 1) hkz hez (by omega) (by show _ ≤ (prt y.p).length; rw [e]; simp)
    obtain ⟨k, hk, rfl⟩ := nd_get hae
    have e2 : prt k.p = prt p ++ [a] := by
      show prt k.ent.path.data.toList = _
      rw [hpa]
      show (prt y.p).take _ = _
      rw [e, List.take_append, List.take_of_length_le (by omega), show (prt p).length + 1 - (prt p).length = 1 from by omega]
      rfl
    have hup := nd_up hO hk
    rw [e2] at hup
    have h3 := List.append_inj' hup rfl
    refine ⟨k, ?_, ?_⟩
    · rw [kidsX, List.mem_filter]
      exact ⟨hk, by simpa using (prt_inj h3.1).symm⟩
    · cases u with
      | nil =>
        left
        obtain ⟨kk, hkk, h5, hek⟩ := nd_at hk
        obtain ⟨ky, hky, h6, hey⟩ := nd_at hy
        have e6 : k.p = y.p := prt_inj (by rw [e2, e])
        have := path_inj hO hkk hky hek hey e6
        subst this
        rw [h5] at h6
        cases h6
        rfl
      | cons b u => exact .inr ⟨b, u, by rw [e, e2]; simp⟩
  · rintro ⟨k, hk, h⟩
    have hk' := kidsX_mem hk
    have hup := nd_up hO hk'.1
    rw [hk'.2] at hup
    rcases h with rfl | ⟨a, u, e⟩
    · exact ⟨nameOf y.p, [], hup⟩
    · exact ⟨nameOf k.p, a :: u, by rw [e, hup]; simp⟩
/-- A node and all below it, so deep, in tree order. -/
def preX (ns : List Nd) : Nat → Nd → List Nd
  | 0, _ => []
  | f + 1, x => x :: ((kidsX ns x.p).map (preX ns f)).flatten
def underB (p q : List UInt8) : Bool := (prt p).isPrefixOf (prt q) && decide ((prt p).length < (prt q).length)
theorem underB_iff {p q : List UInt8} : underB p q = true ↔ under p q := by
  rw [underB, Bool.and_eq_true, List.isPrefixOf_iff_prefix, decide_eq_true_iff]
  constructor
  · rintro ⟨⟨t, e⟩, h⟩
    cases t with
    | nil => rw [List.append_nil] at e; rw [e] at h; omega
    | cons a u => exact ⟨a, u, e.symm⟩
  · rintro ⟨a, u, e⟩
    exact ⟨⟨a :: u, e.symm⟩, by rw [e]; simp⟩
def downX (ns : List Nd) (p : List UInt8) : List Nd := ns.filter fun y => underB p y.p
theorem downX_mem {ns : List Nd} {p : List UInt8} {y : Nd} : y ∈ downX ns p ↔ y ∈ ns ∧ under p y.p := by
  rw [downX, List.mem_filter, underB_iff]
theorem ndLt_one {ns : List Nd} (hO : OkTo (entsN ns) ns.length) : ∀ {l m : List Nd}, l.Pairwise (fun x y => ltP x.p y.p = true) → m.Pairwise (fun x y => ltP x.p y.p = true) → (∀ x ∈ l, x ∈ ns) → (∀ x ∈ m, x ∈ ns) → (∀ x, x ∈ l ↔ x ∈ m) → l = m := by
  intro l m h1 h2 h3 h4 h5
  have e : l.map Nd.p = m.map Nd.p := rising_one totP (List.pairwise_map.2 h1) (List.pairwise_map.2 h2) fun q => by
    simp only [List.mem_map, h5]
  have hl : l.length = m.length := by simpa using congrArg List.length e
  refine List.ext_getElem hl fun i hi hj => ?_
  have e2 : (l[i]).p = (m[i]).p := by
    have := congrArg (fun t : List (List UInt8) => t[i]?) e
    simpa [hi, hj] using this
  obtain ⟨ka, ha, h6, hea⟩ := nd_at (h3 _ (List.getElem_mem hi))
  obtain ⟨kb, hb, h7, heb⟩ := nd_at (h4 _ (List.getElem_mem hj))
  have := path_inj hO ha hb hea heb e2
  subst this
  rw [h6] at h7
  exact Option.some.inj h7
theorem down_kids {ns : List Nd} (hO : OkTo (entsN ns) ns.length) (p : List UInt8) : ((kidsX ns p).map fun k => k :: downX ns k.p).flatten = downX ns p := by
  have hsub : ∀ q, ∀ x ∈ downX ns q, x ∈ ns := fun q x hx => (downX_mem.1 hx).1
  have hord : ∀ q, (downX ns q).Pairwise fun x y => ltP x.p y.p = true := fun q => (ns_ord hO).filter _
  refine ndLt_one hO ?_ (hord p) ?_ (hsub p) ?_
  · rw [List.pairwise_flatten]
    constructor
    · intro l hl
      obtain ⟨k, hk, rfl⟩ := List.mem_map.1 hl
      rw [List.pairwise_cons]
      refine ⟨fun y hy => ?_, hord _⟩
      obtain ⟨_, a, u, e⟩ := downX_mem.1 hy
      show ltL _ _ = true
      rw [e]; exact ltL_more _ _ _
    · rw [List.pairwise_map]
      refine List.Pairwise.imp_of_mem (fun {k1 k2} h1 h2 hl => ?_) (kids_ord hO p)
      intro x hx y hy
      have hk1 := kidsX_mem h1
      have hk2 := kidsX_mem h2
      have u1 := nd_up hO hk1.1
      have u2 := nd_up hO hk2.1
      rw [hk1.2] at u1
      rw [hk2.2] at u2
      have fx : ∀ {k z : Nd}, z ∈ k :: downX ns k.p → ∃ u, prt z.p = prt k.p ++ u := fun {k z} hz => by
        rcases List.mem_cons.1 hz with rfl | hz
        · exact ⟨[], by simp⟩
        · obtain ⟨_, a, u, e⟩ := downX_mem.1 hz
          exact ⟨a :: u, e⟩
      obtain ⟨u, eu⟩ := fx hx
      obtain ⟨v, ev⟩ := fx hy
      show ltL _ _ = true
      rw [eu, ev, u1, u2, List.append_assoc, List.append_assoc]
      exact ltL_parted _ _ _ hl
  · intro x hx
    obtain ⟨l, hl, hx⟩ := List.mem_flatten.1 hx
    obtain ⟨k, hk, rfl⟩ := List.mem_map.1 hl
    rcases List.mem_cons.1 hx with rfl | hx
    · exact (kidsX_mem hk).1
    · exact hsub _ x hx
  · intro x
    constructor
    · intro hx
      obtain ⟨l, hl, hx⟩ := List.mem_flatten.1 hx
      obtain ⟨k, hk, rfl⟩ := List.mem_map.1 hl
      have hxn : x ∈ ns := by
        rcases List.mem_cons.1 hx with rfl | hx
        · exact (kidsX_mem hk).1
        · exact hsub _ x hx
      refine downX_mem.2 ⟨hxn, (under_kid hO hxn).2 ⟨k, hk, ?_⟩⟩
      rcases List.mem_cons.1 hx with rfl | hx
      · exact .inl rfl
      · exact .inr (downX_mem.1 hx).2
    · intro hx
      obtain ⟨hxn, hu⟩ := downX_mem.1 hx
      obtain ⟨k, hk, h⟩ := (under_kid hO hxn).1 hu
      refine List.mem_flatten.2 ⟨k :: downX ns k.p, List.mem_map.2 ⟨k, hk, rfl⟩, ?_⟩
      rcases h with rfl | h
      · simp
      · exact List.mem_cons_of_mem _ (downX_mem.2 ⟨hxn, h⟩)
theorem pre_down {es : List Ent} {ns : List Nd} (hE : entsN ns = es) (hO : OkTo es es.length) : ∀ (f : Nat) (x : Nd), Deep es f x.ent → preX ns f x = x :: downX ns x.p
  | 0, x, h => absurd rfl (deep_pos h)
  | f + 1, x, h => by
    have hlen : ns.length = es.length := by rw [← hE]; simp [entsN]
    have hO' : OkTo (entsN ns) ns.length := by rw [hE, hlen]; exact hO
    rw [preX, ← down_kids hO' x.p]
    refine congrArg (fun t : List (List Nd) => x :: t.flatten) (List.map_congr_left fun k hk => ?_)
    refine pre_down hE hO f k (deep_kid hO h ?_)
    rw [← hE]
    show k.ent ∈ kidsE (entsN ns) x.p
    rw [kidsE_eq]
    exact List.mem_map.2 ⟨k, hk, rfl⟩
theorem pre_root {es : List Ent} {ns : List Nd} (hE : entsN ns = es) (hO : OkTo es es.length) {r : Nd} (hr : r.ent = rootE) : preX ns (es.length + 1) r = r :: ns := by
  rw [pre_down hE hO _ r (by rw [hr]; exact deep_root es)]
  refine congrArg (r :: ·) ?_
  rw [downX, List.filter_eq_self]
  intro y hy
  have hr0 : r.p = [] := by rw [Nd.p, hr]; rfl
  have h0 : y.p ≠ [] := by
    obtain ⟨k, hk, _, he⟩ := nd_at hy
    rw [hE] at he
    exact (ent_parts (ok_parts he (hO k (by rw [← hE]; simpa [entsN] using hk))).ent).1
  have : prt y.p ≠ [] := prt_some h0
  obtain ⟨a, u, h⟩ : ∃ a u, prt y.p = a :: u := by
    cases h : prt y.p with
    | nil => exact absurd h this
    | cons a u => exact ⟨a, u, rfl⟩
  have hu : under r.p y.p := ⟨a, u, by rw [h, hr0, prt_nil]; rfl⟩
  exact underB_iff.2 hu
end Go.Proofs.YtkeefkfklmhcjaaGreatDoor
