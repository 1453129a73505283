import Derived.Test.YtjofjcjojgpaeaaGreatDoorJKidD
import Derived.Sort.KeysCollected
import Derived.Sort.Walk0
import Derived.Lib.SlicesCompact
namespace Go.Proofs.YtjofjcjojgpaeaaGreatDoor
open Go.RowKit Go.Maps Go.Sort

/-- The nodes in a directory. -/
def kidsX (ns : List Nd) (p : List UInt8) : List Nd := ns.filter fun x => dirOf x.p == p
theorem kidsN_eq (ns : List Nd) (p : List UInt8) : kidsN ns p = (kidsX ns p).map fun x => (nameOf x.p, x.nb) := rfl
theorem kidsE_eq (ns : List Nd) (p : List UInt8) : kidsE (entsN ns) p = (kidsX ns p).map (·.ent) := by
  rw [kidsE, entsN, kidsX, List.filter_map]; rfl
theorem kidsX_mem {ns : List Nd} {p : List UInt8} {x : Nd} (h : x ∈ kidsX ns p) : x ∈ ns ∧ dirOf x.p = p := by
  rw [kidsX, List.mem_filter] at h; exact ⟨h.1, by simpa using h.2⟩
theorem ns_ord {ns : List Nd} (h : OkTo (entsN ns) ns.length) : ns.Pairwise fun x y => ltL (prt x.p) (prt y.p) = true := by
  rw [List.pairwise_iff_getElem]
  intro i j hi hj hij
  exact ord_lt h j i ns[i].ent ns[j].ent hij hj (by rw [entsN, List.getElem?_map, List.getElem?_eq_getElem hi]; rfl) (by rw [entsN, List.getElem?_map, List.getElem?_eq_getElem hj]; rfl)
theorem nd_up {ns : List Nd} (h : OkTo (entsN ns) ns.length) {x : Nd} (hx : x ∈ ns) : prt x.p = prt (dirOf x.p) ++ [nameOf x.p] := by
  obtain ⟨k, hk, _, he⟩ := nd_at hx
  exact okTo_up h hk he
theorem kids_ord {ns : List Nd} (h : OkTo (entsN ns) ns.length) (p : List UInt8) : (kidsX ns p).Pairwise fun x y => Op.bytesLess (nameOf x.p) (nameOf y.p) = true := by
  refine List.Pairwise.imp_of_mem (fun {x y} hx hy hl => ?_) ((ns_ord h).filter _)
  have hx' := kidsX_mem (p := p) hx
  have hy' := kidsX_mem (p := p) hy
  rw [nd_up h hx'.1, nd_up h hy'.1, hx'.2, hy'.2, ltL_snoc] at hl
  exact hl
theorem keys_eq (L : List (List UInt8 × Nat)) : strKeys (DK L) = L.map (·.1) := by
  simp [strKeys, DK, strOf, Function.comp_def]
theorem kids_sorted {ns : List Nd} (h : OkTo (entsN ns) ns.length) {p : List UInt8} {ss : List (List UInt8)} (hp : ss.Perm (strKeys (DK (kidsN ns p)))) : ss.mergeSort (fun x y => decide (x ≤ y)) = (kidsX ns p).map fun x => nameOf x.p := by
  rw [mergeSort_of_perm hp, keys_eq, kidsN_eq, List.map_map]
  refine List.mergeSort_of_pairwise ?_
  rw [List.pairwise_map]
  refine (kids_ord h p).imp (fun {x y} hl => ?_)
  rw [bytesLess_eq] at hl
  simp only [leB, decide_eq_true_eq, Function.comp] at hl ⊢
  exact List.le_of_lt hl
theorem kids_one {ns : List Nd} (h : OkTo (entsN ns) ns.length) {p : List UInt8} {x y : Nd} (hx : x ∈ kidsX ns p) (hy : y ∈ kidsX ns p) (e : nameOf x.p = nameOf y.p) : x = y := by
  obtain ⟨i, hi, rfl⟩ := List.getElem_of_mem hx
  obtain ⟨j, hj, rfl⟩ := List.getElem_of_mem hy
  have ho := List.pairwise_iff_getElem.1 (kids_ord h p)
  rcases Nat.lt_trichotomy i j with hl | rfl | hl
  · have := ho i j hi hj hl; rw [e, bl_irr] at this; cases this
  · rfl
  · have := ho j i hj hi hl; rw [e, bl_irr] at this; cases this
theorem KM.at {w : World} {b n : Nat} {ns : List Nd} {p : List UInt8} (h : KM w b n (kidsN ns p)) (hO : OkTo (entsN ns) ns.length) {x : Nd} (hx : x ∈ kidsX ns p) (s : ByteArray) (hs : s.size ≤ 1073741824) (e : s.data.toList = nameOf x.p) :
    (Instr.lookup 77 (.map (some b)) (.string s) false).run Tryz.prog w = .ok (.pointer (some ⟨x.nb, 0, none⟩)) w := by
  rcases KM.look h s hs false with ⟨_, hn⟩ | ⟨q, hq, hrun⟩
  · exact absurd e.symm (hn (nameOf x.p, x.nb) (by rw [kidsN_eq]; exact List.mem_map.2 ⟨x, hx, rfl⟩))
  · rw [kidsN_eq] at hq
    obtain ⟨y, hy, e2⟩ := List.mem_map.1 hq
    have e3 : nameOf y.p = s.data.toList := congrArg Prod.fst e2
    have e4 : y.nb = q := congrArg Prod.snd e2
    have : y = x := kids_one hO hy hx (by rw [e3, e])
    rw [hrun, ← e4, this]; rfl
theorem km_size {L : List (List UInt8 × Nat)} : Maps.size (DK L) = L.length := by
  simp [Maps.size, DK]
end Go.Proofs.YtjofjcjojgpaeaaGreatDoor

namespace Go.Proofs.YtjofjcjojgpaeaaGreatDoor
open Go

/-- A strict total order. -/
structure Tot {α : Type} (lt : α → α → Bool) : Prop where
  irr : ∀ x, lt x x = false
  trans : ∀ {x y z}, lt x y = true → lt y z = true → lt x z = true
  one : ∀ {x y}, lt x y = false → lt y x = false → x = y

theorem rising_one {α : Type} {lt : α → α → Bool} (h : Tot lt) : ∀ {l m : List α}, l.Pairwise (fun x y => lt x y = true) → m.Pairwise (fun x y => lt x y = true) → (∀ x, x ∈ l ↔ x ∈ m) → l = m
  | [], [], _, _, _ => rfl
  | [], y :: m, _, _, hm => absurd ((hm y).2 (by simp)) (by simp)
  | x :: l, [], _, _, hm => absurd ((hm x).1 (by simp)) (by simp)
  | x :: l, y :: m, hl, hm, he => by
    rw [List.pairwise_cons] at hl hm
    have no : ∀ {a b}, lt a b = true → lt b a = true → False := fun h1 h2 => by
      have := h.trans h1 h2; rw [h.irr] at this; cases this
    have e : x = y := by
      have h1 := (he x).1 (by simp)
      have h2 := (he y).2 (by simp)
      rw [List.mem_cons] at h1 h2
      rcases h1 with h1 | h1
      · exact h1
      · rcases h2 with h2 | h2
        · exact h2.symm
        · exact (no (hm.1 x h1) (hl.1 y h2)).elim
    subst e
    refine congrArg (x :: ·) (rising_one h hl.2 hm.2 fun z => ?_)
    have hz := he z
    rw [List.mem_cons, List.mem_cons] at hz
    constructor
    · intro hzl
      rcases hz.1 (.inr hzl) with e | e
      · subst e; have := hl.1 z hzl; rw [h.irr] at this; cases this
      · exact e
    · intro hzm
      rcases hz.2 (.inr hzm) with e | e
      · subst e; have := hm.1 z hzm; rw [h.irr] at this; cases this
      · exact e

theorem compact_upTo {α : Type} [Inhabited α] [DecidableEq α] {lt : α → α → Bool} (h : Tot lt) (zs : List α) (hs : zs.Pairwise fun x y => lt y x = false) :
    ∀ m, m ≤ zs.length → (Lib.compactUpTo zs.toArray m).Pairwise (fun x y => lt x y = true) ∧ (∀ x, x ∈ Lib.compactUpTo zs.toArray m ↔ x ∈ zs.take m)
  | 0, _ => by simp [Lib.compactUpTo]
  | m + 1, hm => by
    obtain ⟨h1, h2⟩ := compact_upTo h zs hs m (by omega)
    have hg : zs[m]? = some zs[m] := List.getElem?_eq_getElem (by omega)
    have hd : zs.toArray[m]! = zs[m] := by rw [getElem!_pos zs.toArray m (by simp; omega)]; simp
    rw [Lib.compactUpTo_succ, hd]
    have hmem : ∀ x, x ∈ zs.take (m + 1) ↔ x ∈ zs.take m ∨ x = zs[m] := fun x => by
      rw [List.take_add_one, hg, List.mem_append]; simp
    by_cases hk : Lib.keeps zs.toArray m = true
    · rw [if_pos hk]
      refine ⟨?_, fun x => by rw [List.mem_append, h2, hmem]; simp⟩
      rw [List.pairwise_append]
      refine ⟨h1, by simp, fun x hx y hy => ?_⟩
      rw [List.mem_singleton] at hy
      subst hy
      rw [h2] at hx
      obtain ⟨j, hj, rfl⟩ := List.getElem_of_mem hx
      rw [List.length_take] at hj
      rw [List.getElem_take]
      have hp := List.pairwise_iff_getElem.1 hs
      cases hl : lt zs[j] zs[m] with
      | true => rfl
      | false =>
        have e := h.one hl (hp j m (by omega) (by omega) (by omega))
        have m0 : m ≠ 0 := by omega
        have e2 : zs[m - 1]'(by omega) = zs[m] := by
          by_cases hj2 : j = m - 1
          · subst hj2; exact e
          · refine h.one ?_ (hp (m - 1) m (by omega) (by omega) (by omega))
            cases hl2 : lt (zs[m - 1]'(by omega)) zs[m] with
            | false => rfl
            | true =>
              have := hp j (m - 1) (by omega) (by omega) (by omega)
              rw [e, hl2] at this
              cases this
        have hd2 : zs.toArray[m - 1]! = zs[m - 1]'(by omega) := by rw [getElem!_pos zs.toArray (m - 1) (by simp; omega)]; simp
        simp only [Lib.keeps, hd, hd2, e2] at hk
        simp [m0] at hk
    · rw [if_neg hk, List.append_nil]
      refine ⟨h1, fun x => ?_⟩
      rw [h2, hmem]
      constructor
      · exact .inl
      · rintro (hx | rfl)
        · exact hx
        · have m0 : m ≠ 0 := by rintro rfl; simp [Lib.keeps] at hk
          have hd2 : zs.toArray[m - 1]! = zs[m - 1]'(by omega) := by rw [getElem!_pos zs.toArray (m - 1) (by simp; omega)]; simp
          simp only [Lib.keeps, hd, hd2] at hk
          have e2 : zs[m] = zs[m - 1]'(by omega) := by
            by_cases e : zs[m] = zs[m - 1]'(by omega)
            · exact e
            · simp [m0, e] at hk
          rw [e2]
          refine List.mem_iff_getElem.2 ⟨m - 1, by rw [List.length_take]; omega, by rw [List.getElem_take]⟩
theorem compact_rising {α : Type} [Inhabited α] [DecidableEq α] {lt : α → α → Bool} (h : Tot lt) (zs : List α) (hs : zs.Pairwise fun x y => lt y x = false) :
    (Lib.compact zs).Pairwise (fun x y => lt x y = true) ∧ ∀ x, x ∈ Lib.compact zs ↔ x ∈ zs := by
  have := compact_upTo h zs hs zs.length (Nat.le_refl _)
  rw [List.take_length] at this
  exact this
theorem sort_rising {α : Type} {lt : α → α → Bool} (h : Tot lt) (l : List α) : (l.mergeSort fun x y => !lt y x).Pairwise fun x y => lt y x = false := by
  have := List.pairwise_mergeSort (le := fun x y => !lt y x) (fun a b c h1 h2 => by
    simp only [Bool.not_eq_true'] at h1 h2 ⊢
    cases hc : lt c a with
    | false => rfl
    | true =>
      cases h3 : lt b c with
      | true => have := h.trans h3 hc; rw [h1] at this; cases this
      | false =>
        have := h.one h3 h2
        subst this
        rw [hc] at h1; cases h1) (fun a b => by
    cases h1 : lt b a <;> cases h2 : lt a b <;> simp
    have := h.trans h1 h2; rw [h.irr] at this; cases this) l
  exact this.imp (fun {x y} hxy => by simpa using hxy)
end Go.Proofs.YtjofjcjojgpaeaaGreatDoor

namespace Go.Proofs.YtjofjcjojgpaeaaGreatDoor
open Go.RowKit Go.Maps Go.Sort

theorem bl_total {a b : List UInt8} : Op.bytesLess a b = false → Op.bytesLess b a = false → a = b := by
  induction a generalizing b with
  | nil =>
    cases b with
    | nil => intros; rfl
    | cons y b => intro h; simp [Op.bytesLess] at h
  | cons x a ih =>
    cases b with
    | nil => intro _ h; simp [Op.bytesLess] at h
    | cons y b =>
      intro h1 h2
      simp only [Op.bytesLess, Bool.or_eq_false_iff, decide_eq_false_iff_not, Bool.and_eq_false_iff, beq_eq_false_iff_ne] at h1 h2
      have e : x = y := UInt8.le_antisymm (UInt8.not_lt.1 h2.1) (UInt8.not_lt.1 h1.1)
      subst e
      rcases h1.2 with h | h
      · exact absurd rfl h
      · rcases h2.2 with h' | h'
        · exact absurd rfl h'
        · rw [ih h h']
theorem ltL_total {x y : List (List UInt8)} : ltL x y = false → ltL y x = false → x = y := by
  induction x generalizing y with
  | nil =>
    cases y with
    | nil => intros; rfl
    | cons b y => intro h; simp [ltL] at h
  | cons a x ih =>
    cases y with
    | nil => intro _ h; simp [ltL] at h
    | cons b y =>
      intro h1 h2
      simp only [ltL, Bool.or_eq_false_iff, Bool.and_eq_false_iff, beq_eq_false_iff_ne] at h1 h2
      have e := bl_total h1.1 h2.1
      subst e
      rcases h1.2 with h | h
      · exact absurd rfl h
      · rcases h2.2 with h' | h'
        · exact absurd rfl h'
        · rw [ih h h']
/-- Tree order of paths. -/
def ltP (x y : List UInt8) : Bool := ltL (prt x) (prt y)
theorem totP : Tot ltP := ⟨fun _ => ltL_irr _, fun h1 h2 => ltL_trans h1 h2, fun h1 h2 => prt_inj (ltL_total h1 h2)⟩
theorem ltL_parted (x u v : List (List UInt8)) {a b : List UInt8} (h : Op.bytesLess a b = true) : ltL (x ++ a :: u) (x ++ b :: v) = true := by
  induction x with
  | nil => simp [ltL, h]
  | cons c r ih => simp [ltL, ih]
theorem ltL_more (x u : List (List UInt8)) (a : List UInt8) : ltL x (x ++ a :: u) = true := by
  induction x with
  | nil => rfl
  | cons c r ih => simp [ltL, ih]
/-- Stands a path below another one? -/
def under (p q : List UInt8) : Prop := ∃ a u, prt q = prt p ++ a :: u
theorem under_kid {ns : List Nd} (hO : OkTo (entsN ns) ns.length) {p : List UInt8} {y : Nd} (hy : y ∈ ns) : under p y.p ↔ ∃ k ∈ kidsX ns p, y = k ∨ under k.p y.p := by
  constructor
  · rintro ⟨a, u, e⟩
    obtain ⟨kz, hkz, _, hez⟩ := nd_at hy
    obtain ⟨qa, ae, hqa, hae, hpa⟩ := ancestor hO (by simp [entsN]) kz y.ent ((prt p).length + 1) hkz hez (by omega) (by show _ ≤ (prt y.p).length; rw [e]; simp)
    obtain ⟨k, hk, rfl⟩ := nd_get hae
    have e2 : prt k.p = prt p ++ [a] := by
      show prt k.ent.path.data.toList = _
      rw [hpa]
      show (prt y.p).take _ = _
      rw [e, List.take_append, List.take_of_length_le (by omega), show (prt p).length + 1 - (prt p).length = 1 from by omega]
      rfl
    have hup := nd_up hO hk
    rw [e2] at hup
    have h3 := List.append_inj' hup rfl
    refine ⟨k, ?_, ?_⟩
    · rw [kidsX, List.mem_filter]
      exact ⟨hk, by simpa using (prt_inj h3.1).symm⟩
    · cases u with
      | nil =>
        left
        obtain ⟨kk, hkk, h5, hek⟩ := nd_at hk
        obtain ⟨ky, hky, h6, hey⟩ := nd_at hy
        have e6 : k.p = y.p := prt_inj (by rw [e2, e])
        have := path_inj hO hkk hky hek hey e6
        subst this
        rw [h5] at h6
        cases h6
        rfl
      | cons b u => exact .inr ⟨b, u, by rw [e, e2]; simp⟩
  · rintro ⟨k, hk, h⟩
    have hk' := kidsX_mem hk
    have hup := nd_up hO hk'.1
    rw [hk'.2] at hup
    rcases h with rfl | ⟨a, u, e⟩
    · exact ⟨nameOf y.p, [], hup⟩
    · exact ⟨nameOf k.p, a :: u, by rw [e, hup]; simp⟩
/-- A node and all below it, so deep, in tree order. -/
def preX (ns : List Nd) : Nat → Nd → List Nd
  | 0, _ => []
  | f + 1, x => x :: ((kidsX ns x.p).map (preX ns f)).flatten
def underB (p q : List UInt8) : Bool := (prt p).isPrefixOf (prt q) && decide ((prt p).length < (prt q).length)
theorem underB_iff {p q : List UInt8} : underB p q = true ↔ under p q := by
  rw [underB, Bool.and_eq_true, List.isPrefixOf_iff_prefix, decide_eq_true_iff]
  constructor
  · rintro ⟨⟨t, e⟩, h⟩
    cases t with
    | nil => rw [List.append_nil] at e; rw [e] at h; omega
    | cons a u => exact ⟨a, u, e.symm⟩
  · rintro ⟨a, u, e⟩
    exact ⟨⟨a :: u, e.symm⟩, by rw [e]; simp⟩
def downX (ns : List Nd) (p : List UInt8) : List Nd := ns.filter fun y => underB p y.p
theorem downX_mem {ns : List Nd} {p : List UInt8} {y : Nd} : y ∈ downX ns p ↔ y ∈ ns ∧ under p y.p := by
  rw [downX, List.mem_filter, underB_iff]
theorem ndLt_one {ns : List Nd} (hO : OkTo (entsN ns) ns.length) : ∀ {l m : List Nd}, l.Pairwise (fun x y => ltP x.p y.p = true) → m.Pairwise (fun x y => ltP x.p y.p = true) → (∀ x ∈ l, x ∈ ns) → (∀ x ∈ m, x ∈ ns) → (∀ x, x ∈ l ↔ x ∈ m) → l = m := by
  intro l m h1 h2 h3 h4 h5
  have e : l.map Nd.p = m.map Nd.p := rising_one totP (List.pairwise_map.2 h1) (List.pairwise_map.2 h2) fun q => by
    simp only [List.mem_map, h5]
  have hl : l.length = m.length := by simpa using congrArg List.length e
  refine List.ext_getElem hl fun i hi hj => ?_
  have e2 : (l[i]).p = (m[i]).p := by
    have := congrArg (fun t : List (List UInt8) => t[i]?) e
    simpa [hi, hj] using this
  obtain ⟨ka, ha, h6, hea⟩ := nd_at (h3 _ (List.getElem_mem hi))
  obtain ⟨kb, hb, h7, heb⟩ := nd_at (h4 _ (List.getElem_mem hj))
  have := path_inj hO ha hb hea heb e2
  subst this
  rw [h6] at h7
  exact Option.some.inj h7
theorem down_kids {ns : List Nd} (hO : OkTo (entsN ns) ns.length) (p : List UInt8) : ((kidsX ns p).map fun k => k :: downX ns k.p).flatten = downX ns p := by
  have hsub : ∀ q, ∀ x ∈ downX ns q, x ∈ ns := fun q x hx => (downX_mem.1 hx).1
  have hord : ∀ q, (downX ns q).Pairwise fun x y => ltP x.p y.p = true := fun q => (ns_ord hO).filter _
  refine ndLt_one hO ?_ (hord p) ?_ (hsub p) ?_
  · rw [List.pairwise_flatten]
    constructor
    · intro l hl
      obtain ⟨k, hk, rfl⟩ := List.mem_map.1 hl
      rw [List.pairwise_cons]
      refine ⟨fun y hy => ?_, hord _⟩
      obtain ⟨_, a, u, e⟩ := downX_mem.1 hy
      show ltL _ _ = true
      rw [e]; exact ltL_more _ _ _
    · rw [List.pairwise_map]
      refine List.Pairwise.imp_of_mem (fun {k1 k2} h1 h2 hl => ?_) (kids_ord hO p)
      intro x hx y hy
      have hk1 := kidsX_mem h1
      have hk2 := kidsX_mem h2
      have u1 := nd_up hO hk1.1
      have u2 := nd_up hO hk2.1
      rw [hk1.2] at u1
      rw [hk2.2] at u2
      have fx : ∀ {k z : Nd}, z ∈ k :: downX ns k.p → ∃ u, prt z.p = prt k.p ++ u := fun {k z} hz => by
        rcases List.mem_cons.1 hz with rfl | hz
        · exact ⟨[], by simp⟩
        · obtain ⟨_, a, u, e⟩ := downX_mem.1 hz
          exact ⟨a :: u, e⟩
      obtain ⟨u, eu⟩ := fx hx
      obtain ⟨v, ev⟩ := fx hy
      show ltL _ _ = true
      rw [eu, ev, u1, u2, List.append_assoc, List.append_assoc]
      exact ltL_parted _ _ _ hl
  · intro x hx
    obtain ⟨l, hl, hx⟩ := List.mem_flatten.1 hx
    obtain ⟨k, hk, rfl⟩ := List.mem_map.1 hl
    rcases List.mem_cons.1 hx with rfl | hx
    · exact (kidsX_mem hk).1
    · exact hsub _ x hx
  · intro x
    constructor
    · intro hx
      obtain ⟨l, hl, hx⟩ := List.mem_flatten.1 hx
      obtain ⟨k, hk, rfl⟩ := List.mem_map.1 hl
      have hxn : x ∈ ns := by
        rcases List.mem_cons.1 hx with rfl | hx
        · exact (kidsX_mem hk).1
        · exact hsub _ x hx
      refine downX_mem.2 ⟨hxn, (under_kid hO hxn).2 ⟨k, hk, ?_⟩⟩
      rcases List.mem_cons.1 hx with rfl | hx
      · exact .inl rfl
      · exact .inr (downX_mem.1 hx).2
    · intro hx
      obtain ⟨hxn, hu⟩ := downX_mem.1 hx
      obtain ⟨k, hk, h⟩ := (under_kid hO hxn).1 hu
      refine List.mem_flatten.2 ⟨k :: downX ns k.p, List.mem_map.2 ⟨k, hk, rfl⟩, ?_⟩
      rcases h with rfl | h
      · simp
      · exact List.mem_cons_of_mem _ (downX_mem.2 ⟨hxn, h⟩)
theorem pre_down {es : List Ent} {ns : List Nd} (hE : entsN ns = es) (hO : OkTo es es.length) : ∀ (f : Nat) (x : Nd), Deep es f x.ent → preX ns f x = x :: downX ns x.p
  | 0, x, h => absurd rfl (deep_pos h)
  | f + 1, x, h => by
    have hlen : ns.length = es.length := by rw [← hE]; simp [entsN]
    have hO' : OkTo (entsN ns) ns.length := by rw [hE, hlen]; exact hO
    rw [preX, ← down_kids hO' x.p]
    refine congrArg (fun t : List (List Nd) => x :: t.flatten) (List.map_congr_left fun k hk => ?_)
    refine pre_down hE hO f k (deep_kid hO h ?_)
    rw [← hE]
    show k.ent ∈ kidsE (entsN ns) x.p
    rw [kidsE_eq]
    exact List.mem_map.2 ⟨k, hk, rfl⟩
theorem pre_root {es : List Ent} {ns : List Nd} (hE : entsN ns = es) (hO : OkTo es es.length) {r : Nd} (hr : r.ent = rootE) : preX ns (es.length + 1) r = r :: ns := by
  rw [pre_down hE hO _ r (by rw [hr]; exact deep_root es)]
  refine congrArg (r :: ·) ?_
  rw [downX, List.filter_eq_self]
  intro y hy
  have hr0 : r.p = [] := by rw [Nd.p, hr]; rfl
  have h0 : y.p ≠ [] := by
    obtain ⟨k, hk, _, he⟩ := nd_at hy
    rw [hE] at he
    exact (ent_parts (ok_parts he (hO k (by rw [← hE]; simpa [entsN] using hk))).ent).1
  have : prt y.p ≠ [] := prt_some h0
  obtain ⟨a, u, h⟩ : ∃ a u, prt y.p = a :: u := by
    cases h : prt y.p with
    | nil => exact absurd h this
    | cons a u => exact ⟨a, u, rfl⟩
  have hu : under r.p y.p := ⟨a, u, by rw [h, hr0, prt_nil]; rfl⟩
  exact underB_iff.2 hu
end Go.Proofs.YtjofjcjojgpaeaaGreatDoor
