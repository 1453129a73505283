import Derived.Test.YtjofjcjojgpaeaaGreatDoorJPatP
import Derived.Maps.OwnSet
import Derived.Test.YtjofjcjojgpaeaaGreatDoorJKidD
namespace Go.Proofs.YtjofjcjojgpaeaaGreatDoor
open Go.RowKit Go.Maps

theorem sorted_split {α : Type} (A B : α → Bool) : ∀ (l : List α), l.Pairwise (fun x z => B x = true → A z = false) → (∀ x ∈ l, A x = true → B x = false) → l.filter A ++ l.filter B = l.filter fun x => A x || B x
  | [], _, _ => rfl
  | x :: t, h, hd => by
    rw [List.pairwise_cons] at h
    have ih := sorted_split A B t h.2 (fun z hz => hd z (by simp [hz]))
    cases ha : A x
    · cases hb : B x
      · simp [ha, hb, ih]
      · have e1 : t.filter A = [] := List.filter_eq_nil_iff.2 fun z hz => by rw [h.1 z hz hb]; simp
        rw [e1, List.nil_append] at ih
        simp [ha, hb, e1, ih]
    · have hb := hd x (by simp) ha
      simp [ha, hb, ih]
theorem split_at {α : Type} {f : α → List UInt8} {o : α} : ∀ {l : List α}, l.Pairwise (fun a b => ltP (f a) (f b) = true) → o ∈ l → l = (l.filter fun x => ltP (f x) (f o)) ++ o :: l.filter fun x => ltP (f o) (f x)
  | [], _, h => by simp at h
  | x :: t, h, hm => by
    rw [List.pairwise_cons] at h
    rcases List.mem_cons.1 hm with rfl | hm
    · have e1 : t.filter (fun x => ltP (f x) (f o)) = [] := List.filter_eq_nil_iff.2 fun z hz => by
        intro h2
        have := totP.trans (h.1 z hz) h2
        rw [totP.irr] at this; cases this
      have e2 : t.filter (fun x => ltP (f o) (f x)) = t := List.filter_eq_self.2 fun z hz => h.1 z hz
      simp [totP.irr, e1, e2]
    · have ih := split_at h.2 hm
      have h1 := h.1 o hm
      have h2 : ltP (f o) (f x) = false := by
        cases h3 : ltP (f o) (f x)
        · rfl
        · have := totP.trans h1 h3
          rw [totP.irr] at this; cases this
      simp only [List.filter_cons, h1, h2, if_true, Bool.false_eq_true, if_false, List.cons_append]
      rw [← ih]
theorem nd_parted {ns : List Nd} (h : TreeS (entsN ns)) {x : Nd} (hx : x ∈ ns) : Parted x.p := parted_of (h.ent x.ent (List.mem_map.2 ⟨x, hx, rfl⟩))
theorem nd_ord {ns : List Nd} (h : TreeS (entsN ns)) : ns.Pairwise fun x y => ltP x.p y.p = true := by
  have := h.ord
  rw [entsN, List.pairwise_map] at this
  exact this
theorem kids_wo_same {ns : List Nd} (h : TreeS (entsN ns)) {p q : List UInt8} {self : Bool} (hq : keepW p self q = true) (h1 : self = true → q ≠ dirOf p) (h2 : self = false → q ≠ p) : kidsN (woG Nd.p ns p self) q = kidsN ns q := by
  rw [kidsN, kidsN, woG, List.filter_filter]
  congr 1
  refine List.filter_congr fun x hx => ?_
  have hk := keepW_iff.1 hq
  cases hd : (dirOf x.p == q)
  · rfl
  · have hd' : dirOf x.p = q := by simpa using hd
    have hP := nd_parted h hx
    rw [Bool.true_and]
    refine keepW_iff.2 ⟨fun hu => ?_, fun hs e => h1 hs (by rw [← hd', e])⟩
    rcases hP.up hu with e | e
    · rw [hd'] at e
      cases self
      · exact h2 rfl e.symm
      · exact hk.2 rfl e.symm
    · rw [hd'] at e; exact hk.1 e
theorem kids_wo_del {ns : List Nd} (h : TreeS (entsN ns)) {p : List UInt8} (hp : Parted p) : kidsN (woG Nd.p ns p true) (dirOf p) = (kidsN ns (dirOf p)).filter fun z => z.1 != nameOf p := by
  rw [kidsN, kidsN, woG, List.filter_map, List.filter_filter, List.filter_filter]
  congr 1
  refine List.filter_congr fun x hx => ?_
  have hP := nd_parted h hx
  cases hd : (dirOf x.p == dirOf p)
  · simp
  · have hd' : dirOf x.p = dirOf p := by simpa using hd
    rw [Bool.true_and, Bool.and_true]
    by_cases hn : nameOf x.p = nameOf p
    · have e := hP.eq hp hd' hn
      simp [keepW, e]
    · have : keepW p true x.p = true := keepW_iff.2 ⟨fun hu => by
        rcases hP.up hu with e | e
        · rw [hd'] at e
          have := hp.under
          rw [← e] at this
          exact not_under_self _ this
        · rw [hd'] at e
          exact not_under_self _ (under_trans hp.under e), fun _ e => hn (by rw [e])⟩
      rw [this]
      simp [hn]
theorem kids_wo_clear {ns : List Nd} (h : TreeS (entsN ns)) {p : List UInt8} : kidsN (woG Nd.p ns p false) p = [] := by
  rw [kidsN, woG, List.filter_filter]
  rw [List.filter_eq_nil_iff.2, List.map_nil]
  intro x hx hc
  simp only [Bool.and_eq_true, beq_iff_eq] at hc
  have hP := nd_parted h hx
  have := hP.under
  rw [hc.1] at this
  exact (keepW_iff.1 hc.2).1 this
theorem put_split {ns : List Nd} (h : TreeS (entsN ns)) (both : Bool) (p : List UInt8) : (ns.filter fun x => ltP x.p p) ++ (ns.filter fun x => keepPut both p x.p) = ns.filter fun x => ltP x.p p || keepPut both p x.p := by
  refine sorted_split _ _ ns ((nd_ord h).imp fun {x z} hl hb => ?_) (fun x _ ha => ?_)
  · have h1 := (keepPut_iff.1 hb).1
    cases h2 : ltP z.p p
    · rfl
    · have := totP.trans (totP.trans h1 hl) h2
      rw [totP.irr] at this; cases this
  · cases hb : keepPut both p x.p
    · rfl
    · have := totP.trans ha (keepPut_iff.1 hb).1
      rw [totP.irr] at this; cases this
theorem kids_put_same {ns : List Nd} (h : TreeS (entsN ns)) {y : Nd} {q : List UInt8} (h1 : q ≠ dirOf y.p) (h2 : q ≠ y.p) (h3 : ¬ under y.p q) : kidsN (putG Nd.p ns false y) q = kidsN ns q := by
  have h1' : (dirOf y.p == q) = false := by simpa using fun e => h1 e.symm
  rw [kidsN, kidsN, putG, List.filter_append, List.filter_cons, if_neg (by rw [h1']; simp), ← List.filter_append, put_split h, List.filter_filter]
  congr 1
  refine List.filter_congr fun x hx => ?_
  cases hd : (dirOf x.p == q)
  · rfl
  · have hd' : dirOf x.p = q := by simpa using hd
    have hP := nd_parted h hx
    rw [Bool.true_and, Bool.or_eq_true]
    cases hl : ltP x.p y.p
    · right
      refine keepPut_iff.2 ⟨?_, .inr fun hu => ?_⟩
      · cases hg : ltP y.p x.p
        · have := totP.one hl hg
          rw [this] at hd'
          exact absurd hd'.symm h1
        · rfl
      · rcases hP.up hu with e | e
        · rw [hd'] at e; exact h2 e.symm
        · rw [hd'] at e; exact h3 e
    · exact .inl rfl
theorem kids_put_own {ns : List Nd} (h : TreeS (entsN ns)) {y : Nd} (hy : Parted y.p) : kidsN (putG Nd.p ns false y) y.p = [] := by
  have h1' : (dirOf y.p == y.p) = false := by
    simp only [beq_eq_false_iff_ne, ne_eq]
    intro e
    have := hy.under
    rw [e] at this
    exact not_under_self _ this
  rw [kidsN, putG, List.filter_append, List.filter_cons, if_neg (by rw [h1']; simp), ← List.filter_append, put_split h, List.filter_filter, List.filter_eq_nil_iff.2, List.map_nil]
  intro x hx hc
  simp only [Bool.and_eq_true, beq_iff_eq, Bool.or_eq_true] at hc
  have hu := (nd_parted h hx).under
  rw [hc.1] at hu
  rcases hc.2 with h2 | h2
  · rw [under_not_lt hu] at h2; cases h2
  · rcases (keepPut_iff.1 h2).2 with h3 | h3
    · cases h3
    · exact h3 hu
theorem kids_put_dir {ns : List Nd} (h : TreeS (entsN ns)) {y : Nd} (hy : Parted y.p) : kidsN (putG Nd.p ns false y) (dirOf y.p) = ((kidsN ns (dirOf y.p)).filter fun z => Op.bytesLess z.1 (nameOf y.p)) ++ (nameOf y.p, y.nb) :: (kidsN ns (dirOf y.p)).filter fun z => Op.bytesLess (nameOf y.p) z.1 := by
  rw [kidsN, kidsN, putG, List.filter_append, List.filter_cons, if_pos (by simp), List.map_append, List.map_cons, List.filter_map, List.filter_map, List.filter_filter, List.filter_filter, List.filter_filter, List.filter_filter]
  congr 2
  · refine List.filter_congr fun x hx => ?_
    cases hd : (dirOf x.p == dirOf y.p)
    · simp
    · have hd' : dirOf x.p = dirOf y.p := by simpa using hd
      rw [(nd_parted h hx).lt hy hd']
      simp
  · congr 1
    refine List.filter_congr fun x hx => ?_
    cases hd : (dirOf x.p == dirOf y.p)
    · simp
    · have hd' : dirOf x.p = dirOf y.p := by simpa using hd
      have hP := nd_parted h hx
      have hnu : underB y.p x.p = false := by
        cases hb : underB y.p x.p
        · rfl
        · exfalso
          rcases hP.up (underB_iff.1 hb) with e | e
          · rw [hd'] at e
            have := hy.under
            rw [← e] at this
            exact not_under_self _ this
          · rw [hd'] at e
            exact not_under_self _ (under_trans hy.under e)
      rw [keepPut, hy.lt hP hd'.symm, hnu]
      simp
theorem kids_both {ns : List Nd} (h : TreeS (entsN ns)) {o y : Nd} (ho : o ∈ ns) (hp : y.p = o.p) (hn : y.nb = o.nb) (q : List UInt8) : kidsN (putG Nd.p ns true y) q = kidsN ns q := by
  have e : ns = _ := split_at (f := Nd.p) (nd_ord h) ho
  have e2 : (ns.filter fun x => keepPut true y.p x.p) = ns.filter fun x => ltP o.p x.p := by
    refine List.filter_congr fun x _ => ?_
    rw [keepPut, hp]; simp
  rw [kidsN, putG, e2, hp]
  conv => rhs; rw [kidsN, e]
  rw [List.filter_append, List.filter_append, List.map_append, List.map_append, List.filter_cons, List.filter_cons, hp]
  split
  · rw [List.map_cons, List.map_cons, hp, hn]
  · rfl
theorem insert_mid (x : Lit × DataW Unit) (l2 : List (Lit × DataW Unit)) (h2 : ∀ y ∈ l2, x.1.before y.1 = true) : ∀ l1 : List (Lit × DataW Unit), (∀ y ∈ l1, x.1.before y.1 = false) → DataW.insert x (l1 ++ l2) = l1 ++ x :: l2
  | [], _ => by
    cases l2 with
    | nil => rfl
    | cons y r => rw [List.nil_append, DataW.insert, h2 y (by simp), if_pos rfl]; rfl
  | y :: r, h => by
    rw [List.cons_append, DataW.insert, h y (by simp), if_neg (by simp), insert_mid x l2 h2 r (fun z hz => h z (by simp [hz]))]; rfl
theorem same_key (L : List (List UInt8 × Nat)) (x : List UInt8) : ((L.map fun p => (Lit.string p.1, DataW.lit (H := Unit) (.int .i64 (p.2 : Int)))).filter fun p => !p.1.sameKey (Lit.string x)) = (L.filter fun p => p.1 != x).map fun p => (Lit.string p.1, DataW.lit (H := Unit) (.int .i64 (p.2 : Int))) := by
  rw [List.filter_map]
  congr 1
theorem DK_del (L : List (List UInt8 × Nat)) (x : List UInt8) : (DK L).del (.string x) = DK (L.filter fun z => z.1 != x) := by
  rw [DK, DK, DataW.del, same_key]
theorem DK_mid {L : List (List UInt8 × Nat)} (hL : L.Pairwise fun a b => Op.bytesLess a.1 b.1 = true) {x : List UInt8} {b : Nat} : (DK L).put (.string x) (.lit (.int .i64 (b : Int))) = DK ((L.filter fun z => Op.bytesLess z.1 x) ++ (x, b) :: L.filter fun z => Op.bytesLess x z.1) := by
  have e : (L.filter fun p => p.1 != x) = (L.filter fun z => Op.bytesLess z.1 x) ++ L.filter fun z => Op.bytesLess x z.1 := by
    rw [sorted_split _ _ L (hL.imp fun {a c} hl hb => by
      cases h2 : Op.bytesLess c.1 x
      · rfl
      · have := bl_trans (bl_trans hb hl) h2
        rw [bl_irr] at this; cases this) (fun a _ h1 => bl_asymm h1)]
    refine List.filter_congr fun z _ => ?_
    by_cases hz : z.1 = x
    · rw [hz, bl_irr]; simp
    · have h1 : (z.1 != x) = true := by simpa using hz
      rw [h1]
      cases h2 : Op.bytesLess z.1 x
      · cases h3 : Op.bytesLess x z.1
        · exact absurd (bl_total h2 h3) hz
        · rfl
      · rfl
  rw [DK, DK, DataW.put, same_key, e, List.map_append, insert_mid, List.map_append]
  · rfl
  · intro y hy
    obtain ⟨z, hz, rfl⟩ := List.mem_map.1 hy
    show bytesBefore x z.1 = true
    rw [before_eq]; exact (List.mem_filter.1 hz).2
  · intro y hy
    obtain ⟨z, hz, rfl⟩ := List.mem_map.1 hy
    show bytesBefore x z.1 = false
    rw [before_eq]; exact bl_asymm (List.mem_filter.1 hz).2
theorem KM.fit {w : World} {b n m : Nat} {L : List (List UInt8 × Nat)} (h : KM w b n L) (hm : L.length ≤ m) : KM w b m L := by
  obtain ⟨es, clock, hb, F, hs, hD⟩ := h
  refine ⟨es, clock, hb, F, ?_, hD⟩
  have e := congrArg Maps.size hD
  rw [DK] at e
  simp only [Maps.size, Go.length_sorted, List.length_map] at e
  simp at e
  omega
theorem kids_len (ns : List Nd) (p : List UInt8) : (kidsN ns p).length ≤ ns.length := by
  rw [kidsN, List.length_map]; exact List.length_filter_le _ _
theorem kids_sort {ns : List Nd} (h : TreeS (entsN ns)) (p : List UInt8) : (kidsN ns p).Pairwise fun a b => Op.bytesLess a.1 b.1 = true := by
  have := kids_ord (ns := ns) (by have := h.ok; rwa [show (entsN ns).length = ns.length from by simp [entsN]] at this) p
  rw [kidsN_eq, List.pairwise_map]
  exact this
theorem KM.clear {w : World} {b n : Nat} {L : List (List UInt8 × Nat)} (h : KM w b n L) : ∃ w', (∀ ty, (Builtin.clear_ #[77] ty #[.map (some b)]).run Tryz.prog w = .ok (.tuple #[]) w') ∧ KM w' b 0 [] ∧ w.mapTurned w' b := by
  obtain ⟨es, clock, hb, F, hs, hD⟩ := h
  refine ⟨_, fun ty => ?_, ⟨#[], clock, ?_, ⟨by simp, Go.MapKept.stamped_empty clock, by simp⟩, Nat.le_refl _, rfl⟩, ⟨es, clock, #[], clock, hb, rfl⟩⟩
  · simp [Builtin.clear_, Go.run_underlying Tryz.underlying77, Go.MapKept.run_getObj_map hb, Go.MapKept.run_setObj_map _ hb, Result.andThen]
    rfl
  · exact Go.ChangeMaps.heap_setBlock_same hb _
end Go.Proofs.YtjofjcjojgpaeaaGreatDoor

namespace Go.Proofs.YtjofjcjojgpaeaaGreatDoor
open Go.RowKit Go.Maps

theorem nd_one {r : Nd} {ns : List Nd} (h : TreeS (entsN ns)) (hr : r.ent = rootE) {x z : Nd} (hx : x ∈ r :: ns) (hz : z ∈ r :: ns) (hp : x.p = z.p) : x = z := by
  have h0 : ∀ y ∈ ns, y.p ≠ [] := fun y hy => (ent_parts (h.ent y.ent (List.mem_map.2 ⟨y, hy, rfl⟩))).1
  have hr0 : r.p = [] := by rw [Nd.p, hr]; rfl
  rcases List.mem_cons.1 hx with e1 | hx1 <;> rcases List.mem_cons.1 hz with e2 | hz1
  · rw [e1, e2]
  · exact absurd (hp.symm.trans (by rw [e1]; exact hr0)) (h0 z hz1)
  · exact absurd (hp.trans (by rw [e2]; exact hr0)) (h0 x hx1)
  · obtain ⟨i, hi, rfl⟩ := List.getElem_of_mem hx1
    obtain ⟨j, hj, rfl⟩ := List.getElem_of_mem hz1
    have ho := List.pairwise_iff_getElem.1 (nd_ord h)
    rcases Nat.lt_trichotomy i j with hl | rfl | hl
    · have := ho i j hi hj hl; rw [hp, totP.irr] at this; cases this
    · rfl
    · have := ho j i hj hi hl; rw [hp, totP.irr] at this; cases this
/-- One map of a tree has changed. -/
theorem Mem.turn {w w' : World} {B : Nat} {r : Nd} {ns ns' : List Nd} {x : Nd} (h : Mem w B r ns) (hx : x ∈ r :: ns') (hsub : ∀ z ∈ ns', z ∈ ns) (hap : (r :: ns').Pairwise fun x y => x.mb ≠ y.mb) (hg : w.grownBy w' (some x.mb)) {n : Nat} (hk : KM w' x.mb n (kidsN ns' x.p)) (hsame : ∀ z ∈ r :: ns', z ≠ x → kidsN ns' z.p = kidsN ns z.p) : Mem w' B r ns' := by
  have sub : ∀ z ∈ r :: ns', z ∈ r :: ns := fun z hz => by
    rcases List.mem_cons.1 hz with rfl | hz
    · simp
    · simp [hsub z hz]
  obtain ⟨hx1, hx2, hx3, hx4⟩ := h.all x (sub x hx)
  refine ⟨h.root, fun z hz => ?_, hap⟩
  obtain ⟨h1, h2, h3, h4⟩ := h.all z (sub z hz)
  refine ⟨h1, h2, ?_, ?_⟩
  · have hne := (ne_mb hx4 h3 h3).1
    exact (hg.block z.nb (Array.getElem?_eq_some_iff.1 h3).1 (by simpa using hne)).trans h3
  · by_cases hzx : z = x
    · subst hzx
      exact hk.fit (kids_len _ _)
    · have hmb := apart_ne hap hx hz hzx
      rw [hsame z hz hzx]
      exact KM.fit (World.ownsMap.kept (row := some x.mb) h4 hg (fun e => hmb (Option.some.inj e))) (by rw [← hsame z hz hzx]; exact kids_len _ _)
theorem apart_filter {r : Nd} {ns : List Nd} (h : (r :: ns).Pairwise fun x y => x.mb ≠ y.mb) (f : Nd → Bool) : (r :: ns.filter f).Pairwise fun x y => x.mb ≠ y.mb := by
  rw [List.pairwise_cons] at h ⊢
  exact ⟨fun z hz => h.1 z (List.mem_filter.1 hz).1, h.2.filter _⟩
/-- Nothing is at a path whose directory is not there. -/
theorem wo_none {r : Nd} {ns : List Nd} (h : TreeS (entsN ns)) (hr : r.ent = rootE) {p : List UInt8} (hp : Parted p) (hno : ∀ x ∈ r :: ns, x.p ≠ dirOf p) : wo (entsN ns) p true = entsN ns := by
  have hr0 : r.p = [] := by rw [Nd.p, hr]; rfl
  have hat : ∀ e ∈ entsN ns, e.path.data.toList ≠ p := fun e he hep => by
    rcases h.dir e he with h0 | ⟨d, hd, hdp, _⟩
    · rw [hep] at h0
      exact hno r (by simp) (hr0.trans h0.symm)
    · obtain ⟨x, hx, rfl⟩ := List.mem_map.1 hd
      exact hno x (by simp [hx]) (by rw [← hep]; exact hdp)
  rw [wo, woG, List.filter_eq_self]
  intro e he
  refine keepW_iff.2 ⟨fun hu => ?_, fun _ => hat e he⟩
  obtain ⟨a, u, e1⟩ := hu
  obtain ⟨k, hk, hke⟩ := List.getElem_of_mem he
  have e1' : prt e.path.data.toList = prt p ++ a :: u := e1
  obtain ⟨q, a', hq, ha, hpa⟩ := ancestor h.ok (Nat.le_refl _) k e (prt p).length hk (by rw [← hke]; exact List.getElem?_eq_getElem hk) (by rw [hp]; simp) (by rw [e1']; simp)
  rw [e1', List.take_left'  rfl] at hpa
  exact hat a' (List.mem_of_getElem? ha) (prt_inj hpa)

set_option maxHeartbeats 2000000 in
set_option maxRecDepth 100000 in
theorem remove_any (r : Nd) (ns : List Nd) (B : Nat) (s : ByteArray) (m : Int) (w : World) (hM : Mem w B r ns) (HT : Hid (TreeS (entsN ns))) (HP : Hid (Parted s.data.toList)) (hB : B ≤ w.heap.size) (hs : s.size ≤ 1048576) (hm : w.cell? ⟨14, 0, none⟩ = some (.int .i64 m)) :
    Calls Tryz.prog 78 #[.pointer (some ⟨r.nb, 0, none⟩), .string s] w fun ev w' => ev = .returned (.tuple #[]) ∧ Hid (∃ ns', Mem w' B r ns' ∧ entsN ns' = wo (entsN ns) s.data.toList true) ∧ Below B w w' := by
  have HM := hide hm
  have HMem := hide hM
  have HB := hide hB
  have HO : Hid (OkTo (entsN ns) ns.length) := hide (by have := (unhide HT).ok; rwa [show (entsN ns).length = ns.length from by simp [entsN]] at this)
  clear hm hM hB
  go_enter Tryz.func78, Tryz.ntmps78
  go_upto_region 1 with (go_at_call 66; refine (last_any s _ (by omega)).mono ?_; rintro ev w1 ⟨dd, nn, rfl, HD, HNm, hb1⟩)
  have hdd : dd.size ≤ 1048576 := by rw [Lib.size_eq, unhide HD]; exact Nat.le_trans (dir_le _) (by rw [← Lib.size_eq]; exact hs)
  have hnn : nn.size ≤ 1048576 := by rw [Lib.size_eq, unhide HNm]; exact Nat.le_trans (name_le _) (by rw [← Lib.size_eq]; exact hs)
  go_upto_region 2 with (go_at_call 39; refine (find_any r ns B dd m _ ((unhide HMem).below hb1) HO hdd (cell_later hb1 (unhide HM))).mono ?_; rintro ev w2 ⟨v, rfl, HF, hb2⟩)
  have hB2 : Below w.heap.size w w2 := hb1.trans (hb2.mono hb1.size)
  have hM2 := (unhide HMem).below hB2
  have hBz := unhide HB
  rcases unhide HF with ⟨rfl, hno⟩ | ⟨x, hx, rfl, hxp⟩
  · have R : Hid (wo (entsN ns) s.data.toList true = entsN ns) := hide (wo_none (unhide HT) hM2.root (unhide HP) (fun x hx => by rw [← unhide HD]; exact hno x hx))
    have HM2 := hide hM2
    clear HF hno hM2
    go_wp2_with fail
    go_end0
    exact ⟨rfl, hide ⟨ns, unhide HM2, (unhide R).symm⟩, hB2.mono hBz⟩
  · obtain ⟨hx1, hx2, hx3, hx4⟩ := hM2.all x hx
    have c4 : w2.cell? ⟨x.nb, 4, none⟩ = some (.map (some x.mb)) := cell_of_row w2 x.nb 4 _ _ _ hx3
    have HX := hide hx
    have HXp := hide hxp
    have HX4 := hide hx4
    have HM2 := hide hM2
    have HX2 := hide hx2
    clear HF hM2 hx hxp hx3 hx4 hx1 hx2
    go_wp2_with (at_delete; refine wpList_delete_own _ rfl _ _ 77 9 rfl 64 (Maps.string_keyed Tryz.underlying9) Tryz.underlying77 RK x.mb ns.length (DK (kidsN ns x.p)) rfl (unhide HX4) (.string nn) (.string nn.data.toList) rfl (WideMaps.keyOf_string_mk Tryz.underlying9 (s := nn) (by unfold maxLen; omega)) ?_; intro w3 hown3 hturn3)
    go_end0
    have hT := unhide HT
    have hP := unhide HP
    have hxd : x.p = dirOf s.data.toList := (unhide HXp).trans (unhide HD)
    have hkx : x ∈ r :: woG Nd.p ns s.data.toList true := by
      rcases List.mem_cons.1 (unhide HX) with e | e
      · rw [e]; simp
      · refine List.mem_cons_of_mem _ (List.mem_filter.2 ⟨e, keepW_iff.2 ⟨fun hu => ?_, fun _ he => ?_⟩⟩)
        · rw [hxd] at hu; exact not_under_self _ (under_trans hP.under hu)
        · have := hP.under
          rw [← hxd, he] at this
          exact not_under_self _ this
    have hk3 : KM w3 x.mb ns.length (kidsN (woG Nd.p ns s.data.toList true) x.p) := by
      have h := hown3
      rw [DK_del, unhide HNm, hxd, ← kids_wo_del hT hP, ← hxd] at h
      exact h
    refine ⟨rfl, hide ⟨_, Mem.turn (unhide HM2) hkx (fun z hz => (List.mem_filter.1 hz).1) (apart_filter (unhide HM2).apart _) hturn3.grown hk3 (fun z hz hne => ?_), wo_nodes _ _ _⟩, (hB2.mono hBz).grown hturn3.grown (Nat.le_trans hBz hB2.size) (fun q hq => by cases hq; exact unhide HX2)⟩
    refine kids_wo_same hT ?_ (fun _ e => hne (nd_one hT (unhide HM2).root ?_ (unhide HX) (e.trans hxd.symm))) (fun h => by cases h)
    · rcases List.mem_cons.1 hz with e | e
      · have h0 : z.p = [] := by rw [e, Nd.p, (unhide HM2).root]; rfl
        rw [h0]
        refine keepW_iff.2 ⟨fun ⟨a, u, e1⟩ => by simp [prt] at e1, fun _ e1 => ?_⟩
        rw [← e1] at hP
        have h5 := congrArg List.length (show prt ([] : List UInt8) = _ from hP)
        simp [prt] at h5
      · exact (List.mem_filter.1 e).2
    · rcases List.mem_cons.1 hz with e | e
      · rw [e]; simp
      · exact List.mem_cons_of_mem _ (List.mem_filter.1 e).1
theorem root_keep {p : List UInt8} {self : Bool} (hp : self = true → p ≠ []) : keepW p self [] = true := keepW_iff.2 ⟨fun ⟨a, u, e1⟩ => by simp [prt] at e1, fun h e => hp h e.symm⟩
/-- Nothing is below what is not there. -/
theorem wo_below {r : Nd} {ns : List Nd} (h : TreeS (entsN ns)) (hr : r.ent = rootE) {p : List UInt8} (hno : ∀ x ∈ r :: ns, x.p ≠ p) : wo (entsN ns) p false = entsN ns := by
  have hr0 : r.p = [] := by rw [Nd.p, hr]; rfl
  rw [wo, woG, List.filter_eq_self]
  intro e he
  refine keepW_iff.2 ⟨fun hu => ?_, fun h => by cases h⟩
  obtain ⟨a, u, e1⟩ := hu
  obtain ⟨k, hk, hke⟩ := List.getElem_of_mem he
  have e1' : prt e.path.data.toList = prt p ++ a :: u := e1
  have hp0 : p ≠ [] := fun e => hno r (by simp) (hr0.trans e.symm)
  have hl : 1 ≤ (prt p).length := by
    cases h2 : prt p with
    | nil => exact absurd h2 (prt_some hp0)
    | cons _ _ => simp
  obtain ⟨q, a', hq, ha, hpa⟩ := ancestor h.ok (Nat.le_refl _) k e (prt p).length hk (by rw [← hke]; exact List.getElem?_eq_getElem hk) hl (by rw [e1']; simp)
  rw [e1', List.take_left' rfl] at hpa
  obtain ⟨x, hx, e2⟩ := List.mem_map.1 (List.mem_of_getElem? ha)
  exact hno x (by simp [hx]) (by rw [Nd.p, e2]; exact prt_inj hpa)
set_option maxHeartbeats 2000000 in
set_option maxRecDepth 100000 in
theorem clear_any (r : Nd) (ns : List Nd) (B : Nat) (s : ByteArray) (m : Int) (w : World) (hM : Mem w B r ns) (HT : Hid (TreeS (entsN ns))) (hB : B ≤ w.heap.size) (hs : s.size ≤ 1048576) (hm : w.cell? ⟨14, 0, none⟩ = some (.int .i64 m)) :
    Calls Tryz.prog 79 #[.pointer (some ⟨r.nb, 0, none⟩), .string s] w fun ev w' => ev = .returned (.tuple #[]) ∧ Hid (∃ ns', Mem w' B r ns' ∧ entsN ns' = wo (entsN ns) s.data.toList false) ∧ Below B w w' := by
  have HM := hide hm
  have HMem := hide hM
  have HB := hide hB
  have HO : Hid (OkTo (entsN ns) ns.length) := hide (by have := (unhide HT).ok; rwa [show (entsN ns).length = ns.length from by simp [entsN]] at this)
  clear hm hM hB
  go_enter Tryz.func79, Tryz.ntmps79
  go_upto_region 1 with (go_at_call 39; refine (find_any r ns B s m _ (unhide HMem) HO hs (unhide HM)).mono ?_; rintro ev w2 ⟨v, rfl, HF, hB2⟩)
  have hM2 := (unhide HMem).below hB2
  have hBz := unhide HB
  rcases unhide HF with ⟨rfl, hno⟩ | ⟨x, hx, rfl, hxp⟩
  · have R : Hid (wo (entsN ns) s.data.toList false = entsN ns) := hide (wo_below (unhide HT) hM2.root hno)
    have HM2 := hide hM2
    clear HF hno hM2
    go_wp2_with fail
    go_end0
    exact ⟨rfl, hide ⟨ns, unhide HM2, (unhide R).symm⟩, hB2.mono hBz⟩
  · obtain ⟨hx1, hx2, hx3, hx4⟩ := hM2.all x hx
    have c4 : w2.cell? ⟨x.nb, 4, none⟩ = some (.map (some x.mb)) := cell_of_row w2 x.nb 4 _ _ _ hx3
    obtain ⟨w3, hrun, hown3, hturn3⟩ := hx4.clear
    have HX := hide hx
    have HXp := hide hxp
    have HM2 := hide hM2
    have HX2 := hide hx2
    have HO3 := hide hown3
    have HT3 := hide hturn3
    clear HF hM2 hx hxp hx3 hx4 hx1 hx2 hown3 hturn3
    go_wp2_with fail
    go_end0
    have hT := unhide HT
    have hxd : x.p = s.data.toList := unhide HXp
    have hturn3 := unhide HT3
    have hkx : x ∈ r :: woG Nd.p ns s.data.toList false := by
      rcases List.mem_cons.1 (unhide HX) with e | e
      · rw [e]; simp
      · refine List.mem_cons_of_mem _ (List.mem_filter.2 ⟨e, keepW_iff.2 ⟨fun hu => ?_, fun h => by cases h⟩⟩)
        rw [hxd] at hu; exact not_under_self _ hu
    have hk3 : KM w3 x.mb 0 (kidsN (woG Nd.p ns s.data.toList false) x.p) := by
      rw [hxd, kids_wo_clear hT]
      exact unhide HO3
    refine ⟨rfl, hide ⟨_, Mem.turn (unhide HM2) hkx (fun z hz => (List.mem_filter.1 hz).1) (apart_filter (unhide HM2).apart _) hturn3.grown hk3 (fun z hz hne => ?_), wo_nodes _ _ _⟩, (hB2.mono hBz).grown hturn3.grown (Nat.le_trans hBz hB2.size) (fun q hq => by cases hq; exact unhide HX2)⟩
    refine kids_wo_same hT ?_ (fun h => by cases h) (fun _ e => hne (nd_one hT (unhide HM2).root ?_ (unhide HX) (e.trans hxd.symm)))
    · rcases List.mem_cons.1 hz with e | e
      · have h0 : z.p = [] := by rw [e, Nd.p, (unhide HM2).root]; rfl
        rw [h0]; exact root_keep (fun h => by cases h)
      · exact (List.mem_filter.1 e).2
    · rcases List.mem_cons.1 hz with e | e
      · rw [e]; simp
      · exact List.mem_cons_of_mem _ (List.mem_filter.1 e).1
end Go.Proofs.YtjofjcjojgpaeaaGreatDoor
