import Derived.Test.YtjofjcjojgpaeaaGreatDoorJPatM
import Derived.Deep.RegionHeld3
import Derived.Test.YtjofjcjojgpaeaaGreatDoorJEntB
import Derived.Test.YtjofjcjojgpaeaaGreatDoorJEach
import Derived.LaidEql
import Derived.Test.YtjofjcjojgpaeaaGreatDoorJEqS
import Derived.Test.YtjofjcjojgpaeaaGreatDoorJChl
import Derived.Maps.AppendAt
namespace Go.Proofs.YtjofjcjojgpaeaaGreatDoor
open Go.RowKit Go.Maps

theorem find_kindS {r : Nd} {ns : List Nd} (h : TreeS (entsN ns)) (hr : r.ent = rootE) {p : List UInt8} {v : Value} (hv : FindIs r ns p v) : (v = .pointer none ∧ kindP (entsN ns) p ≠ 1) ∨ ∃ x ∈ r :: ns, v = .pointer (some ⟨x.nb, 0, none⟩) ∧ x.p = p ∧ kindP (entsN ns) p = x.ent.kind := by
  have hr0 : r.p = [] := by rw [Nd.p, hr]; rfl
  rcases hv with ⟨rfl, hno⟩ | ⟨x, hx, rfl, hp⟩
  · refine .inl ⟨rfl, fun hk => ?_⟩
    rcases (h.kind p).1 hk with h0 | ⟨d, hd, hdp, _⟩
    · exact hno r (by simp) (hr0.trans h0.symm)
    · obtain ⟨x, hx, rfl⟩ := List.mem_map.1 hd
      exact hno x (by simp [hx]) hdp
  · refine .inr ⟨x, hx, rfl, hp, ?_⟩
    rcases List.mem_cons.1 hx with e | e
    · rw [← hp, e, hr0, hr]; rfl
    · have hm : x.ent ∈ entsN ns := List.mem_map.2 ⟨x, e, rfl⟩
      have h0 := (ent_parts (h.ent x.ent hm)).1
      have hp0 : p ≠ [] := by rw [← hp]; exact h0
      rw [kindP_at hp0, ← hp]
      show (match atE (entsN ns) x.ent.path.data.toList with | some e => e.kind | none => 0) = _
      rw [h.at hm]
theorem apart_put {r : Nd} {ns : List Nd} {y : Nd} {both : Bool} (h : (r :: ns).Pairwise fun x y => x.mb ≠ y.mb) (hfr : ∀ z ∈ r :: putG Nd.p ns both y, z ≠ y → z.mb ≠ y.mb) (hry : r ≠ y) (hny : ∀ z ∈ ns, ltP z.p y.p = true ∨ ltP y.p z.p = true → z ≠ y) : (r :: putG Nd.p ns both y).Pairwise fun x y => x.mb ≠ y.mb := by
  have hc := List.pairwise_cons.1 h
  have k1 : ∀ z ∈ ns.filter (fun x => ltP x.p y.p), z.mb ≠ y.mb := fun z hz => hfr z (List.mem_cons_of_mem _ (put_mem.2 (.inr ⟨(List.mem_filter.1 hz).1, .inl (List.mem_filter.1 hz).2⟩))) (hny z (List.mem_filter.1 hz).1 (.inl (List.mem_filter.1 hz).2))
  have k2 : ∀ z ∈ ns.filter (fun x => keepPut both y.p x.p), z.mb ≠ y.mb := fun z hz => hfr z (List.mem_cons_of_mem _ (put_mem.2 (.inr ⟨(List.mem_filter.1 hz).1, .inr (List.mem_filter.1 hz).2⟩))) (hny z (List.mem_filter.1 hz).1 (.inr (keepPut_iff.1 (List.mem_filter.1 hz).2).1))
  refine List.pairwise_cons.2 ⟨fun z hz => ?_, ?_⟩
  · rcases put_mem.1 hz with e | ⟨e, _⟩
    · rw [e]; exact hfr r (by simp) hry
    · exact hc.1 z e
  · rw [putG, List.pairwise_append, List.pairwise_cons]
    refine ⟨hc.2.filter _, ⟨fun z hz => (k2 z hz).symm, hc.2.filter _⟩, fun a ha b hb => ?_⟩
    rcases List.mem_cons.1 hb with e | e
    · rw [e]; exact k1 a ha
    · have h1 := (List.mem_filter.1 ha)
      have h2 := (List.mem_filter.1 e)
      refine apart_ne hc.2 h2.1 h1.1 (fun e => ?_)
      have h3 := h1.2
      rw [e] at h3
      have := totP.trans h3 (keepPut_iff.1 h2.2).1
      rw [totP.irr] at this; cases this
/-- A node is laid in the place of what was there. -/
theorem Mem.put {w w' : World} {B : Nat} {r : Nd} {ns : List Nd} {x y : Nd} (h : Mem w B r ns) (hT : TreeS (entsN ns)) (hx : x ∈ r :: ns) (hxd : x.p = dirOf y.p) (hy : Parted y.p) (hy1 : B ≤ y.nb) (hy2 : B ≤ y.mb) (hyc : w.heap[y.nb]? = some (.cells y.cells 79 (0, 0))) (hyk : KM w y.mb 0 []) (hfr : ∀ z ∈ r :: ns, z.mb ≠ y.mb) (hg : w.grownBy w' (some x.mb)) {n : Nat} (hk : KM w' x.mb n (kidsN (putG Nd.p ns false y) x.p)) : Mem w' B r (putG Nd.p ns false y) := by
  have hr0 : r.p = [] := by rw [Nd.p, h.root]; rfl
  have hy0 : y.p ≠ [] := fun e => by
    have h5 := congrArg List.length (show prt y.p = _ from hy)
    rw [e] at h5
    simp [prt] at h5
  obtain ⟨_, _, hx3, hx4⟩ := h.all x hx
  have hap : (r :: putG Nd.p ns false y).Pairwise fun x y => x.mb ≠ y.mb := by
    refine apart_put h.apart (fun z hz hne => ?_) (fun e => hy0 (by rw [← e]; exact hr0)) (fun z _ hl e => ?_)
    · rcases List.mem_cons.1 hz with e | e
      · rw [e]; exact hfr r (by simp)
      · rcases put_mem.1 e with e | ⟨e, _⟩
        · exact absurd e hne
        · exact hfr z (by simp [e])
    · rw [e, totP.irr] at hl
      rcases hl with hl | hl <;> cases hl
  refine ⟨h.root, fun z hz => ?_, hap⟩
  have key : z = y ∨ (z ∈ r :: ns ∧ z.p ≠ y.p ∧ ¬ under y.p z.p) := by
    rcases List.mem_cons.1 hz with e | e
    · right
      refine ⟨by rw [e]; simp, by rw [e, hr0]; exact hy0.symm, fun ⟨a, u, e1⟩ => ?_⟩
      rw [e, hr0] at e1
      simp [prt] at e1
    · rcases put_mem.1 e with e | ⟨e, h1 | h1⟩
      · exact .inl e
      · refine .inr ⟨by simp [e], fun e2 => ?_, fun hu => ?_⟩
        · rw [e2, totP.irr] at h1; cases h1
        · rw [under_not_lt hu] at h1; cases h1
      · have h2 := keepPut_iff.1 h1
        refine .inr ⟨by simp [e], fun e2 => ?_, fun hu => ?_⟩
        · rw [e2, totP.irr] at h2; cases h2.1
        · rcases h2.2 with h3 | h3
          · cases h3
          · exact h3 hu
  rcases key with e | ⟨hm, hp1, hp2⟩
  · rw [e]
    have hne := (ne_mb hx4 hyc hyc).1
    refine ⟨hy1, hy2, (hg.block y.nb (Array.getElem?_eq_some_iff.1 hyc).1 (by simpa using hne)).trans hyc, ?_⟩
    rw [kids_put_own hT hy]
    exact KM.fit (World.ownsMap.kept (row := some x.mb) hyk hg (fun e => hfr x hx (Option.some.inj e).symm)) (by simp)
  · obtain ⟨h1, h2, h3, h4⟩ := h.all z hm
    have hne := (ne_mb hx4 h3 h3).1
    refine ⟨h1, h2, (hg.block z.nb (Array.getElem?_eq_some_iff.1 h3).1 (by simpa using hne)).trans h3, ?_⟩
    by_cases hzx : z = x
    · rw [hzx]; exact hk.fit (kids_len _ _)
    · have hq : z.p ≠ dirOf y.p := fun e => hzx (nd_one hT h.root hm hx (e.trans hxd.symm))
      have e5 := kids_put_same hT hq hp1 hp2
      have h6 := kids_len (putG Nd.p ns false y) z.p
      rw [e5] at h6 ⊢
      exact KM.fit (World.ownsMap.kept (row := some x.mb) h4 hg (fun e => apart_ne h.apart hx hm hzx (Option.some.inj e))) h6
/-- The entry of a node is written over. -/
theorem Mem.over {w w' : World} {B : Nat} {r : Nd} {ns : List Nd} {z : Nd} {e : Ent} (h : Mem w B r ns) (hT : TreeS (entsN ns)) (hz : z ∈ ns) (hzp : z.p = e.path.data.toList) (hc : w'.heap[z.nb]? = some (.cells (Nd.cells ⟨e, z.nb, z.mb⟩) 79 (0, 0))) (ho : ∀ k, k ≠ z.nb → w'.heap[k]? = w.heap[k]?) : Mem w' B r (putG Nd.p ns true ⟨e, z.nb, z.mb⟩) := by
  have hr0 : r.p = [] := by rw [Nd.p, h.root]; rfl
  obtain ⟨hz1, hz2, hz3, hz4⟩ := h.all z (by simp [hz])
  have hz0 : z.p ≠ [] := (ent_parts (hT.ent z.ent (List.mem_map.2 ⟨z, hz, rfl⟩))).1
  have hyp : Nd.p ⟨e, z.nb, z.mb⟩ = z.p := hzp.symm
  have kKM : ∀ {b n L}, KM w b n L → KM w' b n L := fun {b n L} hk => by
    have hne := (ne_mb hk hz3 hz3).1
    obtain ⟨es, clock, hb, F, hs, hD⟩ := hk
    exact ⟨es, clock, (ho b hne.symm).trans hb, F, hs, hD⟩
  have hnb : ∀ u ∈ r :: ns, u.p ≠ z.p → u.nb ≠ z.nb ∧ u.mb ≠ z.mb := fun u hu hp => by
    have hmb := apart_ne h.apart (x := z) (z := u) (by simp [hz]) hu (fun e => hp (by rw [e]))
    refine ⟨fun en => hmb ?_, hmb⟩
    have h3 := (h.all u hu).2.2.1
    rw [en, hz3] at h3
    have h4 := congrArg (fun o => match o with | some (Obj.cells cs _ _) => cs[4]? | _ => none) h3
    simp [Nd.cells] at h4
    exact h4.symm
  have sub : ∀ u ∈ r :: putG Nd.p ns true ⟨e, z.nb, z.mb⟩, u = ⟨e, z.nb, z.mb⟩ ∨ (u ∈ r :: ns ∧ u.p ≠ z.p) := fun u hu => by
    rcases List.mem_cons.1 hu with e1 | e1
    · exact .inr ⟨by rw [e1]; simp, by rw [e1, hr0]; exact hz0.symm⟩
    · rcases put_mem.1 e1 with e2 | ⟨e2, h1 | h1⟩
      · exact .inl e2
      · rw [hyp] at h1
        exact .inr ⟨by simp [e2], fun e3 => by rw [e3, totP.irr] at h1; cases h1⟩
      · rw [hyp] at h1
        exact .inr ⟨by simp [e2], fun e3 => by have := (keepPut_iff.1 h1).1; rw [e3, totP.irr] at this; cases this⟩
  refine ⟨h.root, fun u hu => ?_, ?_⟩
  · have hl := kids_len (putG Nd.p ns true ⟨e, z.nb, z.mb⟩) u.p
    rw [kids_both hT hz hyp rfl] at hl ⊢
    rcases sub u hu with e1 | ⟨e1, e2⟩
    · subst e1
      refine ⟨hz1, hz2, hc, ?_⟩
      rw [hyp] at hl ⊢
      exact (kKM hz4).fit hl
    · obtain ⟨h1, h2, h3, h4⟩ := h.all u e1
      exact ⟨h1, h2, (ho _ (hnb u e1 e2).1).trans h3, (kKM h4).fit hl⟩
  · refine apart_put h.apart (fun u hu hne => ?_) (fun e1 => hz0 (by rw [← hyp, ← e1]; exact hr0)) (fun u _ hl e1 => ?_)
    · rcases sub u hu with e1 | ⟨e1, e2⟩
      · exact absurd e1 hne
      · exact (hnb u e1 e2).2
    · rw [e1, totP.irr] at hl
      rcases hl with hl | hl <;> cases hl
theorem both_none {ns : List Nd} {x : Nd} {e : Ent} {nn : List UInt8} (h : TreeS (entsN ns)) (he : entOk e = true) (hxd : x.p = dirOf e.path.data.toList) (hnn : nn = nameOf e.path.data.toList) (hno : ∀ p ∈ kidsN ns x.p, p.1 ≠ nn) : bothE (entsN ns) e = false := by
  have hk : ¬ kindP (entsN ns) e.path.data.toList = 1 := fun hk => by
    rcases (h.kind _).1 hk with h0 | ⟨d, hd, hdp, _⟩
    · exact (ent_parts he).1 h0
    · obtain ⟨z, hz, rfl⟩ := List.mem_map.1 hd
      have h2 := kids_in hz
      have hzp : z.p = e.path.data.toList := hdp
      rw [hzp, ← hxd] at h2
      exact hno _ h2 hnn.symm
  rw [bothE, decide_eq_false hk]; rfl
theorem both_some {ns : List Nd} {z : Nd} {e : Ent} (h : TreeS (entsN ns)) (hz : z ∈ ns) (hzp : z.p = e.path.data.toList) : bothE (entsN ns) e = (decide (z.ent.kind = 1) && decide (e.kind = 1)) := by
  have hm : z.ent ∈ entsN ns := List.mem_map.2 ⟨z, hz, rfl⟩
  have h0 := (ent_parts (h.ent z.ent hm)).1
  have hzp' : z.ent.path.data.toList = e.path.data.toList := hzp
  rw [bothE, kindP_at (by rw [← hzp']; exact h0), ← hzp', h.at hm]

set_option maxHeartbeats 2000000 in
set_option maxRecDepth 100000 in
theorem put_any (r : Nd) (ns : List Nd) (B : Nat) (e : Ent) (m : Int) (w : World) (hM : Mem w B r ns) (HT : Hid (TreeS (entsN ns))) (HE : Hid (entOk e = true)) (hn : ns.length ≤ 1000) (hB : B ≤ w.heap.size) (hs : e.path.size ≤ 1048576) (hm : w.cell? ⟨14, 0, none⟩ = some (.int .i64 m)) :
    Calls Tryz.prog 37 #[.pointer (some ⟨r.nb, 0, none⟩), .agg #[.string e.path, .int .i64 e.kind, .int .i64 e.mode, .string e.data]] w fun ev w' => ∃ b : Bool, ev = .returned (.bool b) ∧ Hid (b = decide (kindP (entsN ns) (dirOf e.path.data.toList) = 1)) ∧ Hid (b = true → ∃ ns', Mem w' B r ns' ∧ entsN ns' = putE (entsN ns) e) ∧ Below B w w' := by
  have HM := hide hm
  have HMem := hide hM
  have HB := hide hB
  have hB0 : ∀ o, Below w.heap.size w (w.alloc o) := fun o => (Below.refl _ _).alloc (Nat.le_refl _) o
  have HO : Hid (OkTo (entsN ns) ns.length) := hide (by have := (unhide HT).ok; rwa [show (entsN ns).length = ns.length from by simp [entsN]] at this)
  clear hm hM hB
  go_enter Tryz.func37, Tryz.ntmps37
  go_upto_region 2 with (go_at_call 66; refine (last_any e.path _ (by omega)).mono ?_; rintro ev w1 ⟨dd, nn, rfl, HD, HNm, hb1⟩)
  have hB1 : Below w.heap.size w w1 := (hB0 _).trans (hb1.mono (by simp))
  have hq := (hb1.block w.heap.size (by simp)).trans (heap_alloc_new _ _)
  have hdd : dd.size ≤ 1048576 := by rw [Lib.size_eq, unhide HD]; exact Nat.le_trans (dir_le _) (by rw [← Lib.size_eq]; exact hs)
  have hnn : nn.size ≤ 1048576 := by rw [Lib.size_eq, unhide HNm]; exact Nat.le_trans (name_le _) (by rw [← Lib.size_eq]; exact hs)
  have HQ := hide hq
  clear hq hb1
  go_upto_region 3 with (go_at_call 39; refine (find_any r ns B dd m _ ((unhide HMem).below hB1) HO hdd (cell_later hB1 (unhide HM))).mono ?_; rintro ev w2 ⟨v, rfl, HF, hb2⟩)
  have hB2 : Below w.heap.size w w2 := hB1.trans (hb2.mono hB1.size)
  have hq2 : w2.heap[w.heap.size]? = some (.cells #[.string e.path, .int .i64 e.kind, .int .i64 e.mode, .string e.data] 47 (0, 0)) := (hb2.block w.heap.size (Array.getElem?_eq_some_iff.1 (unhide HQ)).1).trans (unhide HQ)
  have hM2 := (unhide HMem).below hB2
  have hBz := unhide HB
  rcases find_kindS (unhide HT) hM2.root (unhide HF) with ⟨rfl, hk⟩ | ⟨x, hx, rfl, hxp, hk⟩
  · have C : Hid (false = decide (kindP (entsN ns) (dirOf e.path.data.toList) = 1)) := hide (by rw [← unhide HD]; exact (decide_eq_false hk).symm)
    clear hk HF hM2 hq2 HQ
    go_wp2_with (go_at_call 67; refine (isDir_nil _).mono ?_; rintro ev w3 ⟨rfl, hw⟩; obtain rfl := hw.symm)
    go_ret
    exact ⟨false, rfl, C, hide (by intro h; cases h), hB2.mono hBz⟩
  · obtain ⟨hx1, hx2, hx3, hx4⟩ := hM2.all x hx
    have c1 : w2.cell? ⟨x.nb, 1, none⟩ = some (.int .i64 x.ent.kind) := cell_of_row w2 x.nb 1 _ _ _ hx3
    have c4 : w2.cell? ⟨x.nb, 4, none⟩ = some (.map (some x.mb)) := cell_of_row w2 x.nb 4 _ _ _ hx3
    have q0 : w2.cell? ⟨w.heap.size, 0, none⟩ = some (.string e.path) := cell_of_row w2 w.heap.size 0 _ _ _ hq2
    have q1 : w2.cell? ⟨w.heap.size, 1, none⟩ = some (.int .i64 e.kind) := cell_of_row w2 w.heap.size 1 _ _ _ hq2
    have q2 : w2.cell? ⟨w.heap.size, 2, none⟩ = some (.int .i64 e.mode) := cell_of_row w2 w.heap.size 2 _ _ _ hq2
    have q3 : w2.cell? ⟨w.heap.size, 3, none⟩ = some (.string e.data) := cell_of_row w2 w.heap.size 3 _ _ _ hq2
    by_cases k1 : x.ent.kind = 1
    · have C : Hid (true = decide (kindP (entsN ns) (dirOf e.path.data.toList) = 1)) := hide (by rw [← unhide HD, hk, k1]; rfl)
      have k2 : (x.ent.kind == 1) = true := by simp [k1]
      rw [k1] at c1
      have HX := hide hx
      have HXp := hide hxp
      have HX4 := hide hx4
      have HM2 := hide hM2
      have HX3 := hide hx3
      have HQ2 := hide hq2
      have HXd : Hid (x.p = dirOf e.path.data.toList) := hide (hxp.trans (unhide HD))
      rcases hx4.look nn (by omega) false with ⟨hlk, hno⟩ | ⟨q, hq, hlk⟩
      · have HBo : Hid (bothE (entsN ns) e = false) := hide (both_none (unhide HT) (unhide HE) (unhide HXd) (unhide HNm) hno)
        simp only [Bool.false_eq_true, if_false] at hlk
        clear hx hxp hx4 hM2 hk HF hx3 hq2 hx1 hx2 hno
        go_upto_region 5 with (go_at_call 67; refine (isDir_at _ _ _ c1).mono ?_; rintro ev w3 ⟨rfl, hw⟩; obtain rfl := hw.symm)
        go_upto_region 8 with (go_at_call 67; refine (isDir_nil _).mono ?_; rintro ev w3 ⟨rfl, hw⟩; obtain rfl := hw.symm)
        go_region_held3 (fun w' => w'.cell? ⟨x.nb, 4, none⟩ = some (.map (some x.mb)) ∧ w'.cell? ⟨w.heap.size, 0, none⟩ = some (.string e.path) ∧ w'.cell? ⟨w.heap.size, 1, none⟩ = some (.int .i64 e.kind) ∧ w'.cell? ⟨w.heap.size, 2, none⟩ = some (.int .i64 e.mode) ∧ w'.cell? ⟨w.heap.size, 3, none⟩ = some (.string e.data))
          (first | exact ⟨keep_grown hg6 p4 (unhide HNE).1, keep_grown hg6 p0 (unhide HNE).2, keep_grown hg6 p1 (unhide HNE).2, keep_grown hg6 p2 (unhide HNE).2, keep_grown hg6 p3 (unhide HNE).2⟩ | exact ⟨p4, p0, p1, p2, p3⟩ | go_keep)
          (first | (go_at_call 60; refine (newNode_any e _).mono ?_; rintro ev w5 ⟨nb, mb, rfl, hnb, hmb, HN5, hb5⟩; have p4 := cell_later (chain0 hb5) c4; have p0 := cell_later (chain0 hb5) q0; have p1 := cell_later (chain0 hb5) q1; have p2 := cell_later (chain0 hb5) q2; have p3 := cell_later (chain0 hb5) q3; obtain ⟨w6, hrun6, hown6, hg6⟩ := World.ownsMap.update ((unhide HX4).below (chain0 hb5)) (Maps.string_keyed Tryz.underlying9) Tryz.underlying77 (by unfold maxLen; omega) (WideMaps.keyOf_string_mk Tryz.underlying9 (s := nn) (by unfold maxLen; omega)) (show RK (.pointer (some ⟨nb, 0, none⟩)) = some (.lit (.int .i64 (nb : Int)), []) from rfl); have HNE : Hid (x.nb ≠ x.mb ∧ w.heap.size ≠ x.mb) := hide (ne_mb (unhide HX4) (unhide HX3) (unhide HQ2))))
        have hxx := (unhide HM2).all x (unhide HX)
        have R1 : Below B w w5 := (hB2.mono hBz).trans (Below.mono (B' := B) (chain0 hb5) (Nat.le_trans hBz hB2.size))
        have R2 : Below B w w6 := R1.grown hg6 (Nat.le_trans hBz R1.size) (fun q hq => by cases hq; exact hxx.2.1)
        have hPy : Parted (Nd.p ⟨e, nb, mb⟩) := parted_of (unhide HE)
        have R3 : KM w6 x.mb (ns.length + 1) (kidsN (putG Nd.p ns false ⟨e, nb, mb⟩) x.p) := by
          have h := hown6
          rw [unhide HNm, DK_mid (kids_sort (unhide HT) x.p)] at h
          rw [unhide HXd] at h ⊢
          rw [show dirOf e.path.data.toList = dirOf (Nd.p ⟨e, nb, mb⟩) from rfl, kids_put_dir (unhide HT) hPy]
          exact h
        have hz2 : B ≤ w2.heap.size := Nat.le_trans hBz hB2.size
        have hnb' : w2.heap.size ≤ nb := hnb
        have hmb' : w2.heap.size ≤ mb := hmb
        have R4 : Mem w6 B r (putG Nd.p ns false ⟨e, nb, mb⟩) := Mem.put ((unhide HM2).below (chain0 hb5)) (unhide HT) (unhide HX) (unhide HXd) hPy (Nat.le_trans hz2 hnb') (Nat.le_trans hz2 hmb') (unhide HN5).1 (unhide HN5).2
          (fun z hz => by have := World.ownsMap.lt ((unhide HM2).all z hz).2.2.2; show z.mb ≠ mb; omega) hg6 R3
        go_wp2_with fail
        go_ret
        exact ⟨true, rfl, C, hide (fun _ => ⟨_, R4, by rw [put_nodes, putE, unhide HBo]⟩), R2⟩
      · obtain ⟨z, hz, hzd, hzn, hzq⟩ := kids_mem hq
        subst hzq
        obtain ⟨_, _, hz3, _⟩ := hM2.all z (by simp [hz])
        have z1 : w2.cell? ⟨z.nb, 1, none⟩ = some (.int .i64 z.ent.kind) := cell_of_row w2 z.nb 1 _ _ _ hz3
        have HZp : Hid (z.p = e.path.data.toList) := hide ((nd_parted (unhide HT) hz).eq (parted_of (unhide HE)) (hzd.trans (unhide HXd)) (hzn.trans (unhide HNm)))
        have HZ := hide hz
        have HZ3 := hide hz3
        simp only [Bool.false_eq_true, if_false] at hlk
        by_cases hb : z.ent.kind = 1 ∧ e.kind = 1
        · obtain ⟨kz, ke⟩ := hb
          have HBo : Hid (bothE (entsN ns) e = true) := hide (by rw [both_some (unhide HT) (unhide HZ) (unhide HZp), kz, ke]; rfl)
          rw [kz] at z1
          have hq1 := q1
          rw [ke] at hq1
          have z0 : w2.cell? ⟨z.nb, 0, none⟩ = some (.string z.ent.path) := cell_of_row w2 z.nb 0 _ _ _ hz3
          have f0 := frozen_of_row w2 z.nb 0 _ _ hz3
          have f1 := frozen_of_row w2 z.nb 1 _ _ hz3
          have f2 := frozen_of_row w2 z.nb 2 _ _ hz3
          have f3 := frozen_of_row w2 z.nb 3 _ _ hz3
          have HZ1 := hide hz3
          have m1 := heap_setCell_same w2 z.nb 0 _ _ (.string e.path) hz3
          have m2 := heap_setCell_same _ z.nb 1 _ _ (.int .i64 1) m1
          have m3 := heap_setCell_same _ z.nb 2 _ _ (.int .i64 e.mode) m2
          have m4 := heap_setCell_same _ z.nb 3 _ _ (.string e.data) m3
          have t1 : (w2.setCell ⟨z.nb, 0, none⟩ (.string e.path)).cell? ⟨z.nb, 1, none⟩ = some (.int .i64 z.ent.kind) := cell_of_row _ z.nb 1 _ _ _ m1
          have t2 : ((w2.setCell ⟨z.nb, 0, none⟩ (.string e.path)).setCell ⟨z.nb, 1, none⟩ (.int .i64 1)).cell? ⟨z.nb, 2, none⟩ = some (.int .i64 z.ent.mode) := cell_of_row _ z.nb 2 _ _ _ m2
          have t3 : (((w2.setCell ⟨z.nb, 0, none⟩ (.string e.path)).setCell ⟨z.nb, 1, none⟩ (.int .i64 1)).setCell ⟨z.nb, 2, none⟩ (.int .i64 e.mode)).cell? ⟨z.nb, 3, none⟩ = some (.string z.ent.data) := cell_of_row _ z.nb 3 _ _ _ m3
          have HC : Hid (((((w2.setCell ⟨z.nb, 0, none⟩ (.string e.path)).setCell ⟨z.nb, 1, none⟩ (.int .i64 1)).setCell ⟨z.nb, 2, none⟩ (.int .i64 e.mode)).setCell ⟨z.nb, 3, none⟩ (.string e.data)).heap[z.nb]? = some (.cells (Nd.cells ⟨e, z.nb, z.mb⟩) 79 (0, 0))) := hide (by rw [m4, Nd.cells, Nd.cells, ke]; rfl)
          have hzb : B ≤ z.nb := (hM2.all z (by simp [hz])).1
          clear m1 m2 m3 m4
          clear hx hxp hx4 hM2 hk HF hx3 hq2 hx1 hx2 hq hz hz3 hzd hzn q1
          go_upto_region 5 with (go_at_call 67; refine (isDir_at _ _ _ c1).mono ?_; rintro ev w3 ⟨rfl, hw⟩; obtain rfl := hw.symm)
          go_wp2_with (go_at_call 67; refine (isDir_at _ _ _ z1).mono ?_; rintro ev w3 ⟨rfl, hw⟩; obtain rfl := hw.symm)
          go_ret
          refine ⟨true, rfl, C, hide (fun _ => ⟨_, Mem.over (unhide HM2) (unhide HT) (unhide HZ) (unhide HZp) (unhide HC) (fun k hk => ?_), by rw [put_nodes, putE, unhide HBo]⟩), ((((hB2.mono hBz).setCell hzb _).setCell hzb _).setCell hzb _).setCell hzb _⟩
          rw [heap_setCell_other _ _ _ _ hk, heap_setCell_other _ _ _ _ hk, heap_setCell_other _ _ _ _ hk, heap_setCell_other _ _ _ _ hk]
        · have HBo : Hid (bothE (entsN ns) e = false) := hide (by
            rw [both_some (unhide HT) (unhide HZ) (unhide HZp)]
            cases h1 : decide (z.ent.kind = 1) <;> cases h2 : decide (e.kind = 1)
            · rfl
            · rfl
            · rfl
            · exact absurd ⟨of_decide_eq_true h1, of_decide_eq_true h2⟩ hb)
          clear hx hxp hx4 hM2 hk HF hx3 hq2 hx1 hx2 hq hz hz3 hzd hzn
          by_cases kz : z.ent.kind = 1
          · have ke : ¬ e.kind = 1 := fun h => hb ⟨kz, h⟩
            have ke' : (e.kind == 1) = false := by simp [ke]
            rw [kz] at z1
            clear hb
            go_upto_region 5 with (go_at_call 67; refine (isDir_at _ _ _ c1).mono ?_; rintro ev w3 ⟨rfl, hw⟩; obtain rfl := hw.symm)
            go_upto_region 8 with (go_at_call 67; refine (isDir_at _ _ _ z1).mono ?_; rintro ev w3 ⟨rfl, hw⟩; obtain rfl := hw.symm)
            go_region_held3 (fun w' => w'.cell? ⟨x.nb, 4, none⟩ = some (.map (some x.mb)) ∧ w'.cell? ⟨w.heap.size, 0, none⟩ = some (.string e.path) ∧ w'.cell? ⟨w.heap.size, 1, none⟩ = some (.int .i64 e.kind) ∧ w'.cell? ⟨w.heap.size, 2, none⟩ = some (.int .i64 e.mode) ∧ w'.cell? ⟨w.heap.size, 3, none⟩ = some (.string e.data))
              (first | exact ⟨keep_grown hg6 p4 (unhide HNE).1, keep_grown hg6 p0 (unhide HNE).2, keep_grown hg6 p1 (unhide HNE).2, keep_grown hg6 p2 (unhide HNE).2, keep_grown hg6 p3 (unhide HNE).2⟩ | exact ⟨p4, p0, p1, p2, p3⟩ | go_keep)
              (first | (go_at_call 60; refine (newNode_any e _).mono ?_; rintro ev w5 ⟨nb, mb, rfl, hnb, hmb, HN5, hb5⟩; have p4 := cell_later (chain0 hb5) c4; have p0 := cell_later (chain0 hb5) q0; have p1 := cell_later (chain0 hb5) q1; have p2 := cell_later (chain0 hb5) q2; have p3 := cell_later (chain0 hb5) q3; obtain ⟨w6, hrun6, hown6, hg6⟩ := World.ownsMap.update ((unhide HX4).below (chain0 hb5)) (Maps.string_keyed Tryz.underlying9) Tryz.underlying77 (by unfold maxLen; omega) (WideMaps.keyOf_string_mk Tryz.underlying9 (s := nn) (by unfold maxLen; omega)) (show RK (.pointer (some ⟨nb, 0, none⟩)) = some (.lit (.int .i64 (nb : Int)), []) from rfl); have HNE : Hid (x.nb ≠ x.mb ∧ w.heap.size ≠ x.mb) := hide (ne_mb (unhide HX4) (unhide HX3) (unhide HQ2))))
            have hxx := (unhide HM2).all x (unhide HX)
            have R1 : Below B w w5 := (hB2.mono hBz).trans (Below.mono (B' := B) (chain0 hb5) (Nat.le_trans hBz hB2.size))
            have R2 : Below B w w6 := R1.grown hg6 (Nat.le_trans hBz R1.size) (fun q hq => by cases hq; exact hxx.2.1)
            have hPy : Parted (Nd.p ⟨e, nb, mb⟩) := parted_of (unhide HE)
            have R3 : KM w6 x.mb (ns.length + 1) (kidsN (putG Nd.p ns false ⟨e, nb, mb⟩) x.p) := by
              have h := hown6
              rw [unhide HNm, DK_mid (kids_sort (unhide HT) x.p)] at h
              rw [unhide HXd] at h ⊢
              rw [show dirOf e.path.data.toList = dirOf (Nd.p ⟨e, nb, mb⟩) from rfl, kids_put_dir (unhide HT) hPy]
              exact h
            have hz2 : B ≤ w2.heap.size := Nat.le_trans hBz hB2.size
            have hnb' : w2.heap.size ≤ nb := hnb
            have hmb' : w2.heap.size ≤ mb := hmb
            have R4 : Mem w6 B r (putG Nd.p ns false ⟨e, nb, mb⟩) := Mem.put ((unhide HM2).below (chain0 hb5)) (unhide HT) (unhide HX) (unhide HXd) hPy (Nat.le_trans hz2 hnb') (Nat.le_trans hz2 hmb') (unhide HN5).1 (unhide HN5).2
              (fun z hz => by have := World.ownsMap.lt ((unhide HM2).all z hz).2.2.2; show z.mb ≠ mb; omega) hg6 R3
            go_wp2_with fail
            go_ret
            exact ⟨true, rfl, C, hide (fun _ => ⟨_, R4, by rw [put_nodes, putE, unhide HBo]⟩), R2⟩
          · have hDz : Calls Tryz.prog 67 #[.pointer (some ⟨z.nb, 0, none⟩)] w2 fun ev w' => ev = .returned (.bool false) ∧ w' = w2 := by have := isDir_at _ _ _ z1; rw [decide_eq_false kz] at this; exact this
            clear hb kz z1
            go_upto_region 5 with (go_at_call 67; refine (isDir_at _ _ _ c1).mono ?_; rintro ev w3 ⟨rfl, hw⟩; obtain rfl := hw.symm)
            go_upto_region 8 with (go_at_call 67; refine hDz.mono ?_; rintro ev w3 ⟨rfl, hw⟩; obtain rfl := hw.symm)
            go_region_held3 (fun w' => w'.cell? ⟨x.nb, 4, none⟩ = some (.map (some x.mb)) ∧ w'.cell? ⟨w.heap.size, 0, none⟩ = some (.string e.path) ∧ w'.cell? ⟨w.heap.size, 1, none⟩ = some (.int .i64 e.kind) ∧ w'.cell? ⟨w.heap.size, 2, none⟩ = some (.int .i64 e.mode) ∧ w'.cell? ⟨w.heap.size, 3, none⟩ = some (.string e.data))
              (first | exact ⟨keep_grown hg6 p4 (unhide HNE).1, keep_grown hg6 p0 (unhide HNE).2, keep_grown hg6 p1 (unhide HNE).2, keep_grown hg6 p2 (unhide HNE).2, keep_grown hg6 p3 (unhide HNE).2⟩ | exact ⟨p4, p0, p1, p2, p3⟩ | go_keep)
              (first | (go_at_call 60; refine (newNode_any e _).mono ?_; rintro ev w5 ⟨nb, mb, rfl, hnb, hmb, HN5, hb5⟩; have p4 := cell_later (chain0 hb5) c4; have p0 := cell_later (chain0 hb5) q0; have p1 := cell_later (chain0 hb5) q1; have p2 := cell_later (chain0 hb5) q2; have p3 := cell_later (chain0 hb5) q3; obtain ⟨w6, hrun6, hown6, hg6⟩ := World.ownsMap.update ((unhide HX4).below (chain0 hb5)) (Maps.string_keyed Tryz.underlying9) Tryz.underlying77 (by unfold maxLen; omega) (WideMaps.keyOf_string_mk Tryz.underlying9 (s := nn) (by unfold maxLen; omega)) (show RK (.pointer (some ⟨nb, 0, none⟩)) = some (.lit (.int .i64 (nb : Int)), []) from rfl); have HNE : Hid (x.nb ≠ x.mb ∧ w.heap.size ≠ x.mb) := hide (ne_mb (unhide HX4) (unhide HX3) (unhide HQ2))))
            have hxx := (unhide HM2).all x (unhide HX)
            have R1 : Below B w w5 := (hB2.mono hBz).trans (Below.mono (B' := B) (chain0 hb5) (Nat.le_trans hBz hB2.size))
            have R2 : Below B w w6 := R1.grown hg6 (Nat.le_trans hBz R1.size) (fun q hq => by cases hq; exact hxx.2.1)
            have hPy : Parted (Nd.p ⟨e, nb, mb⟩) := parted_of (unhide HE)
            have R3 : KM w6 x.mb (ns.length + 1) (kidsN (putG Nd.p ns false ⟨e, nb, mb⟩) x.p) := by
              have h := hown6
              rw [unhide HNm, DK_mid (kids_sort (unhide HT) x.p)] at h
              rw [unhide HXd] at h ⊢
              rw [show dirOf e.path.data.toList = dirOf (Nd.p ⟨e, nb, mb⟩) from rfl, kids_put_dir (unhide HT) hPy]
              exact h
            have hz2 : B ≤ w2.heap.size := Nat.le_trans hBz hB2.size
            have hnb' : w2.heap.size ≤ nb := hnb
            have hmb' : w2.heap.size ≤ mb := hmb
            have R4 : Mem w6 B r (putG Nd.p ns false ⟨e, nb, mb⟩) := Mem.put ((unhide HM2).below (chain0 hb5)) (unhide HT) (unhide HX) (unhide HXd) hPy (Nat.le_trans hz2 hnb') (Nat.le_trans hz2 hmb') (unhide HN5).1 (unhide HN5).2
              (fun z hz => by have := World.ownsMap.lt ((unhide HM2).all z hz).2.2.2; show z.mb ≠ mb; omega) hg6 R3
            go_wp2_with fail
            go_ret
            exact ⟨true, rfl, C, hide (fun _ => ⟨_, R4, by rw [put_nodes, putE, unhide HBo]⟩), R2⟩
    · have C : Hid (false = decide (kindP (entsN ns) (dirOf e.path.data.toList) = 1)) := hide (by rw [← unhide HD, hk]; exact (decide_eq_false k1).symm)
      have k2 : (x.ent.kind == 1) = false := by simp [k1]
      clear hk HF hM2 hq2 HQ hx hxp
      go_wp2_with (go_at_call 67; refine (isDir_at _ _ _ c1).mono ?_; rintro ev w3 ⟨rfl, hw⟩; obtain rfl := hw.symm)
      go_ret
      exact ⟨false, rfl, C, hide (by intro h; cases h), hB2.mono hBz⟩
end Go.Proofs.YtjofjcjojgpaeaaGreatDoor

namespace Go.Proofs.YtjofjcjojgpaeaaGreatDoor
open Go.RowKit Go.Maps Go.Sort Go.Shelf
attribute [local go_sem] Oper.semAt_some

theorem ptr67 : Tryz.prog.underlying 64 = some (.pointer 79) := by kernel_rfl
theorem info87 : (Tryz.prog.info? 79).map (fun i => i.size) = some 5 := by kernel_rfl
theorem size87 : ∃ j, Tryz.prog.info? 79 = some j ∧ j.size = 5 := by
  have h := info87
  cases hj : Tryz.prog.info? 79 with
  | none => rw [hj] at h; cases h
  | some j => rw [hj] at h; exact ⟨j, rfl, by simpa using h⟩
theorem neq67_same (w : World) (a : Addr) : (binOp .neq 64 (.pointer (some a)) (.pointer (some a))).run Tryz.prog w = .ok (.bool false) w := by
  obtain ⟨j, hj, hz⟩ := size87
  have h : ∀ d : Nat, (Op.equalIn (d + 1) 64 (.pointer (some a)) (.pointer (some a))).run Tryz.prog w = .ok true w := fun d => by
    simp [Op.equalIn, run_underlying ptr67, sizeOf, typeInfo, hj, run_sameAddr_same]
  simp only [binOp]
  simp [Op.equal, Op.maxDepth, h 9999]
theorem neq67_other (w : World) {a b : Nat} {ca cb : Array Value} {ta tb : TypeId} (hne : a ≠ b) (ha : w.heap[a]? = some (.cells ca ta (0, 0))) (hb : w.heap[b]? = some (.cells cb tb (0, 0))) : (binOp .neq 64 (.pointer (some ⟨a, 0, none⟩)) (.pointer (some ⟨b, 0, none⟩))).run Tryz.prog w = .ok (.bool true) w := by
  obtain ⟨j, hj, hz⟩ := size87
  have hs := run_sameAddr_other (P := Tryz.prog) (w := w) (a := ⟨a, 0, none⟩) (b := ⟨b, 0, none⟩) (fun e => hne (by cases e; rfl)) ha hb
  have h : ∀ d : Nat, (Op.equalIn (d + 1) 64 (.pointer (some ⟨a, 0, none⟩)) (.pointer (some ⟨b, 0, none⟩))).run Tryz.prog w = .ok false w := fun d => by
    simp [Op.equalIn, run_underlying ptr67, sizeOf, typeInfo, hj, hz, hs]
  simp only [binOp]
  simp [Op.equal, Op.maxDepth, h 9999]
/-- The count of the nodes gone through, the root aside; and the box of the root. -/
def CntJ (w : World) (r : Nd) (pre : List Nd) (W : World) : Prop := Boxed W (w.heap.size + 1) 3 (.int .i64 ((pre.length - 1 : Nat) : Int)) ∧ W.heap[w.heap.size]? = some (.cells #[.pointer (some ⟨r.nb, 0, none⟩)] 64 (0, 0)) ∧ Below w.heap.size w W
theorem cnt_norow {w W : World} {r : Nd} {pre : List Nd} (h : CntJ w r pre W) : ∀ k, ¬ rowAt W (w.heap.size + 1) k := fun k ⟨o, s, n, c, e⟩ => by
  rw [h.1.cell] at e; cases e
theorem cnt_stay (w : World) (r : Nd) (B0 : Nat) (hB : w.heap.size < B0) : Stay (w.heap.size + 1) B0 (fun pre W => CntJ w r pre W) := by
  refine ⟨fun s W W' hs hk => ?_, fun s W hs k hk => absurd hk (cnt_norow hs k)⟩
  have hz := hs.2.2.size
  have h0 : w.heap.size < W.heap.size := (Array.getElem?_eq_some_iff.1 hs.2.1).1
  refine ⟨(hk.block _ hs.1.lt (.inr (.inl rfl))).trans hs.1, (hk.block _ h0 (.inl hB)).trans hs.2.1, ⟨hk.os.trans hs.2.2.os, hk.tape.trans hs.2.2.tape, hk.output.trans hs.2.2.output, Nat.le_trans hz hk.size, fun k h => (hk.block k (by omega) (.inl (by omega))).trans (hs.2.2.block k h)⟩⟩
theorem cnt_set {w W : World} {r : Nd} {pre pre' : List Nd} (h : CntJ w r pre W) : CntJ w r pre' (W.setCell ⟨w.heap.size + 1, 0, none⟩ (.int .i64 ((pre'.length - 1 : Nat) : Int))) ∧ KeepsOthers W (W.setCell ⟨w.heap.size + 1, 0, none⟩ (.int .i64 ((pre'.length - 1 : Nat) : Int))) ∧ Kc (w.heap.size + 1) W (W.setCell ⟨w.heap.size + 1, 0, none⟩ (.int .i64 ((pre'.length - 1 : Nat) : Int))) := by
  have h1 := h.1.set (.int .i64 ((pre'.length - 1 : Nat) : Int))
  have hs := (KeepsWalks.setCell W ⟨w.heap.size + 1, 0, none⟩ (.int .i64 ((pre'.length - 1 : Nat) : Int))).size
  have hc : CntJ w r pre' (W.setCell ⟨w.heap.size + 1, 0, none⟩ (.int .i64 ((pre'.length - 1 : Nat) : Int))) := ⟨h1, (Below.heap_setCell _ _ _ _ (by show w.heap.size ≠ w.heap.size + 1; omega)).trans h.2.1, h.2.2.setCell (by show w.heap.size ≤ w.heap.size + 1; omega) _⟩
  refine ⟨hc, ⟨hs, fun k o hk ho => ?_⟩, ⟨hs, fun k o hk _ hne _ => (Below.heap_setCell _ _ _ k hne).trans hk, fun k hk => absurd hk (cnt_norow hc k)⟩⟩
  refine (Below.heap_setCell _ _ _ k (fun e => ?_)).trans hk
  rw [show k = w.heap.size + 1 from e, show W.heap[w.heap.size + 1]? = _ from h.1] at hk
  cases hk; cases ho
theorem nb_apart {w : World} {B : Nat} {r : Nd} {ns : List Nd} (h : Mem w B r ns) {y : Nd} (hy : y ∈ ns) : y.nb ≠ r.nb := fun en => by
  have hmb := (List.pairwise_cons.1 h.apart).1 y hy
  have h3 := (h.all y (by simp [hy])).2.2.1
  have h4 := (h.all r (by simp)).2.2.1
  rw [en, h4] at h3
  have h5 := congrArg (fun o => match o with | some (Obj.cells cs _ _) => cs[4]? | _ => none) h3
  simp [Nd.cells] at h5
  exact hmb h5
set_option maxHeartbeats 2000000 in
set_option maxRecDepth 100000 in
theorem below_any {B : Nat} {r : Nd} {ns : List Nd} {es : List Ent} (w : World) (hM : Mem w B r ns) (HE : Hid (entsN ns = es)) (HT : Hid (TreeG es)) :
    Calls Tryz.prog 53 #[.pointer (some ⟨r.nb, 0, none⟩)] w fun ev w' => ev = .returned (.int .i64 (ns.length : Nat)) ∧ Below w.heap.size w w' := by
  have HA := hide hM
  have hf73 : Fence.wide.fn 54 := trivial
  have hln : ns.length ≤ 120 := by have := (unhide HT).len; rw [← unhide HE] at this; simpa [entsN] using this
  clear hM
  refine (callsIn_wide (n := 6)).1 ?_
  refine callsIn_of_wp_marks Tryz.func53 rfl trivial ?_ rfl
  simp only [Tryz.ntmps53, List.size_toArray, List.length_cons, List.length_nil, Nat.reduceAdd, Nat.reduceSub, Array.replicate_succ, Array.replicate_zero, List.push_toArray, List.append_toArray, List.nil_append, List.cons_append]
  gi_wp2_with (gi_at_call 54; refine (callsIn_wide.2 (all_any _ _)).mono ?_; rintro e w4 ⟨rfl, rfl⟩)
  obtain ⟨W2, hW2⟩ : ∃ W2, W2 = ((w.alloc (.cells #[.pointer (some ⟨r.nb, 0, none⟩)] 64)).alloc (.cells #[.int .i64 0] 3)).alloc (.cells #[.pointer (some ⟨r.nb, 0, none⟩)] 64) := ⟨_, rfl⟩
  have s2 : W2.heap.size = w.heap.size + 3 := by rw [hW2]; simp
  have hb2 : Below w.heap.size w W2 := by rw [hW2]; exact (((Below.refl _ _).alloc (Nat.le_refl _) _).alloc (by simp) _).alloc (by simp; omega) _
  have j0 : W2.heap[w.heap.size]? = some (.cells #[.pointer (some ⟨r.nb, 0, none⟩)] 64 (0, 0)) := by
    rw [hW2]
    exact (Below.heap_alloc _ _ _ (by simp; omega)).trans ((Below.heap_alloc _ _ _ (by simp)).trans (heap_alloc_new _ _))
  have j1 : W2.heap[w.heap.size + 1]? = some (.cells #[.int .i64 0] 3 (0, 0)) := by
    rw [hW2]
    refine (Below.heap_alloc _ _ _ (by simp)).trans ?_
    have := heap_alloc_new (w.alloc (.cells #[.pointer (some ⟨r.nb, 0, none⟩)] 64)) (.cells #[.int .i64 0] 3)
    rw [World.size_alloc] at this
    exact this
  have x2 : W2.heap[w.heap.size + 1 + 1]? = some (.cells #[.pointer (some ⟨r.nb, 0, none⟩)] 64 (0, 0)) := by
    have := heap_alloc_new ((w.alloc (.cells #[.pointer (some ⟨r.nb, 0, none⟩)] 64)).alloc (.cells #[.int .i64 0] 3)) (.cells #[.pointer (some ⟨r.nb, 0, none⟩)] 64)
    rw [World.size_alloc, World.size_alloc] at this
    rw [hW2]; exact this
  rw [← hW2]
  have hJ0 : CntJ w r [] W2 := ⟨j1, j0, hb2⟩
  have hMA : MemA (w.heap.size + 1) W2 B r ns := ⟨(unhide HA).below hb2, fun x hx => by
    have h1 : x.nb < w.heap.size := (Array.getElem?_eq_some_iff.1 ((unhide HA).all x hx).2.2.1).1
    have h2 : x.mb < w.heap.size := World.ownsMap.lt ((unhide HA).all x hx).2.2.2
    exact ⟨⟨by omega, by omega, cnt_norow hJ0 _⟩, ⟨by omega, by omega, cnt_norow hJ0 _⟩⟩⟩
  clear hW2 j0 j1
  refine range_all (Bb := w.heap.size + 1) (α := Nd) (xs := r :: ns) rfl (by omega) (gf := 81) (lb := #[.pointer (some ⟨w.heap.size + 1 + 1, 0, none⟩)]) rfl trivial (enters_of Tryz.func81 (by kernel_rfl) rfl)
    (all_seq es B (w.heap.size + 1) (w.heap.size + 1 + 1) 5 r ns W2 HE HT hMA x2 (by omega)) (by omega) (Below.refl _ _) (fun _ => rfl)
    (fun pre W => CntJ w r pre W) (cnt_stay w r W2.heap.size (by omega)) hJ0
    (fun t y => (t.setIfInBounds 7 (.pointer (some ⟨y.nb, 0, none⟩))).setIfInBounds 4 (.pointer (some ⟨y.nb, 0, none⟩))) ?assign ?body ?done
  case assign =>
    intro l y W K hK
    gi_wp2
    simpa using hK
  case body =>
    rintro l pre y W hJ hp
    have cb := hJ.1.cell
    have cf := hJ.1.frozen
    have cr : W.cell? ⟨w.heap.size, 0, none⟩ = some (.pointer (some ⟨r.nb, 0, none⟩)) := cell_of_row _ _ 0 _ _ _ hJ.2.1
    cases pre with
    | nil =>
      have hy : y = r := by
        obtain ⟨t, e⟩ := hp
        simpa using (List.cons.inj e).1
      subst hy
      have HJ : Hid (CntJ w y ([] ++ [y]) W) := hide hJ
      have hneq := neq67_same W ⟨y.nb, 0, none⟩
      clear hJ
      gi_wp2
      exact ⟨KeepsOthers.refl _, Kc.refl _ _, unhide HJ⟩
    | cons x pre =>
      have hy : y ∈ ns := by
        obtain ⟨t, e⟩ := hp
        have e2 := (List.cons.inj e).2
        rw [← e2]; simp
      have hnb := nb_apart (unhide HA) hy
      have hlp : (x :: pre).length ≤ 121 := by
        have := hp.length_le
        simp at this ⊢
        omega
      have hMW := (unhide HA).below hJ.2.2
      have hneq := neq67_other W hnb (hMW.all y (by simp [hy])).2.2.1 (hMW.all r (by simp)).2.2.1
      clear hMW
      have Q := hide (cnt_set (pre' := (x :: pre) ++ [y]) hJ)
      have ew : IntKind.i64.wrap ((((x :: pre).length - 1 : Nat) : Int) + 1) = ((((x :: pre) ++ [y]).length - 1 : Nat) : Int) := by
        rw [show ((((x :: pre).length - 1 : Nat) : Int) + 1) = ((((x :: pre) ++ [y]).length - 1 : Nat) : Int) from by simp]
        exact wrap_i64 _ (by simp at hlp ⊢; omega)
      obtain ⟨a, ha⟩ : ∃ a : Int, a = (((x :: pre).length - 1 : Nat) : Int) := ⟨_, rfl⟩
      obtain ⟨b, hb⟩ : ∃ b : Int, b = ((((x :: pre) ++ [y]).length - 1 : Nat) : Int) := ⟨_, rfl⟩
      rw [← ha, ← hb] at ew
      rw [← ha] at cb
      rw [← hb] at Q
      have HQ := hide Q
      clear ha hb hJ Q
      gi_wp2
      exact ⟨(unhide (unhide HQ)).2.1, (unhide (unhide HQ)).2.2, (unhide (unhide HQ)).1⟩
  case done =>
    rintro D W hD hJ hK
    have cb := hJ.1.cell
    have HJ := hide hJ
    clear hJ
    gi_wp2
    refine ⟨by simp, .inl ⟨_, _, rfl, run_takeDeferred hK, ?_⟩⟩
    refine ⟨_, results_tmp rfl _ _ _, ?_⟩
    refine ⟨by simp, ?_⟩
    exact (unhide HJ).2.2.trans (belowK_b (w := w) (Nat.le_refl _) _ D _ _ (by omega) hK rfl rfl)
end Go.Proofs.YtjofjcjojgpaeaaGreatDoor

namespace Go.Proofs.YtjofjcjojgpaeaaGreatDoor
open Go.RowKit
attribute [local go_sem] setCell_drewN alloc_drewN

theorem Own.later {w w' : World} {B : Nat} {v : Value} {ps : List ByteArray} (h : Own w B v ps) (hb : Below w.heap.size w w') : Own w' B v ps :=
  World.ownsRow.kept (row := none) h ⟨hb.os, hb.tape, hb.output, hb.size, fun k hk _ => hb.block k hk⟩ (by cases v.ownBlock <;> simp)
theorem own_snoc {w : World} {B : Nat} {v : Value} {ps : List ByteArray} {p : ByteArray} (h : w.ownsRow B 9 1 v (ps.length + 1) (ps.map Value.string ++ [Value.string p])) : Own w B v (ps ++ [p]) := by
  unfold Own
  rw [List.length_append, List.map_append]; exact h
theorem own_up {w W w1 : World} {v : Value} {ps : List ByteArray} {o : Obj} (h : Own W w.heap.size v ps) (hb : Below w.heap.size w W) (hg : (W.alloc o).grownBy w1 v.ownBlock) : Below w.heap.size w w1 :=
  (hb.alloc hb.size o).grown hg (by have := hb.size; simp; omega) (fun q hq => (World.ownsRow.lt h q hq).1)
theorem ptsE_drop {es : List Ent} {i : Nat} {e : Ent} (h : es[i]? = some e) : (ptsE es).drop i = e.path.data.toList :: (ptsE es).drop (i + 1) := by
  refine drop_at ?_
  rw [ptsE, List.getElem?_map, h]; rfl
theorem ptsE_end {es : List Ent} {i : Nat} (h : es.length ≤ i) : (ptsE es).drop i = [] := List.drop_of_length_le (by simpa [ptsE] using h)
theorem mrg_nil (xs : List (List UInt8)) : mrg xs [] = xs := by cases xs <;> simp [mrg]
end Go.Proofs.YtjofjcjojgpaeaaGreatDoor
