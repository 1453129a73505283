import Derived.Test.YtjofjcjojgpaeaaGreatDoorJPatQ
import Derived.Test.YtjofjcjojgpaeaaGreatDoorJPatO
import Derived.Test.YtjofjcjojgpaeaaGreatDoorJAs
namespace Go.Proofs.YtjofjcjojgpaeaaGreatDoor
open Go.RowKit

theorem not_under_nil {p : List UInt8} : ¬ under p [] := fun ⟨a, u, e⟩ => by
  rw [prt_nil] at e
  simp at e
theorem under_short {p q : List UInt8} (h : under p q) : (prt p).length < (prt q).length := by
  obtain ⟨a, u, e⟩ := h
  rw [e]; simp
/-- What stands above an entry is a Dir. -/
theorem TreeS.above {es : List Ent} (h : TreeS es) {q : List UInt8} (hq : q ≠ []) : ∀ (n : Nat) (e : Ent), (prt e.q).length ≤ n → e ∈ es → under q e.q → ∃ d ∈ es, d.q = q ∧ d.kind = 1
  | 0, e, hn, _, hu => by have := under_short hu; omega
  | n + 1, e, hn, he, hu => by
    have hP : Parted e.q := parted_of (h.ent e he)
    rcases h.dir e he with h0 | ⟨d, hd, hp, hk⟩
    · exfalso
      rcases hP.up hu with h1 | h1
      · exact hq (h1.trans h0)
      · rw [show dirOf e.q = [] from h0] at h1
        exact not_under_nil h1
    · have hp' : d.q = dirOf e.q := hp
      rcases hP.up hu with h1 | h1
      · exact ⟨d, hd, hp'.trans h1.symm, hk⟩
      · have hl := under_short hP.under
        exact TreeS.above h hq n d (by rw [hp']; omega) hd (by rw [hp']; exact h1)
theorem TreeS.up {es : List Ent} (h : TreeS es) {q : List UInt8} (hq : q ≠ []) {e : Ent} (he : e ∈ es) (hu : under q e.q) : ∃ d ∈ es, d.q = q ∧ d.kind = 1 := h.above hq _ e (Nat.le_refl _) he hu
/-- The one in a directory through which the way goes. -/
theorem TreeS.way {es : List Ent} (h : TreeS es) {q : List UInt8} : ∀ (n : Nat) (e : Ent), (prt e.q).length ≤ n → e ∈ es → under q e.q → ∃ k ∈ es, dirOf k.q = q ∧ (k.q = e.q ∨ under k.q e.q)
  | 0, e, hn, _, hu => by have := under_short hu; omega
  | n + 1, e, hn, he, hu => by
    have hP : Parted e.q := parted_of (h.ent e he)
    rcases hP.up hu with h1 | h1
    · exact ⟨e, he, h1.symm, .inl rfl⟩
    · rcases h.dir e he with h0 | ⟨d, hd, hp, hk⟩
      · rw [show dirOf e.q = [] from h0] at h1
        exact absurd h1 not_under_nil
      · have hp' : d.q = dirOf e.q := hp
        have hl := under_short hP.under
        obtain ⟨k, hk1, hk2, hk3⟩ := TreeS.way h n d (by rw [hp']; omega) hd (by rw [hp']; exact h1)
        refine ⟨k, hk1, hk2, .inr ?_⟩
        have hu2 : under d.q e.q := by rw [hp']; exact hP.under
        rcases hk3 with h3 | h3
        · rw [h3]; exact hu2
        · exact under_trans h3 hu2
theorem TreeS.q_ne {es : List Ent} (h : TreeS es) {e : Ent} (he : e ∈ es) : e.q ≠ [] := (ent_parts (h.ent e he)).1
theorem TreeS.kinds {es : List Ent} (h : TreeS es) {e : Ent} (he : e ∈ es) : e.kind = 1 ∨ e.kind = 2 ∨ e.kind = 3 := good_kind (ent_parts (h.ent e he)).2.2
theorem mem_kind {es : List Ent} (h : TreeS es) {e : Ent} (he : e ∈ es) : kindP es e.q = e.kind := by
  rw [kindP_at (h.q_ne he), show atE es e.q = some e from h.at he]
theorem kind0 {es : List Ent} {p : List UInt8} (h : TreeS es) (h0 : kindP es p = 0) : atE es p = none := by
  by_cases hp : p = []
  · rw [hp] at h0; cases h0
  · rw [kindP_at hp] at h0
    cases hf : atE es p with
    | none => rfl
    | some d =>
      rw [hf] at h0
      have := h.kinds (atE_some hf).1
      have h0' : d.kind = 0 := h0
      omega

theorem put_told {xa xb : List Ent} {p : List UInt8} {c : Ent} : c ∈ putF xa xb p ↔ atE xb p = some c ∧ atE xa p ≠ some c := by
  unfold putF
  cases hb : atE xb p with
  | none => simp
  | some y =>
    cases ha : atE xa p with
    | none => simp [eq_comm]
    | some x =>
      show (c ∈ if eqE x y = true then [] else [y]) ↔ _
      by_cases h : eqE x y = true
      · have e := eqE_iff.1 h
        rw [if_pos h]
        subst e
        simp
      · rw [if_neg h]
        have hne : x ≠ y := fun e => h (eqE_iff.2 e)
        constructor
        · intro hc
          have : c = y := by simpa using hc
          subst this
          exact ⟨rfl, fun e => hne (Option.some.inj e)⟩
        · rintro ⟨e, _⟩
          rw [Option.some.inj e]; simp
theorem markE_q (p : List UInt8) (k : Int) : (markE p k).q = p := rfl
/-- What is told at a path, one by one. -/
theorem step_told {xa xb : List Ent} {p : List UInt8} {c : Ent} : c ∈ stepF xa xb p ↔ (atE xb p = some c ∧ atE xa p ≠ some c) ∨ (c = markE p 5 ∧ clrF xa xb p = true) ∨ (c = markE p 4 ∧ goneF xa xb p = true) := by
  unfold stepF
  rw [List.mem_append, List.mem_append, put_told]
  constructor
  · rintro ((h | h) | h)
    · exact .inl h
    · split at h
      · rename_i hc; exact .inr (.inl ⟨by simpa using h, hc⟩)
      · cases h
    · split at h
      · rename_i hc; exact .inr (.inr ⟨by simpa using h, hc⟩)
      · cases h
  · rintro (h | ⟨rfl, h⟩ | ⟨rfl, h⟩)
    · exact .inl (.inl h)
    · rw [if_pos h]; exact .inl (.inr (by simp))
    · rw [if_pos h]; exact .inr (by simp)
theorem diff_told {xa xb : List Ent} {c : Ent} : c ∈ diffF xa xb ↔ ∃ p ∈ allP xa xb, c ∈ stepF xa xb p := by
  rw [diffF, List.mem_flatten]
  constructor
  · rintro ⟨l, hl, hc⟩
    obtain ⟨p, hp, rfl⟩ := List.mem_map.1 hl
    exact ⟨p, hp, hc⟩
  · rintro ⟨p, hp, hc⟩
    exact ⟨_, List.mem_map.2 ⟨p, hp, rfl⟩, hc⟩
theorem clr_parts {xa xb : List Ent} {p : List UInt8} (h : clrF xa xb p = true) : kindP xa p = 1 ∧ kindP xb p = 1 ∧ ∀ k ∈ xa, dirOf k.q = p → kindP xb k.q = 0 := by
  simp only [clrF, Bool.and_eq_true, decide_eq_true_eq, List.all_eq_true] at h
  refine ⟨h.1.1.1, h.1.1.2, fun k hk hd => h.1.2 k ?_⟩
  rw [kidsE, List.mem_filter]
  exact ⟨hk, by simpa [Ent.q] using hd⟩
theorem gone_parts {xa xb : List Ent} {p : List UInt8} (h : goneF xa xb p = true) : (∃ e, atE xa p = some e) ∧ atE xb p = none ∧ kindP xb (dirOf p) = 1 ∧ clrF xa xb (dirOf p) = false := by
  simp only [goneF, Bool.and_eq_true, decide_eq_true_eq, Bool.not_eq_true'] at h
  obtain ⟨⟨⟨h1, h2⟩, h3⟩, h4⟩ := h
  refine ⟨Option.isSome_iff_exists.1 h1, ?_, h3, h4⟩
  cases hb : atE xb p with
  | none => rfl
  | some y => rw [hb] at h2; cases h2
/-- What is no mark is an entry of the second tree. -/
theorem told_put {xa xb : List Ent} (_ : TreeS xb) {c : Ent} (hc : c ∈ diffF xa xb) (hk : ¬ (c.kind = 4 ∨ c.kind = 5)) : c ∈ xb := by
  obtain ⟨p, _, h⟩ := diff_told.1 hc
  rcases step_told.1 h with ⟨h1, _⟩ | ⟨rfl, _⟩ | ⟨rfl, _⟩
  · exact (atE_some h1).1
  · exact absurd (.inr rfl) hk
  · exact absurd (.inl rfl) hk
theorem told_gone {xa xb : List Ent} (hB : TreeS xb) {c : Ent} (hc : c ∈ diffF xa xb) (hk : c.kind = 4) : c = markE c.q 4 ∧ goneF xa xb c.q = true := by
  obtain ⟨p, _, h⟩ := diff_told.1 hc
  rcases step_told.1 h with ⟨h1, _⟩ | ⟨rfl, _⟩ | ⟨rfl, h1⟩
  · have := hB.kinds (atE_some h1).1; omega
  · have h5 : (5 : Int) = 4 := hk
    omega
  · exact ⟨rfl, h1⟩
theorem told_clr {xa xb : List Ent} (hB : TreeS xb) {c : Ent} (hc : c ∈ diffF xa xb) (hk : c.kind = 5) : c = markE c.q 5 ∧ clrF xa xb c.q = true := by
  obtain ⟨p, _, h⟩ := diff_told.1 hc
  rcases step_told.1 h with ⟨h1, _⟩ | ⟨rfl, h1⟩ | ⟨rfl, _⟩
  · have := hB.kinds (atE_some h1).1; omega
  · exact ⟨rfl, h1⟩
  · have h5 : (4 : Int) = 5 := hk
    omega
/-- What is new is told. -/
theorem put_in {xa xb : List Ent} (hB : TreeS xb) {e : Ent} (he : e ∈ xb) (hn : e ∉ xa) : e ∈ diffF xa xb := by
  refine diff_told.2 ⟨e.q, allP_mem.2 (.inr (.inr (List.mem_map.2 ⟨e, he, rfl⟩))), step_told.2 (.inl ⟨hB.at he, fun h => hn (atE_some h).1⟩)⟩
theorem clr_in {xa xb : List Ent} {p : List UInt8} (hp : p ∈ allP xa xb) (h : clrF xa xb p = true) : markE p 5 ∈ diffF xa xb := diff_told.2 ⟨p, hp, step_told.2 (.inr (.inl ⟨rfl, h⟩))⟩
theorem gone_in {xa xb : List Ent} {p : List UInt8} (hp : p ∈ allP xa xb) (h : goneF xa xb p = true) : markE p 4 ∈ diffF xa xb := diff_told.2 ⟨p, hp, step_told.2 (.inr (.inr ⟨rfl, h⟩))⟩
/-- What stays behind the marks. -/
theorem marks_mem : ∀ (cs : List Ent) (t : List Ent) (e : Ent), e ∈ marksF t cs ↔ e ∈ t ∧ ∀ c ∈ cs, (c.kind = 4 → keepW c.q true e.q = true) ∧ (c.kind = 5 → keepW c.q false e.q = true)
  | [], t, e => by simp [marksF]
  | c :: cs, t, e => by
    rw [show marksF t (c :: cs) = marksF (mark1 t c) cs from rfl, marks_mem cs]
    have h1 : e ∈ mark1 t c ↔ e ∈ t ∧ (c.kind = 4 → keepW c.q true e.q = true) ∧ (c.kind = 5 → keepW c.q false e.q = true) := by
      unfold mark1
      by_cases h4 : c.kind = 4
      · rw [if_pos h4, wo, woG, List.mem_filter]
        constructor
        · rintro ⟨a, b⟩; exact ⟨a, fun _ => b, fun h => by omega⟩
        · rintro ⟨a, b, _⟩; exact ⟨a, b h4⟩
      · rw [if_neg h4]
        by_cases h5 : c.kind = 5
        · rw [if_pos h5, wo, woG, List.mem_filter]
          constructor
          · rintro ⟨a, b⟩; exact ⟨a, fun h => absurd h h4, fun _ => b⟩
          · rintro ⟨a, _, b⟩; exact ⟨a, b h5⟩
        · rw [if_neg h5]
          exact ⟨fun a => ⟨a, fun h => absurd h h4, fun h => absurd h h5⟩, fun a => a.1⟩
    rw [h1]
    constructor
    · rintro ⟨⟨a, b⟩, d⟩
      refine ⟨a, fun x hx => ?_⟩
      rcases List.mem_cons.1 hx with rfl | hx
      · exact b
      · exact d x hx
    · rintro ⟨a, b⟩
      exact ⟨⟨a, b c (by simp)⟩, fun x hx => b x (by simp [hx])⟩
/-- What is in both stays. -/
theorem both_stay {xa xb : List Ent} (hA : TreeS xa) (hB : TreeS xb) {e : Ent} (ha : e ∈ xa) (hb : e ∈ xb) : e ∈ marksF xa (diffF xa xb) := by
  refine (marks_mem _ _ _).2 ⟨ha, fun c hc => ⟨fun h4 => ?_, fun h5 => ?_⟩⟩
  · obtain ⟨_, hg⟩ := told_gone hB hc h4
    obtain ⟨⟨x, hx⟩, hno, _, _⟩ := gone_parts hg
    have hx2 := atE_some hx
    refine keepW_iff.2 ⟨fun hu => ?_, fun _ he => ?_⟩
    · obtain ⟨d, hd, hp, _⟩ := hB.up (by rw [← hx2.2]; exact hA.q_ne hx2.1) hb hu
      exact atE_none hno d hd hp
    · exact atE_none hno e hb he
  · obtain ⟨_, hg⟩ := told_clr hB hc h5
    obtain ⟨_, _, hall⟩ := clr_parts hg
    refine keepW_iff.2 ⟨fun hu => ?_, fun h => by cases h⟩
    obtain ⟨k, hk, hd, hke⟩ := hA.way _ e (Nat.le_refl _) ha hu
    have h0 := kind0 hB (hall k hk hd)
    rcases hke with h1 | h1
    · exact atE_none h0 e hb h1.symm
    · obtain ⟨d, hd, hp, _⟩ := hB.up (hA.q_ne hk) hb h1
      exact atE_none h0 d hd hp
theorem keep_up {p q r : List UInt8} {self : Bool} (h : keepW p self r = true) (hu : under q r) : keepW p self q = true := by
  have h1 := keepW_iff.1 h
  refine keepW_iff.2 ⟨fun hpq => h1.1 (under_trans hpq hu), fun hs he => h1.1 ?_⟩
  rw [← he]; exact hu
/-- What is in the first alone is taken away by the marks, or stands below what is no Dir any more. -/
theorem lone_gone {xa xb : List Ent} (hA : TreeS xa) (hB : TreeS xb) : ∀ (n : Nat) (e : Ent), (prt e.q).length ≤ n → e ∈ marksF xa (diffF xa xb) → atE xb e.q = none → ∃ y ∈ xb, y.kind ≠ 1 ∧ under y.q e.q
  | 0, e, hn, he, _ => by
    have hP : Parted e.q := parted_of (hA.ent e ((marks_mem _ _ _).1 he).1)
    have := under_short hP.under
    omega
  | n + 1, e, hn, he, hno => by
    obtain ⟨ha, hm⟩ := (marks_mem _ _ _).1 he
    have hP : Parted e.q := parted_of (hA.ent e ha)
    have hin : e.q ∈ allP xa xb := allP_mem.2 (.inr (.inl (List.mem_map.2 ⟨e, ha, rfl⟩)))
    by_cases hk : kindP xb (dirOf e.q) = 1
    · exfalso
      by_cases hc : clrF xa xb (dirOf e.q) = true
      · have hd : dirOf e.q ∈ allP xa xb := by
          rcases hA.dir e ha with h0 | ⟨d, hd, hp, _⟩
          · exact allP_mem.2 (.inl h0)
          · exact allP_mem.2 (.inr (.inl (List.mem_map.2 ⟨d, hd, hp⟩)))
        have := (hm _ (clr_in hd hc)).2 rfl
        exact (keepW_iff.1 this).1 hP.under
      · have hg : goneF xa xb e.q = true := by
          simp only [goneF, Bool.and_eq_true, decide_eq_true_eq, Bool.not_eq_true']
          exact ⟨⟨⟨by rw [show atE xa e.q = some e from hA.at ha]; rfl, by rw [hno]; rfl⟩, hk⟩, by simpa using hc⟩
        have := (hm _ (gone_in hin hg)).1 rfl
        exact (keepW_iff.1 this).2 rfl rfl
    · have hd0 : dirOf e.q ≠ [] := fun h => hk (by rw [h]; rfl)
      cases hy : atE xb (dirOf e.q) with
      | some y =>
        have hy2 := atE_some hy
        have hyq : y.q = dirOf e.q := hy2.2
        refine ⟨y, hy2.1, fun h1 => hk ?_, by rw [hyq]; exact hP.under⟩
        rw [← hyq, mem_kind hB hy2.1]; exact h1
      | none =>
        rcases hA.dir e ha with h0 | ⟨d, hd, hp, _⟩
        · exact absurd h0 hd0
        · have hp' : d.q = dirOf e.q := hp
          have hu : under d.q e.q := by rw [hp']; exact hP.under
          have hdm : d ∈ marksF xa (diffF xa xb) := (marks_mem _ _ _).2 ⟨hd, fun c hc => ⟨fun h => keep_up ((hm c hc).1 h) hu, fun h => keep_up ((hm c hc).2 h) hu⟩⟩
          have hl := under_short hu
          obtain ⟨y, hy1, hy2, hy3⟩ := lone_gone hA hB n d (by omega) hdm (by rw [hp']; exact hy)
          exact ⟨y, hy1, hy2, under_trans hy3 hu⟩
end Go.Proofs.YtjofjcjojgpaeaaGreatDoor

namespace Go.Proofs.YtjofjcjojgpaeaaGreatDoor
open Go.RowKit Go.Maps

/-- The tree that comes out. -/
def patF (es cs : List Ent) : List Ent := putsF (marksF es cs) cs
/-- What changes.Patch answers. -/
def PatIs (w : World) (B : Nat) (r : Nd) (es cs : List Ent) (er : Value) : Prop :=
  (∃ i : Nat, ErIs w er 3 i ∧ FirstBadC cs i) ∨
  (FirstBadC cs (-1) ∧ ∃ i : Nat, ErIs w er 8 i ∧ FirstP (mrkAt es cs) cs.length i) ∨
  (FirstBadC cs (-1) ∧ FirstP (mrkAt es cs) cs.length (-1) ∧ ∃ i : Nat, ErIs w er 9 i ∧ FirstP (putBad (marksF es cs) cs) cs.length i) ∨
  (FirstBadC cs (-1) ∧ FirstP (mrkAt es cs) cs.length (-1) ∧ FirstP (putBad (marksF es cs) cs) cs.length (-1) ∧ TreeS (patF es cs) ∧ (patF es cs).length ≤ 120 ∧
    ((40 < (patF es cs).length ∧ er = .iface 26 (.int .i64 10)) ∨ ((patF es cs).length ≤ 40 ∧ er = .nilIface ∧ ∃ ns, Mem w B r ns ∧ entsN ns = patF es cs)))
theorem ErIs.below {w w' : World} {er : Value} {c i : Int} (h : ErIs w er c i) (hb : Below w.heap.size w w') : ErIs w' er c i := by
  obtain ⟨b, h1, h2, h3⟩ := h
  exact ⟨b, h1, cell_later hb h2, cell_later hb h3⟩
theorem okAll {cs : List Ent} (h : FirstBadC cs (-1)) : (∀ c ∈ cs, chOk c = true) ∧ cs.length ≤ 80 := by
  rcases h with ⟨_, h⟩ | ⟨i, hi, _⟩
  · refine ⟨fun c hc => ?_, allCh_lt h⟩
    obtain ⟨k, hk, rfl⟩ := List.getElem_of_mem hc
    exact (okCh_parts (List.getElem?_eq_getElem hk) (h k hk)).1
  · omega
theorem puts_small : ∀ (cs : List Ent) {t : List Ent}, Small t → Small cs → Small (putsF t cs)
  | [], _, h, _ => h
  | c :: cs, t, h, hc => puts_small cs (t := put1 t c) (by
      unfold put1
      split
      · exact h
      · intro e he
        rcases put_mem.1 he with e1 | ⟨e1, _⟩
        · rw [e1]; exact hc c (by simp)
        · exact h e e1) (fun e he => hc e (by simp [he]))
theorem marks_small : ∀ (cs : List Ent) {t : List Ent}, Small t → Small (marksF t cs)
  | [], _, h => h
  | c :: cs, t, h => marks_small cs (t := mark1 t c) (fun e he => h e (by
      unfold mark1 at he
      split at he
      · exact (List.mem_filter.1 he).1
      · split at he
        · exact (List.mem_filter.1 he).1
        · exact he))
set_option maxHeartbeats 2000000 in
set_option maxRecDepth 100000 in
theorem patch_any (r : Nd) (ns : List Nd) (B : Nat) (es : List Ent) (ao : Option Addr) (cap n : Nat) (cs : List Ent) (m : Int) (w : World) (hM : Mem w B r ns) (HE : Hid (entsN ns = es)) (HT : Hid (Tree es)) (hr : ∀ W, Below B w W → ERow W ao cs) (HN : Hid (n = cs.length)) (hn : n ≤ 4294967280) (hcap : n ≤ cap) (HS : Hid (Small cs)) (hB : B ≤ w.heap.size) (hm : ∀ W, Below B w W → W.cell? ⟨14, 0, none⟩ = some (.int .i64 m)) :
    Calls Tryz.prog 30 #[.pointer (some ⟨r.nb, 0, none⟩), .slice ao n cap] w fun ev w' => ∃ er, ev = .returned er ∧ Hid (PatIs w' B r es cs er) ∧ Below B w w' := by
  have HM := hide hm
  have HMem := hide hM
  have HR := hide hr
  have HB := hide hB
  have HTS : Hid (TreeS es) := hide (treeS_of (unhide HT).ok)
  clear hm hM hr hB
  go_enter Tryz.func30, Tryz.ntmps30
  go_upto_region 2 with (go_at_call 49; refine (check_any ao cap n cs m w (unhide HR _ (Below.refl _ _)) HN hn hcap HS (unhide HM _ (Below.refl _ _))).mono ?_; rintro ev w1 ⟨er1, rfl, HC1, hb1⟩)
  have hB1 := hb1.mono (unhide HB)
  rcases unhide HC1 with ⟨rfl, hf1⟩ | ⟨i, ⟨b, rfl, hc, hi⟩, hf1⟩
  · have HF1 := hide hf1
    clear hf1 HC1
    have HM1 := hide ((unhide HMem).below hb1)
    go_upto_region 5 with (go_at_call 50; refine (checkMarks_any r ns B es ao cap n cs m w1 (unhide HM1) HE HTS (unhide HR _ hB1) HN hn HS (unhide HM _ hB1)).mono ?_; rintro ev w2 ⟨er2, rfl, HC2, hb2⟩)
    have hB2 := hB1.trans (hb2.mono (Nat.le_trans (unhide HB) hb1.size))
    rcases unhide HC2 with ⟨rfl, hf2⟩ | ⟨i, ⟨b, rfl, hc, hi⟩, hf2⟩
    · have HF2 := hide hf2
      clear hf2 HC2
      have HM2 := hide ((unhide HM1).below hb2)
      have hz2 : B ≤ w2.heap.size := Nat.le_trans (unhide HB) hB2.size
      have HCk : Hid (∀ c ∈ cs, chOk c = true) := hide (okAll (unhide HF1)).1
      have hn80 : n ≤ 80 := by rw [unhide HN]; exact (okAll (unhide HF1)).2
      go_upto_region 8 with (go_at_call 51; refine (doMarks_any r ns B es ao cap n cs m w2 (unhide HM2) HE HTS (fun W h => unhide HR W (hB2.trans h)) HN hn HS HCk hz2 (fun W h => unhide HM W (hB2.trans h))).mono ?_; rintro ev w3 ⟨rfl, HC3, hb3⟩)
      have hB3 := hB2.trans hb3
      obtain ⟨ns3, hm3, he3⟩ := unhide HC3
      have HM3 := hide hm3
      have HE3 := hide he3
      have hz3 : B ≤ w3.heap.size := Nat.le_trans (unhide HB) hB3.size
      have HT3 : Hid (TreeS (marksF es cs)) := hide (marks_tree cs (unhide HTS))
      have hl3 : (marksF es cs).length ≤ 40 := Nat.le_trans (marks_len cs es) (unhide HT).len
      clear hm3 he3 HC3
      go_upto_region 9 with (go_at_call 52; refine (putEntries_any r ns3 B (marksF es cs) ao cap n cs m w3 (unhide HM3) HE3 HT3 hl3 (fun W h => unhide HR W (hB3.trans h)) HN hn80 HS HCk hz3 (fun W h => unhide HM W (hB3.trans h))).mono ?_; rintro ev w4 ⟨er4, rfl, HC4, HG4, hb4⟩)
      have hB4 := hB3.trans hb4
      rcases unhide HC4 with ⟨rfl, hf4⟩ | ⟨i, ⟨b, rfl, hc, hi⟩, hf4⟩
      · have HF4 := hide hf4
        obtain ⟨ns4, hm4, he4, ht4, hl4⟩ := unhide HG4 (by simp)
        have HM4 := hide hm4
        have HE4 : Hid (entsN ns4 = patF es cs) := hide he4
        have HT4 : Hid (TreeS (patF es cs)) := hide ht4
        have HG : Hid (TreeG (patF es cs)) := hide ⟨ht4.ok, hl4, puts_small cs (marks_small cs (unhide HT).small) (unhide HS)⟩
        have hl5 : ns4.length = (patF es cs).length := by rw [← unhide HE4]; simp [entsN]
        have hl6 : (patF es cs).length ≤ 120 := hl4
        clear hf4 HC4 HG4 hm4 he4 ht4 hl4
        have hBl := below_any w4 (unhide HM4) HE4 HG
        rw [hl5] at hBl
        obtain ⟨q, hq⟩ : ∃ q, q = (patF es cs).length := ⟨_, rfl⟩
        rw [← hq] at hBl hl6
        have HQ := hide hq
        clear hq hl5
        by_cases h40 : q ≤ 40
        · have i40 : (q : Int) ≤ 40 := by omega
          go_wp2_with (go_at_call 53; refine hBl.mono ?_; clear hBl; rintro ev w5 ⟨rfl, hb5⟩)
          go_ret
          refine ⟨_, rfl, hide (.inr (.inr (.inr ⟨unhide HF1, unhide HF2, unhide HF4, unhide HT4, (by rw [← unhide HQ]; exact hl6), .inr ⟨(by rw [← unhide HQ]; exact h40), rfl, ns4, (unhide HM4).below hb5, unhide HE4⟩⟩))), hB4.trans (hb5.mono (Nat.le_trans (unhide HB) hB4.size))⟩
        · have i40 : ¬ (q : Int) ≤ 40 := by omega
          have i41 : (40 : Int) < (q : Int) := by omega
          go_wp2_with (go_at_call 53; refine hBl.mono ?_; clear hBl; rintro ev w5 ⟨rfl, hb5⟩)
          go_ret
          refine ⟨_, rfl, hide (.inr (.inr (.inr ⟨unhide HF1, unhide HF2, unhide HF4, unhide HT4, (by rw [← unhide HQ]; exact hl6), .inl ⟨(by rw [← unhide HQ]; omega), rfl⟩⟩))), hB4.trans (hb5.mono (Nat.le_trans (unhide HB) hB4.size))⟩
      · have HX : Hid (PatIs w4 B r es cs (.iface 68 (.pointer (some ⟨b, 0, none⟩)))) := hide (.inr (.inr (.inl ⟨unhide HF1, unhide HF2, i, ⟨b, rfl, hc, hi⟩, hf4⟩)))
        clear hf4 HC4 HG4 hc hi
        go_wp2_with fail
        go_ret
        exact ⟨_, rfl, HX, hB4⟩
    · have HX : Hid (PatIs w2 B r es cs (.iface 68 (.pointer (some ⟨b, 0, none⟩)))) := hide (.inr (.inl ⟨unhide HF1, i, ⟨b, rfl, hc, hi⟩, hf2⟩))
      clear hf2 HC2 hc hi
      go_wp2_with fail
      go_ret
      exact ⟨_, rfl, HX, hB2⟩
  · have HX : Hid (PatIs w1 B r es cs (.iface 68 (.pointer (some ⟨b, 0, none⟩)))) := hide (.inl ⟨i, ⟨b, rfl, hc, hi⟩, hf1⟩)
    clear hf1 HC1 hc hi
    go_wp2_with fail
    go_ret
    exact ⟨_, rfl, HX, hB1⟩
end Go.Proofs.YtjofjcjojgpaeaaGreatDoor

namespace Go.Proofs.YtjofjcjojgpaeaaGreatDoor
open Go.RowKit

theorem ents_one : ∀ {l m : List Ent}, l.Pairwise (fun x y => ltP x.q y.q = true) → m.Pairwise (fun x y => ltP x.q y.q = true) → (∀ e, e ∈ l ↔ e ∈ m) → l = m
  | [], m, _, _, h => by
    cases m with
    | nil => rfl
    | cons y m => exact absurd ((h y).2 (by simp)) (by simp)
  | x :: l, [], _, _, h => absurd ((h x).1 (by simp)) (by simp)
  | x :: l, y :: m, hx, hy, h => by
    have hx' := List.pairwise_cons.1 hx
    have hy' := List.pairwise_cons.1 hy
    have e : x = y := by
      rcases List.mem_cons.1 ((h x).1 (by simp)) with h1 | h1
      · exact h1
      · rcases List.mem_cons.1 ((h y).2 (by simp)) with h2 | h2
        · exact h2.symm
        · have := totP.trans (hy'.1 x h1) (hx'.1 y h2)
          rw [totP.irr] at this; cases this
    subst e
    rw [ents_one hx'.2 hy'.2 fun e => ?_]
    constructor
    · intro he
      rcases List.mem_cons.1 ((h e).1 (by simp [he])) with h1 | h1
      · have := hx'.1 e he
        rw [h1, totP.irr] at this; cases this
      · exact h1
    · intro he
      rcases List.mem_cons.1 ((h e).2 (by simp [he])) with h1 | h1
      · have := hy'.1 e he
        rw [h1, totP.irr] at this; cases this
      · exact h1
theorem step_q {xa xb : List Ent} {p : List UInt8} {c : Ent} (h : c ∈ stepF xa xb p) : c.q = p := by
  rcases step_told.1 h with ⟨h1, _⟩ | ⟨rfl, _⟩ | ⟨rfl, _⟩
  · exact (atE_some h1).2
  · rfl
  · rfl
theorem flat_told {xa xb : List Ent} {l : List (List UInt8)} {c : Ent} (h : c ∈ (l.map (stepF xa xb)).flatten) : ∃ p ∈ l, c ∈ stepF xa xb p := by
  obtain ⟨s, hs, hc⟩ := List.mem_flatten.1 h
  obtain ⟨p, hp, rfl⟩ := List.mem_map.1 hs
  exact ⟨p, hp, hc⟩
/-- What holds of two of one path, and of any two of two, holds of all. -/
theorem flat_pairs {xa xb : List Ent} {R : Ent → Ent → Prop} (h1 : ∀ p, (stepF xa xb p).Pairwise R) (h2 : ∀ p q c d, ltP p q = true → c ∈ stepF xa xb p → d ∈ stepF xa xb q → R c d) : ∀ l : List (List UInt8), l.Pairwise (fun x y => ltP x y = true) → ((l.map (stepF xa xb)).flatten).Pairwise R
  | [], _ => by simp
  | p :: l, hl => by
    have hl' := List.pairwise_cons.1 hl
    rw [List.map_cons, List.flatten_cons, List.pairwise_append]
    refine ⟨h1 p, flat_pairs h1 h2 l hl'.2, fun c hc d hd => ?_⟩
    obtain ⟨q, hq, hdq⟩ := flat_told hd
    exact h2 p q c d (hl'.1 q hq) hc hdq
theorem allP_risingS {xa xb : List Ent} (ha : TreeS xa) (hb : TreeS xb) : (allP xa xb).Pairwise fun x y => ltP x y = true := by
  rw [allP, List.pairwise_cons]
  refine ⟨fun p hp => ltP_root ?_, mrg_rising (List.pairwise_map.2 ha.ord) (List.pairwise_map.2 hb.ord)⟩
  rcases (mrg_mem _ _ _).1 hp with h | h
  · obtain ⟨e, he, rfl⟩ := List.mem_map.1 h
    exact ha.q_ne he
  · obtain ⟨e, he, rfl⟩ := List.mem_map.1 h
    exact hb.q_ne he
theorem lt_back {p q : List UInt8} (h : ltP p q = true) : ltP q p = false := by
  cases h2 : ltP q p
  · rfl
  · have := totP.trans h h2
    rw [totP.irr] at this; cases this
theorem same_pairs {l : List Ent} {p : List UInt8} (h : ∀ c ∈ l, c.q = p) : l.Pairwise fun x y => ltP y.q x.q = false := by
  rw [List.pairwise_iff_getElem]
  intro i j hi hj _
  rw [h _ (List.getElem_mem hi), h _ (List.getElem_mem hj), totP.irr]
theorem diff_ord {xa xb : List Ent} (ha : TreeS xa) (hb : TreeS xb) : (diffF xa xb).Pairwise fun x y => ltP y.q x.q = false :=
  flat_pairs (fun _ => same_pairs fun _ hc => step_q hc) (fun p q c d hl hc hd => by rw [step_q hc, step_q hd]; exact lt_back hl) _ (allP_risingS ha hb)
/-- Nothing of a tree stands below what is no Dir there. -/
theorem none_below {xb : List Ent} (hB : TreeS xb) {p z : List UInt8} (hp : p ≠ []) (hk : kindP xb p ≠ 1) (hu : under p z) : atE xb z = none := by
  cases hz : atE xb z with
  | none => rfl
  | some y =>
    exfalso
    have h2 := atE_some hz
    obtain ⟨d, hd, hq, h1⟩ := hB.up (e := y) hp h2.1 (by rw [show y.q = z from h2.2]; exact hu)
    exact hk (by rw [← hq, mem_kind hB hd]; exact h1)
theorem kind_none {xb : List Ent} {p : List UInt8} (hp : p ≠ []) (h : atE xb p = none) : kindP xb p = 0 := by rw [kindP_at hp, h]
theorem step_not_below {xa xb : List Ent} (hA : TreeS xa) (hB : TreeS xb) {p q : List UInt8} {d : Ent} (hp : p ≠ []) (hk : kindP xb p ≠ 1) (hd : d ∈ stepF xa xb q) : ¬ under p q := fun hu => by
  have hn := none_below hB hp hk hu
  have hq0 : q ≠ [] := fun e => by rw [e] at hu; exact not_under_nil hu
  rcases step_told.1 hd with ⟨h1, _⟩ | ⟨_, h1⟩ | ⟨_, h1⟩
  · rw [hn] at h1; cases h1
  · have := (clr_parts h1).2.1
    rw [kind_none hq0 hn] at this; cases this
  · obtain ⟨⟨e, he⟩, _, h3, _⟩ := gone_parts h1
    have he2 := atE_some he
    have hP : Parted q := by rw [← he2.2]; exact parted_of (hA.ent e he2.1)
    rcases hP.up hu with h4 | h4
    · exact hk (by rw [h4]; exact h3)
    · have hd0 : dirOf q ≠ [] := fun e => by rw [e] at h4; exact not_under_nil h4
      rw [kind_none hd0 (none_below hB hp hk h4)] at h3; cases h3
theorem told_path {xa xb : List Ent} (hA : TreeS xa) (hB : TreeS xb) {p : List UInt8} (hp : p ∈ allP xa xb) : isP p = true := by
  rcases allP_mem.1 hp with rfl | h | h
  · rfl
  · obtain ⟨e, he, rfl⟩ := List.mem_map.1 h
    exact (ent_parts (hA.ent e he)).2.1
  · obtain ⟨e, he, rfl⟩ := List.mem_map.1 h
    exact (ent_parts (hB.ent e he)).2.1
theorem step_path {xa xb : List Ent} (hA : TreeS xa) (hB : TreeS xb) {p : List UInt8} {c : Ent} (hc : c ∈ stepF xa xb p) : isP p = true := by
  rcases step_told.1 hc with ⟨h1, _⟩ | ⟨_, h1⟩ | ⟨_, h1⟩
  · rw [← (atE_some h1).2]; exact (ent_parts (hB.ent c (atE_some h1).1)).2.1
  · by_cases hp : p = []
    · rw [hp]; rfl
    · obtain ⟨d, hd, hq, _⟩ := kindP_one (clr_parts h1).1 hp
      rw [← hq]; exact (ent_parts (hA.ent d hd)).2.1
  · obtain ⟨⟨e, he⟩, _⟩ := gone_parts h1
    rw [← (atE_some he).2]; exact (ent_parts (hA.ent e (atE_some he).1)).2.1
theorem step_flw {xa xb : List Ent} (hA : TreeS xa) (hB : TreeS xb) {p q : List UInt8} {d c : Ent} (hl : ltP p q = true) (hd : d ∈ stepF xa xb p) (hc : c ∈ stepF xa xb q) : flw d c = true := by
  have hdq : d.path.data.toList = p := step_q hd
  have hcq : c.path.data.toList = q := step_q hc
  have hne : p ≠ q := fun e => by rw [e, totP.irr] at hl; cases hl
  unfold flw
  rw [hdq, hcq, if_neg hne, hl, Bool.true_and]
  by_cases hk : d.kind = 1 ∨ d.kind = 5
  · rw [decide_eq_true hk]; rfl
  · rw [decide_eq_false hk, Bool.false_or]
    have hpb : p ≠ [] ∧ kindP xb p ≠ 1 := by
      rcases step_told.1 hd with ⟨h1, _⟩ | ⟨rfl, _⟩ | ⟨_, h1⟩
      · have h2 := atE_some h1
        have hq0 : p ≠ [] := by rw [← h2.2]; exact hB.q_ne h2.1
        exact ⟨hq0, fun h => hk (.inl (by rw [← h2.2] at h; rw [← mem_kind hB h2.1]; exact h))⟩
      · exact absurd (.inr rfl) hk
      · obtain ⟨⟨e, he⟩, hno, _⟩ := gone_parts h1
        have hq0 : p ≠ [] := by rw [← (atE_some he).2]; exact hA.q_ne (atE_some he).1
        exact ⟨hq0, by rw [kind_none hq0 hno]; decide⟩
    have := step_not_below hA hB hpb.1 hpb.2 hc
    rw [← prefix_under hpb.1 (step_path hA hB hc)] at this
    simpa using this
theorem gone_alone {xa xb : List Ent} {p : List UInt8} (h : goneF xa xb p = true) (hA : TreeS xa) : stepF xa xb p = [markE p 4] := by
  obtain ⟨⟨e, he⟩, hno, _⟩ := gone_parts h
  have hq0 : p ≠ [] := by rw [← (atE_some he).2]; exact hA.q_ne (atE_some he).1
  have hc : ¬ clrF xa xb p = true := fun hc => by
    have := (clr_parts hc).2.1
    rw [kind_none hq0 hno] at this; cases this
  unfold stepF putF
  rw [hno, if_neg hc, if_pos h]; rfl
theorem step_one {xa xb : List Ent} (hA : TreeS xa) (hB : TreeS xb) (p : List UInt8) : (stepF xa xb p).Pairwise (fun d c => flw d c = true) ∧ (stepF xa xb p).length ≤ 2 := by
  by_cases hg : goneF xa xb p = true
  · rw [gone_alone hg hA]; simp
  · unfold stepF
    rw [if_neg hg, List.append_nil]
    by_cases hc : clrF xa xb p = true
    · rw [if_pos hc]
      have hl : putF xa xb p = [] ∨ ∃ y, putF xa xb p = [y] ∧ y.q = p ∧ y ∈ xb := by
        unfold putF
        cases hb : atE xb p with
        | none => exact .inl rfl
        | some y =>
          have hy : y.q = p ∧ y ∈ xb := ⟨(atE_some hb).2, (atE_some hb).1⟩
          cases ha : atE xa p with
          | none => exact .inr ⟨y, rfl, hy⟩
          | some x =>
            by_cases h : eqE x y = true
            · left; simp [h]
            · right; exact ⟨y, by simp [h], hy⟩
      rcases hl with h | ⟨y, h, hq, hy⟩
      · rw [h]; simp
      · rw [h]
        refine ⟨?_, by simp⟩
        simp only [List.cons_append, List.nil_append, List.pairwise_cons, List.mem_singleton, forall_eq, List.not_mem_nil, false_implies, implies_true, List.Pairwise.nil, and_true]
        have hk := (clr_parts hc).2.1
        rw [← hq, mem_kind hB hy] at hk
        unfold flw
        rw [if_pos (show y.path.data.toList = (markE p 5).path.data.toList from hq), hk]; rfl
    · rw [if_neg hc, List.append_nil]
      unfold putF
      split
      · simp
      · split
        · simp
        · split <;> simp
theorem diff_flw {xa xb : List Ent} (hA : TreeS xa) (hB : TreeS xb) : (diffF xa xb).Pairwise fun d c => flw d c = true :=
  flat_pairs (fun p => (step_one hA hB p).1) (fun _ _ _ _ hl hc hd => step_flw hA hB hl hc hd) _ (allP_risingS hA hB)
theorem flatD_len {xa xb : List Ent} (hA : TreeS xa) (hB : TreeS xb) : ∀ l : List (List UInt8), ((l.map (stepF xa xb)).flatten).length ≤ l.length * 2
  | [] => by simp
  | p :: l => by
    have h1 := (step_one hA hB p).2
    have h2 := flatD_len hA hB l
    simp only [List.map_cons, List.flatten_cons, List.length_append, List.length_cons]
    omega
theorem diff_len {xa xb : List Ent} (hA : TreeS xa) (hB : TreeS xb) (h : xa.length + xb.length ≤ 39) : (diffF xa xb).length ≤ 80 := by
  have h1 := flatD_len hA hB (allP xa xb)
  have h2 := mrg_len (ptsE xa) (ptsE xb)
  have h3 : (ptsE xa).length = xa.length := by simp [ptsE]
  have h4 : (ptsE xb).length = xb.length := by simp [ptsE]
  rw [diffF]
  simp only [allP, List.length_cons] at h1 ⊢
  omega
theorem diff_chOk {xa xb : List Ent} (hA : TreeS xa) (hB : TreeS xb) {c : Ent} (hc : c ∈ diffF xa xb) : chOk c = true := by
  obtain ⟨p, _, h⟩ := diff_told.1 hc
  have hp := step_path hA hB h
  rcases step_told.1 h with ⟨h1, _⟩ | ⟨rfl, _⟩ | ⟨rfl, h1⟩
  · have hm := (atE_some h1).1
    have hk := hB.kinds hm
    unfold chOk
    rw [if_neg (by omega)]
    exact hB.ent c hm
  · unfold chOk
    rw [if_pos (.inr rfl), show (markE p 5).path.data.toList = p from rfl, hp]; rfl
  · obtain ⟨⟨e, he⟩, _⟩ := gone_parts h1
    have hq0 : p ≠ [] := by rw [← (atE_some he).2]; exact hA.q_ne (atE_some he).1
    unfold chOk
    rw [if_pos (.inl rfl), show (markE p 4).path.data.toList = p from rfl, hp, beq_nil hq0]; rfl
/-- What is told are changes. -/
theorem diff_fine {xa xb : List Ent} (hA : TreeS xa) (hB : TreeS xb) (h : xa.length + xb.length ≤ 39) : FirstBadC (diffF xa xb) (-1) := by
  refine .inl ⟨rfl, fun i hi => ?_⟩
  have hl := diff_len hA hB h
  have he : (diffF xa xb)[i]? = some (diffF xa xb)[i] := List.getElem?_eq_getElem hi
  rw [okCh_eq he, diff_chOk hA hB (List.getElem_mem hi), decide_eq_true (show i < 80 by omega)]
  by_cases h0 : i = 0
  · rw [decide_eq_true h0]; rfl
  · rw [decide_eq_false h0, List.getElem?_eq_getElem (by omega)]
    have := List.pairwise_iff_getElem.1 (diff_flw hA hB) (i - 1) i (by omega) hi (by omega)
    simpa using this
/-- The marks name what is there. -/
theorem diff_marks {xa xb : List Ent} (hA : TreeS xa) (hB : TreeS xb) : FirstP (mrkAt xa (diffF xa xb)) (diffF xa xb).length (-1) := by
  refine .inl ⟨rfl, fun i hi => ?_⟩
  rw [mrkAt_eq (List.getElem?_eq_getElem hi)]
  have hm := List.getElem_mem hi
  generalize (diffF xa xb)[i] = c at hm
  unfold mrkBad
  by_cases h4 : c.kind = 4
  · obtain ⟨_, hg⟩ := told_gone hB hm h4
    obtain ⟨⟨e, he⟩, _⟩ := gone_parts hg
    have he2 := atE_some he
    have hk : kindP xa c.path.data.toList ≠ 0 := by
      rw [show c.path.data.toList = e.q from he2.2.symm, mem_kind hA he2.1]
      have := hA.kinds he2.1
      omega
    rw [decide_eq_false hk, decide_eq_false (show ¬ c.kind = 5 by omega)]; simp
  · by_cases h5 : c.kind = 5
    · obtain ⟨_, hg⟩ := told_clr hB hm h5
      rw [decide_eq_false h4, decide_eq_true (show kindP xa c.path.data.toList = 1 from (clr_parts hg).1)]; simp
    · rw [decide_eq_false h4, decide_eq_false h5]; rfl
/-- The entries put, one by one. -/
theorem puts_go {xa xb : List Ent} (hA : TreeS xa) (hB : TreeS xb) : ∀ (rest pre t : List Ent), diffF xa xb = pre ++ rest → TreeS t → (∀ e ∈ t, e ∈ xb ∨ e ∈ marksF xa (diffF xa xb)) → (∀ e ∈ xb, e ∈ xa ∨ e ∈ pre → e ∈ t) →
    TreeS (putsF t rest) ∧ (∀ e ∈ putsF t rest, e ∈ xb ∨ e ∈ marksF xa (diffF xa xb)) ∧ (∀ e ∈ xb, e ∈ xa ∨ e ∈ pre ++ rest → e ∈ putsF t rest) ∧ ∀ i c, rest[i]? = some c → ¬ (c.kind = 4 ∨ c.kind = 5) → kindP (putsF t (rest.take i)) (dirOf c.q) = 1
  | [], pre, t, _, hT, h2, h3 => ⟨hT, h2, by simpa [putsF] using h3, fun i c h => by simp at h⟩
  | c :: rest, pre, t, hD, hT, h2, h3 => by
    have hcD : c ∈ diffF xa xb := by rw [hD]; simp
    have hD' : diffF xa xb = (pre ++ [c]) ++ rest := by rw [hD]; simp
    by_cases hk : c.kind = 4 ∨ c.kind = 5
    · have e1 : put1 t c = t := by rw [put1, if_pos hk]
      obtain ⟨q1, q2, q3, q4⟩ := puts_go hA hB rest (pre ++ [c]) t hD' hT h2 (fun e he h => by
        rcases h with h | h
        · exact h3 e he (.inl h)
        · rcases List.mem_append.1 h with h | h
          · exact h3 e he (.inr h)
          · have : e = c := by simpa using h
            subst this
            have := hB.kinds he
            omega)
      have e2 : ∀ l, putsF t (c :: l) = putsF t l := fun l => by rw [putsF, List.foldl_cons, e1]; rfl
      rw [e2]
      refine ⟨q1, q2, fun e he h => q3 e he (by simpa using h), fun i d hi hd => ?_⟩
      cases i with
      | zero =>
        have : c = d := by simpa using hi
        subst this
        exact absurd hk hd
      | succ i =>
        rw [List.take_succ_cons, e2]
        exact q4 i d (by simpa using hi) hd
    · have hcb : c ∈ xb := told_put hB hcD hk
      have hP : Parted c.q := parted_of (hB.ent c hcb)
      have hdir : kindP t (dirOf c.q) = 1 := by
        rcases hB.dir c hcb with h0 | ⟨d, hd, hp, hk1⟩
        · rw [show dirOf c.q = [] from h0]; rfl
        · have hp' : d.q = dirOf c.q := hp
          have hdt : d ∈ t := h3 d hd (by
            by_cases hda : d ∈ xa
            · exact .inl hda
            · right
              have hdD := put_in hB hd hda
              have hlt : ltP d.q c.q = true := by rw [hp']; exact under_lt hP.under
              have ho := diff_ord hA hB
              rw [hD] at hdD ho
              rcases List.mem_append.1 hdD with h | h
              · exact h
              · exfalso
                rcases List.mem_cons.1 h with h | h
                · rw [h, totP.irr] at hlt; cases hlt
                · have h9 := (List.pairwise_cons.1 (List.pairwise_append.1 ho).2.1).1 d h
                  rw [hlt] at h9; cases h9)
          rw [← hp', mem_kind hT hdt]; exact hk1
      have e1 : put1 t c = putE t c := by rw [put1, if_neg hk]
      have hT' : TreeS (putE t c) := put_tree hT (hB.ent c hcb) hdir
      obtain ⟨q1, q2, q3, q4⟩ := puts_go hA hB rest (pre ++ [c]) (putE t c) hD' hT' (fun e he => by
        rcases put_mem.1 he with rfl | ⟨h, _⟩
        · exact .inl hcb
        · exact h2 e h) (fun e he h => by
        by_cases hec : e = c
        · rw [hec]; exact put_mem.2 (.inl rfl)
        · have het : e ∈ t := h3 e he (by
            rcases h with h | h
            · exact .inl h
            · rcases List.mem_append.1 h with h | h
              · exact .inr h
              · exact absurd (by simpa using h) hec)
          have hne : e.q ≠ c.q := fun h => hec (hB.one he hcb h)
          refine put_mem.2 (.inr ⟨het, ?_⟩)
          cases hlt : ltP e.q c.q
          · right
            refine keepPut_iff.2 ⟨?_, ?_⟩
            · cases h5 : ltP c.q e.q
              · exact absurd (totP.one hlt h5) hne
              · rfl
            · by_cases hu : under c.q e.q
              · left
                obtain ⟨d, hd, hdq, hd1⟩ := hB.up (hB.q_ne hcb) he hu
                have hc1 : c.kind = 1 := by rw [← hB.one hd hcb hdq]; exact hd1
                obtain ⟨f, hf, hfq, hf1⟩ := hT.up (hB.q_ne hcb) het hu
                simp only [bothE, Bool.and_eq_true, decide_eq_true_eq]
                refine ⟨?_, hc1⟩
                show kindP t c.q = 1
                rw [← hfq, mem_kind hT hf]; exact hf1
              · exact .inr hu
          · exact .inl rfl)
      have e2 : ∀ l, putsF t (c :: l) = putsF (putE t c) l := fun l => by rw [putsF, List.foldl_cons, e1]; rfl
      rw [e2]
      refine ⟨q1, q2, fun e he h => q3 e he (by simpa using h), fun i d hi hd => ?_⟩
      cases i with
      | zero =>
        have : c = d := by simpa using hi
        subst this
        exact hdir
      | succ i =>
        rw [List.take_succ_cons, e2]
        exact q4 i d (by simpa using hi) hd
/-- What makes b of a makes b of a. -/
theorem diff_does {xa xb : List Ent} (hA : TreeS xa) (hB : TreeS xb) : patF xa (diffF xa xb) = xb ∧ FirstP (putBad (marksF xa (diffF xa xb)) (diffF xa xb)) (diffF xa xb).length (-1) := by
  obtain ⟨h1, h2, h3, h4⟩ := puts_go hA hB (diffF xa xb) [] (marksF xa (diffF xa xb)) rfl (marks_tree _ hA) (fun e he => .inr he) (fun e he h => by
    rcases h with h | h
    · exact both_stay hA hB h he
    · cases h)
  have hall : ∀ e ∈ xb, e ∈ putsF (marksF xa (diffF xa xb)) (diffF xa xb) := fun e he => h3 e he (by
    by_cases h : e ∈ xa
    · exact .inl h
    · exact .inr (put_in hB he h))
  refine ⟨ents_one h1.ord hB.ord fun e => ⟨fun he => ?_, hall e⟩, .inl ⟨rfl, fun i hi => ?_⟩⟩
  · rcases h2 e he with h | h
    · exact h
    · cases hf : atE xb e.q with
      | some y =>
        have hy := atE_some hf
        rw [← h1.one (hall y hy.1) he hy.2]; exact hy.1
      | none =>
        exfalso
        obtain ⟨y, hy, hk, hu⟩ := lone_gone hA hB _ e (Nat.le_refl _) h hf
        obtain ⟨d, hd, hdq, hd1⟩ := h1.up (hB.q_ne hy) he hu
        have := h1.one hd (hall y hy) hdq
        rw [this] at hd1
        exact hk hd1
  · rw [putBad_eq (List.getElem?_eq_getElem hi)]
    by_cases hk : (diffF xa xb)[i].kind = 4 ∨ (diffF xa xb)[i].kind = 5
    · rw [decide_eq_true hk]; rfl
    · rw [decide_eq_true (show kindP (putsF (marksF xa (diffF xa xb)) ((diffF xa xb).take i)) (dirOf (diffF xa xb)[i].path.data.toList) = 1 from h4 i _ (List.getElem?_eq_getElem hi) hk)]; simp
/-- Nothing makes a of a. -/
theorem diff_same {xa : List Ent} (hA : TreeS xa) : diffF xa xa = [] := by
  have hn : ∀ c, ¬ c ∈ diffF xa xa := fun c hc => by
    obtain ⟨p, _, h⟩ := diff_told.1 hc
    rcases step_told.1 h with ⟨h1, h2⟩ | ⟨_, h1⟩ | ⟨_, h1⟩
    · exact h2 h1
    · have hcp := clr_parts h1
      simp only [clrF, Bool.and_eq_true, decide_eq_true_eq] at h1
      have hl := h1.2
      cases hk : kidsE xa p with
      | nil => rw [hk] at hl; simp at hl
      | cons k ks =>
        have hkm : k ∈ kidsE xa p := by rw [hk]; simp
        rw [kidsE, List.mem_filter] at hkm
        have h0 := hcp.2.2 k hkm.1 (by simpa [Ent.q] using hkm.2)
        rw [mem_kind hA hkm.1] at h0
        have := hA.kinds hkm.1
        omega
    · obtain ⟨⟨e, he⟩, hno, _⟩ := gone_parts h1
      rw [he] at hno; cases hno
  exact List.eq_nil_iff_forall_not_mem.2 hn
end Go.Proofs.YtjofjcjojgpaeaaGreatDoor

namespace Go.Proofs.YtjofjcjojgpaeaaGreatDoor
open Go.RowKit Go.Extern.Stop Go.Stop Go.Extern

theorem Tryz.valueOf73 (t : Addr) (w : World) : (ReflectliteValue.unpack (.iface 73 (.pointer (some t)))).run Tryz.prog w
    = .ok (.agg #[.pointer (some ⟨22, 73, none⟩), .pointer (some ⟨w.heap.size, 0, none⟩), .int .u64 150]) (w.alloc (.cells #[.pointer (some t)] 73)) := by kernel_rfl
theorem Tryz.valueOf26 (n : Int) (w : World) : (ReflectliteValue.unpack (.iface 26 (.int .i64 n))).run Tryz.prog w
    = .ok (.agg #[.pointer (some ⟨22, 26, none⟩), .pointer (some ⟨w.heap.size, 0, none⟩), .int .u64 130]) (w.alloc (.cells #[.int .i64 n] 26)) := by kernel_rfl
theorem Tryz.type73 (a : Addr) (w : World) : (ReflectliteValue.methodAny (ReflectliteValue.valueError "reflectlite.Value.Type" 0) (fun t _ _ _ => ReflectliteType.toType t) #[.agg #[.pointer (some ⟨22, 73, none⟩), .pointer (some a), .int .u64 150]]).run Tryz.prog w
    = .ok (.iface 129 (.agg #[.pointer (some ⟨22, 73, none⟩)])) w := by kernel_rfl
theorem Tryz.kind73 (w : World) : ((ReflectliteType.abiMethod fun t => Functor.map (fun a : Nat => Value.int IntKind.u8 (a : Int)) (Rtype.kind t)) #[.pointer (some ⟨22, 73, none⟩)]).run Tryz.prog w = .ok (.int .u8 22) w := by kernel_rfl
theorem Tryz.kind26 (w : World) : ((ReflectliteType.abiMethod fun t => Functor.map (fun a : Nat => Value.int IntKind.u8 (a : Int)) (Rtype.kind t)) #[.pointer (some ⟨22, 26, none⟩)]).run Tryz.prog w = .ok (.int .u8 2) w := by kernel_rfl
theorem Tryz.elem73 (w : World) : (ReflectliteType.method ReflectliteType.elem #[.agg #[.pointer (some ⟨22, 73, none⟩)]]).run Tryz.prog w = .ok (.iface 129 (.agg #[.pointer (some ⟨22, 26, none⟩)])) w := by kernel_rfl
theorem Tryz.implements26 (w : World) : (ReflectliteType.relation "Implements" ReflectliteType.implements_ #[.agg #[.pointer (some ⟨22, 26, none⟩)], .iface 129 (.agg #[.pointer (some ⟨22, 52, none⟩)])]).run Tryz.prog w = .ok (.bool true) w := by kernel_rfl
theorem Tryz.typeOf26 (v : Value) (w : World) : (ReflectliteType.typeOf #[.iface 26 v]).run Tryz.prog w = .ok (.iface 129 (.agg #[.pointer (some ⟨22, 26, none⟩)])) w := by kernel_rfl
theorem Tryz.assignableE83 (w : World) : (ReflectliteType.relation "AssignableTo" ReflectliteType.assignableTo #[.agg #[.pointer (some ⟨22, 26, none⟩)], .iface 129 (.agg #[.pointer (some ⟨22, 68, none⟩)])]).run Tryz.prog w = .ok (.bool false) w := by kernel_rfl
theorem Tryz.assignable26 (w : World) : (ReflectliteType.relation "AssignableTo" ReflectliteType.assignableTo #[.agg #[.pointer (some ⟨22, 26, none⟩)], .iface 129 (.agg #[.pointer (some ⟨22, 26, none⟩)])]).run Tryz.prog w = .ok (.bool true) w := by kernel_rfl

theorem Tryz.parts73 (a : Addr) (w : World) : (ReflectliteValue.parts (.agg #[.pointer (some ⟨22, 73, none⟩), .pointer (some a), .int .u64 150])).run Tryz.prog w = .ok (some (73, a, 150)) w := by kernel_rfl
theorem Tryz.isNil73 (a p : Addr) (W : World) (ha : W.cell? a = some (.pointer (some p))) :
    (ReflectliteValue.method (ReflectliteValue.valueError "reflectlite.Value.IsNil" 0) ReflectliteValue.isNil #[.agg #[.pointer (some ⟨22, 73, none⟩), .pointer (some a), .int .u64 150]]).run Tryz.prog W = .ok (.bool false) W := by
  rw [show ReflectliteValue.method (ReflectliteValue.valueError "reflectlite.Value.IsNil" 0) ReflectliteValue.isNil #[.agg #[.pointer (some ⟨22, 73, none⟩), .pointer (some a), .int .u64 150]] = (ReflectliteValue.parts (.agg #[.pointer (some ⟨22, 73, none⟩), .pointer (some a), .int .u64 150]) >>= _) from rfl]
  simp only [Sem.run_bind, Tryz.parts73, Result.andThen]
  simp [ReflectliteValue.isNil, loadVar, isAgg, underlying, Tryz.underlying73, ha, Result.andThen]
theorem Tryz.elemOf73 (w : World) : (Rtype.elem? 73).run Tryz.prog w = .ok (some 26) w := by kernel_rfl
theorem Tryz.mk26 (p : Addr) (w : World) : (ReflectliteValue.mk 26 p ReflectliteValue.flagAddr).run Tryz.prog w = .ok (.agg #[.pointer (some ⟨22, 26, none⟩), .pointer (some p), .int .u64 386]) w := by kernel_rfl
theorem Tryz.elemV73 (a p : Addr) (W : World) (ha : W.cell? a = some (.pointer (some p))) :
    (ReflectliteValue.method (ReflectliteValue.valueError "reflectlite.Value.Elem" 0) ReflectliteValue.elem #[.agg #[.pointer (some ⟨22, 73, none⟩), .pointer (some a), .int .u64 150]]).run Tryz.prog W
      = .ok (.agg #[.pointer (some ⟨22, 26, none⟩), .pointer (some p), .int .u64 386]) W := by
  rw [show ReflectliteValue.method (ReflectliteValue.valueError "reflectlite.Value.Elem" 0) ReflectliteValue.elem #[.agg #[.pointer (some ⟨22, 73, none⟩), .pointer (some a), .int .u64 150]] = (ReflectliteValue.parts (.agg #[.pointer (some ⟨22, 73, none⟩), .pointer (some a), .int .u64 150]) >>= _) from rfl]
  simp only [Sem.run_bind, Tryz.parts73, Result.andThen]
  simp [ReflectliteValue.elem, loadVar, isAgg, underlying, Tryz.underlying73, ha, Result.andThen, Tryz.elemOf73, Tryz.mk26]
theorem Tryz.parts26a (a : Addr) (w : World) : (ReflectliteValue.parts (.agg #[.pointer (some ⟨22, 26, none⟩), .pointer (some a), .int .u64 386])).run Tryz.prog w = .ok (some (26, a, 386)) w := by kernel_rfl
theorem Tryz.parts26 (a : Addr) (w : World) : (ReflectliteValue.parts (.agg #[.pointer (some ⟨22, 26, none⟩), .pointer (some a), .int .u64 130])).run Tryz.prog w = .ok (some (26, a, 130)) w := by kernel_rfl
theorem Tryz.direct26 (w : World) : (Rtype.directlyAssignable 26 26).run Tryz.prog w = .ok true w := by kernel_rfl
theorem Tryz.set26 (ta b : Addr) (n : Int) (old : Value) (W : World) (hb : W.cell? b = some (.int .i64 n)) (ht : W.cell? ta = some old) (hf : W.frozen? ta = false) :
    (ReflectliteValue.set #[.agg #[.pointer (some ⟨22, 26, none⟩), .pointer (some ta), .int .u64 386], .agg #[.pointer (some ⟨22, 26, none⟩), .pointer (some b), .int .u64 130]]).run Tryz.prog W
      = .ok (.tuple #[]) (W.setCell ta (.int .i64 n)) := by
  rw [show ReflectliteValue.set #[.agg #[.pointer (some ⟨22, 26, none⟩), .pointer (some ta), .int .u64 386], .agg #[.pointer (some ⟨22, 26, none⟩), .pointer (some b), .int .u64 130]] = (ReflectliteValue.parts (.agg #[.pointer (some ⟨22, 26, none⟩), .pointer (some ta), .int .u64 386]) >>= fun _ => ReflectliteValue.parts (.agg #[.pointer (some ⟨22, 26, none⟩), .pointer (some b), .int .u64 130]) >>= _) from rfl]
  simp only [Sem.run_bind, Tryz.parts26a, Tryz.parts26, Result.andThen]
  simp [ReflectliteValue.flagAddr, loadVar, isAgg, underlying, Tryz.underlying26, hb, Result.andThen, Tryz.direct26, storeVar, Value.cells, storeCells, Addr.add]
  rw [run_store Tryz.prog W ta _ _ (by rfl)]
  simp [ht, hf]
theorem Tryz.noAs (v : Value) (xT : TypeId) (w : World) : (Instr.typeAssert (.iface 26 v) xT 134 true).run Tryz.prog w = .ok (.tuple #[.nilIface, .bool false]) w := run_typeAssert_lacksB Tryz.underlying134 (by kernel_rfl) (by kernel_rfl) v xT w
theorem Tryz.noUnwrap (v : Value) (xT : TypeId) (w : World) : (Instr.typeAssert (.iface 26 v) xT 137 true).run Tryz.prog w = .ok (.tuple #[.nilIface, .bool false]) w := run_typeAssert_lacksB Tryz.underlying137 (by kernel_rfl) (by kernel_rfl) v xT w
theorem Tryz.noUnwraps (v : Value) (xT : TypeId) (w : World) : (Instr.typeAssert (.iface 26 v) xT 139 true).run Tryz.prog w = .ok (.tuple #[.nilIface, .bool false]) w := run_typeAssert_lacksB Tryz.underlying139 (by kernel_rfl) (by kernel_rfl) v xT w
set_option maxHeartbeats 4000000 in
theorem as_miss (n : Int) (t : Addr) (w : World) (hg : w.cell? ⟨0, 0, none⟩ = some (.iface 129 (.agg #[.pointer (some ⟨22, 52, none⟩)]))) :
    Calls Tryz.prog 29 #[.iface 26 (.int .i64 n), .iface 70 (.pointer (some t))] w fun ev w' => ev = .returned (.bool false) ∧ w' = (((w.alloc (.cells #[.pointer (some t)] 70)).alloc (.cells #[.pointer (some ⟨22, 70, none⟩), .pointer (some ⟨w.heap.size, 0, none⟩), .int .u64 150] 91)).alloc (.cells #[.pointer (some ⟨22, 70, none⟩), .pointer (some ⟨w.heap.size, 0, none⟩), .int .u64 150] 91)) := by
  have h23 := @run_callFunc_extern Tryz.prog 45 _ (fun args => ReflectliteValue.unpack (args.getD 0 (.tuple #[]))) Tryz.func45 (by kernel_rfl) (by kernel_rfl) (by kernel_rfl) (by kernel_rfl)
  have h24 := @run_callFunc_extern Tryz.prog 46 _ (ReflectliteValue.methodAny (ReflectliteValue.valueError "reflectlite.Value.Type" 0) (fun t _ _ _ => ReflectliteType.toType t)) Tryz.func46 (by kernel_rfl) (by kernel_rfl) (by kernel_rfl) (by kernel_rfl)
  have h25 := @run_callFunc_extern Tryz.prog 47 _ (ReflectliteValue.method (ReflectliteValue.valueError "reflectlite.Value.IsNil" 0) ReflectliteValue.isNil) Tryz.func47 (by kernel_rfl) (by kernel_rfl) (by kernel_rfl) (by kernel_rfl)
  have h69 := @run_callFunc_extern Tryz.prog 227 _ (ReflectliteType.abiMethod fun t => do pure (.int .u8 (← Rtype.kind t))) Tryz.func227 (by kernel_rfl) (by kernel_rfl) (by kernel_rfl) (by kernel_rfl)
  have h82 := @run_callFunc_extern Tryz.prog 240 _ (ReflectliteType.method ReflectliteType.elem) Tryz.func240 (by kernel_rfl) (by kernel_rfl) (by kernel_rfl) (by kernel_rfl)
  have h83 := @run_callFunc_extern Tryz.prog 241 _ (ReflectliteType.relation "Implements" ReflectliteType.implements_) Tryz.func241 (by kernel_rfl) (by kernel_rfl) (by kernel_rfl) (by kernel_rfl)
  have h34 := @run_callFunc_extern Tryz.prog 74 _ ReflectliteType.typeOf Tryz.func74 (by kernel_rfl) (by kernel_rfl) (by kernel_rfl) (by kernel_rfl)
  have h80 := @run_callFunc_extern Tryz.prog 238 _ (ReflectliteType.relation "AssignableTo" ReflectliteType.assignableTo) Tryz.func238 (by kernel_rfl) (by kernel_rfl) (by kernel_rfl) (by kernel_rfl)
  have tO := Tryz.typeOf26
  have mA := Tryz.methodAssignableTo
  have a39 := Tryz.assignableE83
  have f6 := Tryz.valueOf70
  have f7 := Tryz.type70
  have mK := Tryz.methodKind
  have mE := Tryz.methodElem
  have mI := Tryz.methodImplements
  have k41 := Tryz.kind70
  have k39 := Tryz.kind68
  have e41 := Tryz.elem70
  have i39 := Tryz.implements68
  have nA := Tryz.noAs
  have nU := Tryz.noUnwrap
  have nUs := Tryz.noUnwraps
  have n8 := Tryz.isNil70 ⟨w.heap.size, 0, none⟩ t ((w.alloc (.cells #[.pointer (some t)] 70)).alloc (.cells #[.pointer (some ⟨22, 70, none⟩), .pointer (some ⟨w.heap.size, 0, none⟩), .int .u64 150] 91)) (by simp)
  have hlt : 0 < w.heap.size := by
    rcases Nat.eq_zero_or_pos w.heap.size with h0 | h
    · simp [World.cell?, h0] at hg
    · exact h
  have hg2 : ((w.alloc (.cells #[.pointer (some t)] 70)).alloc (.cells #[.pointer (some ⟨22, 70, none⟩), .pointer (some ⟨w.heap.size, 0, none⟩), .int .u64 150] 91)).cell? ⟨0, 0, none⟩ = some (.iface 129 (.agg #[.pointer (some ⟨22, 52, none⟩)])) := by
    rw [World.cell?_alloc_lt _ _ ⟨0, 0, none⟩ (by simp), World.cell?_alloc_lt _ _ ⟨0, 0, none⟩ hlt]; exact hg
  go_enter Tryz.func29, Tryz.ntmps29
  go_wp2
  refine wp_loop_rounds 1 ?_
  rw [rounds_succ]
  go_wp2
  go_ret
  exact ⟨rfl, rfl⟩

set_option maxHeartbeats 4000000 in
theorem as_hitE (n : Int) (t : Addr) (old : Value) (w : World) (hg : w.cell? ⟨0, 0, none⟩ = some (.iface 129 (.agg #[.pointer (some ⟨22, 52, none⟩)]))) (ht0 : w.cell? t = some old) (hf0 : w.frozen? t = false) :
    Calls Tryz.prog 29 #[.iface 26 (.int .i64 n), .iface 73 (.pointer (some t))] w fun ev w' => ev = .returned (.bool true) ∧ w' = ((((w.alloc (.cells #[.pointer (some t)] 73)).alloc (.cells #[.pointer (some ⟨22, 73, none⟩), .pointer (some ⟨w.heap.size, 0, none⟩), .int .u64 150] 91)).alloc (.cells #[.pointer (some ⟨22, 73, none⟩), .pointer (some ⟨w.heap.size, 0, none⟩), .int .u64 150] 91)).alloc (.cells #[.int .i64 n] 26)).setCell t (.int .i64 n) := by
  have h23 := @run_callFunc_extern Tryz.prog 45 _ (fun args => ReflectliteValue.unpack (args.getD 0 (.tuple #[]))) Tryz.func45 (by kernel_rfl) (by kernel_rfl) (by kernel_rfl) (by kernel_rfl)
  have h24 := @run_callFunc_extern Tryz.prog 46 _ (ReflectliteValue.methodAny (ReflectliteValue.valueError "reflectlite.Value.Type" 0) (fun t _ _ _ => ReflectliteType.toType t)) Tryz.func46 (by kernel_rfl) (by kernel_rfl) (by kernel_rfl) (by kernel_rfl)
  have h25 := @run_callFunc_extern Tryz.prog 47 _ (ReflectliteValue.method (ReflectliteValue.valueError "reflectlite.Value.IsNil" 0) ReflectliteValue.isNil) Tryz.func47 (by kernel_rfl) (by kernel_rfl) (by kernel_rfl) (by kernel_rfl)
  have h69 := @run_callFunc_extern Tryz.prog 227 _ (ReflectliteType.abiMethod fun t => do pure (.int .u8 (← Rtype.kind t))) Tryz.func227 (by kernel_rfl) (by kernel_rfl) (by kernel_rfl) (by kernel_rfl)
  have h82 := @run_callFunc_extern Tryz.prog 240 _ (ReflectliteType.method ReflectliteType.elem) Tryz.func240 (by kernel_rfl) (by kernel_rfl) (by kernel_rfl) (by kernel_rfl)
  have h83 := @run_callFunc_extern Tryz.prog 241 _ (ReflectliteType.relation "Implements" ReflectliteType.implements_) Tryz.func241 (by kernel_rfl) (by kernel_rfl) (by kernel_rfl) (by kernel_rfl)
  have h34 := @run_callFunc_extern Tryz.prog 74 _ ReflectliteType.typeOf Tryz.func74 (by kernel_rfl) (by kernel_rfl) (by kernel_rfl) (by kernel_rfl)
  have h80 := @run_callFunc_extern Tryz.prog 238 _ (ReflectliteType.relation "AssignableTo" ReflectliteType.assignableTo) Tryz.func238 (by kernel_rfl) (by kernel_rfl) (by kernel_rfl) (by kernel_rfl)
  have h35 := @run_callFunc_extern Tryz.prog 75 _ (ReflectliteValue.method (ReflectliteValue.valueError "reflectlite.Value.Elem" 0) ReflectliteValue.elem) Tryz.func75 (by kernel_rfl) (by kernel_rfl) (by kernel_rfl) (by kernel_rfl)
  have h36 := @run_callFunc_extern Tryz.prog 76 _ ReflectliteValue.set Tryz.func76 (by kernel_rfl) (by kernel_rfl) (by kernel_rfl) (by kernel_rfl)
  have tO := Tryz.typeOf26
  have mA := Tryz.methodAssignableTo
  have a22 := Tryz.assignable26
  have v22 := Tryz.valueOf26
  have f6 := Tryz.valueOf73
  have f7 := Tryz.type73
  have mK := Tryz.methodKind
  have mE := Tryz.methodElem
  have mI := Tryz.methodImplements
  have k44 := Tryz.kind73
  have k22 := Tryz.kind26
  have e44 := Tryz.elem73
  have i22 := Tryz.implements26
  have n8 := Tryz.isNil73 ⟨w.heap.size, 0, none⟩ t ((w.alloc (.cells #[.pointer (some t)] 73)).alloc (.cells #[.pointer (some ⟨22, 73, none⟩), .pointer (some ⟨w.heap.size, 0, none⟩), .int .u64 150] 91)) (by simp)
  have hlt : 0 < w.heap.size := by
    rcases Nat.eq_zero_or_pos w.heap.size with h0 | h
    · simp [World.cell?, h0] at hg
    · exact h
  have hg2 : ((w.alloc (.cells #[.pointer (some t)] 73)).alloc (.cells #[.pointer (some ⟨22, 73, none⟩), .pointer (some ⟨w.heap.size, 0, none⟩), .int .u64 150] 91)).cell? ⟨0, 0, none⟩ = some (.iface 129 (.agg #[.pointer (some ⟨22, 52, none⟩)])) := by
    rw [World.cell?_alloc_lt _ _ ⟨0, 0, none⟩ (by simp), World.cell?_alloc_lt _ _ ⟨0, 0, none⟩ hlt]; exact hg
  have htl : t.block < w.heap.size := by
    rcases Nat.lt_or_ge t.block w.heap.size with h | h
    · exact h
    · simp [World.cell?, Array.getElem?_eq_none h] at ht0
  have el := Tryz.elemV73 ⟨w.heap.size, 0, none⟩ t (((w.alloc (.cells #[.pointer (some t)] 73)).alloc (.cells #[.pointer (some ⟨22, 73, none⟩), .pointer (some ⟨w.heap.size, 0, none⟩), .int .u64 150] 91)).alloc (.cells #[.pointer (some ⟨22, 73, none⟩), .pointer (some ⟨w.heap.size, 0, none⟩), .int .u64 150] 91)) (by rw [World.cell?_alloc_lt _ _ ⟨w.heap.size, 0, none⟩ (by simp; omega)]; simp)
  have st := Tryz.set26 t ⟨w.heap.size + 1 + 1 + 1, 0, none⟩ n old ((((w.alloc (.cells #[.pointer (some t)] 73)).alloc (.cells #[.pointer (some ⟨22, 73, none⟩), .pointer (some ⟨w.heap.size, 0, none⟩), .int .u64 150] 91)).alloc (.cells #[.pointer (some ⟨22, 73, none⟩), .pointer (some ⟨w.heap.size, 0, none⟩), .int .u64 150] 91)).alloc (.cells #[.int .i64 n] 26))
    (by rw [World.cell?_alloc_at _ _ _ _ (by simp)]; rfl)
    (by rw [World.cell?_alloc_lt _ _ t (by simp; omega), World.cell?_alloc_lt _ _ t (by simp; omega), World.cell?_alloc_lt _ _ t (by simp; omega), World.cell?_alloc_lt _ _ t htl]; exact ht0)
    (by rw [World.frozen?_alloc_old _ _ t (by simp; omega), World.frozen?_alloc_old _ _ t (by simp; omega), World.frozen?_alloc_old _ _ t (by simp; omega), World.frozen?_alloc_old _ _ t (Nat.ne_of_lt htl)]; exact hf0)
  go_enter Tryz.func29, Tryz.ntmps29
  go_wp2
  refine wp_loop_rounds 1 ?_
  rw [rounds_succ]
  go_wp2
  go_ret
  exact ⟨rfl, rfl⟩
theorem as_miss_b (n : Int) (t : Addr) (w : World) (hg : w.cell? ⟨0, 0, none⟩ = some (.iface 129 (.agg #[.pointer (some ⟨22, 52, none⟩)]))) :
    Calls Tryz.prog 29 #[.iface 26 (.int .i64 n), .iface 70 (.pointer (some t))] w fun ev w' => ev = .returned (.bool false) ∧ Below w.heap.size w w' := by
  refine (as_miss n t w hg).mono ?_
  rintro e w' ⟨rfl, rfl⟩
  exact ⟨rfl, (((Below.refl _ _).alloc (Nat.le_refl _) _).alloc (by simp) _).alloc (by simp; omega) _⟩
theorem as_hitE_b (n : Int) (t : Addr) (old : Value) (B : Nat) (w : World) (hg : w.cell? ⟨0, 0, none⟩ = some (.iface 129 (.agg #[.pointer (some ⟨22, 52, none⟩)]))) (ht0 : w.cell? t = some old) (hf0 : w.frozen? t = false) (hB : B ≤ t.block) :
    Calls Tryz.prog 29 #[.iface 26 (.int .i64 n), .iface 73 (.pointer (some t))] w fun ev w' => ev = .returned (.bool true) ∧ w'.cell? t = some (.int .i64 n) ∧ Below B w w' := by
  have htl : t.block < w.heap.size := World.block_lt_of_cell? _ _ ht0
  refine (as_hitE n t old w hg ht0 hf0).mono ?_
  rintro e w' ⟨rfl, rfl⟩
  refine ⟨rfl, ?_, (((((Below.refl _ _).alloc (by omega) _).alloc (by simp; omega) _).alloc (by simp; omega) _).alloc (by simp; omega) _).setCell hB _⟩
  refine World.cell?_setCell_same _ _ _ (u := old) (by rw [World.cell?_alloc_lt _ _ t (by simp; omega), World.cell?_alloc_lt _ _ t (by simp; omega), World.cell?_alloc_lt _ _ t (by simp; omega), World.cell?_alloc_lt _ _ t htl]; exact ht0)

set_option maxHeartbeats 2000000 in
theorem tell_errno (n : Int) (w : World) (hg : w.cell? ⟨0, 0, none⟩ = some (.iface 129 (.agg #[.pointer (some ⟨22, 52, none⟩)]))) : Calls Tryz.prog 20 #[.iface 26 (.int .i64 n)] w fun e w' => e = .returned (.tuple #[.int .i64 n, .int .i64 (-1)]) ∧ Below w.heap.size w w' := by
  have hlt : 0 < w.heap.size := World.block_lt_of_cell? _ _ hg
  go_enter Tryz.func20, Tryz.ntmps20
  go_wp2_with fail
  refine (as_miss_b n _ _ ?hgA).mono ?_
  case hgA => rw [World.cell?_alloc_lt _ _ ⟨0, 0, none⟩ (by simp), World.cell?_alloc_lt _ _ ⟨0, 0, none⟩ hlt]; exact hg
  rintro e w1 ⟨rfl, hb1⟩
  have hg1 : w1.cell? ⟨0, 0, none⟩ = some (.iface 129 (.agg #[.pointer (some ⟨22, 52, none⟩)])) := by
    rw [hb1.cell (p := ⟨0, 0, none⟩) (by simp), World.cell?_alloc_lt _ _ ⟨0, 0, none⟩ (by simp), World.cell?_alloc_lt _ _ ⟨0, 0, none⟩ hlt]; exact hg
  have ht1 : w1.cell? ⟨w.heap.size + 1, 0, none⟩ = some (.int .i64 0) := by
    rw [hb1.cell (p := ⟨w.heap.size + 1, 0, none⟩) (by simp)]; simp
  have hf1 : w1.frozen? ⟨w.heap.size + 1, 0, none⟩ = false := by
    rw [hb1.frozen (p := ⟨w.heap.size + 1, 0, none⟩) (by simp)]; simp
  have hbw : Below w.heap.size w w1 := (((Below.refl _ _).alloc (Nat.le_refl _) _).alloc (by simp) _).trans (hb1.mono (by simp; omega))
  clear hb1
  go_wp2_with fail
  refine (as_hitE_b n _ _ w.heap.size _ hg1 ht1 hf1 (by simp)).mono ?_
  rintro e w2 ⟨rfl, hc2, hb2⟩
  go_wp2
  go_ret2
  exact ⟨rfl, hbw.trans hb2⟩
end Go.Proofs.YtjofjcjojgpaeaaGreatDoor
