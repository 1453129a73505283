import Derived.Test.YtjofjcjojgpaeaaGreatDoorJPatO
import Derived.Test.YtjofjcjojgpaeaaGreatDoorJChgD
namespace Go.Proofs.YtjofjcjojgpaeaaGreatDoor
open Go.RowKit Go.Maps

/-- The number of the first place at which something is so; -1: none. -/
def FirstP (f : Nat → Bool) (n : Nat) (r : Int) : Prop := (r = -1 ∧ ∀ i, i < n → f i = false) ∨ ∃ i : Nat, r = i ∧ i < n ∧ f i = true ∧ ∀ j, j < i → f j = false
theorem firstP_one {f : Nat → Bool} {n : Nat} {r s : Int} (h1 : FirstP f n r) (h2 : FirstP f n s) : r = s := by
  rcases h1 with ⟨rfl, a1⟩ | ⟨i, rfl, a1, a2, a3⟩ <;> rcases h2 with ⟨rfl, b1⟩ | ⟨j, rfl, b1, b2, b3⟩
  · rfl
  · rw [a1 j b1] at b2; cases b2
  · rw [b1 i a1] at a2; cases a2
  · rcases Nat.lt_trichotomy i j with h | h | h
    · rw [b3 i h] at a2; cases a2
    · rw [h]
    · rw [a3 j h] at b2; cases b2
/-- A mark that names what is not there. -/
def mrkBad (es : List Ent) (c : Ent) : Bool := (decide (c.kind = 4) && decide (kindP es c.path.data.toList = 0)) || (decide (c.kind = 5) && !decide (kindP es c.path.data.toList = 1))
def mrkAt (es cs : List Ent) (i : Nat) : Bool := match cs[i]? with
  | none => false
  | some c => mrkBad es c
theorem mrkAt_eq {es cs : List Ent} {i : Nat} {c : Ent} (h : cs[i]? = some c) : mrkAt es cs i = mrkBad es c := by unfold mrkAt; rw [h]
/-- What a call answers that tells an error and its place. -/
def ErrP (w : World) (f : Nat → Bool) (n : Nat) (code : Int) (er : Value) : Prop := (er = .nilIface ∧ FirstP f n (-1)) ∨ ∃ i : Nat, ErIs w er code i ∧ FirstP f n i
theorem find_kind0 {r : Nd} {ns : List Nd} (h : TreeS (entsN ns)) (hr : r.ent = rootE) {p : List UInt8} {v : Value} (hv : FindIs r ns p v) : (v = .pointer none ∧ kindP (entsN ns) p = 0) ∨ ∃ x ∈ r :: ns, v = .pointer (some ⟨x.nb, 0, none⟩) ∧ kindP (entsN ns) p = x.ent.kind ∧ x.ent.kind ≠ 0 := by
  have hr0 : r.p = [] := by rw [Nd.p, hr]; rfl
  rcases find_kindS h hr hv with ⟨rfl, _⟩ | ⟨x, hx, rfl, hp, hk⟩
  · rcases hv with ⟨_, hno⟩ | ⟨x, _, h1, _⟩
    · refine .inl ⟨rfl, ?_⟩
      have hp0 : p ≠ [] := fun e => hno r (by simp) (hr0.trans e.symm)
      rw [kindP_at hp0, atE_miss fun e he hep => by
        obtain ⟨x, hx, rfl⟩ := List.mem_map.1 he
        exact hno x (by simp [hx]) hep]
    · cases h1
  · refine .inr ⟨x, hx, rfl, hk, ?_⟩
    rcases List.mem_cons.1 hx with e | e
    · rw [e, hr]; decide
    · have := good_kind (ent_parts (h.ent x.ent (List.mem_map.2 ⟨x, e, rfl⟩))).2.2
      omega

set_option maxHeartbeats 2000000 in
set_option maxRecDepth 100000 in
theorem checkMarks_any (r : Nd) (ns : List Nd) (B : Nat) (es : List Ent) (ao : Option Addr) (cap n : Nat) (cs : List Ent) (m : Int) (w : World) (hM : Mem w B r ns) (HE : Hid (entsN ns = es)) (HT : Hid (TreeS es)) (hr : ERow w ao cs) (HN : Hid (n = cs.length)) (hn : n ≤ 4294967280) (HS : Hid (Small cs)) (hm : w.cell? ⟨14, 0, none⟩ = some (.int .i64 m)) :
    Calls Tryz.prog 50 #[.pointer (some ⟨r.nb, 0, none⟩), .slice ao n cap] w fun ev w' => ∃ er, ev = .returned er ∧ Hid (ErrP w' (mrkAt es cs) cs.length 8 er) ∧ Below w.heap.size w w' := by
  have HM := hide hm
  have HMem := hide hM
  have HTn : Hid (TreeS (entsN ns)) := hide (by rw [unhide HE]; exact unhide HT)
  have HO : Hid (OkTo (entsN ns) ns.length) := hide (by have := (unhide HTn).ok; rwa [show (entsN ns).length = ns.length from by simp [entsN]] at this)
  clear hm hM
  go_enter Tryz.func50, Tryz.ntmps50
  go_wp2_with fail
  go_loopw [10] (fun i wr => ∃ k : Nat, k ≤ n ∧ i = .int .i64 k ∧ Below w.heap.size w wr ∧ Hid (∀ j, j < k → mrkAt es cs j = false)) (fun i _ => n - (intOf i).toNat)
  case atStart => exact ⟨0, by omega, rfl, Below.refl _ _, hide (by intro j hj; omega)⟩
  case round =>
    obtain ⟨k, hk, rfl, hb, HK⟩ := hrel
    by_cases hlt : k < n
    · obtain ⟨c, he⟩ : ∃ c, cs[k]? = some c := ⟨cs[k]'(by have := unhide HN; omega), List.getElem?_eq_getElem (by have := unhide HN; omega)⟩
      obtain ⟨g, o, rfl, c0, c1, c2, c3⟩ := (hr.below (hb)) k c he
      have i0 : (0 : Int) ≤ (k : Int) := by omega
      have i1 : (k : Int) < (n : Int) := by omega
      have hs1 := (unhide HS c (List.mem_of_getElem? he)).1
      have HLen : Hid (k < cs.length) := hide (by have := unhide HN; omega)
      obtain ⟨W0, hW0⟩ : ∃ W0, W0 = wr.alloc (.cells #[.string c.path, .int .i64 c.kind, .int .i64 c.mode, .string c.data] 37) := ⟨_, rfl⟩
      have hB0w : Below wr.heap.size wr W0 := by rw [hW0]; exact (Below.refl _ _).alloc (Nat.le_refl _) _
      have q0 : W0.cell? ⟨wr.heap.size, 0, none⟩ = some (.string c.path) := by rw [hW0]; exact cell_of_row _ _ 0 _ _ _ (heap_alloc_new _ _)
      have q1 : W0.cell? ⟨wr.heap.size, 1, none⟩ = some (.int .i64 c.kind) := by rw [hW0]; exact cell_of_row _ _ 1 _ _ _ (heap_alloc_new _ _)
      have q2 : W0.cell? ⟨wr.heap.size, 2, none⟩ = some (.int .i64 c.mode) := by rw [hW0]; exact cell_of_row _ _ 2 _ _ _ (heap_alloc_new _ _)
      have q3 : W0.cell? ⟨wr.heap.size, 3, none⟩ = some (.string c.data) := by rw [hW0]; exact cell_of_row _ _ 3 _ _ _ (heap_alloc_new _ _)
      have HEc := hide he
      clear he
      go_upto_region 4 with fail
      rw [← hW0]
      clear hW0 c0 c1 c2 c3
      have hB0 := hb.trans (hB0w.mono hb.size)
      go_upto_region 5 with (go_at_call 39; refine (find_any r ns B c.path m _ ((unhide HMem).below hB0) HO hs1 (cell_later hB0 (unhide HM))).mono ?_; rintro ev w2 ⟨v, rfl, HF, hb2⟩)
      have hB2 := hB0.trans (hb2.mono hB0.size)
      have q1 := cell_later hb2 q1
      clear hb2 q0 q2 q3 hB0w
      have hM2 := (unhide HMem).below hB2
      have hfk := find_kind0 (unhide HTn) hM2.root (unhide HF)
      rw [unhide HE] at hfk
      clear HF
      by_cases h4 : c.kind = 4
      · rw [h4] at q1
        rcases hfk with ⟨rfl, hk0⟩ | ⟨x, hx, rfl, hkx, hk0⟩
        · clear hM2
          have C : Hid (mrkAt es cs k = true) := hide (by rw [mrkAt_eq (unhide HEc), mrkBad]; simp [h4, hk0])
          clear hk0
          go_wp2_with fail
          go_ret
          refine ⟨_, rfl, hide (.inr ⟨k, ⟨w2.heap.size, rfl, ?_, ?_⟩, .inr ⟨k, rfl, unhide HLen, unhide C, unhide HK⟩⟩), hB2.alloc hB2.size _⟩
          · exact cell_of_row _ _ 0 _ _ _ (heap_alloc_new w2 _)
          · exact cell_of_row _ _ 1 _ _ _ (heap_alloc_new w2 _)
        · have hk0' : ¬ kindP es c.path.data.toList = 0 := by rw [hkx]; exact hk0
          clear hM2
          have C : Hid (mrkAt es cs k = false) := hide (by rw [mrkAt_eq (unhide HEc), mrkBad]; simp [h4, hk0'])
          clear hk0 hk0' hkx
          go_wp2_with fail
          go_roundw
          case rel =>
            have R : ∀ j, j < k + 1 → mrkAt es cs j = false := fun j hj => by
              rcases Nat.lt_or_ge j k with h | h
              · exact unhide HK j h
              · have e9 : j = k := by omega
                rw [e9]; exact unhide C
            first
              | exact ⟨k + 1, by omega, by go_num, hB2, hide R⟩
              | ((repeat apply Exists.intro); exact ⟨⟨k + 1, by omega, by go_num, hB2, hide R⟩, rfl⟩)
          case measure => simp [intOf]; omega
      · have h4' : (c.kind == 4) = false := by simp [h4]
        by_cases h5 : c.kind = 5
        · rw [h5] at q1
          rcases hfk with ⟨rfl, hk0⟩ | ⟨x, hx, rfl, hkx, hk0⟩
          · clear hM2
            have C : Hid (mrkAt es cs k = true) := hide (by rw [mrkAt_eq (unhide HEc), mrkBad]; simp [h5, hk0])
            clear hk0
            go_wp2_with (go_at_call 67; refine (isDir_nil _).mono ?_; rintro ev w3 ⟨rfl, hw⟩; obtain rfl := hw.symm)
            go_ret
            refine ⟨_, rfl, hide (.inr ⟨k, ⟨w2.heap.size, rfl, ?_, ?_⟩, .inr ⟨k, rfl, unhide HLen, unhide C, unhide HK⟩⟩), hB2.alloc hB2.size _⟩
            · exact cell_of_row _ _ 0 _ _ _ (heap_alloc_new w2 _)
            · exact cell_of_row _ _ 1 _ _ _ (heap_alloc_new w2 _)
          · have z1 : w2.cell? ⟨x.nb, 1, none⟩ = some (.int .i64 x.ent.kind) := cell_of_row w2 x.nb 1 _ _ _ (hM2.all x hx).2.2.1
            by_cases kx : x.ent.kind = 1
            · have hDx : Calls Tryz.prog 67 #[.pointer (some ⟨x.nb, 0, none⟩)] w2 fun ev w' => ev = .returned (.bool true) ∧ w' = w2 := by have := isDir_at _ _ _ z1; rw [decide_eq_true kx] at this; exact this
              have hk1 : kindP es c.path.data.toList = 1 := hkx.trans kx
              clear hM2 z1 kx hkx hk0
              have C : Hid (mrkAt es cs k = false) := hide (by rw [mrkAt_eq (unhide HEc), mrkBad]; simp [h5, hk1])
              clear hk1
              go_wp2_with (go_at_call 67; refine hDx.mono ?_; rintro ev w3 ⟨rfl, hw⟩; obtain rfl := hw.symm)
              go_roundw
              case rel =>
                have R : ∀ j, j < k + 1 → mrkAt es cs j = false := fun j hj => by
                  rcases Nat.lt_or_ge j k with h | h
                  · exact unhide HK j h
                  · have e9 : j = k := by omega
                    rw [e9]; exact unhide C
                first
                  | exact ⟨k + 1, by omega, by go_num, hB2, hide R⟩
                  | ((repeat apply Exists.intro); exact ⟨⟨k + 1, by omega, by go_num, hB2, hide R⟩, rfl⟩)
              case measure => simp [intOf]; omega
            · have hDx : Calls Tryz.prog 67 #[.pointer (some ⟨x.nb, 0, none⟩)] w2 fun ev w' => ev = .returned (.bool false) ∧ w' = w2 := by have := isDir_at _ _ _ z1; rw [decide_eq_false kx] at this; exact this
              have hk1 : ¬ kindP es c.path.data.toList = 1 := fun h => kx (hkx.symm.trans h)
              clear hM2 z1 kx hkx hk0
              have C : Hid (mrkAt es cs k = true) := hide (by rw [mrkAt_eq (unhide HEc), mrkBad]; simp [h5, hk1])
              clear hk1
              go_wp2_with (go_at_call 67; refine hDx.mono ?_; rintro ev w3 ⟨rfl, hw⟩; obtain rfl := hw.symm)
              go_ret
              refine ⟨_, rfl, hide (.inr ⟨k, ⟨w2.heap.size, rfl, ?_, ?_⟩, .inr ⟨k, rfl, unhide HLen, unhide C, unhide HK⟩⟩), hB2.alloc hB2.size _⟩
              · exact cell_of_row _ _ 0 _ _ _ (heap_alloc_new w2 _)
              · exact cell_of_row _ _ 1 _ _ _ (heap_alloc_new w2 _)
        · have h5' : (c.kind == 5) = false := by simp [h5]
          clear hM2 hfk
          have C : Hid (mrkAt es cs k = false) := hide (by rw [mrkAt_eq (unhide HEc), mrkBad]; simp [h4, h5])
          go_wp2_with fail
          go_roundw
          case rel =>
            have R : ∀ j, j < k + 1 → mrkAt es cs j = false := fun j hj => by
              rcases Nat.lt_or_ge j k with h | h
              · exact unhide HK j h
              · have e9 : j = k := by omega
                rw [e9]; exact unhide C
            first
              | exact ⟨k + 1, by omega, by go_num, hB2, hide R⟩
              | ((repeat apply Exists.intro); exact ⟨⟨k + 1, by omega, by go_num, hB2, hide R⟩, rfl⟩)
          case measure => simp [intOf]; omega
    · have HF : Hid (FirstP (mrkAt es cs) cs.length (-1)) := hide (.inl ⟨rfl, fun i hi => unhide HK i (by have := unhide HN; omega)⟩)
      go_wp2_with fail
      go_ret
      exact ⟨.nilIface, rfl, hide (.inl ⟨rfl, unhide HF⟩), hb⟩
end Go.Proofs.YtjofjcjojgpaeaaGreatDoor

namespace Go.Proofs.YtjofjcjojgpaeaaGreatDoor
open Go.RowKit Go.Maps

/-- A mark done on a tree. -/
def mark1 (t : List Ent) (c : Ent) : List Ent := if c.kind = 4 then wo t c.path.data.toList true else if c.kind = 5 then wo t c.path.data.toList false else t
def marksF (t cs : List Ent) : List Ent := cs.foldl mark1 t
theorem mark1_tree {t : List Ent} (h : TreeS t) (c : Ent) : TreeS (mark1 t c) := by
  unfold mark1
  split
  · exact wo_tree h _ _
  · split
    · exact wo_tree h _ _
    · exact h
theorem marks_tree : ∀ (cs : List Ent) {t : List Ent}, TreeS t → TreeS (marksF t cs)
  | [], _, h => h
  | c :: cs, _, h => marks_tree cs (mark1_tree h c)
theorem mark1_len (t : List Ent) (c : Ent) : (mark1 t c).length ≤ t.length := by
  unfold mark1
  split
  · exact List.length_filter_le _ _
  · split
    · exact List.length_filter_le _ _
    · exact Nat.le_refl _
theorem marks_len : ∀ (cs t : List Ent), (marksF t cs).length ≤ t.length
  | [], _ => Nat.le_refl _
  | c :: cs, t => Nat.le_trans (marks_len cs (mark1 t c)) (mark1_len t c)
theorem marks_snoc {t cs : List Ent} {k : Nat} {c : Ent} (h : cs[k]? = some c) : marksF t (cs.take (k + 1)) = mark1 (marksF t (cs.take k)) c := by
  rw [List.take_add_one, h, marksF, marksF, List.foldl_append]; rfl
/-- An entry of the changes put. -/
def put1 (t : List Ent) (c : Ent) : List Ent := if c.kind = 4 ∨ c.kind = 5 then t else putE t c
def putsF (t cs : List Ent) : List Ent := cs.foldl put1 t
theorem puts_snoc {t cs : List Ent} {k : Nat} {c : Ent} (h : cs[k]? = some c) : putsF t (cs.take (k + 1)) = put1 (putsF t (cs.take k)) c := by
  rw [List.take_add_one, h, putsF, putsF, List.foldl_append]; rfl
/-- An entry whose directory is not there. -/
def putBad (t cs : List Ent) (i : Nat) : Bool := match cs[i]? with
  | none => false
  | some c => !decide (c.kind = 4 ∨ c.kind = 5) && !decide (kindP (putsF t (cs.take i)) (dirOf c.path.data.toList) = 1)
theorem putBad_eq {t cs : List Ent} {i : Nat} {c : Ent} (h : cs[i]? = some c) : putBad t cs i = (!decide (c.kind = 4 ∨ c.kind = 5) && !decide (kindP (putsF t (cs.take i)) (dirOf c.path.data.toList) = 1)) := by unfold putBad; rw [h]
theorem put_len {α : Type} {f : α → List UInt8} {l : List α} (h : l.Pairwise fun a b => ltP (f a) (f b) = true) (both : Bool) (y : α) : (putG f l both y).length ≤ l.length + 1 := by
  have e := sorted_split (fun x => ltP (f x) (f y)) (fun x => keepPut both (f y) (f x)) l (h.imp fun {x z} hl hb => by
    have h1 := (keepPut_iff.1 hb).1
    cases h2 : ltP (f z) (f y)
    · rfl
    · have := totP.trans (totP.trans h1 hl) h2
      rw [totP.irr] at this; cases this) (fun x _ ha => by
    cases hb : keepPut both (f y) (f x)
    · rfl
    · have := totP.trans ha (keepPut_iff.1 hb).1
      rw [totP.irr] at this; cases this)
  have h2 := congrArg List.length e
  have h3 := List.length_filter_le (fun x => ltP (f x) (f y) || keepPut both (f y) (f x)) l
  rw [List.length_append] at h2
  rw [putG, List.length_append, List.length_cons]
  omega
theorem chOk_parted {c : Ent} (h : chOk c = true) (h4 : c.kind = 4) : Parted c.path.data.toList := by
  have h1 := chOk_path h
  exact prt_up h1.1 (fun e => by have := h1.2 e; omega)
theorem chOk_ent {c : Ent} (h : chOk c = true) (hk : ¬ (c.kind = 4 ∨ c.kind = 5)) : entOk c = true := by
  unfold chOk at h
  rw [if_neg hk] at h
  exact h

set_option maxHeartbeats 2000000 in
set_option maxRecDepth 100000 in
theorem doMarks_any (r : Nd) (ns : List Nd) (B : Nat) (es : List Ent) (ao : Option Addr) (cap n : Nat) (cs : List Ent) (m : Int) (w : World) (hM : Mem w B r ns) (HE : Hid (entsN ns = es)) (HT : Hid (TreeS es)) (hr : ∀ W, Below B w W → ERow W ao cs) (HN : Hid (n = cs.length)) (hn : n ≤ 4294967280) (HS : Hid (Small cs)) (HC : Hid (∀ c ∈ cs, chOk c = true)) (hB : B ≤ w.heap.size) (hm : ∀ W, Below B w W → W.cell? ⟨14, 0, none⟩ = some (.int .i64 m)) :
    Calls Tryz.prog 51 #[.pointer (some ⟨r.nb, 0, none⟩), .slice ao n cap] w fun ev w' => ev = .returned (.tuple #[]) ∧ Hid (∃ ns', Mem w' B r ns' ∧ entsN ns' = marksF es cs) ∧ Below B w w' := by
  have HM := hide hm
  have HMem := hide hM
  have HR := hide hr
  have HB := hide hB
  clear hm hM hr hB
  go_enter Tryz.func51, Tryz.ntmps51
  go_wp2_with fail
  go_loopw [8] (fun i wr => ∃ (k : Nat) (ns1 : List Nd), k ≤ n ∧ i = .int .i64 k ∧ Below B w wr ∧ Hid (entsN ns1 = marksF es (cs.take k)) ∧ Hid (Mem wr B r ns1)) (fun i _ => n - (intOf i).toNat)
  case atStart => exact ⟨0, ns, by omega, rfl, Below.refl _ _, hide (unhide HE), HMem⟩
  case round =>
    obtain ⟨k, ns1, hk, rfl, hb, HE1, HM1⟩ := hrel
    by_cases hlt : k < n
    · obtain ⟨c, he⟩ : ∃ c, cs[k]? = some c := ⟨cs[k]'(by have := unhide HN; omega), List.getElem?_eq_getElem (by have := unhide HN; omega)⟩
      obtain ⟨g, o, rfl, c0, c1, c2, c3⟩ := (unhide HR wr hb) k c he
      have i0 : (0 : Int) ≤ (k : Int) := by omega
      have i1 : (k : Int) < (n : Int) := by omega
      have hs1 := (unhide HS c (List.mem_of_getElem? he)).1
      have HLen : Hid (k < cs.length) := hide (by have := unhide HN; omega)
      obtain ⟨W0, hW0⟩ : ∃ W0, W0 = wr.alloc (.cells #[.string c.path, .int .i64 c.kind, .int .i64 c.mode, .string c.data] 37) := ⟨_, rfl⟩
      have hB0w : Below wr.heap.size wr W0 := by rw [hW0]; exact (Below.refl _ _).alloc (Nat.le_refl _) _
      have q0 : W0.cell? ⟨wr.heap.size, 0, none⟩ = some (.string c.path) := by rw [hW0]; exact cell_of_row _ _ 0 _ _ _ (heap_alloc_new _ _)
      have q1 : W0.cell? ⟨wr.heap.size, 1, none⟩ = some (.int .i64 c.kind) := by rw [hW0]; exact cell_of_row _ _ 1 _ _ _ (heap_alloc_new _ _)
      have q2 : W0.cell? ⟨wr.heap.size, 2, none⟩ = some (.int .i64 c.mode) := by rw [hW0]; exact cell_of_row _ _ 2 _ _ _ (heap_alloc_new _ _)
      have q3 : W0.cell? ⟨wr.heap.size, 3, none⟩ = some (.string c.data) := by rw [hW0]; exact cell_of_row _ _ 3 _ _ _ (heap_alloc_new _ _)
      have HEc := hide he
      clear he
      go_upto_region 3 with fail
      rw [← hW0]
      clear hW0 c0 c1 c2 c3
      have hBz := Nat.le_trans (unhide HB) hb.size
      have hB0 := hb.trans (hB0w.mono hBz)
      have hBW := Nat.le_trans hBz hB0w.size
      have HM0 := hide ((unhide HM1).below hB0w)
      have HT1 : Hid (TreeS (entsN ns1)) := hide (by rw [unhide HE1]; exact marks_tree _ (unhide HT))
      have HCc := hide (unhide HC c (List.mem_of_getElem? (unhide HEc)))
      have HSn := hide (marks_snoc (t := es) (unhide HEc))
      clear hB0w q2 q3
      by_cases h4 : c.kind = 4
      · rw [h4] at q1
        have HQ : Hid (Parted c.path.data.toList) := hide (chOk_parted (unhide HCc) h4)
        have HH4 := hide h4
        clear h4
        go_wp2_with (go_at_call 78; refine (remove_any r ns1 B c.path m _ (unhide HM0) HT1 HQ hBW hs1 (unhide HM _ hB0)).mono ?_; rintro ev w3 ⟨rfl, HX3, hb3⟩)
        obtain ⟨ns2, hm3, he3⟩ := unhide HX3
        have hB3 := hB0.trans hb3
        have HM3 := hide hm3
        have R : entsN ns2 = marksF es (cs.take (k + 1)) := by rw [unhide HSn, he3, unhide HE1, mark1, if_pos (unhide HH4)]
        clear hm3 he3
        go_roundw
        case rel =>
          first
            | exact ⟨k + 1, ns2, by omega, by go_num, hB3, hide R, HM3⟩
            | ((repeat apply Exists.intro); exact ⟨⟨k + 1, ns2, by omega, by go_num, hB3, hide R, HM3⟩, rfl⟩)
        case measure => simp [intOf]; omega
      · have h4' : (c.kind == 4) = false := by simp [h4]
        by_cases h5 : c.kind = 5
        · rw [h5] at q1
          have HH4 := hide h4
          have HH5 := hide h5
          clear h4 h4' h5
          go_wp2_with (go_at_call 79; refine (clear_any r ns1 B c.path m _ (unhide HM0) HT1 hBW hs1 (unhide HM _ hB0)).mono ?_; rintro ev w3 ⟨rfl, HX3, hb3⟩)
          obtain ⟨ns2, hm3, he3⟩ := unhide HX3
          have hB3 := hB0.trans hb3
          have HM3 := hide hm3
          have R : entsN ns2 = marksF es (cs.take (k + 1)) := by rw [unhide HSn, he3, unhide HE1, mark1, if_neg (unhide HH4), if_pos (unhide HH5)]
          clear hm3 he3
          go_roundw
          case rel =>
            first
              | exact ⟨k + 1, ns2, by omega, by go_num, hB3, hide R, HM3⟩
              | ((repeat apply Exists.intro); exact ⟨⟨k + 1, ns2, by omega, by go_num, hB3, hide R, HM3⟩, rfl⟩)
          case measure => simp [intOf]; omega
        · have h5' : (c.kind == 5) = false := by simp [h5]
          have R0 : Hid (entsN ns1 = marksF es (cs.take (k + 1))) := hide (by rw [unhide HSn, unhide HE1, mark1, if_neg h4, if_neg h5])
          go_wp2_with fail
          go_roundw
          case rel =>
            have R := unhide R0
            first
              | exact ⟨k + 1, ns1, by omega, by go_num, hB0, hide R, HM0⟩
              | ((repeat apply Exists.intro); exact ⟨⟨k + 1, ns1, by omega, by go_num, hB0, hide R, HM0⟩, rfl⟩)
          case measure => simp [intOf]; omega
    · have HF : Hid (entsN ns1 = marksF es cs) := hide (by rw [unhide HE1, List.take_of_length_le (by have := unhide HN; omega)])
      go_wp2_with fail
      go_end0
      exact ⟨rfl, hide ⟨ns1, unhide HM1, unhide HF⟩, hb⟩

set_option maxHeartbeats 2000000 in
set_option maxRecDepth 100000 in
theorem putEntries_any (r : Nd) (ns : List Nd) (B : Nat) (es : List Ent) (ao : Option Addr) (cap n : Nat) (cs : List Ent) (m : Int) (w : World) (hM : Mem w B r ns) (HE : Hid (entsN ns = es)) (HT : Hid (TreeS es)) (hl : es.length ≤ 40) (hr : ∀ W, Below B w W → ERow W ao cs) (HN : Hid (n = cs.length)) (hn : n ≤ 80) (HS : Hid (Small cs)) (HC : Hid (∀ c ∈ cs, chOk c = true)) (hB : B ≤ w.heap.size) (hm : ∀ W, Below B w W → W.cell? ⟨14, 0, none⟩ = some (.int .i64 m)) :
    Calls Tryz.prog 52 #[.pointer (some ⟨r.nb, 0, none⟩), .slice ao n cap] w fun ev w' => ∃ er, ev = .returned er ∧ Hid (ErrP w' (putBad es cs) cs.length 9 er) ∧ Hid (er = .nilIface → ∃ ns', Mem w' B r ns' ∧ entsN ns' = putsF es cs ∧ TreeS (putsF es cs) ∧ (putsF es cs).length ≤ 120) ∧ Below B w w' := by
  have HM := hide hm
  have HMem := hide hM
  have HR := hide hr
  have HB := hide hB
  clear hm hM hr hB
  go_enter Tryz.func52, Tryz.ntmps52
  go_wp2_with fail
  go_loopw [9] (fun i wr => ∃ (k : Nat) (ns1 : List Nd), k ≤ n ∧ i = .int .i64 k ∧ Below B w wr ∧ Hid (entsN ns1 = putsF es (cs.take k) ∧ TreeS (entsN ns1) ∧ ns1.length ≤ 40 + k) ∧ Hid (Mem wr B r ns1) ∧ Hid (∀ j, j < k → putBad es cs j = false)) (fun i _ => n - (intOf i).toNat)
  case atStart => exact ⟨0, ns, by omega, rfl, Below.refl _ _, hide ⟨unhide HE, by rw [unhide HE]; exact unhide HT, by have := congrArg List.length (unhide HE); simp [entsN] at this; omega⟩, HMem, hide (by intro j hj; omega)⟩
  case round =>
    obtain ⟨k, ns1, hk, rfl, hb, HE1, HM1, HK⟩ := hrel
    by_cases hlt : k < n
    · obtain ⟨c, he⟩ : ∃ c, cs[k]? = some c := ⟨cs[k]'(by have := unhide HN; omega), List.getElem?_eq_getElem (by have := unhide HN; omega)⟩
      obtain ⟨g, o, rfl, c0, c1, c2, c3⟩ := (unhide HR wr hb) k c he
      have i0 : (0 : Int) ≤ (k : Int) := by omega
      have i1 : (k : Int) < (n : Int) := by omega
      have hs1 := (unhide HS c (List.mem_of_getElem? he)).1
      have HLen : Hid (k < cs.length) := hide (by have := unhide HN; omega)
      obtain ⟨W0, hW0⟩ : ∃ W0, W0 = wr.alloc (.cells #[.string c.path, .int .i64 c.kind, .int .i64 c.mode, .string c.data] 37) := ⟨_, rfl⟩
      have hB0w : Below wr.heap.size wr W0 := by rw [hW0]; exact (Below.refl _ _).alloc (Nat.le_refl _) _
      have q0 : W0.cell? ⟨wr.heap.size, 0, none⟩ = some (.string c.path) := by rw [hW0]; exact cell_of_row _ _ 0 _ _ _ (heap_alloc_new _ _)
      have q1 : W0.cell? ⟨wr.heap.size, 1, none⟩ = some (.int .i64 c.kind) := by rw [hW0]; exact cell_of_row _ _ 1 _ _ _ (heap_alloc_new _ _)
      have q2 : W0.cell? ⟨wr.heap.size, 2, none⟩ = some (.int .i64 c.mode) := by rw [hW0]; exact cell_of_row _ _ 2 _ _ _ (heap_alloc_new _ _)
      have q3 : W0.cell? ⟨wr.heap.size, 3, none⟩ = some (.string c.data) := by rw [hW0]; exact cell_of_row _ _ 3 _ _ _ (heap_alloc_new _ _)
      have HEc := hide he
      clear he
      go_upto_region 4 with fail
      rw [← hW0]
      clear hW0 c0 c1 c2 c3
      have hBz := Nat.le_trans (unhide HB) hb.size
      have hB0 := hb.trans (hB0w.mono hBz)
      have HM0 := hide ((unhide HM1).below hB0w)
      have HCc := hide (unhide HC c (List.mem_of_getElem? (unhide HEc)))
      have HSn := hide (puts_snoc (t := es) (unhide HEc))
      have hln := (unhide HE1).2.2
      have hMk := isMark_any c W0
      by_cases hmk : c.kind = 4 ∨ c.kind = 5
      · rw [decide_eq_true hmk] at hMk
        have C : Hid (putBad es cs k = false) := hide (by rw [putBad_eq (unhide HEc), decide_eq_true hmk]; rfl)
        have R0 : Hid (entsN ns1 = putsF es (cs.take (k + 1))) := hide (by rw [unhide HSn, (unhide HE1).1, put1, if_pos hmk])
        clear hmk
        go_wp2_with (go_at_call 80; refine hMk.mono ?_; clear hMk; rintro ev w3 ⟨rfl, hb3⟩)
        have hB3 := hB0.trans (hb3.mono (Nat.le_trans hBz hB0w.size))
        have HM3 := hide ((unhide HM0).below hb3)
        go_roundw
        case rel =>
          have R : ∀ j, j < k + 1 → putBad es cs j = false := fun j hj => by
            rcases Nat.lt_or_ge j k with h | h
            · exact unhide HK j h
            · have e9 : j = k := by omega
              rw [e9]; exact unhide C
          have R1 : entsN ns1 = putsF es (cs.take (k + 1)) ∧ TreeS (entsN ns1) ∧ ns1.length ≤ 40 + (k + 1) := ⟨unhide R0, (unhide HE1).2.1, by omega⟩
          first
            | exact ⟨k + 1, ns1, by omega, by go_num, hB3, hide R1, HM3, hide R⟩
            | ((repeat apply Exists.intro); exact ⟨⟨k + 1, ns1, by omega, by go_num, hB3, hide R1, HM3, hide R⟩, rfl⟩)
        case measure => simp [intOf]; omega
      · rw [decide_eq_false hmk] at hMk
        have HEn : Hid (entOk c = true) := hide (chOk_ent (unhide HCc) hmk)
        have HMk := hide hmk
        clear hmk
        by_cases hkd : kindP (entsN ns1) (dirOf c.path.data.toList) = 1
        · have HKd := hide hkd
          clear hkd
          have C : Hid (putBad es cs k = false) := hide (by
            have h1 := unhide HKd
            rw [(unhide HE1).1] at h1
            rw [putBad_eq (unhide HEc), h1]; simp)
          go_wp2_with (first
            | (go_at_call 80; refine hMk.mono ?_; clear hMk; rintro ev w3 ⟨rfl, hb3⟩; have q0 := cell_later hb3 q0; have q1 := cell_later hb3 q1; have q2 := cell_later hb3 q2; have q3 := cell_later hb3 q3; have HM3 := hide ((unhide HM0).below hb3); have hB3 := hB0.trans (Below.mono (B' := B) hb3 (Nat.le_trans hBz hB0w.size)))
            | (go_at_call 37; refine (put_any r ns1 B c m w3 (unhide HM3) (hide (unhide HE1).2.1) HEn (by omega) (Nat.le_trans (Nat.le_trans hBz hB0w.size) hb3.size) hs1 (unhide HM _ hB3)).mono ?_; rintro ev w4 ⟨b, rfl, HBk, HX4, hb4⟩; obtain rfl : b = true := (unhide HBk).trans (decide_eq_true (unhide HKd))))
          have hB4 := hB3.trans hb4
          obtain ⟨ns2, hm4, he4⟩ := unhide HX4 (by simp)
          have HM4 := hide hm4
          have HE2 : Hid (entsN ns2 = putsF es (cs.take (k + 1)) ∧ TreeS (entsN ns2) ∧ ns2.length ≤ 40 + (k + 1)) := hide (by
            refine ⟨by rw [unhide HSn, he4, (unhide HE1).1, put1, if_neg (unhide HMk)], by rw [he4]; exact put_tree (unhide HE1).2.1 (unhide HEn) (unhide HKd), ?_⟩
            have h1 := congrArg List.length he4
            have h2 := put_len (f := Ent.q) (unhide HE1).2.1.ord (bothE (entsN ns1) c) c
            rw [putE] at h1
            simp only [entsN, List.length_map] at h1 h2
            omega)
          clear hm4 he4
          go_roundw
          case rel =>
            have R : ∀ j, j < k + 1 → putBad es cs j = false := fun j hj => by
              rcases Nat.lt_or_ge j k with h | h
              · exact unhide HK j h
              · have e9 : j = k := by omega
                rw [e9]; exact unhide C
            first
              | exact ⟨k + 1, ns2, by omega, by go_num, hB4, HE2, HM4, hide R⟩
              | ((repeat apply Exists.intro); exact ⟨⟨k + 1, ns2, by omega, by go_num, hB4, HE2, HM4, hide R⟩, rfl⟩)
          case measure => simp [intOf]; omega
        · have HKd := hide hkd
          clear hkd
          have C : Hid (putBad es cs k = true) := hide (by
            have h1 := unhide HKd
            rw [(unhide HE1).1] at h1
            rw [putBad_eq (unhide HEc), decide_eq_false (unhide HMk), decide_eq_false h1]; rfl)
          go_wp2_with (first
            | (go_at_call 80; refine hMk.mono ?_; clear hMk; rintro ev w3 ⟨rfl, hb3⟩; have q0 := cell_later hb3 q0; have q1 := cell_later hb3 q1; have q2 := cell_later hb3 q2; have q3 := cell_later hb3 q3; have HM3 := hide ((unhide HM0).below hb3); have hB3 := hB0.trans (Below.mono (B' := B) hb3 (Nat.le_trans hBz hB0w.size)))
            | (go_at_call 37; refine (put_any r ns1 B c m w3 (unhide HM3) (hide (unhide HE1).2.1) HEn (by omega) (Nat.le_trans (Nat.le_trans hBz hB0w.size) hb3.size) hs1 (unhide HM _ hB3)).mono ?_; rintro ev w4 ⟨b, rfl, HBk, HX4, hb4⟩; obtain rfl : b = false := (unhide HBk).trans (decide_eq_false (unhide HKd))))
          have hB4 := hB3.trans hb4
          go_ret
          refine ⟨_, rfl, hide (.inr ⟨k, ⟨w4.heap.size, rfl, ?_, ?_⟩, .inr ⟨k, rfl, unhide HLen, unhide C, unhide HK⟩⟩), hide (by intro h; cases h), hB4.alloc (Nat.le_trans (unhide HB) hB4.size) _⟩
          · exact cell_of_row _ _ 0 _ _ _ (heap_alloc_new w4 _)
          · exact cell_of_row _ _ 1 _ _ _ (heap_alloc_new w4 _)
    · have HF : Hid (FirstP (putBad es cs) cs.length (-1)) := hide (.inl ⟨rfl, fun i hi => unhide HK i (by have := unhide HN; omega)⟩)
      have HG : Hid (entsN ns1 = putsF es cs) := hide (by rw [(unhide HE1).1, List.take_of_length_le (by have := unhide HN; omega)])
      have hln := (unhide HE1).2.2
      go_wp2_with fail
      go_ret
      refine ⟨.nilIface, rfl, hide (.inl ⟨rfl, unhide HF⟩), hide (fun _ => ⟨ns1, unhide HM1, unhide HG, by rw [← unhide HG]; exact (unhide HE1).2.1, ?_⟩), hb⟩
      rw [← unhide HG]
      simp only [entsN, List.length_map]
      omega
end Go.Proofs.YtjofjcjojgpaeaaGreatDoor
