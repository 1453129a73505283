import Derived.Test.YtephkedlihediabGreatDoorPatO
import Derived.Test.YtephkedlihediabGreatDoorChgD
namespace Go.Proofs.YtephkedlihediabGreatDoor
open Go.RowKit Go.Maps

/-- The number of the first place at which something is so; -1: none. -/
def FirstP (f : Nat → Bool) (n : Nat) (r : Int) : Prop := (r = -1 ∧ ∀ i, i < n → f i = false) ∨ ∃ i : Nat, r = i ∧ i < n ∧ f i = true ∧ ∀ j, j < i → f j = false
theorem firstP_one {f : Nat → Bool} {n : Nat} {r s : Int} (h1 : FirstP f n r) (h2 : FirstP f n s) : r = s := by
  rcases h1 with ⟨rfl, a1⟩ | ⟨i, rfl, a1, a2, a3⟩ <;> rcases h2 with ⟨rfl, b1⟩ | ⟨j, rfl, b1, b2, b3⟩
  · rfl
  · rw [a1 j b1] at b2; cases b2
  · rw [b1 i a1] at a2; cases a2
  · rcases Nat.lt_trichotomy i j with h | h | h
    · rw [b3 i h] at a2; cases a2
    · rw [h]
    · rw [a3 j h] at b2; cases b2
/-- A mark that names what is not there. -/
def mrkBad (es : List Ent) (c : Ent) : Bool := (decide (c.kind = 4) && decide (kindP es c.path.data.toList = 0)) || (decide (c.kind = 5) && !decide (kindP es c.path.data.toList = 1))
def mrkAt (es cs : List Ent) (i : Nat) : Bool := match cs[i]? with
  | none => false
  | some c => mrkBad es c
theorem mrkAt_eq {es cs : List Ent} {i : Nat} {c : Ent} (h : cs[i]? = some c) : mrkAt es cs i = mrkBad es c := by unfold mrkAt; rw [h]
/-- What a call answers that tells an error and its place. -/
def ErrP (w : World) (f : Nat → Bool) (n : Nat) (code : Int) (er : Value) : Prop := (er = .nilIface ∧ FirstP f n (-1)) ∨ ∃ i : Nat, ErIs w er code i ∧ FirstP f n i
theorem find_kind0 {r : Nd} {ns : List Nd} (h : TreeS (entsN ns)) (hr : r.ent = rootE) {p : List UInt8} {v : Value} (hv : FindIs r ns p v) : (v = .pointer none ∧ kindP (entsN ns) p = 0) ∨ ∃ x ∈ r :: ns, v = .pointer (some ⟨x.nb, 0, none⟩) ∧ kindP (entsN ns) p = x.ent.kind ∧ x.ent.kind ≠ 0 := by
  have hr0 : r.p = [] := by rw [Nd.p, hr]; rfl
  rcases find_kindS h hr hv with ⟨rfl, _⟩ | ⟨x, hx, rfl, hp, hk⟩
  · rcases hv with ⟨_, hno⟩ | ⟨x, _, h1, _⟩
    · refine .inl ⟨rfl, ?_⟩
      have hp0 : p ≠ [] := fun e => hno r (by simp) (hr0.trans e.symm)
      rw [kindP_at hp0, atE_miss fun e he hep => by
        obtain ⟨x, hx, rfl⟩ := List.mem_map.1 he
        exact hno x (by simp [hx]) hep]
    · cases h1
  · refine .inr ⟨x, hx, rfl, hk, ?_⟩
    rcases List.mem_cons.1 hx with e | e
    · rw [e, hr]; decide
    · have := good_kind (ent_parts (h.ent x.ent (List.mem_map.2 ⟨x, e, rfl⟩))).2.2
      omega

set_option maxHeartbeats 2000000 in
set_option maxRecDepth 100000 in
theorem checkMarks_any (r : Nd) (ns : List Nd) (B : Nat) (es : List Ent) (ao : Option Addr) (cap n : Nat) (cs : List Ent) (m : Int) (w : World) (hM : Mem w B r ns) (HE : Hid (entsN ns = es)) (HT : Hid (TreeS es)) (hr : ERow w ao cs) (HN : Hid (n = cs.length)) (hn : n ≤ 4294967280) (HS : Hid (Small cs)) (hm : w.cell? ⟨14, 0, none⟩ = some (.int .i64 m)) :
    Calls Tryz.prog 50 #[.pointer (some ⟨r.nb, 0, none⟩), .slice ao n cap] w fun ev w' => ∃ er, ev = .returned er ∧ Hid (ErrP w' (mrkAt es cs) cs.length 8 er) ∧ Below w.heap.size w w' := by
  have HM := hide hm
  have HMem := hide hM
  have HTn : Hid (TreeS (entsN ns)) := hide (by rw [unhide HE]; exact unhide HT)
  have HO : Hid (OkTo (entsN ns) ns.length) := hide (by have := (unhide HTn).ok; rwa [show (entsN ns).length = ns.length from by simp [entsN]] at this)
  clear hm hM
  go_enter Tryz.func50, Tryz.ntmps50
  go_wp2_with fail
  go_loopw [10] (fun i wr => ∃ k : Nat, k ≤ n ∧ i = .int .i64 k ∧ Below w.heap.size w wr ∧ Hid (∀ j, j < k → mrkAt es cs j = false)) (fun i _ => n - (intOf i).toNat)
  case atStart => exact ⟨0, by omega, rfl, Below.refl _ _, hide (by intro j hj; omega)⟩
  case round =>
    obtain ⟨k, hk, rfl, hb, HK⟩ := hrel
    by_cases hlt : k < n
    · obtain ⟨c, he⟩ : ∃ c, cs[k]? = some c := ⟨cs[k]'(by have := unhide HN; omega), List.getElem?_eq_getElem (by have := unhide HN; omega)⟩
      obtain ⟨g, o, rfl, c0, c1, c2, c3⟩ := (hr.below (hb)) k c he
      have i0 : (0 : Int) ≤ (k : Int) := by omega
      have i1 : (k : Int) < (n : Int) := by omega
      have hs1 := (unhide HS c (List.mem_of_getElem? he)).1
      have HLen : Hid (k < cs.length) := hide (by have := unhide HN; omega)
      obtain ⟨W0, hW0⟩ : ∃ W0, W0 = wr.alloc (.cells #[.string c.path, .int .i64 c.kind, .int .i64 c.mode, .string c.data] 37) := ⟨_, rfl⟩
      have hB0w : Below wr.heap.size wr W0 := by rw [hW0]; exact (Below.refl _ _).alloc (Nat.le_refl _) _
      have q0 : W0.cell? ⟨wr.heap.size, 0, none⟩ = some (.string c.path) := by rw [hW0]; exact cell_of_row _ _ 0 _ _ _ (heap_alloc_new _ _)
      have q1 : W0.cell? ⟨wr.heap.size, 1, none⟩ = some (.int .i64 c.kind) := by rw [hW0]; exact cell_of_row _ _ 1 _ _ _ (heap_alloc_new _ _)
      have q2 : W0.cell? ⟨wr.heap.size, 2, none⟩ = some (.int .i64 c.mode) := by rw [hW0]; exact cell_of_row _ _ 2 _ _ _ (heap_alloc_new _ _)
      have q3 : W0.cell? ⟨wr.heap.size, 3, none⟩ = some (.string c.data) := by rw [hW0]; exact cell_of_row _ _ 3 _ _ _ (heap_alloc_new _ _)
      have HEc := hide he
      clear he
      go_upto_region 4 with fail
      rw [← hW0]
      clear hW0 c0 c1 c2 c3
      have hB0 := hb.trans (hB0w.mono hb.size)
      go_upto_region 5 with (go_at_call 39; refine (find_any r ns B c.path m _ ((unhide HMem).below hB0) HO hs1 (cell_later hB0 (unhide HM))).mono ?_; rintro ev w2 ⟨v, rfl, HF, hb2⟩)
      have hB2 := hB0.trans (hb2.mono hB0.size)
      have q1 := cell_later hb2 q1
      clear hb2 q0 q2 q3 hB0w
      have hM2 := (unhide HMem).below hB2
      have hfk := find_kind0 (unhide HTn) hM2.root (unhide HF)
      rw [unhide HE] at hfk
      clear HF
      by_cases h4 : c.kind = 4
      · rw [h4] at q1
        rcases hfk with ⟨rfl, hk0⟩ | ⟨x, hx, rfl, hkx, hk0⟩
        · clear hM2
          have C : Hid (mrkAt es cs k = true) := hide (by rw [mrkAt_eq (unhide HEc), mrkBad]; simp [h4, hk0])
          clear hk0
          go_wp2_with fail
          go_ret
          refine ⟨_, rfl, hide (.inr ⟨k, ⟨w2.heap.size, rfl, ?_, ?_⟩, .inr ⟨k, rfl, unhide HLen, unhide C, unhide HK⟩⟩), hB2.alloc hB2.size _⟩
          · exact cell_of_row _ _ 0 _ _ _ (heap_alloc_new w2 _)
          · exact cell_of_row _ _ 1 _ _ _ (heap_alloc_new w2 _)
        · have hk0' : ¬ kindP es c.path.data.toList = 0 := by rw [hkx]; exact hk0
          clear hM2
          have C : Hid (mrkAt es cs k = false) := hide (by rw [mrkAt_eq (unhide HEc), mrkBad]; simp [h4, hk0'])
          clear hk0 hk0' hkx
          go_wp2_with fail
          go_roundw
          case rel =>
            have R : ∀ j, j < k + 1 → mrkAt es cs j = false := fun j hj => by
              rcases Nat.lt_or_ge j k with h | h
              · exact unhide HK j h
              · have e9 : j = k := by omega
                rw [e9]; exact unhide C
            first
              | exact ⟨k + 1, by omega, by go_num, hB2, hide R⟩
              | ((repeat apply Exists.intro); exact ⟨⟨k + 1, by omega, by go_num, hB2, hide R⟩, rfl⟩)
          case measure => simp [intOf]; omega
      · have h4' : (c.kind == 4) = false := by simp [h4]
        by_cases h5 : c.kind = 5
        · rw [h5] at q1
          rcases hfk with ⟨rfl, hk0⟩ | ⟨x, hx, rfl, hkx, hk0⟩
          · clear hM2
            have C : Hid (mrkAt es cs k = true) := hide (by rw [mrkAt_eq (unhide HEc), mrkBad]; simp [h5, hk0])
            clear hk0
            go_wp2_with (go_at_call 66; refine (isDir_nil _).mono ?_; rintro ev w3 ⟨rfl, hw⟩; obtain rfl := hw.symm)
            go_ret
            refine ⟨_, rfl, hide (.inr ⟨k, ⟨w2.heap.size, rfl, ?_, ?_⟩, .inr ⟨k, rfl, unhide HLen, unhide C, unhide HK⟩⟩), hB2.alloc hB2.size _⟩
            · exact cell_of_row _ _ 0 _ _ _ (heap_alloc_new w2 _)
            · exact cell_of_row _ _ 1 _ _ _ (heap_alloc_new w2 _)
          · have z1 : w2.cell? ⟨x.nb, 1, none⟩ = some (.int .i64 x.ent.kind) := cell_of_row w2 x.nb 1 _ _ _ (hM2.all x hx).2.2.1
            by_cases kx : x.ent.kind = 1
            · have hDx : Calls Tryz.prog 66 #[.pointer (some ⟨x.nb, 0, none⟩)] w2 fun ev w' => ev = .returned (.bool true) ∧ w' = w2 := by have := isDir_at _ _ _ z1; rw [decide_eq_true kx] at this; exact this
              have hk1 : kindP es c.path.data.toList = 1 := hkx.trans kx
              clear hM2 z1 kx hkx hk0
              have C : Hid (mrkAt es cs k = false) := hide (by rw [mrkAt_eq (unhide HEc), mrkBad]; simp [h5, hk1])
              clear hk1
              go_wp2_with (go_at_call 66; refine hDx.mono ?_; rintro ev w3 ⟨rfl, hw⟩; obtain rfl := hw.symm)
              go_roundw
              case rel =>
                have R : ∀ j, j < k + 1 → mrkAt es cs j = false := fun j hj => by
                  rcases Nat.lt_or_ge j k with h | h
                  · exact unhide HK j h
                  · have e9 : j = k := by omega
                    rw [e9]; exact unhide C
                first
                  | exact ⟨k + 1, by omega, by go_num, hB2, hide R⟩
                  | ((repeat apply Exists.intro); exact ⟨⟨k + 1, by omega, by go_num, hB2, hide R⟩, rfl⟩)
              case measure => simp [intOf]; omega
            · have hDx : Calls Tryz.prog 66 #[.pointer (some ⟨x.nb, 0, none⟩)] w2 fun ev w' => ev = .returned (.bool false) ∧ w' = w2 := by have := isDir_at _ _ _ z1; rw [decide_eq_false kx] at this; exact this
              have hk1 : ¬ kindP es c.path.data.toList = 1 := fun h => kx (hkx.symm.trans h)
              clear hM2 z1 kx hkx hk0
              have C : Hid (mrkAt es cs k = true) := hide (by rw [mrkAt_eq (unhide HEc), mrkBad]; simp [h5, hk1])
              clear hk1
              go_wp2_with (go_at_call 66; refine hDx.mono ?_; rintro ev w3 ⟨rfl, hw⟩; obtain rfl := hw.symm)
              go_ret
              refine ⟨_, rfl, hide (.inr ⟨k, ⟨w2.heap.size, rfl, ?_, ?_⟩, .inr ⟨k, rfl, unhide HLen, unhide C, unhide HK⟩⟩), hB2.alloc hB2.size _⟩
              · exact cell_of_row _ _ 0 _ _ _ (heap_alloc_new w2 _)
              · exact cell_of_row _ _ 1 _ _ _ (heap_alloc_new w2 _)
        · have h5' : (c.kind == 5) = false := by simp [h5]
          clear hM2 hfk
          have C : Hid (mrkAt es cs k = false) := hide (by rw [mrkAt_eq (unhide HEc), mrkBad]; simp [h4, h5])
          go_wp2_with fail
          go_roundw
          case rel =>
            have R : ∀ j, j < k + 1 → mrkAt es cs j = false := fun j hj => by
              rcases Nat.lt_or_ge j k with h | h
              · exact unhide HK j h
              · have e9 : j = k := by omega
                rw [e9]; exact unhide C
            first
              | exact ⟨k + 1, by omega, by go_num, hB2, hide R⟩
              | ((repeat apply Exists.intro); exact ⟨⟨k + 1, by omega, by go_num, hB2, hide R⟩, rfl⟩)
          case measure => simp [intOf]; omega
    · have HF : Hid (FirstP (mrkAt es cs) cs.length (-1)) := hide (.inl ⟨rfl, fun i hi => unhide HK i (by have := unhide HN; omega)⟩)
      go_wp2_with fail
      go_ret
      exact ⟨.nilIface, rfl, hide (.inl ⟨rfl, unhide HF⟩), hb⟩
end Go.Proofs.YtephkedlihediabGreatDoor
