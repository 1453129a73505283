import Derived.Test.YtkeefkfklmhcjaaGreatDoorChgB
import Derived.Deep.RegionHeld3
import Derived.Test.YtkeefkfklmhcjaaGreatDoorJEntB
namespace Go.Proofs.YtkeefkfklmhcjaaGreatDoor
open Go.RowKit

theorem okCh_lt {cs : List Ent} {i : Nat} (h : okCh cs i = true) : i < 80 := by
  unfold okCh at h
  split at h
  · cases h
  · simp only [Bool.and_eq_true, decide_eq_true_eq] at h; exact h.1.1
theorem allCh_lt {cs : List Ent} {k : Nat} (h : ∀ j, j < k → okCh cs j = true) : k ≤ 80 := by
  cases k with
  | zero => omega
  | succ k => have := okCh_lt (h k (by omega)); omega
/-- An error that says a number and a place. -/
def ErIs (w : World) (er : Value) (c i : Int) : Prop := ∃ b : Nat, er = .iface 83 (.pointer (some ⟨b, 0, none⟩)) ∧ w.cell? ⟨b, 0, none⟩ = some (.int .i64 c) ∧ w.cell? ⟨b, 1, none⟩ = some (.int .i64 i)
/-- What Check answers. -/
def ChkIs (w : World) (cs : List Ent) (er : Value) : Prop := (er = .nilIface ∧ FirstBadC cs (-1)) ∨ ∃ i : Nat, ErIs w er 3 i ∧ FirstBadC cs i

attribute [local go_sem] setCell_drewN alloc_drewN
set_option maxHeartbeats 2000000 in
set_option maxRecDepth 100000 in
theorem check_any (ao : Option Addr) (cap n : Nat) (cs : List Ent) (m : Int) (w : World) (hr : ERow w ao cs) (HN : Hid (n = cs.length)) (hn : n ≤ 4294967280) (hcap : n ≤ cap) (HS : Hid (Small cs)) (hm : w.cell? ⟨15, 0, none⟩ = some (.int .i64 m)) :
    Calls Tryz.prog 85 #[.slice ao n cap] w fun ev w' => ∃ er, ev = .returned er ∧ Hid (ChkIs w' cs er) ∧ Below w.heap.size w w' := by
  have HM := hide hm
  clear hm
  go_enter Tryz.func85, Tryz.ntmps85
  go_wp2_with fail
  go_loopw [7] (fun i wr => ∃ k : Nat, k ≤ n ∧ i = .int .i64 k ∧ Below w.heap.size w wr ∧ Hid (∀ j, j < k → okCh cs j = true)) (fun i _ => n - (intOf i).toNat)
  case atStart => exact ⟨0, by omega, rfl, Below.refl _ _, hide (by intro j hj; omega)⟩
  case round =>
    obtain ⟨k, hk, rfl, hb, HK⟩ := hrel
    by_cases hlt : k < n
    · obtain ⟨c, he⟩ : ∃ c, cs[k]? = some c := ⟨cs[k]'(by have := unhide HN; omega), List.getElem?_eq_getElem (by have := unhide HN; omega)⟩
      obtain ⟨g, o, rfl, c0, c1, c2, c3⟩ := (hr.below hb) k c he
      have i0 : (0 : Int) ≤ (k : Int) := by omega
      have i1 : (k : Int) < (n : Int) := by omega
      have ikc : (0 : Int) ≤ (k : Int) ∧ (k : Int) ≤ (cap : Int) := by omega
      have hs1 := (unhide HS c (List.mem_of_getElem? he)).1
      have HLen : Hid (k < cs.length) := hide (by have := unhide HN; omega)
      have HO := hide (mayF_ok he)
      have k80 := allCh_lt (unhide HK)
      have HST : Hid (Small (cs.take k)) := hide (fun e h => unhide HS e (List.mem_of_mem_take h))
      have HNT : Hid (k = (cs.take k).length) := hide (by rw [List.length_take]; have := unhide HLen; omega)
      obtain ⟨W0, hW0⟩ : ∃ W0, W0 = wr.alloc (.cells #[.string c.path, .int .i64 c.kind, .int .i64 c.mode, .string c.data] 39) := ⟨_, rfl⟩
      have hB0w : Below wr.heap.size wr W0 := by rw [hW0]; exact (Below.refl _ _).alloc (Nat.le_refl _) _
      have hB0 := hb.trans (hB0w.mono hb.size)
      have q0 : W0.cell? ⟨wr.heap.size, 0, none⟩ = some (.string c.path) := by rw [hW0]; exact cell_of_row _ _ 0 _ _ _ (heap_alloc_new _ _)
      have q1 : W0.cell? ⟨wr.heap.size, 1, none⟩ = some (.int .i64 c.kind) := by rw [hW0]; exact cell_of_row _ _ 1 _ _ _ (heap_alloc_new _ _)
      have q2 : W0.cell? ⟨wr.heap.size, 2, none⟩ = some (.int .i64 c.mode) := by rw [hW0]; exact cell_of_row _ _ 2 _ _ _ (heap_alloc_new _ _)
      have q3 : W0.cell? ⟨wr.heap.size, 3, none⟩ = some (.string c.data) := by rw [hW0]; exact cell_of_row _ _ 3 _ _ _ (heap_alloc_new _ _)
      have HM0 := hide (cell_later hB0 (unhide HM))
      have HR0 := hide ((hr.below hB0).take k)
      clear he
      go_upto_region 4 with fail
      rw [← hW0]
      clear hW0 c0 c1 c2 c3
      go_region_held3 (fun w' => w'.cell? ⟨wr.heap.size, 0, none⟩ = some (.string c.path) ∧ w'.cell? ⟨wr.heap.size, 1, none⟩ = some (.int .i64 c.kind) ∧ w'.cell? ⟨wr.heap.size, 2, none⟩ = some (.int .i64 c.mode) ∧ w'.cell? ⟨wr.heap.size, 3, none⟩ = some (.string c.data))
        (first | exact ⟨q0, q1, q2, q3⟩ | exact ⟨cell_later (chain0 hb3) q0, cell_later (chain0 hb3) q1, cell_later (chain0 hb3) q2, cell_later (chain0 hb3) q3⟩ | go_keep)
        (first | (go_at_call 125; refine (mayFollow_any _ _ k (cs.take k) c m _ ?_ HNT ?_ HST ?_ ?_).mono ?_; (exact unhide HR0); omega; omega; (exact unhide HM0); rintro ev w3 ⟨rfl, hb3⟩))
      have hB3 := hB0.trans (Below.mono (B' := w.heap.size) (chain0 hb3) hB0.size)
      clear hb3 HM0 HR0
      cases hF : mayF (cs.take k) c
      · have C : Hid (okCh cs k = false) := hide ((unhide HO).symm.trans hF)
        clear HO
        go_wp2_with fail
        go_ret
        refine ⟨_, rfl, hide (.inr ⟨k, ⟨w3.heap.size, rfl, ?_, ?_⟩, .inr ⟨k, rfl, unhide HLen, unhide C, unhide HK⟩⟩), hB3.alloc hB3.size _⟩
        · exact cell_of_row _ _ 0 _ _ _ (heap_alloc_new w3 _)
        · exact cell_of_row _ _ 1 _ _ _ (heap_alloc_new w3 _)
      · have C : Hid (okCh cs k = true) := hide ((unhide HO).symm.trans hF)
        clear HO
        go_wp2_with fail
        go_roundw
        case rel =>
          have R : ∀ j, j < k + 1 → okCh cs j = true := fun j hj => by
            rcases Nat.lt_or_ge j k with h | h
            · exact unhide HK j h
            · have e9 : j = k := by omega
              rw [e9]; exact unhide C
          first
            | exact ⟨k + 1, by omega, by go_num, hB3, hide R⟩
            | ((repeat apply Exists.intro); exact ⟨⟨k + 1, by omega, by go_num, hB3, hide R⟩, rfl⟩)
        case measure => simp [intOf]; omega
    · have HF : Hid (FirstBadC cs (-1)) := hide (.inl ⟨rfl, fun i hi => unhide HK i (by have := unhide HN; omega)⟩)
      go_wp2_with fail
      go_ret
      exact ⟨.nilIface, rfl, hide (.inl ⟨rfl, unhide HF⟩), hb⟩
end Go.Proofs.YtkeefkfklmhcjaaGreatDoor
