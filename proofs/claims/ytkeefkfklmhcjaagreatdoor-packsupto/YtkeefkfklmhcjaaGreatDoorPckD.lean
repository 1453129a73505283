import Derived.Test.YtkeefkfklmhcjaaGreatDoorPckC
namespace Go.Proofs.YtkeefkfklmhcjaaGreatDoor
open Go.RowKit

theorem entry_len {c : Ent} {m : Nat} (h : PkC c m) : (entryL c).length ≤ 6000 := by
  have h1 := octL_lt 5 (totalL c) (by have := total_lt h; simp; omega)
  have h2 := h.file
  have h3 : padL (dataL c).length < 512 := Nat.mod_lt _ (by omega)
  simp only [entryL, List.length_append, head_len h, tail_len h, digL_len h1, List.length_replicate, List.length_cons, List.length_nil]
  omega
theorem flatE_snoc {cs : List Ent} {k : Nat} {c : Ent} (h : cs[k]? = some c) : ((cs.take (k + 1)).map entryL).flatten = ((cs.take k).map entryL).flatten ++ entryL c := by
  rw [List.take_add_one, h]; simp
set_option maxHeartbeats 1000000 in
theorem refPack_any (ao : Option Addr) (cap n : Nat) (cs : List Ent) (w : World) (hr : ERow w ao cs) (HN : Hid (n = cs.length)) (hn : n ≤ 80) (HC : Hid (∀ c ∈ cs, ∃ m, PkC c m)) :
    Calls Tryz.prog 20 #[.slice ao n cap] w fun ev w' => ∃ s : ByteArray, ev = .returned (.string s) ∧ Hid (s = bt (packL cs)) ∧ Below w.heap.size w w' := by
  go_enter Tryz.func20, Tryz.ntmps20
  go_wp2_with fail
  go_loopw [3, 4] (fun v i wr => ∃ (k : Nat) (s : ByteArray), k ≤ n ∧ i = .int .i64 k ∧ v = .string s ∧ Hid (s = bt ((cs.take k).map entryL).flatten) ∧ s.size ≤ k * 6000 ∧ Below w.heap.size w wr) (fun _ i _ => n - (intOf i).toNat)
  case atStart => exact ⟨0, ⟨#[]⟩, by omega, rfl, rfl, hide (by simp [bt]), by decide, Below.refl _ _⟩
  case round =>
    obtain ⟨k, s, hk, rfl, rfl, HS, hz, hb⟩ := hrel
    by_cases hlt : k < n
    · obtain ⟨c, hc⟩ : ∃ c, cs[k]? = some c := ⟨cs[k]'(by have := unhide HN; omega), List.getElem?_eq_getElem (by have := unhide HN; omega)⟩
      obtain ⟨g, o, rfl, c0, c1, c2, c3⟩ := (hr.below hb) k c hc
      obtain ⟨m, hm⟩ := unhide HC c (List.mem_of_getElem? hc)
      have HFl := hide (flatE_snoc hc)
      have hel := entry_len hm
      have hE := refEntry_any c m wr (hide hm)
      have i1 : (0 : Int) ≤ (k : Int) := by omega
      have i2 : (k : Int) < (n : Int) := by omega
      clear hc hm
      go_upto_region 6 with (go_at_call 41; refine hE.mono ?_; clear hE; rintro ev w1 ⟨t, rfl, HT, hb1⟩)
      have htz : t.size ≤ 6000 := by rw [unhide HT, bt_size]; exact hel
      have hz2 : (s ++ t).size ≤ (k + 1) * 6000 := by rw [ByteArray.size_append]; omega
      have HS2 : Hid (s ++ t = bt ((cs.take (k + 1)).map entryL).flatten) := hide (by rw [unhide HFl, unhide HS, unhide HT, bt_app])
      have hB := hb.trans (hb1.mono hb.size)
      have HZ := hide hz2
      clear hz2 hel
      go_wp2_with fail
      go_roundw
      case rel =>
        first
          | exact ⟨k + 1, _, by omega, by go_num, rfl, HS2, unhide HZ, hB⟩
          | ((repeat apply Exists.intro); exact ⟨⟨k + 1, _, by omega, by go_num, rfl, HS2, unhide HZ, hB⟩, rfl⟩)
      case measure => simp [intOf]; omega
    · have HF : Hid (s = bt (cs.map entryL).flatten) := hide (by rw [unhide HS, List.take_of_length_le (by have := unhide HN; omega)])
      clear hr
      go_wp2_with (go_at_call 42; refine (filledV_any ⟨#[]⟩ 1024 _ (by decide) (by omega)).mono ?_; rintro ev w3 ⟨g1, rfl, HG, zg, hw⟩; obtain rfl := hw.symm)
      go_ret
      refine ⟨_, rfl, hide ?_, hb⟩
      rw [unhide HF, unhide HG, bt_app, packL]; rfl
end Go.Proofs.YtkeefkfklmhcjaaGreatDoor
