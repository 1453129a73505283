import Derived.Test.YtpiponkhhimaoaaGreatDoorRstC
namespace Go.Proofs.YtpiponkhhimaoaaGreatDoor
open Go.RowKit Go.Maps

abbrev nul : ByteArray := ⟨#[]⟩
theorem OwnB.any {w : World} {B : Nat} {v : Value} {l : List Blb} (h : OwnB w B v l) : OwnB w 0 v l := h.base (Nat.zero_le _)
theorem OwnB.new {w : World} {B : Nat} {v : Value} {l : List Blb} (h : OwnB w B v l) : ∀ k, v.ownBlock = some k → B ≤ k := fun k hk => (World.ownsRow.lt h k hk).1
theorem box_later (w : World) (o : Obj) {w2 : World} (h : Below (w.alloc o).heap.size (w.alloc o) w2) : Below w.heap.size w w2 := ((Below.refl _ w).alloc (Nat.le_refl _) o).trans (Below.mono h (by simp))
set_option maxRecDepth 100000 in
theorem done_write {w : World} {vf : Value} {L : List Blb} (hO : OwnB w 0 vf L) (hR : Rise L) (hl : L.length ≤ 1099511627) (s d : ByteArray) : DoneIs w vf ⟨1, s, nul, d⟩ (putB L ⟨s, d⟩) := by
  intro w1 hb
  obtain ⟨ao, cap, n, rfl, hn, hr, _⟩ := ownB_row (hO.below hb)
  have HN := hide hn
  have HR := hide hR
  have hn' : n ≤ 1099511627 := by omega
  clear hn hO
  go_enter Tryz.func57, Tryz.ntmps57
  go_wp2_with (go_at_call 31; refine (written_any ao cap n L s d _ (hr.below ((Below.refl _ w1).alloc (Nat.le_refl _) _)) HN hn' HR).mono ?_; rintro ev w2 ⟨v, rfl, hO2, hb2⟩)
  go_ret
  exact ⟨_, rfl, hO2.any, .inr (fun k hk => by have := hO2.new k hk; simp at this; omega), box_later _ _ hb2⟩
set_option maxRecDepth 100000 in
theorem done_remove {w : World} {vf : Value} {L : List Blb} (hO : OwnB w 0 vf L) (hl : L.length ≤ 1099511627) (s : ByteArray) : DoneIs w vf ⟨5, s, nul, nul⟩ (delB L s.data.toList) := by
  intro w1 hb
  obtain ⟨ao, cap, n, rfl, hn, hr, _⟩ := ownB_row (hO.below hb)
  have HN := hide hn
  have hn' : n ≤ 1099511627 := by omega
  clear hn hO
  go_enter Tryz.func57, Tryz.ntmps57
  go_wp2_with (go_at_call 99; refine (removed_any ao cap n L s _ (hr.below ((Below.refl _ w1).alloc (Nat.le_refl _) _)) HN hn').mono ?_; rintro ev w2 ⟨v, rfl, hO2, hb2⟩)
  go_ret
  exact ⟨_, rfl, hO2.any, .inr (fun k hk => by have := hO2.new k hk; simp at this; omega), box_later _ _ hb2⟩
set_option maxRecDepth 100000 in
theorem done_sync {w : World} {vf : Value} {L : List Blb} (hO : OwnB w 0 vf L) (s : ByteArray) : DoneIs w vf ⟨2, s, nul, nul⟩ L := by
  intro w1 hb
  have HO := hide (hO.below (hb.trans (((Below.refl _ w1).alloc (Nat.le_refl _) (.cells #[.int .i64 2, .string s, .string nul, .string nul] 66)).mono hb.size)))
  clear hO
  go_enter Tryz.func57, Tryz.ntmps57
  go_wp2_with fail
  go_ret
  exact ⟨_, rfl, unhide HO, .inl rfl, (Below.refl _ w1).alloc (Nat.le_refl _) _⟩
set_option maxRecDepth 100000 in
theorem done_dir {w : World} {vf : Value} {L : List Blb} (hO : OwnB w 0 vf L) : DoneIs w vf ⟨4, nul, nul, nul⟩ L := by
  intro w1 hb
  have HO := hide (hO.below (hb.trans (((Below.refl _ w1).alloc (Nat.le_refl _) (.cells #[.int .i64 4, .string nul, .string nul, .string nul] 66)).mono hb.size)))
  clear hO
  go_enter Tryz.func57, Tryz.ntmps57
  go_wp2_with fail
  go_ret
  exact ⟨_, rfl, unhide HO, .inl rfl, (Below.refl _ w1).alloc (Nat.le_refl _) _⟩
set_option maxHeartbeats 1000000 in
set_option maxRecDepth 100000 in
theorem done_rename {w : World} {vf : Value} {L : List Blb} (hO : OwnB w 0 vf L) (hR : Rise L) (hl : L.length ≤ 1099511627) (s t : ByteArray) (b : Blb) (hg : getB L s.data.toList = some b) : DoneIs w vf ⟨3, s, t, nul⟩ (putB (delB L s.data.toList) ⟨t, b.data⟩) := by
  intro w1 hb
  obtain ⟨ao, cap, n, rfl, hn, hr, _⟩ := ownB_row (hO.below hb)
  have HN := hide hn
  have HR := hide (rise_del hR s.data.toList)
  have hn' : n ≤ 1099511627 := by omega
  have HG := hide hg
  have hdl : (delB L s.data.toList).length ≤ 1099511627 := by have := del_len L s.data.toList; omega
  have hr1 := hr.below ((Below.refl _ w1).alloc (Nat.le_refl _) (.cells #[.int .i64 3, .string s, .string t, .string nul] 66))
  clear hn hO hg
  go_enter Tryz.func57, Tryz.ntmps57
  go_upto_region 6 with (go_at_call 29; refine (file_any ao cap n L s _ hr1 HN (by omega)).mono ?_; rintro ev w2 ⟨r, rfl, HF, rfl⟩)
  rcases unhide HF with ⟨_, hno⟩ | ⟨k, b', rfl, hk, _, hsame⟩
  · rw [unhide HG] at hno; cases hno
  · obtain rfl : b' = b := by rw [unhide HG] at hsame; exact (Option.some.inj hsame).symm
    have hkn : k < n := by rw [unhide HN]; exact (List.getElem?_eq_some_iff.1 hk).1
    obtain ⟨g, o, rfl, c0, c1⟩ := hr1 k b' hk
    have i1 : (0 : Int) ≤ (k : Int) := by omega
    have i2 : (k : Int) < (n : Int) := by omega
    have HK := hide hk
    clear hk hsame HF
    go_wp2_with (first
      | (go_at_call 99; refine (removed_any _ cap n L s _ hr1 HN hn').mono ?_; rintro ev w3 ⟨v3, rfl, hO3, hb3⟩; obtain ⟨ao3, cap3, n3, rfl, hn3, hr3, _⟩ := ownB_row hO3; have HN3 := hide hn3; have hn3' : n3 ≤ 1099511627 := (by rw [hn3]; exact hdl); have hbx3 := (hb3.block w1.heap.size (by simp)).trans (heap_alloc_new w1 (.cells #[.int .i64 3, .string s, .string t, .string nul] 66)); have d2 : w3.cell? ⟨w1.heap.size, 2, none⟩ = some (.string t) := cell_of_row _ _ 2 _ _ _ hbx3; clear hn3 hbx3)
      | (go_at_call 31; refine (written_any ao3 cap3 n3 _ t b'.data _ hr3 HN3 hn3' HR).mono ?_; rintro ev w4 ⟨v4, rfl, hO4, hb4⟩))
    go_ret
    have hB3 := box_later _ _ hb3
    exact ⟨_, rfl, hO4.any, .inr (fun k hk => Nat.le_trans hB3.size (hO4.new k hk)), hB3.trans (hb4.mono hB3.size)⟩
end Go.Proofs.YtpiponkhhimaoaaGreatDoor
