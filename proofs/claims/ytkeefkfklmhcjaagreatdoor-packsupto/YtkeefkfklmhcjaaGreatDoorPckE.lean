import Derived.Test.YtkeefkfklmhcjaaGreatDoorPckB
namespace Go.Proofs.YtkeefkfklmhcjaaGreatDoor
open Go.RowKit

theorem join_any (d r : ByteArray) (w : World) (_ : d.size ≤ 1073741824) (_ : r.size ≤ 1073741824) :
    Calls Tryz.prog 189 #[.string d, .string r] w fun ev w' => ev = .returned (.string (bt (inL d.data.toList r.data.toList))) ∧ w' = w := by
  by_cases hd : d.data.toList = []
  · have g1 : d.toList.isEmpty = true := by rw [Lib.toList_data]; simpa using hd
    have HF : Hid (r = bt (inL d.data.toList r.data.toList)) := hide (by rw [inL, if_pos hd, bt_of])
    clear hd
    go_enter Tryz.func189, Tryz.ntmps189
    go_wp2
    go_ret
    exact ⟨congrArg (fun t => Ending.returned (Value.string t)) (unhide HF), rfl⟩
  · have g1 : d.toList.isEmpty = false := by rw [Lib.toList_data]; simpa using hd
    have HF : Hid (d ++ (⟨#[47]⟩ : ByteArray) ++ r = bt (inL d.data.toList r.data.toList)) := hide (by
      rw [inL, if_neg hd]
      conv => lhs; rw [← bt_of d, ← bt_of r, show (⟨#[47]⟩ : ByteArray) = bt [47] from rfl, bt_app, bt_app]
      simp)
    clear hd
    go_enter Tryz.func189, Tryz.ntmps189
    go_wp2
    go_ret
    exact ⟨congrArg (fun t => Ending.returned (Value.string t)) (unhide HF), rfl⟩
theorem nameOf_any (c : Ent) (w : World) (hs : c.path.size ≤ 1048576) :
    Calls Tryz.prog 156 #[.agg #[.string c.path, .int .i64 c.kind, .int .i64 c.mode, .string c.data]] w fun ev w' => ev = .returned (.string (bt (nameL c))) ∧ Below w.heap.size w w' := by
  have hb0 : ∀ o, Below w.heap.size w (w.alloc o) := fun o => (Below.refl _ _).alloc (Nat.le_refl _) o
  by_cases h1 : c.kind = 1
  · have HF : Hid (c.path ++ (⟨#[47]⟩ : ByteArray) = bt (nameL c)) := hide (by
      rw [nameL, if_pos h1, ← bt_app, bt_of]; rfl)
    go_enter Tryz.func156, Tryz.ntmps156
    go_wp2
    go_ret
    exact ⟨congrArg (fun t => Ending.returned (Value.string t)) (unhide HF), hb0 _⟩
  · have h1' : (c.kind == 1) = false := by simp [h1]
    by_cases h4 : c.kind = 4
    · have HF : ∀ d n : ByteArray, d.data.toList = dirOf c.path.data.toList → n.data.toList = nameOf c.path.data.toList → bt (inL d.data.toList ((⟨#[46, 119, 104, 46]⟩ : ByteArray) ++ n).data.toList) = bt (nameL c) := fun d n hd hn => by
        rw [nameL, if_neg h1, if_pos h4, hd, ByteArray.data_append, Array.toList_append, hn]; rfl
      have HFh := hide HF
      have h4' : (c.kind == 4) = true := by simp [h4]
      clear HF
      go_enter Tryz.func156, Tryz.ntmps156
      go_wp2_with (first
        | (go_at_call 105; refine (last_any c.path _ (by omega)).mono ?_; rintro ev w1 ⟨dd, nn, rfl, HD, HNm, hb1⟩; have hds : dd.size ≤ 1048576 := (by rw [Lib.size_eq, unhide HD]; have := dir_le c.path.data.toList; rw [Lib.size_eq] at hs; omega); have hns : nn.size ≤ 1048576 := (by rw [Lib.size_eq, unhide HNm]; have := name_le c.path.data.toList; rw [Lib.size_eq] at hs; omega))
        | (go_at_call 189; refine (join_any dd ((⟨#[46, 119, 104, 46]⟩ : ByteArray) ++ nn) _ (by omega) (by rw [ByteArray.size_append]; show 4 + _ ≤ _; omega)).mono ?_; rintro ev w2 ⟨rfl, hw⟩; obtain rfl := hw.symm))
      go_ret
      exact ⟨congrArg (fun t => Ending.returned (Value.string t)) (unhide HFh dd nn (unhide HD) (unhide HNm)), (hb0 _).trans (hb1.mono (hb0 _).size)⟩
    · have h4' : (c.kind == 4) = false := by simp [h4]
      by_cases h5 : c.kind = 5
      · have h5' : (c.kind == 5) = true := by simp [h5]
        have HF : Hid (bt (inL c.path.data.toList (⟨#[46, 119, 104, 46, 46, 119, 104, 46, 46, 111, 112, 113]⟩ : ByteArray).data.toList) = bt (nameL c)) := hide (by
          rw [nameL, if_neg h1, if_neg h4, if_pos h5]; rfl)
        go_enter Tryz.func156, Tryz.ntmps156
        go_wp2_with (go_at_call 189; refine (join_any c.path ⟨#[46, 119, 104, 46, 46, 119, 104, 46, 46, 111, 112, 113]⟩ _ (by omega) (by decide)).mono ?_; rintro ev w2 ⟨rfl, hw⟩; obtain rfl := hw.symm)
        go_ret
        exact ⟨congrArg (fun t => Ending.returned (Value.string t)) (unhide HF), hb0 _⟩
      · have h5' : (c.kind == 5) = false := by simp [h5]
        have HF : Hid (c.path = bt (nameL c)) := hide (by rw [nameL, if_neg h1, if_neg h4, if_neg h5, bt_of])
        go_enter Tryz.func156, Tryz.ntmps156
        go_wp2
        go_ret
        exact ⟨congrArg (fun t => Ending.returned (Value.string t)) (unhide HF), hb0 _⟩
end Go.Proofs.YtkeefkfklmhcjaaGreatDoor
