import Derived.Test.YtpiponkhhimaoaaGreatDoorStoD
import Derived.Test.YtpiponkhhimaoaaGreatDoorJShelf
namespace Go.Proofs.YtpiponkhhimaoaaGreatDoor
open Go.RowKit Go.Maps

theorem clone_at (s : ByteArray) (w : World) (hs : s.size ≤ 1073741824) : Calls Tryz.prog 90 #[.string s] w fun ev w' => ev = .returned (.string s) ∧ Below w.heap.size w w' := by
  go_enter Tryz.func90, Tryz.ntmps90
  go_wp2_with (go_at_call 143; refine (Tryz.stringslite_Clone s _ (by omega)).mono ?_; rintro ev w1 ⟨rfl, hb1⟩)
  go_ret
  exact ⟨rfl, hb1⟩
/-- The name of the file that is written first. -/
def asideN (s : ByteArray) : ByteArray := ⟨#[116, 47]⟩ ++ s.extract 2 s.size
/-- Files, when bytes are kept under a name. -/
def keepL (L : List Blb) (s d : ByteArray) : List Blb := delB (putB (putB L ⟨asideN s, d⟩) ⟨s, d⟩) (asideN s).data.toList
def keepA (s d : ByteArray) : List Ac := [⟨1, asideN s, emp, d⟩, ⟨2, asideN s, emp, emp⟩, ⟨3, asideN s, s, emp⟩, ⟨4, emp, emp, emp⟩]
theorem get_put {L : List Blb} (hL : Rise L) (b : Blb) : getB (putB L b) b.nm = some b := get_of_mem (rise_put hL b) (by simp [putB])
set_option maxHeartbeats 1000000 in
set_option maxRecDepth 100000 in
theorem keep_act (sb mb : Nat) (v : Value) (L : List Blb) (q : Int) (A : List Ac) (s d : ByteArray) (w : World) (h : PSt w sb mb v L q A) (hA : A.length ≤ 1099511627) (hL : L.length ≤ 1099511627) (h2 : 2 ≤ s.size) (hs : s.size ≤ 1048576) (hd : d.size ≤ 1073741824) (hz : szL L ≤ 1099511627776) :
    Calls Tryz.prog 102 #[.pointer (some ⟨sb, 0, none⟩), .string s, .string d] w fun ev w' =>
      ((szL (delB L s.data.toList) + d.size : Nat) > q ∧ ev = .returned (.iface 36 (.int .i64 12)) ∧ Below w.heap.size w w') ∨
      ((szL (delB L s.data.toList) + d.size : Nat) ≤ q ∧ ev = .returned .nilIface ∧ ∃ v', PSt w' sb mb v' (keepL L s d) q (A ++ keepA s d) ∧ Goes w sb mb v w' v') := by
  have hS := size_act sb mb v L q A s w.drew h.drew (by omega) hz
  have c1 : w.cell? ⟨sb, 1, none⟩ = some (.int .i64 q) := cell_of_row _ _ 1 _ _ _ h.cells
  have hle : szL (delB L s.data.toList) ≤ szL L := by have := szL_del h.map.rise s.data.toList; omega
  have HP := hide h
  have i2 : (2 : Int) ≤ (s.size : Int) := by omega
  obtain ⟨z, hzz⟩ : ∃ z, z = szL (delB L s.data.toList) := ⟨_, rfl⟩
  rw [← hzz] at hS hle ⊢
  have HZ := hide hzz
  have hw : IntKind.i64.wrap ((z : Int) + (d.size : Int)) = (z : Int) + (d.size : Int) := by
    have := wrap_i64 (z + d.size) (by omega)
    rwa [Int.natCast_add] at this
  clear h hzz
  go_enter Tryz.func102, Tryz.ntmps102
  go_upto_region 1 with fail
  go_region_held3 (fun w' => w'.cell? ⟨sb, 1, none⟩ = some (.int .i64 q))
    (first | exact cell_later (chain0 hb1) c1 | go_keep)
    (first | (go_at_call 155; refine hS.mono ?_; rintro ev w1 ⟨rfl, hb1⟩))
  have hB1 : Below w.heap.size w w1 := chain0 hb1
  have hP1 := (unhide HP).below hB1
  by_cases hgt : q < ((z : Int) + (d.size : Int))
  · go_wp2_with fail
    go_ret
    exact .inl ⟨by omega, rfl, hB1⟩
  · have hr := (unhide HP).map.rise
    have hn1 : (asideN s).size ≤ 1048578 := by
      simp only [asideN, ByteArray.size_append, ByteArray.size_extract]
      have : (⟨#[116, 47]⟩ : ByteArray).size = 2 := rfl
      omega
    have hpl : ∀ b : Blb, (putB L b).length ≤ 1099511628 := fun b => by rw [put_len L hr]; have := del_len L b.nm; omega
    have hA4 : ∀ l : List Ac, l.length ≤ 4 → (A ++ l).length ≤ 1099511627776 := fun l hl => by rw [List.length_append]; omega
    have HB1 := hide hB1
    clear hB1 hb1 hS
    go_wp2_with (first
      | (go_at_call 90; refine (clone_at d _ hd).mono ?_; rintro ev w2 ⟨rfl, hb2⟩; have hP2 := hP1.below hb2)
      | (go_at_call 156; refine (write_act sb mb v L q A (asideN s) d _ hP2 (by omega) (by omega) (by omega)).mono ?_; rintro ev w3 ⟨rfl, v3, hP3, hG3⟩)
      | (go_at_call 157; refine (sync_act sb mb v3 _ q _ (asideN s) _ hP3 (hA4 [_] (by simp))).mono ?_; rintro ev w4 ⟨rfl, v4, hP4, hG4⟩)
      | (go_at_call 158; refine (rename_act sb mb v4 _ q _ (asideN s) s _ _ hP4 (by have := hA4 [⟨1, asideN s, emp, d⟩, ⟨2, asideN s, emp, emp⟩] (by simp); simpa using this) (by have := hpl ⟨asideN s, d⟩; omega) (by omega) (by omega) (get_put hr ⟨asideN s, d⟩)).mono ?_; rintro ev w5 ⟨rfl, v5, hP5, hG5⟩)
      | (go_at_call 159; refine (names_act sb mb v5 _ q _ _ hP5 (by have := hA4 [⟨1, asideN s, emp, d⟩, ⟨2, asideN s, emp, emp⟩, ⟨3, asideN s, s, emp⟩] (by simp); simpa using this)).mono ?_; rintro ev w6 ⟨rfl, v6, hP6, hG6⟩))
    go_ret
    refine .inr ⟨by omega, rfl, v6, ?_, ?_⟩
    · have e : A ++ keepA s d = (((A ++ [⟨1, asideN s, emp, d⟩]) ++ [⟨2, asideN s, emp, emp⟩]) ++ [⟨3, asideN s, s, emp⟩]) ++ [⟨4, emp, emp, emp⟩] := by simp [keepA]
      rw [e]
      exact hP6
    · exact (Goes.of_below (unhide HB1)).trans ((Goes.of_below hb2).trans (hG3.trans (hG4.trans (hG5.trans hG6))))
end Go.Proofs.YtpiponkhhimaoaaGreatDoor
