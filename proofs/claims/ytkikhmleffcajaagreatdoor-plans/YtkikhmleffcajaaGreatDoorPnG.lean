import Derived.Test.YtkikhmleffcajaaGreatDoorPnF
import Derived.Test.YtkikhmleffcajaaGreatDoorJRdX
import Derived.Test.YtkikhmleffcajaaGreatDoorTpA
namespace Go.Proofs.YtkikhmleffcajaaGreatDoor
open Go.RowKit Go.Maps

theorem row_basez {w : World} {B B' e z n : Nat} {v : Value} {xs : List Value} (h : w.ownsRow B e z v n xs) (hB : B' ≤ B) : w.ownsRow B' e z v n xs := by
  refine ⟨h.1, ?_⟩
  rcases h.2 with h | ⟨g, cap, cur, h1, h2, h3⟩
  · exact .inl h
  · exact .inr ⟨g, cap, cur, h1, Nat.le_trans hB h2, h3⟩
theorem err34_nil (w : World) : (binOp BinOp.neq 34 .nilIface .nilIface).run Tryz.prog w = .ok (.bool false) w := by kernel_rfl
theorem err34_some (v : Value) (w : World) : (binOp BinOp.neq 34 (.iface 64 v) .nilIface).run Tryz.prog w = .ok (.bool true) w := by kernel_rfl
/-- What layers.Plan comes to. -/
def PlanOut (B : Nat) (w' : World) (ev : Ending) (r : Res (List Stg)) : Prop := match r with
  | .error (e, p) => ∃ a : Nat, ev = .returned (.tuple #[.slice none 0 0, .iface 64 (.pointer (some ⟨a, 0, none⟩))]) ∧ w'.heap[a]? = some (.cells #[.int .i64 (e : Int), .int .i64 (p : Int)] 68 (0, 0))
  | .ok st => ∃ rv bs, ev = .returned (.tuple #[rv, .nilIface]) ∧ Marks st bs ∧ NumR w' B rv (idxB bs st.length)
set_option maxHeartbeats 2000000 in
set_option maxRecDepth 10000 in
theorem plan_any (s : ByteArray) (m : Int) (w : World) (hm : w.cell? ⟨1, 0, none⟩ = some (.int .i64 m)) (hg : w.cell? ⟨0, 0, none⟩ = some (.iface 140 (.agg #[.pointer (some ⟨22, 34, none⟩)]))) :
    Calls Tryz.prog 7 #[.string s] w fun ev w' => PlanOut w.heap.size w' ev (parseG s.data.toList) ∧ Below w.heap.size w w' := by
  have hR := read_any s m w hm hg
  cases hp : parseG s.data.toList with
  | error ep =>
    obtain ⟨e, p⟩ := ep
    rw [hp] at hR
    unfold ReadOut at hR
    have hn := fun v => err34_some v
    clear hp hm hg
    go_enter Tryz.func7, Tryz.ntmps7
    go_wp2_with (go_at_call 17; refine hR.mono ?_; clear hR; rintro ev w2 ⟨⟨a, rfl, hc⟩, hb2⟩)
    go_ret2
    exact ⟨⟨a, rfl, hc⟩, hb2⟩
  | ok st =>
    obtain ⟨hf, hne⟩ := parse_fwd hp
    rw [hp] at hR
    unfold ReadOut at hR
    have hn := err34_nil
    have hF := fun B fb sv ss w' (h : FileM w' B fb sv ss) (he : ss.map StM.stg = st) => needed_any B fb sv ss w' h (by rw [he]; exact hf) (by rw [he]; exact hne)
    clear hp hm hg hf hne
    go_enter Tryz.func7, Tryz.ntmps7
    go_wp2_with (first
      | (go_at_call 17; refine hR.mono ?_; clear hR; rintro ev w2 ⟨⟨B, fb, sv, ss, rfl, hFM, hst⟩, hb2⟩; have HFM := hide hFM; have HST := hide hst; clear hFM hst)
      | (go_at_call 19; refine (hF _ _ _ _ _ (unhide HFM) (unhide HST)).mono ?_; clear hF; rintro ev w3 ⟨⟨rv, bs, hma, rfl, hrow⟩, hb3⟩; obtain ⟨ao, n', c', hrv⟩ := row_form hrow; subst hrv; have HMA := hide hma; have HRW := hide hrow; clear hma hrow))
    go_ret2
    refine ⟨⟨_, bs, rfl, by rw [← unhide HST]; exact unhide HMA, ?_⟩, hb2.trans (hb3.mono hb2.size)⟩
    have := row_basez (unhide HRW) hb2.size
    rw [unhide HST] at this
    exact this
/-- What plain.Plan comes to. -/
def TopP (B : Nat) (w' : World) (ev : Ending) (r : Res (List Stg)) : Prop := match r with
  | .error (e, p) => ev = .returned (.tuple #[.slice none 0 0, .int .i64 (e : Int), .int .i64 (p : Int)])
  | .ok st => ∃ rv bs, ev = .returned (.tuple #[rv, .int .i64 0, .int .i64 (-1)]) ∧ Marks st bs ∧ NumR w' B rv (idxB bs st.length)
set_option maxHeartbeats 2000000 in
set_option maxRecDepth 10000 in
theorem plain_plan (s : ByteArray) (m : Int) (w : World) (hm : w.cell? ⟨1, 0, none⟩ = some (.int .i64 m)) (hg : w.cell? ⟨0, 0, none⟩ = some (.iface 140 (.agg #[.pointer (some ⟨22, 34, none⟩)]))) :
    Calls Tryz.prog 4 #[.string s] w fun ev w' => TopP w.heap.size w' ev (parseG s.data.toList) ∧ Below w.heap.size w w' := by
  have hR := plan_any s m w hm hg
  have HG := hide hg
  cases hp : parseG s.data.toList with
  | error ep =>
    obtain ⟨e, p⟩ := ep
    rw [hp] at hR
    unfold PlanOut at hR
    clear hp hm hg
    go_enter Tryz.func4, Tryz.ntmps4
    go_wp2_with (first
      | (go_at_call 7; refine hR.mono ?_; clear hR; rintro ev w2 ⟨⟨a, rfl, hc⟩, hb2⟩; have HC := hide hc; clear hc)
      | (go_at_call 8; refine (tell_at a (e : Int) (p : Int) _ (cell_later hb2 (unhide HG)) (cell_of_row _ _ 0 _ _ _ (unhide HC)) (cell_of_row _ _ 1 _ _ _ (unhide HC))).mono ?_; rintro ev w3 ⟨rfl, hb3⟩))
    go_ret3
    exact ⟨rfl, hb2.trans (hb3.mono hb2.size)⟩
  | ok st =>
    rw [hp] at hR
    unfold PlanOut at hR
    clear hp hm hg
    go_enter Tryz.func4, Tryz.ntmps4
    go_wp2_with (first
      | (go_at_call 7; refine hR.mono ?_; clear hR; rintro ev w2 ⟨⟨rv, bs, rfl, hma, hrow⟩, hb2⟩; obtain ⟨ao, n', c', hrv⟩ := row_form hrow; subst hrv; have HMA := hide hma; have HRW := hide hrow; clear hma hrow)
      | (go_at_call 8; refine (tell_nil _).mono ?_; rintro ev w3 ⟨rfl, hb3⟩))
    go_ret3
    exact ⟨⟨_, bs, rfl, unhide HMA, row_same (unhide HRW) fun q hq => hb3.block q (World.ownsRow.lt (unhide HRW) q hq).2⟩, hb2.trans (hb3.mono hb2.size)⟩
end Go.Proofs.YtkikhmleffcajaaGreatDoor
