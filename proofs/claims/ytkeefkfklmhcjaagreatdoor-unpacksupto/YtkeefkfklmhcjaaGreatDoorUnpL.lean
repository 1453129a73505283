import Derived.Test.YtkeefkfklmhcjaaGreatDoorJOwC
import Derived.Test.YtkeefkfklmhcjaaGreatDoorPckM
namespace Go.Proofs.YtkeefkfklmhcjaaGreatDoor
open Go.RowKit

/-- What is laid for Unpack. -/
structure LaidU (w : World) : Prop where
  err : w.cell? ⟨0, 0, none⟩ = some (.iface 150 (.agg #[.pointer (some ⟨23, 50, none⟩)]))
  rd : Rd w
theorem LaidU.below {w w' : World} (h : LaidU w) (hb : Below w.heap.size w w') : LaidU w' := ⟨cell_later hb h.err, h.rd.below hb⟩
theorem lUnpack_any (s : ByteArray) (w : World) (hR : Rd w) (hs : s.size ≤ 1073741824) :
    Calls Tryz.prog 64 #[.string s] w fun ev w' => ∃ v er, ev = .returned (.tuple #[v, er]) ∧ Hid (AUnpIs w' w.heap.size s.data.toList v er) ∧ Below w.heap.size w w' := by
  have h := aUnpack_any s w hR hs
  clear hR
  go_enter Tryz.func64, Tryz.ntmps64
  go_wp2_with (go_at_call 96; refine h.mono ?_; clear h; rintro ev w1 ⟨v, er, rfl, HO, hb1⟩)
  go_ret2
  exact ⟨_, _, rfl, HO, hb1⟩
/-- What plain.Unpack answers. -/
def PUnpIs (w : World) (B : Nat) (s : List UInt8) (v : Value) (e n : Int) : Prop :=
  (∃ cs, OwnC w B v cs ∧ e = 0 ∧ n = -1 ∧ UnpOk s cs) ∨ (∃ i : Nat, v = .slice none 0 0 ∧ e = 4 ∧ n = i ∧ UnpBad s i)
theorem pUnpack_any (s : ByteArray) (w : World) (hl : LaidU w) (hs : s.size ≤ 1073741824) :
    Calls Tryz.prog 43 #[.string s] w fun ev w' => ∃ v e k, ev = .returned (.tuple #[v, .int .i64 e, .int .i64 k]) ∧ Hid (PUnpIs w' w.heap.size s.data.toList v e k) ∧ Below w.heap.size w w' := by
  have h := lUnpack_any s w hl.rd hs
  have HL := hide hl
  clear hl
  go_enter Tryz.func43, Tryz.ntmps43
  go_upto_region 2 with (go_at_call 64; refine h.mono ?_; clear h; rintro ev w1 ⟨v, er, rfl, HO, hb1⟩)
  have HL1 := hide ((unhide HL).below hb1)
  rcases unhide HO with ⟨cs, hO, rfl, hU⟩ | ⟨i, rfl, ⟨q, rfl, c0, c1⟩, hU⟩
  · have HU := hide hU
    have HOw := hide hO
    clear HO hU hO
    go_wp2_with (go_at_call 24; refine (tell_nil _).mono ?_; rintro ev w2 ⟨rfl, hb2⟩)
    go_ret3
    exact ⟨_, _, _, rfl, hide (.inl ⟨cs, (unhide HOw).later hb2, rfl, rfl, unhide HU⟩), hb1.trans (hb2.mono hb1.size)⟩
  · have HU := hide hU
    clear HO hU
    go_wp2_with (go_at_call 24; refine (tell_at q 4 i _ (unhide HL1).err c0 c1).mono ?_; rintro ev w2 ⟨rfl, hb2⟩)
    go_ret3
    exact ⟨_, _, _, rfl, hide (.inr ⟨i, rfl, rfl, rfl, unhide HU⟩), hb1.trans (hb2.mono hb1.size)⟩
end Go.Proofs.YtkeefkfklmhcjaaGreatDoor
