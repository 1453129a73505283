import Derived.Test.YtkeefkfklmhcjaaGreatDoorTopK
import Derived.Test.YtkeefkfklmhcjaaGreatDoorTell
import Derived.Test.YtkeefkfklmhcjaaGreatDoorInE
namespace Go.Proofs.YtkeefkfklmhcjaaGreatDoor
open Go.RowKit Go.Maps

/-- What is laid, and what is told of the world ahead of a call. -/
structure LaidS (w : World) : Prop where
  tabs : Tabs w
  err : w.cell? ⟨0, 0, none⟩ = some (.iface 150 (.agg #[.pointer (some ⟨23, 50, none⟩)]))
  max : ∃ m : Int, w.cell? ⟨15, 0, none⟩ = some (.int .i64 m)
theorem LaidS.below {w w' : World} (h : LaidS w) (hb : Below w.heap.size w w') : LaidS w' := by
  obtain ⟨m, hm⟩ := h.max
  exact ⟨h.tabs.below hb, cell_later hb h.err, m, cell_later hb hm⟩
/-- The answers of 'layers.Sum'. -/
def LSumIs (w : World) (es : List Ent) (v er : Value) : Prop :=
  (∃ s : ByteArray, FirstBad es (-1) ∧ v = .string s ∧ s.data.toList = sumF es (es.length + 1) rootE ∧ er = .nilIface) ∨
  (∃ (i q : Nat), FirstBad es i ∧ v = .string ⟨#[]⟩ ∧ er = .iface 83 (.pointer (some ⟨q, 0, none⟩)) ∧ w.cell? ⟨q, 0, none⟩ = some (.int .i64 2) ∧ w.cell? ⟨q, 1, none⟩ = some (.int .i64 (i : Int)))
theorem lsum_any (ao : Option Addr) (cap n : Nat) (es : List Ent) (w : World) (hr : ERow w ao es) (HN : Hid (n = es.length)) (hn : n ≤ 4294967280) (HS : Hid (Small es)) (hl : LaidS w) :
    Calls Tryz.prog 23 #[.slice ao n cap] w fun ev w' => ∃ v er, ev = .returned (.tuple #[v, er]) ∧ Hid (LSumIs w' es v er) ∧ Below w.heap.size w w' := by
  obtain ⟨m, hm⟩ := hl.max
  have HL := hide hl
  clear hl
  go_enter Tryz.func23, Tryz.ntmps23
  go_upto_region 2 with (go_at_call 45; refine (of_tree ao cap n es m w hr HN hn HS hm).mono ?_; rintro ev w1 ⟨v, er, rfl, HO, hb1⟩)
  rcases unhide HO with ⟨r, ns, rfl, rfl, hE, hM, hF⟩ | ⟨i, q, rfl, rfl, c0, c1, hF⟩
  · have HE := hide hE
    have HM := hide hM
    have HF := hide hF
    clear HO hE hM hF hm hr
    go_wp2_with (go_at_call 46; refine (nsum_any es _ r ns HE (hide (tree_of (unhide HF) (unhide HS))) (es.length + 1) r (by simp) (hide (by rw [(unhide HM).root]; exact deep_root es)) _ (unhide HM) ((unhide HL).below hb1).tabs).mono ?_; rintro ev w2 ⟨s, rfl, HSu, hb2⟩)
    go_ret2
    exact ⟨_, _, rfl, hide (.inl ⟨s, unhide HF, rfl, by rw [unhide HSu, (unhide HM).root], rfl⟩), hb1.trans (hb2.mono hb1.size)⟩
  · have HF := hide hF
    clear HO hF hm hr
    go_wp2_with fail
    go_ret2
    exact ⟨_, _, rfl, hide (.inr ⟨i, q, unhide HF, rfl, rfl, c0, c1⟩), hb1⟩
/-- The answers of 'plain.Sum'. -/
def PSumIs (es : List Ent) (s : ByteArray) (e n : Int) : Prop :=
  (FirstBad es (-1) ∧ s.data.toList = sumF es (es.length + 1) rootE ∧ e = 0 ∧ n = -1) ∨
  (∃ i : Nat, FirstBad es i ∧ s = ⟨#[]⟩ ∧ e = 2 ∧ n = i)
theorem psum_any (ao : Option Addr) (cap n : Nat) (es : List Ent) (w : World) (hr : ERow w ao es) (HN : Hid (n = es.length)) (hn : n ≤ 4294967280) (HS : Hid (Small es)) (hl : LaidS w) :
    Calls Tryz.prog 8 #[.slice ao n cap] w fun ev w' => ∃ s e k, ev = .returned (.tuple #[.string s, .int .i64 e, .int .i64 k]) ∧ Hid (PSumIs es s e k) ∧ Below w.heap.size w w' := by
  have HL := hide hl
  clear hl
  go_enter Tryz.func8, Tryz.ntmps8
  go_upto_region 2 with (go_at_call 23; refine (lsum_any ao cap n es w hr HN hn HS (unhide HL)).mono ?_; rintro ev w1 ⟨v, er, rfl, HO, hb1⟩)
  have HL1 := hide ((unhide HL).below hb1)
  rcases unhide HO with ⟨s, hF, rfl, hs, rfl⟩ | ⟨i, q, hF, rfl, rfl, c0, c1⟩
  · have HF := hide hF
    have HS2 := hide hs
    clear HO hF hs hr
    go_wp2_with (go_at_call 24; refine (tell_nil _).mono ?_; rintro ev w2 ⟨rfl, hb2⟩)
    go_ret3
    exact ⟨_, _, _, rfl, hide (.inl ⟨unhide HF, unhide HS2, rfl, rfl⟩), hb1.trans (hb2.mono hb1.size)⟩
  · have HF := hide hF
    clear HO hF hr
    go_wp2_with (go_at_call 24; refine (tell_at q 2 i _ (unhide HL1).err c0 c1).mono ?_; rintro ev w2 ⟨rfl, hb2⟩)
    go_ret3
    exact ⟨_, _, _, rfl, hide (.inr ⟨i, unhide HF, rfl, rfl, rfl⟩), hb1.trans (hb2.mono hb1.size)⟩
theorem bytes_ext {a b : ByteArray} (h : a.data.toList = b.data.toList) : a = b := by
  cases a; cases b
  simpa using h
theorem bad_nil {r : Int} (h : FirstBad [] r) : r = -1 := by
  rcases h with ⟨h, _⟩ | ⟨i, _, hi, _⟩
  · exact h
  · simp at hi
set_option maxHeartbeats 1000000 in
theorem lawS_any (ao : Option Addr) (cap n : Nat) (es : List Ent) (w : World) (hr : ERow w ao es) (HN : Hid (n = es.length)) (hn : n ≤ 4294967280) (hcap : n ≤ cap) (HS : Hid (Small es)) (hl : LaidS w) :
    Calls Tryz.prog 3 #[.slice ao n cap] w fun ev w' => ev = .returned (.bool true) ∧ Below w.heap.size w w' := by
  have HL := hide hl
  have HR := hide hr
  have HS0 : Hid (Small []) := hide (fun e he => by simp at he)
  have HT0 : Hid (Tree []) := hide ⟨fun i hi => by simp at hi, by simp, unhide HS0⟩
  have HN0 : Hid ((0 : Nat) = ([] : List Ent).length) := hide rfl
  clear hl hr
  go_enter Tryz.func3, Tryz.ntmps3
  go_upto_region 2 with (go_at_call_of 8 (Value.slice none 0 0); refine (psum_any none 0 0 [] w (erow_nil _ _) HN0 (by omega) HS0 (unhide HL)).mono ?_; rintro ev w1 ⟨s1, e1, k1, rfl, HP1, hb1⟩)
  rcases unhide HP1 with ⟨_, hs1, rfl, rfl⟩ | ⟨i, hF, _⟩
  · have HS1 := hide hs1
    have HL1 := hide ((unhide HL).below hb1)
    have HR1 := hide ((unhide HR).below hb1)
    clear HP1 hs1
    go_upto_region 4 with (go_at_call_of 9 (Value.slice none 0 0); refine (refSum_any none 0 0 [] HT0 HN0 _ (erow_nil _ _)).mono ?_; rintro ev w2 ⟨s2, rfl, HS2, hb2⟩; obtain rfl := bytes_ext ((unhide HS1).trans (unhide HS2).symm))
    have hB2 : Below w.heap.size w w2 := hb1.trans (hb2.mono hb1.size)
    have HL2 := hide ((unhide HL).below hB2)
    have HR2 := hide ((unhide HR).below hB2)
    clear HS1 HS2 HL1 HR1 hb2
    go_upto_region 6 with (first
      | (go_at_call 8; refine (psum_any ao cap n es w2 (unhide HR2) HN hn HS (unhide HL2)).mono ?_; rintro ev w3 ⟨s3, e3, k3, rfl, HP3, hb3⟩)
      | (go_at_call 10; refine (wrong_any ao cap n es _ ((unhide HR2).below hb3) HN hn hcap HS).mono ?_; rintro ev w4 ⟨r, rfl, HF4, hb4⟩))
    have hB4 : Below w.heap.size w w4 := hB2.trans ((hb3.trans (hb4.mono hb3.size)).mono hB2.size)
    rcases unhide HP3 with ⟨hF, hs3, rfl, rfl⟩ | ⟨i, hF, rfl, rfl, rfl⟩
    · obtain rfl := firstBad_one hF (unhide HF4)
      have HS3 := hide hs3
      have HT := hide (tree_of hF (unhide HS))
      have HR4 := hide ((unhide HR).below hB4)
      clear HP3 HF4 hF hs3
      go_wp2_with (go_at_call 9; refine (refSum_any ao cap n es HT HN _ (unhide HR4)).mono ?_; rintro ev w5 ⟨s5, rfl, HS5, hb5⟩; obtain rfl := bytes_ext ((unhide HS3).trans (unhide HS5).symm))
      go_ret
      exact ⟨rfl, hB4.trans (hb5.mono hB4.size)⟩
    · obtain rfl := firstBad_one hF (unhide HF4)
      have i0 : (0 : Int) ≤ (i : Int) := by omega
      clear HP3 HF4 hF
      go_wp2_with fail
      go_ret
      exact ⟨rfl, hB4⟩
  · exact absurd (bad_nil hF) (by omega)
end Go.Proofs.YtkeefkfklmhcjaaGreatDoor
