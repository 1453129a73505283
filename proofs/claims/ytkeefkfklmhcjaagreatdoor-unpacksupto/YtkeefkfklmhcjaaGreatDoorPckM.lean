import Derived.Test.YtkeefkfklmhcjaaGreatDoorPckL
import Derived.Test.YtkeefkfklmhcjaaGreatDoorTopK
import Derived.Test.YtkeefkfklmhcjaaGreatDoorJChgD
namespace Go.Proofs.YtkeefkfklmhcjaaGreatDoor
open Go.RowKit

/-- What is laid for Pack. -/
structure LaidK (w : World) : Prop where
  err : w.cell? ⟨0, 0, none⟩ = some (.iface 150 (.agg #[.pointer (some ⟨23, 50, none⟩)]))
  pk : Pk w
theorem LaidK.below {w w' : World} (h : LaidK w) (hb : Below w.heap.size w w') : LaidK w' := ⟨cell_later hb h.err, h.pk.below hb⟩
theorem lPack_any (ao : Option Addr) (cap n : Nat) (cs : List Ent) (w : World) (hr : ERow w ao cs) (HN : Hid (n = cs.length)) (hn : n ≤ 4294967280) (hcap : n ≤ cap) (HS : Hid (Small cs)) (hP : Pk w) (HG : Hid (FirstBadC cs (-1) → n ≤ 80 ∧ ∀ c ∈ cs, PkG c)) :
    Calls Tryz.prog 40 #[.slice ao n cap] w fun ev w' => ∃ v er, ev = .returned (.tuple #[v, er]) ∧ Hid (APkIs w' cs v er) ∧ Below w.heap.size w w' := by
  have h := aPack_any ao cap n cs w hr HN hn hcap HS hP HG
  clear hr HN HS hP HG
  go_enter Tryz.func40, Tryz.ntmps40
  go_wp2_with (go_at_call 60; refine h.mono ?_; clear h; rintro ev w1 ⟨v, er, rfl, HO, hb1⟩)
  go_ret2
  exact ⟨_, _, rfl, HO, hb1⟩
/-- What plain.Pack answers. -/
def PPkIs (cs : List Ent) (s : ByteArray) (e n : Int) : Prop :=
  (s = bt (packL cs) ∧ e = 0 ∧ n = -1 ∧ FirstBadC cs (-1)) ∨ (∃ i : Nat, s = ⟨#[]⟩ ∧ e = 3 ∧ n = i ∧ FirstBadC cs i)
theorem pPack_any (ao : Option Addr) (cap n : Nat) (cs : List Ent) (w : World) (hr : ERow w ao cs) (HN : Hid (n = cs.length)) (hn : n ≤ 4294967280) (hcap : n ≤ cap) (HS : Hid (Small cs)) (hl : LaidK w) (HG : Hid (FirstBadC cs (-1) → n ≤ 80 ∧ ∀ c ∈ cs, PkG c)) :
    Calls Tryz.prog 19 #[.slice ao n cap] w fun ev w' => ∃ s e k, ev = .returned (.tuple #[.string s, .int .i64 e, .int .i64 k]) ∧ Hid (PPkIs cs s e k) ∧ Below w.heap.size w w' := by
  have h := lPack_any ao cap n cs w hr HN hn hcap HS hl.pk HG
  have HL := hide hl
  clear hr HN HS hl HG
  go_enter Tryz.func19, Tryz.ntmps19
  go_upto_region 2 with (go_at_call 40; refine h.mono ?_; clear h; rintro ev w1 ⟨v, er, rfl, HO, hb1⟩)
  have HL1 := hide ((unhide HL).below hb1)
  rcases unhide HO with ⟨s, rfl, hs, rfl, hF⟩ | ⟨i, rfl, ⟨q, rfl, c0, c1⟩, hF⟩
  · have HF := hide hF
    have HS2 := hide hs
    clear HO hF hs
    go_wp2_with (go_at_call 24; refine (tell_nil _).mono ?_; rintro ev w2 ⟨rfl, hb2⟩)
    go_ret3
    exact ⟨_, _, _, rfl, hide (.inl ⟨unhide HS2, rfl, rfl, unhide HF⟩), hb1.trans (hb2.mono hb1.size)⟩
  · have HF := hide hF
    clear HO hF
    go_wp2_with (go_at_call 24; refine (tell_at q 3 i _ (unhide HL1).err c0 c1).mono ?_; rintro ev w2 ⟨rfl, hb2⟩)
    go_ret3
    exact ⟨_, _, _, rfl, hide (.inr ⟨i, rfl, rfl, rfl, unhide HF⟩), hb1.trans (hb2.mono hb1.size)⟩
theorem badC_nil {r : Int} (h : FirstBadC [] r) : r = -1 := by
  rcases h with ⟨h, _⟩ | ⟨i, _, hi, _⟩
  · exact h
  · simp at hi
theorem pack_nil_len : (bt (packL [])).size = 1024 := by
  rw [bt_size, packL, List.length_append, List.length_replicate]; rfl
set_option maxHeartbeats 1000000 in
theorem lawK_any (ao : Option Addr) (cap n : Nat) (cs : List Ent) (w : World) (hr : ERow w ao cs) (HN : Hid (n = cs.length)) (hn : n ≤ 4294967280) (hcap : n ≤ cap) (HS : Hid (Small cs)) (hl : LaidK w) (HG : Hid (FirstBadC cs (-1) → n ≤ 80 ∧ ∀ c ∈ cs, PkG c)) :
    Calls Tryz.prog 6 #[.slice ao n cap] w fun ev w' => ev = .returned (.bool true) ∧ Below w.heap.size w w' := by
  have HL := hide hl
  have HR := hide hr
  clear hl hr
  go_enter Tryz.func6, Tryz.ntmps6
  go_upto_region 3 with (first
    | (go_at_call 19; refine (pPack_any ao cap n cs w (unhide HR) HN hn hcap HS (unhide HL) HG).mono ?_; rintro ev w1 ⟨s1, e1, k1, rfl, HP1, hb1⟩)
    | (go_at_call 16; refine (barred_any ao cap n cs w1 ((unhide HR).below hb1) HN hn hcap HS).mono ?_; rintro ev w2 ⟨r, rfl, HB, hb2⟩))
  have hB2 := hb1.trans (hb2.mono hb1.size)
  have HL2 := hide ((unhide HL).below hB2)
  have HR2 := hide ((unhide HR).below hB2)
  rcases unhide HP1 with ⟨hs, rfl, rfl, hF⟩ | ⟨i, rfl, rfl, rfl, hF⟩
  · obtain rfl := firstBadC_one hF (unhide HB)
    have hG := unhide HG hF
    have HS1 := hide hs
    have HA : Hid (∀ c ∈ cs, ∃ m, PkC c m) := hide (fun c hc => (hG.2 c hc).pkc)
    have hn80 := hG.1
    clear HP1 HB hF hs hG hb1 hb2
    go_wp2_with (go_at_call 20; refine (refPack_any ao cap n cs w2 (unhide HR2) HN hn80 HA).mono ?_; rintro ev w3 ⟨s3, rfl, HS3, hb3⟩; obtain rfl := (unhide HS1).trans (unhide HS3).symm)
    go_ret
    exact ⟨rfl, hB2.trans (hb3.mono hB2.size)⟩
  · obtain rfl := firstBadC_one hF (unhide HB)
    have i0 : (0 : Int) ≤ (i : Int) := by omega
    have hN := pPack_any none 0 0 [] w2 (erow_nil _ _) (hide rfl) (by omega) (Nat.le_refl _) (hide (fun e he => by simp at he)) (unhide HL2) (hide (fun _ => ⟨by omega, fun c hc => by simp at hc⟩))
    clear HP1 HB hF hb1 hb2
    go_upto_region 5 with (go_at_call 19; refine hN.mono ?_; clear hN; rintro ev w3 ⟨s3, e3, k3, rfl, HP3, hb3⟩)
    have h3 : s3.size = 1024 ∧ e3 = 0 := by
      rcases unhide HP3 with ⟨h, h0, _, _⟩ | ⟨j, _, _, _, h⟩
      · exact ⟨by rw [h]; exact pack_nil_len, h0⟩
      · exact absurd (badC_nil h) (by omega)
    obtain ⟨hz3, rfl⟩ := h3
    clear HP3
    go_wp2_with fail
    go_ret
    exact ⟨rfl, hB2.trans (hb3.mono hB2.size)⟩
end Go.Proofs.YtkeefkfklmhcjaaGreatDoor
