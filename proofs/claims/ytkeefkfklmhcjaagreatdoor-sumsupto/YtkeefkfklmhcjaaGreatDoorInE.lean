import Derived.Test.YtkeefkfklmhcjaaGreatDoorInD
import Derived.Test.YtkeefkfklmhcjaaGreatDoorSumC
namespace Go.Proofs.YtkeefkfklmhcjaaGreatDoor
open Go.RowKit Go.Maps

theorem sum_len {es : List Ent} {f : Nat} {e : Ent} (h : f ≠ 0) : (sumF es f e).length = 64 := by
  cases f with
  | zero => exact absurd rfl h
  | succ f => rw [sumF]; exact sha_len _
theorem nsum_any (es : List Ent) (B : Nat) (r : Nd) (ns : List Nd) (HE : Hid (entsN ns = es)) (HT : Hid (Tree es)) : ∀ (f : Nat) (x : Nd), x ∈ r :: ns → Hid (Deep es f x.ent) → ∀ w : World, Mem w B r ns → Tabs w →
    Calls Tryz.prog 46 #[.pointer (some ⟨x.nb, 0, none⟩)] w fun ev w' => ∃ s : ByteArray, ev = .returned (.string s) ∧ Hid (s.data.toList = sumF es f x.ent) ∧ Below w.heap.size w w' := by
  intro f
  induction f with
  | zero => intro x _ HD; exact absurd rfl (deep_pos (unhide HD))
  | succ f ih =>
    intro x hx HD w hM ht
    have hone := deep_one (unhide HT) (unhide HD)
    have hknd := deep_kind (unhide HT) (unhide HD)
    obtain ⟨m, hm⟩ : ∃ m : Nat, x.ent.mode = (m : Int) := ⟨x.ent.mode.toNat, by have := hone.mode; omega⟩
    have hm5 : m < 512 := by have := hone.mode; omega
    have hmt : x.ent.mode.toNat = m := by rw [hm]; rfl
    have hz2 := hone.data
    have hlen : ns.length ≤ 40 := by have := (unhide HT).len; rw [← unhide HE] at this; simpa [entsN] using this
    have hoct := octL_len m
    have hoct5 := octL_len m
    obtain ⟨g1, g2, g3, g4⟩ := hM.all x hx
    have hsum : Calls Tryz.prog 71 #[.pointer (some ⟨x.nb, 0, none⟩)] w fun ev w' => ∃ s : ByteArray, ev = .returned (.string s) ∧ Hid (sha s.data.toList = sumF es (f + 1) x.ent) ∧ s.size ≤ 1073741824 ∧ Below w.heap.size w w' := by
      have sz : ∀ (s : ByteArray) (l : List UInt8), s.data.toList = l → s.size = l.length := fun s l e => by rw [← e]; exact Array.length_toList.symm
      rcases hknd with k | k | k
      · have HO : OkTo (entsN ns) ns.length := by
          have h := (unhide HT).ok
          rw [← unhide HE] at h
          simpa [entsN] using h
        have hkd : ∀ y ∈ kidsX ns x.p, Deep es f y.ent := fun y hy => by
          refine deep_kid (unhide HT).ok (unhide HD) ?_
          rw [← unhide HE]
          show y.ent ∈ kidsE (entsN ns) x.p
          rw [kidsE_eq]
          exact List.mem_map.2 ⟨y, hy, rfl⟩
        have hsm : ∀ y ∈ ns, y.ent.path.size ≤ 1048576 := fun y hy => ((unhide HT).small y.ent (by rw [← unhide HE]; exact List.mem_map.2 ⟨y, hy, rfl⟩)).1
        have h64 : ∀ y ∈ kidsX ns x.p, (sumF es f y.ent).length = 64 := fun y hy => sum_len (deep_pos (hkd y hy))
        refine (dir_any B m r x ns (fun y => sumF es f y.ent) w hx hM (hide HO) (hide hsm) (by omega) ht k hm hm5 (hide h64)
          (fun y hy W hMW htW => ih y (List.mem_cons_of_mem _ (kidsX_mem hy).1) (hide (hkd y hy)) W hMW htW)).mono ?_
        rintro ev w' ⟨s, rfl, HS, hb⟩
        refine ⟨s, rfl, hide ?_, ?_, hb⟩
        · rw [unhide HS, sumF, if_neg (by rw [k]; decide), if_neg (by rw [k]; decide)]
          refine congrArg sha ?_
          rw [dirT, hmt]
          refine congrArg (fun t : List UInt8 => [100, 105, 114, 32] ++ octL m ++ [10] ++ t) ?_
          rw [← unhide HE]
          show _ = (List.map _ (kidsE (entsN ns) x.p)).flatten
          rw [kidsE_eq, List.map_map]
          rfl
        · rw [sz s _ (unhide HS)]
          have hfl : ((kidsX ns x.p).attach.map fun y => nameOf y.1.p ++ [32] ++ sumF es f y.1.ent ++ [10]).flatten.length ≤ (kidsX ns x.p).attach.length * 1048700 := flat_len _ (fun z => by
            have e1 := name_le z.1.p
            have e2 := hsm z.1 (kidsX_mem z.2).1
            have e3 : z.1.p.length = z.1.ent.path.size := Array.length_toList
            have e5 := h64 z.1 z.2
            simp only [List.length_append, List.length_cons, List.length_nil]
            omega)
          have e : ((kidsX ns x.p).attach.map fun y => nameOf y.1.p ++ [32] ++ sumF es f y.1.ent ++ [10]) = (kidsX ns x.p).map fun y => nameOf y.p ++ [32] ++ sumF es f y.ent ++ [10] := by
            rw [List.attach_map_val (f := fun y : Nd => nameOf y.p ++ [32] ++ sumF es f y.ent ++ [10])]
          rw [e, List.length_attach] at hfl
          have hk40 : (kidsX ns x.p).length ≤ 40 := Nat.le_trans (List.length_filter_le _ _) hlen
          simp only [List.length_append, List.length_cons, List.length_nil]
          omega
      · refine (file_any x.nb m x.ent.path x.ent.data _ w (by rw [g3, Nd.cells, k, hm]) hm5 hz2 ht).mono ?_
        rintro ev w' ⟨s, rfl, HS, hb⟩
        refine ⟨s, rfl, hide ?_, ?_, hb⟩
        · rw [unhide HS, sumF, if_pos k, fileT, hmt]
        · rw [sz s _ (unhide HS)]
          have h1 := decL_len x.ent.data.size
          have h2 : x.ent.data.data.toList.length = x.ent.data.size := Array.length_toList
          simp only [List.length_append, List.length_cons, List.length_nil]
          omega
      · refine (link_any x.nb x.ent.path x.ent.data _ _ w (by rw [g3, Nd.cells, k]) hz2).mono ?_
        rintro ev w' ⟨s, rfl, HS, hb⟩
        refine ⟨s, rfl, hide ?_, ?_, hb⟩
        · rw [unhide HS, sumF, if_neg (by rw [k]; decide), if_pos k, linkT]
        · rw [sz s _ (unhide HS)]
          have h2 : x.ent.data.data.toList.length = x.ent.data.size := Array.length_toList
          simp only [List.length_append, List.length_cons, List.length_nil]
          omega
    have HS0 := hide hsum
    have HK := hide ht
    clear hsum ih hx hM ht hone hknd g1 g2 g3 g4
    go_enter Tryz.func46, Tryz.ntmps46
    go_wp2_with (first
      | (go_at_call 71; refine (unhide HS0).mono ?_; rintro ev w1 ⟨s1, rfl, HS1, hz1, hb1⟩)
      | (go_at_call 70; refine (of_any s1 hz1 _ ((unhide HK).below hb1).ks).mono ?_; rintro ev w2 ⟨rfl, hb2⟩))
    go_ret
    exact ⟨_, rfl, hide (unhide HS1), hb1.trans (hb2.mono hb1.size)⟩
end Go.Proofs.YtkeefkfklmhcjaaGreatDoor
