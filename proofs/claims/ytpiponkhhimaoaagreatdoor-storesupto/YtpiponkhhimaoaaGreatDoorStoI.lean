import Derived.Test.YtpiponkhhimaoaaGreatDoorStoH
import Derived.Test.YtpiponkhhimaoaaGreatDoorJIter
import Derived.Sort.KeysCollected
import Derived.Sort.Walk0
namespace Go.Proofs.YtpiponkhhimaoaaGreatDoor
open Go.RowKit Go.Maps Go.Sort Go.Shelf

theorem keysB_eq (L : List Blb) : strKeys (DB L) = L.map Blb.nm := by
  simp [strKeys, DB, strOf, Function.comp_def]
theorem keysB_sorted {L : List Blb} (h : Rise L) {ss : List (List UInt8)} (hp : ss.Perm (strKeys (DB L))) : ss.mergeSort (fun x y => decide (x ≤ y)) = L.map Blb.nm := by
  rw [mergeSort_of_perm hp, keysB_eq]
  refine List.mergeSort_of_pairwise ?_
  rw [List.pairwise_map]
  refine h.imp (fun {x y} hl => ?_)
  rw [bytesLess_eq] at hl
  simp only [leB, decide_eq_true_eq] at hl ⊢
  exact List.le_of_lt hl
/-- A row of the files' names. -/
def NRow (w : World) (ao : Option Addr) (L : List Blb) : Prop := ∀ k b, L[k]? = some b → ∃ g o, ao = some ⟨g, o, none⟩ ∧ w.cell? ⟨g, o + k, none⟩ = some (.string b.name)
theorem NRow.below {w w' : World} {ao : Option Addr} {L : List Blb} (h : NRow w ao L) (hb : Below w.heap.size w w') : NRow w' ao L := fun k b hk => by
  obtain ⟨g, o, e, h1⟩ := h k b hk
  exact ⟨g, o, e, cell_later hb h1⟩
theorem enc_name (b : Blb) : encStr b.nm = .string b.name := by
  obtain ⟨⟨n⟩, d⟩ := b
  simp [encStr, Blb.nm]
theorem nrow_of {w : World} {B n : Nat} {v : Value} {L : List Blb} (hn : n = L.length) (h : w.ownsRow B 9 1 v n ((L.map Blb.nm).map encStr)) : ∃ ao cap, v = .slice ao L.length cap ∧ NRow w ao L ∧ ∀ g o, ao = some ⟨g, o, none⟩ → B ≤ g := by
  subst hn
  rcases h.2 with ⟨rfl, h0⟩ | ⟨g, cap, cur, rfl, hb, hg, hnc, _⟩
  · have : L = [] := List.length_eq_zero_iff.1 h0
    subst this
    exact ⟨none, 0, rfl, fun k b hk => by simp at hk, fun g o e => by cases e⟩
  · refine ⟨some ⟨g, 0, none⟩, cap, rfl, fun k b hk => ⟨g, 0, rfl, ?_⟩, fun g' o e => by cases e; exact hb⟩
    have hk' : k < L.length := (List.getElem?_eq_some_iff.1 hk).1
    rw [Nat.zero_add, World.ownsRow.cellAt h _ (by omega), List.getElem?_map, List.getElem?_map, hk]
    simp only [Option.map_some]
    rw [enc_name]
set_option maxRecDepth 100000 in
theorem names_any (sb mb : Nat) (v : Value) (L : List Blb) (q : Int) (A : List Ac) (w : World) (h : PSt w sb mb v L q A) (hL : L.length ≤ 1099511627) :
    Calls Tryz.prog 62 #[.pointer (some ⟨sb, 0, none⟩)] w fun ev w' => ∃ ao cap, ev = .returned (.slice ao L.length cap) ∧ NRow w' ao L ∧ Below w.heap.size w w' ∧ Hid (∀ g o, ao = some ⟨g, o, none⟩ → w.heap.size ≤ g) := by
  have c0 : w.cell? ⟨sb, 0, none⟩ = some (.map (some mb)) := cell_of_row _ _ 0 _ _ _ h.cells
  have hm := h.map
  have HR := hide h.map.rise
  have hsz : Maps.size (DB L) = L.length := by simp [Maps.size, DB]
  clear h
  go_enter Tryz.func62, Tryz.ntmps62
  go_wp2_with (first
    | (go_at_call 107; refine (callsIn_wide.1 (Tryz.maps_Keys_B (some mb) _)).mono ?_; rintro ev w1 ⟨rfl, rfl⟩)
    | (go_at_call 106; refine (callsIn_wide.1 (Tryz.slices_Sorted_keys_B mb L.length (DB L) RB w hm (by rw [hsz]; unfold maxLen; omega) (by rw [hsz]; omega))).mono ?_; rintro ev w2 ⟨v2, ss, rfl, hp, hown, hnil, hb2⟩))
  have hl : ss.length = L.length := by rw [hp.length_eq, keysB_eq, List.length_map]
  rw [keysB_sorted (unhide HR) hp] at hown
  obtain ⟨ao, cap, rfl, hN, hg⟩ := nrow_of hl hown
  have HG := hide hg
  clear hg
  go_ret
  exact ⟨ao, cap, rfl, hN, ((Below.refl _ w).alloc (Nat.le_refl _) _).trans (Below.mono hb2 (by simp)), hide (fun g o e => by have := unhide HG g o e; simp at this; omega)⟩
theorem keepD_below {w w' : World} {k t : Nat} {cs : Array Value} (hb : Below w.heap.size w w') (h : w.heap[k]? = some (.cells cs t (0, 0))) : w'.heap[k]? = some (.cells cs t (0, 0)) := (hb.block k (Array.getElem?_eq_some_iff.1 h).1).trans h
theorem frzD {w : World} {b : Nat} {cs : Array Value} {t : TypeId} (h : w.heap[b]? = some (.cells cs t (0, 0))) (k : Nat) : w.frozen? ⟨b, k, none⟩ = false := by simp [World.frozen?, h]
theorem set2D {w : World} {b x k : Nat} (v0 v1 : Value) (h : x ≠ b) {v : Value} (hc : w.cell? ⟨x, k, none⟩ = some v) : ((w.setCell ⟨b, 0, none⟩ v0).setCell ⟨b, 1, none⟩ v1).cell? ⟨x, k, none⟩ = some v := by
  rw [World.cell?_of_block (Below.heap_setCell _ _ _ _ h), World.cell?_of_block (Below.heap_setCell _ _ _ _ h)]; exact hc
set_option maxHeartbeats 1000000 in
set_option maxRecDepth 100000 in
theorem cloned_any (b : Blb) (w : World) (h1 : b.name.size ≤ 1073741824) (h2 : b.data.size ≤ 1073741824) : Calls Tryz.prog 63 #[.agg #[.string b.name, .string b.data]] w fun ev w' => ev = .returned (.agg #[.string b.name, .string b.data]) ∧ Below w.heap.size w w' := by
  obtain ⟨W0, hW0⟩ : ∃ W0, W0 = (w.alloc (.cells #[.string b.name, .string b.data] 68)).alloc (.cells #[.string ⟨#[]⟩, .string ⟨#[]⟩] 68) := ⟨_, rfl⟩
  have hx0 : W0.heap[w.heap.size]? = some (.cells #[.string b.name, .string b.data] 68 (0, 0)) := by rw [hW0]; exact (Below.heap_alloc _ _ _ (by simp)).trans (heap_alloc_new _ _)
  have hq0 : W0.heap[w.heap.size + 1]? = some (.cells #[.string ⟨#[]⟩, .string ⟨#[]⟩] 68 (0, 0)) := by
    rw [hW0]
    have := heap_alloc_new (w.alloc (.cells #[.string b.name, .string b.data] 68)) (.cells #[.string ⟨#[]⟩, .string ⟨#[]⟩] 68)
    rwa [World.size_alloc] at this
  have hb0 : Below w.heap.size w W0 := by rw [hW0]; exact ((Below.refl _ _).alloc (Nat.le_refl _) _).alloc (by simp) _
  have x0 : W0.cell? ⟨w.heap.size, 0, none⟩ = some (.string b.name) := cell_of_row _ _ 0 _ _ _ hx0
  have x1 : W0.cell? ⟨w.heap.size, 1, none⟩ = some (.string b.data) := cell_of_row _ _ 1 _ _ _ hx0
  have HQ := hide hq0
  have hne : w.heap.size ≠ w.heap.size + 1 := by omega
  clear hx0 hq0
  go_enter Tryz.func63, Tryz.ntmps63
  go_upto_region 1 with fail
  rw [← hW0]
  clear hW0
  go_region_held3 (fun w' => w'.cell? ⟨w.heap.size, 0, none⟩ = some (.string b.name) ∧ w'.cell? ⟨w.heap.size, 1, none⟩ = some (.string b.data))
    (first | (with_reducible exact ⟨p0, p1⟩) | (with_reducible exact ⟨p0', p1'⟩) | (with_reducible exact ⟨set2D _ _ hne p0', set2D _ _ hne p1'⟩) | go_keep)
    (first
      | (go_at_call_of 90 (Value.string b.name); refine (clone_at _ _ h1).mono ?_; rintro ev w1 ⟨rfl, hb1⟩; have p0 := cell_later (chain0 hb1) x0; have p1 := cell_later (chain0 hb1) x1)
      | (go_at_call_of 90 (Value.string b.data); refine (clone_at _ _ h2).mono ?_; rintro ev w2 ⟨rfl, hb2⟩; have p0' := cell_later hb2 p0; have p1' := cell_later hb2 p1; have hq := keepD_below hb2 (keepD_below (chain0 hb1) (unhide HQ)); have q0 : w2.cell? ⟨w.heap.size + 1, 0, none⟩ = some (.string ⟨#[]⟩) := cell_of_row _ _ 0 _ _ _ hq; have q1 : w2.cell? ⟨w.heap.size + 1, 1, none⟩ = some (.string ⟨#[]⟩) := cell_of_row _ _ 1 _ _ _ hq; have f0 := frzD hq 0; have f1 := frzD hq 1; clear hq))
  go_wp2
  refine bodyPost_ret (v := .agg #[.string b.name, .string b.data]) (by simp [results, Tryz.results63, go_sem, q0, q1]) rfl ⟨rfl, ?_⟩
  have hB : Below w.heap.size w w2 := hb0.trans (((chain0 hb1).trans (hb2.mono (chain0 hb1).size)).mono hb0.size)
  exact (hB.setCell (p := ⟨w.heap.size + 1, 0, none⟩) (by show w.heap.size ≤ w.heap.size + 1; omega) _).setCell (p := ⟨w.heap.size + 1, 1, none⟩) (by show w.heap.size ≤ w.heap.size + 1; omega) _
end Go.Proofs.YtpiponkhhimaoaaGreatDoor
