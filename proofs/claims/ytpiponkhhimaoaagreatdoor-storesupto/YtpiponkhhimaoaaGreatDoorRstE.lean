import Derived.Test.YtpiponkhhimaoaaGreatDoorRstD
import Derived.Test.YtpiponkhhimaoaaGreatDoorStoF
import Derived.Test.YtpiponkhhimaoaaGreatDoorRefD
namespace Go.Proofs.YtpiponkhhimaoaaGreatDoor
open Go.RowKit Go.Maps

/-- A cell of the document's store, that is no list, has turned. -/
theorem RSt.set_coll {w : World} {yb : Nat} {vf va vs : Value} {L : List Blb} {q : Int} {A : List Ac} {N : List Blb} {c c' : Bool} (h : RSt w yb vf va vs L q A N c) :
    RSt (w.setCell ⟨yb, 4, none⟩ (.bool c')) yb vf va vs L q A N c' ∧ RGoes w yb vf va vs (w.setCell ⟨yb, 4, none⟩ (.bool c')) vf va vs := by
  have hoth : ∀ k, k ≠ yb → (w.setCell ⟨yb, 4, none⟩ (.bool c')).heap[k]? = w.heap[k]? := fun k hk => Below.heap_setCell _ _ _ _ hk
  exact ⟨⟨heap_setCell_same _ _ 4 _ _ _ h.cells, row_turn h.files fun k hk => hoth k (fun e => h.yf (e ▸ hk)), row_turn h.acts fun k hk => hoth k (fun e => h.ya (e ▸ hk)), row_turn h.seen fun k hk => hoth k (fun e => h.ys (e ▸ hk)), h.apart⟩,
    ⟨Turn.of_set w ⟨yb, 4, none⟩ _ (S := ROwn yb va vs) (.inl rfl), fun _ => .inl, fun _ => .inl⟩⟩
theorem RSt.more_seen {w w1 : World} {o : Obj} {yb : Nat} {vf va vs : Value} {L : List Blb} {q : Int} {A : List Ac} {N : List Blb} {c : Bool} {b : Blb} {gg cp : Nat} (h : RSt w yb vf va vs L q A N c) (hown : w1.ownsRow 0 68 2 (.slice (some ⟨gg, 0, none⟩) (N.length + 1) cp) (N.length + 1) (blC N ++ b.cells))
    (hg : (w.alloc o).grownBy w1 vs.ownBlock) (hl : vs.ownBlock = some gg ∨ gg = w.heap.size + 1) :
    RSt (w1.setCell ⟨yb, 3, none⟩ (.slice (some ⟨gg, 0, none⟩) (N.length + 1) cp)) yb vf va (.slice (some ⟨gg, 0, none⟩) (N.length + 1) cp) L q A (N ++ [b]) c ∧ RGoes w yb vf va vs (w1.setCell ⟨yb, 3, none⟩ (.slice (some ⟨gg, 0, none⟩) (N.length + 1) cp)) vf va (.slice (some ⟨gg, 0, none⟩) (N.length + 1) cp) := by
  have hold : ∀ k, k < w.heap.size → vs.ownBlock ≠ some k → w1.heap[k]? = w.heap[k]? := fun k hk hr =>
    (hg.block k (by show _ < (w.alloc _).heap.size; simp; omega) (fun e => hr e.symm)).trans (Below.heap_alloc _ _ _ hk)
  have hyl := h.lt yb (.inl (.inl rfl))
  have hs1 := (hold yb hyl h.ys).trans h.cells
  have hgy : gg ≠ yb := by
    rintro rfl
    rcases hl with e | e
    · exact h.ys e
    · omega
  have hoth : ∀ k, k ≠ yb → (w1.setCell ⟨yb, 3, none⟩ (.slice (some ⟨gg, 0, none⟩) (N.length + 1) cp)).heap[k]? = w1.heap[k]? := fun k hk => Below.heap_setCell _ _ _ _ hk
  have hz : w.heap.size ≤ w1.heap.size := Nat.le_trans (by show _ ≤ (w.alloc o).heap.size; simp) hg.size
  have hfs : ∀ k, vf.ownBlock = some k → vs.ownBlock ≠ some k := fun k hk e => h.apart k e hk
  refine ⟨⟨heap_setCell_same _ _ 3 _ _ _ hs1, row_turn h.files fun k hk => ?_, row_turn h.acts fun k hk => ?_, ?_, fun k hk => ?_⟩, ⟨?_, ?_, fun _ => .inl⟩⟩
  · exact (hoth k (fun e => h.yf (e ▸ hk))).trans (hold k (own_lt h.files hk) (hfs k hk))
  · exact (hoth k (fun e => h.ya (e ▸ hk))).trans (hold k (own_lt h.acts hk) (row_ne h.acts h.seen (by decide) hk))
  · refine row_turn (ownB_snoc hown) fun k hk => hoth k (by cases hk; exact hgy)
  · cases hk
    rcases hl with e | e
    · exact h.apart _ e
    · intro e2
      have := own_lt h.files e2
      have : gg < w.heap.size := this
      omega
  · refine ⟨hg.os, hg.tape, hg.output, by simpa using hz, fun k hk hk' => ?_⟩
    exact (hoth k (fun e => hk' (.inl e))).trans (hold k hk (fun e => hk' (.inr (.inr e))))
  · rintro k (e | e | e)
    · exact .inl (.inl e)
    · exact .inl (.inr (.inl e))
    · cases e
      exact hl.imp (fun e => .inr (.inr e)) (fun e => by show w.heap.size ≤ gg; omega)
theorem one_old' {w w1 : World} {o : Obj} {row : Option Nat} (hg : (w.alloc o).grownBy w1 row) {k : Nat} (hk : k < w.heap.size) (hr : row ≠ some k) : w1.heap[k]? = w.heap[k]? :=
  (hg.block k (by show _ < (w.alloc _).heap.size; simp; omega) (fun e => hr e.symm)).trans (Below.heap_alloc _ _ _ hk)
/-- What 'mark' does. -/
def MarkIs (w : World) (yb : Nat) (vf va vs : Value) (L : List Blb) (q : Int) (A : List Ac) (N : List Blb) (w' : World) : Prop := ∃ vs' N' c', RSt w' yb vf va vs' L q A N' c' ∧ RGoes w yb vf va vs w' vf va vs' ∧ N'.length ≤ N.length + 1
set_option maxHeartbeats 2000000 in
set_option maxRecDepth 100000 in
theorem mark_any (yb : Nat) (vf va vs : Value) (L : List Blb) (q : Int) (A : List Ac) (N : List Blb) (c : Bool) (s : ByteArray) (w : World) (h : RSt w yb vf va vs L q A N c) (hN : N.length ≤ 1099511627) (hs : s.size ≤ 1073741824) :
    Calls Tryz.prog 35 #[.pointer (some ⟨yb, 0, none⟩), .string s] w fun ev w' => ev = .returned (.string ⟨(sha s.data.toList).toArray⟩) ∧ MarkIs w yb vf va vs L q A N w' := by
  obtain ⟨i0, hi, hz0, hz1, hz2⟩ := info_parts info140
  have HP := hide h
  clear h
  go_enter Tryz.func35, Tryz.ntmps35
  go_upto_region 2 with (go_at_call 38; refine (digest_any s hs _).mono ?_; rintro ev w1 ⟨rfl, hb1⟩)
  have hP1 := (unhide HP).below hb1
  have hG1 : RGoes w yb vf va vs w1 vf va vs := RGoes.of_below hb1
  obtain ⟨ao, cap, n, rfl, hn, hr, hcap⟩ := ownB_row hP1.seen
  have c3 : w1.cell? ⟨yb, 3, none⟩ = some (.slice ao n cap) := cell_of_row _ _ 3 _ _ _ hP1.cells
  have c4 : w1.cell? ⟨yb, 4, none⟩ = some (.bool c) := cell_of_row _ _ 4 _ _ _ hP1.cells
  have f4 : w1.frozen? ⟨yb, 4, none⟩ = false := by simp [World.frozen?, hP1.cells]
  have hn' : n ≤ 1099511627 := by omega
  have HN := hide hn
  have HP1 := hide hP1
  have HG1 := hide hG1
  have hyl := hP1.lt yb (.inl (.inl rfl))
  have hys := hP1.ys
  have hcl := hP1.cells
  have hseen := hP1.seen
  clear hn hP1 hG1 hb1
  obtain ⟨D, hD⟩ : ∃ D : ByteArray, D = ⟨(sha s.data.toList).toArray⟩ := ⟨_, rfl⟩
  rw [← hD]
  have HD := hide hD
  clear hD
  go_wp2
  go_loop [6] (fun i => ∃ (k : Nat), k ≤ n ∧ i = .int .i64 k) (fun i => n - (intOf i).toNat)
  case atStart => exact ⟨0, by omega, rfl⟩
  case round =>
    obtain ⟨k, hk, rfl⟩ := hrel
    by_cases hlt : k < n
    · obtain ⟨e, he⟩ : ∃ e, N[k]? = some e := ⟨N[k]'(by have := unhide HN; omega), List.getElem?_eq_getElem (by have := unhide HN; omega)⟩
      obtain ⟨g, o, rfl, d0, d1⟩ := hr k e he
      have i1 : (0 : Int) ≤ (k : Int) := by omega
      have i2 : (k : Int) < (n : Int) := by omega
      clear he hseen
      cases g1 : (e.name.toList == D.toList) with
      | true =>
        cases g2 : (e.data.toList == s.toList) with
        | true =>
          cases c with
          | true =>
            go_wp2_with fail
            go_ret
            obtain ⟨hP2, hG2⟩ := (unhide HP1).set_coll (c' := true)
            have eD := unhide HD
            subst eD
            exact ⟨rfl, ⟨_, _, _, hP2, (unhide HG1).trans hG2, by omega⟩⟩
          | false =>
            go_wp2_with fail
            go_ret
            obtain ⟨hP2, hG2⟩ := (unhide HP1).set_coll (c' := false)
            have eD := unhide HD
            subst eD
            exact ⟨rfl, ⟨_, _, _, hP2, (unhide HG1).trans hG2, by omega⟩⟩
        | false =>
          cases c with
          | true =>
            go_wp2_with fail
            go_ret
            obtain ⟨hP2, hG2⟩ := (unhide HP1).set_coll (c' := true)
            have eD := unhide HD
            subst eD
            exact ⟨rfl, ⟨_, _, _, hP2, (unhide HG1).trans hG2, by omega⟩⟩
          | false =>
            go_wp2_with fail
            go_ret
            obtain ⟨hP2, hG2⟩ := (unhide HP1).set_coll (c' := true)
            have eD := unhide HD
            subst eD
            exact ⟨rfl, ⟨_, _, _, hP2, (unhide HG1).trans hG2, by omega⟩⟩
      | false =>
        go_wp2_with fail
        go_round
        case rel => first | exact ⟨k + 1, by omega, by go_num⟩ | ((repeat apply Exists.intro); exact ⟨⟨k + 1, by omega, by go_num⟩, rfl⟩)
        case measure => simp [intOf]; omega
    · have hNl : N.length ≤ 1099511627 := hN
      go_wp2_with (at_builtin; refine wpList_append_lies _ rfl _ _ _ rfl 0 68 i0 _ 2 32 Tryz.underlying22 hi hz0 hz1 hz2 rfl (by decide) _ N.length (blC N) rfl (World.ownsRow.alloc hseen _) ⟨w1.heap.size, 0, none⟩ 1 1 (Blb.cells ⟨D, s⟩) rfl rfl (World.news_of_block (cs := #[.string D, .string s]) (t := 68) (fr := (0, 0)) (heap_alloc_new _ _)) (bl_one ⟨D, s⟩) (by omega) (by unfold maxLen; omega) (by omega) (by omega) (w1.heap.size + 1) (by simp) ?_; intro gg cp1 w3 hown1 hgrow hlies hgl; have hs1 := (one_old' hgrow hyl hys).trans hcl; have k2 := cell_of_row _ _ 3 _ _ _ hs1; have f2 : w3.frozen? ⟨yb, 3, none⟩ = false := by simp [World.frozen?, hs1])
      go_ret
      obtain ⟨hP2, hG2⟩ := (unhide HP1).more_seen hown1 hgrow hlies
      have eD := unhide HD
      subst eD
      exact ⟨rfl, ⟨_, _, _, hP2, (unhide HG1).trans hG2, by simp⟩⟩
end Go.Proofs.YtpiponkhhimaoaaGreatDoor
