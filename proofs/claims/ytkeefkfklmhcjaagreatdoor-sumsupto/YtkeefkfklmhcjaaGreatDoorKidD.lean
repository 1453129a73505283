import Derived.Test.YtkeefkfklmhcjaaGreatDoorKidC
namespace Go.Proofs.YtkeefkfklmhcjaaGreatDoor
open Go.RowKit Go.Maps

theorem keep_grown {w w' : World} {a : Addr} {v : Value} {b : Nat} (hg : w.grownBy w' (some b)) (hc : w.cell? a = some v) (hne : a.block ≠ b) : w'.cell? a = some v :=
  hg.cell hc (by simpa using hne)

theorem ne_mb {w : World} {b n g h : Nat} {L : List (List UInt8 × Nat)} {cs cs' : Array Value} {t t' : TypeId} {f f' : Nat × Nat} (hk : KM w b n L) (h1 : w.heap[g]? = some (.cells cs t f)) (h2 : w.heap[h]? = some (.cells cs' t' f')) : g ≠ b ∧ h ≠ b := by
  obtain ⟨es, clock, hm, _⟩ := hk
  constructor
  · intro e; rw [e, hm] at h1; cases h1
  · intro e; rw [e, hm] at h2; cases h2
theorem dir_le (p : List UInt8) : (dirOf p).length ≤ p.length := by
  by_cases h : 47 ∈ p
  · obtain ⟨a, b, rfl, hb⟩ := last_slash h
    rw [(dir_at hb).1]; simp
  · rw [(dir_no h).1]; simp
/-- All blocks of cells stay. -/
def KeepC (w w' : World) : Prop := ∀ (g : Nat) (cs : Array Value) (t : TypeId) (f : Nat × Nat), w.heap[g]? = some (Obj.cells cs t f) → w'.heap[g]? = some (Obj.cells cs t f)
theorem keepC_below {w w' : World} (h : Below w.heap.size w w') : KeepC w w' := fun g _ _ _ hg => (h.block g (Array.getElem?_eq_some_iff.1 hg).1).trans hg
theorem keepC_map {w w' : World} {b n : Nat} {L : List (List UInt8 × Nat)} (hk : KM w b n L) (hg : w.grownBy w' (some b)) : KeepC w w' := fun g cs t f hc => by
  have hne := (ne_mb hk hc hc).1
  exact (hg.block g (Array.getElem?_eq_some_iff.1 hc).1 (by simpa using hne)).trans hc
theorem KeepC.trans {a b c : World} (h1 : KeepC a b) (h2 : KeepC b c) : KeepC a c := fun g cs t f h => h2 g cs t f (h1 g cs t f h)
attribute [local go_sem] setCell_drewN alloc_drewN

theorem isDir_nil (w : World) : Calls Tryz.prog 106 #[.pointer none] w fun ev w' => ev = .returned (.bool false) ∧ w' = w := by
  go_enter Tryz.func106, Tryz.ntmps106
  go_wp2
  go_ret
  exact ⟨rfl, rfl⟩
theorem isDir_at (b : Nat) (k : Int) (w : World) (hc : w.cell? ⟨b, 1, none⟩ = some (.int .i64 k)) : Calls Tryz.prog 106 #[.pointer (some ⟨b, 0, none⟩)] w fun ev w' => ev = .returned (.bool (decide (k = 1))) ∧ w' = w := by
  go_enter Tryz.func106, Tryz.ntmps106
  go_wp2
  go_ret
  exact ⟨by by_cases h : k = 1 <;> simp [h], rfl⟩
theorem Ahead.fresh {r : Nd} {ns : List Nd} {e : Ent} (h : Ahead r ns e) {p : List UInt8} (hd : dirOf e.path.data.toList = p) {nn : ByteArray} (hn : nn.data.toList = nameOf e.path.data.toList) {w : World} {b n : Nat} (hk : KM w b n (kidsN ns p)) (hs : nn.size ≤ 1048576) :
    (Instr.lookup 100 (.map (some b)) (.string nn) false).run Tryz.prog w = .ok (.pointer none) w := by
  rcases hk.look nn (by omega) false with ⟨hrun, _⟩ | ⟨q, hq, _⟩
  · exact hrun
  · have h1 := Ahead.less (y := ⟨e, 0, 0⟩) h hd _ hq
    rw [show nameOf (Nd.p ⟨e, 0, 0⟩) = nn.data.toList from hn.symm, bl_irr] at h1
    cases h1
set_option maxHeartbeats 2000000 in
set_option maxRecDepth 100000 in
theorem add_any (r : Nd) (ns : List Nd) (B : Nat) (e : Ent) (m : Int) (w : World) (hM : Mem w B r ns) (HA : Hid (Ahead r ns e)) (hn : ns.length ≤ 40) (hB : B ≤ w.heap.size) (hs : e.path.size ≤ 1048576) (hm : w.cell? ⟨15, 0, none⟩ = some (.int .i64 m)) (_ : 15 < B) :
    Calls Tryz.prog 69 #[.pointer (some ⟨r.nb, 0, none⟩), .agg #[.string e.path, .int .i64 e.kind, .int .i64 e.mode, .string e.data]] w fun ev w' => ∃ b : Bool, ev = .returned (.bool b) ∧ Hid (b = decide (kindP (entsN ns) (dirOf e.path.data.toList) = 1)) ∧ Hid (b = true → ∃ y : Nd, y.ent = e ∧ Mem w' B r (ns ++ [y])) ∧ Hid (KeepC w w') ∧ Below B w w' := by
  have HM := hide hm
  have HMem := hide hM
  have HB := hide hB
  have hB0 : ∀ o, Below w.heap.size w (w.alloc o) := fun o => (Below.refl _ _).alloc (Nat.le_refl _) o
  clear hm hM hB
  go_enter Tryz.func69, Tryz.ntmps69
  go_upto_region 2 with (go_at_call 105; refine (last_any e.path _ (by omega)).mono ?_; rintro ev w1 ⟨dd, nn, rfl, HD, HNm, hb1⟩)
  have hB1 : Below w.heap.size w w1 := (hB0 _).trans (hb1.mono (by simp))
  have hq := (hb1.block w.heap.size (by simp)).trans (heap_alloc_new _ _)
  have hdd : dd.size ≤ 1048576 := by rw [Lib.size_eq, unhide HD]; exact Nat.le_trans (dir_le _) (by rw [← Lib.size_eq]; exact hs)
  have hnn : nn.size ≤ 1048576 := by rw [Lib.size_eq, unhide HNm]; exact Nat.le_trans (name_le _) (by rw [← Lib.size_eq]; exact hs)
  have HQ := hide hq
  clear hq hb1
  go_upto_region 3 with (go_at_call 79; refine (find_any r ns B dd m _ ((unhide HMem).below hB1) (hide (unhide HA).ok) hdd (cell_later hB1 (unhide HM))).mono ?_; rintro ev w2 ⟨v, rfl, HF, hb2⟩)
  have hB2 : Below w.heap.size w w2 := hB1.trans (hb2.mono hB1.size)
  have hq2 : w2.heap[w.heap.size]? = some (.cells #[.string e.path, .int .i64 e.kind, .int .i64 e.mode, .string e.data] 56 (0, 0)) := (hb2.block w.heap.size (Array.getElem?_eq_some_iff.1 (unhide HQ)).1).trans (unhide HQ)
  have hM2 := (unhide HMem).below hB2
  have hBz := unhide HB
  rcases find_kind (unhide HA) (unhide HF) with ⟨rfl, hk⟩ | ⟨x, hx, rfl, hxp, hk⟩
  · have C : Hid (false = decide (kindP (entsN ns) (dirOf e.path.data.toList) = 1)) := hide (by rw [← unhide HD]; exact (decide_eq_false hk).symm)
    clear hk HF hM2 hq2 HQ
    go_wp2_with (go_at_call 106; refine (isDir_nil _).mono ?_; rintro ev w3 ⟨rfl, hw⟩; obtain rfl := hw.symm)
    go_ret
    exact ⟨false, rfl, C, hide (by intro h; cases h), hide (keepC_below hB2), hB2.mono hBz⟩
  · obtain ⟨hx1, hx2, hx3, hx4⟩ := hM2.all x hx
    have c1 : w2.cell? ⟨x.nb, 1, none⟩ = some (.int .i64 x.ent.kind) := cell_of_row w2 x.nb 1 _ _ _ hx3
    have c4 : w2.cell? ⟨x.nb, 4, none⟩ = some (.map (some x.mb)) := cell_of_row w2 x.nb 4 _ _ _ hx3
    have q0 : w2.cell? ⟨w.heap.size, 0, none⟩ = some (.string e.path) := cell_of_row w2 w.heap.size 0 _ _ _ hq2
    have q1 : w2.cell? ⟨w.heap.size, 1, none⟩ = some (.int .i64 e.kind) := cell_of_row w2 w.heap.size 1 _ _ _ hq2
    have q2 : w2.cell? ⟨w.heap.size, 2, none⟩ = some (.int .i64 e.mode) := cell_of_row w2 w.heap.size 2 _ _ _ hq2
    have q3 : w2.cell? ⟨w.heap.size, 3, none⟩ = some (.string e.data) := cell_of_row w2 w.heap.size 3 _ _ _ hq2
    by_cases k1 : x.ent.kind = 1
    · have C : Hid (true = decide (kindP (entsN ns) (dirOf e.path.data.toList) = 1)) := hide (by rw [← unhide HD, hk, k1]; rfl)
      have k2 : (x.ent.kind == 1) = true := by simp [k1]
      rw [k1] at c1
      have HX := hide hx
      have HXp := hide hxp
      have HX4 := hide hx4
      have HM2 := hide hM2
      have HX3 := hide hx3
      have HQ2 := hide hq2
      have hlk := Ahead.fresh (unhide HA) (by rw [hxp]; exact (unhide HD).symm) (unhide HNm) hx4 hnn
      clear hx hxp hx4 hM2 hk HF hx3 hq2 hx1 hx2
      go_upto_region 5 with (go_at_call 106; refine (isDir_at _ _ _ c1).mono ?_; rintro ev w3 ⟨rfl, hw⟩; obtain rfl := hw.symm)
      go_upto_region 8 with (go_at_call 106; refine (isDir_nil _).mono ?_; rintro ev w3 ⟨rfl, hw⟩; obtain rfl := hw.symm)
      go_region_held3 (fun w' => w'.cell? ⟨x.nb, 4, none⟩ = some (.map (some x.mb)) ∧ w'.cell? ⟨w.heap.size, 0, none⟩ = some (.string e.path) ∧ w'.cell? ⟨w.heap.size, 1, none⟩ = some (.int .i64 e.kind) ∧ w'.cell? ⟨w.heap.size, 2, none⟩ = some (.int .i64 e.mode) ∧ w'.cell? ⟨w.heap.size, 3, none⟩ = some (.string e.data))
        (first | exact ⟨keep_grown hg6 p4 (unhide HNE).1, keep_grown hg6 p0 (unhide HNE).2, keep_grown hg6 p1 (unhide HNE).2, keep_grown hg6 p2 (unhide HNE).2, keep_grown hg6 p3 (unhide HNE).2⟩ | exact ⟨p4, p0, p1, p2, p3⟩ | go_keep)
        (first | (go_at_call 99; refine (newNode_any e _).mono ?_; rintro ev w5 ⟨nb, mb, rfl, hnb, hmb, HN5, hb5⟩; have p4 := cell_later (chain0 hb5) c4; have p0 := cell_later (chain0 hb5) q0; have p1 := cell_later (chain0 hb5) q1; have p2 := cell_later (chain0 hb5) q2; have p3 := cell_later (chain0 hb5) q3; obtain ⟨w6, hrun6, hown6, hg6⟩ := World.ownsMap.update ((unhide HX4).below (chain0 hb5)) (Maps.string_keyed Tryz.underlying9) Tryz.underlying100 (by unfold maxLen; omega) (WideMaps.keyOf_string_mk Tryz.underlying9 (s := nn) (by unfold maxLen; omega)) (show RK (.pointer (some ⟨nb, 0, none⟩)) = some (.lit (.int .i64 (nb : Int)), []) from rfl); have HNE : Hid (x.nb ≠ x.mb ∧ w.heap.size ≠ x.mb) := hide (ne_mb (unhide HX4) (unhide HX3) (unhide HQ2))))
      have hxx := (unhide HM2).all x (unhide HX)
      have R1 : Below B w w5 := (hB2.mono hBz).trans (Below.mono (B' := B) (chain0 hb5) (Nat.le_trans hBz hB2.size))
      have R2 : Below B w w6 := R1.grown hg6 (Nat.le_trans hBz R1.size) (fun q hq => by cases hq; exact hxx.2.1)
      have hdir : dirOf (Nd.p ⟨e, nb, mb⟩) = x.p := by rw [unhide HXp, unhide HD]; rfl
      have R3 : KM w6 x.mb (ns.length + 1) (kidsN ns x.p ++ [(nameOf (Nd.p ⟨e, nb, mb⟩), nb)]) := by
        have h := hown6
        rw [unhide HNm] at h
        unfold KM
        rw [← DK_put (Ahead.less (y := ⟨e, nb, mb⟩) (unhide HA) hdir)]
        exact h
      have hz2 : B ≤ w2.heap.size := Nat.le_trans hBz hB2.size
      have hnb' : w2.heap.size ≤ nb := hnb
      have hmb' : w2.heap.size ≤ mb := hmb
      have R4 : Mem w6 B r (ns ++ [⟨e, nb, mb⟩]) := Mem.add ((unhide HM2).below (chain0 hb5)) (unhide HX) (y := ⟨e, nb, mb⟩) (Nat.le_trans hz2 hnb') (Nat.le_trans hz2 hmb') (unhide HN5).1 (unhide HN5).2
        (fun z hz => by have := World.ownsMap.lt ((unhide HM2).all z hz).2.2.2; show z.mb ≠ mb; omega) R3 hg6 hdir ((unhide HA).uniq (unhide HX)) (Ahead.kids (y := ⟨e, nb, mb⟩) (unhide HA))
      go_wp2_with fail
      go_ret
      exact ⟨true, rfl, C, hide (fun _ => ⟨⟨e, nb, mb⟩, rfl, R4⟩), hide ((keepC_below hB2).trans ((keepC_below (chain0 hb5)).trans (keepC_map ((unhide HX4).below (chain0 hb5)) hg6))), R2⟩
    · have C : Hid (false = decide (kindP (entsN ns) (dirOf e.path.data.toList) = 1)) := hide (by rw [← unhide HD, hk]; exact (decide_eq_false k1).symm)
      have k2 : (x.ent.kind == 1) = false := by simp [k1]
      clear hk HF hM2 hq2 HQ hx hxp
      go_wp2_with (go_at_call 106; refine (isDir_at _ _ _ c1).mono ?_; rintro ev w3 ⟨rfl, hw⟩; obtain rfl := hw.symm)
      go_ret
      exact ⟨false, rfl, C, hide (by intro h; cases h), hide (keepC_below hB2), hB2.mono hBz⟩
end Go.Proofs.YtkeefkfklmhcjaaGreatDoor
