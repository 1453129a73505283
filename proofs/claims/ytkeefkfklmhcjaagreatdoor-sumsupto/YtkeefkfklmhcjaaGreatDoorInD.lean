import Derived.Test.YtkeefkfklmhcjaaGreatDoorJSumA
import Derived.Test.YtkeefkfklmhcjaaGreatDoorInQ
namespace Go.Proofs.YtkeefkfklmhcjaaGreatDoor
open Go.RowKit Go.Maps Go.Shelf
attribute [local go_sem] Oper.semAt_some

theorem flat_len {α : Type} {f : α → List UInt8} {c : Nat} (l : List α) (h : ∀ y, (f y).length ≤ c) : (l.map f).flatten.length ≤ l.length * c := by
  induction l with
  | nil => simp
  | cons a t ih =>
    have := h a
    simp only [List.map_cons, List.flatten_cons, List.length_append, List.length_cons, Nat.add_mul]
    omega
theorem keepsOthers_of {b : Nat} {W W' : World} {c : Array Value} {t : TypeId} {fz : Nat × Nat} (h : Lib.OthersKept 5 (some b) W W') (hs : W.heap.size ≤ W'.heap.size) (hb : W.heap[b]? = some (.cells c t fz)) : KeepsOthers W W' :=
  ⟨hs, fun k o hk ho => h k o hk (fun e => by cases e; rw [hb] at hk; cases hk; cases ho) (fun c' fz' e => by subst e; cases ho)⟩
/-- The law over a range, the frame of a round written out of the frame at hand. -/
theorem range2 {F : Fence} {n : Nat} {P : Program} {α : Type} {g : Operand} {ps : Array Tmp} {assign body : Code} {Q : Exit → Act → World → Prop} {a : Act} {w : World} (v1 v2 : α → Value)
    (hro : F.round = none) (h1 : 1 ≤ n) {gf : Nat} {lb : Array Value} (hg : a.eval g = .func (.func gf) #[] lb) (hFg : F.fn gf) (eg : ∀ args w, (callFunc gf args).run P w = .ok (.enter gf args) w)
    {encs : α → Array Value} {Kp : World → World → Prop} {S Sp : List α → Prop} {N : Nat} {w0 : World} (hseq : SeqStopsK F (n - 1) P gf lb encs Kp S Sp N w0)
    (hKt : ∀ {A B C : World}, Kp A B → Kp B C → Kp A C) (hKb : ∀ (W : World) (l : Nat) (o o' : Obj), w.heap.size ≤ l → W.heap[l]? = some o → o.isCells = false → o.isWalk = false → Kp W (W.putObj l o')) (hb0 : Below w0.heap.size w0 w) (hps : ∀ x, (encs x).size = ps.size)
    (I : List α → World → Prop) (hI : OwnFrom w.heap.size I) (h0 : I [] w)
    (hassign : ∀ (l : Nat) (x : α) (W : World) (K : Act → World → Prop), K { tmps := (((a.tmps.setIfInBounds 55 (v1 x)).setIfInBounds 56 (v2 x)).setIfInBounds 4 (v1 x)).setIfInBounds 5 (v2 x), defers := [] } W →
      assign.wpIn (F.inRound l) (n - 1 - 1) P (Exit.then K (fun _ _ _ => False)) { tmps := (ps.zip (encs x)).foldl (fun t (p, v) => t.setIfInBounds p v) a.tmps, defers := [] } W)
    (hbody : ∀ (l : Nat) (pre : List α) (x : α) (W : World), I pre W → pre.length < N → body.wpIn (F.inRound l) (n - 1 - 1) P (ownPostK Kp I (fun _ _ _ => False) (pre ++ [x]) W) { tmps := (((a.tmps.setIfInBounds 55 (v1 x)).setIfInBounds 56 (v2 x)).setIfInBounds 4 (v1 x)).setIfInBounds 5 (v2 x), defers := [] } W)
    (hdone : ∀ (D : Nat) (xs : List α) (W : World), w.heap.size ≤ D → S xs → I xs W → W.heap[D]? = some (.deferred (some [])) → Q .normal { a with defers := { target := .collected D, args := #[] } :: a.defers } W) :
    (Code.rangeFunc g ps assign body).wpIn F n P Q a w :=
  wpIn_rangeFunc_ownF hro h1 hg hFg eg hseq hKt hKb hb0 hps I (fun _ _ _ => False) hI (fun _ _ _ _ _ h _ _ => h.elim) h0 _ hassign hbody hdone (fun _ _ _ _ _ _ h _ => h.elim)
theorem link_any (nb : Nat) (pth data : ByteArray) (m mp : Value) (w : World) (hc : w.heap[nb]? = some (.cells #[.string pth, .int .i64 3, m, .string data, mp] 102 (0, 0))) (hd : data.size ≤ 1048576) :
    Calls Tryz.prog 71 #[.pointer (some ⟨nb, 0, none⟩)] w fun ev w' => ∃ s : ByteArray, ev = .returned (.string s) ∧ Hid (s.data.toList = [108, 105, 110, 107, 32] ++ data.data.toList) ∧ Below w.heap.size w w' := by
  have c1 : w.cell? ⟨nb, 1, none⟩ = some (.int .i64 3) := cell_of_row _ _ 1 _ _ _ hc
  have c3 : w.cell? ⟨nb, 3, none⟩ = some (.string data) := cell_of_row _ _ 3 _ _ _ hc
  have n1 : ¬ 9223372036854775807 < 5 + data.size := by omega
  clear hc
  go_enter Tryz.func71, Tryz.ntmps71
  go_wp2
  go_ret
  refine ⟨_, rfl, hide ?_, Below.refl _ _⟩
  simp
set_option maxHeartbeats 2000000 in
set_option maxRecDepth 100000 in
theorem dir_any (B m : Nat) (r x : Nd) (ns : List Nd) (S : Nd → List UInt8) (w : World) (hx : x ∈ r :: ns) (hM : Mem w B r ns) (HO : Hid (OkTo (entsN ns) ns.length)) (HS : Hid (∀ y ∈ ns, y.ent.path.size ≤ 1048576)) (hN : ns.length ≤ 1000) (ht : Tabs w)
    (hk : x.ent.kind = 1) (hmm : x.ent.mode = (m : Int)) (hm : m < 512) (HL : Hid (∀ y ∈ kidsX ns x.p, (S y).length = 64))
    (ih : ∀ y ∈ kidsX ns x.p, ∀ W : World, Mem W B r ns → Tabs W → Calls Tryz.prog 46 #[.pointer (some ⟨y.nb, 0, none⟩)] W fun ev w' => ∃ s : ByteArray, ev = .returned (.string s) ∧ Hid (s.data.toList = S y) ∧ Below W.heap.size W w') :
    Calls Tryz.prog 71 #[.pointer (some ⟨x.nb, 0, none⟩)] w fun ev w' => ∃ s : ByteArray, ev = .returned (.string s) ∧ Hid (s.data.toList = [100, 105, 114, 32] ++ octL m ++ [10] ++ ((kidsX ns x.p).map fun y => nameOf y.p ++ [32] ++ S y ++ [10]).flatten) ∧ Below w.heap.size w w' := by
  obtain ⟨g1, g2, g3, g4⟩ := hM.all x hx
  have c1 : w.cell? ⟨x.nb, 1, none⟩ = some (.int .i64 1) := (cell_of_row _ _ 1 _ _ _ g3).trans (by rw [← hk]; rfl)
  have hb0 : Below w.heap.size w (w.alloc (.cells #[.pointer none, .slice none 0 0] 132)) := (Below.refl _ _).alloc (Nat.le_refl _) _
  have c2 : (w.alloc (.cells #[.pointer none, .slice none 0 0] 132)).cell? ⟨x.nb, 2, none⟩ = some (.int .i64 (m : Int)) := cell_later hb0 ((cell_of_row _ _ 2 _ _ _ g3).trans (by rw [← hmm]; rfl))
  have HT := hide ht
  have HT0 := hide (ht.below hb0)
  have HB0 := hide (bldF_new w)
  have HM := hide hM
  have hf52 : Fence.wide.fn 111 := trivial
  have hf54 : Fence.wide.fn 91 := trivial
  have hf55 : Fence.wide.fn 113 := trivial
  have hf56 : Fence.wide.fn 94 := trivial
  clear ht hM
  refine (callsIn_wide (n := 6)).1 ?_
  refine callsIn_of_wp_marks Tryz.func71 rfl trivial ?_ rfl
  simp only [Tryz.ntmps71, List.size_toArray, List.length_cons, List.length_nil, Nat.reduceAdd, Nat.reduceSub, Array.replicate_succ, Array.replicate_zero, List.push_toArray, List.append_toArray, List.nil_append, List.cons_append]
  gi_wp2_with (first
    | (gi_at_call 111; refine (callsIn_wide.2 (oct_any m _ (by omega) (unhide HT0).bru)).mono ?_; rintro e w1 ⟨s1, rfl, HS1, hb1⟩; have z1 : s1.size ≤ 600 := oct_size HS1 hm; have n1 : ¬ 9223372036854775807 < 4 + s1.size := (by omega); have n2 : ¬ 9223372036854775807 < 4 + s1.size + 1 := (by omega))
    | (gi_at_call 91; refine (callsIn_wide.2 (wsF _ _ _ _ _ ((unhide HB0).later hb1) (by simp only [ByteArray.size_append]; show 0 + (4 + s1.size + 1) ≤ 4294967296; omega))).mono ?_; rintro e w2 ⟨rfl, HBl, hb2, hk2⟩)
    | (gi_at_call 113; refine (callsIn_wide.2 (inside_any _ _)).mono ?_; rintro e w3 ⟨rfl, rfl⟩))
  have hbw1 : Below w.heap.size w w1 := hb0.trans (hb1.mono (by simp))
  have hbw2 : Below w.heap.size w w2 := hbw1.trans hb2
  have hbw3 : Below w.heap.size w (w2.alloc (.cells #[.pointer (some ⟨x.nb, 0, none⟩)] 79)) := hbw2.alloc hbw2.size _
  have HB3 : Hid (BldF w.heap.size w.heap.size ([100, 105, 114, 32] ++ octL m ++ [10]) (w2.alloc (.cells #[.pointer (some ⟨x.nb, 0, none⟩)] 79))) := hide (by
    have h := HBl.later ((Below.refl _ w2).alloc (Nat.le_refl _) (.cells #[.pointer (some ⟨x.nb, 0, none⟩)] 79))
    have e : [] ++ ((⟨#[100, 105, 114, 32]⟩ : ByteArray) ++ s1 ++ ⟨#[10]⟩).data.toList = [100, 105, 114, 32] ++ octL m ++ [10] := by simp [unhide HS1]
    rw [e] at h; exact h)
  have hz : w.heap.size ≤ w2.heap.size := hbw2.size
  have hw2 : w.heap.size < w2.heap.size := by have := hb1.size; have := hb2.size; simp at *; omega
  have hnb : x.nb < w.heap.size := (Array.getElem?_eq_some_iff.1 g3).1
  have hmb : x.mb < w.heap.size := World.ownsMap.lt g4
  have hlz : ((kidsX ns x.p)).length ≤ 1000 := Nat.le_trans (List.length_filter_le _ _) hN
  clear HBl HB0 HT0 c2 hk2 hb2 n1 n2 z1
  refine range2 (fun y => .string (nm y.1)) (fun y => .pointer (some ⟨y.1.nb, 0, none⟩)) rfl (by omega) (gf := 145) (lb := #[.pointer (some ⟨w2.heap.size, 0, none⟩)]) rfl trivial (enters_of Tryz.func145 (by kernel_rfl) rfl)
    (Q.inside_stops 5 (by omega) w2.heap.size w.heap.size B r x ns _ hx ((unhide HM).below hbw3) HO HS hN (heap_alloc_new _ _) (by omega) (by omega) (by omega) (by simp; omega)) Q.Kq.trans (fun W l o o' _ h h1 h2 => Q.Kq.put W l o o' h h1 h2) (Below.refl _ _) (fun _ => rfl)
    (fun pre W => BldF w.heap.size w.heap.size ([100, 105, 114, 32] ++ octL m ++ [10] ++ (pre.map fun y => nameOf y.1.p ++ [32] ++ S y.1 ++ [10]).flatten) W ∧ Below w.heap.size w W)
    (OwnFrom.and (fun s A W' row hs hg hr => hs.row hg (fun r e => (hr r e).2)) (ownFrom_below (Nat.le_refl _) (by simp; omega)))
    ⟨by simpa using unhide HB3, hbw3⟩ ?assign ?body ?done
  case assign =>
    intro l y W K hK
    unfold encK
    gi_wp2
    simpa using hK
  case body =>
    rintro l pre y W ⟨hB, hW⟩ hl
    have hnz : (nm y.1).size ≤ 1048576 := by
      have e1 := name_le y.1.p
      have e2 := unhide HS y.1 (kidsX_mem y.2).1
      have e3 : y.1.p.length = y.1.ent.path.size := Array.length_toList
      have e4 : (nm y.1).size = (nameOf y.1.p).length := rfl
      omega
    have hfl : (pre.map fun y => nameOf y.1.p ++ [32] ++ S y.1 ++ [10]).flatten.length ≤ pre.length * 1048700 := flat_len pre (fun z => by
      have e1 := name_le z.1.p
      have e2 := unhide HS z.1 (kidsX_mem z.2).1
      have e3 : z.1.p.length = z.1.ent.path.size := Array.length_toList
      have e5 := unhide HL z.1 z.2
      simp only [List.length_append, List.length_cons, List.length_nil]
      omega)
    have n1 : ¬ 9223372036854775807 < (nm y.1).size + 1 := by omega
    have hoc := octL_len m
    have HIH := hide (ih y.1 y.2 W ((unhide HM).below hW) ((unhide HT).below hW))
    have HBh := hide hB
    obtain ⟨pb, vb, hbc⟩ := hB.cells
    have hf17 : (Fence.wide.inRound l).fn 46 := trivial
    clear hB
    gi_wp2_with (first
      | (refine ⟨trivial, ?_⟩; gi_at_call 46; refine (CallsIn.inRound l (callsIn_wide.2 (unhide HIH))).mono ?_; rintro e w4 ⟨s4, rfl, HS4, hb4⟩; have z4 : s4.size = 64 := (by rw [← unhide HL y.1 y.2, ← unhide HS4]; exact Array.length_toList.symm); have n2 : ¬ 9223372036854775807 < (nm y.1).size + 1 + s4.size := (by omega); have n3 : ¬ 9223372036854775807 < (nm y.1).size + 1 + s4.size + 1 := (by omega))
      | (gi_at_call 91; refine (CallsIn.inRound l (callsIn_wide.2 (wsF _ _ _ _ _ ((unhide HBh).later hb4) (by simp only [ByteArray.size_append, List.length_append, List.length_cons, List.length_nil]; show _ + ((nm y.1).size + 1 + s4.size + 1) ≤ 4294967296; omega)))).mono ?_; rintro e w5 ⟨rfl, HB5, hb5, hk5⟩))
    have hk4 : Lib.OthersKept 5 (some w.heap.size) W w4 := fun k o h1 _ _ => (hb4.block k (Array.getElem?_eq_some_iff.1 h1).1).trans h1
    have hk45 := hk4.trans hk5
    have hW4 : Below w.heap.size w w4 := hW.trans (hb4.mono hW.size)
    refine ⟨keepsOthers_of hk45 (Nat.le_trans hb4.size hb5.size) hbc, Q.Kq.kept hk45, ?_, hW4.trans hb5⟩
    have e : (100 :: 105 :: 114 :: 32 :: (octL m ++ [10] ++ ((pre ++ [y]).map fun y => nameOf y.1.p ++ [32] ++ S y.1 ++ [10]).flatten)) = [100, 105, 114, 32] ++ octL m ++ [10] ++ (pre.map fun y => nameOf y.1.p ++ [32] ++ S y.1 ++ [10]).flatten ++ (nm y.1 ++ ⟨#[32]⟩ ++ s4 ++ ⟨#[10]⟩).data.toList := by
      simp [unhide HS4, nm]
    have h := HB5
    rw [← e] at h
    exact h
  case done =>
    rintro D xs W hD rfl ⟨hB, hW⟩ hK
    obtain ⟨pb, vb, hbc⟩ := hB.cells
    gi_wp2_with (gi_at_call 94; refine (callsIn_wide.2 (stF _ _ _ _ hB)).mono ?_; rintro e w6 ⟨rfl, hb6, hk6⟩)
    have hK6 : w6.heap[D]? = some (.deferred (some [])) := hk6 D _ hK (fun e => by cases e; simp at hD; omega) (fun c fz e => by cases e)
    refine ⟨by simp, .inl ⟨_, _, rfl, run_takeDeferred hK6, ?_⟩⟩
    refine ⟨_, results_tmp rfl _ _ _, ?_⟩
    refine ⟨_, rfl, hide (by simp), (hW.trans hb6).trans (belowK_b (w := w) (Nat.le_refl _) w6 D _ _ (by simp at hD; omega) hK6 rfl rfl)⟩
end Go.Proofs.YtkeefkfklmhcjaaGreatDoor
