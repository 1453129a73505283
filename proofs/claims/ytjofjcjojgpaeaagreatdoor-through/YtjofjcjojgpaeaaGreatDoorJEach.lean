import Derived.Test.YtjofjcjojgpaeaaGreatDoorJLaw
import Derived.Test.YtjofjcjojgpaeaaGreatDoorJInA
import Derived.RangeFuncBox
import Derived.Maps.AppendAt
namespace Go.Proofs.YtjofjcjojgpaeaaGreatDoor
open Go.RowKit Go.Maps Go.Sort Go.Shelf
attribute [local go_sem] Oper.semAt_some

/-- A tree in memory, none of whose blocks a round turns. -/
def MemA (Bb : Nat) (W : World) (B : Nat) (r : Nd) (ns : List Nd) : Prop := Mem W B r ns ∧ ∀ x ∈ r :: ns, Away Bb W x.nb ∧ Away Bb W x.mb
theorem MemA.kc {Bb B : Nat} {W W' : World} {r : Nd} {ns : List Nd} (h : MemA Bb W B r ns) (hk : Kc Bb W W') : MemA Bb W' B r ns := by
  refine ⟨⟨h.1.root, fun x hx => ?_, h.1.apart⟩, fun x hx => ⟨hk.away (h.2 x hx).1, hk.away (h.2 x hx).2⟩⟩
  obtain ⟨h1, h2, h3, es, clock, hb, F, hs, hD⟩ := h.1.all x hx
  exact ⟨h1, h2, hk.at (h.2 x hx).1 h3 (.inl rfl), es, clock, hk.at (h.2 x hx).2 hb (.inr rfl), F, hs, hD⟩
theorem flat_pre {ns : List Nd} {f : Nat} {p : List UInt8} (pre : List (Kid ns p)) (y : Kid ns p) : ((pre ++ [y]).map fun k => preX ns f k.1).flatten = (pre.map fun k => preX ns f k.1).flatten ++ preX ns f y.1 := by simp
theorem flat_all (ns : List Nd) (f : Nat) (p : List UInt8) : ((kidsX ns p).attach.map fun k => preX ns f k.1).flatten = ((kidsX ns p).map (preX ns f)).flatten := by
  rw [List.attach_map_val (f := preX ns f)]
theorem pre_pre {ns : List Nd} {f : Nat} {p : List UInt8} {l : List (Kid ns p)} (h : l <+: (kidsX ns p).attach) : (l.map fun k => preX ns f k.1).flatten <+: ((kidsX ns p).map (preX ns f)).flatten := by
  rw [← flat_all]
  obtain ⟨t, e⟩ := h
  rw [← e, List.map_append, List.flatten_append]
  exact List.prefix_append _ _
set_option maxRecDepth 100000 in
set_option maxHeartbeats 2000000 in
theorem each_any (es : List Ent) (B Bb B0 : Nat) (r : Nd) (ns : List Nd) (HE : Hid (entsN ns = es)) (HT : Hid (TreeG es)) (l : Nat) (xs : List Nd) (J : List Nd → World → Prop) (hJ : Stay Bb B0 J)
    (hY : ∀ m pre y W1, J pre W1 → pre ++ [y] <+: xs → YieldAt Fence.wide m Tryz.prog l #[.pointer (some ⟨y.nb, 0, none⟩)] W1 fun e W' => e = .returned (.bool true) ∧ J (pre ++ [y]) W' ∧ KeepsOthers W1 W' ∧ Kc Bb W1 W') :
    ∀ (f : Nat) (x : Nd), x ∈ r :: ns → Hid (Deep es f x.ent) → ∀ (pre : List Nd) (W : World), B0 ≤ W.heap.size → Bb < W.heap.size → MemA Bb W B r ns → J pre W → pre ++ preX ns f x <+: xs →
      Calls Tryz.prog 82 #[.pointer (some ⟨x.nb, 0, none⟩), .func (.yield l) #[] #[]] W fun e W' => e = .returned (.bool true) ∧ J (pre ++ preX ns f x) W' ∧ KeepsOthers W W' ∧ Kc Bb W W' := by
  intro f
  induction f with
  | zero => intro x _ HD; exact absurd rfl (deep_pos (unhide HD))
  | succ f ih =>
    intro x hx HD pre W hB0 hBb hM hj hp
    rw [preX] at hp ⊢
    have hlen : ns.length ≤ 120 := by have := (unhide HT).len; rw [← unhide HE] at this; simpa [entsN] using this
    have HO : Hid (OkTo (entsN ns) ns.length) := hide (by
      have h := (unhide HT).ok
      rw [← unhide HE] at h
      simpa [entsN] using h)
    have HS : Hid (∀ y ∈ ns, y.ent.path.size ≤ 1048576) := hide fun y hy => ((unhide HT).small y.ent (by rw [← unhide HE]; exact List.mem_map.2 ⟨y, hy, rfl⟩)).1
    have HP := hide hp
    have rin : ∀ {s V}, J s V → Bb < V.heap.size → RowIn Bb V := fun {s V} hs hb => ⟨hb, fun k hk => by
      obtain ⟨o, ho, _⟩ := hJ.row s V hs k hk
      exact (Array.getElem?_eq_some_iff.1 ho).1⟩
    -- the two boxes
    obtain ⟨W2, hW2⟩ : ∃ W2, W2 = (W.alloc (.cells #[.func (.yield l) #[] #[]] 145)).alloc (.cells #[.bool false] 4) := ⟨_, rfl⟩
    have b2 : Below W.heap.size W W2 := by rw [hW2]; exact ((Below.refl _ W).alloc (Nat.le_refl _) _).alloc (by simp) _
    have s2 : W2.heap.size = W.heap.size + 2 := by rw [hW2]; simp
    have y2 : W2.heap[W.heap.size]? = some (.cells #[.func (.yield l) #[] #[]] 145 (0, 0)) := by rw [hW2]; exact (Below.heap_alloc _ _ _ (by simp)).trans (heap_alloc_new _ _)
    have r2 : W2.heap[W.heap.size + 1]? = some (.cells #[.bool false] 4 (0, 0)) := by
      have := heap_alloc_new (W.alloc (.cells #[.func (.yield l) #[] #[]] 145)) (.cells #[.bool false] 4)
      rw [World.size_alloc] at this
      rw [hW2]; exact this
    have hj2 : J pre W2 := hJ.go _ _ _ hj (Kept.below b2)
    have HA1 := hide (away_new (g := W.heap.size) (rin hj hBb) b2 (Nat.le_refl _) (by omega))
    have HA2 := hide (away_new (g := W.heap.size + 1) (rin hj hBb) b2 (by omega) (by omega))
    obtain ⟨fn, tmps, assign, body, hy, hR⟩ := hY 5 pre x W2 hj2 (List.IsPrefix.trans ⟨((kidsX ns x.p).map (preX ns f)).flatten, by simp⟩ hp)
    have c1 : W2.cell? ⟨W.heap.size, 0, none⟩ = some (.func (.yield l) #[] #[]) := cell_of_row _ _ 0 _ _ _ y2
    have HM := hide hM
    have HY2 := hide y2
    have HR2 := hide r2
    have hf88 : Fence.wide.fn 72 := trivial
    clear hM y2 r2 hp hj hj2
    refine (callsIn_wide (n := 6)).1 ?_
    refine callsIn_of_wp_marks Tryz.func82 rfl trivial ?_ rfl
    simp only [Tryz.ntmps82, List.size_toArray, List.length_cons, List.length_nil, Nat.reduceAdd, Nat.reduceSub, Array.replicate_succ, Array.replicate_zero, List.push_toArray, List.append_toArray, List.nil_append, List.cons_append]
    gi_wp2
    rw [← hW2, hy]
    clear hy hW2
    gi_wp2
    refine hR.mono ?_
    clear hR
    rintro e W3 ⟨rfl, hj3, hk3, hc3⟩
    gi_wp2_with (gi_at_call 72; refine (callsIn_wide.2 (inside_any _ _)).mono ?_; rintro e w4 ⟨rfl, rfl⟩)
    have s3 := hc3.size
    have hB3 : Bb < W3.heap.size := by omega
    have hcW3 : Kc Bb W W3 := (Kc.below b2 hBb).trans hc3
    have hkW3 : KeepsOthers W W3 := (keeps_below b2).trans hk3
    have hM3 := (unhide HM).kc hcW3
    have rin3 := rin hj3 hB3
    obtain ⟨W4, hW4⟩ : ∃ W4, W4 = W3.alloc (.cells #[.pointer (some ⟨x.nb, 0, none⟩)] 64) := ⟨_, rfl⟩
    have b4 : Below W3.heap.size W3 W4 := by rw [hW4]; exact (Below.refl _ _).alloc (Nat.le_refl _) _
    have s4 : W4.heap.size = W3.heap.size + 1 := by rw [hW4]; simp
    have x4 : W4.heap[W3.heap.size]? = some (.cells #[.pointer (some ⟨x.nb, 0, none⟩)] 64 (0, 0)) := by rw [hW4]; exact heap_alloc_new _ _
    have hj4 : J (pre ++ x :: ([].map fun k : Kid ns x.p => preX ns f k.1).flatten) W4 := hJ.go _ _ _ hj3 (Kept.below b4)
    have hc4 : Kc Bb W3 W4 := Kc.below b4 hB3
    have hcW4 := hcW3.trans hc4
    have hkW4 := hkW3.trans (keeps_below b4)
    have hM4 := hM3.kc hc4
    have rin4 := rin hj4 (by omega)
    have aX := away_new (g := W3.heap.size) rin3 b4 (Nat.le_refl _) (by omega)
    have y4 := (hc3.trans hc4).at (unhide HA1) (unhide HY2) (.inl rfl)
    have r4 := (hc3.trans hc4).at (unhide HA2) (unhide HR2) (.inl rfl)
    have a1 := (hc3.trans hc4).away (unhide HA1)
    have a2 := (hc3.trans hc4).away (unhide HA2)
    rw [← hW4]
    clear hj3 hk3 hc3 hM3 c1 rin3 hW4
    refine range_all (Bb := Bb) (α := Kid ns x.p) rfl (by omega) (gf := 96) (lb := #[.pointer (some ⟨W3.heap.size, 0, none⟩)]) rfl trivial (enters_of Tryz.func96 (by kernel_rfl) rfl)
      (inside_all 5 (by omega) W3.heap.size Bb B r x ns W4 hx hM4.1 HO HS (by omega) x4 aX (hM4.2 x hx).1 (hM4.2 x hx).2 rin4) (by omega) (Below.refl _ _) (fun _ => rfl)
      (fun p V => J (pre ++ x :: (p.map fun k => preX ns f k.1).flatten) V ∧ Kc Bb W4 V ∧ KeepsOthers W4 V)
      ⟨fun s V V' hs hk => ⟨hJ.go _ _ _ hs.1 (hk.mono (by omega)), hs.2.1.kept (by omega) hk (Nat.le_refl _), keeps_kept hs.2.2 hk (Nat.le_refl _)⟩, fun s V hs => hJ.row _ _ hs.1⟩
      ⟨hj4, Kc.refl _ _, KeepsOthers.refl _⟩ (fun t k => ((t.setIfInBounds 13 (.string (nm k.1))).setIfInBounds 14 (.pointer (some ⟨k.1.nb, 0, none⟩))).setIfInBounds 6 (.pointer (some ⟨k.1.nb, 0, none⟩))) ?assign ?body ?done
    case assign =>
      intro l' y V K hK
      unfold encK
      gi_wp2
      simpa using hK
    case body =>
      rintro l' p y V ⟨hjv, hcv, hkv⟩ hpp
      have hk := kidsX_mem y.2
      have hdk : Deep es f y.1.ent := deep_kid (unhide HT).ok (unhide HD) (by
        rw [← unhide HE]
        show y.1.ent ∈ kidsE (entsN ns) x.p
        rw [kidsE_eq]
        exact List.mem_map.2 ⟨y.1, y.2, rfl⟩)
      have hpx : pre ++ x :: (p.map fun k => preX ns f k.1).flatten ++ preX ns f y.1 <+: xs := by
        refine List.IsPrefix.trans ?_ (unhide HP)
        obtain ⟨t, ht⟩ := pre_pre (f := f) hpp
        exact ⟨t, by rw [← ht, flat_pre]; simp⟩
      have sv := hcv.size
      have HIH := hide (ih y.1 (List.mem_cons_of_mem _ hk.1) (hide hdk) (pre ++ x :: (p.map fun k => preX ns f k.1).flatten) V (by omega) (by omega) (hM4.kc hcv) hjv hpx)
      have cy : V.cell? ⟨W.heap.size, 0, none⟩ = some (.func (.yield l) #[] #[]) := cell_of_row _ _ 0 _ _ _ (hcv.at a1 y4 (.inl rfl))
      have hf106 : (Fence.wide.inRound l').fn 82 := trivial
      clear ih hpx hpp hdk
      gi_wp2_with (refine ⟨trivial, ?_⟩; gi_at_call 82; refine (CallsIn.inRound l' (callsIn_wide.2 (unhide HIH))).mono ?_; rintro e V2 ⟨rfl, hj5, hk5, hc5⟩)
      refine ⟨hk5, hc5, ?_, hcv.trans hc5, hkv.trans hk5⟩
      rw [flat_pre]
      simpa using hj5
    case done =>
      rintro D V hD ⟨hjv, hcv, hkv⟩ hK
      have cr := hcv.at a2 r4 (.inl rfl)
      have sv := hcv.size
      have c1 : V.cell? ⟨W.heap.size + 1, 0, none⟩ = some (.bool false) := cell_of_row _ _ 0 _ _ _ cr
      have c2 : V.frozen? ⟨W.heap.size + 1, 0, none⟩ = false := by simp [World.frozen?, cr]
      gi_wp2
      have hK2 : (V.setCell ⟨W.heap.size + 1, 0, none⟩ (.bool true)).heap[D]? = some (.deferred (some [])) := (KeepsOthers.setCell V ⟨W.heap.size + 1, 0, none⟩ (.bool true)).same D _ hK rfl
      have c3 : ((V.setCell ⟨W.heap.size + 1, 0, none⟩ (.bool true)).putObj D (.deferred none)).cell? ⟨W.heap.size + 1, 0, none⟩ = some (.bool true) := by
        rw [cell_put _ (by show W.heap.size + 1 ≠ D; omega)]
        exact World.cell?_setCell_same' _ _ _ (by rw [c1]; rfl)
      have av := hcv.away a2
      have j1 : J (pre ++ x :: ((kidsX ns x.p).map (preX ns f)).flatten) (V.setCell ⟨W.heap.size + 1, 0, none⟩ (.bool true)) := by
        rw [← flat_all]
        exact hJ.go _ _ _ hjv (Kept.set _ (by show B0 ≤ W.heap.size + 1; omega) av.2.1 av.2.2)
      have j2 : J (pre ++ x :: ((kidsX ns x.p).map (preX ns f)).flatten) ((V.setCell ⟨W.heap.size + 1, 0, none⟩ (.bool true)).putObj D (.deferred none)) :=
        hJ.go _ _ _ j1 (Kept.put _ (by omega) (by omega) (fun hr => by
          obtain ⟨o, h5, h6⟩ := hJ.row _ _ j1 D hr
          rw [hK2] at h5; cases h5; cases h6))
      refine ⟨by simp, .inl ⟨_, _, rfl, run_takeDeferred hK2, ?_⟩⟩
      refine ⟨.bool true, ?_, rfl, j2, keeps_putNew ((hkW4.trans hkv).trans (KeepsOthers.setCell _ _ _)) _ (by omega), ((hcW4.trans hcv).setNew _ hBb (by show W.heap.size ≤ W.heap.size + 1; omega)).putNew _ hBb (by omega)⟩
      simp [results, Tryz.results82, go_sem, c3]
theorem all_any (p : Option Addr) (w : World) : Calls Tryz.prog 54 #[.pointer p] w fun ev w' => ev = .returned (.func (.func 81) #[] #[.pointer (some ⟨w.heap.size, 0, none⟩)]) ∧ w' = w.alloc (.cells #[.pointer p] 64) := by
  go_enter Tryz.func54, Tryz.ntmps54
  go_wp2
  go_ret
  exact ⟨rfl, rfl⟩
set_option maxRecDepth 100000 in
set_option maxHeartbeats 1000000 in
/-- All nodes of a tree, in tree order. -/
theorem all_seq (es : List Ent) (B Bb Bx n : Nat) (r : Nd) (ns : List Nd) (w : World) (HE : Hid (entsN ns = es)) (HT : Hid (TreeG es)) (hM : MemA Bb w B r ns) (hbx : w.heap[Bx]? = some (.cells #[.pointer (some ⟨r.nb, 0, none⟩)] 64 (0, 0))) (h4 : Bb < w.heap.size) :
    SeqAll Bb Fence.wide n Tryz.prog 81 #[.pointer (some ⟨Bx, 0, none⟩)] (fun y : Nd => #[.pointer (some ⟨y.nb, 0, none⟩)]) (r :: ns) w := by
  intro l J W hW hJ hY h0
  have hK := Kc.below hW h4
  have c1 : W.cell? ⟨Bx, 0, none⟩ = some (.pointer (some ⟨r.nb, 0, none⟩)) := cell_of_row _ _ 0 _ _ _ ((hW.block _ (Array.getElem?_eq_some_iff.1 hbx).1).trans hbx)
  have hpr := pre_root (unhide HE) (unhide HT).ok hM.1.root
  have hd : Deep es (es.length + 1) r.ent := by rw [hM.1.root]; exact deep_root es
  have hE := each_any es B Bb W.heap.size r ns HE HT l (r :: ns) J hJ (fun m pre y W1 hj hp => yield_deep (hY pre y W1 hj hp)) (es.length + 1) r (by simp) (hide hd) [] W (Nat.le_refl _) (Nat.lt_of_lt_of_le h4 hW.size) (hM.kc hK) h0 (by rw [hpr]; exact List.prefix_refl _)
  rw [hpr] at hE
  have HE2 := hide hE
  have hf106 : Fence.wide.fn 82 := trivial
  clear hE hY h0 hM
  refine (callsIn_wide (n := n)).2 ((callsIn_wide (n := 6)).1 ?_)
  refine callsIn_of_wp Tryz.func81 rfl trivial ?_ rfl
  simp only [Tryz.ntmps81, List.size_toArray, List.length_cons, List.length_nil, Nat.reduceAdd, Nat.reduceSub, Array.replicate_succ, Array.replicate_zero, List.push_toArray, List.append_toArray, List.nil_append, List.cons_append]
  gi_wp2_with (gi_at_call 82; refine (callsIn_wide.2 (unhide HE2)).mono ?_; rintro e W2 ⟨rfl, hj2, _, _⟩)
  go_end0
  exact ⟨⟨_, rfl⟩, hj2⟩
end Go.Proofs.YtjofjcjojgpaeaaGreatDoor

namespace Go.Proofs.YtjofjcjojgpaeaaGreatDoor
open Go.RowKit Go.Maps Go.Sort Go.Shelf
attribute [local go_sem] Oper.semAt_some

theorem opApp {F : Fence} {n : Nat} {P : Program} {w w1 : World} {o : Oper} {a : Act} {K : Act → World → Prop} {Q : Exit → Act → World → Prop} (s x : Operand) (t : TypeId) (hop : o.op = Op.call { callee := Callee.builtin Builtin.append, args := #[s, x], argTypes := #[t, t] })
    {v u v' : Value} (hs : a.eval s = v) (hx : a.eval x = u) (hrun : (Builtin.append_ #[t, t] o.type #[v, u]).run P w = .ok v' w1) (hK : K (a.put o.dst v') w1) : Oper.wpIn F n P o a w K Q := by
  unfold Oper.wpIn
  refine ⟨?_, ?_⟩
  · simp [Oper.about, hop, resolve, Target.leads, Sem.run_pure]
  · rw [Oper.semAt_plain F _ _ (by rw [hop]; intro c hc'; cases hc')]
    simp [execOp, hop, resolve, invoke, builtin, hs, hx, hrun, Result.andThen]
    exact hK
end Go.Proofs.YtjofjcjojgpaeaaGreatDoor
