import Derived.Test.YtephkedlihediabGreatDoorJTreeP
import Derived.OwnWalk
import Derived.ArgAppend
import Derived.Laws.OwnMore
import Derived.Deep.AppendLies
import Derived.Test.YtephkedlihediabGreatDoorJEach
import Derived.Test.YtephkedlihediabGreatDoorPatO
import Derived.LaidEql
namespace Go.Proofs.YtephkedlihediabGreatDoor
open Go.RowKit

theorem Tryz.info47 : (Tryz.prog.info? 47).map (fun i => (i.zero, i.size, i.bytes)) = some (some (.agg #[.string ByteArray.empty, .int .i64 0, .int .i64 0, .string ByteArray.empty]), 4, 48) := by kernel_rfl
def ec (e : Ent) : List Value := [.string e.path, .int .i64 e.kind, .int .i64 e.mode, .string e.data]
def entC (ks : List Ent) : List Value := (ks.map ec).flatten
/-- A row of entries that the call made. -/
def OwnE (w : World) (B : Nat) (v : Value) (ks : List Ent) : Prop := w.ownsRow B 47 4 v ks.length (entC ks)
theorem entC_len (ks : List Ent) : (entC ks).length = ks.length * 4 := by
  induction ks with
  | nil => rfl
  | cons k r ih => simp only [entC, List.map_cons, List.flatten_cons, List.length_append, ec] at ih ⊢; simp at ih ⊢; omega
theorem entC_get : ∀ {ks : List Ent} {k : Nat} {e : Ent}, ks[k]? = some e → (entC ks)[k * 4]? = some (.string e.path) ∧ (entC ks)[k * 4 + 1]? = some (.int .i64 e.kind) ∧ (entC ks)[k * 4 + 2]? = some (.int .i64 e.mode) ∧ (entC ks)[k * 4 + 3]? = some (.string e.data)
  | [], _, _, h => by simp at h
  | x :: r, 0, e, h => by
    simp at h; subst h
    simp [entC, ec]
  | x :: r, k + 1, e, h => by
    have h' : r[k]? = some e := by simpa using h
    have := entC_get h'
    have e1 : entC (x :: r) = ec x ++ entC r := by simp [entC]
    have e2 : (ec x).length = 4 := rfl
    rw [e1, show (k + 1) * 4 = 4 + k * 4 from by omega, show 4 + k * 4 + 1 = 4 + (k * 4 + 1) from by omega, show 4 + k * 4 + 2 = 4 + (k * 4 + 2) from by omega, show 4 + k * 4 + 3 = 4 + (k * 4 + 3) from by omega]
    rw [List.getElem?_append_right (by omega), List.getElem?_append_right (by omega), List.getElem?_append_right (by omega), List.getElem?_append_right (by omega)]
    simp only [e2, Nat.add_sub_cancel_left]
    exact this
theorem ownE_row {w : World} {B : Nat} {v : Value} {ks : List Ent} (h : OwnE w B v ks) : ∃ ao cap n, v = .slice ao n cap ∧ Hid (n = ks.length) ∧ ERow w ao ks ∧ n ≤ cap := by
  rcases h.2 with ⟨rfl, h0⟩ | ⟨g, cap, cur, rfl, hb, hg, hnc, _⟩
  · have : ks = [] := List.length_eq_zero_iff.1 h0
    subst this
    exact ⟨none, 0, 0, rfl, hide rfl, fun k e hk => by simp at hk, Nat.le_refl _⟩
  · refine ⟨some ⟨g, 0, none⟩, cap, ks.length, rfl, hide rfl, fun k e hk => ?_, hnc⟩
    have hk' : k < ks.length := (List.getElem?_eq_some_iff.1 hk).1
    obtain ⟨h1, h2, h3, h4⟩ := entC_get hk
    refine ⟨g, 0, rfl, ?_, ?_, ?_, ?_⟩
    · rw [Nat.zero_add, World.ownsRow.cellAt h _ (by omega), h1]
    · rw [Nat.zero_add, World.ownsRow.cellAt h _ (by omega), h2]
    · rw [Nat.zero_add, World.ownsRow.cellAt h _ (by omega), h3]
    · rw [Nat.zero_add, World.ownsRow.cellAt h _ (by omega), h4]
theorem kids_yes {es : List Ent} {k : Nat} {e : Ent} {p : List UInt8} (he : es[k]? = some e) (h : dirOf e.path.data.toList = p) : kidsE (es.take (k + 1)) p = kidsE (es.take k) p ++ [e] := by
  rw [kidsE, kidsE, List.take_add_one, he, List.filter_append]; simp [h]
theorem kids_not {es : List Ent} {k : Nat} {e : Ent} {p : List UInt8} (he : es[k]? = some e) (h : dirOf e.path.data.toList ≠ p) : kidsE (es.take (k + 1)) p = kidsE (es.take k) p := by
  rw [kidsE, kidsE, List.take_add_one, he, List.filter_append]; simp [h]

end Go.Proofs.YtephkedlihediabGreatDoor

namespace Go.Proofs.YtephkedlihediabGreatDoor
open Go.RowKit Go.Maps Go.Sort Go.Shelf
attribute [local go_sem] Oper.semAt_some

theorem ptr67 : Tryz.prog.underlying 64 = some (.pointer 79) := by kernel_rfl
theorem info87 : (Tryz.prog.info? 79).map (fun i => i.size) = some 5 := by kernel_rfl
theorem size87 : ∃ j, Tryz.prog.info? 79 = some j ∧ j.size = 5 := by
  have h := info87
  cases hj : Tryz.prog.info? 79 with
  | none => rw [hj] at h; cases h
  | some j => rw [hj] at h; exact ⟨j, rfl, by simpa using h⟩
theorem neq67_same (w : World) (a : Addr) : (binOp .neq 64 (.pointer (some a)) (.pointer (some a))).run Tryz.prog w = .ok (.bool false) w := by
  obtain ⟨j, hj, hz⟩ := size87
  have h : ∀ d : Nat, (Op.equalIn (d + 1) 64 (.pointer (some a)) (.pointer (some a))).run Tryz.prog w = .ok true w := fun d => by
    simp [Op.equalIn, run_underlying ptr67, sizeOf, typeInfo, hj, run_sameAddr_same]
  simp only [binOp]
  simp [Op.equal, Op.maxDepth, h 9999]
theorem neq67_other (w : World) {a b : Nat} {ca cb : Array Value} {ta tb : TypeId} (hne : a ≠ b) (ha : w.heap[a]? = some (.cells ca ta (0, 0))) (hb : w.heap[b]? = some (.cells cb tb (0, 0))) : (binOp .neq 64 (.pointer (some ⟨a, 0, none⟩)) (.pointer (some ⟨b, 0, none⟩))).run Tryz.prog w = .ok (.bool true) w := by
  obtain ⟨j, hj, hz⟩ := size87
  have hs := run_sameAddr_other (P := Tryz.prog) (w := w) (a := ⟨a, 0, none⟩) (b := ⟨b, 0, none⟩) (fun e => hne (by cases e; rfl)) ha hb
  have h : ∀ d : Nat, (Op.equalIn (d + 1) 64 (.pointer (some ⟨a, 0, none⟩)) (.pointer (some ⟨b, 0, none⟩))).run Tryz.prog w = .ok false w := fun d => by
    simp [Op.equalIn, run_underlying ptr67, sizeOf, typeInfo, hj, hz, hs]
  simp only [binOp]
  simp [Op.equal, Op.maxDepth, h 9999]
/-- The count of the nodes gone through, the root aside; and the box of the root. -/
def CntJ (w : World) (r : Nd) (pre : List Nd) (W : World) : Prop := Boxed W (w.heap.size + 1) 3 (.int .i64 ((pre.length - 1 : Nat) : Int)) ∧ W.heap[w.heap.size]? = some (.cells #[.pointer (some ⟨r.nb, 0, none⟩)] 64 (0, 0)) ∧ Below w.heap.size w W
theorem cnt_norow {w W : World} {r : Nd} {pre : List Nd} (h : CntJ w r pre W) : ∀ k, ¬ rowAt W (w.heap.size + 1) k := fun k ⟨o, s, n, c, e⟩ => by
  rw [h.1.cell] at e; cases e
theorem cnt_stay (w : World) (r : Nd) (B0 : Nat) (hB : w.heap.size < B0) : Stay (w.heap.size + 1) B0 (fun pre W => CntJ w r pre W) := by
  refine ⟨fun s W W' hs hk => ?_, fun s W hs k hk => absurd hk (cnt_norow hs k)⟩
  have hz := hs.2.2.size
  have h0 : w.heap.size < W.heap.size := (Array.getElem?_eq_some_iff.1 hs.2.1).1
  refine ⟨(hk.block _ hs.1.lt (.inr (.inl rfl))).trans hs.1, (hk.block _ h0 (.inl hB)).trans hs.2.1, ⟨hk.os.trans hs.2.2.os, hk.tape.trans hs.2.2.tape, hk.output.trans hs.2.2.output, Nat.le_trans hz hk.size, fun k h => (hk.block k (by omega) (.inl (by omega))).trans (hs.2.2.block k h)⟩⟩
theorem cnt_set {w W : World} {r : Nd} {pre pre' : List Nd} (h : CntJ w r pre W) : CntJ w r pre' (W.setCell ⟨w.heap.size + 1, 0, none⟩ (.int .i64 ((pre'.length - 1 : Nat) : Int))) ∧ KeepsOthers W (W.setCell ⟨w.heap.size + 1, 0, none⟩ (.int .i64 ((pre'.length - 1 : Nat) : Int))) ∧ Kc (w.heap.size + 1) W (W.setCell ⟨w.heap.size + 1, 0, none⟩ (.int .i64 ((pre'.length - 1 : Nat) : Int))) := by
  have h1 := h.1.set (.int .i64 ((pre'.length - 1 : Nat) : Int))
  have hs := (KeepsWalks.setCell W ⟨w.heap.size + 1, 0, none⟩ (.int .i64 ((pre'.length - 1 : Nat) : Int))).size
  have hc : CntJ w r pre' (W.setCell ⟨w.heap.size + 1, 0, none⟩ (.int .i64 ((pre'.length - 1 : Nat) : Int))) := ⟨h1, (Below.heap_setCell _ _ _ _ (by show w.heap.size ≠ w.heap.size + 1; omega)).trans h.2.1, h.2.2.setCell (by show w.heap.size ≤ w.heap.size + 1; omega) _⟩
  refine ⟨hc, ⟨hs, fun k o hk ho => ?_⟩, ⟨hs, fun k o hk _ hne _ => (Below.heap_setCell _ _ _ k hne).trans hk, fun k hk => absurd hk (cnt_norow hc k)⟩⟩
  refine (Below.heap_setCell _ _ _ k (fun e => ?_)).trans hk
  rw [show k = w.heap.size + 1 from e, show W.heap[w.heap.size + 1]? = _ from h.1] at hk
  cases hk; cases ho
theorem nb_apart {w : World} {B : Nat} {r : Nd} {ns : List Nd} (h : Mem w B r ns) {y : Nd} (hy : y ∈ ns) : y.nb ≠ r.nb := fun en => by
  have hmb := (List.pairwise_cons.1 h.apart).1 y hy
  have h3 := (h.all y (by simp [hy])).2.2.1
  have h4 := (h.all r (by simp)).2.2.1
  rw [en, h4] at h3
  have h5 := congrArg (fun o => match o with | some (Obj.cells cs _ _) => cs[4]? | _ => none) h3
  simp [Nd.cells] at h5
  exact hmb h5
set_option maxHeartbeats 2000000 in
set_option maxRecDepth 100000 in
theorem below_any {B : Nat} {r : Nd} {ns : List Nd} {es : List Ent} (w : World) (hM : Mem w B r ns) (HE : Hid (entsN ns = es)) (HT : Hid (TreeG es)) :
    Calls Tryz.prog 53 #[.pointer (some ⟨r.nb, 0, none⟩)] w fun ev w' => ev = .returned (.int .i64 (ns.length : Nat)) ∧ Below w.heap.size w w' := by
  have HA := hide hM
  have hf73 : Fence.wide.fn 54 := trivial
  have hln : ns.length ≤ 120 := by have := (unhide HT).len; rw [← unhide HE] at this; simpa [entsN] using this
  clear hM
  refine (callsIn_wide (n := 6)).1 ?_
  refine callsIn_of_wp_marks Tryz.func53 rfl trivial ?_ rfl
  simp only [Tryz.ntmps53, List.size_toArray, List.length_cons, List.length_nil, Nat.reduceAdd, Nat.reduceSub, Array.replicate_succ, Array.replicate_zero, List.push_toArray, List.append_toArray, List.nil_append, List.cons_append]
  gi_wp2_with (gi_at_call 54; refine (callsIn_wide.2 (all_any _ _)).mono ?_; rintro e w4 ⟨rfl, rfl⟩)
  obtain ⟨W2, hW2⟩ : ∃ W2, W2 = ((w.alloc (.cells #[.pointer (some ⟨r.nb, 0, none⟩)] 64)).alloc (.cells #[.int .i64 0] 3)).alloc (.cells #[.pointer (some ⟨r.nb, 0, none⟩)] 64) := ⟨_, rfl⟩
  have s2 : W2.heap.size = w.heap.size + 3 := by rw [hW2]; simp
  have hb2 : Below w.heap.size w W2 := by rw [hW2]; exact (((Below.refl _ _).alloc (Nat.le_refl _) _).alloc (by simp) _).alloc (by simp; omega) _
  have j0 : W2.heap[w.heap.size]? = some (.cells #[.pointer (some ⟨r.nb, 0, none⟩)] 64 (0, 0)) := by
    rw [hW2]
    exact (Below.heap_alloc _ _ _ (by simp; omega)).trans ((Below.heap_alloc _ _ _ (by simp)).trans (heap_alloc_new _ _))
  have j1 : W2.heap[w.heap.size + 1]? = some (.cells #[.int .i64 0] 3 (0, 0)) := by
    rw [hW2]
    refine (Below.heap_alloc _ _ _ (by simp)).trans ?_
    have := heap_alloc_new (w.alloc (.cells #[.pointer (some ⟨r.nb, 0, none⟩)] 64)) (.cells #[.int .i64 0] 3)
    rw [World.size_alloc] at this
    exact this
  have x2 : W2.heap[w.heap.size + 1 + 1]? = some (.cells #[.pointer (some ⟨r.nb, 0, none⟩)] 64 (0, 0)) := by
    have := heap_alloc_new ((w.alloc (.cells #[.pointer (some ⟨r.nb, 0, none⟩)] 64)).alloc (.cells #[.int .i64 0] 3)) (.cells #[.pointer (some ⟨r.nb, 0, none⟩)] 64)
    rw [World.size_alloc, World.size_alloc] at this
    rw [hW2]; exact this
  rw [← hW2]
  have hJ0 : CntJ w r [] W2 := ⟨j1, j0, hb2⟩
  have hMA : MemA (w.heap.size + 1) W2 B r ns := ⟨(unhide HA).below hb2, fun x hx => by
    have h1 : x.nb < w.heap.size := (Array.getElem?_eq_some_iff.1 ((unhide HA).all x hx).2.2.1).1
    have h2 : x.mb < w.heap.size := World.ownsMap.lt ((unhide HA).all x hx).2.2.2
    exact ⟨⟨by omega, by omega, cnt_norow hJ0 _⟩, ⟨by omega, by omega, cnt_norow hJ0 _⟩⟩⟩
  clear hW2 j0 j1
  refine range_all (Bb := w.heap.size + 1) (α := Nd) (xs := r :: ns) rfl (by omega) (gf := 80) (lb := #[.pointer (some ⟨w.heap.size + 1 + 1, 0, none⟩)]) rfl trivial (enters_of Tryz.func80 (by kernel_rfl) rfl)
    (all_seq es B (w.heap.size + 1) (w.heap.size + 1 + 1) 5 r ns W2 HE HT hMA x2 (by omega)) (by omega) (Below.refl _ _) (fun _ => rfl)
    (fun pre W => CntJ w r pre W) (cnt_stay w r W2.heap.size (by omega)) hJ0
    (fun t y => (t.setIfInBounds 7 (.pointer (some ⟨y.nb, 0, none⟩))).setIfInBounds 4 (.pointer (some ⟨y.nb, 0, none⟩))) ?assign ?body ?done
  case assign =>
    intro l y W K hK
    gi_wp2
    simpa using hK
  case body =>
    rintro l pre y W hJ hp
    have cb := hJ.1.cell
    have cf := hJ.1.frozen
    have cr : W.cell? ⟨w.heap.size, 0, none⟩ = some (.pointer (some ⟨r.nb, 0, none⟩)) := cell_of_row _ _ 0 _ _ _ hJ.2.1
    cases pre with
    | nil =>
      have hy : y = r := by
        obtain ⟨t, e⟩ := hp
        simpa using (List.cons.inj e).1
      subst hy
      have HJ : Hid (CntJ w y ([] ++ [y]) W) := hide hJ
      have hneq := neq67_same W ⟨y.nb, 0, none⟩
      clear hJ
      gi_wp2
      exact ⟨KeepsOthers.refl _, Kc.refl _ _, unhide HJ⟩
    | cons x pre =>
      have hy : y ∈ ns := by
        obtain ⟨t, e⟩ := hp
        have e2 := (List.cons.inj e).2
        rw [← e2]; simp
      have hnb := nb_apart (unhide HA) hy
      have hlp : (x :: pre).length ≤ 121 := by
        have := hp.length_le
        simp at this ⊢
        omega
      have hMW := (unhide HA).below hJ.2.2
      have hneq := neq67_other W hnb (hMW.all y (by simp [hy])).2.2.1 (hMW.all r (by simp)).2.2.1
      clear hMW
      have Q := hide (cnt_set (pre' := (x :: pre) ++ [y]) hJ)
      have ew : IntKind.i64.wrap ((((x :: pre).length - 1 : Nat) : Int) + 1) = ((((x :: pre) ++ [y]).length - 1 : Nat) : Int) := by
        rw [show ((((x :: pre).length - 1 : Nat) : Int) + 1) = ((((x :: pre) ++ [y]).length - 1 : Nat) : Int) from by simp]
        exact wrap_i64 _ (by simp at hlp ⊢; omega)
      obtain ⟨a, ha⟩ : ∃ a : Int, a = (((x :: pre).length - 1 : Nat) : Int) := ⟨_, rfl⟩
      obtain ⟨b, hb⟩ : ∃ b : Int, b = ((((x :: pre) ++ [y]).length - 1 : Nat) : Int) := ⟨_, rfl⟩
      rw [← ha, ← hb] at ew
      rw [← ha] at cb
      rw [← hb] at Q
      have HQ := hide Q
      clear ha hb hJ Q
      gi_wp2
      exact ⟨(unhide (unhide HQ)).2.1, (unhide (unhide HQ)).2.2, (unhide (unhide HQ)).1⟩
  case done =>
    rintro D W hD hJ hK
    have cb := hJ.1.cell
    have HJ := hide hJ
    clear hJ
    gi_wp2
    refine ⟨by simp, .inl ⟨_, _, rfl, run_takeDeferred hK, ?_⟩⟩
    refine ⟨_, results_tmp rfl _ _ _, ?_⟩
    refine ⟨by simp, ?_⟩
    exact (unhide HJ).2.2.trans (belowK_b (w := w) (Nat.le_refl _) _ D _ _ (by omega) hK rfl rfl)
end Go.Proofs.YtephkedlihediabGreatDoor
