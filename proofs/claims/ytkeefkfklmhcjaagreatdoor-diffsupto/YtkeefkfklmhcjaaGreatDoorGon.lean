import Derived.Test.YtkeefkfklmhcjaaGreatDoorClr
import Derived.Test.YtkeefkfklmhcjaaGreatDoorDifP
namespace Go.Proofs.YtkeefkfklmhcjaaGreatDoor
open Go.RowKit Go.Maps

/-- A tree in memory, of these entries. -/
structure Tr (w : World) (B : Nat) (r : Nd) (ns : List Nd) (es : List Ent) : Prop where
  mem : Mem w B r ns
  ents : entsN ns = es
  tree : Tree es
theorem Tr.below {w w' : World} {B : Nat} {r : Nd} {ns : List Nd} {es : List Ent} (h : Tr w B r ns es) (hb : Below w.heap.size w w') : Tr w' B r ns es := ⟨h.mem.below hb, h.ents, h.tree⟩
theorem Tr.ok {w : World} {B : Nat} {r : Nd} {ns : List Nd} {es : List Ent} (h : Tr w B r ns es) : OkTo (entsN ns) ns.length := by
  have hl : ns.length = es.length := by rw [← h.ents]; simp [entsN]
  rw [h.ents, hl]; exact h.tree.ok
theorem Tr.len {w : World} {B : Nat} {r : Nd} {ns : List Nd} {es : List Ent} (h : Tr w B r ns es) : ns.length ≤ 40 := by
  have hl : ns.length = es.length := by rw [← h.ents]; simp [entsN]
  rw [hl]; exact h.tree.len
theorem Tr.small {w : World} {B : Nat} {r : Nd} {ns : List Nd} {es : List Ent} (h : Tr w B r ns es) : ∀ y ∈ ns, y.ent.path.size ≤ 1048576 := fun y hy => (h.tree.small y.ent (by rw [← h.ents]; exact List.mem_map.2 ⟨y, hy, rfl⟩)).1
theorem Tr.in {w : World} {B : Nat} {r : Nd} {ns : List Nd} {es : List Ent} (h : Tr w B r ns es) {x : Nd} (hx : x ∈ ns) : x.ent ∈ es := by rw [← h.ents]; exact List.mem_map.2 ⟨x, hx, rfl⟩
theorem Tr.root {w : World} {B : Nat} {r : Nd} {ns : List Nd} {es : List Ent} (h : Tr w B r ns es) : r.p = [] := by rw [Nd.p, h.mem.root]; rfl
theorem Tr.ne {w : World} {B : Nat} {r : Nd} {ns : List Nd} {es : List Ent} (h : Tr w B r ns es) {x : Nd} (hx : x ∈ ns) : x.p ≠ [] := (h.tree.path (h.in hx)).1
theorem Tr.up {w : World} {B : Nat} {r : Nd} {ns : List Nd} {es : List Ent} (h : Tr w B r ns es) {x : Nd} (hx : x ∈ ns) : prt x.p = prt (dirOf x.p) ++ [nameOf x.p] := nd_up h.ok hx
/-- What is found at a path. -/
def Found (r : Nd) (ns : List Nd) (es : List Ent) (p : List UInt8) (v : Value) : Prop :=
  (v = .pointer none ∧ p ≠ [] ∧ atE es p = none) ∨ (v = .pointer (some ⟨r.nb, 0, none⟩) ∧ p = []) ∨ ∃ x : Nd, x ∈ ns ∧ v = .pointer (some ⟨x.nb, 0, none⟩) ∧ x.p = p ∧ p ≠ [] ∧ atE es p = some x.ent
theorem Found.no {r : Nd} {ns : List Nd} {es : List Ent} {p : List UInt8} {v : Value} (hv : v = .pointer none) (hp : p ≠ []) (ha : atE es p = none) : Found r ns es p v := .inl ⟨hv, hp, ha⟩
theorem Found.root {r : Nd} {ns : List Nd} {es : List Ent} {p : List UInt8} {v : Value} (hv : v = .pointer (some ⟨r.nb, 0, none⟩)) (hp : p = []) : Found r ns es p v := .inr (.inl ⟨hv, hp⟩)
theorem Found.yes {r : Nd} {ns : List Nd} {es : List Ent} {p : List UInt8} {v : Value} (x : Nd) (hx : x ∈ ns) (hv : v = .pointer (some ⟨x.nb, 0, none⟩)) (hp : x.p = p) (h0 : p ≠ []) (ha : atE es p = some x.ent) : Found r ns es p v := .inr (.inr ⟨x, hx, hv, hp, h0, ha⟩)
theorem Found.el {r : Nd} {ns : List Nd} {es : List Ent} {p : List UInt8} {v : Value} {motive : Found r ns es p v → Prop} (no : ∀ hv hp ha, motive (.no hv hp ha)) (root : ∀ hv hp, motive (.root hv hp)) (yes : ∀ x hx hv hp h0 ha, motive (.yes x hx hv hp h0 ha)) (t : Found r ns es p v) : motive t := by
  rcases t with ⟨a, b, c⟩ | ⟨a, b⟩ | ⟨x, a, b, c, d, e⟩
  · exact no a b c
  · exact root a b
  · exact yes x a b c d e
theorem Tr.found {w : World} {B : Nat} {r : Nd} {ns : List Nd} {es : List Ent} (h : Tr w B r ns es) {p : List UInt8} {v : Value} (hv : FindIs r ns p v) : Found r ns es p v := by
  rcases hv with ⟨rfl, h1⟩ | ⟨x, hx, rfl, hp⟩
  · refine .no rfl (fun e => h1 r (by simp) (by rw [e]; exact h.root)) (atE_miss fun e he => ?_)
    rw [← h.ents] at he
    obtain ⟨z, hz, rfl⟩ := List.mem_map.1 he
    exact h1 z (by simp [hz])
  · rcases List.mem_cons.1 hx with rfl | hx
    · exact .root rfl (hp.symm.trans h.root)
    · have h0 := h.ne hx
      refine .yes x hx rfl hp (by rw [← hp]; exact h0) ?_
      have := h.tree.at (h.in hx)
      rw [← hp]; exact this
theorem has_kind {w w2 : World} {B B2 : Nat} {r r2 : Nd} {ns ms : List Nd} {xa xb : List Ent} (h : Tr w B r ns xa) (h2 : Tr w2 B2 r2 ms xb) {k : Nd} (hk : k ∈ ns) : hasX ms (dirOf k.p) (nameOf k.p) = !decide (kindP xb k.ent.path.data.toList = 0) := by
  have h0 : k.ent.path.data.toList ≠ [] := h.ne hk
  have hkp : k.ent.path.data.toList = k.p := rfl
  rw [kindP_at h0]
  cases ha : atE xb k.ent.path.data.toList with
  | none =>
    rw [hasX]
    simp only [decide_true, Bool.not_true, List.any_eq_false]
    intro z hz
    obtain ⟨hz1, hz2⟩ := kidsX_mem hz
    simp only [beq_iff_eq]
    intro e
    refine atE_none ha z.ent (h2.in hz1) (?_ : z.p = k.p)
    refine prt_inj ?_
    rw [h2.up hz1, h.up hk, hz2, e]
  | some d =>
    obtain ⟨hd, hp⟩ := atE_some ha
    have hkd := good_kind (h2.tree.path hd).2.2
    have hne : ¬ d.kind = 0 := by omega
    rw [hasX]
    simp only [hne, decide_false, Bool.not_false, List.any_eq_true]
    rw [← h2.ents] at hd
    obtain ⟨z, hz, rfl⟩ := List.mem_map.1 hd
    have hzp : z.p = k.p := hp
    refine ⟨z, ?_, by simp [hzp]⟩
    rw [kidsX, List.mem_filter]
    exact ⟨hz, by simp [hzp]⟩
theorem clrX_eq {w w2 : World} {B B2 : Nat} {r r2 : Nd} {ns ms : List Nd} {xa xb : List Ent} (h : Tr w B r ns xa) (h2 : Tr w2 B2 r2 ms xb) {x y : Nd} {p : List UInt8} (hx : x.p = p) (hy : y.p = p) (kx : kindP xa p = x.ent.kind) (ky : kindP xb p = y.ent.kind) : clrX ns ms x y = clrF xa xb p := by
  have e : kidsE xa p = (kidsX ns p).map (·.ent) := by rw [← h.ents]; exact kidsE_eq ns p
  rw [clrX, clrF, kx, ky, e, List.length_map, List.all_map, hx, hy]
  have e2 : ((kidsX ns p).all fun k => !hasX ms p (nameOf k.p)) = (kidsX ns p).all ((fun c : Ent => decide (kindP xb c.path.data.toList = 0)) ∘ fun x : Nd => x.ent) := by
    rw [Bool.eq_iff_iff, List.all_eq_true, List.all_eq_true]
    refine forall_congr' fun k => forall_congr' fun hk => ?_
    obtain ⟨hk1, hk2⟩ := kidsX_mem hk
    have := has_kind h h2 hk1
    rw [hk2] at this
    rw [this]; simp
  rw [e2]
  have e3 : (2 ≤ (kidsX ns p).length) = (1 < (kidsX ns p).length) := rfl
  simp only [e3]
  cases decide (x.ent.kind = 1) <;> cases decide (y.ent.kind = 1) <;> simp [Bool.and_comm]
theorem kind_root (es : List Ent) : kindP es [] = 1 := by simp [kindP]
set_option maxHeartbeats 1000000 in
theorem clr_old (q : Option Addr) (w : World) : Calls Tryz.prog 82 #[.pointer none, .pointer q] w fun ev w' => ev = .returned (.bool false) ∧ Below w.heap.size w w' := by
  go_enter Tryz.func82, Tryz.ntmps82
  go_wp2_with (go_at_call 106; refine (isDir_nil _).mono ?_; rintro ev w1 ⟨rfl, hw⟩; obtain rfl := hw.symm)
  refine bodyPost_ret (v := .bool false) (by simp [results, Tryz.results82, go_sem]) rfl ⟨rfl, ?_⟩
  exact (((Below.refl _ _).alloc (Nat.le_refl _) _).alloc (by simp) _)
set_option maxHeartbeats 1000000 in
theorem clr_new (x : Nat) (k : Int) (w : World) (hc : w.cell? ⟨x, 1, none⟩ = some (.int .i64 k)) : Calls Tryz.prog 82 #[.pointer (some ⟨x, 0, none⟩), .pointer none] w fun ev w' => ev = .returned (.bool false) ∧ Below w.heap.size w w' := by
  have hb : Below w.heap.size w ((w.alloc (.cells #[.pointer none] 79)).alloc (.cells #[.bool false] 4)) := ((Below.refl _ _).alloc (Nat.le_refl _) _).alloc (by simp) _
  have hX := isDir_at x k _ (cell_later hb hc)
  by_cases h : k = 1
  · rw [decide_eq_true h] at hX
    go_enter Tryz.func82, Tryz.ntmps82
    go_wp2_with (first
      | (go_at_call 106; refine hX.mono ?_; clear hX; rintro ev w1 ⟨rfl, hw⟩; obtain rfl := hw.symm)
      | (go_at_call 106; refine (isDir_nil _).mono ?_; rintro ev w1 ⟨rfl, hw⟩; obtain rfl := hw.symm))
    refine bodyPost_ret (v := .bool false) (by simp [results, Tryz.results82, go_sem]) rfl ⟨rfl, hb⟩
  · rw [decide_eq_false h] at hX
    go_enter Tryz.func82, Tryz.ntmps82
    go_wp2_with (first
      | (go_at_call 106; refine hX.mono ?_; clear hX; rintro ev w1 ⟨rfl, hw⟩; obtain rfl := hw.symm))
    refine bodyPost_ret (v := .bool false) (by simp [results, Tryz.results82, go_sem]) rfl ⟨rfl, hb⟩
/-- Is what is found at a path cleared? -/
theorem clr_at {B B2 : Nat} {r r2 : Nd} {ns ms : List Nd} {xa xb : List Ent} {p : List UInt8} {v u : Value} (w : World) (h : Tr w B r ns xa) (h2 : Tr w B2 r2 ms xb) (hv : Found r ns xa p v) (hu : Found r2 ms xb p u) :
    Calls Tryz.prog 82 #[v, u] w fun ev w' => ev = .returned (.bool (clrF xa xb p)) ∧ Below w.heap.size w w' := by
  cases hv using Found.el with
  | no hv hp ha =>
    have e : clrF xa xb p = false := by simp [clrF, kindP_at hp, ha]
    rw [e, hv]
    cases hu using Found.el with
    | no hu _ _ => rw [hu]; exact clr_old _ w
    | root hu _ => rw [hu]; exact clr_old _ w
    | yes y _ hu _ _ _ => rw [hu]; exact clr_old _ w
  | root hv hp =>
    cases hu using Found.el with
    | no _ hp' _ => exact absurd hp hp'
    | root hu _ =>
      rw [hv, hu, ← clrX_eq h h2 (x := r) (y := r2) (by rw [hp]; exact h.root) (by rw [hp]; exact h2.root) (by rw [hp, kind_root, h.mem.root]; rfl) (by rw [hp, kind_root, h2.mem.root]; rfl)]
      exact cleared_any B B2 r r ns r2 r2 ms w (by simp) h.mem (by simp) h2.mem (hide h.ok) (hide h.small) (by have := h.len; omega)
    | yes _ _ _ _ h0 _ => exact absurd hp h0
  | yes x hx hv hp h0 ha =>
    have kx : kindP xa p = x.ent.kind := by rw [kindP_at h0, ha]
    cases hu using Found.el with
    | no hu _ hb =>
      have e : clrF xa xb p = false := by simp [clrF, kindP_at h0, hb]
      rw [e, hv, hu]
      exact clr_new x.nb x.ent.kind w (cell_of_row _ _ 1 _ _ _ (h.mem.all x (by simp [hx])).2.2.1)
    | root _ hp' => exact absurd hp' h0
    | yes y hy hu hq _ hb =>
      rw [hv, hu, ← clrX_eq h h2 hp hq kx (by rw [kindP_at h0, hb])]
      exact cleared_any B B2 r x ns r2 y ms w (by simp [hx]) h.mem (by simp [hy]) h2.mem (hide h.ok) (hide h.small) (by have := h.len; omega)
theorem find_tr {B : Nat} {r : Nd} {ns : List Nd} {es : List Ent} (s : ByteArray) (m : Int) (w : World) (h : Tr w B r ns es) (hs : s.size ≤ 1048576) (hm : w.cell? ⟨15, 0, none⟩ = some (.int .i64 m)) :
    Calls Tryz.prog 79 #[.pointer (some ⟨r.nb, 0, none⟩), .string s] w fun ev w' => ∃ v, ev = .returned v ∧ Hid (Found r ns es s.data.toList v) ∧ Below w.heap.size w w' :=
  (find_any r ns B s m w h.mem (hide h.ok) hs hm).mono fun _ _ ⟨v, he, hf, hb⟩ => ⟨v, he, hide (h.found (unhide hf)), hb⟩
/-- Whether what is found is a directory. -/
theorem dir_tr {B : Nat} {r : Nd} {ns : List Nd} {es : List Ent} {p : List UInt8} {v : Value} (w : World) (h : Tr w B r ns es) (hv : Found r ns es p v) :
    Calls Tryz.prog 106 #[v] w fun ev w' => ev = .returned (.bool (decide (kindP es p = 1))) ∧ w' = w := by
  cases hv using Found.el with
  | no hv hp ha =>
    rw [hv, kindP_at hp, ha]
    exact isDir_nil w
  | root hv hp =>
    have hk : r.ent.kind = 1 := by rw [h.mem.root]; rfl
    rw [hv, hp, kind_root]
    have := isDir_at r.nb 1 w (by rw [← hk]; exact cell_of_row _ _ 1 _ _ _ (h.mem.all r (by simp)).2.2.1)
    exact this
  | yes x hx hv hp h0 ha =>
    rw [hv, kindP_at h0, ha]
    exact isDir_at x.nb _ w (cell_of_row _ _ 1 _ _ _ (h.mem.all x (by simp [hx])).2.2.1)
set_option maxHeartbeats 1000000 in
theorem told_any {B B2 : Nat} {r r2 : Nd} {ns ms : List Nd} {xa xb : List Ent} (s : ByteArray) (m : Int) (w : World) (h : Tr w B r ns xa) (h2 : Tr w B2 r2 ms xb) (hs : s.size ≤ 1048576) (hm : w.cell? ⟨15, 0, none⟩ = some (.int .i64 m)) :
    Calls Tryz.prog 84 #[.pointer (some ⟨r.nb, 0, none⟩), .pointer (some ⟨r2.nb, 0, none⟩), .string s] w fun ev w' => ev = .returned (.bool (decide (kindP xb (dirOf s.data.toList) = 1) && !clrF xa xb (dirOf s.data.toList))) ∧ Below w.heap.size w w' := by
  have HA := hide h
  have HB := hide h2
  have HM := hide hm
  clear h h2 hm
  go_enter Tryz.func84, Tryz.ntmps84
  go_upto_region 2 with (go_at_call 105; refine (last_any s _ (by omega)).mono ?_; rintro ev w1 ⟨dd, nn, rfl, HD, HNm, hb1⟩)
  have hdd : dd.size ≤ 1048576 := by rw [Lib.size_eq, unhide HD]; exact Nat.le_trans (dir_le _) (by rw [← Lib.size_eq]; exact hs)
  go_upto_region 3 with (go_at_call 79; refine (find_tr dd m _ ((unhide HB).below hb1) hdd (cell_later hb1 (unhide HM))).mono ?_; rintro ev w2 ⟨v, rfl, HF, hb2⟩)
  have hB2 : Below w.heap.size w w2 := hb1.trans (hb2.mono hb1.size)
  have hD := dir_tr w2 ((unhide HB).below hB2) (unhide HF)
  rw [unhide HD] at hD
  clear hb1 hb2
  by_cases k : kindP xb (dirOf s.data.toList) = 1
  · rw [decide_eq_true k] at hD
    have e : (decide (kindP xb (dirOf s.data.toList) = 1) && !clrF xa xb (dirOf s.data.toList)) = !clrF xa xb (dirOf s.data.toList) := by simp [k]
    have HEq := hide e
    clear e k
    go_wp2_with (first
      | (go_at_call 106; refine hD.mono ?_; clear hD; rintro ev w3 ⟨rfl, hw⟩; obtain rfl := hw.symm)
      | (go_at_call 79; refine (find_tr dd m _ ((unhide HA).below hB2) hdd (cell_later hB2 (unhide HM))).mono ?_; rintro ev w3 ⟨u, rfl, HG, hb3⟩)
      | (go_at_call 82; refine (clr_at w3 (((unhide HA).below hB2).below hb3) (((unhide HB).below hB2).below hb3) (unhide HG) (unhide HF)).mono ?_; rintro ev w4 ⟨rfl, hb4⟩))
    go_ret
    refine ⟨by rw [unhide HEq, ← unhide HD]; rfl, hB2.trans ((hb3.trans (hb4.mono hb3.size)).mono hB2.size)⟩
  · rw [decide_eq_false k] at hD
    have e : (decide (kindP xb (dirOf s.data.toList) = 1) && !clrF xa xb (dirOf s.data.toList)) = false := by simp [k]
    have HEq := hide e
    clear e k
    go_wp2_with (go_at_call 106; refine hD.mono ?_; clear hD; rintro ev w3 ⟨rfl, hw⟩; obtain rfl := hw.symm)
    go_ret
    exact ⟨by rw [unhide HEq]; rfl, hB2⟩
end Go.Proofs.YtkeefkfklmhcjaaGreatDoor
