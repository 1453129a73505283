import Derived.Test.YtkeefkfklmhcjaaGreatDoorOfA
import Derived.Sort.KeysCollected
import Derived.Sort.Walk0
namespace Go.Proofs.YtkeefkfklmhcjaaGreatDoor
open Go.RowKit Go.Maps Go.Sort

/-- The nodes in a directory. -/
def kidsX (ns : List Nd) (p : List UInt8) : List Nd := ns.filter fun x => dirOf x.p == p
theorem kidsN_eq (ns : List Nd) (p : List UInt8) : kidsN ns p = (kidsX ns p).map fun x => (nameOf x.p, x.nb) := rfl
theorem kidsE_eq (ns : List Nd) (p : List UInt8) : kidsE (entsN ns) p = (kidsX ns p).map (·.ent) := by
  rw [kidsE, entsN, kidsX, List.filter_map]; rfl
theorem kidsX_mem {ns : List Nd} {p : List UInt8} {x : Nd} (h : x ∈ kidsX ns p) : x ∈ ns ∧ dirOf x.p = p := by
  rw [kidsX, List.mem_filter] at h; exact ⟨h.1, by simpa using h.2⟩
theorem ns_ord {ns : List Nd} (h : OkTo (entsN ns) ns.length) : ns.Pairwise fun x y => ltL (prt x.p) (prt y.p) = true := by
  rw [List.pairwise_iff_getElem]
  intro i j hi hj hij
  exact ord_lt h j i ns[i].ent ns[j].ent hij hj (by rw [entsN, List.getElem?_map, List.getElem?_eq_getElem hi]; rfl) (by rw [entsN, List.getElem?_map, List.getElem?_eq_getElem hj]; rfl)
theorem nd_up {ns : List Nd} (h : OkTo (entsN ns) ns.length) {x : Nd} (hx : x ∈ ns) : prt x.p = prt (dirOf x.p) ++ [nameOf x.p] := by
  obtain ⟨k, hk, _, he⟩ := nd_at hx
  exact okTo_up h hk he
theorem kids_ord {ns : List Nd} (h : OkTo (entsN ns) ns.length) (p : List UInt8) : (kidsX ns p).Pairwise fun x y => Op.bytesLess (nameOf x.p) (nameOf y.p) = true := by
  refine List.Pairwise.imp_of_mem (fun {x y} hx hy hl => ?_) ((ns_ord h).filter _)
  have hx' := kidsX_mem (p := p) hx
  have hy' := kidsX_mem (p := p) hy
  rw [nd_up h hx'.1, nd_up h hy'.1, hx'.2, hy'.2, ltL_snoc] at hl
  exact hl
theorem keys_eq (L : List (List UInt8 × Nat)) : strKeys (DK L) = L.map (·.1) := by
  simp [strKeys, DK, strOf, Function.comp_def]
theorem kids_sorted {ns : List Nd} (h : OkTo (entsN ns) ns.length) {p : List UInt8} {ss : List (List UInt8)} (hp : ss.Perm (strKeys (DK (kidsN ns p)))) : ss.mergeSort (fun x y => decide (x ≤ y)) = (kidsX ns p).map fun x => nameOf x.p := by
  rw [mergeSort_of_perm hp, keys_eq, kidsN_eq, List.map_map]
  refine List.mergeSort_of_pairwise ?_
  rw [List.pairwise_map]
  refine (kids_ord h p).imp (fun {x y} hl => ?_)
  rw [bytesLess_eq] at hl
  simp only [leB, decide_eq_true_eq, Function.comp] at hl ⊢
  exact List.le_of_lt hl
theorem kids_one {ns : List Nd} (h : OkTo (entsN ns) ns.length) {p : List UInt8} {x y : Nd} (hx : x ∈ kidsX ns p) (hy : y ∈ kidsX ns p) (e : nameOf x.p = nameOf y.p) : x = y := by
  obtain ⟨i, hi, rfl⟩ := List.getElem_of_mem hx
  obtain ⟨j, hj, rfl⟩ := List.getElem_of_mem hy
  have ho := List.pairwise_iff_getElem.1 (kids_ord h p)
  rcases Nat.lt_trichotomy i j with hl | rfl | hl
  · have := ho i j hi hj hl; rw [e, bl_irr] at this; cases this
  · rfl
  · have := ho j i hj hi hl; rw [e, bl_irr] at this; cases this
theorem KM.at {w : World} {b n : Nat} {ns : List Nd} {p : List UInt8} (h : KM w b n (kidsN ns p)) (hO : OkTo (entsN ns) ns.length) {x : Nd} (hx : x ∈ kidsX ns p) (s : ByteArray) (hs : s.size ≤ 1073741824) (e : s.data.toList = nameOf x.p) :
    (Instr.lookup 100 (.map (some b)) (.string s) false).run Tryz.prog w = .ok (.pointer (some ⟨x.nb, 0, none⟩)) w := by
  rcases KM.look h s hs false with ⟨_, hn⟩ | ⟨q, hq, hrun⟩
  · exact absurd e.symm (hn (nameOf x.p, x.nb) (by rw [kidsN_eq]; exact List.mem_map.2 ⟨x, hx, rfl⟩))
  · rw [kidsN_eq] at hq
    obtain ⟨y, hy, e2⟩ := List.mem_map.1 hq
    have e3 : nameOf y.p = s.data.toList := congrArg Prod.fst e2
    have e4 : y.nb = q := congrArg Prod.snd e2
    have : y = x := kids_one hO hy hx (by rw [e3, e])
    rw [hrun, ← e4, this]; rfl
theorem km_size {L : List (List UInt8 × Nat)} : Maps.size (DK L) = L.length := by
  simp [Maps.size, DK]
end Go.Proofs.YtkeefkfklmhcjaaGreatDoor
