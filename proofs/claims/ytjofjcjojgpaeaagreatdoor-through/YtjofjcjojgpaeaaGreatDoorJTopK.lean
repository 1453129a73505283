import Derived.Test.YtjofjcjojgpaeaaGreatDoorJAs
import Derived.Test.YtjofjcjojgpaeaaGreatDoorJKidD
import Derived.Test.YtjofjcjojgpaeaaGreatDoorPckL
import Derived.Test.YtjofjcjojgpaeaaGreatDoorJChgD
namespace Go.Proofs.YtjofjcjojgpaeaaGreatDoor
open Go.RowKit Go.Maps

theorem as_hit_b (q t : Addr) (old : Value) (B : Nat) (w : World) (hg : w.cell? ⟨0, 0, none⟩ = some (.iface 129 (.agg #[.pointer (some ⟨22, 52, none⟩)]))) (ht0 : w.cell? t = some old) (hf0 : w.frozen? t = false) (hB : B ≤ t.block) :
    Calls Tryz.prog 29 #[.iface 68 (.pointer (some q)), .iface 70 (.pointer (some t))] w fun ev w' => ev = .returned (.bool true) ∧ w'.cell? t = some (.pointer (some q)) ∧ Below B w w' := by
  have htl : t.block < w.heap.size := World.block_lt_of_cell? _ _ ht0
  refine (as_hit q t old w hg ht0 hf0).mono ?_
  rintro e w' ⟨rfl, rfl⟩
  refine ⟨rfl, ?_, (((((Below.refl _ _).alloc (by omega) _).alloc (by simp; omega) _).alloc (by simp; omega) _).alloc (by simp; omega) _).setCell hB _⟩
  refine World.cell?_setCell_same _ _ _ (u := old) (by rw [World.cell?_alloc_lt _ _ t (by simp; omega), World.cell?_alloc_lt _ _ t (by simp; omega), World.cell?_alloc_lt _ _ t (by simp; omega), World.cell?_alloc_lt _ _ t htl]; exact ht0)
set_option maxHeartbeats 2000000 in
theorem tell_at (q : Nat) (e n : Int) (w : World) (hg : w.cell? ⟨0, 0, none⟩ = some (.iface 129 (.agg #[.pointer (some ⟨22, 52, none⟩)]))) (h0 : w.cell? ⟨q, 0, none⟩ = some (.int .i64 e)) (h1 : w.cell? ⟨q, 1, none⟩ = some (.int .i64 n)) :
    Calls Tryz.prog 20 #[.iface 68 (.pointer (some ⟨q, 0, none⟩))] w fun ev w' => ev = .returned (.tuple #[.int .i64 e, .int .i64 n]) ∧ Below w.heap.size w w' := by
  have hlt : 0 < w.heap.size := World.block_lt_of_cell? _ _ hg
  have hq : q < w.heap.size := World.block_lt_of_cell? _ _ h0
  go_enter Tryz.func20, Tryz.ntmps20
  go_wp2_with fail
  refine (as_hit_b ⟨q, 0, none⟩ ⟨w.heap.size, 0, none⟩ (.pointer none) w.heap.size _ ?hgA ?htA ?hfA (Nat.le_refl _)).mono ?_
  case hgA => rw [World.cell?_alloc_lt _ _ ⟨0, 0, none⟩ (by simp), World.cell?_alloc_lt _ _ ⟨0, 0, none⟩ hlt]; exact hg
  case htA => rw [World.cell?_alloc_lt _ _ ⟨w.heap.size, 0, none⟩ (by simp)]; simp
  case hfA => rw [World.frozen?_alloc_old _ _ ⟨w.heap.size, 0, none⟩ (by simp)]; simp
  rintro ev w1 ⟨rfl, hc1, hb1⟩
  have hbw : Below w.heap.size w w1 := (((Below.refl _ _).alloc (Nat.le_refl _) _).alloc (by simp) _).trans hb1
  have d0 : w1.cell? ⟨q, 0, none⟩ = some (.int .i64 e) := cell_later hbw h0
  have d1 : w1.cell? ⟨q, 1, none⟩ = some (.int .i64 n) := cell_later hbw h1
  clear hb1
  go_upto_region 6 with fail
  go_quiet (fail)
  go_wp2
  go_ret2
  exact ⟨rfl, hbw.os, hbw.tape, hbw.output, hbw.size, hbw.block⟩
/-- What is laid, and what is told of the world ahead of a call. -/
structure Laid (w : World) : Prop where
  err : w.cell? ⟨0, 0, none⟩ = some (.iface 129 (.agg #[.pointer (some ⟨22, 52, none⟩)]))
  max : ∃ m : Int, w.cell? ⟨14, 0, none⟩ = some (.int .i64 m)
theorem Laid.below {w w' : World} (h : Laid w) (hb : Below w.heap.size w w') : Laid w' := by
  obtain ⟨m, hm⟩ := h.max
  exact ⟨cell_later hb h.err, m, cell_later hb hm⟩
/-- The example. -/
def treeE : List Ent := [⟨⟨#[97]⟩, 1, 493, ⟨#[]⟩⟩, ⟨⟨#[97, 47, 120]⟩, 2, 420, ⟨#[104, 105]⟩⟩, ⟨⟨#[108]⟩, 3, 0, ⟨#[97, 47, 120]⟩⟩]
theorem tree_bad : FirstBad treeE (-1) := .inl ⟨rfl, fun i hi => by
  have h : i = 0 ∨ i = 1 ∨ i = 2 := by simp [treeE] at hi; omega
  rcases h with rfl | rfl | rfl <;> decide +kernel⟩
theorem tree_small : Small treeE := fun e he => by
  simp only [treeE, List.mem_cons, List.not_mem_nil, or_false] at he
  rcases he with rfl | rfl | rfl <;> decide
theorem nil_bad : FirstBad [] (-1) := .inl ⟨rfl, fun i hi => absurd hi (by simp)⟩
theorem nil_small : Small [] := fun e he => by simp at he
theorem erow_nil (w : World) (ao : Option Addr) : ERow w ao [] := fun k e hk => by simp at hk
end Go.Proofs.YtjofjcjojgpaeaaGreatDoor

namespace Go.Proofs.YtjofjcjojgpaeaaGreatDoor
open Go.RowKit

/-- What is laid for Pack. -/
structure LaidK (w : World) : Prop where
  err : w.cell? ⟨0, 0, none⟩ = some (.iface 129 (.agg #[.pointer (some ⟨22, 52, none⟩)]))
  pk : Pk w
theorem LaidK.below {w w' : World} (h : LaidK w) (hb : Below w.heap.size w w') : LaidK w' := ⟨cell_later hb h.err, h.pk.below hb⟩
theorem lPack_any (ao : Option Addr) (cap n : Nat) (cs : List Ent) (w : World) (hr : ERow w ao cs) (HN : Hid (n = cs.length)) (hn : n ≤ 4294967280) (hcap : n ≤ cap) (HS : Hid (Small cs)) (hP : Pk w) (HG : Hid (FirstBadC cs (-1) → n ≤ 80 ∧ ∀ c ∈ cs, PkG c)) :
    Calls Tryz.prog 22 #[.slice ao n cap] w fun ev w' => ∃ v er, ev = .returned (.tuple #[v, er]) ∧ Hid (APkIs w' cs v er) ∧ Below w.heap.size w w' := by
  have h := aPack_any ao cap n cs w hr HN hn hcap HS hP HG
  clear hr HN HS hP HG
  go_enter Tryz.func22, Tryz.ntmps22
  go_wp2_with (go_at_call 32; refine h.mono ?_; clear h; rintro ev w1 ⟨v, er, rfl, HO, hb1⟩)
  go_ret2
  exact ⟨_, _, rfl, HO, hb1⟩
/-- What plain.Pack answers. -/
def PPkIs (cs : List Ent) (s : ByteArray) (e n : Int) : Prop :=
  (s = bt (packL cs) ∧ e = 0 ∧ n = -1 ∧ FirstBadC cs (-1)) ∨ (∃ i : Nat, s = ⟨#[]⟩ ∧ e = 3 ∧ n = i ∧ FirstBadC cs i)
theorem pPack_any (ao : Option Addr) (cap n : Nat) (cs : List Ent) (w : World) (hr : ERow w ao cs) (HN : Hid (n = cs.length)) (hn : n ≤ 4294967280) (hcap : n ≤ cap) (HS : Hid (Small cs)) (hl : LaidK w) (HG : Hid (FirstBadC cs (-1) → n ≤ 80 ∧ ∀ c ∈ cs, PkG c)) :
    Calls Tryz.prog 10 #[.slice ao n cap] w fun ev w' => ∃ s e k, ev = .returned (.tuple #[.string s, .int .i64 e, .int .i64 k]) ∧ Hid (PPkIs cs s e k) ∧ Below w.heap.size w w' := by
  have h := lPack_any ao cap n cs w hr HN hn hcap HS hl.pk HG
  have HL := hide hl
  clear hr HN HS hl HG
  go_enter Tryz.func10, Tryz.ntmps10
  go_upto_region 2 with (go_at_call 22; refine h.mono ?_; clear h; rintro ev w1 ⟨v, er, rfl, HO, hb1⟩)
  have HL1 := hide ((unhide HL).below hb1)
  rcases unhide HO with ⟨s, rfl, hs, rfl, hF⟩ | ⟨i, rfl, ⟨q, rfl, c0, c1⟩, hF⟩
  · have HF := hide hF
    have HS2 := hide hs
    clear HO hF hs
    go_wp2_with (go_at_call 20; refine (tell_nil _).mono ?_; rintro ev w2 ⟨rfl, hb2⟩)
    go_ret3
    exact ⟨_, _, _, rfl, hide (.inl ⟨unhide HS2, rfl, rfl, unhide HF⟩), hb1.trans (hb2.mono hb1.size)⟩
  · have HF := hide hF
    clear HO hF
    go_wp2_with (go_at_call 20; refine (tell_at q 3 i _ (unhide HL1).err c0 c1).mono ?_; rintro ev w2 ⟨rfl, hb2⟩)
    go_ret3
    exact ⟨_, _, _, rfl, hide (.inr ⟨i, rfl, rfl, rfl, unhide HF⟩), hb1.trans (hb2.mono hb1.size)⟩
theorem badC_nil {r : Int} (h : FirstBadC [] r) : r = -1 := by
  rcases h with ⟨h, _⟩ | ⟨i, _, hi, _⟩
  · exact h
  · simp at hi
theorem pack_nil_len : (bt (packL [])).size = 1024 := by
  rw [bt_size, packL, List.length_append, List.length_replicate]; rfl
end Go.Proofs.YtjofjcjojgpaeaaGreatDoor
