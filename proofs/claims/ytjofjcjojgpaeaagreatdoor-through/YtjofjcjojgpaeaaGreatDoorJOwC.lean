import Derived.Test.YtjofjcjojgpaeaaGreatDoorJChl
import Derived.Test.YtjofjcjojgpaeaaGreatDoorJUnpI
namespace Go.Proofs.YtjofjcjojgpaeaaGreatDoor
open Go.RowKit Go.Maps

theorem Tryz.info37 : (Tryz.prog.info? 37).map (fun i => (i.zero, i.size, i.bytes)) = some (some (.agg #[.string ByteArray.empty, .int .i64 0, .int .i64 0, .string ByteArray.empty]), 4, 48) := by kernel_rfl
/-- A row of changes that the call made. -/
def OwnC (w : World) (B : Nat) (v : Value) (ks : List Ent) : Prop := w.ownsRow B 37 4 v ks.length (entC ks)
theorem ownC_row {w : World} {B : Nat} {v : Value} {ks : List Ent} (h : OwnC w B v ks) : ∃ ao cap n, v = .slice ao n cap ∧ Hid (n = ks.length) ∧ ERow w ao ks ∧ n ≤ cap := by
  rcases h.2 with ⟨rfl, h0⟩ | ⟨g, cap, cur, rfl, hb, hg, hnc, _⟩
  · have : ks = [] := List.length_eq_zero_iff.1 h0
    subst this
    exact ⟨none, 0, 0, rfl, hide rfl, fun k e hk => by simp at hk, Nat.le_refl _⟩
  · refine ⟨some ⟨g, 0, none⟩, cap, ks.length, rfl, hide rfl, fun k e hk => ?_, hnc⟩
    have hk' : k < ks.length := (List.getElem?_eq_some_iff.1 hk).1
    obtain ⟨h1, h2, h3, h4⟩ := entC_get hk
    refine ⟨g, 0, rfl, ?_, ?_, ?_, ?_⟩
    · rw [Nat.zero_add, World.ownsRow.cellAt h _ (by omega), h1]
    · rw [Nat.zero_add, World.ownsRow.cellAt h _ (by omega), h2]
    · rw [Nat.zero_add, World.ownsRow.cellAt h _ (by omega), h3]
    · rw [Nat.zero_add, World.ownsRow.cellAt h _ (by omega), h4]
theorem OwnC.later {w w' : World} {B : Nat} {v : Value} {ks : List Ent} (h : OwnC w B v ks) (hb : Below w.heap.size w w') : OwnC w' B v ks :=
  World.ownsRow.kept (row := none) h ⟨hb.os, hb.tape, hb.output, hb.size, fun k hk _ => hb.block k hk⟩ (by cases v.ownBlock <;> simp)
theorem ownC_snoc {w : World} {B : Nat} {v : Value} {ks : List Ent} {e : Ent} (h : w.ownsRow B 37 4 v (ks.length + 1) (entC ks ++ ec e)) : OwnC w B v (ks ++ [e]) := by
  unfold OwnC
  rw [List.length_append, show entC (ks ++ [e]) = entC ks ++ ec e from by simp [entC]]
  exact h
theorem ec_oneC (e : Ent) : ∀ y ∈ ec e, y.oneCell' = true := fun y hy => by
  simp [ec] at hy
  rcases hy with rfl | rfl | rfl | rfl <;> rfl
theorem ownC_below {w W w1 : World} {v : Value} {ks : List Ent} {o : Obj} (h : OwnC W w.heap.size v ks) (hb : Below w.heap.size w W) (hg : (W.alloc o).grownBy w1 v.ownBlock) : Below w.heap.size w w1 :=
  (hb.alloc hb.size o).grown hg (by have := hb.size; simp; omega) (fun q hq => (World.ownsRow.lt h q hq).1)
theorem OwnC.base {w : World} {B B' : Nat} {v : Value} {ks : List Ent} (h : OwnC w B v ks) (hb : B' ≤ B) : OwnC w B' v ks := by
  refine ⟨h.1, ?_⟩
  rcases h.2 with h1 | ⟨g, cap, cur, h1, h2, h3⟩
  · exact .inl h1
  · exact .inr ⟨g, cap, cur, h1, Nat.le_trans hb h2, h3⟩
end Go.Proofs.YtjofjcjojgpaeaaGreatDoor

namespace Go.Proofs.YtjofjcjojgpaeaaGreatDoor
open Go.RowKit

/-- What archive.Unpack answers. -/
def AUnpIs (w : World) (B : Nat) (s : List UInt8) (v er : Value) : Prop :=
  (∃ cs, OwnC w B v cs ∧ er = .nilIface ∧ UnpOk s cs) ∨ (∃ i : Nat, v = .slice none 0 0 ∧ ErIs w er 4 i ∧ UnpBad s i)
theorem own_slice {w : World} {B : Nat} {v : Value} {ks : List Ent} (h : OwnC w B v ks) : v = .slice none 0 0 ∧ ks = [] ∨ ∃ g cap, v = .slice (some ⟨g, 0, none⟩) ks.length cap := by
  rcases h.2 with ⟨rfl, h0⟩ | ⟨g, cap, cur, rfl, _⟩
  · exact .inl ⟨rfl, List.length_eq_zero_iff.1 h0⟩
  · exact .inr ⟨g, cap, rfl⟩
theorem rest_less {s b : ByteArray} {c : Ent} (h : chOk c = true) (e : s.data.toList = entryL c ++ b.data.toList) : b.size + 512 ≤ s.size := by
  have h1 := (ent_fld (pkg_of h) b.data.toList).len
  have h2 := congrArg List.length e
  rw [List.length_append, ← Lib.size_eq, ← Lib.size_eq] at h2
  have h3 := entry_long h []
  rw [List.append_nil] at h3
  omega
set_option maxHeartbeats 2000000 in
set_option maxRecDepth 10000 in
theorem aUnpack_any (s : ByteArray) (w : World) (hR : Rd w) (hs : s.size ≤ 281474976710656) :
    Calls Tryz.prog 33 #[.string s] w fun ev w' => ∃ v er, ev = .returned (.tuple #[v, er]) ∧ Hid (AUnpIs w' w.heap.size s.data.toList v er) ∧ Below w.heap.size w w' := by
  obtain ⟨i0, hi, hz0, hz1, hz2⟩ := info_parts Tryz.info37
  have HR := hide hR
  clear hR
  go_enter Tryz.func33, Tryz.ntmps33
  go_wp2_with fail
  go_loopw [4, 5] (fun v r wr => ∃ (cs : List Ent) (x : ByteArray), r = .string x ∧ OwnC wr w.heap.size v cs ∧ Hid (Chain cs) ∧ Hid (s.data.toList = flatE cs ++ x.data.toList) ∧ Below w.heap.size w wr ∧ x.size ≤ s.size) (fun _ r _ => match r with | .string x => x.size | _ => 0)
  case atStart => exact ⟨[], s, rfl, World.ownsRow_nil _ _ _ _, hide chain_nil, hide (by simp [flatE]), Below.refl _ _, Nat.le_refl _⟩
  case round =>
    obtain ⟨cs, x, rfl, hO, HC, HX, hb, hxs⟩ := hrel
    obtain ⟨T, hT⟩ : ∃ T, T = bt (List.replicate 1024 0) := ⟨_, rfl⟩
    have hEn := ending_any wr
    rw [← hT] at hEn
    by_cases hx : x = T
    · have HU : Hid (UnpOk s.data.toList cs) := hide ⟨unhide HC, by rw [unhide HX, hx, hT, bt_list]; rfl⟩
      subst hx
      clear hT HX HC
      go_wp2_with (go_at_call 57; refine hEn.mono ?_; clear hEn; rintro ev w2 ⟨rfl, hb2⟩)
      go_ret2
      exact ⟨_, _, rfl, hide (.inl ⟨cs, hO.later hb2, rfl, unhide HU⟩), hb.trans (hb2.mono hb.size)⟩
    · have hx2 : (x.toList == T.toList) = false := by
        rw [Lib.toList_data, Lib.toList_data]
        simp only [beq_eq_false_iff_ne, ne_eq]
        exact fun e => hx (by rw [← bt_of x, e, bt_of])
      obtain ⟨ao, cap, n, rfl, HN, hrow, hcap⟩ := ownC_row hO
      have hn : n ≤ 80 := by rw [unhide HN]; exact chain_len (unhide HC)
      have HO := hide hO
      have HRow := hide hrow
      have HNe : Hid (x.data.toList ≠ endL) := hide (fun e => hx (by rw [hT, ← bt_of x, e]; rfl))
      clear hT hO hrow
      go_upto_region 4 with (go_at_call 57; refine hEn.mono ?_; clear hEn; rintro ev w2 ⟨rfl, hb2⟩)
      have hB2 : Below w.heap.size w w2 := hb.trans (hb2.mono hb.size)
      have HNx := hide (next_any ao cap n cs x w2 ((unhide HRow).below hb2) HN (by omega) (hide (chain_small (unhide HC))) ((unhide HR).below hB2) (by omega))
      have HO2 := hide ((unhide HO).later hb2)
      clear HRow HO hb2 hx hx2
      go_upto_region 5 with (go_at_call 59; refine (unhide HNx).mono ?_; rintro ev w3 ⟨v3, rfl, HV, hb3⟩; obtain ⟨c, b, ok, rfl, hN⟩ := unhide HV; have HNI := hide hN; clear HV hN)
      obtain ⟨W3, hW3⟩ : ∃ W3, W3 = w3.alloc (.cells #[.string c.path, .int .i64 c.kind, .int .i64 c.mode, .string c.data] 37) := ⟨_, rfl⟩
      rw [← hW3]
      have hb3' : Below w3.heap.size w3 W3 := by rw [hW3]; exact (Below.refl _ _).alloc (Nat.le_refl _) _
      have hB23 : Below w2.heap.size w2 W3 := hb3.trans (hb3'.mono hb3.size)
      have hB3 : Below w.heap.size w W3 := hB2.trans (hB23.mono hB2.size)
      have HO3 := hide ((unhide HO2).later hB23)
      have hq := (by rw [hW3]; exact heap_alloc_new _ _ : W3.heap[w3.heap.size]? = some (.cells #[.string c.path, .int .i64 c.kind, .int .i64 c.mode, .string c.data] 37 (0, 0)))
      have q0 : W3.cell? ⟨w3.heap.size, 0, none⟩ = some (.string c.path) := cell_of_row _ _ 0 _ _ _ hq
      have q1 : W3.cell? ⟨w3.heap.size, 1, none⟩ = some (.int .i64 c.kind) := cell_of_row _ _ 1 _ _ _ hq
      have q2 : W3.cell? ⟨w3.heap.size, 2, none⟩ = some (.int .i64 c.mode) := cell_of_row _ _ 2 _ _ _ hq
      have q3 : W3.cell? ⟨w3.heap.size, 3, none⟩ = some (.string c.data) := cell_of_row _ _ 3 _ _ _ hq
      clear hW3 hb3' hB23 hb3 hq HO2 HNx hB2
      cases ok with
      | false =>
        have HB : Hid (UnpBad s.data.toList (s.size - x.size)) := hide (by
          rcases unhide HNI with ⟨h, _⟩ | ⟨_, h⟩
          · cases h
          · refine ⟨cs, x.data.toList, unhide HC, unhide HX, ?_, unhide HNe, h⟩
            have := congrArg List.length (unhide HX)
            rw [List.length_append, ← Lib.size_eq, ← Lib.size_eq] at this
            omega)
        obtain ⟨i, hi2⟩ : ∃ i : Nat, i = s.size - x.size := ⟨_, rfl⟩
        rw [← hi2] at HB
        have i1 : (s.size : Int) - (x.size : Int) = (i : Int) := by omega
        clear hi2 HNI HX HC
        go_wp2_with fail
        go_ret2
        refine ⟨_, _, rfl, hide (.inr ⟨i, rfl, ⟨W3.heap.size, rfl, ?_, ?_⟩, unhide HB⟩), hB3.alloc hB3.size _⟩
        · exact cell_of_row _ _ 0 _ _ _ (heap_alloc_new W3 _)
        · exact cell_of_row _ _ 1 _ _ _ (heap_alloc_new W3 _)
      | true =>
        have HA : Hid (mayF cs c = true ∧ x.data.toList = entryL c ++ b.data.toList) := hide (by
          rcases unhide HNI with ⟨_, h1, h2⟩ | ⟨h, _⟩
          · exact ⟨h1, h2⟩
          · cases h)
        have hbx : b.size + 512 ≤ x.size := rest_less (mayF_ch (unhide HA).1) (unhide HA).2
        have HC2 : Hid (Chain (cs ++ [c])) := hide (chain_snoc (unhide HC) (unhide HA).1)
        have HX2 : Hid (s.data.toList = flatE (cs ++ [c]) ++ b.data.toList) := hide (by rw [flatE_snoc', unhide HX, (unhide HA).2, List.append_assoc])
        clear HNI HX HC HA
        have hks : cs.length ≤ 80 := by rw [← unhide HN]; exact hn
        go_wp2_with (at_builtin; refine wpList_append_own _ rfl _ _ 25 rfl w.heap.size 37 i0 _ 4 48 Tryz.underlying25 hi hz0 hz1 hz2 rfl (by decide) _ _ _ rfl (World.ownsRow.alloc (unhide HO3) _) ⟨W3.heap.size, 0, none⟩ 1 1 (ec c) rfl rfl (World.news_of_block (cs := #[.string c.path, .int .i64 c.kind, .int .i64 c.mode, .string c.data]) (t := 37) (fr := (0, 0)) (heap_alloc_new _ _)) (ec_oneC _) (by unfold maxLen; omega) (by omega) (by have := hB3.size; simp; omega) ?_; intro v6 w6 hown6 hgrow6 _; have HO6 := hide (ownC_snoc hown6); have hB6 := ownC_below (unhide HO3) hB3 hgrow6; clear hown6 hgrow6)
        go_roundw
        case rel =>
          first
            | exact ⟨cs ++ [c], b, rfl, unhide HO6, HC2, HX2, hB6, by omega⟩
            | ((repeat apply Exists.intro); exact ⟨⟨cs ++ [c], b, rfl, unhide HO6, HC2, HX2, hB6, by omega⟩, rfl⟩)
        case measure => simp; omega
end Go.Proofs.YtjofjcjojgpaeaaGreatDoor
