import Derived.Test.YtkikhmleffcajaaGreatDoorJFmA
import Derived.Test.YtkikhmleffcajaaGreatDoorTelE
namespace Go.Proofs.YtkikhmleffcajaaGreatDoor
open Go.RowKit Go.Maps

theorem as_hit_b (q t : Addr) (old : Value) (B : Nat) (w : World) (hg : w.cell? ⟨0, 0, none⟩ = some (.iface 140 (.agg #[.pointer (some ⟨22, 34, none⟩)]))) (ht0 : w.cell? t = some old) (hf0 : w.frozen? t = false) (hB : B ≤ t.block) :
    Calls Tryz.prog 20 #[.iface 64 (.pointer (some q)), .iface 66 (.pointer (some t))] w fun ev w' => ev = .returned (.bool true) ∧ w'.cell? t = some (.pointer (some q)) ∧ Below B w w' := by
  have htl : t.block < w.heap.size := World.block_lt_of_cell? _ _ ht0
  refine (as_hit q t old w hg ht0 hf0).mono ?_
  rintro e w' ⟨rfl, rfl⟩
  refine ⟨rfl, ?_, (((((Below.refl _ _).alloc (by omega) _).alloc (by simp; omega) _).alloc (by simp; omega) _).alloc (by simp; omega) _).setCell hB _⟩
  refine World.cell?_setCell_same _ _ _ (u := old) (by rw [World.cell?_alloc_lt _ _ t (by simp; omega), World.cell?_alloc_lt _ _ t (by simp; omega), World.cell?_alloc_lt _ _ t (by simp; omega), World.cell?_alloc_lt _ _ t htl]; exact ht0)
set_option maxHeartbeats 2000000 in
theorem tell_at (q : Nat) (e n : Int) (w : World) (hg : w.cell? ⟨0, 0, none⟩ = some (.iface 140 (.agg #[.pointer (some ⟨22, 34, none⟩)]))) (h0 : w.cell? ⟨q, 0, none⟩ = some (.int .i64 e)) (h1 : w.cell? ⟨q, 1, none⟩ = some (.int .i64 n)) :
    Calls Tryz.prog 8 #[.iface 64 (.pointer (some ⟨q, 0, none⟩))] w fun ev w' => ev = .returned (.tuple #[.int .i64 e, .int .i64 n]) ∧ Below w.heap.size w w' := by
  have hlt : 0 < w.heap.size := World.block_lt_of_cell? _ _ hg
  have hq : q < w.heap.size := World.block_lt_of_cell? _ _ h0
  go_enter Tryz.func8, Tryz.ntmps8
  go_wp2_with fail
  refine (as_hit_b ⟨q, 0, none⟩ ⟨w.heap.size, 0, none⟩ (.pointer none) w.heap.size _ ?hgA ?htA ?hfA (Nat.le_refl _)).mono ?_
  case hgA => rw [World.cell?_alloc_lt _ _ ⟨0, 0, none⟩ (by simp), World.cell?_alloc_lt _ _ ⟨0, 0, none⟩ hlt]; exact hg
  case htA => rw [World.cell?_alloc_lt _ _ ⟨w.heap.size, 0, none⟩ (by simp)]; simp
  case hfA => rw [World.frozen?_alloc_old _ _ ⟨w.heap.size, 0, none⟩ (by simp)]; simp
  rintro ev w1 ⟨rfl, hc1, hb1⟩
  have hbw : Below w.heap.size w w1 := (((Below.refl _ _).alloc (Nat.le_refl _) _).alloc (by simp) _).trans hb1
  have d0 : w1.cell? ⟨q, 0, none⟩ = some (.int .i64 e) := cell_later hbw h0
  have d1 : w1.cell? ⟨q, 1, none⟩ = some (.int .i64 n) := cell_later hbw h1
  clear hb1
  go_upto_region 6 with fail
  go_quiet (fail)
  go_wp2
  go_ret2
  exact ⟨rfl, hbw.os, hbw.tape, hbw.output, hbw.size, hbw.block⟩

/-- The form of what was read. -/
def lineG (i : Ins) : List UInt8 := formI (i.ws.map Wd.atoms) ++ [10]
def formG (st : List Stg) : List UInt8 := (st.map fun s => (s.ins.map lineG).flatten).flatten
def szG (st : List Stg) : Nat := (st.map fun s => (s.ins.map fun i => szI (i.ws.map Wd.atoms) + 1).sum).sum
theorem atoms_xs (l : List WdM) : (l.map WdM.wd).map Wd.atoms = l.map WdM.xs := by rw [List.map_map]; rfl
theorem filL_form (ss : List StM) : filL ss = formG (ss.map StM.stg) := by
  unfold filL formG
  rw [List.map_map]
  congr 1
  refine List.map_congr_left fun s _ => ?_
  show insL s.ins = ((s.ins.map InM.ins).map lineG).flatten
  unfold insL
  rw [List.map_map]
  congr 1
  refine List.map_congr_left fun m _ => ?_
  show formI _ ++ [10] = formI ((m.ws.map WdM.wd).map Wd.atoms) ++ [10]
  rw [atoms_xs]
theorem szF_form (ss : List StM) : szF ss = szG (ss.map StM.stg) := by
  unfold szF szG
  rw [List.map_map]
  congr 1
  refine List.map_congr_left fun s _ => ?_
  show szL s.ins = ((s.ins.map InM.ins).map fun i => szI (i.ws.map Wd.atoms) + 1).sum
  unfold szL
  rw [List.map_map]
  congr 1
  refine List.map_congr_left fun m _ => ?_
  show szI _ + 1 = szI ((m.ws.map WdM.wd).map Wd.atoms) + 1
  rw [atoms_xs]
theorem err_nil (w : World) : (binOp BinOp.neq 33 .nilIface .nilIface).run Tryz.prog w = .ok (.bool false) w := by kernel_rfl
theorem err_some (v : Value) (w : World) : (binOp BinOp.neq 33 (.iface 64 v) .nilIface).run Tryz.prog w = .ok (.bool true) w := by kernel_rfl
/-- What layers.Parse comes to. -/
def ParseOut (w' : World) (ev : Ending) (r : Res (List Stg)) : Prop := match r with
  | .error (e, p) => ∃ a : Nat, ev = .returned (.tuple #[.string ⟨#[]⟩, .iface 64 (.pointer (some ⟨a, 0, none⟩))]) ∧ w'.heap[a]? = some (.cells #[.int .i64 (e : Int), .int .i64 (p : Int)] 68 (0, 0))
  | .ok st => ∃ u : ByteArray, ev = .returned (.tuple #[.string u, .nilIface]) ∧ u.data.toList = formG st
/-- What plain.Parse comes to. -/
def TopOut (ev : Ending) (r : Res (List Stg)) : Prop := match r with
  | .error (e, p) => ev = .returned (.tuple #[.string ⟨#[]⟩, .int .i64 (e : Int), .int .i64 (p : Int)])
  | .ok st => ∃ u : ByteArray, ev = .returned (.tuple #[.string u, .int .i64 0, .int .i64 (-1)]) ∧ u.data.toList = formG st
end Go.Proofs.YtkikhmleffcajaaGreatDoor
