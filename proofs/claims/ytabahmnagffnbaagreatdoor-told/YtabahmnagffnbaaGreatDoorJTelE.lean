import Derived.Test.YtabahmnagffnbaaGreatDoorJAs
import Derived.Test.YtabahmnagffnbaaGreatDoorJRefC
import Derived.Test.YtabahmnagffnbaaGreatDoorJOfA
namespace Go.Proofs.YtabahmnagffnbaaGreatDoor
open Go.RowKit Go.Extern.Stop Go.Stop Go.Extern

theorem Tryz.valueOf61 (t : Addr) (w : World) : (ReflectliteValue.unpack (.iface 61 (.pointer (some t)))).run Tryz.prog w
    = .ok (.agg #[.pointer (some ⟨8, 61, none⟩), .pointer (some ⟨w.heap.size, 0, none⟩), .int .u64 150]) (w.alloc (.cells #[.pointer (some t)] 61)) := by kernel_rfl
theorem Tryz.valueOf29 (n : Int) (w : World) : (ReflectliteValue.unpack (.iface 29 (.int .i64 n))).run Tryz.prog w
    = .ok (.agg #[.pointer (some ⟨8, 29, none⟩), .pointer (some ⟨w.heap.size, 0, none⟩), .int .u64 130]) (w.alloc (.cells #[.int .i64 n] 29)) := by kernel_rfl
theorem Tryz.type61 (a : Addr) (w : World) : (ReflectliteValue.methodAny (ReflectliteValue.valueError "reflectlite.Value.Type" 0) (fun t _ _ _ => ReflectliteType.toType t) #[.agg #[.pointer (some ⟨8, 61, none⟩), .pointer (some a), .int .u64 150]]).run Tryz.prog w
    = .ok (.iface 124 (.agg #[.pointer (some ⟨8, 61, none⟩)])) w := by kernel_rfl
theorem Tryz.kind61 (w : World) : ((ReflectliteType.abiMethod fun t => Functor.map (fun a : Nat => Value.int IntKind.u8 (a : Int)) (Rtype.kind t)) #[.pointer (some ⟨8, 61, none⟩)]).run Tryz.prog w = .ok (.int .u8 22) w := by kernel_rfl
theorem Tryz.kind29 (w : World) : ((ReflectliteType.abiMethod fun t => Functor.map (fun a : Nat => Value.int IntKind.u8 (a : Int)) (Rtype.kind t)) #[.pointer (some ⟨8, 29, none⟩)]).run Tryz.prog w = .ok (.int .u8 2) w := by kernel_rfl
theorem Tryz.elem61 (w : World) : (ReflectliteType.method ReflectliteType.elem #[.agg #[.pointer (some ⟨8, 61, none⟩)]]).run Tryz.prog w = .ok (.iface 124 (.agg #[.pointer (some ⟨8, 29, none⟩)])) w := by kernel_rfl
theorem Tryz.implements29 (w : World) : (ReflectliteType.relation "Implements" ReflectliteType.implements_ #[.agg #[.pointer (some ⟨8, 29, none⟩)], .iface 124 (.agg #[.pointer (some ⟨8, 41, none⟩)])]).run Tryz.prog w = .ok (.bool true) w := by kernel_rfl
theorem Tryz.typeOf29 (v : Value) (w : World) : (ReflectliteType.typeOf #[.iface 29 v]).run Tryz.prog w = .ok (.iface 124 (.agg #[.pointer (some ⟨8, 29, none⟩)])) w := by kernel_rfl
theorem Tryz.assignableE83 (w : World) : (ReflectliteType.relation "AssignableTo" ReflectliteType.assignableTo #[.agg #[.pointer (some ⟨8, 29, none⟩)], .iface 124 (.agg #[.pointer (some ⟨8, 56, none⟩)])]).run Tryz.prog w = .ok (.bool false) w := by kernel_rfl
theorem Tryz.assignable29 (w : World) : (ReflectliteType.relation "AssignableTo" ReflectliteType.assignableTo #[.agg #[.pointer (some ⟨8, 29, none⟩)], .iface 124 (.agg #[.pointer (some ⟨8, 29, none⟩)])]).run Tryz.prog w = .ok (.bool true) w := by kernel_rfl

theorem Tryz.parts61 (a : Addr) (w : World) : (ReflectliteValue.parts (.agg #[.pointer (some ⟨8, 61, none⟩), .pointer (some a), .int .u64 150])).run Tryz.prog w = .ok (some (61, a, 150)) w := by kernel_rfl
theorem Tryz.isNil61 (a p : Addr) (W : World) (ha : W.cell? a = some (.pointer (some p))) :
    (ReflectliteValue.method (ReflectliteValue.valueError "reflectlite.Value.IsNil" 0) ReflectliteValue.isNil #[.agg #[.pointer (some ⟨8, 61, none⟩), .pointer (some a), .int .u64 150]]).run Tryz.prog W = .ok (.bool false) W := by
  rw [show ReflectliteValue.method (ReflectliteValue.valueError "reflectlite.Value.IsNil" 0) ReflectliteValue.isNil #[.agg #[.pointer (some ⟨8, 61, none⟩), .pointer (some a), .int .u64 150]] = (ReflectliteValue.parts (.agg #[.pointer (some ⟨8, 61, none⟩), .pointer (some a), .int .u64 150]) >>= _) from rfl]
  simp only [Sem.run_bind, Tryz.parts61, Result.andThen]
  simp [ReflectliteValue.isNil, loadVar, isAgg, underlying, Tryz.underlying61, ha, Result.andThen]
theorem Tryz.elemOf61 (w : World) : (Rtype.elem? 61).run Tryz.prog w = .ok (some 29) w := by kernel_rfl
theorem Tryz.mk29 (p : Addr) (w : World) : (ReflectliteValue.mk 29 p ReflectliteValue.flagAddr).run Tryz.prog w = .ok (.agg #[.pointer (some ⟨8, 29, none⟩), .pointer (some p), .int .u64 386]) w := by kernel_rfl
theorem Tryz.elemV61 (a p : Addr) (W : World) (ha : W.cell? a = some (.pointer (some p))) :
    (ReflectliteValue.method (ReflectliteValue.valueError "reflectlite.Value.Elem" 0) ReflectliteValue.elem #[.agg #[.pointer (some ⟨8, 61, none⟩), .pointer (some a), .int .u64 150]]).run Tryz.prog W
      = .ok (.agg #[.pointer (some ⟨8, 29, none⟩), .pointer (some p), .int .u64 386]) W := by
  rw [show ReflectliteValue.method (ReflectliteValue.valueError "reflectlite.Value.Elem" 0) ReflectliteValue.elem #[.agg #[.pointer (some ⟨8, 61, none⟩), .pointer (some a), .int .u64 150]] = (ReflectliteValue.parts (.agg #[.pointer (some ⟨8, 61, none⟩), .pointer (some a), .int .u64 150]) >>= _) from rfl]
  simp only [Sem.run_bind, Tryz.parts61, Result.andThen]
  simp [ReflectliteValue.elem, loadVar, isAgg, underlying, Tryz.underlying61, ha, Result.andThen, Tryz.elemOf61, Tryz.mk29]
theorem Tryz.parts29a (a : Addr) (w : World) : (ReflectliteValue.parts (.agg #[.pointer (some ⟨8, 29, none⟩), .pointer (some a), .int .u64 386])).run Tryz.prog w = .ok (some (29, a, 386)) w := by kernel_rfl
theorem Tryz.parts29 (a : Addr) (w : World) : (ReflectliteValue.parts (.agg #[.pointer (some ⟨8, 29, none⟩), .pointer (some a), .int .u64 130])).run Tryz.prog w = .ok (some (29, a, 130)) w := by kernel_rfl
theorem Tryz.direct29 (w : World) : (Rtype.directlyAssignable 29 29).run Tryz.prog w = .ok true w := by kernel_rfl
theorem Tryz.set29 (ta b : Addr) (n : Int) (old : Value) (W : World) (hb : W.cell? b = some (.int .i64 n)) (ht : W.cell? ta = some old) (hf : W.frozen? ta = false) :
    (ReflectliteValue.set #[.agg #[.pointer (some ⟨8, 29, none⟩), .pointer (some ta), .int .u64 386], .agg #[.pointer (some ⟨8, 29, none⟩), .pointer (some b), .int .u64 130]]).run Tryz.prog W
      = .ok (.tuple #[]) (W.setCell ta (.int .i64 n)) := by
  rw [show ReflectliteValue.set #[.agg #[.pointer (some ⟨8, 29, none⟩), .pointer (some ta), .int .u64 386], .agg #[.pointer (some ⟨8, 29, none⟩), .pointer (some b), .int .u64 130]] = (ReflectliteValue.parts (.agg #[.pointer (some ⟨8, 29, none⟩), .pointer (some ta), .int .u64 386]) >>= fun _ => ReflectliteValue.parts (.agg #[.pointer (some ⟨8, 29, none⟩), .pointer (some b), .int .u64 130]) >>= _) from rfl]
  simp only [Sem.run_bind, Tryz.parts29a, Tryz.parts29, Result.andThen]
  simp [ReflectliteValue.flagAddr, loadVar, isAgg, underlying, Tryz.underlying29, hb, Result.andThen, Tryz.direct29, storeVar, Value.cells, storeCells, Addr.add]
  rw [run_store Tryz.prog W ta _ _ (by rfl)]
  simp [ht, hf]
theorem Tryz.noAs (v : Value) (xT : TypeId) (w : World) : (Instr.typeAssert (.iface 29 v) xT 129 true).run Tryz.prog w = .ok (.tuple #[.nilIface, .bool false]) w := run_typeAssert_lacksB Tryz.underlying129 (by kernel_rfl) (by kernel_rfl) v xT w
theorem Tryz.noUnwrap (v : Value) (xT : TypeId) (w : World) : (Instr.typeAssert (.iface 29 v) xT 132 true).run Tryz.prog w = .ok (.tuple #[.nilIface, .bool false]) w := run_typeAssert_lacksB Tryz.underlying132 (by kernel_rfl) (by kernel_rfl) v xT w
theorem Tryz.noUnwraps (v : Value) (xT : TypeId) (w : World) : (Instr.typeAssert (.iface 29 v) xT 134 true).run Tryz.prog w = .ok (.tuple #[.nilIface, .bool false]) w := run_typeAssert_lacksB Tryz.underlying134 (by kernel_rfl) (by kernel_rfl) v xT w
set_option maxHeartbeats 4000000 in
theorem as_miss (n : Int) (t : Addr) (w : World) (hg : w.cell? ⟨0, 0, none⟩ = some (.iface 124 (.agg #[.pointer (some ⟨8, 41, none⟩)]))) :
    Calls Tryz.prog 22 #[.iface 29 (.int .i64 n), .iface 58 (.pointer (some t))] w fun ev w' => ev = .returned (.bool false) ∧ w' = (((w.alloc (.cells #[.pointer (some t)] 58)).alloc (.cells #[.pointer (some ⟨8, 58, none⟩), .pointer (some ⟨w.heap.size, 0, none⟩), .int .u64 150] 79)).alloc (.cells #[.pointer (some ⟨8, 58, none⟩), .pointer (some ⟨w.heap.size, 0, none⟩), .int .u64 150] 79)) := by
  have h23 := @run_callFunc_extern Tryz.prog 33 _ (fun args => ReflectliteValue.unpack (args.getD 0 (.tuple #[]))) Tryz.func33 (by kernel_rfl) (by kernel_rfl) (by kernel_rfl) (by kernel_rfl)
  have h24 := @run_callFunc_extern Tryz.prog 34 _ (ReflectliteValue.methodAny (ReflectliteValue.valueError "reflectlite.Value.Type" 0) (fun t _ _ _ => ReflectliteType.toType t)) Tryz.func34 (by kernel_rfl) (by kernel_rfl) (by kernel_rfl) (by kernel_rfl)
  have h25 := @run_callFunc_extern Tryz.prog 35 _ (ReflectliteValue.method (ReflectliteValue.valueError "reflectlite.Value.IsNil" 0) ReflectliteValue.isNil) Tryz.func35 (by kernel_rfl) (by kernel_rfl) (by kernel_rfl) (by kernel_rfl)
  have h69 := @run_callFunc_extern Tryz.prog 173 _ (ReflectliteType.abiMethod fun t => do pure (.int .u8 (← Rtype.kind t))) Tryz.func173 (by kernel_rfl) (by kernel_rfl) (by kernel_rfl) (by kernel_rfl)
  have h82 := @run_callFunc_extern Tryz.prog 187 _ (ReflectliteType.method ReflectliteType.elem) Tryz.func187 (by kernel_rfl) (by kernel_rfl) (by kernel_rfl) (by kernel_rfl)
  have h83 := @run_callFunc_extern Tryz.prog 188 _ (ReflectliteType.relation "Implements" ReflectliteType.implements_) Tryz.func188 (by kernel_rfl) (by kernel_rfl) (by kernel_rfl) (by kernel_rfl)
  have h34 := @run_callFunc_extern Tryz.prog 64 _ ReflectliteType.typeOf Tryz.func64 (by kernel_rfl) (by kernel_rfl) (by kernel_rfl) (by kernel_rfl)
  have h80 := @run_callFunc_extern Tryz.prog 185 _ (ReflectliteType.relation "AssignableTo" ReflectliteType.assignableTo) Tryz.func185 (by kernel_rfl) (by kernel_rfl) (by kernel_rfl) (by kernel_rfl)
  have tO := Tryz.typeOf29
  have mA := Tryz.methodAssignableTo
  have a39 := Tryz.assignableE83
  have f6 := Tryz.valueOf58
  have f7 := Tryz.type58
  have mK := Tryz.methodKind
  have mE := Tryz.methodElem
  have mI := Tryz.methodImplements
  have k41 := Tryz.kind58
  have k39 := Tryz.kind56
  have e41 := Tryz.elem58
  have i39 := Tryz.implements56
  have nA := Tryz.noAs
  have nU := Tryz.noUnwrap
  have nUs := Tryz.noUnwraps
  have n8 := Tryz.isNil58 ⟨w.heap.size, 0, none⟩ t ((w.alloc (.cells #[.pointer (some t)] 58)).alloc (.cells #[.pointer (some ⟨8, 58, none⟩), .pointer (some ⟨w.heap.size, 0, none⟩), .int .u64 150] 79)) (by simp)
  have hlt : 0 < w.heap.size := by
    rcases Nat.eq_zero_or_pos w.heap.size with h0 | h
    · simp [World.cell?, h0] at hg
    · exact h
  have hg2 : ((w.alloc (.cells #[.pointer (some t)] 58)).alloc (.cells #[.pointer (some ⟨8, 58, none⟩), .pointer (some ⟨w.heap.size, 0, none⟩), .int .u64 150] 79)).cell? ⟨0, 0, none⟩ = some (.iface 124 (.agg #[.pointer (some ⟨8, 41, none⟩)])) := by
    rw [World.cell?_alloc_lt _ _ ⟨0, 0, none⟩ (by simp), World.cell?_alloc_lt _ _ ⟨0, 0, none⟩ hlt]; exact hg
  go_enter Tryz.func22, Tryz.ntmps22
  go_wp2
  refine wp_loop_rounds 1 ?_
  rw [rounds_succ]
  go_wp2
  go_ret
  exact ⟨rfl, rfl⟩

set_option maxHeartbeats 4000000 in
theorem as_hitE (n : Int) (t : Addr) (old : Value) (w : World) (hg : w.cell? ⟨0, 0, none⟩ = some (.iface 124 (.agg #[.pointer (some ⟨8, 41, none⟩)]))) (ht0 : w.cell? t = some old) (hf0 : w.frozen? t = false) :
    Calls Tryz.prog 22 #[.iface 29 (.int .i64 n), .iface 61 (.pointer (some t))] w fun ev w' => ev = .returned (.bool true) ∧ w' = ((((w.alloc (.cells #[.pointer (some t)] 61)).alloc (.cells #[.pointer (some ⟨8, 61, none⟩), .pointer (some ⟨w.heap.size, 0, none⟩), .int .u64 150] 79)).alloc (.cells #[.pointer (some ⟨8, 61, none⟩), .pointer (some ⟨w.heap.size, 0, none⟩), .int .u64 150] 79)).alloc (.cells #[.int .i64 n] 29)).setCell t (.int .i64 n) := by
  have h23 := @run_callFunc_extern Tryz.prog 33 _ (fun args => ReflectliteValue.unpack (args.getD 0 (.tuple #[]))) Tryz.func33 (by kernel_rfl) (by kernel_rfl) (by kernel_rfl) (by kernel_rfl)
  have h24 := @run_callFunc_extern Tryz.prog 34 _ (ReflectliteValue.methodAny (ReflectliteValue.valueError "reflectlite.Value.Type" 0) (fun t _ _ _ => ReflectliteType.toType t)) Tryz.func34 (by kernel_rfl) (by kernel_rfl) (by kernel_rfl) (by kernel_rfl)
  have h25 := @run_callFunc_extern Tryz.prog 35 _ (ReflectliteValue.method (ReflectliteValue.valueError "reflectlite.Value.IsNil" 0) ReflectliteValue.isNil) Tryz.func35 (by kernel_rfl) (by kernel_rfl) (by kernel_rfl) (by kernel_rfl)
  have h69 := @run_callFunc_extern Tryz.prog 173 _ (ReflectliteType.abiMethod fun t => do pure (.int .u8 (← Rtype.kind t))) Tryz.func173 (by kernel_rfl) (by kernel_rfl) (by kernel_rfl) (by kernel_rfl)
  have h82 := @run_callFunc_extern Tryz.prog 187 _ (ReflectliteType.method ReflectliteType.elem) Tryz.func187 (by kernel_rfl) (by kernel_rfl) (by kernel_rfl) (by kernel_rfl)
  have h83 := @run_callFunc_extern Tryz.prog 188 _ (ReflectliteType.relation "Implements" ReflectliteType.implements_) Tryz.func188 (by kernel_rfl) (by kernel_rfl) (by kernel_rfl) (by kernel_rfl)
  have h34 := @run_callFunc_extern Tryz.prog 64 _ ReflectliteType.typeOf Tryz.func64 (by kernel_rfl) (by kernel_rfl) (by kernel_rfl) (by kernel_rfl)
  have h80 := @run_callFunc_extern Tryz.prog 185 _ (ReflectliteType.relation "AssignableTo" ReflectliteType.assignableTo) Tryz.func185 (by kernel_rfl) (by kernel_rfl) (by kernel_rfl) (by kernel_rfl)
  have h35 := @run_callFunc_extern Tryz.prog 65 _ (ReflectliteValue.method (ReflectliteValue.valueError "reflectlite.Value.Elem" 0) ReflectliteValue.elem) Tryz.func65 (by kernel_rfl) (by kernel_rfl) (by kernel_rfl) (by kernel_rfl)
  have h36 := @run_callFunc_extern Tryz.prog 66 _ ReflectliteValue.set Tryz.func66 (by kernel_rfl) (by kernel_rfl) (by kernel_rfl) (by kernel_rfl)
  have tO := Tryz.typeOf29
  have mA := Tryz.methodAssignableTo
  have a22 := Tryz.assignable29
  have v22 := Tryz.valueOf29
  have f6 := Tryz.valueOf61
  have f7 := Tryz.type61
  have mK := Tryz.methodKind
  have mE := Tryz.methodElem
  have mI := Tryz.methodImplements
  have k44 := Tryz.kind61
  have k22 := Tryz.kind29
  have e44 := Tryz.elem61
  have i22 := Tryz.implements29
  have n8 := Tryz.isNil61 ⟨w.heap.size, 0, none⟩ t ((w.alloc (.cells #[.pointer (some t)] 61)).alloc (.cells #[.pointer (some ⟨8, 61, none⟩), .pointer (some ⟨w.heap.size, 0, none⟩), .int .u64 150] 79)) (by simp)
  have hlt : 0 < w.heap.size := by
    rcases Nat.eq_zero_or_pos w.heap.size with h0 | h
    · simp [World.cell?, h0] at hg
    · exact h
  have hg2 : ((w.alloc (.cells #[.pointer (some t)] 61)).alloc (.cells #[.pointer (some ⟨8, 61, none⟩), .pointer (some ⟨w.heap.size, 0, none⟩), .int .u64 150] 79)).cell? ⟨0, 0, none⟩ = some (.iface 124 (.agg #[.pointer (some ⟨8, 41, none⟩)])) := by
    rw [World.cell?_alloc_lt _ _ ⟨0, 0, none⟩ (by simp), World.cell?_alloc_lt _ _ ⟨0, 0, none⟩ hlt]; exact hg
  have htl : t.block < w.heap.size := by
    rcases Nat.lt_or_ge t.block w.heap.size with h | h
    · exact h
    · simp [World.cell?, Array.getElem?_eq_none h] at ht0
  have el := Tryz.elemV61 ⟨w.heap.size, 0, none⟩ t (((w.alloc (.cells #[.pointer (some t)] 61)).alloc (.cells #[.pointer (some ⟨8, 61, none⟩), .pointer (some ⟨w.heap.size, 0, none⟩), .int .u64 150] 79)).alloc (.cells #[.pointer (some ⟨8, 61, none⟩), .pointer (some ⟨w.heap.size, 0, none⟩), .int .u64 150] 79)) (by rw [World.cell?_alloc_lt _ _ ⟨w.heap.size, 0, none⟩ (by simp; omega)]; simp)
  have st := Tryz.set29 t ⟨w.heap.size + 1 + 1 + 1, 0, none⟩ n old ((((w.alloc (.cells #[.pointer (some t)] 61)).alloc (.cells #[.pointer (some ⟨8, 61, none⟩), .pointer (some ⟨w.heap.size, 0, none⟩), .int .u64 150] 79)).alloc (.cells #[.pointer (some ⟨8, 61, none⟩), .pointer (some ⟨w.heap.size, 0, none⟩), .int .u64 150] 79)).alloc (.cells #[.int .i64 n] 29))
    (by rw [World.cell?_alloc_at _ _ _ _ (by simp)]; rfl)
    (by rw [World.cell?_alloc_lt _ _ t (by simp; omega), World.cell?_alloc_lt _ _ t (by simp; omega), World.cell?_alloc_lt _ _ t (by simp; omega), World.cell?_alloc_lt _ _ t htl]; exact ht0)
    (by rw [World.frozen?_alloc_old _ _ t (by simp; omega), World.frozen?_alloc_old _ _ t (by simp; omega), World.frozen?_alloc_old _ _ t (by simp; omega), World.frozen?_alloc_old _ _ t (Nat.ne_of_lt htl)]; exact hf0)
  go_enter Tryz.func22, Tryz.ntmps22
  go_wp2
  refine wp_loop_rounds 1 ?_
  rw [rounds_succ]
  go_wp2
  go_ret
  exact ⟨rfl, rfl⟩
theorem as_miss_b (n : Int) (t : Addr) (w : World) (hg : w.cell? ⟨0, 0, none⟩ = some (.iface 124 (.agg #[.pointer (some ⟨8, 41, none⟩)]))) :
    Calls Tryz.prog 22 #[.iface 29 (.int .i64 n), .iface 58 (.pointer (some t))] w fun ev w' => ev = .returned (.bool false) ∧ Below w.heap.size w w' := by
  refine (as_miss n t w hg).mono ?_
  rintro e w' ⟨rfl, rfl⟩
  exact ⟨rfl, (((Below.refl _ _).alloc (Nat.le_refl _) _).alloc (by simp) _).alloc (by simp; omega) _⟩
theorem as_hitE_b (n : Int) (t : Addr) (old : Value) (B : Nat) (w : World) (hg : w.cell? ⟨0, 0, none⟩ = some (.iface 124 (.agg #[.pointer (some ⟨8, 41, none⟩)]))) (ht0 : w.cell? t = some old) (hf0 : w.frozen? t = false) (hB : B ≤ t.block) :
    Calls Tryz.prog 22 #[.iface 29 (.int .i64 n), .iface 61 (.pointer (some t))] w fun ev w' => ev = .returned (.bool true) ∧ w'.cell? t = some (.int .i64 n) ∧ Below B w w' := by
  have htl : t.block < w.heap.size := World.block_lt_of_cell? _ _ ht0
  refine (as_hitE n t old w hg ht0 hf0).mono ?_
  rintro e w' ⟨rfl, rfl⟩
  refine ⟨rfl, ?_, (((((Below.refl _ _).alloc (by omega) _).alloc (by simp; omega) _).alloc (by simp; omega) _).alloc (by simp; omega) _).setCell hB _⟩
  refine World.cell?_setCell_same _ _ _ (u := old) (by rw [World.cell?_alloc_lt _ _ t (by simp; omega), World.cell?_alloc_lt _ _ t (by simp; omega), World.cell?_alloc_lt _ _ t (by simp; omega), World.cell?_alloc_lt _ _ t htl]; exact ht0)

set_option maxHeartbeats 2000000 in
theorem tell_errno (n : Int) (w : World) (hg : w.cell? ⟨0, 0, none⟩ = some (.iface 124 (.agg #[.pointer (some ⟨8, 41, none⟩)]))) : Calls Tryz.prog 15 #[.iface 29 (.int .i64 n)] w fun e w' => e = .returned (.tuple #[.int .i64 n, .int .i64 (-1)]) ∧ Below w.heap.size w w' := by
  have hlt : 0 < w.heap.size := World.block_lt_of_cell? _ _ hg
  go_enter Tryz.func15, Tryz.ntmps15
  go_wp2_with fail
  refine (as_miss_b n _ _ ?hgA).mono ?_
  case hgA => rw [World.cell?_alloc_lt _ _ ⟨0, 0, none⟩ (by simp), World.cell?_alloc_lt _ _ ⟨0, 0, none⟩ hlt]; exact hg
  rintro e w1 ⟨rfl, hb1⟩
  have hg1 : w1.cell? ⟨0, 0, none⟩ = some (.iface 124 (.agg #[.pointer (some ⟨8, 41, none⟩)])) := by
    rw [hb1.cell (p := ⟨0, 0, none⟩) (by simp), World.cell?_alloc_lt _ _ ⟨0, 0, none⟩ (by simp), World.cell?_alloc_lt _ _ ⟨0, 0, none⟩ hlt]; exact hg
  have ht1 : w1.cell? ⟨w.heap.size + 1, 0, none⟩ = some (.int .i64 0) := by
    rw [hb1.cell (p := ⟨w.heap.size + 1, 0, none⟩) (by simp)]; simp
  have hf1 : w1.frozen? ⟨w.heap.size + 1, 0, none⟩ = false := by
    rw [hb1.frozen (p := ⟨w.heap.size + 1, 0, none⟩) (by simp)]; simp
  have hbw : Below w.heap.size w w1 := (((Below.refl _ _).alloc (Nat.le_refl _) _).alloc (by simp) _).trans (hb1.mono (by simp; omega))
  clear hb1
  go_wp2_with fail
  refine (as_hitE_b n _ _ w.heap.size _ hg1 ht1 hf1 (by simp)).mono ?_
  rintro e w2 ⟨rfl, hc2, hb2⟩
  go_wp2
  go_ret2
  exact ⟨rfl, hbw.trans hb2⟩
end Go.Proofs.YtabahmnagffnbaaGreatDoor

namespace Go.Proofs.YtabahmnagffnbaaGreatDoor
open Go.RowKit Go.Maps

/-- A store of the program's, from its face on. -/
structure XSt (w : World) (lb sb mb : Nat) (v : Value) (L : List Blb) (q : Int) (A : List Ac) : Prop where
  face : w.heap[lb]? = some (.cells #[.pointer (some ⟨sb, 0, none⟩)] 51 (0, 0))
  st : PSt w sb mb v L q A
theorem XSt.apart {w : World} {lb sb mb : Nat} {v : Value} {L : List Blb} {q : Int} {A : List Ac} (h : XSt w lb sb mb v L q A) : ¬ OwnS sb mb v lb := by
  rintro (rfl | rfl | e)
  · have := h.st.cells; rw [h.face] at this; cases this
  · obtain ⟨es, clock, hb, _⟩ := h.st.map; rw [h.face] at hb; cases hb
  · obtain ⟨cur, hc⟩ := own_type h.st.row e; rw [h.face] at hc; cases hc
theorem XSt.below {w w' : World} {lb sb mb : Nat} {v : Value} {L : List Blb} {q : Int} {A : List Ac} (h : XSt w lb sb mb v L q A) (hb : Below w.heap.size w w') : XSt w' lb sb mb v L q A :=
  ⟨(hb.block lb (Array.getElem?_eq_some_iff.1 h.face).1).trans h.face, h.st.below hb⟩
theorem XSt.goes {w w' : World} {lb sb mb : Nat} {v v' : Value} {L L' : List Blb} {q : Int} {A A' : List Ac} (h : XSt w lb sb mb v L q A) (hP : PSt w' sb mb v' L' q A') (hG : Goes w sb mb v w' v') : XSt w' lb sb mb v' L' q A' :=
  ⟨(hG.turn.block lb (Array.getElem?_eq_some_iff.1 h.face).1 h.apart).trans h.face, hP⟩
/-- What the calls need of the variables. -/
structure Vars (w : World) : Prop where
  ks : KsLie w
  err : w.cell? ⟨0, 0, none⟩ = some (.iface 124 (.agg #[.pointer (some ⟨8, 41, none⟩)]))
theorem Vars.turn {w w' : World} {S : Nat → Prop} (h : Vars w) (ht : Turn S w w') (hs : ∀ k, S k → 2 ≤ k) : Vars w' :=
  ⟨fun i hi => ht.cell (h.ks i hi) (fun hc => by have := hs _ hc; simp at this), ht.cell h.err (fun hc => by have := hs _ hc; simp at this)⟩
theorem Vars.below {w w' : World} (h : Vars w) (hb : Below w.heap.size w w') : Vars w' := ⟨h.ks.below hb, cell_later hb h.err⟩
/-- What a call does, from the face on. -/
def PutX (w : World) (lb sb mb : Nat) (v : Value) (L' : List Blb) (q : Int) (A' : List Ac) (w' : World) : Prop := ∃ v', XSt w' lb sb mb v' L' q A' ∧ Goes w sb mb v w' v'
theorem PutX.of {w w' : World} {lb sb mb : Nat} {v : Value} {L L' : List Blb} {q : Int} {A A' : List Ac} (h : XSt w lb sb mb v L q A) (hp : PutP w sb mb v L' q A' w') : PutX w lb sb mb v L' q A' w' := by
  obtain ⟨v', hP, hG⟩ := hp
  exact ⟨v', h.goes hP hG, hG⟩
theorem PutX.later {w w' w'' : World} {lb sb mb : Nat} {v : Value} {L' : List Blb} {q : Int} {A' : List Ac} (h : PutX w lb sb mb v L' q A' w') (hb : Below w'.heap.size w' w'') : PutX w lb sb mb v L' q A' w'' := by
  obtain ⟨v', hX, hG⟩ := h
  exact ⟨v', hX.below hb, hG.trans (Goes.of_below hb)⟩
theorem PutX.vars {w w' : World} {lb sb mb : Nat} {v : Value} {L' : List Blb} {q : Int} {A' : List Ac} (h : PutX w lb sb mb v L' q A' w') (hV : Vars w) (hf : ∀ k, OwnS sb mb v k → 2 ≤ k) : Vars w' := by
  obtain ⟨v', _, hG⟩ := h
  exact hV.turn hG.turn hf
/-- What 'Put' answers: its text, whether there is room, files and acts behind it. -/
def PutAns (L : List Blb) (q : Int) (A : List Ac) (d x : ByteArray) (r : Bool) (L' : List Blb) (A' : List Ac) : Prop :=
  ((getV L (dig d)).2 = true ∧ x = dig d ∧ r = true ∧ L' = L ∧ A' = A) ∨
  ((getV L (dig d)).2 = false ∧ ((szL (delB L (blobN (dig d)).data.toList) + d.size : Nat) : Int) > q ∧ x = emp ∧ r = false ∧ L' = L ∧ A' = A) ∨
  ((getV L (dig d)).2 = false ∧ ((szL (delB L (blobN (dig d)).data.toList) + d.size : Nat) : Int) ≤ q ∧ x = dig d ∧ r = true ∧ L' = keepR L (blobN (dig d)) d ∧ A' = A ++ keepB (blobN (dig d)) d)
theorem PutAns.there {L : List Blb} {q : Int} {A : List Ac} {d : ByteArray} (h : (getV L (dig d)).2 = true) : PutAns L q A d (dig d) true L A := .inl ⟨h, rfl, rfl, rfl, rfl⟩
theorem PutAns.full {L : List Blb} {q : Int} {A : List Ac} {d : ByteArray} (h : (getV L (dig d)).2 = false) (hq : ((szL (delB L (blobN (dig d)).data.toList) + d.size : Nat) : Int) > q) : PutAns L q A d emp false L A := .inr (.inl ⟨h, hq, rfl, rfl, rfl, rfl⟩)
theorem PutAns.kept {L : List Blb} {q : Int} {A : List Ac} {d : ByteArray} (h : (getV L (dig d)).2 = false) (hq : ((szL (delB L (blobN (dig d)).data.toList) + d.size : Nat) : Int) ≤ q) : PutAns L q A d (dig d) true (keepR L (blobN (dig d)) d) (A ++ keepB (blobN (dig d)) d) := .inr (.inr ⟨h, hq, rfl, rfl, rfl, rfl⟩)
theorem PutAns.el {L : List Blb} {q : Int} {A : List Ac} {d : ByteArray} {motive : ∀ x r L' A', PutAns L q A d x r L' A' → Prop} (there : ∀ h, motive _ _ _ _ (.there h)) (full : ∀ h hq, motive _ _ _ _ (.full h hq)) (kept : ∀ h hq, motive _ _ _ _ (.kept h hq))
    {x : ByteArray} {r : Bool} {L' : List Blb} {A' : List Ac} (t : PutAns L q A d x r L' A') : motive x r L' A' t := by
  rcases t with ⟨h, e1, e2, e3, e4⟩ | ⟨h, hq, e1, e2, e3, e4⟩ | ⟨h, hq, e1, e2, e3, e4⟩
  · cases e1; cases e2; cases e3; cases e4; exact there h
  · cases e1; cases e2; cases e3; cases e4; exact full h hq
  · cases e1; cases e2; cases e3; cases e4; exact kept h hq
theorem PutAns.one {L : List Blb} {q : Int} {A : List Ac} {d x y : ByteArray} {a b : Bool} {L1 L2 : List Blb} {A1 A2 : List Ac} (h : PutAns L q A d x a L1 A1) (k : PutAns L q A d y b L2 A2) : x = y ∧ a = b ∧ L1 = L2 ∧ A1 = A2 := by
  cases h using PutAns.el <;> cases k using PutAns.el <;> first | exact ⟨rfl, rfl, rfl, rfl⟩ | (exfalso; simp_all; done) | (exfalso; omega)
set_option maxRecDepth 100000 in
theorem lput_act (lb sb mb : Nat) (v : Value) (L : List Blb) (q : Int) (A : List Ac) (d : ByteArray) (w : World) (h : XSt w lb sb mb v L q A) (hA : A.length ≤ 1099511627) (hL : L.length ≤ 1099511627) (hd : d.size ≤ 1073741824) (hds : ∀ b ∈ L, b.data.size ≤ 1073741824) (hz : szL L ≤ 1099511627776) (hV : Vars w) (hf : ∀ k, OwnS sb mb v k → 2 ≤ k) :
    Calls Tryz.prog 8 #[.pointer (some ⟨lb, 0, none⟩), .string d] w fun ev w' => ∃ x r L' A', Hid (PutAns L q A d x r L' A') ∧ ev = .returned (.tuple #[.string x, .int .i64 (if r then 0 else 12)]) ∧ PutX w lb sb mb v L' q A' w' := by
  have hP := put_act sb mb v L q A d w h.st hA hL hd hds hz hV.ks
  have c0 : w.cell? ⟨lb, 0, none⟩ = some (.pointer (some ⟨sb, 0, none⟩)) := cell_of_row _ _ 0 _ _ _ h.face
  have hF : Calls Tryz.prog 16 #[.pointer (some ⟨lb, 0, none⟩), .string d] w fun ev w' => ∃ x er r L' A', Hid (PutAns L q A d x r L' A') ∧ er = (if r then Value.nilIface else .iface 29 (.int .i64 12)) ∧ ev = .returned (.tuple #[.string x, er]) ∧ PutX w lb sb mb v L' q A' w' := by
    have HX := hide h
    clear h
    go_enter Tryz.func16, Tryz.ntmps16
    go_wp2_with (go_at_call 23; refine hP.mono ?_; clear hP; rintro ev w1 (⟨hv, rfl, hk⟩ | ⟨hv, hq, rfl, hk⟩ | ⟨hv, hq, rfl, hk⟩))
    · go_ret2
      exact ⟨_, _, true, _, _, hide (.there hv), rfl, rfl, PutX.of (unhide HX) hk⟩
    · go_ret2
      exact ⟨_, _, false, _, _, hide (.full hv hq), rfl, rfl, PutX.of (unhide HX) hk⟩
    · go_ret2
      rw [keep_blob, keepA_blob] at hk
      exact ⟨_, _, true, _, _, hide (.kept hv hq), rfl, rfl, PutX.of (unhide HX) hk⟩
  have HV := hide hV
  have HF := hide hf
  clear hP h hV hf
  go_enter Tryz.func8, Tryz.ntmps8
  go_upto_region 2 with (go_at_call 16; refine hF.mono ?_; clear hF; rintro ev w1 ⟨x, er, r, L', A', HA', rfl, rfl, hk⟩)
  have hV1 := hk.vars (unhide HV) (unhide HF)
  cases r with
  | true =>
    go_wp2_with (go_at_call 15; refine (tell_nil _).mono ?_; rintro ev w2 ⟨rfl, hb2⟩)
    go_ret2
    exact ⟨_, true, _, _, HA', rfl, hk.later hb2⟩
  | false =>
    go_wp2_with (go_at_call 15; refine (tell_errno 12 _ hV1.err).mono ?_; rintro ev w2 ⟨rfl, hb2⟩)
    go_ret2
    exact ⟨_, false, _, _, HA', rfl, hk.later hb2⟩
end Go.Proofs.YtabahmnagffnbaaGreatDoor
