import Derived.Test.YtabahmnagffnbaaGreatDoorProg
import Derived.WalkKit
import Derived.LaidEql
import Derived.Stop.Asserts
import Derived.RowKitTokens
import Derived.WalkSpells
import Derived.Deep.QuietTactic
import Derived.BigQuiet
import Derived.Test.YtabahmnagffnbaaGreatDoorJPlain
import Derived.WalkSmall
namespace Go.Proofs.YtabahmnagffnbaaGreatDoor
open Go.RowKit Go.Extern.Stop Go.Stop Go.Extern

theorem Tryz.valueOf58 (t : Addr) (w : World) : (ReflectliteValue.unpack (.iface 58 (.pointer (some t)))).run Tryz.prog w
    = .ok (.agg #[.pointer (some ⟨8, 58, none⟩), .pointer (some ⟨w.heap.size, 0, none⟩), .int .u64 150]) (w.alloc (.cells #[.pointer (some t)] 58)) := by kernel_rfl
theorem Tryz.valueOf56 (t : Addr) (w : World) : (ReflectliteValue.unpack (.iface 56 (.pointer (some t)))).run Tryz.prog w
    = .ok (.agg #[.pointer (some ⟨8, 56, none⟩), .pointer (some ⟨w.heap.size, 0, none⟩), .int .u64 150]) (w.alloc (.cells #[.pointer (some t)] 56)) := by kernel_rfl
theorem Tryz.type58 (a : Addr) (w : World) : (ReflectliteValue.methodAny (ReflectliteValue.valueError "reflectlite.Value.Type" 0) (fun t _ _ _ => ReflectliteType.toType t) #[.agg #[.pointer (some ⟨8, 58, none⟩), .pointer (some a), .int .u64 150]]).run Tryz.prog w
    = .ok (.iface 124 (.agg #[.pointer (some ⟨8, 58, none⟩)])) w := by kernel_rfl
theorem Tryz.methodKind (h : Value) (w : World) : (Go.method 340 124 (.agg #[h]) "Kind").run Tryz.prog w = .ok (173, h) w := by kernel_rfl
theorem Tryz.methodElem (h : Value) (w : World) : (Go.method 340 124 (.agg #[h]) "Elem").run Tryz.prog w = .ok (187, .agg #[h]) w := by kernel_rfl
theorem Tryz.methodImplements (h : Value) (w : World) : (Go.method 340 124 (.agg #[h]) "Implements").run Tryz.prog w = .ok (188, .agg #[h]) w := by kernel_rfl
theorem Tryz.methodAssignableTo (h : Value) (w : World) : (Go.method 340 124 (.agg #[h]) "AssignableTo").run Tryz.prog w = .ok (185, .agg #[h]) w := by kernel_rfl
theorem Tryz.kind58 (w : World) : ((ReflectliteType.abiMethod fun t => Functor.map (fun a : Nat => Value.int IntKind.u8 (a : Int)) (Rtype.kind t)) #[.pointer (some ⟨8, 58, none⟩)]).run Tryz.prog w = .ok (.int .u8 22) w := by kernel_rfl
theorem Tryz.kind56 (w : World) : ((ReflectliteType.abiMethod fun t => Functor.map (fun a : Nat => Value.int IntKind.u8 (a : Int)) (Rtype.kind t)) #[.pointer (some ⟨8, 56, none⟩)]).run Tryz.prog w = .ok (.int .u8 22) w := by kernel_rfl
theorem Tryz.elem58 (w : World) : (ReflectliteType.method ReflectliteType.elem #[.agg #[.pointer (some ⟨8, 58, none⟩)]]).run Tryz.prog w = .ok (.iface 124 (.agg #[.pointer (some ⟨8, 56, none⟩)])) w := by kernel_rfl
theorem Tryz.implements56 (w : World) : (ReflectliteType.relation "Implements" ReflectliteType.implements_ #[.agg #[.pointer (some ⟨8, 56, none⟩)], .iface 124 (.agg #[.pointer (some ⟨8, 41, none⟩)])]).run Tryz.prog w = .ok (.bool true) w := by kernel_rfl
theorem Tryz.typeOf56 (v : Value) (w : World) : (ReflectliteType.typeOf #[.iface 56 v]).run Tryz.prog w = .ok (.iface 124 (.agg #[.pointer (some ⟨8, 56, none⟩)])) w := by kernel_rfl
theorem Tryz.assignable56 (w : World) : (ReflectliteType.relation "AssignableTo" ReflectliteType.assignableTo #[.agg #[.pointer (some ⟨8, 56, none⟩)], .iface 124 (.agg #[.pointer (some ⟨8, 56, none⟩)])]).run Tryz.prog w = .ok (.bool true) w := by kernel_rfl
theorem Tryz.parts58 (a : Addr) (w : World) : (ReflectliteValue.parts (.agg #[.pointer (some ⟨8, 58, none⟩), .pointer (some a), .int .u64 150])).run Tryz.prog w = .ok (some (58, a, 150)) w := by kernel_rfl
theorem Tryz.isNil58 (a p : Addr) (W : World) (ha : W.cell? a = some (.pointer (some p))) :
    (ReflectliteValue.method (ReflectliteValue.valueError "reflectlite.Value.IsNil" 0) ReflectliteValue.isNil #[.agg #[.pointer (some ⟨8, 58, none⟩), .pointer (some a), .int .u64 150]]).run Tryz.prog W = .ok (.bool false) W := by
  rw [show ReflectliteValue.method (ReflectliteValue.valueError "reflectlite.Value.IsNil" 0) ReflectliteValue.isNil #[.agg #[.pointer (some ⟨8, 58, none⟩), .pointer (some a), .int .u64 150]] = (ReflectliteValue.parts (.agg #[.pointer (some ⟨8, 58, none⟩), .pointer (some a), .int .u64 150]) >>= _) from rfl]
  simp only [Sem.run_bind, Tryz.parts58, Result.andThen]
  simp [ReflectliteValue.isNil, loadVar, isAgg, underlying, Tryz.underlying58, ha, Result.andThen]
theorem Tryz.elemOf58 (w : World) : (Rtype.elem? 58).run Tryz.prog w = .ok (some 56) w := by kernel_rfl
theorem Tryz.mk56 (p : Addr) (w : World) : (ReflectliteValue.mk 56 p ReflectliteValue.flagAddr).run Tryz.prog w = .ok (.agg #[.pointer (some ⟨8, 56, none⟩), .pointer (some p), .int .u64 406]) w := by kernel_rfl
theorem Tryz.elemV58 (a p : Addr) (W : World) (ha : W.cell? a = some (.pointer (some p))) :
    (ReflectliteValue.method (ReflectliteValue.valueError "reflectlite.Value.Elem" 0) ReflectliteValue.elem #[.agg #[.pointer (some ⟨8, 58, none⟩), .pointer (some a), .int .u64 150]]).run Tryz.prog W
      = .ok (.agg #[.pointer (some ⟨8, 56, none⟩), .pointer (some p), .int .u64 406]) W := by
  rw [show ReflectliteValue.method (ReflectliteValue.valueError "reflectlite.Value.Elem" 0) ReflectliteValue.elem #[.agg #[.pointer (some ⟨8, 58, none⟩), .pointer (some a), .int .u64 150]] = (ReflectliteValue.parts (.agg #[.pointer (some ⟨8, 58, none⟩), .pointer (some a), .int .u64 150]) >>= _) from rfl]
  simp only [Sem.run_bind, Tryz.parts58, Result.andThen]
  simp [ReflectliteValue.elem, loadVar, isAgg, underlying, Tryz.underlying58, ha, Result.andThen, Tryz.elemOf58, Tryz.mk56]
theorem Tryz.parts56a (a : Addr) (w : World) : (ReflectliteValue.parts (.agg #[.pointer (some ⟨8, 56, none⟩), .pointer (some a), .int .u64 406])).run Tryz.prog w = .ok (some (56, a, 406)) w := by kernel_rfl
theorem Tryz.parts56 (a : Addr) (w : World) : (ReflectliteValue.parts (.agg #[.pointer (some ⟨8, 56, none⟩), .pointer (some a), .int .u64 150])).run Tryz.prog w = .ok (some (56, a, 150)) w := by kernel_rfl
theorem Tryz.direct56 (w : World) : (Rtype.directlyAssignable 56 56).run Tryz.prog w = .ok true w := by kernel_rfl
theorem Tryz.set56 (ta b q : Addr) (old : Value) (W : World) (hb : W.cell? b = some (.pointer (some q))) (ht : W.cell? ta = some old) (hf : W.frozen? ta = false) :
    (ReflectliteValue.set #[.agg #[.pointer (some ⟨8, 56, none⟩), .pointer (some ta), .int .u64 406], .agg #[.pointer (some ⟨8, 56, none⟩), .pointer (some b), .int .u64 150]]).run Tryz.prog W
      = .ok (.tuple #[]) (W.setCell ta (.pointer (some q))) := by
  rw [show ReflectliteValue.set #[.agg #[.pointer (some ⟨8, 56, none⟩), .pointer (some ta), .int .u64 406], .agg #[.pointer (some ⟨8, 56, none⟩), .pointer (some b), .int .u64 150]] = (ReflectliteValue.parts (.agg #[.pointer (some ⟨8, 56, none⟩), .pointer (some ta), .int .u64 406]) >>= fun _ => ReflectliteValue.parts (.agg #[.pointer (some ⟨8, 56, none⟩), .pointer (some b), .int .u64 150]) >>= _) from rfl]
  simp only [Sem.run_bind, Tryz.parts56a, Tryz.parts56, Result.andThen]
  simp [ReflectliteValue.flagAddr, loadVar, isAgg, underlying, Tryz.underlying56, hb, Result.andThen, Tryz.direct56, storeVar, Value.cells, storeCells, Addr.add]
  rw [run_store Tryz.prog W ta _ _ (by rfl)]
  simp [ht, hf]
end Go.Proofs.YtabahmnagffnbaaGreatDoor

namespace Go.Proofs.YtabahmnagffnbaaGreatDoor
open Go.RowKit Go.Extern.Stop Go.Stop Go.Extern

set_option maxHeartbeats 4000000 in
theorem as_hit (q t : Addr) (old : Value) (w : World) (hg : w.cell? ⟨0, 0, none⟩ = some (.iface 124 (.agg #[.pointer (some ⟨8, 41, none⟩)]))) (ht0 : w.cell? t = some old) (hf0 : w.frozen? t = false) :
    Calls Tryz.prog 22 #[.iface 56 (.pointer (some q)), .iface 58 (.pointer (some t))] w fun ev w' => ev = .returned (.bool true) ∧ w' = ((((w.alloc (.cells #[.pointer (some t)] 58)).alloc (.cells #[.pointer (some ⟨8, 58, none⟩), .pointer (some ⟨w.heap.size, 0, none⟩), .int .u64 150] 79)).alloc (.cells #[.pointer (some ⟨8, 58, none⟩), .pointer (some ⟨w.heap.size, 0, none⟩), .int .u64 150] 79)).alloc (.cells #[.pointer (some q)] 56)).setCell t (.pointer (some q)) := by
  have h55 := @run_callFunc_extern Tryz.prog 33 _ (fun args => ReflectliteValue.unpack (args.getD 0 (.tuple #[]))) Tryz.func33 (by kernel_rfl) (by kernel_rfl) (by kernel_rfl) (by kernel_rfl)
  have h56 := @run_callFunc_extern Tryz.prog 34 _ (ReflectliteValue.methodAny (ReflectliteValue.valueError "reflectlite.Value.Type" 0) (fun t _ _ _ => ReflectliteType.toType t)) Tryz.func34 (by kernel_rfl) (by kernel_rfl) (by kernel_rfl) (by kernel_rfl)
  have h57 := @run_callFunc_extern Tryz.prog 35 _ (ReflectliteValue.method (ReflectliteValue.valueError "reflectlite.Value.IsNil" 0) ReflectliteValue.isNil) Tryz.func35 (by kernel_rfl) (by kernel_rfl) (by kernel_rfl) (by kernel_rfl)
  have h219 := @run_callFunc_extern Tryz.prog 173 _ (ReflectliteType.abiMethod fun t => do pure (.int .u8 (← Rtype.kind t))) Tryz.func173 (by kernel_rfl) (by kernel_rfl) (by kernel_rfl) (by kernel_rfl)
  have h232 := @run_callFunc_extern Tryz.prog 187 _ (ReflectliteType.method ReflectliteType.elem) Tryz.func187 (by kernel_rfl) (by kernel_rfl) (by kernel_rfl) (by kernel_rfl)
  have h233 := @run_callFunc_extern Tryz.prog 188 _ (ReflectliteType.relation "Implements" ReflectliteType.implements_) Tryz.func188 (by kernel_rfl) (by kernel_rfl) (by kernel_rfl) (by kernel_rfl)
  have h90 := @run_callFunc_extern Tryz.prog 64 _ ReflectliteType.typeOf Tryz.func64 (by kernel_rfl) (by kernel_rfl) (by kernel_rfl) (by kernel_rfl)
  have h230 := @run_callFunc_extern Tryz.prog 185 _ (ReflectliteType.relation "AssignableTo" ReflectliteType.assignableTo) Tryz.func185 (by kernel_rfl) (by kernel_rfl) (by kernel_rfl) (by kernel_rfl)
  have h91 := @run_callFunc_extern Tryz.prog 65 _ (ReflectliteValue.method (ReflectliteValue.valueError "reflectlite.Value.Elem" 0) ReflectliteValue.elem) Tryz.func65 (by kernel_rfl) (by kernel_rfl) (by kernel_rfl) (by kernel_rfl)
  have h92 := @run_callFunc_extern Tryz.prog 66 _ ReflectliteValue.set Tryz.func66 (by kernel_rfl) (by kernel_rfl) (by kernel_rfl) (by kernel_rfl)
  have tO := Tryz.typeOf56
  have mA := Tryz.methodAssignableTo
  have a49 := Tryz.assignable56
  have v49 := Tryz.valueOf56
  have f6 := Tryz.valueOf58
  have f7 := Tryz.type58
  have mK := Tryz.methodKind
  have mE := Tryz.methodElem
  have mI := Tryz.methodImplements
  have k51 := Tryz.kind58
  have k49 := Tryz.kind56
  have e51 := Tryz.elem58
  have i49 := Tryz.implements56
  have n8 := Tryz.isNil58 ⟨w.heap.size, 0, none⟩ t ((w.alloc (.cells #[.pointer (some t)] 58)).alloc (.cells #[.pointer (some ⟨8, 58, none⟩), .pointer (some ⟨w.heap.size, 0, none⟩), .int .u64 150] 79)) (by simp)
  have hlt : 0 < w.heap.size := by
    rcases Nat.eq_zero_or_pos w.heap.size with h0 | h
    · simp [World.cell?, h0] at hg
    · exact h
  have hg2 : ((w.alloc (.cells #[.pointer (some t)] 58)).alloc (.cells #[.pointer (some ⟨8, 58, none⟩), .pointer (some ⟨w.heap.size, 0, none⟩), .int .u64 150] 79)).cell? ⟨0, 0, none⟩ = some (.iface 124 (.agg #[.pointer (some ⟨8, 41, none⟩)])) := by
    rw [World.cell?_alloc_lt _ _ ⟨0, 0, none⟩ (by simp), World.cell?_alloc_lt _ _ ⟨0, 0, none⟩ hlt]; exact hg
  have htl : t.block < w.heap.size := by
    rcases Nat.lt_or_ge t.block w.heap.size with h | h
    · exact h
    · simp [World.cell?, Array.getElem?_eq_none h] at ht0
  have el := Tryz.elemV58 ⟨w.heap.size, 0, none⟩ t (((w.alloc (.cells #[.pointer (some t)] 58)).alloc (.cells #[.pointer (some ⟨8, 58, none⟩), .pointer (some ⟨w.heap.size, 0, none⟩), .int .u64 150] 79)).alloc (.cells #[.pointer (some ⟨8, 58, none⟩), .pointer (some ⟨w.heap.size, 0, none⟩), .int .u64 150] 79)) (by rw [World.cell?_alloc_lt _ _ ⟨w.heap.size, 0, none⟩ (by simp; omega)]; simp)
  have st := Tryz.set56 t ⟨w.heap.size + 1 + 1 + 1, 0, none⟩ q old ((((w.alloc (.cells #[.pointer (some t)] 58)).alloc (.cells #[.pointer (some ⟨8, 58, none⟩), .pointer (some ⟨w.heap.size, 0, none⟩), .int .u64 150] 79)).alloc (.cells #[.pointer (some ⟨8, 58, none⟩), .pointer (some ⟨w.heap.size, 0, none⟩), .int .u64 150] 79)).alloc (.cells #[.pointer (some q)] 56))
    (by rw [World.cell?_alloc_at _ _ _ _ (by simp)]; rfl)
    (by rw [World.cell?_alloc_lt _ _ t (by simp; omega), World.cell?_alloc_lt _ _ t (by simp; omega), World.cell?_alloc_lt _ _ t (by simp; omega), World.cell?_alloc_lt _ _ t htl]; exact ht0)
    (by rw [World.frozen?_alloc_old _ _ t (by simp; omega), World.frozen?_alloc_old _ _ t (by simp; omega), World.frozen?_alloc_old _ _ t (by simp; omega), World.frozen?_alloc_old _ _ t (Nat.ne_of_lt htl)]; exact hf0)
  go_enter Tryz.func22, Tryz.ntmps22
  go_wp2
  refine wp_loop_rounds 1 ?_
  rw [rounds_succ]
  go_wp2
  go_ret
  exact ⟨rfl, rfl⟩
theorem tell_nil (w : World) : Calls Tryz.prog 15 #[.nilIface] w fun ev w' => ev = .returned (.tuple #[.int .i64 0, .int .i64 (-1)]) ∧ Below w.heap.size w w' := by
  go_enter Tryz.func15, Tryz.ntmps15
  go_wp2
  go_ret2
  exact ⟨rfl, ((Below.refl _ _).alloc (Nat.le_refl _) _).alloc (by simp) _⟩
end Go.Proofs.YtabahmnagffnbaaGreatDoor

namespace Go.Proofs.YtabahmnagffnbaaGreatDoor
open Go Go.RowKit

theorem splitK_one : ∀ l : List UInt8, Lib.splitK [47] 0 (Lib.count l [47]) l = spl l
  | [] => by rw [Lib.count_miss (by simp [Lib.index])]; rfl
  | c :: r => by
    have ih := splitK_one r
    by_cases h : c = 47
    · subst h
      have hix : Lib.index (47 :: r) [47] = ((0 : Nat) : Int) := by rw [Lib.index]; simp [List.isPrefixOf]
      rw [Lib.count_cons_eq, Nat.add_comm, Lib.splitK, hix, spl, if_pos rfl, ← ih]
      simp
    · have hp : ([47] : List UInt8).isPrefixOf (c :: r) = false := by simp [List.isPrefixOf, Ne.symm h]
      have hix : Lib.index (c :: r) [47] = if Lib.index r [47] == -1 then -1 else Lib.index r [47] + 1 := by rw [Lib.index, hp]; simp
      rw [Lib.count_cons_ne c 47 r h, spl, if_neg h, ← ih]
      by_cases hm : Lib.index r [47] = -1
      · rw [Lib.count_miss hm]; simp [Lib.splitK]
      · have hge := Lib.index_ge r [47]
        obtain ⟨j, hj⟩ : ∃ j : Nat, Lib.index r [47] = j := ⟨(Lib.index r [47]).toNat, by omega⟩
        have hix' : Lib.index (c :: r) [47] = ((j + 1 : Nat) : Int) := by rw [hix, if_neg (fun e => hm (beq_iff_eq.1 e)), hj]; omega
        have hm1 : ¬ ((((j + 1 : Nat) : Int) == -1) = true) := fun e => by have := beq_iff_eq.1 e; omega
        have hm2 : ¬ (((j : Int) == -1) = true) := fun e => by have := beq_iff_eq.1 e; omega
        rw [Lib.count_hit (by simp) hj, Nat.add_comm, Lib.splitK, Lib.splitK, hix', hj, if_neg hm1, if_neg hm2, Int.toNat_natCast, Int.toNat_natCast]
        simp

/-- The elements of a path. -/
def prt (l : List UInt8) : List (List UInt8) := if l = [] then [] else spl l
def isP (l : List UInt8) : Bool := decide (l.length ≤ 170) && decide ((prt l).length ≤ 12) && (prt l).all elt

theorem prt_len (l : List UInt8) : (prt l).length ≤ l.length + 1 := by
  unfold prt; split
  · simp
  · exact spl_len l
theorem prt_nil : prt [] = [] := rfl
theorem prt_ne {l : List UInt8} (h : l ≠ []) : prt l = spl l := if_neg h
theorem isP_long {l : List UInt8} (h : 170 < l.length) : isP l = false := by simp [isP, Nat.not_le.2 h]
theorem isP_deep {l : List UInt8} (h : 12 < (prt l).length) : isP l = false := by simp [isP, Nat.not_le.2 h]
theorem isP_not {l : List UInt8} {k : Nat} {b : List UInt8} (hk : (prt l)[k]? = some b) (hb : elt b = false) : isP l = false := by
  have : (prt l).all elt = false := by
    rw [Bool.eq_false_iff]; intro h
    rw [List.all_eq_true] at h
    have := h b (List.mem_of_getElem? hk)
    rw [hb] at this; cases this
  simp [isP, this]
theorem isP_yes {l : List UInt8} (h1 : l.length ≤ 170) (h2 : (prt l).all elt = true) : isP l = decide ((prt l).length ≤ 12) := by simp [isP, h1, h2]
theorem all_take_succ {xs : List (List UInt8)} {k : Nat} {b : List UInt8} (hk : xs[k]? = some b) (h : (xs.take k).all elt = true) (hb : elt b = true) : (xs.take (k + 1)).all elt = true := by
  rw [List.take_add_one, hk, List.all_append, h]; simp [hb]

def jn (k : Nat) (xs : List (List UInt8)) : List UInt8 := Lib.join (xs.take k) [47]
theorem jn_zero (xs : List (List UInt8)) : jn 0 xs = [] := rfl
theorem jn_succ (xs : List (List UInt8)) (k : Nat) (y : List UInt8) (h : xs[k]? = some y) : jn (k + 1) xs = if k = 0 then y else jn k xs ++ [47] ++ y := by
  cases xs with
  | nil => simp at h
  | cons x r =>
    cases k with
    | zero => simp at h; subst h; simp [jn, Lib.join_one]
    | succ j =>
      rw [if_neg (by omega)]
      simp only [jn, List.take_succ_cons, Lib.join_cons]
      rw [Lib.joinTail_take_succ [47] r j y (by simpa using h)]
      simp
theorem jn_le (xs : List (List UInt8)) (k : Nat) : (jn k xs).length ≤ (Lib.join xs [47]).length := by
  cases xs with
  | nil => simp [jn]
  | cons x r =>
    cases k with
    | zero => simp [jn, Lib.join_nil]
    | succ j =>
      simp only [jn, List.take_succ_cons, Lib.join_cons, List.length_append]
      have := Lib.joinTail_take_le [47] r j
      omega
theorem jn_all (xs : List (List UInt8)) (k : Nat) (h : xs.length ≤ k) : jn k xs = Lib.join xs [47] := by rw [jn, List.take_of_length_le h]
end Go.Proofs.YtabahmnagffnbaaGreatDoor

namespace Go.Proofs.YtabahmnagffnbaaGreatDoor
open Go.RowKit

set_option maxHeartbeats 400000 in
theorem hasPrefix_any (s p : ByteArray) (w : World) :
    Calls Tryz.prog 43 #[.string s, .string p] w fun e w' => e = .returned (.bool (Lib.hasPrefix s.data.toList p.data.toList)) ∧ w' = w := by
  have H := hide (Lib.hasPrefix_raw s p)
  go_enter Tryz.func43, Tryz.ntmps43
  go_wp2
  · go_ret
    exact ⟨ret_bool (by rw [← unhide H]; simp [*]), rfl⟩
  · go_ret
    exact ⟨ret_bool (by rw [← unhide H]; simp [*]), rfl⟩

set_option maxHeartbeats 400000 in
theorem elByte_any (n : Int) (w : World)  :
    Calls Tryz.prog 95 #[.int .u8 n] w fun e w' => e = .returned (.bool (okN n)) ∧ w' = w := by
  go_enter Tryz.func95, Tryz.ntmps95
  go_wp2
  all_goals
    go_ret
    exact ⟨ret_bool (by rw [Bool.eq_iff_iff]; simp [okN] <;> omega), rfl⟩

set_option maxHeartbeats 400000 in
theorem isEl_bad (s : ByteArray) (w : World) (h : hdr s.data.toList = true) :
    Calls Tryz.prog 78 #[.string s] w fun e w' => e = .returned (.bool (elt s.data.toList)) ∧ w' = w := by
  rw [elt_hdr h]
  have H := hide h
  clear h
  go_enter Tryz.func78, Tryz.ntmps78
  go_wp2_with (go_at_call 43; refine (hasPrefix_any _ _ _).mono ?_; rintro e w' ⟨rfl, rfl⟩)
  all_goals first
    | (go_ret; exact ⟨rfl, rfl⟩)
    | exact absurd (unhide H) (by rw [hdr_false s (by assumption)]; simp)

set_option maxHeartbeats 400000 in
theorem isEl_good (s : ByteArray) (w : World) (h : hdr s.data.toList = false) :
    Calls Tryz.prog 78 #[.string s] w fun e w' => e = .returned (.bool (elt s.data.toList)) ∧ w' = w := by
  obtain ⟨h1, h2, h3, h4, h5⟩ := hdr_parts h
  have H := hide h
  have g1 : s.toList.isEmpty = false := by rw [Lib.toList_data]; simpa using h1
  have g2 : (s.size : Int) ≤ 60 := by have := Lib.size_eq s; omega
  have g3 : (s.toList == [46]) = false := by rw [Lib.toList_data]; simpa using h3
  have g4 : (s.toList == [46, 46]) = false := by rw [Lib.toList_data]; simpa using h4
  clear h h1 h2 h3 h4
  go_enter Tryz.func78, Tryz.ntmps78
  go_wp2_with (go_at_call 43; refine (hasPrefix_any _ _ _).mono ?_; rintro e w' ⟨rfl, rfl⟩)
  go_loop [25] (fun i => ∃ k : Nat, k ≤ s.size ∧ i = .int .i64 k ∧ (s.data.toList.take k).all okC = true) (fun i => s.size - (intOf i).toNat)
  case atStart => exact ⟨0, Nat.zero_le _, rfl, rfl⟩
  case round =>
    obtain ⟨k, hk, rfl, ha⟩ := hrel
    have A := hide ha
    clear ha
    by_cases hlt : k < s.size
    · cases hok : okN (s[k].toNat : Int)
      · have B := hide (elt_bad s k hlt hok)
        go_wp2_with (go_at_call 95; refine (elByte_any _ _).mono ?_; rintro e w' ⟨rfl, rfl⟩)
        go_ret
        exact ⟨ret_bool (unhide B).symm, rfl⟩
      · have B := hide (all_snoc s k hlt (unhide A) hok)
        go_wp2_with (go_at_call 95; refine (elByte_any _ _).mono ?_; rintro e w' ⟨rfl, rfl⟩)
        go_round
        case rel => exact ⟨k + 1, by omega, by go_num, unhide B⟩
        case measure => simp [intOf]; omega
    · have B := hide (elt_good s k (by omega) (unhide A) (unhide H))
      go_wp2
      go_ret
      exact ⟨ret_bool (unhide B).symm, rfl⟩

theorem isEl_any (s : ByteArray) (w : World) :
    Calls Tryz.prog 78 #[.string s] w fun e w' => e = .returned (.bool (elt s.data.toList)) ∧ w' = w := by
  cases h : hdr s.data.toList
  · exact isEl_good s w h
  · exact isEl_bad s w h

end Go.Proofs.YtabahmnagffnbaaGreatDoor

namespace Go.Proofs.YtabahmnagffnbaaGreatDoor
open Go.RowKit

theorem Tryz.info9 : (Tryz.prog.info? 9).map (fun i => (i.zero, i.size, i.bytes)) = some (some (.string ByteArray.empty), 1, 16) := by kernel_rfl

/-- A slice of texts that the call made. -/
def Own (w : World) (B : Nat) (v : Value) (ps : List ByteArray) : Prop := w.ownsRow B 9 1 v ps.length (ps.map Value.string)
def txts (ps : List ByteArray) : List (List UInt8) := ps.map (·.data.toList)

theorem cut_at {s : ByteArray} {k f : Nat} {ps : List ByteArray} (hlt : k < s.size) (_hf : f ≤ k) (h : spl (s.data.toList.take k) = txts ps ++ [(s.data.toList.take k).drop f]) (hc : s[k] = 47) :
    spl (s.data.toList.take (k + 1)) = txts (ps ++ [s.extract f k]) ++ [(s.data.toList.take (k + 1)).drop (k + 1)] := by
  rw [take_snoc s k hlt, hc, spl_sep, h]
  have hl : (s.data.toList.take k).length = k := by rw [List.length_take, Nat.min_eq_left]; have := Lib.size_eq s; omega
  have e : (s.data.toList.take k ++ [47]).drop (k + 1) = [] := List.drop_of_length_le (by rw [List.length_append, hl]; simp)
  rw [e]
  simp only [txts, List.map_append, List.map_cons, List.map_nil, List.append_assoc, List.cons_append, List.nil_append]
  rw [Lib.extract_data, List.drop_take]
theorem cut_on {s : ByteArray} {k f : Nat} {ps : List ByteArray} (hlt : k < s.size) (hf : f ≤ k) (h : spl (s.data.toList.take k) = txts ps ++ [(s.data.toList.take k).drop f]) (hc : s[k] ≠ 47) :
    spl (s.data.toList.take (k + 1)) = txts ps ++ [(s.data.toList.take (k + 1)).drop f] := by
  rw [take_snoc s k hlt, spl_other _ _ hc _ _ h]
  have hl : (s.data.toList.take k).length = k := by rw [List.length_take, Nat.min_eq_left]; have := Lib.size_eq s; omega
  rw [List.drop_append_of_le_length (by omega)]
theorem cut_end {s : ByteArray} {k f : Nat} {ps : List ByteArray} (hk : s.size ≤ k) (h : spl (s.data.toList.take k) = txts ps ++ [(s.data.toList.take k).drop f]) :
    txts (ps ++ [s.extract f s.size]) = spl s.data.toList := by
  have := Lib.size_eq s
  rw [List.take_of_length_le (by omega)] at h
  rw [h]
  simp only [txts, List.map_append, List.map_cons, List.map_nil]
  rw [Lib.extract_data, List.take_of_length_le (by simp)]
theorem byte47 {c : UInt8} : c = 47 ↔ (c.toNat : Int) = 47 := by
  constructor
  · rintro rfl; rfl
  · intro h; apply UInt8.toNat_inj.1; show c.toNat = 47; omega

end Go.Proofs.YtabahmnagffnbaaGreatDoor
