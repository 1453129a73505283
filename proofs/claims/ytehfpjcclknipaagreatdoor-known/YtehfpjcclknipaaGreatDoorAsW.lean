import Derived.Test.YtehfpjcclknipaaGreatDoorTell
import Derived.WalkKit
import Derived.LaidEql
import Derived.Stop.Asserts
import Derived.RowKitTokens
namespace Go.Proofs.YtehfpjcclknipaaGreatDoor
open Go.RowKit Go.Extern.Stop Go.Stop Go.Extern
theorem Tryz.valueOf205 (t:Addr) (w:World):(ReflectliteValue.unpack (.iface 205 (.pointer (some t)))).run Tryz.prog w
  = .ok (.agg #[.pointer (some ⟨22,205,none⟩),.pointer (some ⟨w.heap.size,0,none⟩),.int .u64 150]) (w.alloc (.cells #[.pointer (some t)] 205)):=by kernel_rfl
theorem Tryz.valueOf203 (t:Addr) (w:World):(ReflectliteValue.unpack (.iface 203 (.pointer (some t)))).run Tryz.prog w
  = .ok (.agg #[.pointer (some ⟨22,203,none⟩),.pointer (some ⟨w.heap.size,0,none⟩),.int .u64 150]) (w.alloc (.cells #[.pointer (some t)] 203)):=by kernel_rfl
theorem Tryz.type205 (a:Addr) (w:World):(ReflectliteValue.methodAny (ReflectliteValue.valueError "reflectlite.Value.Type" 0) (fun t _ _ _=>ReflectliteType.toType t) #[.agg #[.pointer (some ⟨22,205,none⟩),.pointer (some a),.int .u64 150]]).run Tryz.prog w
  = .ok (.iface 168 (.agg #[.pointer (some ⟨22,205,none⟩)])) w:=by kernel_rfl
theorem Tryz.kind205 (w:World):((ReflectliteType.abiMethod fun t=>Functor.map (fun a:Nat=>Value.int IntKind.u8 (a:Int)) (Rtype.kind t)) #[.pointer (some ⟨22,205,none⟩)]).run Tryz.prog w=.ok (.int .u8 22) w:=by kernel_rfl
theorem Tryz.kind203 (w:World):((ReflectliteType.abiMethod fun t=>Functor.map (fun a:Nat=>Value.int IntKind.u8 (a:Int)) (Rtype.kind t)) #[.pointer (some ⟨22,203,none⟩)]).run Tryz.prog w=.ok (.int .u8 22) w:=by kernel_rfl
theorem Tryz.elem205 (w:World):(ReflectliteType.method ReflectliteType.elem #[.agg #[.pointer (some ⟨22,205,none⟩)]]).run Tryz.prog w=.ok (.iface 168 (.agg #[.pointer (some ⟨22,203,none⟩)])) w:=by kernel_rfl
theorem Tryz.implements203 (w:World):(ReflectliteType.relation "Implements" ReflectliteType.implements_ #[.agg #[.pointer (some ⟨22,203,none⟩)],.iface 168 (.agg #[.pointer (some ⟨22,47,none⟩)])]).run Tryz.prog w=.ok (.bool true) w:=by kernel_rfl
theorem Tryz.typeOf203 (v:Value) (w:World):(ReflectliteType.typeOf #[.iface 203 v]).run Tryz.prog w=.ok (.iface 168 (.agg #[.pointer (some ⟨22,203,none⟩)])) w:=by kernel_rfl
theorem Tryz.assignable203 (w:World):(ReflectliteType.relation "AssignableTo" ReflectliteType.assignableTo #[.agg #[.pointer (some ⟨22,203,none⟩)],.iface 168 (.agg #[.pointer (some ⟨22,203,none⟩)])]).run Tryz.prog w=.ok (.bool true) w:=by kernel_rfl
theorem Tryz.parts205 (a:Addr) (w:World):(ReflectliteValue.parts (.agg #[.pointer (some ⟨22,205,none⟩),.pointer (some a),.int .u64 150])).run Tryz.prog w=.ok (some (205,a,150)) w:=by kernel_rfl
theorem Tryz.isNil205 (a p:Addr) (W:World) (ha:W.cell? a=some (.pointer (some p))) :
  (ReflectliteValue.method (ReflectliteValue.valueError "reflectlite.Value.IsNil" 0) ReflectliteValue.isNil #[.agg #[.pointer (some ⟨22,205,none⟩),.pointer (some a),.int .u64 150]]).run Tryz.prog W=.ok (.bool false) W:=by
 rw [show ReflectliteValue.method (ReflectliteValue.valueError "reflectlite.Value.IsNil" 0) ReflectliteValue.isNil #[.agg #[.pointer (some ⟨22,205,none⟩),.pointer (some a),.int .u64 150]]=(ReflectliteValue.parts (.agg #[.pointer (some ⟨22,205,none⟩),.pointer (some a),.int .u64 150]) >>= _) from rfl]
 simp only [Sem.run_bind,Tryz.parts205,Result.andThen]
 simp [ReflectliteValue.isNil,loadVar,isAgg,underlying,Tryz.underlying205,ha,Result.andThen]
theorem Tryz.elemOf205 (w:World):(Rtype.elem? 205).run Tryz.prog w=.ok (some 203) w:=by kernel_rfl
theorem Tryz.mk203 (p:Addr) (w:World):(ReflectliteValue.mk 203 p ReflectliteValue.flagAddr).run Tryz.prog w=.ok (.agg #[.pointer (some ⟨22,203,none⟩),.pointer (some p),.int .u64 406]) w:=by kernel_rfl
theorem Tryz.elemV205 (a p:Addr) (W:World) (ha:W.cell? a=some (.pointer (some p))) :
  (ReflectliteValue.method (ReflectliteValue.valueError "reflectlite.Value.Elem" 0) ReflectliteValue.elem #[.agg #[.pointer (some ⟨22,205,none⟩),.pointer (some a),.int .u64 150]]).run Tryz.prog W
    = .ok (.agg #[.pointer (some ⟨22,203,none⟩),.pointer (some p),.int .u64 406]) W:=by
 rw [show ReflectliteValue.method (ReflectliteValue.valueError "reflectlite.Value.Elem" 0) ReflectliteValue.elem #[.agg #[.pointer (some ⟨22,205,none⟩),.pointer (some a),.int .u64 150]]=(ReflectliteValue.parts (.agg #[.pointer (some ⟨22,205,none⟩),.pointer (some a),.int .u64 150]) >>= _) from rfl]
 simp only [Sem.run_bind,Tryz.parts205,Result.andThen]
 simp [ReflectliteValue.elem,loadVar,isAgg,underlying,Tryz.underlying205,ha,Result.andThen,Tryz.elemOf205,Tryz.mk203]
theorem Tryz.parts203a (a:Addr) (w:World):(ReflectliteValue.parts (.agg #[.pointer (some ⟨22,203,none⟩),.pointer (some a),.int .u64 406])).run Tryz.prog w=.ok (some (203,a,406)) w:=by kernel_rfl
theorem Tryz.parts203 (a:Addr) (w:World):(ReflectliteValue.parts (.agg #[.pointer (some ⟨22,203,none⟩),.pointer (some a),.int .u64 150])).run Tryz.prog w=.ok (some (203,a,150)) w:=by kernel_rfl
theorem Tryz.direct203 (w:World):(Rtype.directlyAssignable 203 203).run Tryz.prog w=.ok true w:=by kernel_rfl
theorem Tryz.set203 (ta b q:Addr) (old:Value) (W:World) (hb:W.cell? b=some (.pointer (some q))) (ht:W.cell? ta=some old) (hf:W.frozen? ta=false) :
  (ReflectliteValue.set #[.agg #[.pointer (some ⟨22,203,none⟩),.pointer (some ta),.int .u64 406],.agg #[.pointer (some ⟨22,203,none⟩),.pointer (some b),.int .u64 150]]).run Tryz.prog W
    = .ok (.tuple #[]) (W.setCell ta (.pointer (some q))):=by
 rw [show ReflectliteValue.set #[.agg #[.pointer (some ⟨22,203,none⟩),.pointer (some ta),.int .u64 406],.agg #[.pointer (some ⟨22,203,none⟩),.pointer (some b),.int .u64 150]]=(ReflectliteValue.parts (.agg #[.pointer (some ⟨22,203,none⟩),.pointer (some ta),.int .u64 406]) >>= fun _=>ReflectliteValue.parts (.agg #[.pointer (some ⟨22,203,none⟩),.pointer (some b),.int .u64 150]) >>= _) from rfl]
 simp only [Sem.run_bind,Tryz.parts203a,Tryz.parts203,Result.andThen]
 simp [ReflectliteValue.flagAddr,loadVar,isAgg,underlying,Tryz.underlying203,hb,Result.andThen,Tryz.direct203,storeVar,Value.cells,storeCells,Addr.add]
 rw [run_store Tryz.prog W ta _ _ (by rfl)]
 simp [ht,hf]
end Go.Proofs.YtehfpjcclknipaaGreatDoor
