import Derived.Test.YtehfpjcclknipaaGreatDoorProg
import Derived.WalkKit
import Derived.LaidEql
import Derived.Stop.Asserts
import Derived.RowKitTokens
import Derived.WalkSpells
import Derived.Deep.QuietTactic
import Derived.BigQuiet
import Derived.Lib.SplitLaws
import Derived.Lib.Join
import Derived.Below
import Derived.Laws.Rows
import Derived.WalkSmall
import Derived.Deep.DeepCutAuto
import Derived.Deep.Draws
import Derived.WalkLawsBesides
import Derived.OwnWalk
import Derived.ArgAppend
import Derived.Laws.OwnMore
import Derived.Deep.AppendLies
import Derived.Deep.RegionHeld3
import Derived.Deep.RegionLaw
namespace Go.Proofs.YtehfpjcclknipaaGreatDoor
open Go.RowKit Go.Extern.Stop Go.Stop Go.Extern
theorem Tryz.valueOf82 (t:Addr) (w:World):(ReflectliteValue.unpack (.iface 82 (.pointer (some t)))).run Tryz.prog w
  = .ok (.agg #[.pointer (some ⟨22,82,none⟩),.pointer (some ⟨w.heap.size,0,none⟩),.int .u64 150]) (w.alloc (.cells #[.pointer (some t)] 82)):=by kernel_rfl
theorem Tryz.valueOf80 (t:Addr) (w:World):(ReflectliteValue.unpack (.iface 80 (.pointer (some t)))).run Tryz.prog w
  = .ok (.agg #[.pointer (some ⟨22,80,none⟩),.pointer (some ⟨w.heap.size,0,none⟩),.int .u64 150]) (w.alloc (.cells #[.pointer (some t)] 80)):=by kernel_rfl
theorem Tryz.type82 (a:Addr) (w:World):(ReflectliteValue.methodAny (ReflectliteValue.valueError "reflectlite.Value.Type" 0) (fun t _ _ _=>ReflectliteType.toType t) #[.agg #[.pointer (some ⟨22,82,none⟩),.pointer (some a),.int .u64 150]]).run Tryz.prog w
  = .ok (.iface 168 (.agg #[.pointer (some ⟨22,82,none⟩)])) w:=by kernel_rfl
theorem Tryz.methodKind (h:Value) (w:World):(Go.method 484 168 (.agg #[h]) "Kind").run Tryz.prog w=.ok (331,h) w:=by kernel_rfl
theorem Tryz.methodElem (h:Value) (w:World):(Go.method 484 168 (.agg #[h]) "Elem").run Tryz.prog w=.ok (347,.agg #[h]) w:=by kernel_rfl
theorem Tryz.methodImplements (h:Value) (w:World):(Go.method 484 168 (.agg #[h]) "Implements").run Tryz.prog w=.ok (348,.agg #[h]) w:=by kernel_rfl
theorem Tryz.methodAssignableTo (h:Value) (w:World):(Go.method 484 168 (.agg #[h]) "AssignableTo").run Tryz.prog w=.ok (345,.agg #[h]) w:=by kernel_rfl
theorem Tryz.kind82 (w:World):((ReflectliteType.abiMethod fun t=>(fun a:Nat=>Value.int IntKind.u8 (a:Int)) <$> Rtype.kind t) #[.pointer (some ⟨22,82,none⟩)]).run Tryz.prog w=.ok (.int .u8 22) w:=by kernel_rfl
theorem Tryz.kind80 (w:World):((ReflectliteType.abiMethod fun t=>(fun a:Nat=>Value.int IntKind.u8 (a:Int)) <$> Rtype.kind t) #[.pointer (some ⟨22,80,none⟩)]).run Tryz.prog w=.ok (.int .u8 22) w:=by kernel_rfl
theorem Tryz.elem82 (w:World):(ReflectliteType.method ReflectliteType.elem #[.agg #[.pointer (some ⟨22,82,none⟩)]]).run Tryz.prog w=.ok (.iface 168 (.agg #[.pointer (some ⟨22,80,none⟩)])) w:=by kernel_rfl
theorem Tryz.implements80 (w:World):(ReflectliteType.relation "Implements" ReflectliteType.implements_ #[.agg #[.pointer (some ⟨22,80,none⟩)],.iface 168 (.agg #[.pointer (some ⟨22,47,none⟩)])]).run Tryz.prog w=.ok (.bool true) w:=by kernel_rfl
theorem Tryz.typeOf80 (v:Value) (w:World):(ReflectliteType.typeOf #[.iface 80 v]).run Tryz.prog w=.ok (.iface 168 (.agg #[.pointer (some ⟨22,80,none⟩)])) w:=by kernel_rfl
theorem Tryz.assignable80 (w:World):(ReflectliteType.relation "AssignableTo" ReflectliteType.assignableTo #[.agg #[.pointer (some ⟨22,80,none⟩)],.iface 168 (.agg #[.pointer (some ⟨22,80,none⟩)])]).run Tryz.prog w=.ok (.bool true) w:=by kernel_rfl
theorem Tryz.parts82 (a:Addr) (w:World):(ReflectliteValue.parts (.agg #[.pointer (some ⟨22,82,none⟩),.pointer (some a),.int .u64 150])).run Tryz.prog w=.ok (some (82,a,150)) w:=by kernel_rfl
theorem Tryz.isNil82 (a p:Addr) (W:World) (ha:W.cell? a=some (.pointer (some p))) :
  (ReflectliteValue.method (ReflectliteValue.valueError "reflectlite.Value.IsNil" 0) ReflectliteValue.isNil #[.agg #[.pointer (some ⟨22,82,none⟩),.pointer (some a),.int .u64 150]]).run Tryz.prog W=.ok (.bool false) W:=by
 rw [show ReflectliteValue.method (ReflectliteValue.valueError "reflectlite.Value.IsNil" 0) ReflectliteValue.isNil #[.agg #[.pointer (some ⟨22,82,none⟩),.pointer (some a),.int .u64 150]]=(ReflectliteValue.parts (.agg #[.pointer (some ⟨22,82,none⟩),.pointer (some a),.int .u64 150]) >>= _) from rfl]
 simp only [Sem.run_bind,Tryz.parts82,Result.andThen]
 simp [ReflectliteValue.isNil,loadVar,isAgg,underlying,Tryz.underlying82,ha,Result.andThen]
theorem Tryz.elemOf82 (w:World):(Rtype.elem? 82).run Tryz.prog w=.ok (some 80) w:=by kernel_rfl
theorem Tryz.mk80 (p:Addr) (w:World):(ReflectliteValue.mk 80 p ReflectliteValue.flagAddr).run Tryz.prog w=.ok (.agg #[.pointer (some ⟨22,80,none⟩),.pointer (some p),.int .u64 406]) w:=by kernel_rfl
theorem Tryz.elemV82 (a p:Addr) (W:World) (ha:W.cell? a=some (.pointer (some p))) :
  (ReflectliteValue.method (ReflectliteValue.valueError "reflectlite.Value.Elem" 0) ReflectliteValue.elem #[.agg #[.pointer (some ⟨22,82,none⟩),.pointer (some a),.int .u64 150]]).run Tryz.prog W
   = .ok (.agg #[.pointer (some ⟨22,80,none⟩),.pointer (some p),.int .u64 406]) W:=by
 rw [show ReflectliteValue.method (ReflectliteValue.valueError "reflectlite.Value.Elem" 0) ReflectliteValue.elem #[.agg #[.pointer (some ⟨22,82,none⟩),.pointer (some a),.int .u64 150]]=(ReflectliteValue.parts (.agg #[.pointer (some ⟨22,82,none⟩),.pointer (some a),.int .u64 150]) >>= _) from rfl]
 simp only [Sem.run_bind,Tryz.parts82,Result.andThen]
 simp [ReflectliteValue.elem,loadVar,isAgg,underlying,Tryz.underlying82,ha,Result.andThen,Tryz.elemOf82,Tryz.mk80]
theorem Tryz.parts80a (a:Addr) (w:World):(ReflectliteValue.parts (.agg #[.pointer (some ⟨22,80,none⟩),.pointer (some a),.int .u64 406])).run Tryz.prog w=.ok (some (80,a,406)) w:=by kernel_rfl
theorem Tryz.parts80 (a:Addr) (w:World):(ReflectliteValue.parts (.agg #[.pointer (some ⟨22,80,none⟩),.pointer (some a),.int .u64 150])).run Tryz.prog w=.ok (some (80,a,150)) w:=by kernel_rfl
theorem Tryz.direct80 (w:World):(Rtype.directlyAssignable 80 80).run Tryz.prog w=.ok true w:=by kernel_rfl
theorem Tryz.set80 (ta b q:Addr) (old:Value) (W:World) (hb:W.cell? b=some (.pointer (some q))) (ht:W.cell? ta=some old) (hf:W.frozen? ta=false) :
  (ReflectliteValue.set #[.agg #[.pointer (some ⟨22,80,none⟩),.pointer (some ta),.int .u64 406],.agg #[.pointer (some ⟨22,80,none⟩),.pointer (some b),.int .u64 150]]).run Tryz.prog W
   = .ok (.tuple #[]) (W.setCell ta (.pointer (some q))):=by
 rw [show ReflectliteValue.set #[.agg #[.pointer (some ⟨22,80,none⟩),.pointer (some ta),.int .u64 406],.agg #[.pointer (some ⟨22,80,none⟩),.pointer (some b),.int .u64 150]]=(ReflectliteValue.parts (.agg #[.pointer (some ⟨22,80,none⟩),.pointer (some ta),.int .u64 406]) >>= fun _=>ReflectliteValue.parts (.agg #[.pointer (some ⟨22,80,none⟩),.pointer (some b),.int .u64 150]) >>= _) from rfl]
 simp only [Sem.run_bind,Tryz.parts80a,Tryz.parts80,Result.andThen]
 simp [ReflectliteValue.flagAddr,loadVar,isAgg,underlying,Tryz.underlying80,hb,Result.andThen,Tryz.direct80,storeVar,Value.cells,storeCells,Addr.add]
 rw [run_store Tryz.prog W ta _ _ (by rfl)]
 simp [ht,hf]
set_option maxHeartbeats 4000000 in
theorem as_hit (q t:Addr) (old:Value) (w:World) (hg:w.cell? ⟨0,0,none⟩=some (.iface 168 (.agg #[.pointer (some ⟨22,47,none⟩)]))) (ht0:w.cell? t=some old) (hf0:w.frozen? t=false) :
  Calls Tryz.prog 22 #[.iface 80 (.pointer (some q)),.iface 82 (.pointer (some t))] w fun ev w'=>ev=.returned (.bool true)∧w'=((((w.alloc (.cells #[.pointer (some t)] 82)).alloc (.cells #[.pointer (some ⟨22,82,none⟩),.pointer (some ⟨w.heap.size,0,none⟩),.int .u64 150] 116)).alloc (.cells #[.pointer (some ⟨22,82,none⟩),.pointer (some ⟨w.heap.size,0,none⟩),.int .u64 150] 116)).alloc (.cells #[.pointer (some q)] 80)).setCell t (.pointer (some q)):=by
 have h55:=@run_callFunc_extern Tryz.prog 38 _ (fun args=>ReflectliteValue.unpack (args.getD 0 (.tuple #[]))) Tryz.func38 (by kernel_rfl) (by kernel_rfl) (by kernel_rfl) (by kernel_rfl)
 have h56:=@run_callFunc_extern Tryz.prog 39 _ (ReflectliteValue.methodAny (ReflectliteValue.valueError "reflectlite.Value.Type" 0) (fun t _ _ _=>ReflectliteType.toType t)) Tryz.func39 (by kernel_rfl) (by kernel_rfl) (by kernel_rfl) (by kernel_rfl)
 have h57:=@run_callFunc_extern Tryz.prog 40 _ (ReflectliteValue.method (ReflectliteValue.valueError "reflectlite.Value.IsNil" 0) ReflectliteValue.isNil) Tryz.func40 (by kernel_rfl) (by kernel_rfl) (by kernel_rfl) (by kernel_rfl)
 have h219:=@run_callFunc_extern Tryz.prog 331 _ (ReflectliteType.abiMethod fun t=>do pure (.int .u8 (← Rtype.kind t))) Tryz.func331 (by kernel_rfl) (by kernel_rfl) (by kernel_rfl) (by kernel_rfl)
 have h232:=@run_callFunc_extern Tryz.prog 347 _ (ReflectliteType.method ReflectliteType.elem) Tryz.func347 (by kernel_rfl) (by kernel_rfl) (by kernel_rfl) (by kernel_rfl)
 have h233:=@run_callFunc_extern Tryz.prog 348 _ (ReflectliteType.relation "Implements" ReflectliteType.implements_) Tryz.func348 (by kernel_rfl) (by kernel_rfl) (by kernel_rfl) (by kernel_rfl)
 have h90:=@run_callFunc_extern Tryz.prog 77 _ ReflectliteType.typeOf Tryz.func77 (by kernel_rfl) (by kernel_rfl) (by kernel_rfl) (by kernel_rfl)
 have h230:=@run_callFunc_extern Tryz.prog 345 _ (ReflectliteType.relation "AssignableTo" ReflectliteType.assignableTo) Tryz.func345 (by kernel_rfl) (by kernel_rfl) (by kernel_rfl) (by kernel_rfl)
 have h91:=@run_callFunc_extern Tryz.prog 78 _ (ReflectliteValue.method (ReflectliteValue.valueError "reflectlite.Value.Elem" 0) ReflectliteValue.elem) Tryz.func78 (by kernel_rfl) (by kernel_rfl) (by kernel_rfl) (by kernel_rfl)
 have h92:=@run_callFunc_extern Tryz.prog 79 _ ReflectliteValue.set Tryz.func79 (by kernel_rfl) (by kernel_rfl) (by kernel_rfl) (by kernel_rfl)
 have tO:=Tryz.typeOf80
 have mA:=Tryz.methodAssignableTo
 have a49:=Tryz.assignable80
 have v49:=Tryz.valueOf80
 have f6:=Tryz.valueOf82
 have f7:=Tryz.type82
 have mK:=Tryz.methodKind
 have mE:=Tryz.methodElem
 have mI:=Tryz.methodImplements
 have k51:=Tryz.kind82
 have k49:=Tryz.kind80
 have e51:=Tryz.elem82
 have i49:=Tryz.implements80
 have n8:=Tryz.isNil82 ⟨w.heap.size,0,none⟩ t ((w.alloc (.cells #[.pointer (some t)] 82)).alloc (.cells #[.pointer (some ⟨22,82,none⟩),.pointer (some ⟨w.heap.size,0,none⟩),.int .u64 150] 116)) (by simp)
 have hlt:0<w.heap.size:=by
  rcases Nat.eq_zero_or_pos w.heap.size with h0 | h
  ·simp [World.cell?,h0] at hg
  ·exact h
 have hg2:((w.alloc (.cells #[.pointer (some t)] 82)).alloc (.cells #[.pointer (some ⟨22,82,none⟩),.pointer (some ⟨w.heap.size,0,none⟩),.int .u64 150] 116)).cell? ⟨0,0,none⟩=some (.iface 168 (.agg #[.pointer (some ⟨22,47,none⟩)])):=by
  rw [World.cell?_alloc_lt _ _ ⟨0,0,none⟩ (by simp),World.cell?_alloc_lt _ _ ⟨0,0,none⟩ hlt]; exact hg
 have htl:t.block<w.heap.size:=by
  rcases Nat.lt_or_ge t.block w.heap.size with h | h
  ·exact h
  ·simp [World.cell?,Array.getElem?_eq_none h] at ht0
 have el:=Tryz.elemV82 ⟨w.heap.size,0,none⟩ t (((w.alloc (.cells #[.pointer (some t)] 82)).alloc (.cells #[.pointer (some ⟨22,82,none⟩),.pointer (some ⟨w.heap.size,0,none⟩),.int .u64 150] 116)).alloc (.cells #[.pointer (some ⟨22,82,none⟩),.pointer (some ⟨w.heap.size,0,none⟩),.int .u64 150] 116)) (by rw [World.cell?_alloc_lt _ _ ⟨w.heap.size,0,none⟩ (by simp; omega)]; simp)
 have st:=Tryz.set80 t ⟨w.heap.size+1+1+1,0,none⟩ q old ((((w.alloc (.cells #[.pointer (some t)] 82)).alloc (.cells #[.pointer (some ⟨22,82,none⟩),.pointer (some ⟨w.heap.size,0,none⟩),.int .u64 150] 116)).alloc (.cells #[.pointer (some ⟨22,82,none⟩),.pointer (some ⟨w.heap.size,0,none⟩),.int .u64 150] 116)).alloc (.cells #[.pointer (some q)] 80))
  (by rw [World.cell?_alloc_at _ _ _ _ (by simp)]; rfl)
  (by rw [World.cell?_alloc_lt _ _ t (by simp; omega),World.cell?_alloc_lt _ _ t (by simp; omega),World.cell?_alloc_lt _ _ t (by simp; omega),World.cell?_alloc_lt _ _ t htl]; exact ht0)
  (by rw [World.frozen?_alloc_old _ _ t (by simp; omega),World.frozen?_alloc_old _ _ t (by simp; omega),World.frozen?_alloc_old _ _ t (by simp; omega),World.frozen?_alloc_old _ _ t (Nat.ne_of_lt htl)]; exact hf0)
 go_enter Tryz.func22,Tryz.ntmps22
 go_wp2
 refine wp_loop_rounds 1 ?_
 rw [rounds_succ]
 go_wp2
 go_ret
 exact ⟨rfl,rfl⟩
theorem tell_nil (w:World):Calls Tryz.prog 13 #[.nilIface] w fun ev w'=>ev=.returned (.tuple #[.int .i64 0,.int .i64 (-1)])∧Below w.heap.size w w':=by
 go_enter Tryz.func13,Tryz.ntmps13
 go_wp2
 go_ret2
 exact ⟨rfl,((Below.refl _ _).alloc (Nat.le_refl _) _).alloc (by simp) _⟩
theorem Tryz.valueOf205 (t:Addr) (w:World):(ReflectliteValue.unpack (.iface 205 (.pointer (some t)))).run Tryz.prog w
  = .ok (.agg #[.pointer (some ⟨22,205,none⟩),.pointer (some ⟨w.heap.size,0,none⟩),.int .u64 150]) (w.alloc (.cells #[.pointer (some t)] 205)):=by kernel_rfl
theorem Tryz.valueOf203 (t:Addr) (w:World):(ReflectliteValue.unpack (.iface 203 (.pointer (some t)))).run Tryz.prog w
  = .ok (.agg #[.pointer (some ⟨22,203,none⟩),.pointer (some ⟨w.heap.size,0,none⟩),.int .u64 150]) (w.alloc (.cells #[.pointer (some t)] 203)):=by kernel_rfl
theorem Tryz.type205 (a:Addr) (w:World):(ReflectliteValue.methodAny (ReflectliteValue.valueError "reflectlite.Value.Type" 0) (fun t _ _ _=>ReflectliteType.toType t) #[.agg #[.pointer (some ⟨22,205,none⟩),.pointer (some a),.int .u64 150]]).run Tryz.prog w
  = .ok (.iface 168 (.agg #[.pointer (some ⟨22,205,none⟩)])) w:=by kernel_rfl
theorem Tryz.kind205 (w:World):((ReflectliteType.abiMethod fun t=>(fun a:Nat=>Value.int IntKind.u8 (a:Int)) <$> Rtype.kind t) #[.pointer (some ⟨22,205,none⟩)]).run Tryz.prog w=.ok (.int .u8 22) w:=by kernel_rfl
theorem Tryz.kind203 (w:World):((ReflectliteType.abiMethod fun t=>(fun a:Nat=>Value.int IntKind.u8 (a:Int)) <$> Rtype.kind t) #[.pointer (some ⟨22,203,none⟩)]).run Tryz.prog w=.ok (.int .u8 22) w:=by kernel_rfl
theorem Tryz.elem205 (w:World):(ReflectliteType.method ReflectliteType.elem #[.agg #[.pointer (some ⟨22,205,none⟩)]]).run Tryz.prog w=.ok (.iface 168 (.agg #[.pointer (some ⟨22,203,none⟩)])) w:=by kernel_rfl
theorem Tryz.implements203 (w:World):(ReflectliteType.relation "Implements" ReflectliteType.implements_ #[.agg #[.pointer (some ⟨22,203,none⟩)],.iface 168 (.agg #[.pointer (some ⟨22,47,none⟩)])]).run Tryz.prog w=.ok (.bool true) w:=by kernel_rfl
theorem Tryz.typeOf203 (v:Value) (w:World):(ReflectliteType.typeOf #[.iface 203 v]).run Tryz.prog w=.ok (.iface 168 (.agg #[.pointer (some ⟨22,203,none⟩)])) w:=by kernel_rfl
theorem Tryz.assignable203 (w:World):(ReflectliteType.relation "AssignableTo" ReflectliteType.assignableTo #[.agg #[.pointer (some ⟨22,203,none⟩)],.iface 168 (.agg #[.pointer (some ⟨22,203,none⟩)])]).run Tryz.prog w=.ok (.bool true) w:=by kernel_rfl
theorem Tryz.parts205 (a:Addr) (w:World):(ReflectliteValue.parts (.agg #[.pointer (some ⟨22,205,none⟩),.pointer (some a),.int .u64 150])).run Tryz.prog w=.ok (some (205,a,150)) w:=by kernel_rfl
theorem Tryz.isNil205 (a p:Addr) (W:World) (ha:W.cell? a=some (.pointer (some p))) :
  (ReflectliteValue.method (ReflectliteValue.valueError "reflectlite.Value.IsNil" 0) ReflectliteValue.isNil #[.agg #[.pointer (some ⟨22,205,none⟩),.pointer (some a),.int .u64 150]]).run Tryz.prog W=.ok (.bool false) W:=by
 rw [show ReflectliteValue.method (ReflectliteValue.valueError "reflectlite.Value.IsNil" 0) ReflectliteValue.isNil #[.agg #[.pointer (some ⟨22,205,none⟩),.pointer (some a),.int .u64 150]]=(ReflectliteValue.parts (.agg #[.pointer (some ⟨22,205,none⟩),.pointer (some a),.int .u64 150]) >>= _) from rfl]
 simp only [Sem.run_bind,Tryz.parts205,Result.andThen]
 simp [ReflectliteValue.isNil,loadVar,isAgg,underlying,Tryz.underlying205,ha,Result.andThen]
theorem Tryz.elemOf205 (w:World):(Rtype.elem? 205).run Tryz.prog w=.ok (some 203) w:=by kernel_rfl
theorem Tryz.mk203 (p:Addr) (w:World):(ReflectliteValue.mk 203 p ReflectliteValue.flagAddr).run Tryz.prog w=.ok (.agg #[.pointer (some ⟨22,203,none⟩),.pointer (some p),.int .u64 406]) w:=by kernel_rfl
theorem Tryz.elemV205 (a p:Addr) (W:World) (ha:W.cell? a=some (.pointer (some p))) :
  (ReflectliteValue.method (ReflectliteValue.valueError "reflectlite.Value.Elem" 0) ReflectliteValue.elem #[.agg #[.pointer (some ⟨22,205,none⟩),.pointer (some a),.int .u64 150]]).run Tryz.prog W
   = .ok (.agg #[.pointer (some ⟨22,203,none⟩),.pointer (some p),.int .u64 406]) W:=by
 rw [show ReflectliteValue.method (ReflectliteValue.valueError "reflectlite.Value.Elem" 0) ReflectliteValue.elem #[.agg #[.pointer (some ⟨22,205,none⟩),.pointer (some a),.int .u64 150]]=(ReflectliteValue.parts (.agg #[.pointer (some ⟨22,205,none⟩),.pointer (some a),.int .u64 150]) >>= _) from rfl]
 simp only [Sem.run_bind,Tryz.parts205,Result.andThen]
 simp [ReflectliteValue.elem,loadVar,isAgg,underlying,Tryz.underlying205,ha,Result.andThen,Tryz.elemOf205,Tryz.mk203]
theorem Tryz.parts203a (a:Addr) (w:World):(ReflectliteValue.parts (.agg #[.pointer (some ⟨22,203,none⟩),.pointer (some a),.int .u64 406])).run Tryz.prog w=.ok (some (203,a,406)) w:=by kernel_rfl
theorem Tryz.parts203 (a:Addr) (w:World):(ReflectliteValue.parts (.agg #[.pointer (some ⟨22,203,none⟩),.pointer (some a),.int .u64 150])).run Tryz.prog w=.ok (some (203,a,150)) w:=by kernel_rfl
theorem Tryz.direct203 (w:World):(Rtype.directlyAssignable 203 203).run Tryz.prog w=.ok true w:=by kernel_rfl
theorem Tryz.set203 (ta b q:Addr) (old:Value) (W:World) (hb:W.cell? b=some (.pointer (some q))) (ht:W.cell? ta=some old) (hf:W.frozen? ta=false) :
  (ReflectliteValue.set #[.agg #[.pointer (some ⟨22,203,none⟩),.pointer (some ta),.int .u64 406],.agg #[.pointer (some ⟨22,203,none⟩),.pointer (some b),.int .u64 150]]).run Tryz.prog W
   = .ok (.tuple #[]) (W.setCell ta (.pointer (some q))):=by
 rw [show ReflectliteValue.set #[.agg #[.pointer (some ⟨22,203,none⟩),.pointer (some ta),.int .u64 406],.agg #[.pointer (some ⟨22,203,none⟩),.pointer (some b),.int .u64 150]]=(ReflectliteValue.parts (.agg #[.pointer (some ⟨22,203,none⟩),.pointer (some ta),.int .u64 406]) >>= fun _=>ReflectliteValue.parts (.agg #[.pointer (some ⟨22,203,none⟩),.pointer (some b),.int .u64 150]) >>= _) from rfl]
 simp only [Sem.run_bind,Tryz.parts203a,Tryz.parts203,Result.andThen]
 simp [ReflectliteValue.flagAddr,loadVar,isAgg,underlying,Tryz.underlying203,hb,Result.andThen,Tryz.direct203,storeVar,Value.cells,storeCells,Addr.add]
 rw [run_store Tryz.prog W ta _ _ (by rfl)]
 simp [ht,hf]
set_option maxHeartbeats 4000000 in
theorem as_hitW (q t:Addr) (old:Value) (w:World) (hg:w.cell? ⟨0,0,none⟩=some (.iface 168 (.agg #[.pointer (some ⟨22,47,none⟩)]))) (ht0:w.cell? t=some old) (hf0:w.frozen? t=false) :
  Calls Tryz.prog 22 #[.iface 203 (.pointer (some q)),.iface 205 (.pointer (some t))] w fun ev w'=>ev=.returned (.bool true)∧w'=((((w.alloc (.cells #[.pointer (some t)] 205)).alloc (.cells #[.pointer (some ⟨22,205,none⟩),.pointer (some ⟨w.heap.size,0,none⟩),.int .u64 150] 116)).alloc (.cells #[.pointer (some ⟨22,205,none⟩),.pointer (some ⟨w.heap.size,0,none⟩),.int .u64 150] 116)).alloc (.cells #[.pointer (some q)] 203)).setCell t (.pointer (some q)):=by
 have h55:=@run_callFunc_extern Tryz.prog 38 _ (fun args=>ReflectliteValue.unpack (args.getD 0 (.tuple #[]))) Tryz.func38 (by kernel_rfl) (by kernel_rfl) (by kernel_rfl) (by kernel_rfl)
 have h56:=@run_callFunc_extern Tryz.prog 39 _ (ReflectliteValue.methodAny (ReflectliteValue.valueError "reflectlite.Value.Type" 0) (fun t _ _ _=>ReflectliteType.toType t)) Tryz.func39 (by kernel_rfl) (by kernel_rfl) (by kernel_rfl) (by kernel_rfl)
 have h57:=@run_callFunc_extern Tryz.prog 40 _ (ReflectliteValue.method (ReflectliteValue.valueError "reflectlite.Value.IsNil" 0) ReflectliteValue.isNil) Tryz.func40 (by kernel_rfl) (by kernel_rfl) (by kernel_rfl) (by kernel_rfl)
 have h219:=@run_callFunc_extern Tryz.prog 331 _ (ReflectliteType.abiMethod fun t=>do pure (.int .u8 (← Rtype.kind t))) Tryz.func331 (by kernel_rfl) (by kernel_rfl) (by kernel_rfl) (by kernel_rfl)
 have h232:=@run_callFunc_extern Tryz.prog 347 _ (ReflectliteType.method ReflectliteType.elem) Tryz.func347 (by kernel_rfl) (by kernel_rfl) (by kernel_rfl) (by kernel_rfl)
 have h233:=@run_callFunc_extern Tryz.prog 348 _ (ReflectliteType.relation "Implements" ReflectliteType.implements_) Tryz.func348 (by kernel_rfl) (by kernel_rfl) (by kernel_rfl) (by kernel_rfl)
 have h90:=@run_callFunc_extern Tryz.prog 77 _ ReflectliteType.typeOf Tryz.func77 (by kernel_rfl) (by kernel_rfl) (by kernel_rfl) (by kernel_rfl)
 have h230:=@run_callFunc_extern Tryz.prog 345 _ (ReflectliteType.relation "AssignableTo" ReflectliteType.assignableTo) Tryz.func345 (by kernel_rfl) (by kernel_rfl) (by kernel_rfl) (by kernel_rfl)
 have h91:=@run_callFunc_extern Tryz.prog 78 _ (ReflectliteValue.method (ReflectliteValue.valueError "reflectlite.Value.Elem" 0) ReflectliteValue.elem) Tryz.func78 (by kernel_rfl) (by kernel_rfl) (by kernel_rfl) (by kernel_rfl)
 have h92:=@run_callFunc_extern Tryz.prog 79 _ ReflectliteValue.set Tryz.func79 (by kernel_rfl) (by kernel_rfl) (by kernel_rfl) (by kernel_rfl)
 have tO:=Tryz.typeOf203
 have mA:=Tryz.methodAssignableTo
 have a49:=Tryz.assignable203
 have v49:=Tryz.valueOf203
 have f6:=Tryz.valueOf205
 have f7:=Tryz.type205
 have mK:=Tryz.methodKind
 have mE:=Tryz.methodElem
 have mI:=Tryz.methodImplements
 have k51:=Tryz.kind205
 have k49:=Tryz.kind203
 have e51:=Tryz.elem205
 have i49:=Tryz.implements203
 have n8:=Tryz.isNil205 ⟨w.heap.size,0,none⟩ t ((w.alloc (.cells #[.pointer (some t)] 205)).alloc (.cells #[.pointer (some ⟨22,205,none⟩),.pointer (some ⟨w.heap.size,0,none⟩),.int .u64 150] 116)) (by simp)
 have hlt:0<w.heap.size:=by
  rcases Nat.eq_zero_or_pos w.heap.size with h0 | h
  ·simp [World.cell?,h0] at hg
  ·exact h
 have hg2:((w.alloc (.cells #[.pointer (some t)] 205)).alloc (.cells #[.pointer (some ⟨22,205,none⟩),.pointer (some ⟨w.heap.size,0,none⟩),.int .u64 150] 116)).cell? ⟨0,0,none⟩=some (.iface 168 (.agg #[.pointer (some ⟨22,47,none⟩)])):=by
  rw [World.cell?_alloc_lt _ _ ⟨0,0,none⟩ (by simp),World.cell?_alloc_lt _ _ ⟨0,0,none⟩ hlt]; exact hg
 have htl:t.block<w.heap.size:=by
  rcases Nat.lt_or_ge t.block w.heap.size with h | h
  ·exact h
  ·simp [World.cell?,Array.getElem?_eq_none h] at ht0
 have el:=Tryz.elemV205 ⟨w.heap.size,0,none⟩ t (((w.alloc (.cells #[.pointer (some t)] 205)).alloc (.cells #[.pointer (some ⟨22,205,none⟩),.pointer (some ⟨w.heap.size,0,none⟩),.int .u64 150] 116)).alloc (.cells #[.pointer (some ⟨22,205,none⟩),.pointer (some ⟨w.heap.size,0,none⟩),.int .u64 150] 116)) (by rw [World.cell?_alloc_lt _ _ ⟨w.heap.size,0,none⟩ (by simp; omega)]; simp)
 have st:=Tryz.set203 t ⟨w.heap.size+1+1+1,0,none⟩ q old ((((w.alloc (.cells #[.pointer (some t)] 205)).alloc (.cells #[.pointer (some ⟨22,205,none⟩),.pointer (some ⟨w.heap.size,0,none⟩),.int .u64 150] 116)).alloc (.cells #[.pointer (some ⟨22,205,none⟩),.pointer (some ⟨w.heap.size,0,none⟩),.int .u64 150] 116)).alloc (.cells #[.pointer (some q)] 203))
  (by rw [World.cell?_alloc_at _ _ _ _ (by simp)]; rfl)
  (by rw [World.cell?_alloc_lt _ _ t (by simp; omega),World.cell?_alloc_lt _ _ t (by simp; omega),World.cell?_alloc_lt _ _ t (by simp; omega),World.cell?_alloc_lt _ _ t htl]; exact ht0)
  (by rw [World.frozen?_alloc_old _ _ t (by simp; omega),World.frozen?_alloc_old _ _ t (by simp; omega),World.frozen?_alloc_old _ _ t (by simp; omega),World.frozen?_alloc_old _ _ t (Nat.ne_of_lt htl)]; exact hf0)
 go_enter Tryz.func22,Tryz.ntmps22
 go_wp2
 refine wp_loop_rounds 1 ?_
 rw [rounds_succ]
 go_wp2
 go_ret
 exact ⟨rfl,rfl⟩
end Go.Proofs.YtehfpjcclknipaaGreatDoor
namespace Go.Proofs.YtehfpjcclknipaaGreatDoor
open Go Go.RowKit
def okN (n:Int):Bool:=decide ((97≤n∧n≤122)∨(65≤n∧n≤90)∨(48≤n∧n≤57)∨n=46∨n=95∨n=45)
def okC (c:UInt8):Bool:=okN (c.toNat:Int)
def hdr (l:List UInt8):Bool:=l==[] || decide (60<l.length) || l==[46] || l==[46,46] || Lib.hasPrefix l [46,119,104,46]
def elt (l:List UInt8):Bool:=!hdr l&&l.all okC
theorem hide {p:Prop} (h:p):Hid p:=h
theorem unhide {p:Prop} (h:Hid p):p:=h.out
theorem uh {p:Prop} (h:Hid p):p:=h.out
theorem cq {w:World} {g:Nat} {cs:Array Value} {t:TypeId} {fr:Nat × Nat} (j:Nat) (hg:w.heap[g]?=some (.cells cs t fr)):w.cell? ⟨g,j,none⟩=cs[j]?:=cell_of_row w g j cs t fr hg
theorem ret_bool {a b:Bool} (h:a=b):Ending.returned (.bool a)=.returned (.bool b):=by rw [h]
theorem elt_hdr {l:List UInt8} (h:hdr l=true):elt l=false:=by simp [elt,h]
theorem hdr_parts {l:List UInt8} (h:hdr l=false):l≠[]∧l.length≤60∧l≠[46]∧l≠[46,46]∧Lib.hasPrefix l [46,119,104,46]=false:=by
 simp only [hdr,Bool.or_eq_false_iff,beq_eq_false_iff_ne,decide_eq_false_iff_not,Nat.not_lt] at h
 exact ⟨h.1.1.1.1,h.1.1.1.2,h.1.1.2,h.1.2,h.2⟩
theorem take_snoc (s:ByteArray) (k:Nat) (h:k<s.size):s.data.toList.take (k+1)=s.data.toList.take k++[s[k]]:=by
 rw [List.take_succ_eq_append_getElem (by simpa using h)]; rfl
theorem all_snoc (s:ByteArray) (k:Nat) (h:k<s.size) (h1:(s.data.toList.take k).all okC=true) (h2:okN (s[k].toNat:Int)=true):(s.data.toList.take (k+1)).all okC=true:=by
 rw [take_snoc s k h,List.all_append,h1]; simp [okC,h2]
theorem elt_bad (s:ByteArray) (k:Nat) (h:k<s.size) (h2:okN (s[k].toNat:Int)=false):elt s.data.toList=false:=by
 have:s.data.toList.all okC=false:=by
  rw [← List.take_append_drop (k+1) s.data.toList,List.all_append,take_snoc s k h,List.all_append]
  simp [okC,h2]
 simp [elt,this]
theorem elt_good (s:ByteArray) (k:Nat) (h:s.size≤k) (h1:(s.data.toList.take k).all okC=true) (h0:hdr s.data.toList=false):elt s.data.toList=true:=by
 rw [List.take_of_length_le (by simpa using h)] at h1
 simp [elt,h1,h0]
theorem hdr_false (s:ByteArray) (h:(((s.toList.isEmpty=false∧(s.size:Int)≤60)∧(s.toList==[46])=false)∧(s.toList==[46,46])=false)∧Lib.hasPrefix s.data.toList [46,119,104,46]=false):hdr s.data.toList=false:=by
 rw [Lib.toList_data] at h
 obtain ⟨⟨⟨⟨h1,h2⟩,h3⟩,h4⟩,h5⟩:=h
 have:=Lib.size_eq s
 have h1':(s.data.toList==[])=false:=by simpa using h1
 have h2':decide (60<s.data.toList.length)=false:=by simp only [decide_eq_false_iff_not]; omega
 simp only [hdr,h1',h2',h3,h4,h5,Bool.or_self]
def spl:List UInt8→List (List UInt8)
 | []=>[[]]
 | c :: r=>if c=47 then [] :: spl r else ((c :: (spl r).headD []) :: (spl r).tail)
theorem spl_ne (l:List UInt8):spl l≠[]:=by
 cases l with
 | nil=>simp [spl]
 | cons c r=>unfold spl; split <;> simp
theorem spl_len (l:List UInt8):(spl l).length≤l.length+1:=by
 induction l with
 | nil=>simp [spl]
 | cons c r ih=>unfold spl; split <;> simp <;> omega
theorem spl_join (l:List UInt8):Lib.join (spl l) [47]=l:=by
 induction l with
 | nil=>simp [spl,Lib.join_one]
 | cons c r ih=>
  have hne:=spl_ne r
  rw [spl]
  cases h2:spl r with
  | nil=>exact absurd h2 hne
  | cons x y=>
   rw [h2,Lib.join_cons] at ih
   split
   ·rename_i h; subst h
    rw [Lib.join_cons,Lib.joinTail,List.map_cons,List.flatten_cons,← ih]
    simp [Lib.joinTail]
   ·rw [Lib.join_cons]; simp [ih]
end Go.Proofs.YtehfpjcclknipaaGreatDoor
namespace Go.Proofs.YtehfpjcclknipaaGreatDoor
open Go.RowKit
theorem wrap_i64 (n:Nat) (h:n<9223372036854775808):IntKind.i64.wrap (n:Int)=n:=by
 simp [IntKind.wrap,IntKind.bits,IntKind.signed]
 omega
theorem setCell_drewN (W:World) (n:Nat) (a:Addr) (v:Value):(W.drewN n).setCell a v=(W.setCell a v).drewN n:=rfl
theorem alloc_drewN (W:World) (n:Nat) (o:Obj):(W.drewN n).alloc o=(W.alloc o).drewN n:=rfl
theorem chain0 {w w1:World} (h:Below w.drew.heap.size w.drew w1):Below w.heap.size w w1:=⟨h.os,h.tape,h.output,h.size,h.block⟩
theorem grown_of_below {w w':World} (h:Below w.heap.size w w'):w.grownBy w' none:=⟨h.os,h.tape,h.output,h.size,fun k hk _=>h.block k hk⟩
end Go.Proofs.YtehfpjcclknipaaGreatDoor
namespace Go.Proofs.YtehfpjcclknipaaGreatDoor
open Go Go.RowKit
inductive Atm where
 | byte (c:UInt8)
 | var (n:List UInt8) (k:Nat)
abbrev Res (α:Type):=Except (Nat × Nat) α
def isCapC (c:UInt8):Bool:=decide (65≤c.toNat∧c.toNat≤90)
def isDigC (c:UInt8):Bool:=decide (48≤c.toNat∧c.toNat≤57)
def isNmC (c:UInt8):Bool:=isCapC c || isDigC c || c==95
def nameN (l:List UInt8):Nat:=match l with
 | []=>0
 | c :: _=>if isCapC c=true then (l.takeWhile isNmC).length else 0
def isVarN (l:List UInt8):Bool:=l != []&&decide (l.length≤10)&&nameN l==l.length
def varG (l:List UInt8) (k:Nat):Option (List UInt8 × Nat):=
 let b:=l[k+1]?==some 123
 let f:=if b then k+2 else k+1
 let n:=nameN (l.drop f)
 if n=0∨10<n∨(b=true∧l[f+n]?≠some 125) then none
 else some ((l.drop f).take n,if b then f+n+1 else f+n)
def goesG (l:List UInt8) (k:Nat):Bool:=l[k]?==some 92&&l[k+1]?==some 10
def escQ (c:UInt8):Bool:=c==34 || c==92 || c==36
def quoG (l:List UInt8) (i:Nat) (acc:List Atm) (k:Nat):Res (List Atm × Nat):=
 match hk:l[k]? with
 | none=>.error (5,i)
 | some c=>
  have hlt:k<l.length:=(List.getElem?_eq_some_iff.1 hk).1
  if c=10 then .error (5,i)
  else if c=34 then .ok (acc,k+1)
  else if c=36 then
   match varG l k with
   | none=>.error (5,k)
   | some (n,t)=>if h:k<t then quoG l i (acc++[.var n k]) t else .error (5,k)
  else if c=92 then
   match l[k+1]? with
   | none=>.error (5,k)
   | some d=>if escQ d=true then quoG l i (acc++[.byte d]) (k+2) else .error (5,k)
  else quoG l i (acc++[.byte c]) (k+1)
termination_by l.length-k
decreasing_by all_goals (simp_all; omega)
def wrdG (l:List UInt8) (acc:List Atm) (k:Nat):Res (List Atm × Nat):=
 match hk:l[k]? with
 | none=>.ok (acc,k)
 | some c=>
  have hlt:k<l.length:=(List.getElem?_eq_some_iff.1 hk).1
  if c=10∨c=32∨goesG l k=true then .ok (acc,k)
  else if c=34 then
   match quoG l k acc (k+1) with
   | .error e=>.error e
   | .ok (a,t)=>if _:k<t then wrdG l a t else .error (5,k)
  else if c=36 then
   match varG l k with
   | none=>.error (5,k)
   | some (n,t)=>if h:k<t then wrdG l (acc++[.var n k]) t else .error (5,k)
  else if c=92 then
   match l[k+1]? with
   | none=>.error (5,k)
   | some d=>wrdG l (acc++[.byte d]) (k+2)
  else wrdG l (acc++[.byte c]) (k+1)
termination_by l.length-k
decreasing_by all_goals (simp_all; omega)
structure Wd where
 atoms:List Atm
 place:Nat
def cmtG (l:List UInt8) (k:Nat):Nat:=k+((l.drop k).takeWhile (fun c=>c != 10)).length
theorem cmt_le (l:List UInt8) (k:Nat):k≤cmtG l k:=by unfold cmtG; omega
theorem cmt_len {l:List UInt8} {k:Nat} (h:k≤l.length):cmtG l k≤l.length:=by
 unfold cmtG
 have:=(List.takeWhile_prefix (p:=fun c=>c != 10) (l:=l.drop k)).length_le
 rw [List.length_drop] at this; omega
theorem cmt_lt {l:List UInt8} {k:Nat} (h:l[k]?=some 35):k<cmtG l k:=by
 unfold cmtG
 have hlt:=(List.getElem?_eq_some_iff.1 h).1
 rw [List.drop_eq_getElem_cons hlt]
 have:l[k]=35:=(List.getElem?_eq_some_iff.1 h).2
 rw [this]
 simp
def linG (l:List UInt8) (ws:List Wd) (k:Nat):Res (List Wd × Nat):=
 match hk:l[k]? with
 | none=>.ok (ws,k)
 | some c=>
  have hlt:k<l.length:=(List.getElem?_eq_some_iff.1 hk).1
  if c=10 then .ok (ws,k+1)
  else if goesG l k=true then linG l ws (k+2)
  else if c=32 then linG l ws (k+1)
  else if h35:c=35∧ws=[] then
   have hc:k<cmtG l k:=cmt_lt (by rw [hk,h35.1])
   linG l ws (cmtG l k)
  else match wrdG l [] k with
   | .error e=>.error e
   | .ok (a,t)=>if h:k<t then linG l (ws++[⟨a,k⟩]) t else .error (5,k)
termination_by l.length-k
decreasing_by all_goals (simp_all; omega)
end Go.Proofs.YtehfpjcclknipaaGreatDoor
namespace Go.Proofs.YtehfpjcclknipaaGreatDoor
open Go.RowKit
def Rdr (w:World) (rb:Nat) (s:ByteArray) (k:Nat):Prop:=w.heap[rb]?=some (.cells #[.string s,.int .i64 (k:Int)] 210 (0,0))
theorem Rdr.c0 {w:World} {rb:Nat} {s:ByteArray} {k:Nat} (h:Rdr w rb s k):w.cell? ⟨rb,0,none⟩=some (.string s):=cq 0 h
theorem Rdr.c1 {w:World} {rb:Nat} {s:ByteArray} {k:Nat} (h:Rdr w rb s k):w.cell? ⟨rb,1,none⟩=some (.int .i64 (k:Int)):=cq 1 h
theorem Rdr.fz {w:World} {rb:Nat} {s:ByteArray} {k:Nat} (h:Rdr w rb s k) (i:Nat):w.frozen? ⟨rb,i,none⟩=false:=by
 unfold Rdr at h; simp [World.frozen?,h]
theorem Rdr.lt {w:World} {rb:Nat} {s:ByteArray} {k:Nat} (h:Rdr w rb s k):rb<w.heap.size:=(Array.getElem?_eq_some_iff.1 h).1
theorem Rdr.to {w:World} {rb:Nat} {s:ByteArray} {k:Nat} (h:Rdr w rb s k) (k':Nat):Rdr (w.setCell ⟨rb,1,none⟩ (.int .i64 (k':Int))) rb s k':=
 heap_setCell_same _ _ 1 _ _ _ h
structure Tb (B rb:Nat) (w w':World):Prop where
 os:w'.os=w.os
 tape:w'.tape=w.tape
 output:w'.output=w.output
 size:w.heap.size≤w'.heap.size
 block:∀ k,k<B→k≠rb→w'.heap[k]?=w.heap[k]?
theorem Tb.refl (B rb:Nat) (w:World):Tb B rb w w:=⟨rfl,rfl,rfl,Nat.le_refl _,fun _ _ _=>rfl⟩
theorem Tb.trans {B rb:Nat} {a b c:World} (h:Tb B rb a b) (k:Tb B rb b c):Tb B rb a c:=
 ⟨k.os.trans h.os,k.tape.trans h.tape,k.output.trans h.output,Nat.le_trans h.size k.size,fun i hi hr=>(k.block i hi hr).trans (h.block i hi hr)⟩
theorem Tb.mono {B B' rb:Nat} {w w':World} (h:Tb B rb w w') (hB:B'≤B):Tb B' rb w w':=⟨h.os,h.tape,h.output,h.size,fun k hk=>h.block k (Nat.lt_of_lt_of_le hk hB)⟩
theorem Tb.of_below {B rb:Nat} {w w':World} (h:Below B w w'):Tb B rb w w':=⟨h.os,h.tape,h.output,h.size,fun k hk _=>h.block k hk⟩
theorem Tb.below {B rb:Nat} {w w':World} (h:Tb B rb w w') (hr:B≤rb):Below B w w':=⟨h.os,h.tape,h.output,h.size,fun k hk=>h.block k hk (by omega)⟩
theorem Tb.to (B rb:Nat) (w:World) (i:Nat) (v:Value):Tb B rb w (w.setCell ⟨rb,i,none⟩ v):=
 ⟨rfl,rfl,rfl,by simp,fun k _ hr=>Below.heap_setCell _ _ _ _ hr⟩
theorem Rdr.below {w w':World} {rb B:Nat} {s:ByteArray} {k:Nat} (h:Rdr w rb s k) (hb:Below B w w') (hl:rb<B):Rdr w' rb s k:=(hb.block rb hl).trans h
theorem below_drewN {B:Nat} {a w:World} (h:Below B a w) (n:Nat):Below B a (w.drewN n):=⟨h.os,h.tape,h.output,h.size,h.block⟩
theorem rest_any (rb:Nat) (s:ByteArray) (k:Nat) (w:World) (h:Rdr w rb s k) (hk:k≤s.size) :
  Calls Tryz.prog 141 #[.pointer (some ⟨rb,0,none⟩)] w fun e w'=>e=.returned (.string (s.extract k s.size))∧Below w.heap.size w w':=by
 have h0:=h.c0
 have h1:=h.c1
 have i0:(0:Int)≤(k:Int):=by omega
 have i1:(k:Int)≤(s.size:Int):=by omega
 clear h
 go_enter Tryz.func141,Tryz.ntmps141
 go_upto_region 1 with fail
 go_quiet (fail)
 go_wp2
 go_ret
 exact ⟨rfl,below_drewN (Below.refl _ _) _⟩
theorem more_any (rb:Nat) (s:ByteArray) (k:Nat) (w:World) (h:Rdr w rb s k) :
  Calls Tryz.prog 66 #[.pointer (some ⟨rb,0,none⟩)] w fun e w'=>e=.returned (.bool (decide (k<s.size)))∧Below w.heap.size w w':=by
 have h0:=h.c0
 have h1:=h.c1
 clear h
 go_enter Tryz.func66,Tryz.ntmps66
 go_upto_region 1 with fail
 go_quiet (fail)
 go_wp2
 go_ret
 exact ⟨ret_bool (by simp),below_drewN (Below.refl _ _) _⟩
theorem pre_any (s p:ByteArray) (w:World) :
  Calls Tryz.prog 140 #[.string s,.string p] w fun e w'=>e=.returned (.bool (Lib.hasPrefix s.data.toList p.data.toList))∧w'=w:=by
 have hI:Calls Tryz.prog 180 #[.string s,.string p] w fun e w'=>e=.returned (.bool (Lib.hasPrefix s.data.toList p.data.toList))∧w'=w:=by
  have H:=hide (Lib.hasPrefix_raw s p)
  go_enter Tryz.func180,Tryz.ntmps180
  go_wp2
  ·go_ret
   exact ⟨ret_bool (by rw [← uh H]; simp [*]),rfl⟩
  ·go_ret
   exact ⟨ret_bool (by rw [← uh H]; simp [*]),rfl⟩
 first
  | (go_enter Tryz.func140,Tryz.ntmps140
    go_wp2_with (go_at_call 180; refine hI.mono ?_; clear hI; rintro ev w1 ⟨rfl,hw⟩; obtain rfl:=hw.symm)
    go_ret
    exact ⟨rfl,rfl⟩)
theorem ext_list (s:ByteArray) (k:Nat):(s.extract k s.size).data.toList=s.data.toList.drop k:=by
 rw [ByteArray.data_extract,Array.toList_extract,List.extract_eq_take_drop]
 exact List.take_of_length_le (by rw [List.length_drop,← Lib.size_eq]; omega)
def begG (s:ByteArray) (k:Nat) (p:ByteArray):Bool:=Lib.hasPrefix (s.data.toList.drop k) p.data.toList
theorem begins_any (rb:Nat) (s p:ByteArray) (k:Nat) (w:World) (h:Rdr w rb s k) (hk:k≤s.size) :
  Calls Tryz.prog 106 #[.pointer (some ⟨rb,0,none⟩),.string p] w fun e w'=>e=.returned (.bool (begG s k p))∧Below w.heap.size w w':=by
 have hR:=rest_any rb s k w h hk
 have hP:=fun w1=>pre_any (s.extract k s.size) p w1
 rw [ext_list] at hP
 clear h
 go_enter Tryz.func106,Tryz.ntmps106
 go_wp2_with (first
  | (go_at_call 141; refine hR.mono ?_; clear hR; rintro ev w1 ⟨rfl,hb1⟩)
  | (go_at_call 140; refine (hP _).mono ?_; clear hP; rintro ev w2 ⟨rfl,hw⟩; obtain rfl:=hw.symm))
 go_ret
 exact ⟨rfl,hb1⟩
theorem take_no (rb:Nat) (s p:ByteArray) (k:Nat) (w:World) (h:Rdr w rb s k) (hk:k≤s.size) (hp:begG s k p=false) :
  Calls Tryz.prog 108 #[.pointer (some ⟨rb,0,none⟩),.string p] w fun e w'=>e=.returned (.bool false)∧Below w.heap.size w w':=by
 have hB:=begins_any rb s p k w h hk
 rw [hp] at hB
 clear h hp
 go_enter Tryz.func108,Tryz.ntmps108
 go_wp2_with (go_at_call 106; refine hB.mono ?_; clear hB; rintro ev w1 ⟨rfl,hb1⟩)
 go_ret
 exact ⟨rfl,hb1⟩
theorem beg_le {s p:ByteArray} {k:Nat} (hk:k≤s.size) (hp:begG s k p=true):k+p.size≤s.size:=by
 rw [begG,Lib.hasPrefix,List.isPrefixOf_iff_prefix] at hp
 have:=hp.length_le
 rw [List.length_drop,← Lib.size_eq,← Lib.size_eq] at this; omega
theorem take_yes (rb:Nat) (s p:ByteArray) (k:Nat) (w:World) (h:Rdr w rb s k) (hk:k≤s.size) (hs:s.size≤1073741824) (hp:begG s k p=true) :
  Calls Tryz.prog 108 #[.pointer (some ⟨rb,0,none⟩),.string p] w fun e w'=>e=.returned (.bool true)∧Rdr w' rb s (k+p.size)∧Tb w.heap.size rb w w':=by
 have hB:=begins_any rb s p k w h hk
 have hle:=beg_le hk hp
 rw [hp] at hB
 have H:=hide h
 clear h hp
 go_enter Tryz.func108,Tryz.ntmps108
 go_upto_region 3 with (go_at_call 106; refine hB.mono ?_; clear hB; rintro ev w1 ⟨rfl,hb1⟩)
 have h':=(uh H).below hb1 (uh H).lt
 have HR:=hide h'
 have h1:=h'.c1
 have z1:=h'.fz 1
 clear h'
 go_wp2_with fail
 go_ret
 have e:IntKind.i64.wrap ((k:Int)+(p.size:Int))=((k+p.size:Nat):Int):=by
  rw [← Int.natCast_add]; exact wrap_i64 _ (by omega)
 exact ⟨rfl,(uh HR).to _,(Tb.of_below hb1).trans (Tb.to _ _ _ _ _)⟩
end Go.Proofs.YtehfpjcclknipaaGreatDoor
