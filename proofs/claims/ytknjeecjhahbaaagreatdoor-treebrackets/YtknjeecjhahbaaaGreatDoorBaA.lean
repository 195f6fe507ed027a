/- Closed facts on the types that errors.As and errors.Is look into: a pointer to an errors.errorString, a pointer to an api.Fault. -/
import Derived.Test.YtknjeecjhahbaaaGreatDoorProg
import Derived.WalkKit
import Derived.LaidEql
import Derived.Stop.Asserts
import Derived.RowKitTokens
set_option linter.all false
namespace Go.Proofs.YtknjeecjhahbaaaGreatDoor
open Go.RowKit Go.Extern.Stop Go.Stop Go.Extern

theorem vOfTarget (t:Addr) (w:World):(ReflectliteValue.unpack (.iface 100 (.pointer (some t)))).run Tryz.prog w
  = .ok (.agg #[.pointer (some ⟨16,100,none⟩),.pointer (some ⟨w.heap.size,0,none⟩),.int .u64 150]) (w.alloc (.cells #[.pointer (some t)] 100)):=by kernel_rfl
theorem tyTarget (a : Addr) (w : World) : (ReflectliteValue.methodAny (ReflectliteValue.valueError "reflectlite.Value.Type" 0) (fun t _ _ _ => ReflectliteType.toType t) #[.agg #[.pointer (some ⟨16, 100, none⟩), .pointer (some a), .int .u64 150]]).run Tryz.prog w
  = .ok (.iface 143 (.agg #[.pointer (some ⟨16,100,none⟩)])) w:=by kernel_rfl
theorem mKind (h : Value) (w : World) : (Go.method 332 143 (.agg #[h]) "Kind").run Tryz.prog w = .ok (183, h) w := by kernel_rfl
theorem kTarget (w:World):((ReflectliteType.abiMethod fun t=>(fun a:Nat=>Value.int IntKind.u8 (a:Int)) <$> Rtype.kind t) #[.pointer (some ⟨16,100,none⟩)]).run Tryz.prog w = .ok (.int .u8 22) w:=by kernel_rfl
theorem kFault (w:World):((ReflectliteType.abiMethod fun t=>(fun a:Nat=>Value.int IntKind.u8 (a:Int)) <$> Rtype.kind t) #[.pointer (some ⟨16,59,none⟩)]).run Tryz.prog w = .ok (.int .u8 22) w:=by kernel_rfl
theorem partsTarget (a:Addr) (w:World):(ReflectliteValue.parts (.agg #[.pointer (some ⟨16,100,none⟩),.pointer (some a),.int .u64 150])).run Tryz.prog w = .ok (some (100,a,150)) w:=by kernel_rfl
theorem nilTarget (a p:Addr) (W:World) (ha:W.cell? a=some (.pointer (some p))) :
  (ReflectliteValue.method (ReflectliteValue.valueError "reflectlite.Value.IsNil" 0) ReflectliteValue.isNil #[.agg #[.pointer (some ⟨16, 100, none⟩), .pointer (some a), .int .u64 150]]).run Tryz.prog W = .ok (.bool false) W := by
 change Sem.run _ (ReflectliteValue.parts (.agg #[.pointer (some ⟨16,100,none⟩),.pointer (some a),.int .u64 150]) >>= _) _=_
 simp only [Sem.run_bind,partsTarget,Result.andThen]
 simp [ReflectliteValue.isNil,loadVar,isAgg,underlying,Tryz.underlying100,ha,Result.andThen]
theorem mElem (h : Value) (w : World) : (Go.method 332 143 (.agg #[h]) "Elem").run Tryz.prog w = .ok (194, .agg #[h]) w := by kernel_rfl
theorem mImplements (h : Value) (w : World) : (Go.method 332 143 (.agg #[h]) "Implements").run Tryz.prog w = .ok (195, .agg #[h]) w := by kernel_rfl
theorem mAssignable (h : Value) (w : World) : (Go.method 332 143 (.agg #[h]) "AssignableTo").run Tryz.prog w = .ok (192, .agg #[h]) w := by kernel_rfl
theorem elemTarget (w:World):(ReflectliteType.method ReflectliteType.elem #[.agg #[.pointer (some ⟨16,100,none⟩)]]).run Tryz.prog w = .ok (.iface 143 (.agg #[.pointer (some ⟨16,59,none⟩)])) w:=by kernel_rfl
theorem implFault (w : World) : (ReflectliteType.relation "Implements" ReflectliteType.implements_ #[.agg #[.pointer (some ⟨16, 59, none⟩)], .iface 143 (.agg #[.pointer (some ⟨16, 32, none⟩)])]).run Tryz.prog w = .ok (.bool true) w := by kernel_rfl
theorem tOfFault (v:Value) (w:World):(ReflectliteType.typeOf #[.iface 59 v]).run Tryz.prog w = .ok (.iface 143 (.agg #[.pointer (some ⟨16,59,none⟩)])) w:=by kernel_rfl
theorem tOfSent (v:Value) (w:World):(ReflectliteType.typeOf #[.iface 199 v]).run Tryz.prog w = .ok (.iface 143 (.agg #[.pointer (some ⟨16,199,none⟩)])) w:=by kernel_rfl
theorem asgFault (w : World) : (ReflectliteType.relation "AssignableTo" ReflectliteType.assignableTo #[.agg #[.pointer (some ⟨16, 59, none⟩)], .iface 143 (.agg #[.pointer (some ⟨16, 59, none⟩)])]).run Tryz.prog w = .ok (.bool true) w := by kernel_rfl
theorem vOfFault (e:Addr) (w:World):(ReflectliteValue.unpack (.iface 59 (.pointer (some e)))).run Tryz.prog w
  = .ok (.agg #[.pointer (some ⟨16,59,none⟩),.pointer (some ⟨w.heap.size,0,none⟩),.int .u64 150]) (w.alloc (.cells #[.pointer (some e)] 59)):=by kernel_rfl
theorem elemOfTarget (w:World):(Rtype.elem? 100).run Tryz.prog w = .ok (some 59) w:=by kernel_rfl
theorem mkFault (p:Addr) (w:World):(ReflectliteValue.mk 59 p ReflectliteValue.flagAddr).run Tryz.prog w = .ok (.agg #[.pointer (some ⟨16,59,none⟩),.pointer (some p),.int .u64 406]) w:=by kernel_rfl
theorem elemVTarget (a p:Addr) (W:World) (ha:W.cell? a=some (.pointer (some p))) :
  (ReflectliteValue.method (ReflectliteValue.valueError "reflectlite.Value.Elem" 0) ReflectliteValue.elem #[.agg #[.pointer (some ⟨16, 100, none⟩), .pointer (some a), .int .u64 150]]).run Tryz.prog W
   = .ok (.agg #[.pointer (some ⟨16,59,none⟩),.pointer (some p),.int .u64 406]) W:=by
 change Sem.run _ (ReflectliteValue.parts (.agg #[.pointer (some ⟨16,100,none⟩),.pointer (some a),.int .u64 150]) >>= _) _=_
 simp only [Sem.run_bind,partsTarget,Result.andThen]
 simp [ReflectliteValue.elem,loadVar,isAgg,underlying,Tryz.underlying100,ha,Result.andThen,elemOfTarget,mkFault]
theorem partsFaultA (a:Addr) (w:World):(ReflectliteValue.parts (.agg #[.pointer (some ⟨16,59,none⟩),.pointer (some a),.int .u64 406])).run Tryz.prog w = .ok (some (59,a,406)) w:=by kernel_rfl
theorem partsFault (a:Addr) (w:World):(ReflectliteValue.parts (.agg #[.pointer (some ⟨16,59,none⟩),.pointer (some a),.int .u64 150])).run Tryz.prog w = .ok (some (59,a,150)) w:=by kernel_rfl
theorem directFault (w:World):(Rtype.directlyAssignable 59 59).run Tryz.prog w = .ok true w:=by kernel_rfl
theorem setFault (ta b e:Addr) (old:Value) (W:World) (hb:W.cell? b=some (.pointer (some e))) (ht:W.cell? ta=some old) (hf:W.frozen? ta=false) :
  (ReflectliteValue.set #[.agg #[.pointer (some ⟨16,59,none⟩),.pointer (some ta),.int .u64 406],.agg #[.pointer (some ⟨16,59,none⟩),.pointer (some b),.int .u64 150]]).run Tryz.prog W
   = .ok (.tuple #[]) (W.setCell ta (.pointer (some e))):=by
 change Sem.run _ (ReflectliteValue.parts (.agg #[.pointer (some ⟨16,59,none⟩),.pointer (some ta),.int .u64 406]) >>= fun _=>ReflectliteValue.parts (.agg #[.pointer (some ⟨16,59,none⟩),.pointer (some b),.int .u64 150]) >>= _) _=_
 simp only [Sem.run_bind,partsFaultA,partsFault,Result.andThen]
 simp [ReflectliteValue.flagAddr,loadVar,isAgg,underlying,Tryz.underlying59,hb,Result.andThen,directFault,storeVar,Value.cells,storeCells,Addr.add]
 rw [run_store Tryz.prog W ta _ _ (by rfl)]
 simp [ht,hf]
theorem noIsSent (v:Value) (xT:TypeId) (w:World):(Instr.typeAssert (.iface 199 v) xT 154 true).run Tryz.prog w = .ok (.tuple #[.nilIface,.bool false]) w:=run_typeAssert_lacksB Tryz.underlying154 (by kernel_rfl) (by kernel_rfl) v xT w
theorem noUnSent (v:Value) (xT:TypeId) (w:World):(Instr.typeAssert (.iface 199 v) xT 150 true).run Tryz.prog w = .ok (.tuple #[.nilIface,.bool false]) w:=run_typeAssert_lacksB Tryz.underlying150 (by kernel_rfl) (by kernel_rfl) v xT w
theorem noUnsSent (v:Value) (xT:TypeId) (w:World):(Instr.typeAssert (.iface 199 v) xT 152 true).run Tryz.prog w = .ok (.tuple #[.nilIface,.bool false]) w:=run_typeAssert_lacksB Tryz.underlying152 (by kernel_rfl) (by kernel_rfl) v xT w
theorem noIsFault (v:Value) (xT:TypeId) (w:World):(Instr.typeAssert (.iface 59 v) xT 154 true).run Tryz.prog w = .ok (.tuple #[.nilIface,.bool false]) w:=run_typeAssert_lacksB Tryz.underlying154 (by kernel_rfl) (by kernel_rfl) v xT w
theorem hasUnFault (v:Value) (xT:TypeId) (w:World):(Instr.typeAssert (.iface 59 v) xT 150 true).run Tryz.prog w = .ok (.tuple #[.iface 59 v,.bool true]) w:=run_typeAssert_hasB Tryz.underlying150 (by kernel_rfl) v xT w
theorem mUnFault (v : Value) (w : World) : (Go.method 332 59 v "Unwrap").run Tryz.prog w = .ok (187, v) w := by kernel_rfl
theorem cmpSent (w : World) : ((ReflectliteType.method fun t => do Rtype.noPackHeld "Comparable" t; (fun a => Value.bool a.comparable) <$> typeInfo t) #[.agg #[.pointer (some ⟨16, 199, none⟩)]]).run Tryz.prog w = .ok (.bool true) w := by kernel_rfl
theorem mCmp (v : Value) (w : World) : (Go.method 332 143 v "Comparable").run Tryz.prog w = .ok (193, v) w := by kernel_rfl
theorem infoSp:(Tryz.prog.info? 199).map (·.comparable)=some true:=by kernel_rfl
theorem infoS:(Tryz.prog.info? 201).map (·.size)=some 1:=by kernel_rfl

theorem lt_of_cell {w:World}{a:Addr}{v:Value} (h:w.cell? a=some v):a.block<w.heap.size:=by
 rcases Nat.lt_or_ge a.block w.heap.size with h1 | h1
 ·exact h1
 ·simp [World.cell?,Array.getElem?_eq_none h1] at h

end Go.Proofs.YtknjeecjhahbaaaGreatDoor
namespace Go.Proofs.YtknjeecjhahbaaaGreatDoor
open Go.RowKit Go.Extern.Stop Go.Stop Go.Extern

set_option maxHeartbeats 4000000 in
theorem as_hit (e t:Addr) (old:Value) (w:World) (hg:w.cell? ⟨7,0,none⟩=some (.iface 143 (.agg #[.pointer (some ⟨16,32,none⟩)]))) (ht0:w.cell? t=some old) (hf0:w.frozen? t=false) :
  Calls Tryz.prog 59 #[.iface 59 (.pointer (some e)),.iface 100 (.pointer (some t))] w fun ev w'=>ev = .returned (.bool true)∧w'=((((w.alloc (.cells #[.pointer (some t)] 100)).alloc (.cells #[.pointer (some ⟨16,100,none⟩),.pointer (some ⟨w.heap.size,0,none⟩),.int .u64 150] 122)).alloc (.cells #[.pointer (some ⟨16,100,none⟩),.pointer (some ⟨w.heap.size,0,none⟩),.int .u64 150] 122)).alloc (.cells #[.pointer (some e)] 59)).setCell t (.pointer (some e)):=by
 have hVO:=@run_callFunc_extern Tryz.prog 87 _ (fun args=>ReflectliteValue.unpack (args.getD 0 (.tuple #[]))) Tryz.func87 (by kernel_rfl) (by kernel_rfl) (by kernel_rfl) (by kernel_rfl)
 have hVT := @run_callFunc_extern Tryz.prog 88 _ (ReflectliteValue.methodAny (ReflectliteValue.valueError "reflectlite.Value.Type" 0) (fun t _ _ _ => ReflectliteType.toType t)) Tryz.func88 (by kernel_rfl) (by kernel_rfl) (by kernel_rfl) (by kernel_rfl)
 have hVN := @run_callFunc_extern Tryz.prog 89 _ (ReflectliteValue.method (ReflectliteValue.valueError "reflectlite.Value.IsNil" 0) ReflectliteValue.isNil) Tryz.func89 (by kernel_rfl) (by kernel_rfl) (by kernel_rfl) (by kernel_rfl)
 have hK:=@run_callFunc_extern Tryz.prog 183 _ (ReflectliteType.abiMethod fun t=>do pure (.int .u8 (← Rtype.kind t))) Tryz.func183 (by kernel_rfl) (by kernel_rfl) (by kernel_rfl) (by kernel_rfl)
 have hRE:=@run_callFunc_extern Tryz.prog 194 _ (ReflectliteType.method ReflectliteType.elem) Tryz.func194 (by kernel_rfl) (by kernel_rfl) (by kernel_rfl) (by kernel_rfl)
 have hRI := @run_callFunc_extern Tryz.prog 195 _ (ReflectliteType.relation "Implements" ReflectliteType.implements_) Tryz.func195 (by kernel_rfl) (by kernel_rfl) (by kernel_rfl) (by kernel_rfl)
 have hTO:=@run_callFunc_extern Tryz.prog 91 _ ReflectliteType.typeOf Tryz.func91 (by kernel_rfl) (by kernel_rfl) (by kernel_rfl) (by kernel_rfl)
 have hRA := @run_callFunc_extern Tryz.prog 192 _ (ReflectliteType.relation "AssignableTo" ReflectliteType.assignableTo) Tryz.func192 (by kernel_rfl) (by kernel_rfl) (by kernel_rfl) (by kernel_rfl)
 have hVE := @run_callFunc_extern Tryz.prog 105 _ (ReflectliteValue.method (ReflectliteValue.valueError "reflectlite.Value.Elem" 0) ReflectliteValue.elem) Tryz.func105 (by kernel_rfl) (by kernel_rfl) (by kernel_rfl) (by kernel_rfl)
 have hVS:=@run_callFunc_extern Tryz.prog 106 _ ReflectliteValue.set Tryz.func106 (by kernel_rfl) (by kernel_rfl) (by kernel_rfl) (by kernel_rfl)
 have c1:=tOfFault
 have c2:=mAssignable
 have c3:=asgFault
 have c4:=vOfFault
 have c5:=vOfTarget
 have c6:=tyTarget
 have c7:=mKind
 have c8:=mElem
 have c9:=mImplements
 have c10:=kTarget
 have c11:=kFault
 have c12:=elemTarget
 have c13:=implFault
 have n8:=nilTarget ⟨w.heap.size,0,none⟩ t ((w.alloc (.cells #[.pointer (some t)] 100)).alloc (.cells #[.pointer (some ⟨16,100,none⟩),.pointer (some ⟨w.heap.size,0,none⟩),.int .u64 150] 122)) (by simp)
 have hlt:7<w.heap.size:=lt_of_cell hg
 have hg2:((w.alloc (.cells #[.pointer (some t)] 100)).alloc (.cells #[.pointer (some ⟨16,100,none⟩),.pointer (some ⟨w.heap.size,0,none⟩),.int .u64 150] 122)).cell? ⟨7,0,none⟩=some (.iface 143 (.agg #[.pointer (some ⟨16,32,none⟩)])):=by
  rw [World.cell?_alloc_lt _ _ ⟨7,0,none⟩ (by simp;omega),World.cell?_alloc_lt _ _ ⟨7,0,none⟩ hlt];exact hg
 have htl:t.block<w.heap.size:=lt_of_cell ht0
 have el:=elemVTarget ⟨w.heap.size,0,none⟩ t (((w.alloc (.cells #[.pointer (some t)] 100)).alloc (.cells #[.pointer (some ⟨16,100,none⟩),.pointer (some ⟨w.heap.size,0,none⟩),.int .u64 150] 122)).alloc (.cells #[.pointer (some ⟨16,100,none⟩),.pointer (some ⟨w.heap.size,0,none⟩),.int .u64 150] 122)) (by rw [World.cell?_alloc_lt _ _ ⟨w.heap.size,0,none⟩ (by simp;omega)];simp)
 have st:=setFault t ⟨w.heap.size+1+1+1,0,none⟩ e old ((((w.alloc (.cells #[.pointer (some t)] 100)).alloc (.cells #[.pointer (some ⟨16,100,none⟩),.pointer (some ⟨w.heap.size,0,none⟩),.int .u64 150] 122)).alloc (.cells #[.pointer (some ⟨16,100,none⟩),.pointer (some ⟨w.heap.size,0,none⟩),.int .u64 150] 122)).alloc (.cells #[.pointer (some e)] 59))
  (by rw [World.cell?_alloc_at _ _ _ _ (by simp)];rfl)
  (by rw [World.cell?_alloc_lt _ _ t (by simp;omega),World.cell?_alloc_lt _ _ t (by simp;omega),World.cell?_alloc_lt _ _ t (by simp;omega),World.cell?_alloc_lt _ _ t htl];exact ht0)
  (by rw [World.frozen?_alloc_old _ _ t (by simp;omega),World.frozen?_alloc_old _ _ t (by simp;omega),World.frozen?_alloc_old _ _ t (by simp;omega),World.frozen?_alloc_old _ _ t (Nat.ne_of_lt htl)];exact hf0)
 go_enter Tryz.func59,Tryz.ntmps59
 go_wp2
 refine wp_loop_rounds 1 ?_
 rw [rounds_succ]
 go_wp2
 go_ret
 exact ⟨rfl,rfl⟩

end Go.Proofs.YtknjeecjhahbaaaGreatDoor
