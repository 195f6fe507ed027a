/- Closed facts on the types that errors.As and errors.Is look into: a pointer to an errors.errorString, a pointer to an api.Fault. -/
import Derived.Test.YtnenggkgfhgcnaaGreatDoorProg
import Derived.WalkKit
import Derived.LaidEql
import Derived.Stop.Asserts
import Derived.RowKitTokens
import Derived.Carry
namespace Go.Proofs.YtnenggkgfhgcnaaGreatDoor
open Go.RowKit Go.Extern.Stop Go.Stop Go.Extern

theorem vOfTarget (t : Addr) (w : World) : (ReflectliteValue.unpack (.iface 121 (.pointer (some t)))).run Tryz.prog w
    = .ok (.agg #[.pointer (some ⟨8, 121, none⟩), .pointer (some ⟨w.heap.size, 0, none⟩), .int .u64 150]) (w.alloc (.cells #[.pointer (some t)] 121)) := by kernel_rfl
theorem tyTarget (a : Addr) (w : World) : (ReflectliteValue.methodAny (ReflectliteValue.valueError "reflectlite.Value.Type" 0) (fun t _ _ _ => ReflectliteType.toType t) #[.agg #[.pointer (some ⟨8, 121, none⟩), .pointer (some a), .int .u64 150]]).run Tryz.prog w
    = .ok (.iface 182 (.agg #[.pointer (some ⟨8, 121, none⟩)])) w := by kernel_rfl
theorem mKind (h : Value) (w : World) : (Go.method 348 182 (.agg #[h]) "Kind").run Tryz.prog w = .ok (160, h) w := by kernel_rfl
theorem kTarget (w : World) : ((ReflectliteType.abiMethod fun t => (fun a : Nat => Value.int IntKind.u8 (a : Int)) <$> Rtype.kind t) #[.pointer (some ⟨8, 121, none⟩)]).run Tryz.prog w = .ok (.int .u8 22) w := by kernel_rfl
theorem kFault (w : World) : ((ReflectliteType.abiMethod fun t => (fun a : Nat => Value.int IntKind.u8 (a : Int)) <$> Rtype.kind t) #[.pointer (some ⟨8, 119, none⟩)]).run Tryz.prog w = .ok (.int .u8 22) w := by kernel_rfl
theorem partsTarget (a : Addr) (w : World) : (ReflectliteValue.parts (.agg #[.pointer (some ⟨8, 121, none⟩), .pointer (some a), .int .u64 150])).run Tryz.prog w = .ok (some (121, a, 150)) w := by kernel_rfl
theorem nilTarget (a p : Addr) (W : World) (ha : W.cell? a = some (.pointer (some p))) :
    (ReflectliteValue.method (ReflectliteValue.valueError "reflectlite.Value.IsNil" 0) ReflectliteValue.isNil #[.agg #[.pointer (some ⟨8, 121, none⟩), .pointer (some a), .int .u64 150]]).run Tryz.prog W = .ok (.bool false) W := by
  change Sem.run _ (ReflectliteValue.parts (.agg #[.pointer (some ⟨8, 121, none⟩), .pointer (some a), .int .u64 150]) >>= _) _ = _
  simp only [Sem.run_bind, partsTarget, Result.andThen]
  simp [ReflectliteValue.isNil, loadVar, isAgg, underlying, Tryz.underlying121, ha, Result.andThen]
theorem mElem (h : Value) (w : World) : (Go.method 348 182 (.agg #[h]) "Elem").run Tryz.prog w = .ok (172, .agg #[h]) w := by kernel_rfl
theorem mImplements (h : Value) (w : World) : (Go.method 348 182 (.agg #[h]) "Implements").run Tryz.prog w = .ok (173, .agg #[h]) w := by kernel_rfl
theorem mAssignable (h : Value) (w : World) : (Go.method 348 182 (.agg #[h]) "AssignableTo").run Tryz.prog w = .ok (170, .agg #[h]) w := by kernel_rfl
theorem elemTarget (w : World) : (ReflectliteType.method ReflectliteType.elem #[.agg #[.pointer (some ⟨8, 121, none⟩)]]).run Tryz.prog w = .ok (.iface 182 (.agg #[.pointer (some ⟨8, 119, none⟩)])) w := by kernel_rfl
theorem implFault (w : World) : (ReflectliteType.relation "Implements" ReflectliteType.implements_ #[.agg #[.pointer (some ⟨8, 119, none⟩)], .iface 182 (.agg #[.pointer (some ⟨8, 34, none⟩)])]).run Tryz.prog w = .ok (.bool true) w := by kernel_rfl
theorem tOfFault (v : Value) (w : World) : (ReflectliteType.typeOf #[.iface 119 v]).run Tryz.prog w = .ok (.iface 182 (.agg #[.pointer (some ⟨8, 119, none⟩)])) w := by kernel_rfl
theorem tOfSent (v : Value) (w : World) : (ReflectliteType.typeOf #[.iface 216 v]).run Tryz.prog w = .ok (.iface 182 (.agg #[.pointer (some ⟨8, 216, none⟩)])) w := by kernel_rfl
theorem asgFault (w : World) : (ReflectliteType.relation "AssignableTo" ReflectliteType.assignableTo #[.agg #[.pointer (some ⟨8, 119, none⟩)], .iface 182 (.agg #[.pointer (some ⟨8, 119, none⟩)])]).run Tryz.prog w = .ok (.bool true) w := by kernel_rfl
theorem asgSent (w : World) : (ReflectliteType.relation "AssignableTo" ReflectliteType.assignableTo #[.agg #[.pointer (some ⟨8, 216, none⟩)], .iface 182 (.agg #[.pointer (some ⟨8, 119, none⟩)])]).run Tryz.prog w = .ok (.bool false) w := by kernel_rfl
theorem vOfFault (e : Addr) (w : World) : (ReflectliteValue.unpack (.iface 119 (.pointer (some e)))).run Tryz.prog w
    = .ok (.agg #[.pointer (some ⟨8, 119, none⟩), .pointer (some ⟨w.heap.size, 0, none⟩), .int .u64 150]) (w.alloc (.cells #[.pointer (some e)] 119)) := by kernel_rfl
theorem elemOfTarget (w : World) : (Rtype.elem? 121).run Tryz.prog w = .ok (some 119) w := by kernel_rfl
theorem mkFault (p : Addr) (w : World) : (ReflectliteValue.mk 119 p ReflectliteValue.flagAddr).run Tryz.prog w = .ok (.agg #[.pointer (some ⟨8, 119, none⟩), .pointer (some p), .int .u64 406]) w := by kernel_rfl
theorem elemVTarget (a p : Addr) (W : World) (ha : W.cell? a = some (.pointer (some p))) :
    (ReflectliteValue.method (ReflectliteValue.valueError "reflectlite.Value.Elem" 0) ReflectliteValue.elem #[.agg #[.pointer (some ⟨8, 121, none⟩), .pointer (some a), .int .u64 150]]).run Tryz.prog W
      = .ok (.agg #[.pointer (some ⟨8, 119, none⟩), .pointer (some p), .int .u64 406]) W := by
  change Sem.run _ (ReflectliteValue.parts (.agg #[.pointer (some ⟨8, 121, none⟩), .pointer (some a), .int .u64 150]) >>= _) _ = _
  simp only [Sem.run_bind, partsTarget, Result.andThen]
  simp [ReflectliteValue.elem, loadVar, isAgg, underlying, Tryz.underlying121, ha, Result.andThen, elemOfTarget, mkFault]
theorem partsFaultA (a : Addr) (w : World) : (ReflectliteValue.parts (.agg #[.pointer (some ⟨8, 119, none⟩), .pointer (some a), .int .u64 406])).run Tryz.prog w = .ok (some (119, a, 406)) w := by kernel_rfl
theorem partsFault (a : Addr) (w : World) : (ReflectliteValue.parts (.agg #[.pointer (some ⟨8, 119, none⟩), .pointer (some a), .int .u64 150])).run Tryz.prog w = .ok (some (119, a, 150)) w := by kernel_rfl
theorem directFault (w : World) : (Rtype.directlyAssignable 119 119).run Tryz.prog w = .ok true w := by kernel_rfl
theorem setFault (ta b e : Addr) (old : Value) (W : World) (hb : W.cell? b = some (.pointer (some e))) (ht : W.cell? ta = some old) (hf : W.frozen? ta = false) :
    (ReflectliteValue.set #[.agg #[.pointer (some ⟨8, 119, none⟩), .pointer (some ta), .int .u64 406], .agg #[.pointer (some ⟨8, 119, none⟩), .pointer (some b), .int .u64 150]]).run Tryz.prog W
      = .ok (.tuple #[]) (W.setCell ta (.pointer (some e))) := by
  change Sem.run _ (ReflectliteValue.parts (.agg #[.pointer (some ⟨8, 119, none⟩), .pointer (some ta), .int .u64 406]) >>= fun _ => ReflectliteValue.parts (.agg #[.pointer (some ⟨8, 119, none⟩), .pointer (some b), .int .u64 150]) >>= _) _ = _
  simp only [Sem.run_bind, partsFaultA, partsFault, Result.andThen]
  simp [ReflectliteValue.flagAddr, loadVar, isAgg, underlying, Tryz.underlying119, hb, Result.andThen, directFault, storeVar, Value.cells, storeCells, Addr.add]
  rw [run_store Tryz.prog W ta _ _ (by rfl)]
  simp [ht, hf]
theorem noAsSent (v : Value) (xT : TypeId) (w : World) : (Instr.typeAssert (.iface 216 v) xT 186 true).run Tryz.prog w = .ok (.tuple #[.nilIface, .bool false]) w := run_typeAssert_lacksB Tryz.underlying186 (by kernel_rfl) (by kernel_rfl) v xT w
theorem noIsSent (v : Value) (xT : TypeId) (w : World) : (Instr.typeAssert (.iface 216 v) xT 192 true).run Tryz.prog w = .ok (.tuple #[.nilIface, .bool false]) w := run_typeAssert_lacksB Tryz.underlying192 (by kernel_rfl) (by kernel_rfl) v xT w
theorem noUnSent (v : Value) (xT : TypeId) (w : World) : (Instr.typeAssert (.iface 216 v) xT 189 true).run Tryz.prog w = .ok (.tuple #[.nilIface, .bool false]) w := run_typeAssert_lacksB Tryz.underlying189 (by kernel_rfl) (by kernel_rfl) v xT w
theorem noUnsSent (v : Value) (xT : TypeId) (w : World) : (Instr.typeAssert (.iface 216 v) xT 190 true).run Tryz.prog w = .ok (.tuple #[.nilIface, .bool false]) w := run_typeAssert_lacksB Tryz.underlying190 (by kernel_rfl) (by kernel_rfl) v xT w
theorem noIsFault (v : Value) (xT : TypeId) (w : World) : (Instr.typeAssert (.iface 119 v) xT 192 true).run Tryz.prog w = .ok (.tuple #[.nilIface, .bool false]) w := run_typeAssert_lacksB Tryz.underlying192 (by kernel_rfl) (by kernel_rfl) v xT w
theorem hasUnFault (v : Value) (xT : TypeId) (w : World) : (Instr.typeAssert (.iface 119 v) xT 189 true).run Tryz.prog w = .ok (.tuple #[.iface 119 v, .bool true]) w := run_typeAssert_hasB Tryz.underlying189 (by kernel_rfl) v xT w
theorem mUnFault (v : Value) (w : World) : (Go.method 348 119 v "Unwrap").run Tryz.prog w = .ok (165, v) w := by kernel_rfl
theorem cmpSent (w : World) : ((ReflectliteType.method fun t => do Rtype.noPackHeld "Comparable" t; (fun a => Value.bool a.comparable) <$> typeInfo t) #[.agg #[.pointer (some ⟨8, 216, none⟩)]]).run Tryz.prog w = .ok (.bool true) w := by kernel_rfl
theorem mCmp (v : Value) (w : World) : (Go.method 348 182 v "Comparable").run Tryz.prog w = .ok (171, v) w := by kernel_rfl
theorem infoSp : (Tryz.prog.info? 216).map (·.comparable) = some true := by kernel_rfl
theorem infoS : (Tryz.prog.info? 236).map (·.size) = some 1 := by kernel_rfl

theorem lt_of_cell {w : World} {a : Addr} {v : Value} (h : w.cell? a = some v) : a.block < w.heap.size := by
  rcases Nat.lt_or_ge a.block w.heap.size with h1 | h1
  · exact h1
  · simp [World.cell?, Array.getElem?_eq_none h1] at h

end Go.Proofs.YtnenggkgfhgcnaaGreatDoor

/- errors.As, at the errors that this program makes, by contracts. -/
namespace Go.Proofs.YtnenggkgfhgcnaaGreatDoor
open Go.RowKit Go.Extern.Stop Go.Stop Go.Extern

set_option maxHeartbeats 4000000 in
/-- errors.As at a Fault: true, and the target holds it. -/
theorem as_hit (e t : Addr) (old : Value) (w : World) (hg : w.cell? ⟨7, 0, none⟩ = some (.iface 182 (.agg #[.pointer (some ⟨8, 34, none⟩)]))) (ht0 : w.cell? t = some old) (hf0 : w.frozen? t = false) :
    Calls Tryz.prog 64 #[.iface 119 (.pointer (some e)), .iface 121 (.pointer (some t))] w fun ev w' => ev = .returned (.bool true) ∧ w' = ((((w.alloc (.cells #[.pointer (some t)] 121)).alloc (.cells #[.pointer (some ⟨8, 121, none⟩), .pointer (some ⟨w.heap.size, 0, none⟩), .int .u64 150] 158)).alloc (.cells #[.pointer (some ⟨8, 121, none⟩), .pointer (some ⟨w.heap.size, 0, none⟩), .int .u64 150] 158)).alloc (.cells #[.pointer (some e)] 119)).setCell t (.pointer (some e)) := by
  have hVO := @run_callFunc_extern Tryz.prog 90 _ (fun args => ReflectliteValue.unpack (args.getD 0 (.tuple #[]))) Tryz.func90 (by kernel_rfl) (by kernel_rfl) (by kernel_rfl) (by kernel_rfl)
  have hVT := @run_callFunc_extern Tryz.prog 91 _ (ReflectliteValue.methodAny (ReflectliteValue.valueError "reflectlite.Value.Type" 0) (fun t _ _ _ => ReflectliteType.toType t)) Tryz.func91 (by kernel_rfl) (by kernel_rfl) (by kernel_rfl) (by kernel_rfl)
  have hVN := @run_callFunc_extern Tryz.prog 92 _ (ReflectliteValue.method (ReflectliteValue.valueError "reflectlite.Value.IsNil" 0) ReflectliteValue.isNil) Tryz.func92 (by kernel_rfl) (by kernel_rfl) (by kernel_rfl) (by kernel_rfl)
  have hK := @run_callFunc_extern Tryz.prog 160 _ (ReflectliteType.abiMethod fun t => do pure (.int .u8 (← Rtype.kind t))) Tryz.func160 (by kernel_rfl) (by kernel_rfl) (by kernel_rfl) (by kernel_rfl)
  have hRE := @run_callFunc_extern Tryz.prog 172 _ (ReflectliteType.method ReflectliteType.elem) Tryz.func172 (by kernel_rfl) (by kernel_rfl) (by kernel_rfl) (by kernel_rfl)
  have hRI := @run_callFunc_extern Tryz.prog 173 _ (ReflectliteType.relation "Implements" ReflectliteType.implements_) Tryz.func173 (by kernel_rfl) (by kernel_rfl) (by kernel_rfl) (by kernel_rfl)
  have hTO := @run_callFunc_extern Tryz.prog 94 _ ReflectliteType.typeOf Tryz.func94 (by kernel_rfl) (by kernel_rfl) (by kernel_rfl) (by kernel_rfl)
  have hRA := @run_callFunc_extern Tryz.prog 170 _ (ReflectliteType.relation "AssignableTo" ReflectliteType.assignableTo) Tryz.func170 (by kernel_rfl) (by kernel_rfl) (by kernel_rfl) (by kernel_rfl)
  have hVE := @run_callFunc_extern Tryz.prog 118 _ (ReflectliteValue.method (ReflectliteValue.valueError "reflectlite.Value.Elem" 0) ReflectliteValue.elem) Tryz.func118 (by kernel_rfl) (by kernel_rfl) (by kernel_rfl) (by kernel_rfl)
  have hVS := @run_callFunc_extern Tryz.prog 119 _ ReflectliteValue.set Tryz.func119 (by kernel_rfl) (by kernel_rfl) (by kernel_rfl) (by kernel_rfl)
  have c1 := tOfFault
  have c2 := mAssignable
  have c3 := asgFault
  have c4 := vOfFault
  have c5 := vOfTarget
  have c6 := tyTarget
  have c7 := mKind
  have c8 := mElem
  have c9 := mImplements
  have c10 := kTarget
  have c11 := kFault
  have c12 := elemTarget
  have c13 := implFault
  have n8 := nilTarget ⟨w.heap.size, 0, none⟩ t ((w.alloc (.cells #[.pointer (some t)] 121)).alloc (.cells #[.pointer (some ⟨8, 121, none⟩), .pointer (some ⟨w.heap.size, 0, none⟩), .int .u64 150] 158)) (by simp)
  have hlt : 7 < w.heap.size := lt_of_cell hg
  have hg2 : ((w.alloc (.cells #[.pointer (some t)] 121)).alloc (.cells #[.pointer (some ⟨8, 121, none⟩), .pointer (some ⟨w.heap.size, 0, none⟩), .int .u64 150] 158)).cell? ⟨7, 0, none⟩ = some (.iface 182 (.agg #[.pointer (some ⟨8, 34, none⟩)])) := by
    rw [World.cell?_alloc_lt _ _ ⟨7, 0, none⟩ (by simp; omega), World.cell?_alloc_lt _ _ ⟨7, 0, none⟩ hlt]; exact hg
  have htl : t.block < w.heap.size := lt_of_cell ht0
  have el := elemVTarget ⟨w.heap.size, 0, none⟩ t (((w.alloc (.cells #[.pointer (some t)] 121)).alloc (.cells #[.pointer (some ⟨8, 121, none⟩), .pointer (some ⟨w.heap.size, 0, none⟩), .int .u64 150] 158)).alloc (.cells #[.pointer (some ⟨8, 121, none⟩), .pointer (some ⟨w.heap.size, 0, none⟩), .int .u64 150] 158)) (by rw [World.cell?_alloc_lt _ _ ⟨w.heap.size, 0, none⟩ (by simp; omega)]; simp)
  have st := setFault t ⟨w.heap.size + 1 + 1 + 1, 0, none⟩ e old ((((w.alloc (.cells #[.pointer (some t)] 121)).alloc (.cells #[.pointer (some ⟨8, 121, none⟩), .pointer (some ⟨w.heap.size, 0, none⟩), .int .u64 150] 158)).alloc (.cells #[.pointer (some ⟨8, 121, none⟩), .pointer (some ⟨w.heap.size, 0, none⟩), .int .u64 150] 158)).alloc (.cells #[.pointer (some e)] 119))
    (by rw [World.cell?_alloc_at _ _ _ _ (by simp)]; rfl)
    (by rw [World.cell?_alloc_lt _ _ t (by simp; omega), World.cell?_alloc_lt _ _ t (by simp; omega), World.cell?_alloc_lt _ _ t (by simp; omega), World.cell?_alloc_lt _ _ t htl]; exact ht0)
    (by rw [World.frozen?_alloc_old _ _ t (by simp; omega), World.frozen?_alloc_old _ _ t (by simp; omega), World.frozen?_alloc_old _ _ t (by simp; omega), World.frozen?_alloc_old _ _ t (Nat.ne_of_lt htl)]; exact hf0)
  go_enter Tryz.func64, Tryz.ntmps64
  go_wp2
  refine wp_loop_rounds 1 ?_
  rw [rounds_succ]
  go_wp2
  go_ret
  exact ⟨rfl, rfl⟩

set_option maxHeartbeats 4000000 in
/-- errors.As at an error of errors.New: false, nothing old has turned. -/
theorem as_miss (e t : Addr) (w : World) (hg : w.cell? ⟨7, 0, none⟩ = some (.iface 182 (.agg #[.pointer (some ⟨8, 34, none⟩)]))) :
    Calls Tryz.prog 64 #[.iface 216 (.pointer (some e)), .iface 121 (.pointer (some t))] w fun ev w' => ev = .returned (.bool false) ∧ w' = ((w.alloc (.cells #[.pointer (some t)] 121)).alloc (.cells #[.pointer (some ⟨8, 121, none⟩), .pointer (some ⟨w.heap.size, 0, none⟩), .int .u64 150] 158)).alloc (.cells #[.pointer (some ⟨8, 121, none⟩), .pointer (some ⟨w.heap.size, 0, none⟩), .int .u64 150] 158) := by
  have hVO := @run_callFunc_extern Tryz.prog 90 _ (fun args => ReflectliteValue.unpack (args.getD 0 (.tuple #[]))) Tryz.func90 (by kernel_rfl) (by kernel_rfl) (by kernel_rfl) (by kernel_rfl)
  have hVT := @run_callFunc_extern Tryz.prog 91 _ (ReflectliteValue.methodAny (ReflectliteValue.valueError "reflectlite.Value.Type" 0) (fun t _ _ _ => ReflectliteType.toType t)) Tryz.func91 (by kernel_rfl) (by kernel_rfl) (by kernel_rfl) (by kernel_rfl)
  have hVN := @run_callFunc_extern Tryz.prog 92 _ (ReflectliteValue.method (ReflectliteValue.valueError "reflectlite.Value.IsNil" 0) ReflectliteValue.isNil) Tryz.func92 (by kernel_rfl) (by kernel_rfl) (by kernel_rfl) (by kernel_rfl)
  have hK := @run_callFunc_extern Tryz.prog 160 _ (ReflectliteType.abiMethod fun t => do pure (.int .u8 (← Rtype.kind t))) Tryz.func160 (by kernel_rfl) (by kernel_rfl) (by kernel_rfl) (by kernel_rfl)
  have hRE := @run_callFunc_extern Tryz.prog 172 _ (ReflectliteType.method ReflectliteType.elem) Tryz.func172 (by kernel_rfl) (by kernel_rfl) (by kernel_rfl) (by kernel_rfl)
  have hRI := @run_callFunc_extern Tryz.prog 173 _ (ReflectliteType.relation "Implements" ReflectliteType.implements_) Tryz.func173 (by kernel_rfl) (by kernel_rfl) (by kernel_rfl) (by kernel_rfl)
  have hTO := @run_callFunc_extern Tryz.prog 94 _ ReflectliteType.typeOf Tryz.func94 (by kernel_rfl) (by kernel_rfl) (by kernel_rfl) (by kernel_rfl)
  have hRA := @run_callFunc_extern Tryz.prog 170 _ (ReflectliteType.relation "AssignableTo" ReflectliteType.assignableTo) Tryz.func170 (by kernel_rfl) (by kernel_rfl) (by kernel_rfl) (by kernel_rfl)
  have c1 := tOfSent
  have c2 := mAssignable
  have c3 := asgSent
  have c5 := vOfTarget
  have c6 := tyTarget
  have c7 := mKind
  have c8 := mElem
  have c9 := mImplements
  have c10 := kTarget
  have c11 := kFault
  have c12 := elemTarget
  have c13 := implFault
  have c14 := noAsSent
  have c15 := noUnSent
  have c16 := noUnsSent
  have n8 := nilTarget ⟨w.heap.size, 0, none⟩ t ((w.alloc (.cells #[.pointer (some t)] 121)).alloc (.cells #[.pointer (some ⟨8, 121, none⟩), .pointer (some ⟨w.heap.size, 0, none⟩), .int .u64 150] 158)) (by simp)
  have hlt : 7 < w.heap.size := lt_of_cell hg
  have hg2 : ((w.alloc (.cells #[.pointer (some t)] 121)).alloc (.cells #[.pointer (some ⟨8, 121, none⟩), .pointer (some ⟨w.heap.size, 0, none⟩), .int .u64 150] 158)).cell? ⟨7, 0, none⟩ = some (.iface 182 (.agg #[.pointer (some ⟨8, 34, none⟩)])) := by
    rw [World.cell?_alloc_lt _ _ ⟨7, 0, none⟩ (by simp; omega), World.cell?_alloc_lt _ _ ⟨7, 0, none⟩ hlt]; exact hg
  go_enter Tryz.func64, Tryz.ntmps64
  go_wp2
  refine wp_loop_rounds 1 ?_
  rw [rounds_succ]
  go_wp2
  go_ret
  exact ⟨rfl, rfl⟩

end Go.Proofs.YtnenggkgfhgcnaaGreatDoor

/- errors.Is, at the errors that this program makes, by contracts. -/
namespace Go.Proofs.YtnenggkgfhgcnaaGreatDoor
open Go.RowKit Go.Extern.Stop Go.Stop Go.Extern

/-- errors.Is of an error of errors.New's make and itself. -/
theorem is_same (a : Addr) (w : World) :
    Calls Tryz.prog 65 #[.iface 216 (.pointer (some a)), .iface 216 (.pointer (some a))] w fun e w' => e = .returned (.bool true) ∧ w' = w := by
  obtain ⟨i, hi, hcmp⟩ := Option.map_eq_some_iff.1 infoSp
  obtain ⟨j, hj, hjs⟩ := Option.map_eq_some_iff.1 infoS
  have hTO := @run_callFunc_extern Tryz.prog 94 _ ReflectliteType.typeOf Tryz.func94 (by kernel_rfl) (by kernel_rfl) (by kernel_rfl) (by kernel_rfl)
  have hRC := @run_callFunc_extern Tryz.prog 171 _ (ReflectliteType.method fun t => do Rtype.noPackHeld "Comparable" t; pure (.bool (← typeInfo t).comparable)) Tryz.func171 (by kernel_rfl) (by kernel_rfl) (by kernel_rfl) (by kernel_rfl)
  have c1 := tOfSent
  have c2 := cmpSent
  have c3 := mCmp
  have heq := run_eql_iface_ptr_same (P := Tryz.prog) w a Tryz.underlying34 Tryz.underlying216 hi hcmp hj
  go_enter Tryz.func65, Tryz.ntmps65
  go_wp2
  refine wp_loop_rounds 1 ?_
  rw [rounds_succ]
  go_wp2
  go_ret
  exact ⟨rfl, rfl⟩

/-- errors.Is of two different errors of errors.New's make. -/
theorem is_other (a b : Addr) (ca cb : Array Value) (ta tb : TypeId) (w : World) (hne : a ≠ b) (ha : w.heap[a.block]? = some (.cells ca ta (0, 0))) (hb : w.heap[b.block]? = some (.cells cb tb (0, 0))) :
    Calls Tryz.prog 65 #[.iface 216 (.pointer (some a)), .iface 216 (.pointer (some b))] w fun e w' => e = .returned (.bool false) ∧ w' = w := by
  obtain ⟨i, hi, hcmp⟩ := Option.map_eq_some_iff.1 infoSp
  obtain ⟨j, hj, hjs⟩ := Option.map_eq_some_iff.1 infoS
  have hTO := @run_callFunc_extern Tryz.prog 94 _ ReflectliteType.typeOf Tryz.func94 (by kernel_rfl) (by kernel_rfl) (by kernel_rfl) (by kernel_rfl)
  have hRC := @run_callFunc_extern Tryz.prog 171 _ (ReflectliteType.method fun t => do Rtype.noPackHeld "Comparable" t; pure (.bool (← typeInfo t).comparable)) Tryz.func171 (by kernel_rfl) (by kernel_rfl) (by kernel_rfl) (by kernel_rfl)
  have c1 := tOfSent
  have c2 := cmpSent
  have c3 := mCmp
  have c4 := noIsSent
  have c5 := noUnSent
  have c6 := noUnsSent
  have heq := run_eql_iface_ptr_other (P := Tryz.prog) w Tryz.underlying34 Tryz.underlying216 hi hcmp hj (by rw [hjs]; decide) hne ha hb
  go_enter Tryz.func65, Tryz.ntmps65
  go_wp2
  refine wp_loop_rounds 1 ?_
  rw [rounds_succ]
  go_wp2
  go_ret
  exact ⟨rfl, rfl⟩

/-- errors.Is of a Fault that holds the other. -/
theorem is_wrap_same (p : Addr) (b : Addr) (w : World) (hp : p.spot = none) (h1 : w.cell? ⟨p.block, p.off + 1, none⟩ = some (.iface 216 (.pointer (some b)))) :
    Calls Tryz.prog 65 #[.iface 119 (.pointer (some p)), .iface 216 (.pointer (some b))] w fun e w' => e = .returned (.bool true) ∧ w' = w := by
  obtain ⟨pb, po, pk⟩ := p
  obtain rfl : pk = none := hp
  obtain ⟨i, hi, hcmp⟩ := Option.map_eq_some_iff.1 infoSp
  obtain ⟨j, hj, hjs⟩ := Option.map_eq_some_iff.1 infoS
  have hTO := @run_callFunc_extern Tryz.prog 94 _ ReflectliteType.typeOf Tryz.func94 (by kernel_rfl) (by kernel_rfl) (by kernel_rfl) (by kernel_rfl)
  have hRC := @run_callFunc_extern Tryz.prog 171 _ (ReflectliteType.method fun t => do Rtype.noPackHeld "Comparable" t; pure (.bool (← typeInfo t).comparable)) Tryz.func171 (by kernel_rfl) (by kernel_rfl) (by kernel_rfl) (by kernel_rfl)
  have c1 := tOfSent
  have c2 := cmpSent
  have c3 := mCmp
  have c4 := noIsFault
  have c5 := hasUnFault
  have c6 := mUnFault
  have heq := run_eql_iface_ptr_same (P := Tryz.prog) w b Tryz.underlying34 Tryz.underlying216 hi hcmp hj
  have hty := run_eql_iface_types (P := Tryz.prog) 119 216 (.pointer (some ⟨pb, po, none⟩)) (.pointer (some b)) Tryz.underlying34 (by decide) w
  go_enter Tryz.func65, Tryz.ntmps65
  go_wp2
  refine wp_loop_rounds 2 ?_
  rw [rounds_succ]
  go_wp2
  rw [rounds_succ]
  go_wp2
  go_ret
  exact ⟨rfl, rfl⟩

/-- errors.Is of a Fault that holds another error of errors.New's make. -/
theorem is_wrap_other (p : Addr) (b a : Addr) (ca cb : Array Value) (ta tb : TypeId) (w : World) (hp : p.spot = none) (h1 : w.cell? ⟨p.block, p.off + 1, none⟩ = some (.iface 216 (.pointer (some a)))) (hne : a ≠ b) (ha : w.heap[a.block]? = some (.cells ca ta (0, 0))) (hb : w.heap[b.block]? = some (.cells cb tb (0, 0))) :
    Calls Tryz.prog 65 #[.iface 119 (.pointer (some p)), .iface 216 (.pointer (some b))] w fun e w' => e = .returned (.bool false) ∧ w' = w := by
  obtain ⟨pb, po, pk⟩ := p
  obtain rfl : pk = none := hp
  obtain ⟨i, hi, hcmp⟩ := Option.map_eq_some_iff.1 infoSp
  obtain ⟨j, hj, hjs⟩ := Option.map_eq_some_iff.1 infoS
  have hTO := @run_callFunc_extern Tryz.prog 94 _ ReflectliteType.typeOf Tryz.func94 (by kernel_rfl) (by kernel_rfl) (by kernel_rfl) (by kernel_rfl)
  have hRC := @run_callFunc_extern Tryz.prog 171 _ (ReflectliteType.method fun t => do Rtype.noPackHeld "Comparable" t; pure (.bool (← typeInfo t).comparable)) Tryz.func171 (by kernel_rfl) (by kernel_rfl) (by kernel_rfl) (by kernel_rfl)
  have c1 := tOfSent
  have c2 := cmpSent
  have c3 := mCmp
  have c4 := noIsSent
  have c5 := noUnSent
  have c6 := noUnsSent
  have c7 := noIsFault
  have c8 := hasUnFault
  have c9 := mUnFault
  have heq := run_eql_iface_ptr_other (P := Tryz.prog) w Tryz.underlying34 Tryz.underlying216 hi hcmp hj (by rw [hjs]; decide) hne ha hb
  have hty := run_eql_iface_types (P := Tryz.prog) 119 216 (.pointer (some ⟨pb, po, none⟩)) (.pointer (some b)) Tryz.underlying34 (by decide) w
  go_enter Tryz.func65, Tryz.ntmps65
  go_wp2
  refine wp_loop_rounds 2 ?_
  rw [rounds_succ]
  go_wp2
  rw [rounds_succ]
  go_wp2
  go_ret
  exact ⟨rfl, rfl⟩
end Go.Proofs.YtnenggkgfhgcnaaGreatDoor

/- plain.Code, at the errors that this program makes, by contracts. -/
namespace Go.Proofs.YtnenggkgfhgcnaaGreatDoor
open Go.RowKit Go.Extern.Stop Go.Stop Go.Extern

/-- What a call of plain.Code wants of memory: the handle of the type error, and the seven errors of package api, apart from each other. -/
structure Errs (a : Nat → Addr) (w : World) : Prop where
  h : w.cell? ⟨7, 0, none⟩ = some (.iface 182 (.agg #[.pointer (some ⟨8, 34, none⟩)]))
  c0 : w.cell? ⟨3, 0, none⟩ = some (.iface 216 (.pointer (some (a 0))))
  c1 : w.cell? ⟨1, 0, none⟩ = some (.iface 216 (.pointer (some (a 1))))
  c2 : w.cell? ⟨2, 0, none⟩ = some (.iface 216 (.pointer (some (a 2))))
  c3 : w.cell? ⟨4, 0, none⟩ = some (.iface 216 (.pointer (some (a 3))))
  c4 : w.cell? ⟨5, 0, none⟩ = some (.iface 216 (.pointer (some (a 4))))
  c5 : w.cell? ⟨0, 0, none⟩ = some (.iface 216 (.pointer (some (a 5))))
  c6 : w.cell? ⟨6, 0, none⟩ = some (.iface 216 (.pointer (some (a 6))))
  b : ∀ i, i < 7 → ∃ c t, w.heap[(a i).block]? = some (.cells c t (0, 0))
  ne : ∀ i j, i < 7 → j < 7 → i ≠ j → a i ≠ a j

theorem lt_of_heap {w : World} {k : Nat} {o : Obj} (h : w.heap[k]? = some o) : k < w.heap.size := by
  rcases Nat.lt_or_ge k w.heap.size with h1 | h1
  · exact h1
  · rw [Array.getElem?_eq_none h1] at h; cases h

theorem Errs.below {a : Nat → Addr} {w w' : World} (E : Errs a w) (hb : Below w.heap.size w w') : Errs a w' where
  h := (hb.cell (p := ⟨7, 0, none⟩) (lt_of_cell E.h)).trans E.h
  c0 := (hb.cell (p := ⟨3, 0, none⟩) (lt_of_cell E.c0)).trans E.c0
  c1 := (hb.cell (p := ⟨1, 0, none⟩) (lt_of_cell E.c1)).trans E.c1
  c2 := (hb.cell (p := ⟨2, 0, none⟩) (lt_of_cell E.c2)).trans E.c2
  c3 := (hb.cell (p := ⟨4, 0, none⟩) (lt_of_cell E.c3)).trans E.c3
  c4 := (hb.cell (p := ⟨5, 0, none⟩) (lt_of_cell E.c4)).trans E.c4
  c5 := (hb.cell (p := ⟨0, 0, none⟩) (lt_of_cell E.c5)).trans E.c5
  c6 := (hb.cell (p := ⟨6, 0, none⟩) (lt_of_cell E.c6)).trans E.c6
  b := fun i hi => by
    obtain ⟨c, t, h⟩ := E.b i hi
    exact ⟨c, t, (hb.block _ (lt_of_heap h)).trans h⟩
  ne := E.ne

/-- The number that plain.Code tells, out of what errors.Is answers at each of the seven. -/
def codeOf (is : Nat → Bool) : Int := if is 0 then 1 else if is 1 then 2 else if is 2 then 3 else if is 3 then 4 else if is 4 then 5 else if is 5 then 6 else if is 6 then 7 else -1

theorem as_miss' (e t : Addr) (w : World) (hg : w.cell? ⟨7, 0, none⟩ = some (.iface 182 (.agg #[.pointer (some ⟨8, 34, none⟩)]))) :
    Calls Tryz.prog 64 #[.iface 216 (.pointer (some e)), .iface 121 (.pointer (some t))] w fun ev w' => ev = .returned (.bool false) ∧ Below w.heap.size w w' := by
  refine (as_miss e t w hg).mono ?_
  rintro ev w' ⟨h1, h2⟩
  subst h2
  exact ⟨h1, (((Below.refl _ _).alloc (Nat.le_refl _) _).alloc (by simp) _).alloc (by simp; omega) _⟩

theorem as_hit' (e t : Addr) (old : Value) (w : World) (hg : w.cell? ⟨7, 0, none⟩ = some (.iface 182 (.agg #[.pointer (some ⟨8, 34, none⟩)]))) (ht0 : w.cell? t = some old) (hf0 : w.frozen? t = false) :
    Calls Tryz.prog 64 #[.iface 119 (.pointer (some e)), .iface 121 (.pointer (some t))] w fun ev w' => ev = .returned (.bool true) ∧ Below t.block w w' ∧ w'.cell? t = some (.pointer (some e)) := by
  have htl : t.block < w.heap.size := lt_of_cell ht0
  refine (as_hit e t old w hg ht0 hf0).mono ?_
  rintro ev w' ⟨h1, h2⟩
  subst h2
  refine ⟨h1, ?_, ?_⟩
  · exact (((((Below.refl _ _).alloc (by omega) _).alloc (by simp; omega) _).alloc (by simp; omega) _).alloc (by simp; omega) _).setCell (Nat.le_refl _) _
  · refine World.cell?_setCell_same _ _ _ (u := old) ?_
    rw [World.cell?_alloc_lt _ _ t (by simp; omega), World.cell?_alloc_lt _ _ t (by simp; omega), World.cell?_alloc_lt _ _ t (by simp; omega), World.cell?_alloc_lt _ _ t htl]; exact ht0

set_option maxHeartbeats 4000000 in
theorem code_miss (a : Nat → Addr) (e : Addr) (is : Nat → Bool) (w : World) (E : Errs a w)
    (hIs : ∀ i, i < 7 → ∀ w1, Below w.heap.size w w1 → Calls Tryz.prog 65 #[.iface 216 (.pointer (some e)), .iface 216 (.pointer (some (a i)))] w1 fun ev w' => ev = .returned (.bool (is i)) ∧ w' = w1) :
    Calls Tryz.prog 32 #[.iface 216 (.pointer (some e))] w fun ev w' => ev = .returned (.tuple #[.int .i64 (codeOf is), .int .i64 (-1)]) ∧ Below w.heap.size w w' := by
  have HI : Hid (∀ i, i < 7 → ∀ w1, Below w.heap.size w w1 → Calls Tryz.prog 65 #[.iface 216 (.pointer (some e)), .iface 216 (.pointer (some (a i)))] w1 fun ev w' => ev = .returned (.bool (is i)) ∧ w' = w1) := hIs
  clear hIs
  go_enter Tryz.func32, Tryz.ntmps32
  go_wp2_with fail
  refine (as_miss' _ _ _ (E.below ((Below.refl _ _).alloc (Nat.le_refl _) _)).h).mono ?_
  rintro ev w2 ⟨rfl, hb⟩
  have hbw : Below w.heap.size w w2 := ((Below.refl _ _).alloc (Nat.le_refl _) _).trans (hb.mono (by simp))
  have E2 := E.below hbw
  have hsz : w.heap.size ≤ w2.heap.size := hbw.size
  have k0 := E2.c0
  have k1 := E2.c1
  have k2 := E2.c2
  have k3 := E2.c3
  have k4 := E2.c4
  have k5 := E2.c5
  have k6 := E2.c6
  go_wp2_with fail
  refine wp_loop_rounds 8 ?_
  clear k0 k1 k2 k3 k4 k5 k6
  rw [rounds_succ]
  go_wp2_with fail
  refine (HI.out 0 (by decide) _ (hbw.alloc hsz _)).mono ?_
  rintro ev w3 ⟨rfl, rfl⟩
  cases j0 : is 0
  rotate_left
  · go_wp2_with fail
    go_ret2
    exact ⟨by simp [codeOf, j0], hbw.alloc hsz _⟩
  go_wp2_with fail
  rw [rounds_succ]
  go_wp2_with fail
  refine (HI.out 1 (by decide) _ (hbw.alloc hsz _)).mono ?_
  rintro ev w3 ⟨rfl, rfl⟩
  cases j1 : is 1
  rotate_left
  · go_wp2_with fail
    go_ret2
    exact ⟨by simp [codeOf, j0, j1], hbw.alloc hsz _⟩
  go_wp2_with fail
  rw [rounds_succ]
  go_wp2_with fail
  refine (HI.out 2 (by decide) _ (hbw.alloc hsz _)).mono ?_
  rintro ev w3 ⟨rfl, rfl⟩
  cases j2 : is 2
  rotate_left
  · go_wp2_with fail
    go_ret2
    exact ⟨by simp [codeOf, j0, j1, j2], hbw.alloc hsz _⟩
  go_wp2_with fail
  rw [rounds_succ]
  go_wp2_with fail
  refine (HI.out 3 (by decide) _ (hbw.alloc hsz _)).mono ?_
  rintro ev w3 ⟨rfl, rfl⟩
  cases j3 : is 3
  rotate_left
  · go_wp2_with fail
    go_ret2
    exact ⟨by simp [codeOf, j0, j1, j2, j3], hbw.alloc hsz _⟩
  go_wp2_with fail
  rw [rounds_succ]
  go_wp2_with fail
  refine (HI.out 4 (by decide) _ (hbw.alloc hsz _)).mono ?_
  rintro ev w3 ⟨rfl, rfl⟩
  cases j4 : is 4
  rotate_left
  · go_wp2_with fail
    go_ret2
    exact ⟨by simp [codeOf, j0, j1, j2, j3, j4], hbw.alloc hsz _⟩
  go_wp2_with fail
  rw [rounds_succ]
  go_wp2_with fail
  refine (HI.out 5 (by decide) _ (hbw.alloc hsz _)).mono ?_
  rintro ev w3 ⟨rfl, rfl⟩
  cases j5 : is 5
  rotate_left
  · go_wp2_with fail
    go_ret2
    exact ⟨by simp [codeOf, j0, j1, j2, j3, j4, j5], hbw.alloc hsz _⟩
  go_wp2_with fail
  rw [rounds_succ]
  go_wp2_with fail
  refine (HI.out 6 (by decide) _ (hbw.alloc hsz _)).mono ?_
  rintro ev w3 ⟨rfl, rfl⟩
  cases j6 : is 6
  rotate_left
  · go_wp2_with fail
    go_ret2
    exact ⟨by simp [codeOf, j0, j1, j2, j3, j4, j5, j6], hbw.alloc hsz _⟩
  go_wp2_with fail
  rw [rounds_succ]
  go_wp2_with fail
  go_ret2
  exact ⟨by simp [codeOf, j0, j1, j2, j3, j4, j5, j6], hbw.alloc hsz _⟩

set_option maxHeartbeats 4000000 in
theorem code_hit (a : Nat → Addr) (pb po : Nat) (at_ : Int) (is : Nat → Bool) (w : World) (E : Errs a w) (hat : w.cell? ⟨pb, po, none⟩ = some (.int .i64 at_))
    (hIs : ∀ i, i < 7 → ∀ w1, Below w.heap.size w w1 → Calls Tryz.prog 65 #[.iface 119 (.pointer (some ⟨pb, po, none⟩)), .iface 216 (.pointer (some (a i)))] w1 fun ev w' => ev = .returned (.bool (is i)) ∧ w' = w1) :
    Calls Tryz.prog 32 #[.iface 119 (.pointer (some ⟨pb, po, none⟩))] w fun ev w' => ev = .returned (.tuple #[.int .i64 (codeOf is), .int .i64 at_]) ∧ Below w.heap.size w w' := by
  have HI : Hid (∀ i, i < 7 → ∀ w1, Below w.heap.size w w1 → Calls Tryz.prog 65 #[.iface 119 (.pointer (some ⟨pb, po, none⟩)), .iface 216 (.pointer (some (a i)))] w1 fun ev w' => ev = .returned (.bool (is i)) ∧ w' = w1) := hIs
  clear hIs
  go_enter Tryz.func32, Tryz.ntmps32
  go_wp2_with fail
  refine (as_hit' _ _ (.pointer none) _ (E.below ((Below.refl _ _).alloc (Nat.le_refl _) _)).h (by simp) (by simp)).mono ?_
  rintro ev w2 ⟨rfl, hb, ht⟩
  have hbw : Below w.heap.size w w2 := ((Below.refl _ _).alloc (Nat.le_refl _) _).trans hb
  have hat2 : w2.cell? ⟨pb, po, none⟩ = some (.int .i64 at_) := (hbw.cell (p := ⟨pb, po, none⟩) (lt_of_cell hat)).trans hat
  have E2 := E.below hbw
  have hsz : w.heap.size ≤ w2.heap.size := hbw.size
  have k0 := E2.c0
  have k1 := E2.c1
  have k2 := E2.c2
  have k3 := E2.c3
  have k4 := E2.c4
  have k5 := E2.c5
  have k6 := E2.c6
  go_wp2_with fail
  refine wp_loop_rounds 8 ?_
  clear k0 k1 k2 k3 k4 k5 k6
  rw [rounds_succ]
  go_wp2_with fail
  refine (HI.out 0 (by decide) _ (hbw.alloc hsz _)).mono ?_
  rintro ev w3 ⟨rfl, rfl⟩
  cases j0 : is 0
  rotate_left
  · go_wp2_with fail
    go_ret2
    exact ⟨by simp [codeOf, j0], hbw.alloc hsz _⟩
  go_wp2_with fail
  rw [rounds_succ]
  go_wp2_with fail
  refine (HI.out 1 (by decide) _ (hbw.alloc hsz _)).mono ?_
  rintro ev w3 ⟨rfl, rfl⟩
  cases j1 : is 1
  rotate_left
  · go_wp2_with fail
    go_ret2
    exact ⟨by simp [codeOf, j0, j1], hbw.alloc hsz _⟩
  go_wp2_with fail
  rw [rounds_succ]
  go_wp2_with fail
  refine (HI.out 2 (by decide) _ (hbw.alloc hsz _)).mono ?_
  rintro ev w3 ⟨rfl, rfl⟩
  cases j2 : is 2
  rotate_left
  · go_wp2_with fail
    go_ret2
    exact ⟨by simp [codeOf, j0, j1, j2], hbw.alloc hsz _⟩
  go_wp2_with fail
  rw [rounds_succ]
  go_wp2_with fail
  refine (HI.out 3 (by decide) _ (hbw.alloc hsz _)).mono ?_
  rintro ev w3 ⟨rfl, rfl⟩
  cases j3 : is 3
  rotate_left
  · go_wp2_with fail
    go_ret2
    exact ⟨by simp [codeOf, j0, j1, j2, j3], hbw.alloc hsz _⟩
  go_wp2_with fail
  rw [rounds_succ]
  go_wp2_with fail
  refine (HI.out 4 (by decide) _ (hbw.alloc hsz _)).mono ?_
  rintro ev w3 ⟨rfl, rfl⟩
  cases j4 : is 4
  rotate_left
  · go_wp2_with fail
    go_ret2
    exact ⟨by simp [codeOf, j0, j1, j2, j3, j4], hbw.alloc hsz _⟩
  go_wp2_with fail
  rw [rounds_succ]
  go_wp2_with fail
  refine (HI.out 5 (by decide) _ (hbw.alloc hsz _)).mono ?_
  rintro ev w3 ⟨rfl, rfl⟩
  cases j5 : is 5
  rotate_left
  · go_wp2_with fail
    go_ret2
    exact ⟨by simp [codeOf, j0, j1, j2, j3, j4, j5], hbw.alloc hsz _⟩
  go_wp2_with fail
  rw [rounds_succ]
  go_wp2_with fail
  refine (HI.out 6 (by decide) _ (hbw.alloc hsz _)).mono ?_
  rintro ev w3 ⟨rfl, rfl⟩
  cases j6 : is 6
  rotate_left
  · go_wp2_with fail
    go_ret2
    exact ⟨by simp [codeOf, j0, j1, j2, j3, j4, j5, j6], hbw.alloc hsz _⟩
  go_wp2_with fail
  rw [rounds_succ]
  go_wp2_with fail
  go_ret2
  exact ⟨by simp [codeOf, j0, j1, j2, j3, j4, j5, j6], hbw.alloc hsz _⟩

theorem codeOf_eq (k : Nat) (hk : k < 7) : codeOf (fun i => i == k) = k + 1 := by
  obtain rfl | rfl | rfl | rfl | rfl | rfl | rfl : k = 0 ∨ k = 1 ∨ k = 2 ∨ k = 3 ∨ k = 4 ∨ k = 5 ∨ k = 6 := by omega
  all_goals rfl

/-- plain.Code of the k-th error of package api. -/
theorem code_sent (a : Nat → Addr) (k : Nat) (hk : k < 7) (w : World) (E : Errs a w) :
    Calls Tryz.prog 32 #[.iface 216 (.pointer (some (a k)))] w fun ev w' => ev = .returned (.tuple #[.int .i64 (k + 1), .int .i64 (-1)]) ∧ Below w.heap.size w w' := by
  have h := code_miss a (a k) (fun i => i == k) w E (fun i hi w1 hb => by
    by_cases e : i = k
    · subst e
      refine (is_same (a i) w1).mono ?_
      rintro ev w' ⟨h1, h2⟩
      exact ⟨by rw [h1]; simp, h2⟩
    · obtain ⟨c1, t1, h1⟩ := (E.below hb).b k hk
      obtain ⟨c2, t2, h2⟩ := (E.below hb).b i hi
      refine (is_other (a k) (a i) c1 c2 t1 t2 w1 (E.ne k i hk hi (Ne.symm e)) h1 h2).mono ?_
      rintro ev w' ⟨h1, h2⟩
      exact ⟨by rw [h1]; simp [e], h2⟩)
  rw [codeOf_eq k hk] at h
  exact h

/-- plain.Code of a Fault that holds the k-th error of package api. -/
theorem code_fault (a : Nat → Addr) (k : Nat) (hk : k < 7) (pb po : Nat) (at_ : Int) (w : World) (E : Errs a w) (hat : w.cell? ⟨pb, po, none⟩ = some (.int .i64 at_)) (her : w.cell? ⟨pb, po + 1, none⟩ = some (.iface 216 (.pointer (some (a k))))) :
    Calls Tryz.prog 32 #[.iface 119 (.pointer (some ⟨pb, po, none⟩))] w fun ev w' => ev = .returned (.tuple #[.int .i64 (k + 1), .int .i64 at_]) ∧ Below w.heap.size w w' := by
  have h := code_hit a pb po at_ (fun i => i == k) w E hat (fun i hi w1 hb => by
    have her1 : w1.cell? ⟨pb, po + 1, none⟩ = some (.iface 216 (.pointer (some (a k)))) := (hb.cell (p := ⟨pb, po + 1, none⟩) (lt_of_cell her)).trans her
    by_cases e : i = k
    · subst e
      refine (is_wrap_same ⟨pb, po, none⟩ (a i) w1 rfl her1).mono ?_
      rintro ev w' ⟨h1, h2⟩
      exact ⟨by rw [h1]; simp, h2⟩
    · obtain ⟨c1, t1, h1⟩ := (E.below hb).b k hk
      obtain ⟨c2, t2, h2⟩ := (E.below hb).b i hi
      refine (is_wrap_other ⟨pb, po, none⟩ (a i) (a k) c1 c2 t1 t2 w1 rfl her1 (E.ne k i hk hi (Ne.symm e)) h1 h2).mono ?_
      rintro ev w' ⟨h1, h2⟩
      exact ⟨by rw [h1]; simp [e], h2⟩)
  rw [codeOf_eq k hk] at h
  exact h

/-- plain.Code of another error of errors.New's make. -/
theorem code_other (a : Nat → Addr) (e : Addr) (c : Array Value) (t : TypeId) (w : World) (E : Errs a w) (he : w.heap[e.block]? = some (.cells c t (0, 0))) (hne : ∀ i, i < 7 → e ≠ a i) :
    Calls Tryz.prog 32 #[.iface 216 (.pointer (some e))] w fun ev w' => ev = .returned (.tuple #[.int .i64 (-1), .int .i64 (-1)]) ∧ Below w.heap.size w w' := by
  have h := code_miss a e (fun _ => false) w E (fun i hi w1 hb => by
    obtain ⟨c2, t2, h2⟩ := (E.below hb).b i hi
    exact is_other e (a i) c c2 t t2 w1 (hne i hi) ((hb.block _ (lt_of_heap he)).trans he) h2)
  exact h

/-- plain.Code of nil. -/
theorem code_nil (w : World) : Calls Tryz.prog 32 #[.nilIface] w fun ev w' => ev = .returned (.tuple #[.int .i64 0, .int .i64 (-1)]) ∧ w' = w := by
  go_enter Tryz.func32, Tryz.ntmps32
  go_wp2
  go_ret2
  exact ⟨rfl, rfl⟩
end Go.Proofs.YtnenggkgfhgcnaaGreatDoor
