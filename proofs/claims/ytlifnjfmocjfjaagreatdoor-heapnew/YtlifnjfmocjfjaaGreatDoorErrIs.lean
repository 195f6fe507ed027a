/- errors.Is, at the errors that this program makes, by contracts. -/
import Derived.Test.YtlifnjfmocjfjaaGreatDoorErrFacts
namespace Go.Proofs.YtlifnjfmocjfjaaGreatDoor
open Go.RowKit Go.Extern.Stop Go.Stop Go.Extern

/-- errors.Is of an error of errors.New's make and itself. -/
theorem is_same (a : Addr) (w : World) :
    Calls Tryz.prog 37 #[.iface 288 (.pointer (some a)), .iface 288 (.pointer (some a))] w fun e w' => e = .returned (.bool true) ∧ w' = w := by
  obtain ⟨i, hi, hcmp⟩ := Option.map_eq_some_iff.1 infoSp
  obtain ⟨j, hj, hjs⟩ := Option.map_eq_some_iff.1 infoS
  have hTO := @run_callFunc_extern Tryz.prog 68 _ ReflectliteType.typeOf Tryz.func68 (by kernel_rfl) (by kernel_rfl) (by kernel_rfl) (by kernel_rfl)
  have hRC := @run_callFunc_extern Tryz.prog 245 _ (ReflectliteType.method fun t => do Rtype.noPackHeld "Comparable" t; pure (.bool (← typeInfo t).comparable)) Tryz.func245 (by kernel_rfl) (by kernel_rfl) (by kernel_rfl) (by kernel_rfl)
  have c1 := tOfSent
  have c2 := cmpSent
  have c3 := mCmp
  have heq := run_eql_iface_ptr_same (P := Tryz.prog) w a Tryz.underlying25 Tryz.underlying288 hi hcmp hj
  go_enter Tryz.func37, Tryz.ntmps37
  go_wp2
  refine wp_loop_rounds 1 ?_
  rw [rounds_succ]
  go_wp2
  go_ret
  exact ⟨rfl, rfl⟩

/-- errors.Is of two different errors of errors.New's make. -/
theorem is_other (a b : Addr) (ca cb : Array Value) (ta tb : TypeId) (w : World) (hne : a ≠ b) (ha : w.heap[a.block]? = some (.cells ca ta (0, 0))) (hb : w.heap[b.block]? = some (.cells cb tb (0, 0))) :
    Calls Tryz.prog 37 #[.iface 288 (.pointer (some a)), .iface 288 (.pointer (some b))] w fun e w' => e = .returned (.bool false) ∧ w' = w := by
  obtain ⟨i, hi, hcmp⟩ := Option.map_eq_some_iff.1 infoSp
  obtain ⟨j, hj, hjs⟩ := Option.map_eq_some_iff.1 infoS
  have hTO := @run_callFunc_extern Tryz.prog 68 _ ReflectliteType.typeOf Tryz.func68 (by kernel_rfl) (by kernel_rfl) (by kernel_rfl) (by kernel_rfl)
  have hRC := @run_callFunc_extern Tryz.prog 245 _ (ReflectliteType.method fun t => do Rtype.noPackHeld "Comparable" t; pure (.bool (← typeInfo t).comparable)) Tryz.func245 (by kernel_rfl) (by kernel_rfl) (by kernel_rfl) (by kernel_rfl)
  have c1 := tOfSent
  have c2 := cmpSent
  have c3 := mCmp
  have c4 := noIsSent
  have c5 := noUnSent
  have c6 := noUnsSent
  have heq := run_eql_iface_ptr_other (P := Tryz.prog) w Tryz.underlying25 Tryz.underlying288 hi hcmp hj (by rw [hjs]; decide) hne ha hb
  go_enter Tryz.func37, Tryz.ntmps37
  go_wp2
  refine wp_loop_rounds 1 ?_
  rw [rounds_succ]
  go_wp2
  go_ret
  exact ⟨rfl, rfl⟩

/-- errors.Is of a Fault that holds the other. -/
theorem is_wrap_same (p : Addr) (b : Addr) (w : World) (hp : p.spot = none) (h1 : w.cell? ⟨p.block, p.off + 1, none⟩ = some (.iface 288 (.pointer (some b)))) :
    Calls Tryz.prog 37 #[.iface 87 (.pointer (some p)), .iface 288 (.pointer (some b))] w fun e w' => e = .returned (.bool true) ∧ w' = w := by
  obtain ⟨pb, po, pk⟩ := p
  obtain rfl : pk = none := hp
  obtain ⟨i, hi, hcmp⟩ := Option.map_eq_some_iff.1 infoSp
  obtain ⟨j, hj, hjs⟩ := Option.map_eq_some_iff.1 infoS
  have hTO := @run_callFunc_extern Tryz.prog 68 _ ReflectliteType.typeOf Tryz.func68 (by kernel_rfl) (by kernel_rfl) (by kernel_rfl) (by kernel_rfl)
  have hRC := @run_callFunc_extern Tryz.prog 245 _ (ReflectliteType.method fun t => do Rtype.noPackHeld "Comparable" t; pure (.bool (← typeInfo t).comparable)) Tryz.func245 (by kernel_rfl) (by kernel_rfl) (by kernel_rfl) (by kernel_rfl)
  have c1 := tOfSent
  have c2 := cmpSent
  have c3 := mCmp
  have c4 := noIsFault
  have c5 := hasUnFault
  have c6 := mUnFault
  have heq := run_eql_iface_ptr_same (P := Tryz.prog) w b Tryz.underlying25 Tryz.underlying288 hi hcmp hj
  have hty := run_eql_iface_types (P := Tryz.prog) 87 288 (.pointer (some ⟨pb, po, none⟩)) (.pointer (some b)) Tryz.underlying25 (by decide) w
  go_enter Tryz.func37, Tryz.ntmps37
  go_wp2
  refine wp_loop_rounds 2 ?_
  rw [rounds_succ]
  go_wp2
  rw [rounds_succ]
  go_wp2
  go_ret
  exact ⟨rfl, rfl⟩

/-- errors.Is of a Fault that holds another error of errors.New's make. -/
theorem is_wrap_other (p : Addr) (b a : Addr) (ca cb : Array Value) (ta tb : TypeId) (w : World) (hp : p.spot = none) (h1 : w.cell? ⟨p.block, p.off + 1, none⟩ = some (.iface 288 (.pointer (some a)))) (hne : a ≠ b) (ha : w.heap[a.block]? = some (.cells ca ta (0, 0))) (hb : w.heap[b.block]? = some (.cells cb tb (0, 0))) :
    Calls Tryz.prog 37 #[.iface 87 (.pointer (some p)), .iface 288 (.pointer (some b))] w fun e w' => e = .returned (.bool false) ∧ w' = w := by
  obtain ⟨pb, po, pk⟩ := p
  obtain rfl : pk = none := hp
  obtain ⟨i, hi, hcmp⟩ := Option.map_eq_some_iff.1 infoSp
  obtain ⟨j, hj, hjs⟩ := Option.map_eq_some_iff.1 infoS
  have hTO := @run_callFunc_extern Tryz.prog 68 _ ReflectliteType.typeOf Tryz.func68 (by kernel_rfl) (by kernel_rfl) (by kernel_rfl) (by kernel_rfl)
  have hRC := @run_callFunc_extern Tryz.prog 245 _ (ReflectliteType.method fun t => do Rtype.noPackHeld "Comparable" t; pure (.bool (← typeInfo t).comparable)) Tryz.func245 (by kernel_rfl) (by kernel_rfl) (by kernel_rfl) (by kernel_rfl)
  have c1 := tOfSent
  have c2 := cmpSent
  have c3 := mCmp
  have c4 := noIsSent
  have c5 := noUnSent
  have c6 := noUnsSent
  have c7 := noIsFault
  have c8 := hasUnFault
  have c9 := mUnFault
  have heq := run_eql_iface_ptr_other (P := Tryz.prog) w Tryz.underlying25 Tryz.underlying288 hi hcmp hj (by rw [hjs]; decide) hne ha hb
  have hty := run_eql_iface_types (P := Tryz.prog) 87 288 (.pointer (some ⟨pb, po, none⟩)) (.pointer (some b)) Tryz.underlying25 (by decide) w
  go_enter Tryz.func37, Tryz.ntmps37
  go_wp2
  refine wp_loop_rounds 2 ?_
  rw [rounds_succ]
  go_wp2
  rw [rounds_succ]
  go_wp2
  go_ret
  exact ⟨rfl, rfl⟩
end Go.Proofs.YtlifnjfmocjfjaaGreatDoor
