/- The document's memory: numbers that do not fit (Shaped), by a contract. -/
import Derived.Test.YtnenggkgfhgcnaaGreatDoorJoC
namespace Go.Proofs.YtnenggkgfhgcnaaGreatDoor
open Go.RowKit

set_option maxHeartbeats 4000000 in
set_option maxRecDepth 100000 in
theorem shaped_not0 (p o : Nat) (half old card : Int) (nW nC cW cC : Nat) (aW aC : Option Addr) (used top oldTop : Int) (r k i : Value) (h0 : 1 ≤ half) (h1 : half ≤ 65536) (h2 : 1 ≤ old) (h3 : old ≤ 65536) (h4 : 1 ≤ card) (h5 : card ≤ 1024) (qq mm : Int) (e1 : IntKind.i64.wrap (old.tdiv card) = qq) (e2 : IntKind.i64.wrap (qq * card) = mm) (q0 : 0 ≤ qq) (q1 : qq ≤ 65536) (mn : Int) (hm : (mm < old ∧ mn = qq + 1) ∨ (¬ mm < old ∧ mn = qq)) (e4 : IntKind.i64.wrap (2 * half + old) = (nW : Int)) (e5 : ((nC : Int) != mn) = false) (u0 : 0 ≤ used) (u1 : used ≤ 1) (bad : top < 0) (w : World)
    (M : MemO p o half old card (.slice aW nW cW) used top oldTop r k i (.slice aC nC cC) w) :
    Calls Tryz.prog 23 #[.pointer (some ⟨p, o, none⟩)] w fun ev w' => ev = .returned (.bool false) ∧ ∃ q, w' = w.drewN q := by
  obtain ⟨c0, c1, c2, c3, c4, c5, c6, c7, c8, c9, c10⟩ := M
  have e3 : IntKind.i64.wrap (2 * half) = 2 * half := wrapI _ (by omega) (by omega)
  have hc0 : (card == 0) = false := by rw [beq_eq_false_iff_ne]; omega
  have d1 : decide (used < 0) = false := by rw [decide_eq_false_iff_not]; omega
  have d2 : decide (used > 1) = false := by rw [decide_eq_false_iff_not]; omega
  have d3 : decide (top ≥ 0) = false := by rw [decide_eq_false_iff_not]; omega
  clear c7 c8 c9
  rcases hm with ⟨hlt, rfl⟩ | ⟨hlt, rfl⟩
  · go_enter Tryz.func23, Tryz.ntmps23
    go_wp2_with fail
    go_quiet (fail)
    go_wp2_with fail
    go_quiet (fail)
    go_wp2_with fail
    go_quiet (fail)
    go_wp2_with fail
    go_quiet (fail)
    go_wp2
    go_ret
    exact ⟨rfl, by first | exact drew_ex2 | exact drew_ex3 | exact drew_ex4⟩
  · go_enter Tryz.func23, Tryz.ntmps23
    go_wp2_with fail
    go_quiet (fail)
    go_wp2_with fail
    go_quiet (fail)
    go_wp2_with fail
    go_quiet (fail)
    go_wp2_with fail
    go_quiet (fail)
    go_wp2
    go_ret
    exact ⟨rfl, by first | exact drew_ex2 | exact drew_ex3 | exact drew_ex4⟩
set_option maxHeartbeats 4000000 in
set_option maxRecDepth 100000 in
theorem shaped_not1 (p o : Nat) (half old card : Int) (nW nC cW cC : Nat) (aW aC : Option Addr) (used top oldTop : Int) (r k i : Value) (h0 : 1 ≤ half) (h1 : half ≤ 65536) (h2 : 1 ≤ old) (h3 : old ≤ 65536) (h4 : 1 ≤ card) (h5 : card ≤ 1024) (qq mm : Int) (e1 : IntKind.i64.wrap (old.tdiv card) = qq) (e2 : IntKind.i64.wrap (qq * card) = mm) (q0 : 0 ≤ qq) (q1 : qq ≤ 65536) (mn : Int) (hm : (mm < old ∧ mn = qq + 1) ∨ (¬ mm < old ∧ mn = qq)) (e4 : IntKind.i64.wrap (2 * half + old) = (nW : Int)) (e5 : ((nC : Int) != mn) = false) (u0 : 0 ≤ used) (u1 : used ≤ 1) (t0 : 0 ≤ top) (bad : half < top) (w : World)
    (M : MemO p o half old card (.slice aW nW cW) used top oldTop r k i (.slice aC nC cC) w) :
    Calls Tryz.prog 23 #[.pointer (some ⟨p, o, none⟩)] w fun ev w' => ev = .returned (.bool false) ∧ ∃ q, w' = w.drewN q := by
  obtain ⟨c0, c1, c2, c3, c4, c5, c6, c7, c8, c9, c10⟩ := M
  have e3 : IntKind.i64.wrap (2 * half) = 2 * half := wrapI _ (by omega) (by omega)
  have hc0 : (card == 0) = false := by rw [beq_eq_false_iff_ne]; omega
  have d1 : decide (used < 0) = false := by rw [decide_eq_false_iff_not]; omega
  have d2 : decide (used > 1) = false := by rw [decide_eq_false_iff_not]; omega
  have d3 : decide (top ≥ 0) = true := by rw [decide_eq_true_eq]; omega
  have d4 : decide (top ≤ half) = false := by rw [decide_eq_false_iff_not]; omega
  clear c7 c8 c9
  rcases hm with ⟨hlt, rfl⟩ | ⟨hlt, rfl⟩
  · go_enter Tryz.func23, Tryz.ntmps23
    go_wp2_with fail
    go_quiet (fail)
    go_wp2_with fail
    go_quiet (fail)
    go_wp2_with fail
    go_quiet (fail)
    go_wp2_with fail
    go_quiet (fail)
    go_wp2
    go_ret
    exact ⟨rfl, by first | exact drew_ex2 | exact drew_ex3 | exact drew_ex4⟩
  · go_enter Tryz.func23, Tryz.ntmps23
    go_wp2_with fail
    go_quiet (fail)
    go_wp2_with fail
    go_quiet (fail)
    go_wp2_with fail
    go_quiet (fail)
    go_wp2_with fail
    go_quiet (fail)
    go_wp2
    go_ret
    exact ⟨rfl, by first | exact drew_ex2 | exact drew_ex3 | exact drew_ex4⟩
set_option maxHeartbeats 4000000 in
set_option maxRecDepth 100000 in
theorem shaped_noo0 (p o : Nat) (half old card : Int) (nW nC cW cC : Nat) (aW aC : Option Addr) (used top oldTop : Int) (r k i : Value) (h0 : 1 ≤ half) (h1 : half ≤ 65536) (h2 : 1 ≤ old) (h3 : old ≤ 65536) (h4 : 1 ≤ card) (h5 : card ≤ 1024) (qq mm : Int) (e1 : IntKind.i64.wrap (old.tdiv card) = qq) (e2 : IntKind.i64.wrap (qq * card) = mm) (q0 : 0 ≤ qq) (q1 : qq ≤ 65536) (mn : Int) (hm : (mm < old ∧ mn = qq + 1) ∨ (¬ mm < old ∧ mn = qq)) (e4 : IntKind.i64.wrap (2 * half + old) = (nW : Int)) (e5 : ((nC : Int) != mn) = false) (u0 : 0 ≤ used) (u1 : used ≤ 1) (t0 : 0 ≤ top) (t1 : top ≤ half) (bad : oldTop < 0) (w : World)
    (M : MemO p o half old card (.slice aW nW cW) used top oldTop r k i (.slice aC nC cC) w) :
    Calls Tryz.prog 23 #[.pointer (some ⟨p, o, none⟩)] w fun ev w' => ev = .returned (.bool false) ∧ ∃ q, w' = w.drewN q := by
  obtain ⟨c0, c1, c2, c3, c4, c5, c6, c7, c8, c9, c10⟩ := M
  have e3 : IntKind.i64.wrap (2 * half) = 2 * half := wrapI _ (by omega) (by omega)
  have hc0 : (card == 0) = false := by rw [beq_eq_false_iff_ne]; omega
  have d1 : decide (used < 0) = false := by rw [decide_eq_false_iff_not]; omega
  have d2 : decide (used > 1) = false := by rw [decide_eq_false_iff_not]; omega
  have d3 : decide (top ≥ 0) = true := by rw [decide_eq_true_eq]; omega
  have d4 : decide (top ≤ half) = true := by rw [decide_eq_true_eq]; omega
  have d5 : decide (oldTop ≥ 0) = false := by rw [decide_eq_false_iff_not]; omega
  clear c7 c8 c9
  rcases hm with ⟨hlt, rfl⟩ | ⟨hlt, rfl⟩
  · go_enter Tryz.func23, Tryz.ntmps23
    go_wp2_with fail
    go_quiet (fail)
    go_wp2_with fail
    go_quiet (fail)
    go_wp2_with fail
    go_quiet (fail)
    go_wp2_with fail
    go_quiet (fail)
    go_wp2
    go_ret
    exact ⟨rfl, by first | exact drew_ex2 | exact drew_ex3 | exact drew_ex4⟩
  · go_enter Tryz.func23, Tryz.ntmps23
    go_wp2_with fail
    go_quiet (fail)
    go_wp2_with fail
    go_quiet (fail)
    go_wp2_with fail
    go_quiet (fail)
    go_wp2_with fail
    go_quiet (fail)
    go_wp2
    go_ret
    exact ⟨rfl, by first | exact drew_ex2 | exact drew_ex3 | exact drew_ex4⟩
set_option maxHeartbeats 4000000 in
set_option maxRecDepth 100000 in
theorem shaped_noo1 (p o : Nat) (half old card : Int) (nW nC cW cC : Nat) (aW aC : Option Addr) (used top oldTop : Int) (r k i : Value) (h0 : 1 ≤ half) (h1 : half ≤ 65536) (h2 : 1 ≤ old) (h3 : old ≤ 65536) (h4 : 1 ≤ card) (h5 : card ≤ 1024) (qq mm : Int) (e1 : IntKind.i64.wrap (old.tdiv card) = qq) (e2 : IntKind.i64.wrap (qq * card) = mm) (q0 : 0 ≤ qq) (q1 : qq ≤ 65536) (mn : Int) (hm : (mm < old ∧ mn = qq + 1) ∨ (¬ mm < old ∧ mn = qq)) (e4 : IntKind.i64.wrap (2 * half + old) = (nW : Int)) (e5 : ((nC : Int) != mn) = false) (u0 : 0 ≤ used) (u1 : used ≤ 1) (t0 : 0 ≤ top) (t1 : top ≤ half) (o0 : 0 ≤ oldTop) (bad : old < oldTop) (w : World)
    (M : MemO p o half old card (.slice aW nW cW) used top oldTop r k i (.slice aC nC cC) w) :
    Calls Tryz.prog 23 #[.pointer (some ⟨p, o, none⟩)] w fun ev w' => ev = .returned (.bool false) ∧ ∃ q, w' = w.drewN q := by
  obtain ⟨c0, c1, c2, c3, c4, c5, c6, c7, c8, c9, c10⟩ := M
  have e3 : IntKind.i64.wrap (2 * half) = 2 * half := wrapI _ (by omega) (by omega)
  have hc0 : (card == 0) = false := by rw [beq_eq_false_iff_ne]; omega
  have d1 : decide (used < 0) = false := by rw [decide_eq_false_iff_not]; omega
  have d2 : decide (used > 1) = false := by rw [decide_eq_false_iff_not]; omega
  have d3 : decide (top ≥ 0) = true := by rw [decide_eq_true_eq]; omega
  have d4 : decide (top ≤ half) = true := by rw [decide_eq_true_eq]; omega
  have d5 : decide (oldTop ≥ 0) = true := by rw [decide_eq_true_eq]; omega
  have d6 : decide (oldTop ≤ old) = false := by rw [decide_eq_false_iff_not]; omega
  clear c7 c8 c9
  rcases hm with ⟨hlt, rfl⟩ | ⟨hlt, rfl⟩
  · go_enter Tryz.func23, Tryz.ntmps23
    go_wp2_with fail
    go_quiet (fail)
    go_wp2_with fail
    go_quiet (fail)
    go_wp2_with fail
    go_quiet (fail)
    go_wp2_with fail
    go_quiet (fail)
    go_wp2
    go_ret
    refine ⟨by first | rfl | (rw [d6]; rfl), ?_⟩
    exact (by first | exact drew_ex2 | exact drew_ex3 | exact drew_ex4)
  · go_enter Tryz.func23, Tryz.ntmps23
    go_wp2_with fail
    go_quiet (fail)
    go_wp2_with fail
    go_quiet (fail)
    go_wp2_with fail
    go_quiet (fail)
    go_wp2_with fail
    go_quiet (fail)
    go_wp2
    go_ret
    refine ⟨by first | rfl | (rw [d6]; rfl), ?_⟩
    exact (by first | exact drew_ex2 | exact drew_ex3 | exact drew_ex4)
end Go.Proofs.YtnenggkgfhgcnaaGreatDoor
