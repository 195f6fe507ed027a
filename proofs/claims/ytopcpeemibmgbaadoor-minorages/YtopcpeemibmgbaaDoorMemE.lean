/- The document's memory: Shaped, CheckOf of a memory with no objects, by contracts. -/
import Derived.Test.YtopcpeemibmgbaaDoorMemD
namespace Go.Proofs.YtopcpeemibmgbaaDoor
open Go.RowKit

theorem drew2 (w : World) (a b : Nat) : (w.drewN a).drewN b = w.drewN (a + b) := by simp [World.drewN, Nat.add_assoc]
theorem drew_ex2 {w : World} {a b : Nat} : ∃ q, (w.drewN a).drewN b = w.drewN q := ⟨_, by rw [drew2]⟩
theorem drew_ex3 {w : World} {a b c : Nat} : ∃ q, ((w.drewN a).drewN b).drewN c = w.drewN q := ⟨_, by rw [drew2, drew2]⟩
theorem drew_ex4 {w : World} {a b c d : Nat} : ∃ q, (((w.drewN a).drewN b).drewN c).drewN d = w.drewN q := ⟨_, by rw [drew2, drew2, drew2]⟩
theorem MemAt.memO {p : Nat} {half old card : Int} {W : Value} {used top oldTop : Int} {roots weak ids cards : Value} {w : World} (M : MemAt p half old card W used top oldTop roots weak ids cards w) : MemO p 0 half old card W used top oldTop roots weak ids cards w :=
  ⟨M.c0, M.c1, M.c2, M.c3, M.c4, M.c5, M.c6, M.c7, M.c8, M.c9, M.c10⟩
theorem cards_two {old card : Int} (h2 : 1 ≤ old) (h4 : 1 ≤ card) : (old / card * card < old → (old + card - 1) / card = old / card + 1) ∧ (¬ old / card * card < old → (old + card - 1) / card = old / card) ∧ 0 ≤ old / card ∧ old / card ≤ old ∧ 0 ≤ old / card * card ∧ old / card * card ≤ old := by
  have a1 : old / card * card ≤ old := Int.ediv_mul_le old (by omega)
  have a2 : old < (old / card + 1) * card := Int.lt_ediv_add_one_mul_self old (by omega)
  have a3 : 0 ≤ old / card := Int.ediv_nonneg (by omega) (by omega)
  have a4 : old / card ≤ old := Int.ediv_le_self _ (by omega)
  have a5 : 0 ≤ old / card * card := Int.mul_nonneg a3 (by omega)
  rw [Int.add_mul, Int.one_mul] at a2
  generalize old / card = q at *
  refine ⟨fun h => ?_, fun h => ?_, a3, a4, a5, a1⟩
  · have l1 : q + 1 ≤ (old + card - 1) / card := (Int.le_ediv_iff_mul_le (by omega)).2 (by rw [Int.add_mul, Int.one_mul]; omega)
    have l2 : (old + card - 1) / card < q + 2 := (Int.ediv_lt_iff_lt_mul (by omega)).2 (by rw [Int.add_mul]; omega)
    omega
  · have l1 : q ≤ (old + card - 1) / card := (Int.le_ediv_iff_mul_le (by omega)).2 (by omega)
    have l2 : (old + card - 1) / card < q + 1 := (Int.ediv_lt_iff_lt_mul (by omega)).2 (by rw [Int.add_mul, Int.one_mul]; omega)
    omega

set_option maxHeartbeats 4000000 in
set_option maxRecDepth 100000 in
theorem shaped_core (p o : Nat) (half old card qq mm : Int) (nW nC cW cC : Nat) (aW aC : Option Addr) (used top oldTop : Int) (r k i : Value) (w : World)
    (M : MemO p o half old card (.slice aW nW cW) used top oldTop r k i (.slice aC nC cC) w)
    (h0 : 1 ≤ half) (h1 : half ≤ 65536) (h2 : 1 ≤ old) (h3 : old ≤ 65536) (h4 : 1 ≤ card) (h5 : card ≤ 1024) (u0 : 0 ≤ used) (u1 : used ≤ 1) (t0 : 0 ≤ top) (t1 : top ≤ half) (o0 : 0 ≤ oldTop) (o1 : oldTop ≤ old)
    (e1 : IntKind.i64.wrap (old.tdiv card) = qq) (e2 : IntKind.i64.wrap (qq * card) = mm) (e4 : IntKind.i64.wrap (2 * half + old) = (nW : Int)) (q0 : 0 ≤ qq) (q1 : qq ≤ 65536) (hm : (mm < old ∧ (nC : Int) = qq + 1) ∨ (¬ mm < old ∧ (nC : Int) = qq)) :
    Calls Tryd.prog 16 #[.pointer (some ⟨p, o, none⟩)] w fun ev w' => ev = .returned (.bool true) ∧ ∃ q, w' = w.drewN q := by
  obtain ⟨c0, c1, c2, c3, c4, c5, c6, c7, c8, c9, c10⟩ := M
  have e3 : IntKind.i64.wrap (2 * half) = 2 * half := wrapI _ (by omega) (by omega)
  have hc0 : (card == 0) = false := by rw [beq_eq_false_iff_ne]; omega
  have d1 : decide (used < 0) = false := by rw [decide_eq_false_iff_not]; omega
  have d2 : decide (used > 1) = false := by rw [decide_eq_false_iff_not]; omega
  have d3 : decide (top ≥ 0) = true := by rw [decide_eq_true_eq]; omega
  have d4 : decide (top ≤ half) = true := by rw [decide_eq_true_eq]; omega
  have d5 : decide (oldTop ≥ 0) = true := by rw [decide_eq_true_eq]; omega
  clear c7 c8 c9
  rcases hm with ⟨hlt, hC⟩ | ⟨hlt, hC⟩
  · have e5 : ((nC : Int) != qq + 1) = false := by rw [hC]; simp
    clear hC
    go_enter Tryd.func16, Tryd.ntmps16
    go_wp2_with fail
    go_quiet (fail)
    go_wp2_with fail
    go_quiet (fail)
    go_wp2_with fail
    go_quiet (fail)
    go_wp2_with fail
    go_quiet (fail)
    go_wp2
    go_ret
    exact ⟨rfl, drew_ex3⟩
  · have e5 : ((nC : Int) != qq) = false := by rw [hC]; simp
    clear hC
    go_enter Tryd.func16, Tryd.ntmps16
    go_wp2_with fail
    go_quiet (fail)
    go_wp2_with fail
    go_quiet (fail)
    go_wp2_with fail
    go_quiet (fail)
    go_wp2_with fail
    go_quiet (fail)
    go_wp2
    go_ret
    exact ⟨rfl, drew_ex4⟩
theorem shaped_ok (p o : Nat) (half old card : Int) (nW nC cW cC : Nat) (aW aC : Option Addr) (used top oldTop : Int) (r k i : Value) (F : Fits half old card nW nC used top oldTop) (w : World)
    (M : MemO p o half old card (.slice aW nW cW) used top oldTop r k i (.slice aC nC cC) w) :
    Calls Tryd.prog 16 #[.pointer (some ⟨p, o, none⟩)] w fun ev w' => ev = .returned (.bool true) ∧ ∃ q, w' = w.drewN q := by
  obtain ⟨⟨h0, h1, h2, h3, h4, h5⟩, hW, hC, u0, u1, t0, t1, o0, o1⟩ := F
  obtain ⟨k1, k2, k3, k4, k5, k6⟩ := cards_two h2 h4
  have e1 : IntKind.i64.wrap (old.tdiv card) = old / card := by rw [Int.tdiv_eq_ediv_of_nonneg (by omega), wrapI _ (by omega) (by omega)]
  have e2 : IntKind.i64.wrap (old / card * card) = old / card * card := wrapI _ (by omega) (by omega)
  have e4 : IntKind.i64.wrap (2 * half + old) = (nW : Int) := by rw [wrapI _ (by omega) (by omega)]; exact hW.symm
  refine shaped_core p o half old card (old / card) (old / card * card) nW nC cW cC aW aC used top oldTop r k i w M h0 h1 h2 h3 h4 h5 u0 u1 t0 t1 o0 o1 e1 e2 e4 k3 (by omega) ?_
  by_cases h : old / card * card < old
  · exact .inl ⟨h, hC.trans (k1 h)⟩
  · exact .inr ⟨h, hC.trans (k2 h)⟩
end Go.Proofs.YtopcpeemibmgbaaDoor
