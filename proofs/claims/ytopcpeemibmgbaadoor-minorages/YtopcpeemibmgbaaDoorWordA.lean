/- Package word: ints, addresses and constants as words, by contracts. -/
import Derived.Test.YtopcpeemibmgbaaDoorErrCode
import Derived.Laws.BitsAll
import Derived.Laws.BitsLemmas
import Derived.Deep.RegionHeld3
import Derived.Deep.RegionWith
import Derived.Deep.QuietTactic
import Derived.BigQuiet
import Derived.WalkSmall
namespace Go.Proofs.YtopcpeemibmgbaaDoor
open Go.RowKit

/-- What package word wants of memory: the errors ErrBound and ErrShape of package api. -/
structure WErr (a : Nat → Addr) (w : World) : Prop where
  c1 : w.cell? ⟨0, 0, none⟩ = some (.iface 128 (.pointer (some (a 1))))
  c2 : w.cell? ⟨2, 0, none⟩ = some (.iface 128 (.pointer (some (a 2))))
theorem WErr.below {a : Nat → Addr} {w w' : World} (E : WErr a w) (hb : Below w.heap.size w w') : WErr a w' where
  c1 := (hb.cell (p := ⟨0, 0, none⟩) (lt_of_cell E.c1)).trans E.c1
  c2 := (hb.cell (p := ⟨2, 0, none⟩) (lt_of_cell E.c2)).trans E.c2
/-- The k-th error of package api, as a value. -/
def errV (a : Nat → Addr) (k : Nat) : Value := .iface 128 (.pointer (some (a k)))

theorem below_drewN {B : Nat} {a w : World} {q : Nat} (h : Below B a w) : Below B a (w.drewN q) := ⟨h.os, h.tape, h.output, h.size, h.block⟩
theorem wrap_u64' (n : Int) : IntKind.u64.wrap n = n % 18446744073709551616 := by simp [IntKind.wrap, IntKind.bits, IntKind.signed]
theorem and3 (x : Int) (h0 : 0 ≤ x) (h1 : x < 18446744073709551616) : bits .and .u64 x 3 = x % 4 := by
  go_bits2
theorem wrap64_small (x : Int) (h0 : -9223372036854775808 ≤ x) (h1 : x < 9223372036854775808) : wrap64 x = x := by
  unfold wrap64
  omega
theorem wrap64_eq (x : Int) : wrap64 x = (x + 9223372036854775808) % 18446744073709551616 - 9223372036854775808 := by
  unfold wrap64
  omega
theorem or_low (y c : Int) (h0 : 0 ≤ y) (h1 : y < 18446744073709551616) (h2 : y % 4 = 0) (hc0 : 0 ≤ c) (hc : c < 4) : bits .or .u64 y c = y + c :=
  bits_join .u64 64 (by decide) (fun n a b => by rw [wrap_u64']; omega) 2 y c h0 h2 (by omega) hc0 hc (by omega)
theorem kind_any (x : Int) (h0 : 0 ≤ x) (h1 : x < 18446744073709551616) (w : World) :
    Calls Tryd.prog 73 #[.int .u64 x] w fun ev w' => ev = .returned (.int .i64 (x % 4)) ∧ w' = w := by
  have e := and3 x h0 h1
  have e2 := wrap64_small (x % 4) (by omega) (by omega)
  go_enter Tryd.func73, Tryd.ntmps73
  go_wp2
  go_ret
  rw [← e2, ← e]
  exact ⟨rfl, rfl⟩

/-- OfAddr of a number that is no address. -/
theorem ofAddr_no (a : Nat → Addr) (n : Int) (h0 : -9223372036854775808 ≤ n) (h1 : n < 9223372036854775808) (hn : n < 0 ∨ 1099511627776 < n) (w : World) (E : WErr a w) :
    Calls Tryd.prog 37 #[.int .i64 n] w fun ev w' => ev = .returned (.tuple #[.int .u64 0, errV a 1]) ∧ Below w.heap.size w w' := by
  have k1 := E.c1
  rcases hn with c | c
  · go_enter Tryd.func37, Tryd.ntmps37
    go_wp2
    go_quiet (fail)
    go_wp2
    go_ret2
    exact ⟨rfl, below_drewN (Below.refl _ _)⟩
  · have c1 : ¬ n < 0 := by omega
    have e := wrap64_small n h0 h1
    go_enter Tryd.func37, Tryd.ntmps37
    go_wp2
    go_quiet (fail)
    go_wp2
    go_ret2
    exact ⟨rfl, below_drewN (Below.refl _ _)⟩
/-- OfAddr of an address. -/
theorem ofAddr_ok (n : Int) (c1 : 0 ≤ n) (c2 : n ≤ 1099511627776) (w : World) :
    Calls Tryd.prog 37 #[.int .i64 n] w fun ev w' => ev = .returned (.tuple #[.int .u64 ((n + 1) * 4), .nilIface]) ∧ Below w.heap.size w w' := by
  have e := or_low ((n + 1) * 4) 0 (by omega) (by omega) (by omega) (by omega) (by omega)
  rw [Int.add_zero] at e
  go_enter Tryd.func37, Tryd.ntmps37
  go_wp2
  go_ret2
  rw [← e]
  exact ⟨rfl, Below.refl _ _⟩

theorem comesI_ok (n x : Int) (c1 : 0 ≤ n) (c2 : n ≤ 1099511627776) (w : World) :
    Calls Tryd.prog 82 #[.int .i64 n, .int .u64 x, .func (.func 37) #[] #[]] w fun ev w' => ev = .returned (.bool ((n + 1) * 4 == x)) ∧ Below w.heap.size w w' := by
  have h := ofAddr_ok n c1 c2 w
  go_enter Tryd.func82, Tryd.ntmps82
  go_wp2_with fail
  refine h.mono ?_
  rintro ev w1 ⟨rfl, hb⟩
  go_wp2
  go_ret
  exact ⟨rfl, hb⟩
theorem comesI_no (a : Nat → Addr) (n x : Int) (h0 : -9223372036854775808 ≤ n) (h1 : n < 9223372036854775808) (hn : n < 0 ∨ 1099511627776 < n) (w : World) (E : WErr a w) :
    Calls Tryd.prog 82 #[.int .i64 n, .int .u64 x, .func (.func 37) #[] #[]] w fun ev w' => ev = .returned (.bool false) ∧ Below w.heap.size w w' := by
  have h := ofAddr_no a n h0 h1 hn w E
  go_enter Tryd.func82, Tryd.ntmps82
  go_wp2_with fail
  refine h.mono ?_
  rintro ev w1 ⟨rfl, hb⟩
  unfold errV
  go_wp2
  go_ret
  exact ⟨rfl, hb⟩

theorem toAddr_ok (x : Int) (hx : x % 4 = 0) (h4 : 4 ≤ x) (h5 : x / 4 - 1 ≤ 1099511627776) (w : World) :
    Calls Tryd.prog 79 #[.int .u64 x] w fun ev w' => ev = .returned (.tuple #[.int .i64 (x / 4 - 1), .nilIface]) ∧ Below w.heap.size w w' := by
  have h := comesI_ok (x / 4 - 1) x (by omega) (by omega) w
  have hm : ((x / 4 - 1 + 1) * 4 == x) = true := by
    rw [beq_iff_eq]
    omega
  rw [hm] at h
  clear hm
  go_enter Tryd.func79, Tryd.ntmps79
  go_wp2_with fail
  refine h.mono ?_
  rintro ev w1 ⟨rfl, hb⟩
  go_wp2
  go_ret2
  exact ⟨rfl, hb⟩
theorem toAddr_no (a : Nat → Addr) (x : Int) (h0 : 0 ≤ x) (h1 : x < 18446744073709551616) (hx : ¬ (x % 4 = 0 ∧ 4 ≤ x ∧ x / 4 - 1 ≤ 1099511627776)) (w : World) (E : WErr a w) :
    Calls Tryd.prog 79 #[.int .u64 x] w fun ev w' => ev = .returned (.tuple #[.int .i64 0, errV a 2]) ∧ Below w.heap.size w w' := by
  have h : Calls Tryd.prog 82 #[.int .i64 (x / 4 - 1), .int .u64 x, .func (.func 37) #[] #[]] w fun ev w' => ev = .returned (.bool false) ∧ Below w.heap.size w w' := by
    by_cases c : x / 4 - 1 < 0 ∨ 1099511627776 < x / 4 - 1
    · exact comesI_no a (x / 4 - 1) x (by omega) (by omega) c w E
    · have h := comesI_ok (x / 4 - 1) x (by omega) (by omega) w
      have hm : ((x / 4 - 1 + 1) * 4 == x) = false := by
        rw [beq_eq_false_iff_ne]
        omega
      rw [hm] at h
      exact h
  clear hx
  go_enter Tryd.func79, Tryd.ntmps79
  go_wp2_with fail
  refine h.mono ?_
  rintro ev w1 ⟨rfl, hb⟩
  have k2 := (E.below hb).c2
  go_wp2
  go_quiet (fail)
  go_wp2
  go_ret2
  exact ⟨rfl, below_drewN hb⟩

theorem within_any (n m : Int) (w : World) :
    Calls Tryd.prog 55 #[.int .i64 n, .int .i64 m] w fun ev w' => ev = .returned (.bool (decide (0 ≤ n) && decide (n ≤ m))) ∧ w' = w := by
  by_cases c : 0 ≤ n
  · rw [decide_eq_true c, Bool.true_and]
    go_enter Tryd.func55, Tryd.ntmps55
    go_wp2
    go_ret
    exact ⟨rfl, rfl⟩
  · rw [decide_eq_false c, Bool.false_and]
    go_enter Tryd.func55, Tryd.ntmps55
    go_wp2
    go_ret
    exact ⟨rfl, rfl⟩
theorem ofConst_ok (n : Int) (c1 : 0 ≤ n) (c2 : n ≤ 2) (w : World) :
    Calls Tryd.prog 83 #[.int .i64 n] w fun ev w' => ev = .returned (.tuple #[.int .u64 (n * 4 + 2), .nilIface]) ∧ Below w.heap.size w w' := by
  have h := within_any n 2 w
  have hm : (decide (0 ≤ n) && decide (n ≤ 2)) = true := by simp [c1, c2]
  rw [hm] at h
  clear hm
  have e := or_low (n * 4) 2 (by omega) (by omega) (by omega) (by omega) (by omega)
  go_enter Tryd.func83, Tryd.ntmps83
  go_wp2_with fail
  refine h.mono ?_
  rintro ev w1 ⟨rfl, rfl⟩
  go_wp2
  go_ret2
  rw [← e]
  exact ⟨rfl, Below.refl _ _⟩
theorem ofConst_no (a : Nat → Addr) (n : Int) (hn : n < 0 ∨ 2 < n) (w : World) (E : WErr a w) :
    Calls Tryd.prog 83 #[.int .i64 n] w fun ev w' => ev = .returned (.tuple #[.int .u64 0, errV a 1]) ∧ Below w.heap.size w w' := by
  have h := within_any n 2 w
  have hm : (decide (0 ≤ n) && decide (n ≤ 2)) = false := by
    rw [Bool.and_eq_false_iff, decide_eq_false_iff_not, decide_eq_false_iff_not]
    omega
  rw [hm] at h
  clear hm
  have k1 := E.c1
  go_enter Tryd.func83, Tryd.ntmps83
  go_wp2_with fail
  refine h.mono ?_
  rintro ev w1 ⟨rfl, rfl⟩
  go_wp2
  go_quiet (fail)
  go_wp2
  go_ret2
  exact ⟨rfl, below_drewN (Below.refl _ _)⟩
end Go.Proofs.YtopcpeemibmgbaaDoor
