/- Package word: ints, addresses and constants as words, by contracts. -/
import Derived.Test.YtnenggkgfhgcnaaGreatDoorJnQ
import Derived.Laws.BitsAll
import Derived.Laws.BitsLemmas
import Derived.Deep.RegionHeld3
import Derived.Deep.RegionWith
import Derived.Deep.QuietTactic
import Derived.BigQuiet
import Derived.WalkSmall
namespace Go.Proofs.YtnenggkgfhgcnaaGreatDoor
open Go.RowKit

/-- What package word wants of memory: the errors ErrBound and ErrShape of package api. -/
structure WErr (a : Nat → Addr) (w : World) : Prop where
  c1 : w.cell? ⟨1, 0, none⟩ = some (.iface 216 (.pointer (some (a 1))))
  c2 : w.cell? ⟨2, 0, none⟩ = some (.iface 216 (.pointer (some (a 2))))
theorem WErr.below {a : Nat → Addr} {w w' : World} (E : WErr a w) (hb : Below w.heap.size w w') : WErr a w' where
  c1 := (hb.cell (p := ⟨1, 0, none⟩) (lt_of_cell E.c1)).trans E.c1
  c2 := (hb.cell (p := ⟨2, 0, none⟩) (lt_of_cell E.c2)).trans E.c2
theorem Errs.we {a : Nat → Addr} {w : World} (E : Errs a w) : WErr a w := ⟨E.c1, E.c2⟩

/-- The k-th error of package api, as a value. -/
def errV (a : Nat → Addr) (k : Nat) : Value := .iface 216 (.pointer (some (a k)))

theorem below_drewN {B : Nat} {a w : World} {q : Nat} (h : Below B a w) : Below B a (w.drewN q) := ⟨h.os, h.tape, h.output, h.size, h.block⟩
theorem wrap_u64' (n : Int) : IntKind.u64.wrap n = n % 18446744073709551616 := by simp [IntKind.wrap, IntKind.bits, IntKind.signed]
theorem and3 (x : Int) (h0 : 0 ≤ x) (h1 : x < 18446744073709551616) : bits .and .u64 x 3 = x % 4 := by
  go_bits2
theorem wrap64_small (x : Int) (h0 : -9223372036854775808 ≤ x) (h1 : x < 9223372036854775808) : wrap64 x = x := by
  unfold wrap64
  omega
theorem wrap64_eq (x : Int) : wrap64 x = (x + 9223372036854775808) % 18446744073709551616 - 9223372036854775808 := by
  unfold wrap64
  omega
theorem or_low (y c : Int) (h0 : 0 ≤ y) (h1 : y < 18446744073709551616) (h2 : y % 4 = 0) (hc0 : 0 ≤ c) (hc : c < 4) : bits .or .u64 y c = y + c :=
  bits_join .u64 64 (by decide) (fun n a b => by rw [wrap_u64']; omega) 2 y c h0 h2 (by omega) hc0 hc (by omega)
theorem kind_any (x : Int) (h0 : 0 ≤ x) (h1 : x < 18446744073709551616) (w : World) :
    Calls Tryz.prog 109 #[.int .u64 x] w fun ev w' => ev = .returned (.int .i64 (x % 4)) ∧ w' = w := by
  have e := and3 x h0 h1
  have e2 := wrap64_small (x % 4) (by omega) (by omega)
  go_enter Tryz.func109, Tryz.ntmps109
  go_wp2
  go_ret
  rw [← e2, ← e]
  exact ⟨rfl, rfl⟩

/-- OfAddr of a number that is no address. -/
theorem ofAddr_no (a : Nat → Addr) (n : Int) (h0 : -9223372036854775808 ≤ n) (h1 : n < 9223372036854775808) (hn : n < 0 ∨ 1099511627776 < n) (w : World) (E : WErr a w) :
    Calls Tryz.prog 51 #[.int .i64 n] w fun ev w' => ev = .returned (.tuple #[.int .u64 0, errV a 1]) ∧ Below w.heap.size w w' := by
  have k1 := E.c1
  rcases hn with c | c
  · go_enter Tryz.func51, Tryz.ntmps51
    go_wp2
    go_quiet (fail)
    go_wp2
    go_ret2
    exact ⟨rfl, below_drewN (Below.refl _ _)⟩
  · have c1 : ¬ n < 0 := by omega
    have e := wrap64_small n h0 h1
    go_enter Tryz.func51, Tryz.ntmps51
    go_wp2
    go_quiet (fail)
    go_wp2
    go_ret2
    exact ⟨rfl, below_drewN (Below.refl _ _)⟩
/-- OfAddr of an address. -/
theorem ofAddr_ok (n : Int) (c1 : 0 ≤ n) (c2 : n ≤ 1099511627776) (w : World) :
    Calls Tryz.prog 51 #[.int .i64 n] w fun ev w' => ev = .returned (.tuple #[.int .u64 ((n + 1) * 4), .nilIface]) ∧ Below w.heap.size w w' := by
  have e := or_low ((n + 1) * 4) 0 (by omega) (by omega) (by omega) (by omega) (by omega)
  rw [Int.add_zero] at e
  go_enter Tryz.func51, Tryz.ntmps51
  go_wp2
  go_ret2
  rw [← e]
  exact ⟨rfl, Below.refl _ _⟩

theorem comesI_ok (n x : Int) (c1 : 0 ≤ n) (c2 : n ≤ 1099511627776) (w : World) :
    Calls Tryz.prog 125 #[.int .i64 n, .int .u64 x, .func (.func 51) #[] #[]] w fun ev w' => ev = .returned (.bool ((n + 1) * 4 == x)) ∧ Below w.heap.size w w' := by
  have h := ofAddr_ok n c1 c2 w
  go_enter Tryz.func125, Tryz.ntmps125
  go_wp2_with fail
  refine h.mono ?_
  rintro ev w1 ⟨rfl, hb⟩
  go_wp2
  go_ret
  exact ⟨rfl, hb⟩
theorem comesI_no (a : Nat → Addr) (n x : Int) (h0 : -9223372036854775808 ≤ n) (h1 : n < 9223372036854775808) (hn : n < 0 ∨ 1099511627776 < n) (w : World) (E : WErr a w) :
    Calls Tryz.prog 125 #[.int .i64 n, .int .u64 x, .func (.func 51) #[] #[]] w fun ev w' => ev = .returned (.bool false) ∧ Below w.heap.size w w' := by
  have h := ofAddr_no a n h0 h1 hn w E
  go_enter Tryz.func125, Tryz.ntmps125
  go_wp2_with fail
  refine h.mono ?_
  rintro ev w1 ⟨rfl, hb⟩
  unfold errV
  go_wp2
  go_ret
  exact ⟨rfl, hb⟩

theorem toAddr_ok (x : Int) (hx : x % 4 = 0) (h4 : 4 ≤ x) (h5 : x / 4 - 1 ≤ 1099511627776) (w : World) :
    Calls Tryz.prog 111 #[.int .u64 x] w fun ev w' => ev = .returned (.tuple #[.int .i64 (x / 4 - 1), .nilIface]) ∧ Below w.heap.size w w' := by
  have h := comesI_ok (x / 4 - 1) x (by omega) (by omega) w
  have hm : ((x / 4 - 1 + 1) * 4 == x) = true := by
    rw [beq_iff_eq]
    omega
  rw [hm] at h
  clear hm
  go_enter Tryz.func111, Tryz.ntmps111
  go_wp2_with fail
  refine h.mono ?_
  rintro ev w1 ⟨rfl, hb⟩
  go_wp2
  go_ret2
  exact ⟨rfl, hb⟩
theorem toAddr_no (a : Nat → Addr) (x : Int) (h0 : 0 ≤ x) (h1 : x < 18446744073709551616) (hx : ¬ (x % 4 = 0 ∧ 4 ≤ x ∧ x / 4 - 1 ≤ 1099511627776)) (w : World) (E : WErr a w) :
    Calls Tryz.prog 111 #[.int .u64 x] w fun ev w' => ev = .returned (.tuple #[.int .i64 0, errV a 2]) ∧ Below w.heap.size w w' := by
  have h : Calls Tryz.prog 125 #[.int .i64 (x / 4 - 1), .int .u64 x, .func (.func 51) #[] #[]] w fun ev w' => ev = .returned (.bool false) ∧ Below w.heap.size w w' := by
    by_cases c : x / 4 - 1 < 0 ∨ 1099511627776 < x / 4 - 1
    · exact comesI_no a (x / 4 - 1) x (by omega) (by omega) c w E
    · have h := comesI_ok (x / 4 - 1) x (by omega) (by omega) w
      have hm : ((x / 4 - 1 + 1) * 4 == x) = false := by
        rw [beq_eq_false_iff_ne]
        omega
      rw [hm] at h
      exact h
  clear hx
  go_enter Tryz.func111, Tryz.ntmps111
  go_wp2_with fail
  refine h.mono ?_
  rintro ev w1 ⟨rfl, hb⟩
  have k2 := (E.below hb).c2
  go_wp2
  go_quiet (fail)
  go_wp2
  go_ret2
  exact ⟨rfl, below_drewN hb⟩

theorem within_any (n m : Int) (w : World) :
    Calls Tryz.prog 78 #[.int .i64 n, .int .i64 m] w fun ev w' => ev = .returned (.bool (decide (0 ≤ n) && decide (n ≤ m))) ∧ w' = w := by
  by_cases c : 0 ≤ n
  · rw [decide_eq_true c, Bool.true_and]
    go_enter Tryz.func78, Tryz.ntmps78
    go_wp2
    go_ret
    exact ⟨rfl, rfl⟩
  · rw [decide_eq_false c, Bool.false_and]
    go_enter Tryz.func78, Tryz.ntmps78
    go_wp2
    go_ret
    exact ⟨rfl, rfl⟩
theorem ofConst_ok (n : Int) (c1 : 0 ≤ n) (c2 : n ≤ 2) (w : World) :
    Calls Tryz.prog 126 #[.int .i64 n] w fun ev w' => ev = .returned (.tuple #[.int .u64 (n * 4 + 2), .nilIface]) ∧ Below w.heap.size w w' := by
  have h := within_any n 2 w
  have hm : (decide (0 ≤ n) && decide (n ≤ 2)) = true := by simp [c1, c2]
  rw [hm] at h
  clear hm
  have e := or_low (n * 4) 2 (by omega) (by omega) (by omega) (by omega) (by omega)
  go_enter Tryz.func126, Tryz.ntmps126
  go_wp2_with fail
  refine h.mono ?_
  rintro ev w1 ⟨rfl, rfl⟩
  go_wp2
  go_ret2
  rw [← e]
  exact ⟨rfl, Below.refl _ _⟩
theorem ofConst_no (a : Nat → Addr) (n : Int) (hn : n < 0 ∨ 2 < n) (w : World) (E : WErr a w) :
    Calls Tryz.prog 126 #[.int .i64 n] w fun ev w' => ev = .returned (.tuple #[.int .u64 0, errV a 1]) ∧ Below w.heap.size w w' := by
  have h := within_any n 2 w
  have hm : (decide (0 ≤ n) && decide (n ≤ 2)) = false := by
    rw [Bool.and_eq_false_iff, decide_eq_false_iff_not, decide_eq_false_iff_not]
    omega
  rw [hm] at h
  clear hm
  have k1 := E.c1
  go_enter Tryz.func126, Tryz.ntmps126
  go_wp2_with fail
  refine h.mono ?_
  rintro ev w1 ⟨rfl, rfl⟩
  go_wp2
  go_quiet (fail)
  go_wp2
  go_ret2
  exact ⟨rfl, below_drewN (Below.refl _ _)⟩
end Go.Proofs.YtnenggkgfhgcnaaGreatDoor

/- Package word: headers, by contracts. -/
namespace Go.Proofs.YtnenggkgfhgcnaaGreatDoor
open Go.RowKit

theorem or_comm64 (a b : Int) : bits .or .u64 a b = bits .or .u64 b a := by
  simp only [bits, BitVec.or_comm]
theorem or_join (i : Nat) (x y : Int) (h0 : 0 ≤ x) (h1 : x < 18446744073709551616) (h2 : x % 2 ^ i = 0) (c0 : 0 ≤ y) (c1 : y < 2 ^ i) (c2 : y < 18446744073709551616) : bits .or .u64 x y = x + y :=
  bits_join .u64 64 (by decide) (fun n a b => by rw [wrap_u64']; omega) i x y h0 h2 h1 c0 c1 c2
theorem head_sum (k g m s : Int) (k0 : 0 ≤ k) (k1 : k ≤ 255) (g0 : 0 ≤ g) (g1 : g ≤ 15) (m0 : 0 ≤ m) (m1 : m ≤ 1) (s0 : 0 ≤ s) (s1 : s ≤ 4096) :
    bits .or .u64 (bits .or .u64 (bits .or .u64 (k * 4) (g * 1024)) (bits .or .u64 (m * 16384) (s * 65536))) 3 = s * 65536 + m * 16384 + g * 1024 + k * 4 + 3 := by
  have e1 : bits .or .u64 (k * 4) (g * 1024) = g * 1024 + k * 4 := by
    rw [or_comm64]
    exact or_join 10 _ _ (by omega) (by omega) (by omega) (by omega) (by omega) (by omega)
  have e2 : bits .or .u64 (m * 16384) (s * 65536) = s * 65536 + m * 16384 := by
    rw [or_comm64]
    exact or_join 16 _ _ (by omega) (by omega) (by omega) (by omega) (by omega) (by omega)
  have e3 : bits .or .u64 (g * 1024 + k * 4) (s * 65536 + m * 16384) = s * 65536 + m * 16384 + (g * 1024 + k * 4) := by
    rw [or_comm64]
    exact or_join 14 _ _ (by omega) (by omega) (by omega) (by omega) (by omega) (by omega)
  rw [e1, e2, e3, or_join 2 _ _ (by omega) (by omega) (by omega) (by omega) (by omega) (by omega)]
  omega

set_option maxRecDepth 100000 in
theorem ofHead_ok (k g m s : Int) (k0 : 0 ≤ k) (k1 : k ≤ 255) (g0 : 0 ≤ g) (g1 : g ≤ 15) (m0 : 0 ≤ m) (m1 : m ≤ 1) (s0 : 0 ≤ s) (s1 : s ≤ 4096) (w : World) :
    Calls Tryz.prog 46 #[.agg #[.int .i64 k, .int .i64 g, .int .i64 m, .int .i64 s]] w fun ev w' => ev = .returned (.tuple #[.int .u64 (s * 65536 + m * 16384 + g * 1024 + k * 4 + 3), .nilIface]) ∧ Below w.heap.size w w' := by
  have e := head_sum k g m s k0 k1 g0 g1 m0 m1 s0 s1
  go_enter Tryz.func46, Tryz.ntmps46
  go_wp2_with fail
  refine (within_any _ _ _).mono ?_
  rintro ev w1 ⟨rfl, rfl⟩
  go_wp2_with fail
  refine (within_any _ _ _).mono ?_
  rintro ev w1 ⟨rfl, rfl⟩
  go_wp2_with fail
  refine (within_any _ _ _).mono ?_
  rintro ev w1 ⟨rfl, rfl⟩
  go_wp2_with fail
  refine (within_any _ _ _).mono ?_
  rintro ev w1 ⟨rfl, rfl⟩
  go_wp2_with fail
  go_ret2
  rw [← e]
  exact ⟨rfl, (Below.refl _ _).alloc (Nat.le_refl _) _⟩

set_option maxRecDepth 100000 in
theorem ofHead_no (a : Nat → Addr) (k g m s : Int) (hn : ¬ (0 ≤ k ∧ k ≤ 255 ∧ 0 ≤ g ∧ g ≤ 15 ∧ 0 ≤ m ∧ m ≤ 1 ∧ 0 ≤ s ∧ s ≤ 4096)) (w : World) (E : WErr a w) :
    Calls Tryz.prog 46 #[.agg #[.int .i64 k, .int .i64 g, .int .i64 m, .int .i64 s]] w fun ev w' => ev = .returned (.tuple #[.int .u64 0, errV a 1]) ∧ Below w.heap.size w w' := by
  have hbA := fun o => (Below.refl w.heap.size w).alloc (Nat.le_refl _) o
  have hc := fun o => (E.below (hbA o)).c1
  by_cases ck : 0 ≤ k ∧ k ≤ 255
  rotate_left
  · clear hn
    have hx : (decide (0 ≤ k) && decide (k ≤ 255)) = false := by rw [Bool.and_eq_false_iff, decide_eq_false_iff_not, decide_eq_false_iff_not]; omega
    go_enter Tryz.func46, Tryz.ntmps46
    go_wp2_with fail
    refine (within_any _ _ _).mono ?_
    rintro ev w1 ⟨rfl, rfl⟩
    rw [hx]
    go_wp2_with fail
    go_quiet (fail)
    go_wp2
    go_ret2
    exact ⟨rfl, below_drewN (hbA _)⟩
  obtain ⟨k0, k1⟩ := ck
  by_cases cg : 0 ≤ g ∧ g ≤ 15
  rotate_left
  · clear hn
    have hx : (decide (0 ≤ g) && decide (g ≤ 15)) = false := by rw [Bool.and_eq_false_iff, decide_eq_false_iff_not, decide_eq_false_iff_not]; omega
    go_enter Tryz.func46, Tryz.ntmps46
    go_wp2_with fail
    refine (within_any _ _ _).mono ?_
    rintro ev w1 ⟨rfl, rfl⟩
    go_wp2_with fail
    refine (within_any _ _ _).mono ?_
    rintro ev w1 ⟨rfl, rfl⟩
    rw [hx]
    go_wp2_with fail
    go_quiet (fail)
    go_wp2
    go_ret2
    exact ⟨rfl, below_drewN (hbA _)⟩
  obtain ⟨g0, g1⟩ := cg
  by_cases cm : 0 ≤ m ∧ m ≤ 1
  rotate_left
  · clear hn
    have hx : (decide (0 ≤ m) && decide (m ≤ 1)) = false := by rw [Bool.and_eq_false_iff, decide_eq_false_iff_not, decide_eq_false_iff_not]; omega
    go_enter Tryz.func46, Tryz.ntmps46
    go_wp2_with fail
    refine (within_any _ _ _).mono ?_
    rintro ev w1 ⟨rfl, rfl⟩
    go_wp2_with fail
    refine (within_any _ _ _).mono ?_
    rintro ev w1 ⟨rfl, rfl⟩
    go_wp2_with fail
    refine (within_any _ _ _).mono ?_
    rintro ev w1 ⟨rfl, rfl⟩
    rw [hx]
    go_wp2_with fail
    go_quiet (fail)
    go_wp2
    go_ret2
    exact ⟨rfl, below_drewN (hbA _)⟩
  obtain ⟨m0, m1⟩ := cm
  by_cases cs : 0 ≤ s ∧ s ≤ 4096
  rotate_left
  · clear hn
    have hx : (decide (0 ≤ s) && decide (s ≤ 4096)) = false := by rw [Bool.and_eq_false_iff, decide_eq_false_iff_not, decide_eq_false_iff_not]; omega
    go_enter Tryz.func46, Tryz.ntmps46
    go_wp2_with fail
    refine (within_any _ _ _).mono ?_
    rintro ev w1 ⟨rfl, rfl⟩
    go_wp2_with fail
    refine (within_any _ _ _).mono ?_
    rintro ev w1 ⟨rfl, rfl⟩
    go_wp2_with fail
    refine (within_any _ _ _).mono ?_
    rintro ev w1 ⟨rfl, rfl⟩
    go_wp2_with fail
    refine (within_any _ _ _).mono ?_
    rintro ev w1 ⟨rfl, rfl⟩
    rw [hx]
    go_wp2_with fail
    go_quiet (fail)
    go_wp2
    go_ret2
    exact ⟨rfl, below_drewN (hbA _)⟩
  obtain ⟨s0, s1⟩ := cs
  exact absurd ⟨k0, k1, g0, g1, m0, m1, s0, s1⟩ hn

theorem comesH_ok (k g m s x : Int) (k0 : 0 ≤ k) (k1 : k ≤ 255) (g0 : 0 ≤ g) (g1 : g ≤ 15) (m0 : 0 ≤ m) (m1 : m ≤ 1) (s0 : 0 ≤ s) (s1 : s ≤ 4096) (w : World) :
    Calls Tryz.prog 88 #[.agg #[.int .i64 k, .int .i64 g, .int .i64 m, .int .i64 s], .int .u64 x, .func (.func 46) #[] #[]] w fun ev w' => ev = .returned (.bool (s * 65536 + m * 16384 + g * 1024 + k * 4 + 3 == x)) ∧ Below w.heap.size w w' := by
  have h := fun w => ofHead_ok k g m s k0 k1 g0 g1 m0 m1 s0 s1 w
  clear k0 k1 g0 g1 m0 m1 s0 s1
  go_enter Tryz.func88, Tryz.ntmps88
  go_wp2_with fail
  refine (h _).mono ?_
  rintro ev w1 ⟨rfl, hb⟩
  go_wp2
  go_ret
  exact ⟨rfl, ((Below.refl _ _).alloc (Nat.le_refl _) _).trans (hb.mono (by simp))⟩
theorem comesH_no (a : Nat → Addr) (k g m s x : Int) (hn : ¬ (0 ≤ k ∧ k ≤ 255 ∧ 0 ≤ g ∧ g ≤ 15 ∧ 0 ≤ m ∧ m ≤ 1 ∧ 0 ≤ s ∧ s ≤ 4096)) (w : World) (E : WErr a w) :
    Calls Tryz.prog 88 #[.agg #[.int .i64 k, .int .i64 g, .int .i64 m, .int .i64 s], .int .u64 x, .func (.func 46) #[] #[]] w fun ev w' => ev = .returned (.bool false) ∧ Below w.heap.size w w' := by
  have h := fun w (E : WErr a w) => ofHead_no a k g m s hn w E
  clear hn
  go_enter Tryz.func88, Tryz.ntmps88
  go_wp2_with fail
  refine (h _ (E.below ((Below.refl _ _).alloc (Nat.le_refl _) _))).mono ?_
  rintro ev w1 ⟨rfl, hb⟩
  unfold errV
  go_wp2
  go_ret
  exact ⟨rfl, ((Below.refl _ _).alloc (Nat.le_refl _) _).trans (hb.mono (by simp))⟩

theorem and255 (y : Int) (h0 : 0 ≤ y) (h1 : y < 18446744073709551616) : bits .and .u64 y 255 = y % 256 := by go_bits2
theorem and15 (y : Int) (h0 : 0 ≤ y) (h1 : y < 18446744073709551616) : bits .and .u64 y 15 = y % 16 := by go_bits2
theorem and1 (y : Int) (h0 : 0 ≤ y) (h1 : y < 18446744073709551616) : bits .and .u64 y 1 = y % 2 := by go_bits2

theorem two_new (w : World) (o o' : Obj) : ((w.alloc o).alloc o').heap[w.heap.size]? = some o ∧ ((w.alloc o).alloc o').heap[w.heap.size + 1]? = some o' := by
  constructor
  · exact (((Below.refl (w.alloc o).heap.size _).alloc (Nat.le_refl _) _).block w.heap.size (by simp)).trans (heap_alloc_new w _)
  · have h := heap_alloc_new (w.alloc o) o'
    rw [show (w.alloc o).heap.size = w.heap.size + 1 by simp] at h
    exact h
theorem head_block {w : World} {b : Nat} {u0 u1 u2 u3 : Value} (h : w.heap[b]? = some (.cells #[u0, u1, u2, u3] 92)) :
    w.cell? ⟨b, 0, none⟩ = some u0 ∧ w.cell? ⟨b, 1, none⟩ = some u1 ∧ w.cell? ⟨b, 2, none⟩ = some u2 ∧ w.cell? ⟨b, 3, none⟩ = some u3 ∧ ∀ o, w.frozen? ⟨b, o, none⟩ = false := by
  refine ⟨?_, ?_, ?_, ?_, fun o => by simp [World.frozen?, h]⟩
  · rw [cell_of_row w b 0 _ _ _ h]; rfl
  · rw [cell_of_row w b 1 _ _ _ h]; rfl
  · rw [cell_of_row w b 2 _ _ _ h]; rfl
  · rw [cell_of_row w b 3 _ _ _ h]; rfl
theorem cell_set (w : World) (b i j : Nat) (v : Value) (h : i ≠ j) : (w.setCell ⟨b, j, none⟩ v).cell? ⟨b, i, none⟩ = w.cell? ⟨b, i, none⟩ :=
  World.cell?_setCell_other _ _ _ _ (fun e => h (congrArg Addr.off e).symm)
def set4 (w : World) (b : Nat) (v0 v1 v2 v3 : Value) : World := (((w.setCell ⟨b, 0, none⟩ v0).setCell ⟨b, 1, none⟩ v1).setCell ⟨b, 2, none⟩ v2).setCell ⟨b, 3, none⟩ v3
theorem set4_cells {w : World} {b : Nat} {u0 u1 u2 u3 : Value} (r0 : w.cell? ⟨b, 0, none⟩ = some u0) (r1 : w.cell? ⟨b, 1, none⟩ = some u1) (r2 : w.cell? ⟨b, 2, none⟩ = some u2) (r3 : w.cell? ⟨b, 3, none⟩ = some u3) (v0 v1 v2 v3 : Value) :
    (set4 w b v0 v1 v2 v3).cell? ⟨b, 0, none⟩ = some v0 ∧ (set4 w b v0 v1 v2 v3).cell? ⟨b, 1, none⟩ = some v1 ∧ (set4 w b v0 v1 v2 v3).cell? ⟨b, 2, none⟩ = some v2 ∧ (set4 w b v0 v1 v2 v3).cell? ⟨b, 3, none⟩ = some v3 := by
  unfold set4
  refine ⟨?_, ?_, ?_, ?_⟩
  · rw [cell_set _ _ _ _ _ (by decide), cell_set _ _ _ _ _ (by decide), cell_set _ _ _ _ _ (by decide)]
    exact World.cell?_setCell_same _ _ _ r0
  · rw [cell_set _ _ _ _ _ (by decide), cell_set _ _ _ _ _ (by decide)]
    exact World.cell?_setCell_same _ _ _ ((cell_set _ _ _ _ _ (by decide)).trans r1)
  · rw [cell_set _ _ _ _ _ (by decide)]
    exact World.cell?_setCell_same _ _ _ ((cell_set _ _ _ _ _ (by decide)).trans ((cell_set _ _ _ _ _ (by decide)).trans r2))
  · exact World.cell?_setCell_same _ _ _ ((cell_set _ _ _ _ _ (by decide)).trans ((cell_set _ _ _ _ _ (by decide)).trans ((cell_set _ _ _ _ _ (by decide)).trans r3)))
theorem set4_below {w W : World} {b B : Nat} (h : Below B w W) (hb : B ≤ b) (v0 v1 v2 v3 : Value) : Below B w (set4 W b v0 v1 v2 v3) :=
  (((h.setCell hb _).setCell hb _).setCell hb _).setCell hb _
theorem head_results (tmps : Array Value) (W : World) (b : Nat) (v0 v1 v2 v3 : Value) (h2 : tmps[2]?.getD undef = .pointer (some ⟨b, 0, none⟩)) (c0 : W.cell? ⟨b, 0, none⟩ = some v0) (c1 : W.cell? ⟨b, 1, none⟩ = some v1) (c2 : W.cell? ⟨b, 2, none⟩ = some v2) (c3 : W.cell? ⟨b, 3, none⟩ = some v3) :
    (results Tryz.f58 tmps).run Tryz.prog W = .ok (.tuple #[.agg #[v0, v1, v2, v3], tmps[3]?.getD undef]) W := by
  simp [results, Tryz.results58, go_sem, h2, c0, c1, c2, c3]

set_option maxRecDepth 100000 in
theorem toHead_ok (x : Int) (h0 : 0 ≤ x) (h1 : x < 18446744073709551616) (hx : x % 4 = 3) (hy : x / 32768 % 2 = 0) (hz : x / 65536 ≤ 4096) (w : World) :
    Calls Tryz.prog 58 #[.int .u64 x] w fun ev w' => ev = .returned (.tuple #[.agg #[.int .i64 (x / 4 % 256), .int .i64 (x / 1024 % 16), .int .i64 (x / 16384 % 2), .int .i64 (x / 65536)], .nilIface]) ∧ Below w.heap.size w w' := by
  have e1 := and255 (x / 4) (by omega) (by omega)
  have e2 := and15 (x / 1024) (by omega) (by omega)
  have e3 := and1 (x / 16384) (by omega) (by omega)
  have h := fun w => comesH_ok (x / 4 % 256) (x / 1024 % 16) (x / 16384 % 2) (x / 65536) x (by omega) (by omega) (by omega) (by omega) (by omega) (by omega) (by omega) (by omega) w
  have hm : (x / 65536 * 65536 + x / 16384 % 2 * 16384 + x / 1024 % 16 * 1024 + x / 4 % 256 * 4 + 3 == x) = true := by
    rw [beq_iff_eq]
    omega
  rw [hm] at h
  clear hm
  have hsz : w.heap.size ≠ w.heap.size + 1 := by omega
  go_enter Tryz.func58, Tryz.ntmps58
  go_wp2_with fail
  refine (h _).mono ?_
  rintro ev w1 ⟨rfl, hb⟩
  have hbw : Below w.heap.size w w1 := (((Below.refl _ _).alloc (Nat.le_refl _) _).alloc (by simp) _).trans (hb.mono (by simp; omega))
  have hB0 := (hb.block w.heap.size (by simp; omega)).trans (two_new w _ _).1
  have hB1 := (hb.block (w.heap.size + 1) (by simp)).trans (two_new w _ _).2
  obtain ⟨r0, r1, r2, r3, rf⟩ := head_block hB0
  obtain ⟨s0, s1, s2, s3, _⟩ := head_block hB1
  have rf0 := rf 0
  have rf1 := rf 1
  have rf2 := rf 2
  have rf3 := rf 3
  clear rf hB0 hB1 hb h e1 e2 e3
  go_wp2
  obtain ⟨t0, t1, t2, t3⟩ := set4_cells r0 r1 r2 r3 (.int .i64 (x / 4 % 256)) (.int .i64 (x / 1024 % 16)) (.int .i64 (x / 16384 % 2)) (.int .i64 (x / 65536))
  refine bodyPost_ret (head_results _ _ w.heap.size _ _ _ _ rfl t0 t1 t2 t3) rfl ?_
  exact ⟨rfl, (((hbw.setCell (Nat.le_refl _) _).setCell (Nat.le_refl _) _).setCell (Nat.le_refl _) _).setCell (Nat.le_refl _) _⟩

set_option maxRecDepth 100000 in
theorem toHead_no (a : Nat → Addr) (x : Int) (h0 : 0 ≤ x) (h1 : x < 18446744073709551616) (hx : ¬ (x % 4 = 3 ∧ x / 32768 % 2 = 0 ∧ x / 65536 ≤ 4096)) (w : World) (E : WErr a w) :
    Calls Tryz.prog 58 #[.int .u64 x] w fun ev w' => ev = .returned (.tuple #[.agg #[.int .i64 0, .int .i64 0, .int .i64 0, .int .i64 0], errV a 2]) ∧ Below w.heap.size w w' := by
  have e1 := and255 (x / 4) (by omega) (by omega)
  have e2 := and15 (x / 1024) (by omega) (by omega)
  have e3 := and1 (x / 16384) (by omega) (by omega)
  have h : ∀ w, WErr a w → Calls Tryz.prog 88 #[.agg #[.int .i64 (x / 4 % 256), .int .i64 (x / 1024 % 16), .int .i64 (x / 16384 % 2), .int .i64 (x / 65536)], .int .u64 x, .func (.func 46) #[] #[]] w fun ev w' => ev = .returned (.bool false) ∧ Below w.heap.size w w' := fun w E => by
    by_cases c : x / 65536 ≤ 4096
    · have h := comesH_ok (x / 4 % 256) (x / 1024 % 16) (x / 16384 % 2) (x / 65536) x (by omega) (by omega) (by omega) (by omega) (by omega) (by omega) (by omega) c w
      have hm : (x / 65536 * 65536 + x / 16384 % 2 * 16384 + x / 1024 % 16 * 1024 + x / 4 % 256 * 4 + 3 == x) = false := by
        rw [beq_eq_false_iff_ne]
        omega
      rw [hm] at h
      exact h
    · exact comesH_no a (x / 4 % 256) (x / 1024 % 16) (x / 16384 % 2) (x / 65536) x (by omega) w E
  clear hx
  have hsz : w.heap.size ≠ w.heap.size + 1 := by omega
  have hlt : 2 < w.heap.size := lt_of_cell E.c2
  have hne : w.heap.size ≠ 2 := by omega
  have hne2 : 2 ≠ w.heap.size := by omega
  go_enter Tryz.func58, Tryz.ntmps58
  go_wp2_with fail
  refine (h _ (E.below (((Below.refl _ _).alloc (Nat.le_refl _) _).alloc (by simp) _))).mono ?_
  rintro ev w1 ⟨rfl, hb⟩
  have hbw : Below w.heap.size w w1 := (((Below.refl _ _).alloc (Nat.le_refl _) _).alloc (by simp) _).trans (hb.mono (by simp; omega))
  have hB0 := (hb.block w.heap.size (by simp; omega)).trans (two_new w _ _).1
  obtain ⟨r0, r1, r2, r3, rf⟩ := head_block hB0
  have rf0 := rf 0
  have rf1 := rf 1
  have rf2 := rf 2
  have rf3 := rf 3
  have k2 := (E.below hbw).c2
  clear rf hB0 hb h e1 e2 e3
  go_wp2
  go_region
  go_wp2
  obtain ⟨t0, t1, t2, t3⟩ := set4_cells r0 r1 r2 r3 (.int .i64 0) (.int .i64 0) (.int .i64 0) (.int .i64 0)
  have hbz := (set4_below hbw (Nat.le_refl _) (.int .i64 0) (.int .i64 0) (.int .i64 0) (.int .i64 0)).drew
  change bodyPost _ _ _ _ _ (set4 w1 w.heap.size (.int .i64 0) (.int .i64 0) (.int .i64 0) (.int .i64 0)).drew
  generalize set4 w1 w.heap.size (.int .i64 0) (.int .i64 0) (.int .i64 0) (.int .i64 0) = W at t0 t1 t2 t3 hbz ⊢
  refine bodyPost_ret (head_results _ _ w.heap.size (.int .i64 0) (.int .i64 0) (.int .i64 0) (.int .i64 0) rfl t0 t1 t2 t3) rfl ?_
  exact ⟨rfl, hbz⟩
end Go.Proofs.YtnenggkgfhgcnaaGreatDoor

/- The Word laws: their helpers, and the laws of ints, addresses, headers by walks. -/
namespace Go.Proofs.YtnenggkgfhgcnaaGreatDoor
open Go.RowKit

theorem coded_any (a : Nat → Addr) (k : Nat) (hk : k < 7) (w : World) (E : Errs a w) :
    Calls Tryz.prog 13 #[errV a k, .int .i64 (k + 1)] w fun ev w' => ev = .returned (.bool true) ∧ Below w.heap.size w w' := by
  have h := code_sent a k hk w E
  go_enter Tryz.func13, Tryz.ntmps13
  unfold errV
  go_wp2_with fail
  refine h.mono ?_
  rintro ev w1 ⟨rfl, hb⟩
  go_wp2
  go_ret
  exact ⟨rfl, hb⟩
theorem intOf_any (x : Int) (w : World) :
    Calls Tryz.prog 66 #[.int .u64 x] w fun ev w' => ev = .returned (.int .i64 (wrap64 x / 4)) ∧ w' = w := by
  go_enter Tryz.func66, Tryz.ntmps66
  go_wp2
  go_ret
  exact ⟨rfl, rfl⟩
theorem constWord_any (n : Int) (c1 : 0 ≤ n) (c2 : n ≤ 2) (w : World) :
    Calls Tryz.prog 37 #[.int .i64 n] w fun ev w' => ev = .returned (.int .u64 (n * 4 + 2)) ∧ w' = w := by
  go_enter Tryz.func37, Tryz.ntmps37
  go_wp2
  go_ret
  exact ⟨rfl, rfl⟩
theorem headOf_results (tmps : Array Value) (W : World) :
    (results Tryz.f80 tmps).run Tryz.prog W = .ok (.tuple #[tmps[2]?.getD undef, tmps[3]?.getD undef, tmps[4]?.getD undef, tmps[5]?.getD undef, tmps[6]?.getD undef]) W := by
  simp [results, Tryz.results80, go_sem]
theorem headOf_ok (x : Int) (h0 : 0 ≤ x) (h1 : x < 18446744073709551616) (hx : x % 4 = 3) (hy : x / 32768 % 2 = 0) (hz : x / 65536 ≤ 4096) (w : World) :
    Calls Tryz.prog 80 #[.int .u64 x] w fun ev w' => ev = .returned (.tuple #[.int .i64 (x / 4 % 256), .int .i64 (x / 1024 % 16), .int .i64 (x / 16384 % 2), .int .i64 (x / 65536), .bool true]) ∧ w' = w := by
  go_enter Tryz.func80, Tryz.ntmps80
  go_wp2
  refine bodyPost_ret (headOf_results _ _) rfl ?_
  exact ⟨rfl, rfl⟩
theorem headOf_no (x : Int) (h0 : 0 ≤ x) (h1 : x < 18446744073709551616) (hx : ¬ (x % 4 = 3 ∧ x / 32768 % 2 = 0 ∧ x / 65536 ≤ 4096)) (w : World) :
    Calls Tryz.prog 80 #[.int .u64 x] w fun ev w' => ev = .returned (.tuple #[.int .i64 0, .int .i64 0, .int .i64 0, .int .i64 0, .bool false]) ∧ w' = w := by
  by_cases c1 : x % 4 = 3
  rotate_left
  · clear hx
    go_enter Tryz.func80, Tryz.ntmps80
    go_wp2
    refine bodyPost_ret (headOf_results _ _) rfl ?_
    exact ⟨rfl, rfl⟩
  by_cases c2 : x / 32768 % 2 = 0
  rotate_left
  · clear hx
    go_enter Tryz.func80, Tryz.ntmps80
    go_wp2
    refine bodyPost_ret (headOf_results _ _) rfl ?_
    exact ⟨rfl, rfl⟩
  have c3 : ¬ x / 65536 ≤ 4096 := fun h => hx ⟨c1, c2, h⟩
  clear hx
  go_enter Tryz.func80, Tryz.ntmps80
  go_wp2
  refine bodyPost_ret (headOf_results _ _) rfl ?_
  exact ⟨rfl, rfl⟩
end Go.Proofs.YtnenggkgfhgcnaaGreatDoor
