/- The law WordTwice by a walk. -/
import Derived.Test.YtlfhjgiodoigbaaDoorWordC
namespace Go.Proofs.YtlfhjgiodoigbaaDoor
open Go.RowKit

theorem toInt_of (n : Int) (c1 : -2305843009213693952 ≤ n) (c2 : n < 2305843009213693952) (w : World) :
    Calls Tryd.prog 14 #[.int .u64 ((n * 4 + 1) % 18446744073709551616)] w fun ev w' => ev = .returned (.tuple #[.int .i64 n, .nilIface]) ∧ Below w.heap.size w w' := by
  have h := toInt_ok ((n * 4 + 1) % 18446744073709551616) (by omega) (by omega) (by omega) w
  have e : wrap64 ((n * 4 + 1) % 18446744073709551616) / 4 = n := by
    rw [wrap64_eq]
    omega
  rw [e] at h
  exact h
theorem toAddr_of (n : Int) (c1 : 0 ≤ n) (c2 : n ≤ 1099511627776) (w : World) :
    Calls Tryd.prog 20 #[.int .u64 ((n + 1) * 4)] w fun ev w' => ev = .returned (.tuple #[.int .i64 n, .nilIface]) ∧ Below w.heap.size w w' := by
  have h := toAddr_ok ((n + 1) * 4) (by omega) (by omega) (by omega) w
  have e : (n + 1) * 4 / 4 - 1 = n := by omega
  rw [e] at h
  exact h
theorem toHead_of (k g m s : Int) (k0 : 0 ≤ k) (k1 : k ≤ 255) (g0 : 0 ≤ g) (g1 : g ≤ 15) (m0 : 0 ≤ m) (m1 : m ≤ 1) (s0 : 0 ≤ s) (s1 : s ≤ 4096) (w : World) :
    Calls Tryd.prog 23 #[.int .u64 (s * 65536 + m * 16384 + g * 1024 + k * 4 + 3)] w fun ev w' => ev = .returned (.tuple #[.agg #[.int .i64 k, .int .i64 g, .int .i64 m, .int .i64 s], .nilIface]) ∧ Below w.heap.size w w' := by
  have h := toHead_ok (s * 65536 + m * 16384 + g * 1024 + k * 4 + 3) (by omega) (by omega) (by omega) (by omega) (by omega) w
  have e0 : (s * 65536 + m * 16384 + g * 1024 + k * 4 + 3) / 4 % 256 = k := by omega
  have e1 : (s * 65536 + m * 16384 + g * 1024 + k * 4 + 3) / 1024 % 16 = g := by omega
  have e2 : (s * 65536 + m * 16384 + g * 1024 + k * 4 + 3) / 16384 % 2 = m := by omega
  have e3 : (s * 65536 + m * 16384 + g * 1024 + k * 4 + 3) / 65536 = s := by omega
  rw [e0, e1, e2, e3] at h
  exact h

set_option maxHeartbeats 4000000 in
set_option maxRecDepth 100000 in
theorem twice_yyy (a : Nat → Addr) (n b k g m s : Int) (c1 : -2305843009213693952 ≤ n) (c2 : n < 2305843009213693952) (d1 : 0 ≤ b) (d2 : b ≤ 1099511627776) (k0 : 0 ≤ k) (k1 : k ≤ 255) (g0 : 0 ≤ g) (g1 : g ≤ 15) (m0 : 0 ≤ m) (m1 : m ≤ 1) (s0 : 0 ≤ s) (s1 : s ≤ 4096) (w : World) (E : WErr a w) :
    Calls Tryd.prog 7 #[.int .i64 n, .int .i64 b, .agg #[.int .i64 k, .int .i64 g, .int .i64 m, .int .i64 s]] w fun ev w' => ev = .returned (.bool true) ∧ Below w.heap.size w w' := by
  have E0 : WErr a (w.alloc (.cells #[.int .i64 k, .int .i64 g, .int .i64 m, .int .i64 s] 43)) := E.below ((Below.refl _ _).alloc (Nat.le_refl _) _)
  have hxy : ((n * 4 + 1) % 18446744073709551616 == (b + 1) * 4) = false := by rw [beq_eq_false_iff_ne]; omega
  have hyz : ((b + 1) * 4 == s * 65536 + m * 16384 + g * 1024 + k * 4 + 3) = false := by rw [beq_eq_false_iff_ne]; omega
  have hxz : ((n * 4 + 1) % 18446744073709551616 == s * 65536 + m * 16384 + g * 1024 + k * 4 + 3) = false := by rw [beq_eq_false_iff_ne]; omega
  go_enter Tryd.func7, Tryd.ntmps7
  go_wp2_with fail
  refine (five_any _).mono ?_
  rintro ev w1 ⟨rfl, hb1⟩
  have E1 := E0.below hb1
  go_wp2_with fail
  refine (ofInt_ok n c1 c2 w1).mono ?_
  rintro ev w2 ⟨rfl, hb2⟩
  have hb2 := hb1.trans (hb2.mono hb1.size)
  have E2 := E0.below hb2
  go_wp2_with fail
  refine (ofAddr_ok b d1 d2 w2).mono ?_
  rintro ev w3 ⟨rfl, hb3⟩
  have hb3 := hb2.trans (hb3.mono hb2.size)
  have E3 := E0.below hb3
  obtain ⟨r0, r1, r2, r3, _⟩ := head_block ((hb3.block w.heap.size (by simp)).trans (heap_alloc_new w _))
  go_wp2_with fail
  refine (ofHead_ok k g m s k0 k1 g0 g1 m0 m1 s0 s1 w3).mono ?_
  rintro ev w4 ⟨rfl, hb4⟩
  have hb4 := hb3.trans (hb4.mono hb3.size)
  have E4 := E0.below hb4
  clear r0 r1 r2 r3
  go_wp2_with fail
  refine (toInt_of n c1 c2 w4).mono ?_
  rintro ev w5 ⟨rfl, hb5⟩
  have hb5 := hb4.trans (hb5.mono hb4.size)
  have E5 := E0.below hb5
  go_wp2_with fail
  refine (toAddr_of b d1 d2 w5).mono ?_
  rintro ev w6 ⟨rfl, hb6⟩
  have hb6 := hb5.trans (hb6.mono hb5.size)
  have E6 := E0.below hb6
  go_wp2_with fail
  refine (toHead_of k g m s k0 k1 g0 g1 m0 m1 s0 s1 w6).mono ?_
  rintro ev w7 ⟨rfl, hb7⟩
  have hb7 := hb6.trans (hb7.mono hb6.size)
  have E7 := E0.below hb7
  obtain ⟨r0, r1, r2, r3, _⟩ := head_block ((hb7.block w.heap.size (by simp)).trans (heap_alloc_new w _))
  have hlt : w.heap.size < w7.heap.size := by have := hb7.size; simp at this; omega
  go_wp2
  go_ret
  exact ⟨rfl, ((Below.refl _ _).alloc (Nat.le_refl _) _).trans ((hb7.alloc hb7.size _).mono (by simp))⟩
set_option maxHeartbeats 4000000 in
set_option maxRecDepth 100000 in
theorem twice_yyn (a : Nat → Addr) (n b k g m s : Int) (c1 : -2305843009213693952 ≤ n) (c2 : n < 2305843009213693952) (d1 : 0 ≤ b) (d2 : b ≤ 1099511627776) (q : ¬ (0 ≤ k ∧ k ≤ 255 ∧ 0 ≤ g ∧ g ≤ 15 ∧ 0 ≤ m ∧ m ≤ 1 ∧ 0 ≤ s ∧ s ≤ 4096)) (w : World) (E : WErr a w) :
    Calls Tryd.prog 7 #[.int .i64 n, .int .i64 b, .agg #[.int .i64 k, .int .i64 g, .int .i64 m, .int .i64 s]] w fun ev w' => ev = .returned (.bool true) ∧ Below w.heap.size w w' := by
  have E0 : WErr a (w.alloc (.cells #[.int .i64 k, .int .i64 g, .int .i64 m, .int .i64 s] 43)) := E.below ((Below.refl _ _).alloc (Nat.le_refl _) _)
  have hxy : ((n * 4 + 1) % 18446744073709551616 == (b + 1) * 4) = false := by rw [beq_eq_false_iff_ne]; omega
  go_enter Tryd.func7, Tryd.ntmps7
  go_wp2_with fail
  refine (five_any _).mono ?_
  rintro ev w1 ⟨rfl, hb1⟩
  have E1 := E0.below hb1
  go_wp2_with fail
  refine (ofInt_ok n c1 c2 w1).mono ?_
  rintro ev w2 ⟨rfl, hb2⟩
  have hb2 := hb1.trans (hb2.mono hb1.size)
  have E2 := E0.below hb2
  go_wp2_with fail
  refine (ofAddr_ok b d1 d2 w2).mono ?_
  rintro ev w3 ⟨rfl, hb3⟩
  have hb3 := hb2.trans (hb3.mono hb2.size)
  have E3 := E0.below hb3
  obtain ⟨r0, r1, r2, r3, _⟩ := head_block ((hb3.block w.heap.size (by simp)).trans (heap_alloc_new w _))
  go_wp2_with fail
  refine (ofHead_no a k g m s q w3 E3).mono ?_
  rintro ev w4 ⟨rfl, hb4⟩
  have hb4 := hb3.trans (hb4.mono hb3.size)
  have E4 := E0.below hb4
  clear q
  clear r0 r1 r2 r3
  unfold errV
  go_wp2_with fail
  refine (toInt_of n c1 c2 w4).mono ?_
  rintro ev w5 ⟨rfl, hb5⟩
  have hb5 := hb4.trans (hb5.mono hb4.size)
  have E5 := E0.below hb5
  go_wp2_with fail
  refine (toAddr_of b d1 d2 w5).mono ?_
  rintro ev w6 ⟨rfl, hb6⟩
  have hb6 := hb5.trans (hb6.mono hb5.size)
  have E6 := E0.below hb6
  go_wp2
  go_ret
  exact ⟨rfl, ((Below.refl _ _).alloc (Nat.le_refl _) _).trans ((hb6).mono (by simp))⟩
set_option maxHeartbeats 4000000 in
set_option maxRecDepth 100000 in
theorem twice_yny (a : Nat → Addr) (n b k g m s : Int) (c1 : -2305843009213693952 ≤ n) (c2 : n < 2305843009213693952) (b0 : -9223372036854775808 ≤ b) (b1 : b < 9223372036854775808) (d : b < 0 ∨ 1099511627776 < b) (k0 : 0 ≤ k) (k1 : k ≤ 255) (g0 : 0 ≤ g) (g1 : g ≤ 15) (m0 : 0 ≤ m) (m1 : m ≤ 1) (s0 : 0 ≤ s) (s1 : s ≤ 4096) (w : World) (E : WErr a w) :
    Calls Tryd.prog 7 #[.int .i64 n, .int .i64 b, .agg #[.int .i64 k, .int .i64 g, .int .i64 m, .int .i64 s]] w fun ev w' => ev = .returned (.bool true) ∧ Below w.heap.size w w' := by
  have E0 : WErr a (w.alloc (.cells #[.int .i64 k, .int .i64 g, .int .i64 m, .int .i64 s] 43)) := E.below ((Below.refl _ _).alloc (Nat.le_refl _) _)
  have hxz : ((n * 4 + 1) % 18446744073709551616 == s * 65536 + m * 16384 + g * 1024 + k * 4 + 3) = false := by rw [beq_eq_false_iff_ne]; omega
  go_enter Tryd.func7, Tryd.ntmps7
  go_wp2_with fail
  refine (five_any _).mono ?_
  rintro ev w1 ⟨rfl, hb1⟩
  have E1 := E0.below hb1
  go_wp2_with fail
  refine (ofInt_ok n c1 c2 w1).mono ?_
  rintro ev w2 ⟨rfl, hb2⟩
  have hb2 := hb1.trans (hb2.mono hb1.size)
  have E2 := E0.below hb2
  go_wp2_with fail
  refine (ofAddr_no a b b0 b1 d w2 E2).mono ?_
  rintro ev w3 ⟨rfl, hb3⟩
  have hb3 := hb2.trans (hb3.mono hb2.size)
  have E3 := E0.below hb3
  obtain ⟨r0, r1, r2, r3, _⟩ := head_block ((hb3.block w.heap.size (by simp)).trans (heap_alloc_new w _))
  go_wp2_with fail
  refine (ofHead_ok k g m s k0 k1 g0 g1 m0 m1 s0 s1 w3).mono ?_
  rintro ev w4 ⟨rfl, hb4⟩
  have hb4 := hb3.trans (hb4.mono hb3.size)
  have E4 := E0.below hb4
  clear r0 r1 r2 r3
  unfold errV
  go_wp2_with fail
  refine (toInt_of n c1 c2 w4).mono ?_
  rintro ev w5 ⟨rfl, hb5⟩
  have hb5 := hb4.trans (hb5.mono hb4.size)
  have E5 := E0.below hb5
  go_wp2_with fail
  refine (toHead_of k g m s k0 k1 g0 g1 m0 m1 s0 s1 w5).mono ?_
  rintro ev w6 ⟨rfl, hb6⟩
  have hb6 := hb5.trans (hb6.mono hb5.size)
  have E6 := E0.below hb6
  obtain ⟨r0, r1, r2, r3, _⟩ := head_block ((hb6.block w.heap.size (by simp)).trans (heap_alloc_new w _))
  have hlt : w.heap.size < w6.heap.size := by have := hb6.size; simp at this; omega
  go_wp2
  go_ret
  exact ⟨rfl, ((Below.refl _ _).alloc (Nat.le_refl _) _).trans ((hb6.alloc hb6.size _).mono (by simp))⟩
set_option maxHeartbeats 4000000 in
set_option maxRecDepth 100000 in
theorem twice_ynn (a : Nat → Addr) (n b k g m s : Int) (c1 : -2305843009213693952 ≤ n) (c2 : n < 2305843009213693952) (b0 : -9223372036854775808 ≤ b) (b1 : b < 9223372036854775808) (d : b < 0 ∨ 1099511627776 < b) (q : ¬ (0 ≤ k ∧ k ≤ 255 ∧ 0 ≤ g ∧ g ≤ 15 ∧ 0 ≤ m ∧ m ≤ 1 ∧ 0 ≤ s ∧ s ≤ 4096)) (w : World) (E : WErr a w) :
    Calls Tryd.prog 7 #[.int .i64 n, .int .i64 b, .agg #[.int .i64 k, .int .i64 g, .int .i64 m, .int .i64 s]] w fun ev w' => ev = .returned (.bool true) ∧ Below w.heap.size w w' := by
  have E0 : WErr a (w.alloc (.cells #[.int .i64 k, .int .i64 g, .int .i64 m, .int .i64 s] 43)) := E.below ((Below.refl _ _).alloc (Nat.le_refl _) _)
  go_enter Tryd.func7, Tryd.ntmps7
  go_wp2_with fail
  refine (five_any _).mono ?_
  rintro ev w1 ⟨rfl, hb1⟩
  have E1 := E0.below hb1
  go_wp2_with fail
  refine (ofInt_ok n c1 c2 w1).mono ?_
  rintro ev w2 ⟨rfl, hb2⟩
  have hb2 := hb1.trans (hb2.mono hb1.size)
  have E2 := E0.below hb2
  go_wp2_with fail
  refine (ofAddr_no a b b0 b1 d w2 E2).mono ?_
  rintro ev w3 ⟨rfl, hb3⟩
  have hb3 := hb2.trans (hb3.mono hb2.size)
  have E3 := E0.below hb3
  obtain ⟨r0, r1, r2, r3, _⟩ := head_block ((hb3.block w.heap.size (by simp)).trans (heap_alloc_new w _))
  go_wp2_with fail
  refine (ofHead_no a k g m s q w3 E3).mono ?_
  rintro ev w4 ⟨rfl, hb4⟩
  have hb4 := hb3.trans (hb4.mono hb3.size)
  have E4 := E0.below hb4
  clear q
  clear r0 r1 r2 r3
  unfold errV
  go_wp2_with fail
  refine (toInt_of n c1 c2 w4).mono ?_
  rintro ev w5 ⟨rfl, hb5⟩
  have hb5 := hb4.trans (hb5.mono hb4.size)
  have E5 := E0.below hb5
  go_wp2
  go_ret
  exact ⟨rfl, ((Below.refl _ _).alloc (Nat.le_refl _) _).trans ((hb5).mono (by simp))⟩
set_option maxHeartbeats 4000000 in
set_option maxRecDepth 100000 in
theorem twice_nyy (a : Nat → Addr) (n b k g m s : Int) (c : n < -2305843009213693952 ∨ 2305843009213693952 ≤ n) (d1 : 0 ≤ b) (d2 : b ≤ 1099511627776) (k0 : 0 ≤ k) (k1 : k ≤ 255) (g0 : 0 ≤ g) (g1 : g ≤ 15) (m0 : 0 ≤ m) (m1 : m ≤ 1) (s0 : 0 ≤ s) (s1 : s ≤ 4096) (w : World) (E : WErr a w) :
    Calls Tryd.prog 7 #[.int .i64 n, .int .i64 b, .agg #[.int .i64 k, .int .i64 g, .int .i64 m, .int .i64 s]] w fun ev w' => ev = .returned (.bool true) ∧ Below w.heap.size w w' := by
  have E0 : WErr a (w.alloc (.cells #[.int .i64 k, .int .i64 g, .int .i64 m, .int .i64 s] 43)) := E.below ((Below.refl _ _).alloc (Nat.le_refl _) _)
  have hyz : ((b + 1) * 4 == s * 65536 + m * 16384 + g * 1024 + k * 4 + 3) = false := by rw [beq_eq_false_iff_ne]; omega
  go_enter Tryd.func7, Tryd.ntmps7
  go_wp2_with fail
  refine (five_any _).mono ?_
  rintro ev w1 ⟨rfl, hb1⟩
  have E1 := E0.below hb1
  go_wp2_with fail
  refine (ofInt_no a n c w1 E1).mono ?_
  rintro ev w2 ⟨rfl, hb2⟩
  have hb2 := hb1.trans (hb2.mono hb1.size)
  have E2 := E0.below hb2
  go_wp2_with fail
  refine (ofAddr_ok b d1 d2 w2).mono ?_
  rintro ev w3 ⟨rfl, hb3⟩
  have hb3 := hb2.trans (hb3.mono hb2.size)
  have E3 := E0.below hb3
  obtain ⟨r0, r1, r2, r3, _⟩ := head_block ((hb3.block w.heap.size (by simp)).trans (heap_alloc_new w _))
  go_wp2_with fail
  refine (ofHead_ok k g m s k0 k1 g0 g1 m0 m1 s0 s1 w3).mono ?_
  rintro ev w4 ⟨rfl, hb4⟩
  have hb4 := hb3.trans (hb4.mono hb3.size)
  have E4 := E0.below hb4
  clear r0 r1 r2 r3
  unfold errV
  go_wp2_with fail
  refine (toAddr_of b d1 d2 w4).mono ?_
  rintro ev w5 ⟨rfl, hb5⟩
  have hb5 := hb4.trans (hb5.mono hb4.size)
  have E5 := E0.below hb5
  go_wp2_with fail
  refine (toHead_of k g m s k0 k1 g0 g1 m0 m1 s0 s1 w5).mono ?_
  rintro ev w6 ⟨rfl, hb6⟩
  have hb6 := hb5.trans (hb6.mono hb5.size)
  have E6 := E0.below hb6
  obtain ⟨r0, r1, r2, r3, _⟩ := head_block ((hb6.block w.heap.size (by simp)).trans (heap_alloc_new w _))
  have hlt : w.heap.size < w6.heap.size := by have := hb6.size; simp at this; omega
  go_wp2
  go_ret
  exact ⟨rfl, ((Below.refl _ _).alloc (Nat.le_refl _) _).trans ((hb6.alloc hb6.size _).mono (by simp))⟩
set_option maxHeartbeats 4000000 in
set_option maxRecDepth 100000 in
theorem twice_nyn (a : Nat → Addr) (n b k g m s : Int) (c : n < -2305843009213693952 ∨ 2305843009213693952 ≤ n) (d1 : 0 ≤ b) (d2 : b ≤ 1099511627776) (q : ¬ (0 ≤ k ∧ k ≤ 255 ∧ 0 ≤ g ∧ g ≤ 15 ∧ 0 ≤ m ∧ m ≤ 1 ∧ 0 ≤ s ∧ s ≤ 4096)) (w : World) (E : WErr a w) :
    Calls Tryd.prog 7 #[.int .i64 n, .int .i64 b, .agg #[.int .i64 k, .int .i64 g, .int .i64 m, .int .i64 s]] w fun ev w' => ev = .returned (.bool true) ∧ Below w.heap.size w w' := by
  have E0 : WErr a (w.alloc (.cells #[.int .i64 k, .int .i64 g, .int .i64 m, .int .i64 s] 43)) := E.below ((Below.refl _ _).alloc (Nat.le_refl _) _)
  go_enter Tryd.func7, Tryd.ntmps7
  go_wp2_with fail
  refine (five_any _).mono ?_
  rintro ev w1 ⟨rfl, hb1⟩
  have E1 := E0.below hb1
  go_wp2_with fail
  refine (ofInt_no a n c w1 E1).mono ?_
  rintro ev w2 ⟨rfl, hb2⟩
  have hb2 := hb1.trans (hb2.mono hb1.size)
  have E2 := E0.below hb2
  go_wp2_with fail
  refine (ofAddr_ok b d1 d2 w2).mono ?_
  rintro ev w3 ⟨rfl, hb3⟩
  have hb3 := hb2.trans (hb3.mono hb2.size)
  have E3 := E0.below hb3
  obtain ⟨r0, r1, r2, r3, _⟩ := head_block ((hb3.block w.heap.size (by simp)).trans (heap_alloc_new w _))
  go_wp2_with fail
  refine (ofHead_no a k g m s q w3 E3).mono ?_
  rintro ev w4 ⟨rfl, hb4⟩
  have hb4 := hb3.trans (hb4.mono hb3.size)
  have E4 := E0.below hb4
  clear q
  clear r0 r1 r2 r3
  unfold errV
  go_wp2_with fail
  refine (toAddr_of b d1 d2 w4).mono ?_
  rintro ev w5 ⟨rfl, hb5⟩
  have hb5 := hb4.trans (hb5.mono hb4.size)
  have E5 := E0.below hb5
  go_wp2
  go_ret
  exact ⟨rfl, ((Below.refl _ _).alloc (Nat.le_refl _) _).trans ((hb5).mono (by simp))⟩
set_option maxHeartbeats 4000000 in
set_option maxRecDepth 100000 in
theorem twice_nny (a : Nat → Addr) (n b k g m s : Int) (c : n < -2305843009213693952 ∨ 2305843009213693952 ≤ n) (b0 : -9223372036854775808 ≤ b) (b1 : b < 9223372036854775808) (d : b < 0 ∨ 1099511627776 < b) (k0 : 0 ≤ k) (k1 : k ≤ 255) (g0 : 0 ≤ g) (g1 : g ≤ 15) (m0 : 0 ≤ m) (m1 : m ≤ 1) (s0 : 0 ≤ s) (s1 : s ≤ 4096) (w : World) (E : WErr a w) :
    Calls Tryd.prog 7 #[.int .i64 n, .int .i64 b, .agg #[.int .i64 k, .int .i64 g, .int .i64 m, .int .i64 s]] w fun ev w' => ev = .returned (.bool true) ∧ Below w.heap.size w w' := by
  have E0 : WErr a (w.alloc (.cells #[.int .i64 k, .int .i64 g, .int .i64 m, .int .i64 s] 43)) := E.below ((Below.refl _ _).alloc (Nat.le_refl _) _)
  go_enter Tryd.func7, Tryd.ntmps7
  go_wp2_with fail
  refine (five_any _).mono ?_
  rintro ev w1 ⟨rfl, hb1⟩
  have E1 := E0.below hb1
  go_wp2_with fail
  refine (ofInt_no a n c w1 E1).mono ?_
  rintro ev w2 ⟨rfl, hb2⟩
  have hb2 := hb1.trans (hb2.mono hb1.size)
  have E2 := E0.below hb2
  go_wp2_with fail
  refine (ofAddr_no a b b0 b1 d w2 E2).mono ?_
  rintro ev w3 ⟨rfl, hb3⟩
  have hb3 := hb2.trans (hb3.mono hb2.size)
  have E3 := E0.below hb3
  obtain ⟨r0, r1, r2, r3, _⟩ := head_block ((hb3.block w.heap.size (by simp)).trans (heap_alloc_new w _))
  go_wp2_with fail
  refine (ofHead_ok k g m s k0 k1 g0 g1 m0 m1 s0 s1 w3).mono ?_
  rintro ev w4 ⟨rfl, hb4⟩
  have hb4 := hb3.trans (hb4.mono hb3.size)
  have E4 := E0.below hb4
  clear r0 r1 r2 r3
  unfold errV
  go_wp2_with fail
  refine (toHead_of k g m s k0 k1 g0 g1 m0 m1 s0 s1 w4).mono ?_
  rintro ev w5 ⟨rfl, hb5⟩
  have hb5 := hb4.trans (hb5.mono hb4.size)
  have E5 := E0.below hb5
  obtain ⟨r0, r1, r2, r3, _⟩ := head_block ((hb5.block w.heap.size (by simp)).trans (heap_alloc_new w _))
  have hlt : w.heap.size < w5.heap.size := by have := hb5.size; simp at this; omega
  go_wp2
  go_ret
  exact ⟨rfl, ((Below.refl _ _).alloc (Nat.le_refl _) _).trans ((hb5.alloc hb5.size _).mono (by simp))⟩
set_option maxHeartbeats 4000000 in
set_option maxRecDepth 100000 in
theorem twice_nnn (a : Nat → Addr) (n b k g m s : Int) (c : n < -2305843009213693952 ∨ 2305843009213693952 ≤ n) (b0 : -9223372036854775808 ≤ b) (b1 : b < 9223372036854775808) (d : b < 0 ∨ 1099511627776 < b) (q : ¬ (0 ≤ k ∧ k ≤ 255 ∧ 0 ≤ g ∧ g ≤ 15 ∧ 0 ≤ m ∧ m ≤ 1 ∧ 0 ≤ s ∧ s ≤ 4096)) (w : World) (E : WErr a w) :
    Calls Tryd.prog 7 #[.int .i64 n, .int .i64 b, .agg #[.int .i64 k, .int .i64 g, .int .i64 m, .int .i64 s]] w fun ev w' => ev = .returned (.bool true) ∧ Below w.heap.size w w' := by
  have E0 : WErr a (w.alloc (.cells #[.int .i64 k, .int .i64 g, .int .i64 m, .int .i64 s] 43)) := E.below ((Below.refl _ _).alloc (Nat.le_refl _) _)
  go_enter Tryd.func7, Tryd.ntmps7
  go_wp2_with fail
  refine (five_any _).mono ?_
  rintro ev w1 ⟨rfl, hb1⟩
  have E1 := E0.below hb1
  go_wp2_with fail
  refine (ofInt_no a n c w1 E1).mono ?_
  rintro ev w2 ⟨rfl, hb2⟩
  have hb2 := hb1.trans (hb2.mono hb1.size)
  have E2 := E0.below hb2
  go_wp2_with fail
  refine (ofAddr_no a b b0 b1 d w2 E2).mono ?_
  rintro ev w3 ⟨rfl, hb3⟩
  have hb3 := hb2.trans (hb3.mono hb2.size)
  have E3 := E0.below hb3
  obtain ⟨r0, r1, r2, r3, _⟩ := head_block ((hb3.block w.heap.size (by simp)).trans (heap_alloc_new w _))
  go_wp2_with fail
  refine (ofHead_no a k g m s q w3 E3).mono ?_
  rintro ev w4 ⟨rfl, hb4⟩
  have hb4 := hb3.trans (hb4.mono hb3.size)
  have E4 := E0.below hb4
  clear q
  clear r0 r1 r2 r3
  unfold errV
  go_wp2
  go_ret
  exact ⟨rfl, ((Below.refl _ _).alloc (Nat.le_refl _) _).trans ((hb4).mono (by simp))⟩

theorem wordTwice_any (a : Nat → Addr) (n b k g m s : Int) (b0 : -9223372036854775808 ≤ b) (b1 : b < 9223372036854775808) (w : World) (E : WErr a w) :
    Calls Tryd.prog 7 #[.int .i64 n, .int .i64 b, .agg #[.int .i64 k, .int .i64 g, .int .i64 m, .int .i64 s]] w fun ev w' => ev = .returned (.bool true) ∧ Below w.heap.size w w' := by
  by_cases c : n < -2305843009213693952 ∨ 2305843009213693952 ≤ n
  · by_cases d : b < 0 ∨ 1099511627776 < b
    · by_cases q : 0 ≤ k ∧ k ≤ 255 ∧ 0 ≤ g ∧ g ≤ 15 ∧ 0 ≤ m ∧ m ≤ 1 ∧ 0 ≤ s ∧ s ≤ 4096
      · obtain ⟨k0, k1, g0, g1, m0, m1, s0, s1⟩ := q
        exact twice_nny a n b k g m s c b0 b1 d k0 k1 g0 g1 m0 m1 s0 s1 w E
      · exact twice_nnn a n b k g m s c b0 b1 d q w E
    · by_cases q : 0 ≤ k ∧ k ≤ 255 ∧ 0 ≤ g ∧ g ≤ 15 ∧ 0 ≤ m ∧ m ≤ 1 ∧ 0 ≤ s ∧ s ≤ 4096
      · obtain ⟨k0, k1, g0, g1, m0, m1, s0, s1⟩ := q
        exact twice_nyy a n b k g m s c (by omega) (by omega) k0 k1 g0 g1 m0 m1 s0 s1 w E
      · exact twice_nyn a n b k g m s c (by omega) (by omega) q w E
  · by_cases d : b < 0 ∨ 1099511627776 < b
    · by_cases q : 0 ≤ k ∧ k ≤ 255 ∧ 0 ≤ g ∧ g ≤ 15 ∧ 0 ≤ m ∧ m ≤ 1 ∧ 0 ≤ s ∧ s ≤ 4096
      · obtain ⟨k0, k1, g0, g1, m0, m1, s0, s1⟩ := q
        exact twice_yny a n b k g m s (by omega) (by omega) b0 b1 d k0 k1 g0 g1 m0 m1 s0 s1 w E
      · exact twice_ynn a n b k g m s (by omega) (by omega) b0 b1 d q w E
    · by_cases q : 0 ≤ k ∧ k ≤ 255 ∧ 0 ≤ g ∧ g ≤ 15 ∧ 0 ≤ m ∧ m ≤ 1 ∧ 0 ≤ s ∧ s ≤ 4096
      · obtain ⟨k0, k1, g0, g1, m0, m1, s0, s1⟩ := q
        exact twice_yyy a n b k g m s (by omega) (by omega) (by omega) (by omega) k0 k1 g0 g1 m0 m1 s0 s1 w E
      · exact twice_yyn a n b k g m s (by omega) (by omega) (by omega) (by omega) q w E
end Go.Proofs.YtlfhjgiodoigbaaDoor
