/- The laws WordInts, WordAddrs, WordHeads, WordTwice by walks. -/
import Derived.Test.YtlfhjgiodoigbaaDoorWordC
namespace Go.Proofs.YtlfhjgiodoigbaaDoor
open Go.RowKit

set_option maxHeartbeats 4000000 in
theorem wordInts_any (a : Nat → Addr) (n x : Int) (h0 : 0 ≤ x) (h1 : x < 18446744073709551616) (w : World) (E : Errs a w) :
    Calls Tryd.prog 3 #[.int .i64 n, .int .u64 x] w fun ev w' => ev = .returned (.bool true) ∧ Below w.heap.size w w' := by
  by_cases c : n < -2305843009213693952 ∨ 2305843009213693952 ≤ n
  · go_enter Tryd.func3, Tryd.ntmps3
    go_wp2_with fail
    refine (five_any w).mono ?_
    rintro ev w1 ⟨rfl, hb1⟩
    have E1 := E.below hb1
    go_wp2_with fail
    refine (ofInt_no a n c w1 E1.we).mono ?_
    rintro ev w2 ⟨rfl, hb2⟩
    have hb2 := hb1.trans (hb2.mono hb1.size)
    have E2 := E.below hb2
    go_wp2_with fail
    refine (kind_any x h0 h1 w2).mono ?_
    rintro ev w' ⟨rfl, h'⟩
    rw [h']
    clear h' w'
    go_wp2_with fail
    refine (isSmall_no n c w2).mono ?_
    rintro ev w' ⟨rfl, h'⟩
    rw [h']
    clear h' w'
    go_wp2_with fail
    refine (coded_any a 1 (by decide) w2 E2).mono ?_
    rintro ev w3 ⟨rfl, hb3⟩
    have hb3 := hb2.trans (hb3.mono hb2.size)
    have E3 := E.below hb3
    go_wp2_with fail
    by_cases d : x % 4 = 1
    · refine (toInt_ok x h0 h1 d w3).mono ?_
      rintro ev w4 ⟨rfl, hb4⟩
      have hb4 := hb3.trans (hb4.mono hb3.size)
      have E4 := E.below hb4
      go_wp2_with fail
      refine (intOf_any x w4).mono ?_
      rintro ev w' ⟨rfl, h'⟩
      rw [h']
      clear h' w'
      go_wp2
      go_ret
      exact ⟨rfl, hb4⟩
    · refine (toInt_no a x d w3 E3.we).mono ?_
      rintro ev w4 ⟨rfl, hb4⟩
      have hb4 := hb3.trans (hb4.mono hb3.size)
      have E4 := E.below hb4
      go_wp2_with fail
      refine (coded_any a 2 (by decide) w4 E4).mono ?_
      rintro ev w5 ⟨rfl, hb5⟩
      have hb5 := hb4.trans (hb5.mono hb4.size)
      have E5 := E.below hb5
      go_wp2
      go_ret
      exact ⟨rfl, hb5⟩
  · have c1 : -2305843009213693952 ≤ n := by omega
    have c2 : n < 2305843009213693952 := by omega
    clear c
    go_enter Tryd.func3, Tryd.ntmps3
    go_wp2_with fail
    refine (five_any w).mono ?_
    rintro ev w1 ⟨rfl, hb1⟩
    have E1 := E.below hb1
    go_wp2_with fail
    refine (ofInt_ok n c1 c2 w1).mono ?_
    rintro ev w2 ⟨rfl, hb2⟩
    have hb2 := hb1.trans (hb2.mono hb1.size)
    have E2 := E.below hb2
    go_wp2_with fail
    refine (kind_any x h0 h1 w2).mono ?_
    rintro ev w' ⟨rfl, h'⟩
    rw [h']
    clear h' w'
    go_wp2_with fail
    refine (isSmall_ok n c1 c2 w2).mono ?_
    rintro ev w' ⟨rfl, h'⟩
    rw [h']
    clear h' w'
    go_wp2_with fail
    refine (intWord_any n w2).mono ?_
    rintro ev w' ⟨rfl, h'⟩
    rw [h']
    clear h' w'
    go_wp2_with fail
    by_cases d : x % 4 = 1
    · refine (toInt_ok x h0 h1 d w2).mono ?_
      rintro ev w3 ⟨rfl, hb3⟩
      have hb3 := hb2.trans (hb3.mono hb2.size)
      have E3 := E.below hb3
      go_wp2_with fail
      refine (intOf_any x w3).mono ?_
      rintro ev w' ⟨rfl, h'⟩
      rw [h']
      clear h' w'
      go_wp2
      go_ret
      exact ⟨rfl, hb3⟩
    · refine (toInt_no a x d w2 E2.we).mono ?_
      rintro ev w3 ⟨rfl, hb3⟩
      have hb3 := hb2.trans (hb3.mono hb2.size)
      have E3 := E.below hb3
      go_wp2_with fail
      refine (coded_any a 2 (by decide) w3 E3).mono ?_
      rintro ev w4 ⟨rfl, hb4⟩
      have hb4 := hb3.trans (hb4.mono hb3.size)
      have E4 := E.below hb4
      go_wp2
      go_ret
      exact ⟨rfl, hb4⟩

set_option maxHeartbeats 4000000 in
theorem wordAddrs_any (a : Nat → Addr) (n x : Int) (n0 : -9223372036854775808 ≤ n) (n1 : n < 9223372036854775808) (h0 : 0 ≤ x) (h1 : x < 18446744073709551616) (w : World) (E : Errs a w) :
    Calls Tryd.prog 4 #[.int .i64 n, .int .u64 x] w fun ev w' => ev = .returned (.bool true) ∧ Below w.heap.size w w' := by
  by_cases c : n < 0 ∨ 1099511627776 < n
  · have c3 : n < 0 ∨ 2 < n := by omega
    go_enter Tryd.func4, Tryd.ntmps4
    go_wp2_with fail
    refine (five_any w).mono ?_
    rintro ev w1 ⟨rfl, hb1⟩
    have E1 := E.below hb1
    go_wp2_with fail
    refine (ofAddr_no a n n0 n1 c w1 E1.we).mono ?_
    rintro ev w2 ⟨rfl, hb2⟩
    have hb2 := hb1.trans (hb2.mono hb1.size)
    have E2 := E.below hb2
    go_wp2_with fail
    refine (ofConst_no a n c3 w2 E2.we).mono ?_
    rintro ev w3 ⟨rfl, hb3⟩
    have hb3 := hb2.trans (hb3.mono hb2.size)
    have E3 := E.below hb3
    by_cases e : n < 0
    · clear c c3
      go_wp2_with fail
      refine (coded_any a 1 (by decide) w3 E3).mono ?_
      rintro ev w4 ⟨rfl, hb4⟩
      have hb4 := hb3.trans (hb4.mono hb3.size)
      have E4 := E.below hb4
      go_wp2_with fail
      refine (coded_any a 1 (by decide) w4 E4).mono ?_
      rintro ev w5 ⟨rfl, hb5⟩
      have hb5 := hb4.trans (hb5.mono hb4.size)
      have E5 := E.below hb5
      go_wp2_with fail
      by_cases d : x % 4 = 0 ∧ 4 ≤ x ∧ x / 4 - 1 ≤ 1099511627776
      · obtain ⟨d0, d1, d2⟩ := d
        refine (toAddr_ok x d0 d1 d2 w5).mono ?_
        rintro ev w6 ⟨rfl, hb6⟩
        have hb6 := hb5.trans (hb6.mono hb5.size)
        have E6 := E.below hb6
        have dz : (x == 0) = false := by rw [beq_eq_false_iff_ne]; omega
        go_wp2
        go_ret
        exact ⟨rfl, hb6⟩
      · refine (toAddr_no a x h0 h1 d w5 E5.we).mono ?_
        rintro ev w6 ⟨rfl, hb6⟩
        have hb6 := hb5.trans (hb6.mono hb5.size)
        have E6 := E.below hb6
        by_cases d0 : x % 4 = 0
        · by_cases d1 : 4 ≤ x
          · have f : ¬ x / 4 - 1 ≤ 1099511627776 := by omega
            clear d
            go_wp2_with fail
            refine (coded_any a 2 (by decide) w6 E6).mono ?_
            rintro ev w7 ⟨rfl, hb7⟩
            have hb7 := hb6.trans (hb7.mono hb6.size)
            have E7 := E.below hb7
            go_wp2
            go_ret
            exact ⟨rfl, hb7⟩
          · obtain rfl : x = 0 := by omega
            clear d d0 d1
            go_wp2_with fail
            refine (coded_any a 2 (by decide) w6 E6).mono ?_
            rintro ev w7 ⟨rfl, hb7⟩
            have hb7 := hb6.trans (hb7.mono hb6.size)
            have E7 := E.below hb7
            go_wp2
            go_ret
            exact ⟨rfl, hb7⟩
        · clear d
          go_wp2_with fail
          refine (coded_any a 2 (by decide) w6 E6).mono ?_
          rintro ev w7 ⟨rfl, hb7⟩
          have hb7 := hb6.trans (hb7.mono hb6.size)
          have E7 := E.below hb7
          go_wp2
          go_ret
          exact ⟨rfl, hb7⟩
    · have f : 1099511627776 < n := by omega
      clear c c3
      go_wp2_with fail
      refine (coded_any a 1 (by decide) w3 E3).mono ?_
      rintro ev w4 ⟨rfl, hb4⟩
      have hb4 := hb3.trans (hb4.mono hb3.size)
      have E4 := E.below hb4
      go_wp2_with fail
      refine (coded_any a 1 (by decide) w4 E4).mono ?_
      rintro ev w5 ⟨rfl, hb5⟩
      have hb5 := hb4.trans (hb5.mono hb4.size)
      have E5 := E.below hb5
      go_wp2_with fail
      by_cases d : x % 4 = 0 ∧ 4 ≤ x ∧ x / 4 - 1 ≤ 1099511627776
      · obtain ⟨d0, d1, d2⟩ := d
        refine (toAddr_ok x d0 d1 d2 w5).mono ?_
        rintro ev w6 ⟨rfl, hb6⟩
        have hb6 := hb5.trans (hb6.mono hb5.size)
        have E6 := E.below hb6
        have dz : (x == 0) = false := by rw [beq_eq_false_iff_ne]; omega
        go_wp2
        go_ret
        exact ⟨rfl, hb6⟩
      · refine (toAddr_no a x h0 h1 d w5 E5.we).mono ?_
        rintro ev w6 ⟨rfl, hb6⟩
        have hb6 := hb5.trans (hb6.mono hb5.size)
        have E6 := E.below hb6
        by_cases d0 : x % 4 = 0
        · by_cases d1 : 4 ≤ x
          · have f : ¬ x / 4 - 1 ≤ 1099511627776 := by omega
            clear d
            go_wp2_with fail
            refine (coded_any a 2 (by decide) w6 E6).mono ?_
            rintro ev w7 ⟨rfl, hb7⟩
            have hb7 := hb6.trans (hb7.mono hb6.size)
            have E7 := E.below hb7
            go_wp2
            go_ret
            exact ⟨rfl, hb7⟩
          · obtain rfl : x = 0 := by omega
            clear d d0 d1
            go_wp2_with fail
            refine (coded_any a 2 (by decide) w6 E6).mono ?_
            rintro ev w7 ⟨rfl, hb7⟩
            have hb7 := hb6.trans (hb7.mono hb6.size)
            have E7 := E.below hb7
            go_wp2
            go_ret
            exact ⟨rfl, hb7⟩
        · clear d
          go_wp2_with fail
          refine (coded_any a 2 (by decide) w6 E6).mono ?_
          rintro ev w7 ⟨rfl, hb7⟩
          have hb7 := hb6.trans (hb7.mono hb6.size)
          have E7 := E.below hb7
          go_wp2
          go_ret
          exact ⟨rfl, hb7⟩
  · have c1 : 0 ≤ n := by omega
    have c2 : n ≤ 1099511627776 := by omega
    clear c
    by_cases e : n ≤ 2
    · clear n0 n1
      go_enter Tryd.func4, Tryd.ntmps4
      go_wp2_with fail
      refine (five_any w).mono ?_
      rintro ev w1 ⟨rfl, hb1⟩
      have E1 := E.below hb1
      go_wp2_with fail
      refine (ofAddr_ok n c1 c2 w1).mono ?_
      rintro ev w2 ⟨rfl, hb2⟩
      have hb2 := hb1.trans (hb2.mono hb1.size)
      have E2 := E.below hb2
      go_wp2_with fail
      refine (ofConst_ok n c1 e w2).mono ?_
      rintro ev w3 ⟨rfl, hb3⟩
      have hb3 := hb2.trans (hb3.mono hb2.size)
      have E3 := E.below hb3
      go_wp2_with fail
      refine (addrWord_any n c1 c2 w3).mono ?_
      rintro ev w' ⟨rfl, h'⟩
      rw [h']
      clear h' w'
      go_wp2_with fail
      refine (constWord_any n c1 e w3).mono ?_
      rintro ev w' ⟨rfl, h'⟩
      rw [h']
      clear h' w'
      go_wp2_with fail
      by_cases d : x % 4 = 0 ∧ 4 ≤ x ∧ x / 4 - 1 ≤ 1099511627776
      · obtain ⟨d0, d1, d2⟩ := d
        refine (toAddr_ok x d0 d1 d2 w3).mono ?_
        rintro ev w4 ⟨rfl, hb4⟩
        have hb4 := hb3.trans (hb4.mono hb3.size)
        have E4 := E.below hb4
        have dz : (x == 0) = false := by rw [beq_eq_false_iff_ne]; omega
        go_wp2
        go_ret
        exact ⟨rfl, hb4⟩
      · refine (toAddr_no a x h0 h1 d w3 E3.we).mono ?_
        rintro ev w4 ⟨rfl, hb4⟩
        have hb4 := hb3.trans (hb4.mono hb3.size)
        have E4 := E.below hb4
        by_cases d0 : x % 4 = 0
        · by_cases d1 : 4 ≤ x
          · have f : ¬ x / 4 - 1 ≤ 1099511627776 := by omega
            clear d
            go_wp2_with fail
            refine (coded_any a 2 (by decide) w4 E4).mono ?_
            rintro ev w5 ⟨rfl, hb5⟩
            have hb5 := hb4.trans (hb5.mono hb4.size)
            have E5 := E.below hb5
            go_wp2
            go_ret
            exact ⟨rfl, hb5⟩
          · obtain rfl : x = 0 := by omega
            clear d d0 d1
            go_wp2_with fail
            refine (coded_any a 2 (by decide) w4 E4).mono ?_
            rintro ev w5 ⟨rfl, hb5⟩
            have hb5 := hb4.trans (hb5.mono hb4.size)
            have E5 := E.below hb5
            go_wp2
            go_ret
            exact ⟨rfl, hb5⟩
        · clear d
          go_wp2_with fail
          refine (coded_any a 2 (by decide) w4 E4).mono ?_
          rintro ev w5 ⟨rfl, hb5⟩
          have hb5 := hb4.trans (hb5.mono hb4.size)
          have E5 := E.below hb5
          go_wp2
          go_ret
          exact ⟨rfl, hb5⟩
    · clear n0 n1
      go_enter Tryd.func4, Tryd.ntmps4
      go_wp2_with fail
      refine (five_any w).mono ?_
      rintro ev w1 ⟨rfl, hb1⟩
      have E1 := E.below hb1
      go_wp2_with fail
      refine (ofAddr_ok n c1 c2 w1).mono ?_
      rintro ev w2 ⟨rfl, hb2⟩
      have hb2 := hb1.trans (hb2.mono hb1.size)
      have E2 := E.below hb2
      go_wp2_with fail
      refine (ofConst_no a n (by omega) w2 E2.we).mono ?_
      rintro ev w3 ⟨rfl, hb3⟩
      have hb3 := hb2.trans (hb3.mono hb2.size)
      have E3 := E.below hb3
      go_wp2_with fail
      refine (addrWord_any n c1 c2 w3).mono ?_
      rintro ev w' ⟨rfl, h'⟩
      rw [h']
      clear h' w'
      go_wp2_with fail
      refine (coded_any a 1 (by decide) w3 E3).mono ?_
      rintro ev w4 ⟨rfl, hb4⟩
      have hb4 := hb3.trans (hb4.mono hb3.size)
      have E4 := E.below hb4
      go_wp2_with fail
      by_cases d : x % 4 = 0 ∧ 4 ≤ x ∧ x / 4 - 1 ≤ 1099511627776
      · obtain ⟨d0, d1, d2⟩ := d
        refine (toAddr_ok x d0 d1 d2 w4).mono ?_
        rintro ev w5 ⟨rfl, hb5⟩
        have hb5 := hb4.trans (hb5.mono hb4.size)
        have E5 := E.below hb5
        have dz : (x == 0) = false := by rw [beq_eq_false_iff_ne]; omega
        go_wp2
        go_ret
        exact ⟨rfl, hb5⟩
      · refine (toAddr_no a x h0 h1 d w4 E4.we).mono ?_
        rintro ev w5 ⟨rfl, hb5⟩
        have hb5 := hb4.trans (hb5.mono hb4.size)
        have E5 := E.below hb5
        by_cases d0 : x % 4 = 0
        · by_cases d1 : 4 ≤ x
          · have f : ¬ x / 4 - 1 ≤ 1099511627776 := by omega
            clear d
            go_wp2_with fail
            refine (coded_any a 2 (by decide) w5 E5).mono ?_
            rintro ev w6 ⟨rfl, hb6⟩
            have hb6 := hb5.trans (hb6.mono hb5.size)
            have E6 := E.below hb6
            go_wp2
            go_ret
            exact ⟨rfl, hb6⟩
          · obtain rfl : x = 0 := by omega
            clear d d0 d1
            go_wp2_with fail
            refine (coded_any a 2 (by decide) w5 E5).mono ?_
            rintro ev w6 ⟨rfl, hb6⟩
            have hb6 := hb5.trans (hb6.mono hb5.size)
            have E6 := E.below hb6
            go_wp2
            go_ret
            exact ⟨rfl, hb6⟩
        · clear d
          go_wp2_with fail
          refine (coded_any a 2 (by decide) w5 E5).mono ?_
          rintro ev w6 ⟨rfl, hb6⟩
          have hb6 := hb5.trans (hb6.mono hb5.size)
          have E6 := E.below hb6
          go_wp2
          go_ret
          exact ⟨rfl, hb6⟩

set_option maxHeartbeats 4000000 in
set_option maxRecDepth 100000 in
theorem wordHeads_any (a : Nat → Addr) (k g m s x : Int) (h0 : 0 ≤ x) (h1 : x < 18446744073709551616) (w : World) (E : Errs a w) :
    Calls Tryd.prog 5 #[.int .i64 k, .int .i64 g, .int .i64 m, .int .i64 s, .int .u64 x] w fun ev w' => ev = .returned (.bool true) ∧ Below w.heap.size w w' := by
  by_cases c : 0 ≤ k ∧ k ≤ 255 ∧ 0 ≤ g ∧ g ≤ 15 ∧ 0 ≤ m ∧ m ≤ 1 ∧ 0 ≤ s ∧ s ≤ 4096
  · obtain ⟨k0, k1, g0, g1, m0, m1, s0, s1⟩ := c
    go_enter Tryd.func5, Tryd.ntmps5
    go_wp2_with fail
    refine (five_any w).mono ?_
    rintro ev w1 ⟨rfl, hb1⟩
    have E1 := E.below hb1
    go_wp2_with fail
    refine (ofHead_ok k g m s k0 k1 g0 g1 m0 m1 s0 s1 w1).mono ?_
    rintro ev w2 ⟨rfl, hb2⟩
    have hb2 := hb1.trans (hb2.mono hb1.size)
    have E2 := E.below hb2
    go_wp2_with fail
    refine (headWord_any k g m s k0 k1 g0 g1 m0 m1 s0 s1 w2).mono ?_
    rintro ev w' ⟨rfl, h'⟩
    rw [h']
    clear h' w'
    go_wp2_with fail
    by_cases d : x % 4 = 3 ∧ x / 32768 % 2 = 0 ∧ x / 65536 ≤ 4096
    · obtain ⟨d0, d1, d2⟩ := d
      refine (toHead_ok x h0 h1 d0 d1 d2 w2).mono ?_
      rintro ev w3 ⟨rfl, hb3⟩
      have hb3 := hb2.trans (hb3.mono hb2.size)
      have E3 := E.below hb3
      go_wp2_with fail
      refine (headOf_ok x h0 h1 d0 d1 d2 _).mono ?_
      rintro ev w' ⟨rfl, h'⟩
      rw [h']
      clear h' w'
      go_wp2
      go_ret
      exact ⟨rfl, hb3.alloc hb3.size _⟩
    · refine (toHead_no a x h0 h1 d w2 E2.we).mono ?_
      rintro ev w3 ⟨rfl, hb3⟩
      have hb3 := hb2.trans (hb3.mono hb2.size)
      have E3 := E.below hb3
      go_wp2_with fail
      refine (headOf_no x h0 h1 d _).mono ?_
      rintro ev w' ⟨rfl, h'⟩
      rw [h']
      clear h' w'
      go_wp2_with fail
      refine (coded_any a 2 (by decide) _ (E3.below ((Below.refl _ _).alloc (Nat.le_refl _) _))).mono ?_
      rintro ev wz ⟨rfl, hbz⟩
      obtain ⟨r0, r1, r2, r3, _⟩ := head_block ((hbz.block w3.heap.size (by simp)).trans (heap_alloc_new w3 _))
      have hby := (hb3.alloc hb3.size _).trans (hbz.mono (by have := hb3.size; simp; omega))
      clear hbz
      go_wp2
      go_ret
      exact ⟨rfl, hby⟩
  · by_cases q0 : k < 0
    · go_enter Tryd.func5, Tryd.ntmps5
      go_wp2_with fail
      refine (five_any w).mono ?_
      rintro ev w1 ⟨rfl, hb1⟩
      have E1 := E.below hb1
      go_wp2_with fail
      refine (ofHead_no a k g m s c w1 E1.we).mono ?_
      rintro ev w2 ⟨rfl, hb2⟩
      have hb2 := hb1.trans (hb2.mono hb1.size)
      have E2 := E.below hb2
      clear c
      go_wp2_with fail
      refine (coded_any a 1 (by decide) w2 E2).mono ?_
      rintro ev w3 ⟨rfl, hb3⟩
      have hb3 := hb2.trans (hb3.mono hb2.size)
      have E3 := E.below hb3
      go_wp2_with fail
      by_cases d : x % 4 = 3 ∧ x / 32768 % 2 = 0 ∧ x / 65536 ≤ 4096
      · obtain ⟨d0, d1, d2⟩ := d
        refine (toHead_ok x h0 h1 d0 d1 d2 w3).mono ?_
        rintro ev w4 ⟨rfl, hb4⟩
        have hb4 := hb3.trans (hb4.mono hb3.size)
        have E4 := E.below hb4
        go_wp2_with fail
        refine (headOf_ok x h0 h1 d0 d1 d2 _).mono ?_
        rintro ev w' ⟨rfl, h'⟩
        rw [h']
        clear h' w'
        go_wp2
        go_ret
        exact ⟨rfl, hb4.alloc hb4.size _⟩
      · refine (toHead_no a x h0 h1 d w3 E3.we).mono ?_
        rintro ev w4 ⟨rfl, hb4⟩
        have hb4 := hb3.trans (hb4.mono hb3.size)
        have E4 := E.below hb4
        go_wp2_with fail
        refine (headOf_no x h0 h1 d _).mono ?_
        rintro ev w' ⟨rfl, h'⟩
        rw [h']
        clear h' w'
        go_wp2_with fail
        refine (coded_any a 2 (by decide) _ (E4.below ((Below.refl _ _).alloc (Nat.le_refl _) _))).mono ?_
        rintro ev wz ⟨rfl, hbz⟩
        obtain ⟨r0, r1, r2, r3, _⟩ := head_block ((hbz.block w4.heap.size (by simp)).trans (heap_alloc_new w4 _))
        have hby := (hb4.alloc hb4.size _).trans (hbz.mono (by have := hb4.size; simp; omega))
        clear hbz
        go_wp2
        go_ret
        exact ⟨rfl, hby⟩
    replace q0 : 0 ≤ k := by omega
    by_cases q1 : 255 < k
    · go_enter Tryd.func5, Tryd.ntmps5
      go_wp2_with fail
      refine (five_any w).mono ?_
      rintro ev w1 ⟨rfl, hb1⟩
      have E1 := E.below hb1
      go_wp2_with fail
      refine (ofHead_no a k g m s c w1 E1.we).mono ?_
      rintro ev w2 ⟨rfl, hb2⟩
      have hb2 := hb1.trans (hb2.mono hb1.size)
      have E2 := E.below hb2
      clear c
      go_wp2_with fail
      refine (coded_any a 1 (by decide) w2 E2).mono ?_
      rintro ev w3 ⟨rfl, hb3⟩
      have hb3 := hb2.trans (hb3.mono hb2.size)
      have E3 := E.below hb3
      go_wp2_with fail
      by_cases d : x % 4 = 3 ∧ x / 32768 % 2 = 0 ∧ x / 65536 ≤ 4096
      · obtain ⟨d0, d1, d2⟩ := d
        refine (toHead_ok x h0 h1 d0 d1 d2 w3).mono ?_
        rintro ev w4 ⟨rfl, hb4⟩
        have hb4 := hb3.trans (hb4.mono hb3.size)
        have E4 := E.below hb4
        go_wp2_with fail
        refine (headOf_ok x h0 h1 d0 d1 d2 _).mono ?_
        rintro ev w' ⟨rfl, h'⟩
        rw [h']
        clear h' w'
        go_wp2
        go_ret
        exact ⟨rfl, hb4.alloc hb4.size _⟩
      · refine (toHead_no a x h0 h1 d w3 E3.we).mono ?_
        rintro ev w4 ⟨rfl, hb4⟩
        have hb4 := hb3.trans (hb4.mono hb3.size)
        have E4 := E.below hb4
        go_wp2_with fail
        refine (headOf_no x h0 h1 d _).mono ?_
        rintro ev w' ⟨rfl, h'⟩
        rw [h']
        clear h' w'
        go_wp2_with fail
        refine (coded_any a 2 (by decide) _ (E4.below ((Below.refl _ _).alloc (Nat.le_refl _) _))).mono ?_
        rintro ev wz ⟨rfl, hbz⟩
        obtain ⟨r0, r1, r2, r3, _⟩ := head_block ((hbz.block w4.heap.size (by simp)).trans (heap_alloc_new w4 _))
        have hby := (hb4.alloc hb4.size _).trans (hbz.mono (by have := hb4.size; simp; omega))
        clear hbz
        go_wp2
        go_ret
        exact ⟨rfl, hby⟩
    replace q1 : k ≤ 255 := by omega
    by_cases q2 : g < 0
    · go_enter Tryd.func5, Tryd.ntmps5
      go_wp2_with fail
      refine (five_any w).mono ?_
      rintro ev w1 ⟨rfl, hb1⟩
      have E1 := E.below hb1
      go_wp2_with fail
      refine (ofHead_no a k g m s c w1 E1.we).mono ?_
      rintro ev w2 ⟨rfl, hb2⟩
      have hb2 := hb1.trans (hb2.mono hb1.size)
      have E2 := E.below hb2
      clear c
      go_wp2_with fail
      refine (coded_any a 1 (by decide) w2 E2).mono ?_
      rintro ev w3 ⟨rfl, hb3⟩
      have hb3 := hb2.trans (hb3.mono hb2.size)
      have E3 := E.below hb3
      go_wp2_with fail
      by_cases d : x % 4 = 3 ∧ x / 32768 % 2 = 0 ∧ x / 65536 ≤ 4096
      · obtain ⟨d0, d1, d2⟩ := d
        refine (toHead_ok x h0 h1 d0 d1 d2 w3).mono ?_
        rintro ev w4 ⟨rfl, hb4⟩
        have hb4 := hb3.trans (hb4.mono hb3.size)
        have E4 := E.below hb4
        go_wp2_with fail
        refine (headOf_ok x h0 h1 d0 d1 d2 _).mono ?_
        rintro ev w' ⟨rfl, h'⟩
        rw [h']
        clear h' w'
        go_wp2
        go_ret
        exact ⟨rfl, hb4.alloc hb4.size _⟩
      · refine (toHead_no a x h0 h1 d w3 E3.we).mono ?_
        rintro ev w4 ⟨rfl, hb4⟩
        have hb4 := hb3.trans (hb4.mono hb3.size)
        have E4 := E.below hb4
        go_wp2_with fail
        refine (headOf_no x h0 h1 d _).mono ?_
        rintro ev w' ⟨rfl, h'⟩
        rw [h']
        clear h' w'
        go_wp2_with fail
        refine (coded_any a 2 (by decide) _ (E4.below ((Below.refl _ _).alloc (Nat.le_refl _) _))).mono ?_
        rintro ev wz ⟨rfl, hbz⟩
        obtain ⟨r0, r1, r2, r3, _⟩ := head_block ((hbz.block w4.heap.size (by simp)).trans (heap_alloc_new w4 _))
        have hby := (hb4.alloc hb4.size _).trans (hbz.mono (by have := hb4.size; simp; omega))
        clear hbz
        go_wp2
        go_ret
        exact ⟨rfl, hby⟩
    replace q2 : 0 ≤ g := by omega
    by_cases q3 : 15 < g
    · go_enter Tryd.func5, Tryd.ntmps5
      go_wp2_with fail
      refine (five_any w).mono ?_
      rintro ev w1 ⟨rfl, hb1⟩
      have E1 := E.below hb1
      go_wp2_with fail
      refine (ofHead_no a k g m s c w1 E1.we).mono ?_
      rintro ev w2 ⟨rfl, hb2⟩
      have hb2 := hb1.trans (hb2.mono hb1.size)
      have E2 := E.below hb2
      clear c
      go_wp2_with fail
      refine (coded_any a 1 (by decide) w2 E2).mono ?_
      rintro ev w3 ⟨rfl, hb3⟩
      have hb3 := hb2.trans (hb3.mono hb2.size)
      have E3 := E.below hb3
      go_wp2_with fail
      by_cases d : x % 4 = 3 ∧ x / 32768 % 2 = 0 ∧ x / 65536 ≤ 4096
      · obtain ⟨d0, d1, d2⟩ := d
        refine (toHead_ok x h0 h1 d0 d1 d2 w3).mono ?_
        rintro ev w4 ⟨rfl, hb4⟩
        have hb4 := hb3.trans (hb4.mono hb3.size)
        have E4 := E.below hb4
        go_wp2_with fail
        refine (headOf_ok x h0 h1 d0 d1 d2 _).mono ?_
        rintro ev w' ⟨rfl, h'⟩
        rw [h']
        clear h' w'
        go_wp2
        go_ret
        exact ⟨rfl, hb4.alloc hb4.size _⟩
      · refine (toHead_no a x h0 h1 d w3 E3.we).mono ?_
        rintro ev w4 ⟨rfl, hb4⟩
        have hb4 := hb3.trans (hb4.mono hb3.size)
        have E4 := E.below hb4
        go_wp2_with fail
        refine (headOf_no x h0 h1 d _).mono ?_
        rintro ev w' ⟨rfl, h'⟩
        rw [h']
        clear h' w'
        go_wp2_with fail
        refine (coded_any a 2 (by decide) _ (E4.below ((Below.refl _ _).alloc (Nat.le_refl _) _))).mono ?_
        rintro ev wz ⟨rfl, hbz⟩
        obtain ⟨r0, r1, r2, r3, _⟩ := head_block ((hbz.block w4.heap.size (by simp)).trans (heap_alloc_new w4 _))
        have hby := (hb4.alloc hb4.size _).trans (hbz.mono (by have := hb4.size; simp; omega))
        clear hbz
        go_wp2
        go_ret
        exact ⟨rfl, hby⟩
    replace q3 : g ≤ 15 := by omega
    by_cases q4 : m < 0
    · go_enter Tryd.func5, Tryd.ntmps5
      go_wp2_with fail
      refine (five_any w).mono ?_
      rintro ev w1 ⟨rfl, hb1⟩
      have E1 := E.below hb1
      go_wp2_with fail
      refine (ofHead_no a k g m s c w1 E1.we).mono ?_
      rintro ev w2 ⟨rfl, hb2⟩
      have hb2 := hb1.trans (hb2.mono hb1.size)
      have E2 := E.below hb2
      clear c
      go_wp2_with fail
      refine (coded_any a 1 (by decide) w2 E2).mono ?_
      rintro ev w3 ⟨rfl, hb3⟩
      have hb3 := hb2.trans (hb3.mono hb2.size)
      have E3 := E.below hb3
      go_wp2_with fail
      by_cases d : x % 4 = 3 ∧ x / 32768 % 2 = 0 ∧ x / 65536 ≤ 4096
      · obtain ⟨d0, d1, d2⟩ := d
        refine (toHead_ok x h0 h1 d0 d1 d2 w3).mono ?_
        rintro ev w4 ⟨rfl, hb4⟩
        have hb4 := hb3.trans (hb4.mono hb3.size)
        have E4 := E.below hb4
        go_wp2_with fail
        refine (headOf_ok x h0 h1 d0 d1 d2 _).mono ?_
        rintro ev w' ⟨rfl, h'⟩
        rw [h']
        clear h' w'
        go_wp2
        go_ret
        exact ⟨rfl, hb4.alloc hb4.size _⟩
      · refine (toHead_no a x h0 h1 d w3 E3.we).mono ?_
        rintro ev w4 ⟨rfl, hb4⟩
        have hb4 := hb3.trans (hb4.mono hb3.size)
        have E4 := E.below hb4
        go_wp2_with fail
        refine (headOf_no x h0 h1 d _).mono ?_
        rintro ev w' ⟨rfl, h'⟩
        rw [h']
        clear h' w'
        go_wp2_with fail
        refine (coded_any a 2 (by decide) _ (E4.below ((Below.refl _ _).alloc (Nat.le_refl _) _))).mono ?_
        rintro ev wz ⟨rfl, hbz⟩
        obtain ⟨r0, r1, r2, r3, _⟩ := head_block ((hbz.block w4.heap.size (by simp)).trans (heap_alloc_new w4 _))
        have hby := (hb4.alloc hb4.size _).trans (hbz.mono (by have := hb4.size; simp; omega))
        clear hbz
        go_wp2
        go_ret
        exact ⟨rfl, hby⟩
    replace q4 : 0 ≤ m := by omega
    by_cases q5 : 1 < m
    · go_enter Tryd.func5, Tryd.ntmps5
      go_wp2_with fail
      refine (five_any w).mono ?_
      rintro ev w1 ⟨rfl, hb1⟩
      have E1 := E.below hb1
      go_wp2_with fail
      refine (ofHead_no a k g m s c w1 E1.we).mono ?_
      rintro ev w2 ⟨rfl, hb2⟩
      have hb2 := hb1.trans (hb2.mono hb1.size)
      have E2 := E.below hb2
      clear c
      go_wp2_with fail
      refine (coded_any a 1 (by decide) w2 E2).mono ?_
      rintro ev w3 ⟨rfl, hb3⟩
      have hb3 := hb2.trans (hb3.mono hb2.size)
      have E3 := E.below hb3
      go_wp2_with fail
      by_cases d : x % 4 = 3 ∧ x / 32768 % 2 = 0 ∧ x / 65536 ≤ 4096
      · obtain ⟨d0, d1, d2⟩ := d
        refine (toHead_ok x h0 h1 d0 d1 d2 w3).mono ?_
        rintro ev w4 ⟨rfl, hb4⟩
        have hb4 := hb3.trans (hb4.mono hb3.size)
        have E4 := E.below hb4
        go_wp2_with fail
        refine (headOf_ok x h0 h1 d0 d1 d2 _).mono ?_
        rintro ev w' ⟨rfl, h'⟩
        rw [h']
        clear h' w'
        go_wp2
        go_ret
        exact ⟨rfl, hb4.alloc hb4.size _⟩
      · refine (toHead_no a x h0 h1 d w3 E3.we).mono ?_
        rintro ev w4 ⟨rfl, hb4⟩
        have hb4 := hb3.trans (hb4.mono hb3.size)
        have E4 := E.below hb4
        go_wp2_with fail
        refine (headOf_no x h0 h1 d _).mono ?_
        rintro ev w' ⟨rfl, h'⟩
        rw [h']
        clear h' w'
        go_wp2_with fail
        refine (coded_any a 2 (by decide) _ (E4.below ((Below.refl _ _).alloc (Nat.le_refl _) _))).mono ?_
        rintro ev wz ⟨rfl, hbz⟩
        obtain ⟨r0, r1, r2, r3, _⟩ := head_block ((hbz.block w4.heap.size (by simp)).trans (heap_alloc_new w4 _))
        have hby := (hb4.alloc hb4.size _).trans (hbz.mono (by have := hb4.size; simp; omega))
        clear hbz
        go_wp2
        go_ret
        exact ⟨rfl, hby⟩
    replace q5 : m ≤ 1 := by omega
    by_cases q6 : s < 0
    · go_enter Tryd.func5, Tryd.ntmps5
      go_wp2_with fail
      refine (five_any w).mono ?_
      rintro ev w1 ⟨rfl, hb1⟩
      have E1 := E.below hb1
      go_wp2_with fail
      refine (ofHead_no a k g m s c w1 E1.we).mono ?_
      rintro ev w2 ⟨rfl, hb2⟩
      have hb2 := hb1.trans (hb2.mono hb1.size)
      have E2 := E.below hb2
      clear c
      go_wp2_with fail
      refine (coded_any a 1 (by decide) w2 E2).mono ?_
      rintro ev w3 ⟨rfl, hb3⟩
      have hb3 := hb2.trans (hb3.mono hb2.size)
      have E3 := E.below hb3
      go_wp2_with fail
      by_cases d : x % 4 = 3 ∧ x / 32768 % 2 = 0 ∧ x / 65536 ≤ 4096
      · obtain ⟨d0, d1, d2⟩ := d
        refine (toHead_ok x h0 h1 d0 d1 d2 w3).mono ?_
        rintro ev w4 ⟨rfl, hb4⟩
        have hb4 := hb3.trans (hb4.mono hb3.size)
        have E4 := E.below hb4
        go_wp2_with fail
        refine (headOf_ok x h0 h1 d0 d1 d2 _).mono ?_
        rintro ev w' ⟨rfl, h'⟩
        rw [h']
        clear h' w'
        go_wp2
        go_ret
        exact ⟨rfl, hb4.alloc hb4.size _⟩
      · refine (toHead_no a x h0 h1 d w3 E3.we).mono ?_
        rintro ev w4 ⟨rfl, hb4⟩
        have hb4 := hb3.trans (hb4.mono hb3.size)
        have E4 := E.below hb4
        go_wp2_with fail
        refine (headOf_no x h0 h1 d _).mono ?_
        rintro ev w' ⟨rfl, h'⟩
        rw [h']
        clear h' w'
        go_wp2_with fail
        refine (coded_any a 2 (by decide) _ (E4.below ((Below.refl _ _).alloc (Nat.le_refl _) _))).mono ?_
        rintro ev wz ⟨rfl, hbz⟩
        obtain ⟨r0, r1, r2, r3, _⟩ := head_block ((hbz.block w4.heap.size (by simp)).trans (heap_alloc_new w4 _))
        have hby := (hb4.alloc hb4.size _).trans (hbz.mono (by have := hb4.size; simp; omega))
        clear hbz
        go_wp2
        go_ret
        exact ⟨rfl, hby⟩
    replace q6 : 0 ≤ s := by omega
    have q7 : 4096 < s := by omega
    go_enter Tryd.func5, Tryd.ntmps5
    go_wp2_with fail
    refine (five_any w).mono ?_
    rintro ev w1 ⟨rfl, hb1⟩
    have E1 := E.below hb1
    go_wp2_with fail
    refine (ofHead_no a k g m s c w1 E1.we).mono ?_
    rintro ev w2 ⟨rfl, hb2⟩
    have hb2 := hb1.trans (hb2.mono hb1.size)
    have E2 := E.below hb2
    clear c
    go_wp2_with fail
    refine (coded_any a 1 (by decide) w2 E2).mono ?_
    rintro ev w3 ⟨rfl, hb3⟩
    have hb3 := hb2.trans (hb3.mono hb2.size)
    have E3 := E.below hb3
    go_wp2_with fail
    by_cases d : x % 4 = 3 ∧ x / 32768 % 2 = 0 ∧ x / 65536 ≤ 4096
    · obtain ⟨d0, d1, d2⟩ := d
      refine (toHead_ok x h0 h1 d0 d1 d2 w3).mono ?_
      rintro ev w4 ⟨rfl, hb4⟩
      have hb4 := hb3.trans (hb4.mono hb3.size)
      have E4 := E.below hb4
      go_wp2_with fail
      refine (headOf_ok x h0 h1 d0 d1 d2 _).mono ?_
      rintro ev w' ⟨rfl, h'⟩
      rw [h']
      clear h' w'
      go_wp2
      go_ret
      exact ⟨rfl, hb4.alloc hb4.size _⟩
    · refine (toHead_no a x h0 h1 d w3 E3.we).mono ?_
      rintro ev w4 ⟨rfl, hb4⟩
      have hb4 := hb3.trans (hb4.mono hb3.size)
      have E4 := E.below hb4
      go_wp2_with fail
      refine (headOf_no x h0 h1 d _).mono ?_
      rintro ev w' ⟨rfl, h'⟩
      rw [h']
      clear h' w'
      go_wp2_with fail
      refine (coded_any a 2 (by decide) _ (E4.below ((Below.refl _ _).alloc (Nat.le_refl _) _))).mono ?_
      rintro ev wz ⟨rfl, hbz⟩
      obtain ⟨r0, r1, r2, r3, _⟩ := head_block ((hbz.block w4.heap.size (by simp)).trans (heap_alloc_new w4 _))
      have hby := (hb4.alloc hb4.size _).trans (hbz.mono (by have := hb4.size; simp; omega))
      clear hbz
      go_wp2
      go_ret
      exact ⟨rfl, hby⟩
end Go.Proofs.YtlfhjgiodoigbaaDoor
