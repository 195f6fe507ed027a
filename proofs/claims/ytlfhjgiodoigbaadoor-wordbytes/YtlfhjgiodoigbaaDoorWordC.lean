/- The Word laws: their helpers, and the laws of ints, addresses, headers by walks. -/
import Derived.Test.YtlfhjgiodoigbaaDoorWordB
namespace Go.Proofs.YtlfhjgiodoigbaaDoor
open Go.RowKit

theorem coded_any (a : Nat → Addr) (k : Nat) (hk : k < 7) (w : World) (E : Errs a w) :
    Calls Tryd.prog 12 #[errV a k, .int .i64 (k + 1)] w fun ev w' => ev = .returned (.bool true) ∧ Below w.heap.size w w' := by
  have h := code_sent a k hk w E
  go_enter Tryd.func12, Tryd.ntmps12
  unfold errV
  go_wp2_with fail
  refine h.mono ?_
  rintro ev w1 ⟨rfl, hb⟩
  go_wp2
  go_ret
  exact ⟨rfl, hb⟩
theorem five_any (w : World) : Calls Tryd.prog 8 #[] w fun ev w' => ev = .returned (.bool true) ∧ Below w.heap.size w w' := by
  have h := ofInt_ok 5 (by decide) (by decide) w
  go_enter Tryd.func8, Tryd.ntmps8
  go_wp2_with fail
  refine h.mono ?_
  rintro ev w1 ⟨rfl, hb⟩
  go_wp2_with fail
  refine (kind_any 21 (by decide) (by decide) w1).mono ?_
  rintro ev w2 ⟨rfl, rfl⟩
  go_wp2
  go_ret
  exact ⟨rfl, hb⟩
theorem isSmall_ok (n : Int) (c1 : -2305843009213693952 ≤ n) (c2 : n < 2305843009213693952) (w : World) :
    Calls Tryd.prog 11 #[.int .i64 n] w fun ev w' => ev = .returned (.bool true) ∧ w' = w := by
  go_enter Tryd.func11, Tryd.ntmps11
  go_wp2
  go_ret
  exact ⟨rfl, rfl⟩
theorem isSmall_no (n : Int) (hn : n < -2305843009213693952 ∨ 2305843009213693952 ≤ n) (w : World) :
    Calls Tryd.prog 11 #[.int .i64 n] w fun ev w' => ev = .returned (.bool false) ∧ w' = w := by
  rcases hn with c | c
  · go_enter Tryd.func11, Tryd.ntmps11
    go_wp2
    go_ret
    exact ⟨rfl, rfl⟩
  · have c1 : -2305843009213693952 ≤ n := by omega
    have c2 : decide (n < 2305843009213693952) = false := decide_eq_false (by omega)
    go_enter Tryd.func11, Tryd.ntmps11
    go_wp2
    go_ret
    rw [← c2]
    exact ⟨rfl, rfl⟩
theorem intWord_any (n : Int) (w : World) :
    Calls Tryd.prog 13 #[.int .i64 n] w fun ev w' => ev = .returned (.int .u64 ((n * 4 + 1) % 18446744073709551616)) ∧ w' = w := by
  have e : IntKind.u64.wrap (IntKind.u64.wrap (IntKind.u64.wrap n * 4) + 1) = (n * 4 + 1) % 18446744073709551616 := by rw [wrap_u64', wrap_u64', wrap_u64']; omega
  go_enter Tryd.func13, Tryd.ntmps13
  go_wp2
  go_ret
  rw [← e]
  exact ⟨rfl, rfl⟩
theorem intOf_any (x : Int) (w : World) :
    Calls Tryd.prog 15 #[.int .u64 x] w fun ev w' => ev = .returned (.int .i64 (wrap64 x / 4)) ∧ w' = w := by
  go_enter Tryd.func15, Tryd.ntmps15
  go_wp2
  go_ret
  exact ⟨rfl, rfl⟩
theorem addrWord_any (n : Int) (c1 : 0 ≤ n) (c2 : n ≤ 1099511627776) (w : World) :
    Calls Tryd.prog 18 #[.int .i64 n] w fun ev w' => ev = .returned (.int .u64 ((n + 1) * 4)) ∧ w' = w := by
  go_enter Tryd.func18, Tryd.ntmps18
  go_wp2
  go_ret
  exact ⟨rfl, rfl⟩
theorem constWord_any (n : Int) (c1 : 0 ≤ n) (c2 : n ≤ 2) (w : World) :
    Calls Tryd.prog 19 #[.int .i64 n] w fun ev w' => ev = .returned (.int .u64 (n * 4 + 2)) ∧ w' = w := by
  go_enter Tryd.func19, Tryd.ntmps19
  go_wp2
  go_ret
  exact ⟨rfl, rfl⟩
theorem headWord_any (k g m s : Int) (k0 : 0 ≤ k) (k1 : k ≤ 255) (g0 : 0 ≤ g) (g1 : g ≤ 15) (m0 : 0 ≤ m) (m1 : m ≤ 1) (s0 : 0 ≤ s) (s1 : s ≤ 4096) (w : World) :
    Calls Tryd.prog 22 #[.int .i64 k, .int .i64 g, .int .i64 m, .int .i64 s] w fun ev w' => ev = .returned (.int .u64 (s * 65536 + m * 16384 + g * 1024 + k * 4 + 3)) ∧ w' = w := by
  go_enter Tryd.func22, Tryd.ntmps22
  go_wp2
  go_ret
  exact ⟨rfl, rfl⟩
theorem headOf_results (tmps : Array Value) (W : World) :
    (results Tryd.f24 tmps).run Tryd.prog W = .ok (.tuple #[tmps[2]?.getD undef, tmps[3]?.getD undef, tmps[4]?.getD undef, tmps[5]?.getD undef, tmps[6]?.getD undef]) W := by
  simp [results, Tryd.results24, go_sem]
theorem headOf_ok (x : Int) (h0 : 0 ≤ x) (h1 : x < 18446744073709551616) (hx : x % 4 = 3) (hy : x / 32768 % 2 = 0) (hz : x / 65536 ≤ 4096) (w : World) :
    Calls Tryd.prog 24 #[.int .u64 x] w fun ev w' => ev = .returned (.tuple #[.int .i64 (x / 4 % 256), .int .i64 (x / 1024 % 16), .int .i64 (x / 16384 % 2), .int .i64 (x / 65536), .bool true]) ∧ w' = w := by
  go_enter Tryd.func24, Tryd.ntmps24
  go_wp2
  refine bodyPost_ret (headOf_results _ _) rfl ?_
  exact ⟨rfl, rfl⟩
theorem headOf_no (x : Int) (h0 : 0 ≤ x) (h1 : x < 18446744073709551616) (hx : ¬ (x % 4 = 3 ∧ x / 32768 % 2 = 0 ∧ x / 65536 ≤ 4096)) (w : World) :
    Calls Tryd.prog 24 #[.int .u64 x] w fun ev w' => ev = .returned (.tuple #[.int .i64 0, .int .i64 0, .int .i64 0, .int .i64 0, .bool false]) ∧ w' = w := by
  by_cases c1 : x % 4 = 3
  rotate_left
  · clear hx
    go_enter Tryd.func24, Tryd.ntmps24
    go_wp2
    refine bodyPost_ret (headOf_results _ _) rfl ?_
    exact ⟨rfl, rfl⟩
  by_cases c2 : x / 32768 % 2 = 0
  rotate_left
  · clear hx
    go_enter Tryd.func24, Tryd.ntmps24
    go_wp2
    refine bodyPost_ret (headOf_results _ _) rfl ?_
    exact ⟨rfl, rfl⟩
  have c3 : ¬ x / 65536 ≤ 4096 := fun h => hx ⟨c1, c2, h⟩
  clear hx
  go_enter Tryd.func24, Tryd.ntmps24
  go_wp2
  refine bodyPost_ret (headOf_results _ _) rfl ?_
  exact ⟨rfl, rfl⟩
end Go.Proofs.YtlfhjgiodoigbaaDoor
