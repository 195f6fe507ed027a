/- The Word laws: their helpers, and the laws of ints, addresses, headers by walks. -/
import Derived.Test.YtbkmgempejckeaaDoorWordB
namespace Go.Proofs.YtbkmgempejckeaaDoor
open Go.RowKit

theorem coded_any (a : Nat → Addr) (k : Nat) (hk : k < 7) (w : World) (E : Errs a w) :
    Calls Tryd.prog 10 #[errV a k, .int .i64 (k + 1)] w fun ev w' => ev = .returned (.bool true) ∧ Below w.heap.size w w' := by
  have h := code_sent a k hk w E
  go_enter Tryd.func10, Tryd.ntmps10
  unfold errV
  go_wp2_with fail
  refine h.mono ?_
  rintro ev w1 ⟨rfl, hb⟩
  go_wp2
  go_ret
  exact ⟨rfl, hb⟩
theorem addrWord_any (n : Int) (c1 : 0 ≤ n) (c2 : n ≤ 1099511627776) (w : World) :
    Calls Tryd.prog 21 #[.int .i64 n] w fun ev w' => ev = .returned (.int .u64 ((n + 1) * 4)) ∧ w' = w := by
  go_enter Tryd.func21, Tryd.ntmps21
  go_wp2
  go_ret
  exact ⟨rfl, rfl⟩
theorem headWord_any (k g m s : Int) (k0 : 0 ≤ k) (k1 : k ≤ 255) (g0 : 0 ≤ g) (g1 : g ≤ 15) (m0 : 0 ≤ m) (m1 : m ≤ 1) (s0 : 0 ≤ s) (s1 : s ≤ 4096) (w : World) :
    Calls Tryd.prog 20 #[.int .i64 k, .int .i64 g, .int .i64 m, .int .i64 s] w fun ev w' => ev = .returned (.int .u64 (s * 65536 + m * 16384 + g * 1024 + k * 4 + 3)) ∧ w' = w := by
  go_enter Tryd.func20, Tryd.ntmps20
  go_wp2
  go_ret
  exact ⟨rfl, rfl⟩
theorem headOf_results (tmps : Array Value) (W : World) :
    (results Tryd.f66 tmps).run Tryd.prog W = .ok (.tuple #[tmps[2]?.getD undef, tmps[3]?.getD undef, tmps[4]?.getD undef, tmps[5]?.getD undef, tmps[6]?.getD undef]) W := by
  simp [results, Tryd.results66, go_sem]
theorem headOf_ok (x : Int) (h0 : 0 ≤ x) (h1 : x < 18446744073709551616) (hx : x % 4 = 3) (hy : x / 32768 % 2 = 0) (hz : x / 65536 ≤ 4096) (w : World) :
    Calls Tryd.prog 66 #[.int .u64 x] w fun ev w' => ev = .returned (.tuple #[.int .i64 (x / 4 % 256), .int .i64 (x / 1024 % 16), .int .i64 (x / 16384 % 2), .int .i64 (x / 65536), .bool true]) ∧ w' = w := by
  go_enter Tryd.func66, Tryd.ntmps66
  go_wp2
  refine bodyPost_ret (headOf_results _ _) rfl ?_
  exact ⟨rfl, rfl⟩
theorem headOf_no (x : Int) (h0 : 0 ≤ x) (h1 : x < 18446744073709551616) (hx : ¬ (x % 4 = 3 ∧ x / 32768 % 2 = 0 ∧ x / 65536 ≤ 4096)) (w : World) :
    Calls Tryd.prog 66 #[.int .u64 x] w fun ev w' => ev = .returned (.tuple #[.int .i64 0, .int .i64 0, .int .i64 0, .int .i64 0, .bool false]) ∧ w' = w := by
  by_cases c1 : x % 4 = 3
  rotate_left
  · clear hx
    go_enter Tryd.func66, Tryd.ntmps66
    go_wp2
    refine bodyPost_ret (headOf_results _ _) rfl ?_
    exact ⟨rfl, rfl⟩
  by_cases c2 : x / 32768 % 2 = 0
  rotate_left
  · clear hx
    go_enter Tryd.func66, Tryd.ntmps66
    go_wp2
    refine bodyPost_ret (headOf_results _ _) rfl ?_
    exact ⟨rfl, rfl⟩
  have c3 : ¬ x / 65536 ≤ 4096 := fun h => hx ⟨c1, c2, h⟩
  clear hx
  go_enter Tryd.func66, Tryd.ntmps66
  go_wp2
  refine bodyPost_ret (headOf_results _ _) rfl ?_
  exact ⟨rfl, rfl⟩
end Go.Proofs.YtbkmgempejckeaaDoor
