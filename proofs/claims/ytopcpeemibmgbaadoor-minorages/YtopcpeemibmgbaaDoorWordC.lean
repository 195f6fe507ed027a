/- The Word laws: their helpers, and the laws of ints, addresses, headers by walks. -/
import Derived.Test.YtopcpeemibmgbaaDoorWordB
namespace Go.Proofs.YtopcpeemibmgbaaDoor
open Go.RowKit

theorem intOf_any (x : Int) (w : World) :
    Calls Tryd.prog 47 #[.int .u64 x] w fun ev w' => ev = .returned (.int .i64 (wrap64 x / 4)) ∧ w' = w := by
  go_enter Tryd.func47, Tryd.ntmps47
  go_wp2
  go_ret
  exact ⟨rfl, rfl⟩
theorem headOf_results (tmps : Array Value) (W : World) :
    (results Tryd.f46 tmps).run Tryd.prog W = .ok (.tuple #[tmps[2]?.getD undef, tmps[3]?.getD undef, tmps[4]?.getD undef, tmps[5]?.getD undef, tmps[6]?.getD undef]) W := by
  simp [results, Tryd.results46, go_sem]
theorem headOf_ok (x : Int) (h0 : 0 ≤ x) (h1 : x < 18446744073709551616) (hx : x % 4 = 3) (hy : x / 32768 % 2 = 0) (hz : x / 65536 ≤ 4096) (w : World) :
    Calls Tryd.prog 46 #[.int .u64 x] w fun ev w' => ev = .returned (.tuple #[.int .i64 (x / 4 % 256), .int .i64 (x / 1024 % 16), .int .i64 (x / 16384 % 2), .int .i64 (x / 65536), .bool true]) ∧ w' = w := by
  go_enter Tryd.func46, Tryd.ntmps46
  go_wp2
  refine bodyPost_ret (headOf_results _ _) rfl ?_
  exact ⟨rfl, rfl⟩
theorem headOf_no (x : Int) (h0 : 0 ≤ x) (h1 : x < 18446744073709551616) (hx : ¬ (x % 4 = 3 ∧ x / 32768 % 2 = 0 ∧ x / 65536 ≤ 4096)) (w : World) :
    Calls Tryd.prog 46 #[.int .u64 x] w fun ev w' => ev = .returned (.tuple #[.int .i64 0, .int .i64 0, .int .i64 0, .int .i64 0, .bool false]) ∧ w' = w := by
  by_cases c1 : x % 4 = 3
  rotate_left
  · clear hx
    go_enter Tryd.func46, Tryd.ntmps46
    go_wp2
    refine bodyPost_ret (headOf_results _ _) rfl ?_
    exact ⟨rfl, rfl⟩
  by_cases c2 : x / 32768 % 2 = 0
  rotate_left
  · clear hx
    go_enter Tryd.func46, Tryd.ntmps46
    go_wp2
    refine bodyPost_ret (headOf_results _ _) rfl ?_
    exact ⟨rfl, rfl⟩
  have c3 : ¬ x / 65536 ≤ 4096 := fun h => hx ⟨c1, c2, h⟩
  clear hx
  go_enter Tryd.func46, Tryd.ntmps46
  go_wp2
  refine bodyPost_ret (headOf_results _ _) rfl ?_
  exact ⟨rfl, rfl⟩
end Go.Proofs.YtopcpeemibmgbaaDoor
