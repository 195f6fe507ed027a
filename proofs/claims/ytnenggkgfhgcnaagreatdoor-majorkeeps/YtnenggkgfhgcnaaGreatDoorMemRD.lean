/- The document's memory: numbers that do not fit (Shaped), by a contract. -/
import Derived.Test.YtnenggkgfhgcnaaGreatDoorJoC
namespace Go.Proofs.YtnenggkgfhgcnaaGreatDoor
open Go.RowKit

set_option maxHeartbeats 1000000 in
set_option maxRecDepth 100000 in
theorem shaped_num0 (p o : Nat) (half old card : Int) (nW nC cW cC : Nat) (aW aC : Option Addr) (used top oldTop : Int) (r k i : Value) (bad : half < 1) (w : World)
    (M : MemO p o half old card (.slice aW nW cW) used top oldTop r k i (.slice aC nC cC) w) :
    Calls Tryz.prog 23 #[.pointer (some ⟨p, o, none⟩)] w fun ev w' => ev = .returned (.bool false) ∧ ∃ q, w' = w.drewN q := by
  obtain ⟨c0, c1, c2, c3, c4, c5, c6, c7, c8, c9, c10⟩ := M
  clear c3 c4 c5 c6 c7 c8 c9 c10
  go_enter Tryz.func23, Tryz.ntmps23
  go_wp2_with fail
  go_ret
  exact ⟨rfl, 0, rfl⟩
set_option maxHeartbeats 1000000 in
set_option maxRecDepth 100000 in
theorem shaped_num1 (p o : Nat) (half old card : Int) (nW nC cW cC : Nat) (aW aC : Option Addr) (used top oldTop : Int) (r k i : Value) (a0 : 1 ≤ half) (bad : half > 65536) (w : World)
    (M : MemO p o half old card (.slice aW nW cW) used top oldTop r k i (.slice aC nC cC) w) :
    Calls Tryz.prog 23 #[.pointer (some ⟨p, o, none⟩)] w fun ev w' => ev = .returned (.bool false) ∧ ∃ q, w' = w.drewN q := by
  obtain ⟨c0, c1, c2, c3, c4, c5, c6, c7, c8, c9, c10⟩ := M
  clear c3 c4 c5 c6 c7 c8 c9 c10
  go_enter Tryz.func23, Tryz.ntmps23
  go_wp2_with fail
  go_ret
  exact ⟨rfl, 0, rfl⟩
set_option maxHeartbeats 1000000 in
set_option maxRecDepth 100000 in
theorem shaped_num2 (p o : Nat) (half old card : Int) (nW nC cW cC : Nat) (aW aC : Option Addr) (used top oldTop : Int) (r k i : Value) (a0 : 1 ≤ half) (a1 : half ≤ 65536) (bad : old < 1) (w : World)
    (M : MemO p o half old card (.slice aW nW cW) used top oldTop r k i (.slice aC nC cC) w) :
    Calls Tryz.prog 23 #[.pointer (some ⟨p, o, none⟩)] w fun ev w' => ev = .returned (.bool false) ∧ ∃ q, w' = w.drewN q := by
  obtain ⟨c0, c1, c2, c3, c4, c5, c6, c7, c8, c9, c10⟩ := M
  clear c3 c4 c5 c6 c7 c8 c9 c10
  go_enter Tryz.func23, Tryz.ntmps23
  go_wp2_with fail
  go_ret
  exact ⟨rfl, 0, rfl⟩
set_option maxHeartbeats 1000000 in
set_option maxRecDepth 100000 in
theorem shaped_num3 (p o : Nat) (half old card : Int) (nW nC cW cC : Nat) (aW aC : Option Addr) (used top oldTop : Int) (r k i : Value) (a0 : 1 ≤ half) (a1 : half ≤ 65536) (a2 : 1 ≤ old) (bad : old > 65536) (w : World)
    (M : MemO p o half old card (.slice aW nW cW) used top oldTop r k i (.slice aC nC cC) w) :
    Calls Tryz.prog 23 #[.pointer (some ⟨p, o, none⟩)] w fun ev w' => ev = .returned (.bool false) ∧ ∃ q, w' = w.drewN q := by
  obtain ⟨c0, c1, c2, c3, c4, c5, c6, c7, c8, c9, c10⟩ := M
  clear c3 c4 c5 c6 c7 c8 c9 c10
  go_enter Tryz.func23, Tryz.ntmps23
  go_wp2_with fail
  go_ret
  exact ⟨rfl, 0, rfl⟩
set_option maxHeartbeats 1000000 in
set_option maxRecDepth 100000 in
theorem shaped_num4 (p o : Nat) (half old card : Int) (nW nC cW cC : Nat) (aW aC : Option Addr) (used top oldTop : Int) (r k i : Value) (a0 : 1 ≤ half) (a1 : half ≤ 65536) (a2 : 1 ≤ old) (a3 : old ≤ 65536) (bad : card < 1) (w : World)
    (M : MemO p o half old card (.slice aW nW cW) used top oldTop r k i (.slice aC nC cC) w) :
    Calls Tryz.prog 23 #[.pointer (some ⟨p, o, none⟩)] w fun ev w' => ev = .returned (.bool false) ∧ ∃ q, w' = w.drewN q := by
  obtain ⟨c0, c1, c2, c3, c4, c5, c6, c7, c8, c9, c10⟩ := M
  clear c3 c4 c5 c6 c7 c8 c9 c10
  go_enter Tryz.func23, Tryz.ntmps23
  go_wp2_with fail
  go_ret
  exact ⟨rfl, 0, rfl⟩
set_option maxHeartbeats 1000000 in
set_option maxRecDepth 100000 in
theorem shaped_num5 (p o : Nat) (half old card : Int) (nW nC cW cC : Nat) (aW aC : Option Addr) (used top oldTop : Int) (r k i : Value) (a0 : 1 ≤ half) (a1 : half ≤ 65536) (a2 : 1 ≤ old) (a3 : old ≤ 65536) (a4 : 1 ≤ card) (bad : card > 1024) (w : World)
    (M : MemO p o half old card (.slice aW nW cW) used top oldTop r k i (.slice aC nC cC) w) :
    Calls Tryz.prog 23 #[.pointer (some ⟨p, o, none⟩)] w fun ev w' => ev = .returned (.bool false) ∧ ∃ q, w' = w.drewN q := by
  obtain ⟨c0, c1, c2, c3, c4, c5, c6, c7, c8, c9, c10⟩ := M
  clear c3 c4 c5 c6 c7 c8 c9 c10
  go_enter Tryz.func23, Tryz.ntmps23
  go_wp2_with fail
  go_ret
  exact ⟨rfl, 0, rfl⟩
set_option maxHeartbeats 4000000 in
set_option maxRecDepth 100000 in
theorem shaped_noW (p o : Nat) (half old card : Int) (nW nC cW cC : Nat) (aW aC : Option Addr) (used top oldTop : Int) (r k i : Value) (h0 : 1 ≤ half) (h1 : half ≤ 65536) (h2 : 1 ≤ old) (h3 : old ≤ 65536) (h4 : 1 ≤ card) (h5 : card ≤ 1024) (qq mm : Int) (e1 : IntKind.i64.wrap (old.tdiv card) = qq) (e2 : IntKind.i64.wrap (qq * card) = mm) (q0 : 0 ≤ qq) (q1 : qq ≤ 65536) (mn : Int) (hm : (mm < old ∧ mn = qq + 1) ∨ (¬ mm < old ∧ mn = qq)) (e4 : ((nW : Int) != 2 * half + old) = true) (w : World)
    (M : MemO p o half old card (.slice aW nW cW) used top oldTop r k i (.slice aC nC cC) w) :
    Calls Tryz.prog 23 #[.pointer (some ⟨p, o, none⟩)] w fun ev w' => ev = .returned (.bool false) ∧ ∃ q, w' = w.drewN q := by
  obtain ⟨c0, c1, c2, c3, c4, c5, c6, c7, c8, c9, c10⟩ := M
  have e3 : IntKind.i64.wrap (2 * half) = 2 * half := wrapI _ (by omega) (by omega)
  have hc0 : (card == 0) = false := by rw [beq_eq_false_iff_ne]; omega
  have e6 : IntKind.i64.wrap (2 * half + old) = 2 * half + old := wrapI _ (by omega) (by omega)
  clear c7 c8 c9
  rcases hm with ⟨hlt, rfl⟩ | ⟨hlt, rfl⟩
  · go_enter Tryz.func23, Tryz.ntmps23
    go_wp2_with fail
    go_quiet (fail)
    go_wp2_with fail
    go_quiet (fail)
    go_wp2_with fail
    go_quiet (fail)
    go_wp2_with fail
    go_ret
    exact ⟨rfl, by first | exact drew_ex2 | exact drew_ex3 | exact drew_ex4⟩
  · go_enter Tryz.func23, Tryz.ntmps23
    go_wp2_with fail
    go_quiet (fail)
    go_wp2_with fail
    go_quiet (fail)
    go_wp2_with fail
    go_quiet (fail)
    go_wp2_with fail
    go_ret
    exact ⟨rfl, by first | exact drew_ex2 | exact drew_ex3 | exact drew_ex4⟩
set_option maxHeartbeats 4000000 in
set_option maxRecDepth 100000 in
theorem shaped_noC (p o : Nat) (half old card : Int) (nW nC cW cC : Nat) (aW aC : Option Addr) (used top oldTop : Int) (r k i : Value) (h0 : 1 ≤ half) (h1 : half ≤ 65536) (h2 : 1 ≤ old) (h3 : old ≤ 65536) (h4 : 1 ≤ card) (h5 : card ≤ 1024) (qq mm : Int) (e1 : IntKind.i64.wrap (old.tdiv card) = qq) (e2 : IntKind.i64.wrap (qq * card) = mm) (q0 : 0 ≤ qq) (q1 : qq ≤ 65536) (mn : Int) (hm : (mm < old ∧ mn = qq + 1) ∨ (¬ mm < old ∧ mn = qq)) (e4 : IntKind.i64.wrap (2 * half + old) = (nW : Int)) (e5 : ((nC : Int) != mn) = true) (w : World)
    (M : MemO p o half old card (.slice aW nW cW) used top oldTop r k i (.slice aC nC cC) w) :
    Calls Tryz.prog 23 #[.pointer (some ⟨p, o, none⟩)] w fun ev w' => ev = .returned (.bool false) ∧ ∃ q, w' = w.drewN q := by
  obtain ⟨c0, c1, c2, c3, c4, c5, c6, c7, c8, c9, c10⟩ := M
  have e3 : IntKind.i64.wrap (2 * half) = 2 * half := wrapI _ (by omega) (by omega)
  have hc0 : (card == 0) = false := by rw [beq_eq_false_iff_ne]; omega
  clear c7 c8 c9
  rcases hm with ⟨hlt, rfl⟩ | ⟨hlt, rfl⟩
  · go_enter Tryz.func23, Tryz.ntmps23
    go_wp2_with fail
    go_quiet (fail)
    go_wp2_with fail
    go_quiet (fail)
    go_wp2_with fail
    go_quiet (fail)
    go_wp2_with fail
    go_ret
    exact ⟨rfl, by first | exact drew_ex2 | exact drew_ex3 | exact drew_ex4⟩
  · go_enter Tryz.func23, Tryz.ntmps23
    go_wp2_with fail
    go_quiet (fail)
    go_wp2_with fail
    go_quiet (fail)
    go_wp2_with fail
    go_quiet (fail)
    go_wp2_with fail
    go_ret
    exact ⟨rfl, by first | exact drew_ex2 | exact drew_ex3 | exact drew_ex4⟩
set_option maxHeartbeats 4000000 in
set_option maxRecDepth 100000 in
theorem shaped_nou0 (p o : Nat) (half old card : Int) (nW nC cW cC : Nat) (aW aC : Option Addr) (used top oldTop : Int) (r k i : Value) (h0 : 1 ≤ half) (h1 : half ≤ 65536) (h2 : 1 ≤ old) (h3 : old ≤ 65536) (h4 : 1 ≤ card) (h5 : card ≤ 1024) (qq mm : Int) (e1 : IntKind.i64.wrap (old.tdiv card) = qq) (e2 : IntKind.i64.wrap (qq * card) = mm) (q0 : 0 ≤ qq) (q1 : qq ≤ 65536) (mn : Int) (hm : (mm < old ∧ mn = qq + 1) ∨ (¬ mm < old ∧ mn = qq)) (e4 : IntKind.i64.wrap (2 * half + old) = (nW : Int)) (e5 : ((nC : Int) != mn) = false) (bad : used < 0) (w : World)
    (M : MemO p o half old card (.slice aW nW cW) used top oldTop r k i (.slice aC nC cC) w) :
    Calls Tryz.prog 23 #[.pointer (some ⟨p, o, none⟩)] w fun ev w' => ev = .returned (.bool false) ∧ ∃ q, w' = w.drewN q := by
  obtain ⟨c0, c1, c2, c3, c4, c5, c6, c7, c8, c9, c10⟩ := M
  have e3 : IntKind.i64.wrap (2 * half) = 2 * half := wrapI _ (by omega) (by omega)
  have hc0 : (card == 0) = false := by rw [beq_eq_false_iff_ne]; omega
  have d1 : decide (used < 0) = true := by rw [decide_eq_true_eq]; omega
  clear c7 c8 c9
  rcases hm with ⟨hlt, rfl⟩ | ⟨hlt, rfl⟩
  · go_enter Tryz.func23, Tryz.ntmps23
    go_wp2_with fail
    go_quiet (fail)
    go_wp2_with fail
    go_quiet (fail)
    go_wp2_with fail
    go_quiet (fail)
    go_wp2_with fail
    go_ret
    exact ⟨rfl, by first | exact drew_ex2 | exact drew_ex3 | exact drew_ex4⟩
  · go_enter Tryz.func23, Tryz.ntmps23
    go_wp2_with fail
    go_quiet (fail)
    go_wp2_with fail
    go_quiet (fail)
    go_wp2_with fail
    go_quiet (fail)
    go_wp2_with fail
    go_ret
    exact ⟨rfl, by first | exact drew_ex2 | exact drew_ex3 | exact drew_ex4⟩
set_option maxHeartbeats 4000000 in
set_option maxRecDepth 100000 in
theorem shaped_nou1 (p o : Nat) (half old card : Int) (nW nC cW cC : Nat) (aW aC : Option Addr) (used top oldTop : Int) (r k i : Value) (h0 : 1 ≤ half) (h1 : half ≤ 65536) (h2 : 1 ≤ old) (h3 : old ≤ 65536) (h4 : 1 ≤ card) (h5 : card ≤ 1024) (qq mm : Int) (e1 : IntKind.i64.wrap (old.tdiv card) = qq) (e2 : IntKind.i64.wrap (qq * card) = mm) (q0 : 0 ≤ qq) (q1 : qq ≤ 65536) (mn : Int) (hm : (mm < old ∧ mn = qq + 1) ∨ (¬ mm < old ∧ mn = qq)) (e4 : IntKind.i64.wrap (2 * half + old) = (nW : Int)) (e5 : ((nC : Int) != mn) = false) (bad : 1 < used) (w : World)
    (M : MemO p o half old card (.slice aW nW cW) used top oldTop r k i (.slice aC nC cC) w) :
    Calls Tryz.prog 23 #[.pointer (some ⟨p, o, none⟩)] w fun ev w' => ev = .returned (.bool false) ∧ ∃ q, w' = w.drewN q := by
  obtain ⟨c0, c1, c2, c3, c4, c5, c6, c7, c8, c9, c10⟩ := M
  have e3 : IntKind.i64.wrap (2 * half) = 2 * half := wrapI _ (by omega) (by omega)
  have hc0 : (card == 0) = false := by rw [beq_eq_false_iff_ne]; omega
  have d1 : decide (used < 0) = false := by rw [decide_eq_false_iff_not]; omega
  have d2 : decide (used > 1) = true := by rw [decide_eq_true_eq]; omega
  clear c7 c8 c9
  rcases hm with ⟨hlt, rfl⟩ | ⟨hlt, rfl⟩
  · go_enter Tryz.func23, Tryz.ntmps23
    go_wp2_with fail
    go_quiet (fail)
    go_wp2_with fail
    go_quiet (fail)
    go_wp2_with fail
    go_quiet (fail)
    go_wp2_with fail
    go_ret
    exact ⟨rfl, by first | exact drew_ex2 | exact drew_ex3 | exact drew_ex4⟩
  · go_enter Tryz.func23, Tryz.ntmps23
    go_wp2_with fail
    go_quiet (fail)
    go_wp2_with fail
    go_quiet (fail)
    go_wp2_with fail
    go_quiet (fail)
    go_wp2_with fail
    go_ret
    exact ⟨rfl, by first | exact drew_ex2 | exact drew_ex3 | exact drew_ex4⟩
end Go.Proofs.YtnenggkgfhgcnaaGreatDoor
