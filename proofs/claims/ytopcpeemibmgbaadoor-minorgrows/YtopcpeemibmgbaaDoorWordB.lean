/- Package word: headers, by contracts. -/
import Derived.Test.YtopcpeemibmgbaaDoorWordA
namespace Go.Proofs.YtopcpeemibmgbaaDoor
open Go.RowKit

theorem or_comm64 (a b : Int) : bits .or .u64 a b = bits .or .u64 b a := by
  simp only [bits, BitVec.or_comm]
theorem or_join (i : Nat) (x y : Int) (h0 : 0 ≤ x) (h1 : x < 18446744073709551616) (h2 : x % 2 ^ i = 0) (c0 : 0 ≤ y) (c1 : y < 2 ^ i) (c2 : y < 18446744073709551616) : bits .or .u64 x y = x + y :=
  bits_join .u64 64 (by decide) (fun n a b => by rw [wrap_u64']; omega) i x y h0 h2 h1 c0 c1 c2
theorem head_sum (k g m s : Int) (k0 : 0 ≤ k) (k1 : k ≤ 255) (g0 : 0 ≤ g) (g1 : g ≤ 15) (m0 : 0 ≤ m) (m1 : m ≤ 1) (s0 : 0 ≤ s) (s1 : s ≤ 4096) :
    bits .or .u64 (bits .or .u64 (bits .or .u64 (k * 4) (g * 1024)) (bits .or .u64 (m * 16384) (s * 65536))) 3 = s * 65536 + m * 16384 + g * 1024 + k * 4 + 3 := by
  have e1 : bits .or .u64 (k * 4) (g * 1024) = g * 1024 + k * 4 := by
    rw [or_comm64]
    exact or_join 10 _ _ (by omega) (by omega) (by omega) (by omega) (by omega) (by omega)
  have e2 : bits .or .u64 (m * 16384) (s * 65536) = s * 65536 + m * 16384 := by
    rw [or_comm64]
    exact or_join 16 _ _ (by omega) (by omega) (by omega) (by omega) (by omega) (by omega)
  have e3 : bits .or .u64 (g * 1024 + k * 4) (s * 65536 + m * 16384) = s * 65536 + m * 16384 + (g * 1024 + k * 4) := by
    rw [or_comm64]
    exact or_join 14 _ _ (by omega) (by omega) (by omega) (by omega) (by omega) (by omega)
  rw [e1, e2, e3, or_join 2 _ _ (by omega) (by omega) (by omega) (by omega) (by omega) (by omega)]
  omega

set_option maxRecDepth 100000 in
theorem ofHead_ok (k g m s : Int) (k0 : 0 ≤ k) (k1 : k ≤ 255) (g0 : 0 ≤ g) (g1 : g ≤ 15) (m0 : 0 ≤ m) (m1 : m ≤ 1) (s0 : 0 ≤ s) (s1 : s ≤ 4096) (w : World) :
    Calls Tryd.prog 32 #[.agg #[.int .i64 k, .int .i64 g, .int .i64 m, .int .i64 s]] w fun ev w' => ev = .returned (.tuple #[.int .u64 (s * 65536 + m * 16384 + g * 1024 + k * 4 + 3), .nilIface]) ∧ Below w.heap.size w w' := by
  have e := head_sum k g m s k0 k1 g0 g1 m0 m1 s0 s1
  go_enter Tryd.func32, Tryd.ntmps32
  go_wp2_with fail
  refine (within_any _ _ _).mono ?_
  rintro ev w1 ⟨rfl, rfl⟩
  go_wp2_with fail
  refine (within_any _ _ _).mono ?_
  rintro ev w1 ⟨rfl, rfl⟩
  go_wp2_with fail
  refine (within_any _ _ _).mono ?_
  rintro ev w1 ⟨rfl, rfl⟩
  go_wp2_with fail
  refine (within_any _ _ _).mono ?_
  rintro ev w1 ⟨rfl, rfl⟩
  go_wp2_with fail
  go_ret2
  rw [← e]
  exact ⟨rfl, (Below.refl _ _).alloc (Nat.le_refl _) _⟩

set_option maxRecDepth 100000 in
theorem ofHead_no (a : Nat → Addr) (k g m s : Int) (hn : ¬ (0 ≤ k ∧ k ≤ 255 ∧ 0 ≤ g ∧ g ≤ 15 ∧ 0 ≤ m ∧ m ≤ 1 ∧ 0 ≤ s ∧ s ≤ 4096)) (w : World) (E : WErr a w) :
    Calls Tryd.prog 32 #[.agg #[.int .i64 k, .int .i64 g, .int .i64 m, .int .i64 s]] w fun ev w' => ev = .returned (.tuple #[.int .u64 0, errV a 1]) ∧ Below w.heap.size w w' := by
  have hbA := fun o => (Below.refl w.heap.size w).alloc (Nat.le_refl _) o
  have hc := fun o => (E.below (hbA o)).c1
  by_cases ck : 0 ≤ k ∧ k ≤ 255
  rotate_left
  · clear hn
    have hx : (decide (0 ≤ k) && decide (k ≤ 255)) = false := by rw [Bool.and_eq_false_iff, decide_eq_false_iff_not, decide_eq_false_iff_not]; omega
    go_enter Tryd.func32, Tryd.ntmps32
    go_wp2_with fail
    refine (within_any _ _ _).mono ?_
    rintro ev w1 ⟨rfl, rfl⟩
    rw [hx]
    go_wp2_with fail
    go_quiet (fail)
    go_wp2
    go_ret2
    exact ⟨rfl, below_drewN (hbA _)⟩
  obtain ⟨k0, k1⟩ := ck
  by_cases cg : 0 ≤ g ∧ g ≤ 15
  rotate_left
  · clear hn
    have hx : (decide (0 ≤ g) && decide (g ≤ 15)) = false := by rw [Bool.and_eq_false_iff, decide_eq_false_iff_not, decide_eq_false_iff_not]; omega
    go_enter Tryd.func32, Tryd.ntmps32
    go_wp2_with fail
    refine (within_any _ _ _).mono ?_
    rintro ev w1 ⟨rfl, rfl⟩
    go_wp2_with fail
    refine (within_any _ _ _).mono ?_
    rintro ev w1 ⟨rfl, rfl⟩
    rw [hx]
    go_wp2_with fail
    go_quiet (fail)
    go_wp2
    go_ret2
    exact ⟨rfl, below_drewN (hbA _)⟩
  obtain ⟨g0, g1⟩ := cg
  by_cases cm : 0 ≤ m ∧ m ≤ 1
  rotate_left
  · clear hn
    have hx : (decide (0 ≤ m) && decide (m ≤ 1)) = false := by rw [Bool.and_eq_false_iff, decide_eq_false_iff_not, decide_eq_false_iff_not]; omega
    go_enter Tryd.func32, Tryd.ntmps32
    go_wp2_with fail
    refine (within_any _ _ _).mono ?_
    rintro ev w1 ⟨rfl, rfl⟩
    go_wp2_with fail
    refine (within_any _ _ _).mono ?_
    rintro ev w1 ⟨rfl, rfl⟩
    go_wp2_with fail
    refine (within_any _ _ _).mono ?_
    rintro ev w1 ⟨rfl, rfl⟩
    rw [hx]
    go_wp2_with fail
    go_quiet (fail)
    go_wp2
    go_ret2
    exact ⟨rfl, below_drewN (hbA _)⟩
  obtain ⟨m0, m1⟩ := cm
  by_cases cs : 0 ≤ s ∧ s ≤ 4096
  rotate_left
  · clear hn
    have hx : (decide (0 ≤ s) && decide (s ≤ 4096)) = false := by rw [Bool.and_eq_false_iff, decide_eq_false_iff_not, decide_eq_false_iff_not]; omega
    go_enter Tryd.func32, Tryd.ntmps32
    go_wp2_with fail
    refine (within_any _ _ _).mono ?_
    rintro ev w1 ⟨rfl, rfl⟩
    go_wp2_with fail
    refine (within_any _ _ _).mono ?_
    rintro ev w1 ⟨rfl, rfl⟩
    go_wp2_with fail
    refine (within_any _ _ _).mono ?_
    rintro ev w1 ⟨rfl, rfl⟩
    go_wp2_with fail
    refine (within_any _ _ _).mono ?_
    rintro ev w1 ⟨rfl, rfl⟩
    rw [hx]
    go_wp2_with fail
    go_quiet (fail)
    go_wp2
    go_ret2
    exact ⟨rfl, below_drewN (hbA _)⟩
  obtain ⟨s0, s1⟩ := cs
  exact absurd ⟨k0, k1, g0, g1, m0, m1, s0, s1⟩ hn

theorem comesH_ok (k g m s x : Int) (k0 : 0 ≤ k) (k1 : k ≤ 255) (g0 : 0 ≤ g) (g1 : g ≤ 15) (m0 : 0 ≤ m) (m1 : m ≤ 1) (s0 : 0 ≤ s) (s1 : s ≤ 4096) (w : World) :
    Calls Tryd.prog 88 #[.agg #[.int .i64 k, .int .i64 g, .int .i64 m, .int .i64 s], .int .u64 x, .func (.func 32) #[] #[]] w fun ev w' => ev = .returned (.bool (s * 65536 + m * 16384 + g * 1024 + k * 4 + 3 == x)) ∧ Below w.heap.size w w' := by
  have h := fun w => ofHead_ok k g m s k0 k1 g0 g1 m0 m1 s0 s1 w
  clear k0 k1 g0 g1 m0 m1 s0 s1
  go_enter Tryd.func88, Tryd.ntmps88
  go_wp2_with fail
  refine (h _).mono ?_
  rintro ev w1 ⟨rfl, hb⟩
  go_wp2
  go_ret
  exact ⟨rfl, ((Below.refl _ _).alloc (Nat.le_refl _) _).trans (hb.mono (by simp))⟩
theorem comesH_no (a : Nat → Addr) (k g m s x : Int) (hn : ¬ (0 ≤ k ∧ k ≤ 255 ∧ 0 ≤ g ∧ g ≤ 15 ∧ 0 ≤ m ∧ m ≤ 1 ∧ 0 ≤ s ∧ s ≤ 4096)) (w : World) (E : WErr a w) :
    Calls Tryd.prog 88 #[.agg #[.int .i64 k, .int .i64 g, .int .i64 m, .int .i64 s], .int .u64 x, .func (.func 32) #[] #[]] w fun ev w' => ev = .returned (.bool false) ∧ Below w.heap.size w w' := by
  have h := fun w (E : WErr a w) => ofHead_no a k g m s hn w E
  clear hn
  go_enter Tryd.func88, Tryd.ntmps88
  go_wp2_with fail
  refine (h _ (E.below ((Below.refl _ _).alloc (Nat.le_refl _) _))).mono ?_
  rintro ev w1 ⟨rfl, hb⟩
  unfold errV
  go_wp2
  go_ret
  exact ⟨rfl, ((Below.refl _ _).alloc (Nat.le_refl _) _).trans (hb.mono (by simp))⟩

theorem and255 (y : Int) (h0 : 0 ≤ y) (h1 : y < 18446744073709551616) : bits .and .u64 y 255 = y % 256 := by go_bits2
theorem and15 (y : Int) (h0 : 0 ≤ y) (h1 : y < 18446744073709551616) : bits .and .u64 y 15 = y % 16 := by go_bits2
theorem and1 (y : Int) (h0 : 0 ≤ y) (h1 : y < 18446744073709551616) : bits .and .u64 y 1 = y % 2 := by go_bits2

theorem two_new (w : World) (o o' : Obj) : ((w.alloc o).alloc o').heap[w.heap.size]? = some o ∧ ((w.alloc o).alloc o').heap[w.heap.size + 1]? = some o' := by
  constructor
  · exact (((Below.refl (w.alloc o).heap.size _).alloc (Nat.le_refl _) _).block w.heap.size (by simp)).trans (heap_alloc_new w _)
  · have h := heap_alloc_new (w.alloc o) o'
    rw [show (w.alloc o).heap.size = w.heap.size + 1 by simp] at h
    exact h
theorem head_block {w : World} {b : Nat} {u0 u1 u2 u3 : Value} (h : w.heap[b]? = some (.cells #[u0, u1, u2, u3] 73)) :
    w.cell? ⟨b, 0, none⟩ = some u0 ∧ w.cell? ⟨b, 1, none⟩ = some u1 ∧ w.cell? ⟨b, 2, none⟩ = some u2 ∧ w.cell? ⟨b, 3, none⟩ = some u3 ∧ ∀ o, w.frozen? ⟨b, o, none⟩ = false := by
  refine ⟨?_, ?_, ?_, ?_, fun o => by simp [World.frozen?, h]⟩
  · rw [cell_of_row w b 0 _ _ _ h]; rfl
  · rw [cell_of_row w b 1 _ _ _ h]; rfl
  · rw [cell_of_row w b 2 _ _ _ h]; rfl
  · rw [cell_of_row w b 3 _ _ _ h]; rfl
theorem cell_set (w : World) (b i j : Nat) (v : Value) (h : i ≠ j) : (w.setCell ⟨b, j, none⟩ v).cell? ⟨b, i, none⟩ = w.cell? ⟨b, i, none⟩ :=
  World.cell?_setCell_other _ _ _ _ (fun e => h (congrArg Addr.off e).symm)
def set4 (w : World) (b : Nat) (v0 v1 v2 v3 : Value) : World := (((w.setCell ⟨b, 0, none⟩ v0).setCell ⟨b, 1, none⟩ v1).setCell ⟨b, 2, none⟩ v2).setCell ⟨b, 3, none⟩ v3
theorem set4_cells {w : World} {b : Nat} {u0 u1 u2 u3 : Value} (r0 : w.cell? ⟨b, 0, none⟩ = some u0) (r1 : w.cell? ⟨b, 1, none⟩ = some u1) (r2 : w.cell? ⟨b, 2, none⟩ = some u2) (r3 : w.cell? ⟨b, 3, none⟩ = some u3) (v0 v1 v2 v3 : Value) :
    (set4 w b v0 v1 v2 v3).cell? ⟨b, 0, none⟩ = some v0 ∧ (set4 w b v0 v1 v2 v3).cell? ⟨b, 1, none⟩ = some v1 ∧ (set4 w b v0 v1 v2 v3).cell? ⟨b, 2, none⟩ = some v2 ∧ (set4 w b v0 v1 v2 v3).cell? ⟨b, 3, none⟩ = some v3 := by
  unfold set4
  refine ⟨?_, ?_, ?_, ?_⟩
  · rw [cell_set _ _ _ _ _ (by decide), cell_set _ _ _ _ _ (by decide), cell_set _ _ _ _ _ (by decide)]
    exact World.cell?_setCell_same _ _ _ r0
  · rw [cell_set _ _ _ _ _ (by decide), cell_set _ _ _ _ _ (by decide)]
    exact World.cell?_setCell_same _ _ _ ((cell_set _ _ _ _ _ (by decide)).trans r1)
  · rw [cell_set _ _ _ _ _ (by decide)]
    exact World.cell?_setCell_same _ _ _ ((cell_set _ _ _ _ _ (by decide)).trans ((cell_set _ _ _ _ _ (by decide)).trans r2))
  · exact World.cell?_setCell_same _ _ _ ((cell_set _ _ _ _ _ (by decide)).trans ((cell_set _ _ _ _ _ (by decide)).trans ((cell_set _ _ _ _ _ (by decide)).trans r3)))
theorem set4_below {w W : World} {b B : Nat} (h : Below B w W) (hb : B ≤ b) (v0 v1 v2 v3 : Value) : Below B w (set4 W b v0 v1 v2 v3) :=
  (((h.setCell hb _).setCell hb _).setCell hb _).setCell hb _
theorem head_results (tmps : Array Value) (W : World) (b : Nat) (v0 v1 v2 v3 : Value) (h2 : tmps[2]?.getD undef = .pointer (some ⟨b, 0, none⟩)) (c0 : W.cell? ⟨b, 0, none⟩ = some v0) (c1 : W.cell? ⟨b, 1, none⟩ = some v1) (c2 : W.cell? ⟨b, 2, none⟩ = some v2) (c3 : W.cell? ⟨b, 3, none⟩ = some v3) :
    (results Tryd.f87 tmps).run Tryd.prog W = .ok (.tuple #[.agg #[v0, v1, v2, v3], tmps[3]?.getD undef]) W := by
  simp [results, Tryd.results87, go_sem, h2, c0, c1, c2, c3]

set_option maxRecDepth 100000 in
theorem toHead_ok (x : Int) (h0 : 0 ≤ x) (h1 : x < 18446744073709551616) (hx : x % 4 = 3) (hy : x / 32768 % 2 = 0) (hz : x / 65536 ≤ 4096) (w : World) :
    Calls Tryd.prog 87 #[.int .u64 x] w fun ev w' => ev = .returned (.tuple #[.agg #[.int .i64 (x / 4 % 256), .int .i64 (x / 1024 % 16), .int .i64 (x / 16384 % 2), .int .i64 (x / 65536)], .nilIface]) ∧ Below w.heap.size w w' := by
  have e1 := and255 (x / 4) (by omega) (by omega)
  have e2 := and15 (x / 1024) (by omega) (by omega)
  have e3 := and1 (x / 16384) (by omega) (by omega)
  have h := fun w => comesH_ok (x / 4 % 256) (x / 1024 % 16) (x / 16384 % 2) (x / 65536) x (by omega) (by omega) (by omega) (by omega) (by omega) (by omega) (by omega) (by omega) w
  have hm : (x / 65536 * 65536 + x / 16384 % 2 * 16384 + x / 1024 % 16 * 1024 + x / 4 % 256 * 4 + 3 == x) = true := by
    rw [beq_iff_eq]
    omega
  rw [hm] at h
  clear hm
  have hsz : w.heap.size ≠ w.heap.size + 1 := by omega
  go_enter Tryd.func87, Tryd.ntmps87
  go_wp2_with fail
  refine (h _).mono ?_
  rintro ev w1 ⟨rfl, hb⟩
  have hbw : Below w.heap.size w w1 := (((Below.refl _ _).alloc (Nat.le_refl _) _).alloc (by simp) _).trans (hb.mono (by simp; omega))
  have hB0 := (hb.block w.heap.size (by simp; omega)).trans (two_new w _ _).1
  have hB1 := (hb.block (w.heap.size + 1) (by simp)).trans (two_new w _ _).2
  obtain ⟨r0, r1, r2, r3, rf⟩ := head_block hB0
  obtain ⟨s0, s1, s2, s3, _⟩ := head_block hB1
  have rf0 := rf 0
  have rf1 := rf 1
  have rf2 := rf 2
  have rf3 := rf 3
  clear rf hB0 hB1 hb h e1 e2 e3
  go_wp2
  obtain ⟨t0, t1, t2, t3⟩ := set4_cells r0 r1 r2 r3 (.int .i64 (x / 4 % 256)) (.int .i64 (x / 1024 % 16)) (.int .i64 (x / 16384 % 2)) (.int .i64 (x / 65536))
  refine bodyPost_ret (head_results _ _ w.heap.size _ _ _ _ rfl t0 t1 t2 t3) rfl ?_
  exact ⟨rfl, (((hbw.setCell (Nat.le_refl _) _).setCell (Nat.le_refl _) _).setCell (Nat.le_refl _) _).setCell (Nat.le_refl _) _⟩

set_option maxRecDepth 100000 in
theorem toHead_no (a : Nat → Addr) (x : Int) (h0 : 0 ≤ x) (h1 : x < 18446744073709551616) (hx : ¬ (x % 4 = 3 ∧ x / 32768 % 2 = 0 ∧ x / 65536 ≤ 4096)) (w : World) (E : WErr a w) :
    Calls Tryd.prog 87 #[.int .u64 x] w fun ev w' => ev = .returned (.tuple #[.agg #[.int .i64 0, .int .i64 0, .int .i64 0, .int .i64 0], errV a 2]) ∧ Below w.heap.size w w' := by
  have e1 := and255 (x / 4) (by omega) (by omega)
  have e2 := and15 (x / 1024) (by omega) (by omega)
  have e3 := and1 (x / 16384) (by omega) (by omega)
  have h : ∀ w, WErr a w → Calls Tryd.prog 88 #[.agg #[.int .i64 (x / 4 % 256), .int .i64 (x / 1024 % 16), .int .i64 (x / 16384 % 2), .int .i64 (x / 65536)], .int .u64 x, .func (.func 32) #[] #[]] w fun ev w' => ev = .returned (.bool false) ∧ Below w.heap.size w w' := fun w E => by
    by_cases c : x / 65536 ≤ 4096
    · have h := comesH_ok (x / 4 % 256) (x / 1024 % 16) (x / 16384 % 2) (x / 65536) x (by omega) (by omega) (by omega) (by omega) (by omega) (by omega) (by omega) c w
      have hm : (x / 65536 * 65536 + x / 16384 % 2 * 16384 + x / 1024 % 16 * 1024 + x / 4 % 256 * 4 + 3 == x) = false := by
        rw [beq_eq_false_iff_ne]
        omega
      rw [hm] at h
      exact h
    · exact comesH_no a (x / 4 % 256) (x / 1024 % 16) (x / 16384 % 2) (x / 65536) x (by omega) w E
  clear hx
  have hsz : w.heap.size ≠ w.heap.size + 1 := by omega
  have hlt : 2 < w.heap.size := lt_of_cell E.c2
  have hne : w.heap.size ≠ 2 := by omega
  have hne2 : 2 ≠ w.heap.size := by omega
  go_enter Tryd.func87, Tryd.ntmps87
  go_wp2_with fail
  refine (h _ (E.below (((Below.refl _ _).alloc (Nat.le_refl _) _).alloc (by simp) _))).mono ?_
  rintro ev w1 ⟨rfl, hb⟩
  have hbw : Below w.heap.size w w1 := (((Below.refl _ _).alloc (Nat.le_refl _) _).alloc (by simp) _).trans (hb.mono (by simp; omega))
  have hB0 := (hb.block w.heap.size (by simp; omega)).trans (two_new w _ _).1
  obtain ⟨r0, r1, r2, r3, rf⟩ := head_block hB0
  have rf0 := rf 0
  have rf1 := rf 1
  have rf2 := rf 2
  have rf3 := rf 3
  have k2 := (E.below hbw).c2
  clear rf hB0 hb h e1 e2 e3
  go_wp2
  go_region
  go_wp2
  obtain ⟨t0, t1, t2, t3⟩ := set4_cells r0 r1 r2 r3 (.int .i64 0) (.int .i64 0) (.int .i64 0) (.int .i64 0)
  have hbz := (set4_below hbw (Nat.le_refl _) (.int .i64 0) (.int .i64 0) (.int .i64 0) (.int .i64 0)).drew
  change bodyPost _ _ _ _ _ (set4 w1 w.heap.size (.int .i64 0) (.int .i64 0) (.int .i64 0) (.int .i64 0)).drew
  generalize set4 w1 w.heap.size (.int .i64 0) (.int .i64 0) (.int .i64 0) (.int .i64 0) = W at t0 t1 t2 t3 hbz ⊢
  refine bodyPost_ret (head_results _ _ w.heap.size (.int .i64 0) (.int .i64 0) (.int .i64 0) (.int .i64 0) rfl t0 t1 t2 t3) rfl ?_
  exact ⟨rfl, hbz⟩
end Go.Proofs.YtopcpeemibmgbaaDoor
