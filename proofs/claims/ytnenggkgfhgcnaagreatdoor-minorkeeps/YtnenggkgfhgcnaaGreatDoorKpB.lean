/- Is what a word points to come to (Reaches)? ConstWord: by contracts. -/
import Derived.Test.YtnenggkgfhgcnaaGreatDoorJnF
namespace Go.Proofs.YtnenggkgfhgcnaaGreatDoor
open Go.RowKit Go.Maps

theorem constWord0 (w : World) : Calls Tryz.prog 37 #[.int .i64 0] w fun ev w' => ev = .returned (.int .u64 2) ∧ w' = w := by
  go_enter Tryz.func37, Tryz.ntmps37
  go_wp2
  go_ret
  exact ⟨rfl, rfl⟩
set_option maxHeartbeats 2000000 in
set_option maxRecDepth 100000 in
theorem reaches_any (p o : Nat) (m : MD) (vs : List Nat) (hS : m.Shape vs) (h64 : MD64 m) (bR : m.R.length ≤ 300000) (x : Int) (h0 : 0 ≤ x) (h1 : x < 18446744073709551616) (w : World) (R : RepM p o m w) :
    Calls Tryz.prog 38 #[.pointer (some ⟨p, o, none⟩), .int .u64 x] w fun ev w' => ev = .returned (.bool (ledB m vs x)) ∧ Below w.heap.size w w' := by
  have kp := fun w => points_any x h0 h1 w
  have kr := reached_any p o m vs hS h64 bR w R
  have hol := (reach_outs hS h64).len
  have hfw := hS.few
  unfold ledB
  obtain ⟨y, hy⟩ : ∃ y, y = ptI x := ⟨_, rfl⟩
  obtain ⟨rr, hrr⟩ : ∃ rr, rr = m.reach vs := ⟨_, rfl⟩
  rw [← hy]
  rw [← hrr] at kr hol ⊢
  simp only [← hy] at kp
  clear hy hrr R
  by_cases hc : 0 ≤ y
  · have hd : decide (0 ≤ y) = true := decide_eq_true hc
    rw [hd, Bool.true_and]
    go_enter Tryz.func38, Tryz.ntmps38
    go_wp2_with fail
    refine (kp w).mono ?_
    rintro ev wz ⟨rfl, e⟩
    rw [e]
    clear e wz
    go_wp2_with fail
    refine kr.mono ?_
    clear kr
    rintro ev w1 ⟨ao, cap, rfl, hR, hb⟩
    have HR := toHid hR
    have HB := toHid hb
    clear hR hb
    go_wp2_with fail
    refine (kp w1).mono ?_
    rintro ev wz ⟨rfl, e⟩
    rw [e]
    clear e wz
    go_wp2_with fail
    refine (objectAt_any m.F rr ao cap y (by omega) w1 HR.out).mono ?_
    rintro ev wz ⟨rfl, e⟩
    rw [e]
    clear e wz
    go_wp2_with fail
    go_ret
    exact ⟨rfl, HB.out⟩
  · have hd : decide (0 ≤ y) = false := decide_eq_false hc
    rw [hd, Bool.false_and]
    go_enter Tryz.func38, Tryz.ntmps38
    go_wp2_with fail
    refine (kp w).mono ?_
    rintro ev wz ⟨rfl, e⟩
    rw [e]
    clear e wz
    go_wp2_with fail
    go_ret
    exact ⟨rfl, Below.refl _ _⟩
end Go.Proofs.YtnenggkgfhgcnaaGreatDoor
