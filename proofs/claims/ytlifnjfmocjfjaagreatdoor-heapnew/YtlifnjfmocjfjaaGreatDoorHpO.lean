/- The law HeapNew of numbers that do not fit. -/
import Derived.Test.YtlifnjfmocjfjaaGreatDoorJnK
namespace Go.Proofs.YtlifnjfmocjfjaaGreatDoor
open Go.RowKit

set_option maxHeartbeats 8000000 in
set_option maxRecDepth 100000 in
theorem heapNew_bad (a : Nat → Addr) (half old card tn rs : Int) (H : ¬ heapOK half old card tn rs) (h : (half ≤ 3000 ∨ 65536 < half) ∧ (old ≤ 3000 ∨ 65536 < old) ∧ (rs ≤ 300 ∨ 5000 < rs)) (w : World) (E : HEnv a w)
    (kh : Calls Tryz.prog 4 #[] w fun ev w' => ev = .returned (.bool true) ∧ Below w.heap.size w w') :
    Calls Tryz.prog 3 #[.int .i64 half, .int .i64 old, .int .i64 card, .int .i64 tn, .int .i64 rs] w fun ev w' => ev = .returned (.bool true) ∧ Below w.heap.size w w' := by
  have HH := toHid H
  have HE := toHid E
  clear H E
  have HX : Hid ((decide (half < 1) || decide (65536 < half) || decide (old < 1) || decide (65536 < old) || decide (card < 1) || decide (1024 < card)) = true ∨ ((decide (half < 1) || decide (65536 < half) || decide (old < 1) || decide (65536 < old) || decide (card < 1) || decide (1024 < card)) = false ∧ (tn < 0 ∨ (0 ≤ tn ∧ 15 < tn) ∨ (0 ≤ tn ∧ tn ≤ 15 ∧ rs < 0) ∨ (0 ≤ tn ∧ tn ≤ 15 ∧ 0 ≤ rs ∧ 5000 < rs)))) := by
    have h := HH.out
    unfold heapOK numsOK at h
    show _ ∨ _
    simp only [Bool.or_eq_true, decide_eq_true_eq, Bool.or_eq_false_iff, decide_eq_false_iff_not]
    omega
  rcases h with ⟨h1 | h1, h2 | h2, h3 | h3⟩
  all_goals go_enter Tryz.func3, Tryz.ntmps3
  all_goals go_wp2_with fail
  all_goals refine kh.mono ?_
  all_goals clear kh
  all_goals rintro ev w1 ⟨rfl, hb⟩
  all_goals have HB := toHid hb
  all_goals clear hb
  all_goals go_wp2_with fail
  all_goals refine (hnew_no a half old card tn rs HH.out w1 (HE.out.below HB.out).we).mono ?_
  all_goals rintro ev w2 ⟨rfl, hb2⟩
  all_goals have HB2 := toHid (HB.out.trans (hb2.mono HB.out.size))
  all_goals clear hb2
  all_goals clear h1 h2 h3
  all_goals go_upto_region 6 with fail
  all_goals generalize (decide (half < 1) || decide (65536 < half) || decide (old < 1) || decide (65536 < old) || decide (card < 1) || decide (1024 < card)) = bd at *
  all_goals rcases HX.out with rfl | ⟨rfl, ht | ⟨ht, ht'⟩ | ⟨ht, ht', hr⟩ | ⟨ht, ht', hr, hr'⟩⟩
  all_goals clear HX
  all_goals go_wp2_with fail
  all_goals refine (coded_any a 1 (by decide) w2 (HE.out.below HB2.out).errs).mono ?_
  all_goals rintro ev w3 ⟨rfl, hb4⟩
  all_goals go_wp2_with fail
  all_goals go_ret
  all_goals exact ⟨rfl, HB2.out.trans (hb4.mono HB2.out.size)⟩
end Go.Proofs.YtlifnjfmocjfjaaGreatDoor
