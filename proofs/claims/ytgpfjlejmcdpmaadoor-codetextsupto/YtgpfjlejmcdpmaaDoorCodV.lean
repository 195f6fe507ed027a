/- The shape of an op, by the document's answer: has it an A? (Written by a program of ours: code/shape.py.) -/
import Derived.Test.YtgpfjlejmcdpmaaDoorCodQ
namespace Go.Proofs.YtgpfjlejmcdpmaaDoor
open Go.RowKit

theorem results_tmp4 {fn : Func} {t u v x : Tmp} (h : fn.results = #[.tmp t, .tmp u, .tmp v, .tmp x]) (tmps : Array Value) (P : Program) (w : World) :
    (results fn tmps).run P w = .ok (.tuple #[tmps.getD t undef, tmps.getD u undef, tmps.getD v undef, tmps.getD x undef]) w := by
  simp [results, h]
/-- What Shape answers, as far as it matters: has it an A? -/
def ShapePost (s : ByteArray) (w : World) : Ending → World → Prop := fun ev w' => ∃ p q x st, ev = .returned (.tuple #[.int .i64 p, .int .i64 q, .string x, .bool st]) ∧ (!x.toList.isEmpty) = hasA s ∧ Below w.heap.size w w'
set_option maxHeartbeats 1000000 in
theorem shape_0 (a : Int) (w : World) : Calls Tryd.prog 24 #[.agg #[.string ⟨#[99, 111, 110, 115, 116]⟩, .int .i64 a]] w (ShapePost ⟨#[99, 111, 110, 115, 116]⟩ w) := by
  go_enter Tryd.func24, Tryd.ntmps24
  go_wp2_with fail
  refine bodyPost_ret (results_tmp4 rfl _ _ _) rfl ?_
  exact ⟨_, _, _, _, rfl, by kernel_rfl, (Below.refl _ _).alloc (Nat.le_refl _) _⟩
set_option maxHeartbeats 1000000 in
theorem shape_1 (a : Int) (w : World) : Calls Tryd.prog 24 #[.agg #[.string ⟨#[105, 110, 116]⟩, .int .i64 a]] w (ShapePost ⟨#[105, 110, 116]⟩ w) := by
  go_enter Tryd.func24, Tryd.ntmps24
  go_wp2_with fail
  go_region
  go_wp2_with fail
  refine bodyPost_ret (results_tmp4 rfl _ _ _) rfl ?_
  exact ⟨_, _, _, _, rfl, by kernel_rfl, by repeat (first | exact Below.refl _ _ | apply Below.drew | exact (Below.refl _ _).alloc (Nat.le_refl _) _)⟩
set_option maxHeartbeats 1000000 in
theorem shape_2 (a : Int) (w : World) : Calls Tryd.prog 24 #[.agg #[.string ⟨#[115, 116, 114]⟩, .int .i64 a]] w (ShapePost ⟨#[115, 116, 114]⟩ w) := by
  go_enter Tryd.func24, Tryd.ntmps24
  go_wp2_with fail
  go_region
  go_wp2_with fail
  refine bodyPost_ret (results_tmp4 rfl _ _ _) rfl ?_
  exact ⟨_, _, _, _, rfl, by kernel_rfl, by repeat (first | exact Below.refl _ _ | apply Below.drew | exact (Below.refl _ _).alloc (Nat.le_refl _) _)⟩
set_option maxHeartbeats 1000000 in
theorem shape_3 (a : Int) (w : World) : Calls Tryd.prog 24 #[.agg #[.string ⟨#[108, 111, 97, 100]⟩, .int .i64 a]] w (ShapePost ⟨#[108, 111, 97, 100]⟩ w) := by
  go_enter Tryd.func24, Tryd.ntmps24
  go_wp2_with fail
  refine bodyPost_ret (results_tmp4 rfl _ _ _) rfl ?_
  exact ⟨_, _, _, _, rfl, by kernel_rfl, (Below.refl _ _).alloc (Nat.le_refl _) _⟩
set_option maxHeartbeats 1000000 in
theorem shape_4 (a : Int) (w : World) : Calls Tryd.prog 24 #[.agg #[.string ⟨#[115, 116, 111, 114, 101]⟩, .int .i64 a]] w (ShapePost ⟨#[115, 116, 111, 114, 101]⟩ w) := by
  go_enter Tryd.func24, Tryd.ntmps24
  go_wp2_with fail
  refine bodyPost_ret (results_tmp4 rfl _ _ _) rfl ?_
  exact ⟨_, _, _, _, rfl, by kernel_rfl, (Below.refl _ _).alloc (Nat.le_refl _) _⟩
set_option maxHeartbeats 1000000 in
theorem shape_5 (a : Int) (w : World) : Calls Tryd.prog 24 #[.agg #[.string ⟨#[99, 101, 108, 108]⟩, .int .i64 a]] w (ShapePost ⟨#[99, 101, 108, 108]⟩ w) := by
  go_enter Tryd.func24, Tryd.ntmps24
  go_wp2_with fail
  refine bodyPost_ret (results_tmp4 rfl _ _ _) rfl ?_
  exact ⟨_, _, _, _, rfl, by kernel_rfl, (Below.refl _ _).alloc (Nat.le_refl _) _⟩
set_option maxHeartbeats 1000000 in
theorem shape_6 (a : Int) (w : World) : Calls Tryd.prog 24 #[.agg #[.string ⟨#[102, 105, 108, 108]⟩, .int .i64 a]] w (ShapePost ⟨#[102, 105, 108, 108]⟩ w) := by
  go_enter Tryd.func24, Tryd.ntmps24
  go_wp2_with fail
  refine bodyPost_ret (results_tmp4 rfl _ _ _) rfl ?_
  exact ⟨_, _, _, _, rfl, by kernel_rfl, (Below.refl _ _).alloc (Nat.le_refl _) _⟩
set_option maxHeartbeats 1000000 in
theorem shape_7 (a : Int) (w : World) : Calls Tryd.prog 24 #[.agg #[.string ⟨#[103, 108, 111, 98, 97, 108]⟩, .int .i64 a]] w (ShapePost ⟨#[103, 108, 111, 98, 97, 108]⟩ w) := by
  go_enter Tryd.func24, Tryd.ntmps24
  go_wp2_with fail
  refine bodyPost_ret (results_tmp4 rfl _ _ _) rfl ?_
  exact ⟨_, _, _, _, rfl, by kernel_rfl, (Below.refl _ _).alloc (Nat.le_refl _) _⟩
set_option maxHeartbeats 1000000 in
theorem shape_8 (a : Int) (w : World) : Calls Tryd.prog 24 #[.agg #[.string ⟨#[110, 97, 109, 101]⟩, .int .i64 a]] w (ShapePost ⟨#[110, 97, 109, 101]⟩ w) := by
  go_enter Tryd.func24, Tryd.ntmps24
  go_wp2_with fail
  refine bodyPost_ret (results_tmp4 rfl _ _ _) rfl ?_
  exact ⟨_, _, _, _, rfl, by kernel_rfl, (Below.refl _ _).alloc (Nat.le_refl _) _⟩
set_option maxHeartbeats 1000000 in
theorem shape_9 (a : Int) (w : World) : Calls Tryd.prog 24 #[.agg #[.string ⟨#[110, 101, 103]⟩, .int .i64 a]] w (ShapePost ⟨#[110, 101, 103]⟩ w) := by
  go_enter Tryd.func24, Tryd.ntmps24
  go_wp2_with fail
  refine bodyPost_ret (results_tmp4 rfl _ _ _) rfl ?_
  exact ⟨_, _, _, _, rfl, by kernel_rfl, (Below.refl _ _).alloc (Nat.le_refl _) _⟩
set_option maxHeartbeats 1000000 in
theorem shape_10 (a : Int) (w : World) : Calls Tryd.prog 24 #[.agg #[.string ⟨#[110, 111, 116]⟩, .int .i64 a]] w (ShapePost ⟨#[110, 111, 116]⟩ w) := by
  go_enter Tryd.func24, Tryd.ntmps24
  go_wp2_with fail
  refine bodyPost_ret (results_tmp4 rfl _ _ _) rfl ?_
  exact ⟨_, _, _, _, rfl, by kernel_rfl, (Below.refl _ _).alloc (Nat.le_refl _) _⟩
set_option maxHeartbeats 1000000 in
theorem shape_11 (a : Int) (w : World) : Calls Tryd.prog 24 #[.agg #[.string ⟨#[97, 100, 100]⟩, .int .i64 a]] w (ShapePost ⟨#[97, 100, 100]⟩ w) := by
  go_enter Tryd.func24, Tryd.ntmps24
  go_wp2_with fail
  refine bodyPost_ret (results_tmp4 rfl _ _ _) rfl ?_
  exact ⟨_, _, _, _, rfl, by kernel_rfl, (Below.refl _ _).alloc (Nat.le_refl _) _⟩
set_option maxHeartbeats 1000000 in
theorem shape_12 (a : Int) (w : World) : Calls Tryd.prog 24 #[.agg #[.string ⟨#[115, 117, 98]⟩, .int .i64 a]] w (ShapePost ⟨#[115, 117, 98]⟩ w) := by
  go_enter Tryd.func24, Tryd.ntmps24
  go_wp2_with fail
  refine bodyPost_ret (results_tmp4 rfl _ _ _) rfl ?_
  exact ⟨_, _, _, _, rfl, by kernel_rfl, (Below.refl _ _).alloc (Nat.le_refl _) _⟩
set_option maxHeartbeats 1000000 in
theorem shape_13 (a : Int) (w : World) : Calls Tryd.prog 24 #[.agg #[.string ⟨#[109, 117, 108]⟩, .int .i64 a]] w (ShapePost ⟨#[109, 117, 108]⟩ w) := by
  go_enter Tryd.func24, Tryd.ntmps24
  go_wp2_with fail
  refine bodyPost_ret (results_tmp4 rfl _ _ _) rfl ?_
  exact ⟨_, _, _, _, rfl, by kernel_rfl, (Below.refl _ _).alloc (Nat.le_refl _) _⟩
set_option maxHeartbeats 1000000 in
theorem shape_14 (a : Int) (w : World) : Calls Tryd.prog 24 #[.agg #[.string ⟨#[100, 105, 118]⟩, .int .i64 a]] w (ShapePost ⟨#[100, 105, 118]⟩ w) := by
  go_enter Tryd.func24, Tryd.ntmps24
  go_wp2_with fail
  refine bodyPost_ret (results_tmp4 rfl _ _ _) rfl ?_
  exact ⟨_, _, _, _, rfl, by kernel_rfl, (Below.refl _ _).alloc (Nat.le_refl _) _⟩
set_option maxHeartbeats 1000000 in
theorem shape_15 (a : Int) (w : World) : Calls Tryd.prog 24 #[.agg #[.string ⟨#[109, 111, 100]⟩, .int .i64 a]] w (ShapePost ⟨#[109, 111, 100]⟩ w) := by
  go_enter Tryd.func24, Tryd.ntmps24
  go_wp2_with fail
  refine bodyPost_ret (results_tmp4 rfl _ _ _) rfl ?_
  exact ⟨_, _, _, _, rfl, by kernel_rfl, (Below.refl _ _).alloc (Nat.le_refl _) _⟩
set_option maxHeartbeats 1000000 in
theorem shape_16 (a : Int) (w : World) : Calls Tryd.prog 24 #[.agg #[.string ⟨#[101, 113]⟩, .int .i64 a]] w (ShapePost ⟨#[101, 113]⟩ w) := by
  go_enter Tryd.func24, Tryd.ntmps24
  go_wp2_with fail
  refine bodyPost_ret (results_tmp4 rfl _ _ _) rfl ?_
  exact ⟨_, _, _, _, rfl, by kernel_rfl, (Below.refl _ _).alloc (Nat.le_refl _) _⟩
set_option maxHeartbeats 1000000 in
theorem shape_17 (a : Int) (w : World) : Calls Tryd.prog 24 #[.agg #[.string ⟨#[110, 101]⟩, .int .i64 a]] w (ShapePost ⟨#[110, 101]⟩ w) := by
  go_enter Tryd.func24, Tryd.ntmps24
  go_wp2_with fail
  refine bodyPost_ret (results_tmp4 rfl _ _ _) rfl ?_
  exact ⟨_, _, _, _, rfl, by kernel_rfl, (Below.refl _ _).alloc (Nat.le_refl _) _⟩
set_option maxHeartbeats 1000000 in
theorem shape_18 (a : Int) (w : World) : Calls Tryd.prog 24 #[.agg #[.string ⟨#[108, 116]⟩, .int .i64 a]] w (ShapePost ⟨#[108, 116]⟩ w) := by
  go_enter Tryd.func24, Tryd.ntmps24
  go_wp2_with fail
  refine bodyPost_ret (results_tmp4 rfl _ _ _) rfl ?_
  exact ⟨_, _, _, _, rfl, by kernel_rfl, (Below.refl _ _).alloc (Nat.le_refl _) _⟩
set_option maxHeartbeats 1000000 in
theorem shape_19 (a : Int) (w : World) : Calls Tryd.prog 24 #[.agg #[.string ⟨#[108, 101]⟩, .int .i64 a]] w (ShapePost ⟨#[108, 101]⟩ w) := by
  go_enter Tryd.func24, Tryd.ntmps24
  go_wp2_with fail
  refine bodyPost_ret (results_tmp4 rfl _ _ _) rfl ?_
  exact ⟨_, _, _, _, rfl, by kernel_rfl, (Below.refl _ _).alloc (Nat.le_refl _) _⟩
set_option maxHeartbeats 1000000 in
theorem shape_20 (a : Int) (w : World) : Calls Tryd.prog 24 #[.agg #[.string ⟨#[103, 116]⟩, .int .i64 a]] w (ShapePost ⟨#[103, 116]⟩ w) := by
  go_enter Tryd.func24, Tryd.ntmps24
  go_wp2_with fail
  refine bodyPost_ret (results_tmp4 rfl _ _ _) rfl ?_
  exact ⟨_, _, _, _, rfl, by kernel_rfl, (Below.refl _ _).alloc (Nat.le_refl _) _⟩
set_option maxHeartbeats 1000000 in
theorem shape_21 (a : Int) (w : World) : Calls Tryd.prog 24 #[.agg #[.string ⟨#[103, 101]⟩, .int .i64 a]] w (ShapePost ⟨#[103, 101]⟩ w) := by
  go_enter Tryd.func24, Tryd.ntmps24
  go_wp2_with fail
  refine bodyPost_ret (results_tmp4 rfl _ _ _) rfl ?_
  exact ⟨_, _, _, _, rfl, by kernel_rfl, (Below.refl _ _).alloc (Nat.le_refl _) _⟩
set_option maxHeartbeats 1000000 in
theorem shape_22 (a : Int) (w : World) : Calls Tryd.prog 24 #[.agg #[.string ⟨#[105, 115]⟩, .int .i64 a]] w (ShapePost ⟨#[105, 115]⟩ w) := by
  go_enter Tryd.func24, Tryd.ntmps24
  go_wp2_with fail
  refine bodyPost_ret (results_tmp4 rfl _ _ _) rfl ?_
  exact ⟨_, _, _, _, rfl, by kernel_rfl, (Below.refl _ _).alloc (Nat.le_refl _) _⟩
set_option maxHeartbeats 1000000 in
theorem shape_23 (a : Int) (w : World) : Calls Tryd.prog 24 #[.agg #[.string ⟨#[105, 110]⟩, .int .i64 a]] w (ShapePost ⟨#[105, 110]⟩ w) := by
  go_enter Tryd.func24, Tryd.ntmps24
  go_wp2_with fail
  refine bodyPost_ret (results_tmp4 rfl _ _ _) rfl ?_
  exact ⟨_, _, _, _, rfl, by kernel_rfl, (Below.refl _ _).alloc (Nat.le_refl _) _⟩
set_option maxHeartbeats 1000000 in
theorem shape_24 (a : Int) (w : World) : Calls Tryd.prog 24 #[.agg #[.string ⟨#[99, 97, 108, 108]⟩, .int .i64 a]] w (ShapePost ⟨#[99, 97, 108, 108]⟩ w) := by
  go_enter Tryd.func24, Tryd.ntmps24
  go_wp2_with fail
  refine bodyPost_ret (results_tmp4 rfl _ _ _) rfl ?_
  exact ⟨_, _, _, _, rfl, by kernel_rfl, (Below.refl _ _).alloc (Nat.le_refl _) _⟩
set_option maxHeartbeats 1000000 in
theorem shape_25 (a : Int) (w : World) : Calls Tryd.prog 24 #[.agg #[.string ⟨#[105, 110, 100, 101, 120]⟩, .int .i64 a]] w (ShapePost ⟨#[105, 110, 100, 101, 120]⟩ w) := by
  go_enter Tryd.func24, Tryd.ntmps24
  go_wp2_with fail
  refine bodyPost_ret (results_tmp4 rfl _ _ _) rfl ?_
  exact ⟨_, _, _, _, rfl, by kernel_rfl, (Below.refl _ _).alloc (Nat.le_refl _) _⟩
set_option maxHeartbeats 1000000 in
theorem shape_26 (a : Int) (w : World) : Calls Tryd.prog 24 #[.agg #[.string ⟨#[112, 117, 116]⟩, .int .i64 a]] w (ShapePost ⟨#[112, 117, 116]⟩ w) := by
  go_enter Tryd.func24, Tryd.ntmps24
  go_wp2_with fail
  refine bodyPost_ret (results_tmp4 rfl _ _ _) rfl ?_
  exact ⟨_, _, _, _, rfl, by kernel_rfl, (Below.refl _ _).alloc (Nat.le_refl _) _⟩
set_option maxHeartbeats 1000000 in
theorem shape_27 (a : Int) (w : World) : Calls Tryd.prog 24 #[.agg #[.string ⟨#[100, 101, 108]⟩, .int .i64 a]] w (ShapePost ⟨#[100, 101, 108]⟩ w) := by
  go_enter Tryd.func24, Tryd.ntmps24
  go_wp2_with fail
  refine bodyPost_ret (results_tmp4 rfl _ _ _) rfl ?_
  exact ⟨_, _, _, _, rfl, by kernel_rfl, (Below.refl _ _).alloc (Nat.le_refl _) _⟩
set_option maxHeartbeats 1000000 in
theorem shape_28 (a : Int) (w : World) : Calls Tryd.prog 24 #[.agg #[.string ⟨#[108, 105, 115, 116]⟩, .int .i64 a]] w (ShapePost ⟨#[108, 105, 115, 116]⟩ w) := by
  go_enter Tryd.func24, Tryd.ntmps24
  go_wp2_with fail
  refine bodyPost_ret (results_tmp4 rfl _ _ _) rfl ?_
  exact ⟨_, _, _, _, rfl, by kernel_rfl, (Below.refl _ _).alloc (Nat.le_refl _) _⟩
set_option maxHeartbeats 1000000 in
theorem shape_29 (a : Int) (w : World) : Calls Tryd.prog 24 #[.agg #[.string ⟨#[100, 105, 99, 116]⟩, .int .i64 a]] w (ShapePost ⟨#[100, 105, 99, 116]⟩ w) := by
  go_enter Tryd.func24, Tryd.ntmps24
  go_wp2_with fail
  refine bodyPost_ret (results_tmp4 rfl _ _ _) rfl ?_
  exact ⟨_, _, _, _, rfl, by kernel_rfl, (Below.refl _ _).alloc (Nat.le_refl _) _⟩
set_option maxHeartbeats 1000000 in
theorem shape_30 (a : Int) (w : World) : Calls Tryd.prog 24 #[.agg #[.string ⟨#[99, 108, 111, 115, 117, 114, 101]⟩, .int .i64 a]] w (ShapePost ⟨#[99, 108, 111, 115, 117, 114, 101]⟩ w) := by
  go_enter Tryd.func24, Tryd.ntmps24
  go_wp2_with fail
  refine bodyPost_ret (results_tmp4 rfl _ _ _) rfl ?_
  exact ⟨_, _, _, _, rfl, by kernel_rfl, (Below.refl _ _).alloc (Nat.le_refl _) _⟩
set_option maxHeartbeats 1000000 in
theorem shape_31 (a : Int) (w : World) : Calls Tryd.prog 24 #[.agg #[.string ⟨#[116, 97, 107, 101]⟩, .int .i64 a]] w (ShapePost ⟨#[116, 97, 107, 101]⟩ w) := by
  go_enter Tryd.func24, Tryd.ntmps24
  go_wp2_with fail
  refine bodyPost_ret (results_tmp4 rfl _ _ _) rfl ?_
  exact ⟨_, _, _, _, rfl, by kernel_rfl, (Below.refl _ _).alloc (Nat.le_refl _) _⟩
set_option maxHeartbeats 1000000 in
theorem shape_32 (a : Int) (w : World) : Calls Tryd.prog 24 #[.agg #[.string ⟨#[112, 111, 112]⟩, .int .i64 a]] w (ShapePost ⟨#[112, 111, 112]⟩ w) := by
  go_enter Tryd.func24, Tryd.ntmps24
  go_wp2_with fail
  refine bodyPost_ret (results_tmp4 rfl _ _ _) rfl ?_
  exact ⟨_, _, _, _, rfl, by kernel_rfl, (Below.refl _ _).alloc (Nat.le_refl _) _⟩
set_option maxHeartbeats 1000000 in
theorem shape_33 (a : Int) (w : World) : Calls Tryd.prog 24 #[.agg #[.string ⟨#[100, 117, 112]⟩, .int .i64 a]] w (ShapePost ⟨#[100, 117, 112]⟩ w) := by
  go_enter Tryd.func24, Tryd.ntmps24
  go_wp2_with fail
  refine bodyPost_ret (results_tmp4 rfl _ _ _) rfl ?_
  exact ⟨_, _, _, _, rfl, by kernel_rfl, (Below.refl _ _).alloc (Nat.le_refl _) _⟩
set_option maxHeartbeats 1000000 in
theorem shape_34 (a : Int) (w : World) : Calls Tryd.prog 24 #[.agg #[.string ⟨#[106, 117, 109, 112]⟩, .int .i64 a]] w (ShapePost ⟨#[106, 117, 109, 112]⟩ w) := by
  go_enter Tryd.func24, Tryd.ntmps24
  go_wp2_with fail
  refine bodyPost_ret (results_tmp4 rfl _ _ _) rfl ?_
  exact ⟨_, _, _, _, rfl, by kernel_rfl, (Below.refl _ _).alloc (Nat.le_refl _) _⟩
set_option maxHeartbeats 1000000 in
theorem shape_35 (a : Int) (w : World) : Calls Tryd.prog 24 #[.agg #[.string ⟨#[117, 110, 108, 101, 115, 115]⟩, .int .i64 a]] w (ShapePost ⟨#[117, 110, 108, 101, 115, 115]⟩ w) := by
  go_enter Tryd.func24, Tryd.ntmps24
  go_wp2_with fail
  refine bodyPost_ret (results_tmp4 rfl _ _ _) rfl ?_
  exact ⟨_, _, _, _, rfl, by kernel_rfl, (Below.refl _ _).alloc (Nat.le_refl _) _⟩
set_option maxHeartbeats 1000000 in
theorem shape_36 (a : Int) (w : World) : Calls Tryd.prog 24 #[.agg #[.string ⟨#[105, 116, 101, 114]⟩, .int .i64 a]] w (ShapePost ⟨#[105, 116, 101, 114]⟩ w) := by
  go_enter Tryd.func24, Tryd.ntmps24
  go_wp2_with fail
  refine bodyPost_ret (results_tmp4 rfl _ _ _) rfl ?_
  exact ⟨_, _, _, _, rfl, by kernel_rfl, (Below.refl _ _).alloc (Nat.le_refl _) _⟩
set_option maxHeartbeats 1000000 in
theorem shape_37 (a : Int) (w : World) : Calls Tryd.prog 24 #[.agg #[.string ⟨#[110, 101, 120, 116]⟩, .int .i64 a]] w (ShapePost ⟨#[110, 101, 120, 116]⟩ w) := by
  go_enter Tryd.func24, Tryd.ntmps24
  go_wp2_with fail
  refine bodyPost_ret (results_tmp4 rfl _ _ _) rfl ?_
  exact ⟨_, _, _, _, rfl, by kernel_rfl, (Below.refl _ _).alloc (Nat.le_refl _) _⟩
set_option maxHeartbeats 1000000 in
theorem shape_38 (a : Int) (w : World) : Calls Tryd.prog 24 #[.agg #[.string ⟨#[116, 114, 121]⟩, .int .i64 a]] w (ShapePost ⟨#[116, 114, 121]⟩ w) := by
  go_enter Tryd.func24, Tryd.ntmps24
  go_wp2_with fail
  refine bodyPost_ret (results_tmp4 rfl _ _ _) rfl ?_
  exact ⟨_, _, _, _, rfl, by kernel_rfl, (Below.refl _ _).alloc (Nat.le_refl _) _⟩
set_option maxHeartbeats 1000000 in
theorem shape_39 (a : Int) (w : World) : Calls Tryd.prog 24 #[.agg #[.string ⟨#[101, 110, 100]⟩, .int .i64 a]] w (ShapePost ⟨#[101, 110, 100]⟩ w) := by
  go_enter Tryd.func24, Tryd.ntmps24
  go_wp2_with fail
  refine bodyPost_ret (results_tmp4 rfl _ _ _) rfl ?_
  exact ⟨_, _, _, _, rfl, by kernel_rfl, (Below.refl _ _).alloc (Nat.le_refl _) _⟩
set_option maxHeartbeats 1000000 in
theorem shape_40 (a : Int) (w : World) : Calls Tryd.prog 24 #[.agg #[.string ⟨#[114, 97, 105, 115, 101]⟩, .int .i64 a]] w (ShapePost ⟨#[114, 97, 105, 115, 101]⟩ w) := by
  go_enter Tryd.func24, Tryd.ntmps24
  go_wp2_with fail
  refine bodyPost_ret (results_tmp4 rfl _ _ _) rfl ?_
  exact ⟨_, _, _, _, rfl, by kernel_rfl, (Below.refl _ _).alloc (Nat.le_refl _) _⟩
set_option maxHeartbeats 1000000 in
theorem shape_41 (a : Int) (w : World) : Calls Tryd.prog 24 #[.agg #[.string ⟨#[114, 101, 116, 117, 114, 110]⟩, .int .i64 a]] w (ShapePost ⟨#[114, 101, 116, 117, 114, 110]⟩ w) := by
  go_enter Tryd.func24, Tryd.ntmps24
  go_wp2_with fail
  refine bodyPost_ret (results_tmp4 rfl _ _ _) rfl ?_
  exact ⟨_, _, _, _, rfl, by kernel_rfl, (Below.refl _ _).alloc (Nat.le_refl _) _⟩
set_option maxHeartbeats 1000000 in
theorem shape_42 (a : Int) (w : World) : Calls Tryd.prog 24 #[.agg #[.string ⟨#[115, 116, 101, 112]⟩, .int .i64 a]] w (ShapePost ⟨#[115, 116, 101, 112]⟩ w) := by
  go_enter Tryd.func24, Tryd.ntmps24
  go_wp2_with fail
  refine bodyPost_ret (results_tmp4 rfl _ _ _) rfl ?_
  exact ⟨_, _, _, _, rfl, by kernel_rfl, (Below.refl _ _).alloc (Nat.le_refl _) _⟩
set_option maxHeartbeats 1000000 in
theorem shape_43 (a : Int) (w : World) : Calls Tryd.prog 24 #[.agg #[.string ⟨#[104, 97, 108, 116]⟩, .int .i64 a]] w (ShapePost ⟨#[104, 97, 108, 116]⟩ w) := by
  go_enter Tryd.func24, Tryd.ntmps24
  go_wp2_with fail
  refine bodyPost_ret (results_tmp4 rfl _ _ _) rfl ?_
  exact ⟨_, _, _, _, rfl, by kernel_rfl, (Below.refl _ _).alloc (Nat.le_refl _) _⟩
set_option maxHeartbeats 1000000 in
theorem shape_func (a : Int) (w : World) : Calls Tryd.prog 24 #[.agg #[.string ⟨#[102, 117, 110, 99]⟩, .int .i64 a]] w (ShapePost ⟨#[102, 117, 110, 99]⟩ w) := by
  go_enter Tryd.func24, Tryd.ntmps24
  go_wp2_with fail
  refine bodyPost_ret (results_tmp4 rfl _ _ _) rfl ?_
  exact ⟨_, _, _, _, rfl, by kernel_rfl, (Below.refl _ _).alloc (Nat.le_refl _) _⟩
theorem find_skip {s : List UInt8} {p : List UInt8 × (Int × Int × Int × Int × Int × Bool)} {r : List (List UInt8 × (Int × Int × Int × Int × Int × Bool))} {z x : Int × Int × Int × Int × Int × Bool} (h : (s == p.1) = false) (hr : shapeFind s r z = x) : shapeFind s (p :: r) z = x := by
  have e : ¬ p.1 = s := fun e => by rw [e] at h; simp at h
  unfold shapeFind
  rw [if_neg e]
  exact hr
set_option maxHeartbeats 4000000 in
set_option maxRecDepth 100000 in
theorem shape_none (s : ByteArray) (a : Int) (w : World) (n0 : (s.toList == [99, 111, 110, 115, 116]) = false) (n1 : (s.toList == [105, 110, 116]) = false) (n2 : (s.toList == [115, 116, 114]) = false) (n3 : (s.toList == [108, 111, 97, 100]) = false) (n4 : (s.toList == [115, 116, 111, 114, 101]) = false) (n5 : (s.toList == [99, 101, 108, 108]) = false) (n6 : (s.toList == [102, 105, 108, 108]) = false) (n7 : (s.toList == [103, 108, 111, 98, 97, 108]) = false) (n8 : (s.toList == [110, 97, 109, 101]) = false) (n9 : (s.toList == [110, 101, 103]) = false) (n10 : (s.toList == [110, 111, 116]) = false) (n11 : (s.toList == [97, 100, 100]) = false) (n12 : (s.toList == [115, 117, 98]) = false) (n13 : (s.toList == [109, 117, 108]) = false) (n14 : (s.toList == [100, 105, 118]) = false) (n15 : (s.toList == [109, 111, 100]) = false) (n16 : (s.toList == [101, 113]) = false) (n17 : (s.toList == [110, 101]) = false) (n18 : (s.toList == [108, 116]) = false) (n19 : (s.toList == [108, 101]) = false) (n20 : (s.toList == [103, 116]) = false) (n21 : (s.toList == [103, 101]) = false) (n22 : (s.toList == [105, 115]) = false) (n23 : (s.toList == [105, 110]) = false) (n24 : (s.toList == [99, 97, 108, 108]) = false) (n25 : (s.toList == [105, 110, 100, 101, 120]) = false) (n26 : (s.toList == [112, 117, 116]) = false) (n27 : (s.toList == [100, 101, 108]) = false) (n28 : (s.toList == [108, 105, 115, 116]) = false) (n29 : (s.toList == [100, 105, 99, 116]) = false) (n30 : (s.toList == [99, 108, 111, 115, 117, 114, 101]) = false) (n31 : (s.toList == [116, 97, 107, 101]) = false) (n32 : (s.toList == [112, 111, 112]) = false) (n33 : (s.toList == [100, 117, 112]) = false) (n34 : (s.toList == [106, 117, 109, 112]) = false) (n35 : (s.toList == [117, 110, 108, 101, 115, 115]) = false) (n36 : (s.toList == [105, 116, 101, 114]) = false) (n37 : (s.toList == [110, 101, 120, 116]) = false) (n38 : (s.toList == [116, 114, 121]) = false) (n39 : (s.toList == [101, 110, 100]) = false) (n40 : (s.toList == [114, 97, 105, 115, 101]) = false) (n41 : (s.toList == [114, 101, 116, 117, 114, 110]) = false) (n42 : (s.toList == [115, 116, 101, 112]) = false) (n43 : (s.toList == [104, 97, 108, 116]) = false) (n44 : (s.toList == [102, 117, 110, 99]) = false) :
    Calls Tryd.prog 24 #[.agg #[.string s, .int .i64 a]] w (ShapePost s w) := by
  have hA : hasA s = false := by
    have e : shapeOf s = (0, 0, 0, 0, 0, false) := by
      unfold shapeOf
      rw [← ByteArray.toList_eq]
      exact find_skip n0 <| find_skip n1 <| find_skip n2 <| find_skip n3 <| find_skip n4 <| find_skip n5 <| find_skip n6 <| find_skip n7 <| find_skip n8 <| find_skip n9 <| find_skip n10 <| find_skip n11 <| find_skip n12 <| find_skip n13 <| find_skip n14 <| find_skip n15 <| find_skip n16 <| find_skip n17 <| find_skip n18 <| find_skip n19 <| find_skip n20 <| find_skip n21 <| find_skip n22 <| find_skip n23 <| find_skip n24 <| find_skip n25 <| find_skip n26 <| find_skip n27 <| find_skip n28 <| find_skip n29 <| find_skip n30 <| find_skip n31 <| find_skip n32 <| find_skip n33 <| find_skip n34 <| find_skip n35 <| find_skip n36 <| find_skip n37 <| find_skip n38 <| find_skip n39 <| find_skip n40 <| find_skip n41 <| find_skip n42 <| find_skip n43 <| rfl
    unfold hasA
    rw [e]
    rfl
  go_enter Tryd.func24, Tryd.ntmps24
  go_wp2_with fail
  refine bodyPost_ret (results_tmp4 rfl _ _ _) rfl ?_
  exact ⟨_, _, _, _, rfl, by rw [hA]; kernel_rfl, (Below.refl _ _).alloc (Nat.le_refl _) _⟩
theorem str_of {s : ByteArray} {l : List UInt8} (h : s.toList = l) : s = ⟨l.toArray⟩ := by
  apply ByteArray.ext
  rw [← h, ByteArray.toList_eq]
set_option maxRecDepth 100000 in
/-- SHAPE OF ANY OP. -/
theorem shape_any (s : ByteArray) (a : Int) (w : World) : Calls Tryd.prog 24 #[.agg #[.string s, .int .i64 a]] w (ShapePost s w) := by
  by_cases n0 : (s.toList == [99, 111, 110, 115, 116]) = true
  · rw [str_of (beq_iff_eq.1 n0)]
    exact shape_0 a w
  rw [Bool.not_eq_true] at n0
  by_cases n1 : (s.toList == [105, 110, 116]) = true
  · rw [str_of (beq_iff_eq.1 n1)]
    exact shape_1 a w
  rw [Bool.not_eq_true] at n1
  by_cases n2 : (s.toList == [115, 116, 114]) = true
  · rw [str_of (beq_iff_eq.1 n2)]
    exact shape_2 a w
  rw [Bool.not_eq_true] at n2
  by_cases n3 : (s.toList == [108, 111, 97, 100]) = true
  · rw [str_of (beq_iff_eq.1 n3)]
    exact shape_3 a w
  rw [Bool.not_eq_true] at n3
  by_cases n4 : (s.toList == [115, 116, 111, 114, 101]) = true
  · rw [str_of (beq_iff_eq.1 n4)]
    exact shape_4 a w
  rw [Bool.not_eq_true] at n4
  by_cases n5 : (s.toList == [99, 101, 108, 108]) = true
  · rw [str_of (beq_iff_eq.1 n5)]
    exact shape_5 a w
  rw [Bool.not_eq_true] at n5
  by_cases n6 : (s.toList == [102, 105, 108, 108]) = true
  · rw [str_of (beq_iff_eq.1 n6)]
    exact shape_6 a w
  rw [Bool.not_eq_true] at n6
  by_cases n7 : (s.toList == [103, 108, 111, 98, 97, 108]) = true
  · rw [str_of (beq_iff_eq.1 n7)]
    exact shape_7 a w
  rw [Bool.not_eq_true] at n7
  by_cases n8 : (s.toList == [110, 97, 109, 101]) = true
  · rw [str_of (beq_iff_eq.1 n8)]
    exact shape_8 a w
  rw [Bool.not_eq_true] at n8
  by_cases n9 : (s.toList == [110, 101, 103]) = true
  · rw [str_of (beq_iff_eq.1 n9)]
    exact shape_9 a w
  rw [Bool.not_eq_true] at n9
  by_cases n10 : (s.toList == [110, 111, 116]) = true
  · rw [str_of (beq_iff_eq.1 n10)]
    exact shape_10 a w
  rw [Bool.not_eq_true] at n10
  by_cases n11 : (s.toList == [97, 100, 100]) = true
  · rw [str_of (beq_iff_eq.1 n11)]
    exact shape_11 a w
  rw [Bool.not_eq_true] at n11
  by_cases n12 : (s.toList == [115, 117, 98]) = true
  · rw [str_of (beq_iff_eq.1 n12)]
    exact shape_12 a w
  rw [Bool.not_eq_true] at n12
  by_cases n13 : (s.toList == [109, 117, 108]) = true
  · rw [str_of (beq_iff_eq.1 n13)]
    exact shape_13 a w
  rw [Bool.not_eq_true] at n13
  by_cases n14 : (s.toList == [100, 105, 118]) = true
  · rw [str_of (beq_iff_eq.1 n14)]
    exact shape_14 a w
  rw [Bool.not_eq_true] at n14
  by_cases n15 : (s.toList == [109, 111, 100]) = true
  · rw [str_of (beq_iff_eq.1 n15)]
    exact shape_15 a w
  rw [Bool.not_eq_true] at n15
  by_cases n16 : (s.toList == [101, 113]) = true
  · rw [str_of (beq_iff_eq.1 n16)]
    exact shape_16 a w
  rw [Bool.not_eq_true] at n16
  by_cases n17 : (s.toList == [110, 101]) = true
  · rw [str_of (beq_iff_eq.1 n17)]
    exact shape_17 a w
  rw [Bool.not_eq_true] at n17
  by_cases n18 : (s.toList == [108, 116]) = true
  · rw [str_of (beq_iff_eq.1 n18)]
    exact shape_18 a w
  rw [Bool.not_eq_true] at n18
  by_cases n19 : (s.toList == [108, 101]) = true
  · rw [str_of (beq_iff_eq.1 n19)]
    exact shape_19 a w
  rw [Bool.not_eq_true] at n19
  by_cases n20 : (s.toList == [103, 116]) = true
  · rw [str_of (beq_iff_eq.1 n20)]
    exact shape_20 a w
  rw [Bool.not_eq_true] at n20
  by_cases n21 : (s.toList == [103, 101]) = true
  · rw [str_of (beq_iff_eq.1 n21)]
    exact shape_21 a w
  rw [Bool.not_eq_true] at n21
  by_cases n22 : (s.toList == [105, 115]) = true
  · rw [str_of (beq_iff_eq.1 n22)]
    exact shape_22 a w
  rw [Bool.not_eq_true] at n22
  by_cases n23 : (s.toList == [105, 110]) = true
  · rw [str_of (beq_iff_eq.1 n23)]
    exact shape_23 a w
  rw [Bool.not_eq_true] at n23
  by_cases n24 : (s.toList == [99, 97, 108, 108]) = true
  · rw [str_of (beq_iff_eq.1 n24)]
    exact shape_24 a w
  rw [Bool.not_eq_true] at n24
  by_cases n25 : (s.toList == [105, 110, 100, 101, 120]) = true
  · rw [str_of (beq_iff_eq.1 n25)]
    exact shape_25 a w
  rw [Bool.not_eq_true] at n25
  by_cases n26 : (s.toList == [112, 117, 116]) = true
  · rw [str_of (beq_iff_eq.1 n26)]
    exact shape_26 a w
  rw [Bool.not_eq_true] at n26
  by_cases n27 : (s.toList == [100, 101, 108]) = true
  · rw [str_of (beq_iff_eq.1 n27)]
    exact shape_27 a w
  rw [Bool.not_eq_true] at n27
  by_cases n28 : (s.toList == [108, 105, 115, 116]) = true
  · rw [str_of (beq_iff_eq.1 n28)]
    exact shape_28 a w
  rw [Bool.not_eq_true] at n28
  by_cases n29 : (s.toList == [100, 105, 99, 116]) = true
  · rw [str_of (beq_iff_eq.1 n29)]
    exact shape_29 a w
  rw [Bool.not_eq_true] at n29
  by_cases n30 : (s.toList == [99, 108, 111, 115, 117, 114, 101]) = true
  · rw [str_of (beq_iff_eq.1 n30)]
    exact shape_30 a w
  rw [Bool.not_eq_true] at n30
  by_cases n31 : (s.toList == [116, 97, 107, 101]) = true
  · rw [str_of (beq_iff_eq.1 n31)]
    exact shape_31 a w
  rw [Bool.not_eq_true] at n31
  by_cases n32 : (s.toList == [112, 111, 112]) = true
  · rw [str_of (beq_iff_eq.1 n32)]
    exact shape_32 a w
  rw [Bool.not_eq_true] at n32
  by_cases n33 : (s.toList == [100, 117, 112]) = true
  · rw [str_of (beq_iff_eq.1 n33)]
    exact shape_33 a w
  rw [Bool.not_eq_true] at n33
  by_cases n34 : (s.toList == [106, 117, 109, 112]) = true
  · rw [str_of (beq_iff_eq.1 n34)]
    exact shape_34 a w
  rw [Bool.not_eq_true] at n34
  by_cases n35 : (s.toList == [117, 110, 108, 101, 115, 115]) = true
  · rw [str_of (beq_iff_eq.1 n35)]
    exact shape_35 a w
  rw [Bool.not_eq_true] at n35
  by_cases n36 : (s.toList == [105, 116, 101, 114]) = true
  · rw [str_of (beq_iff_eq.1 n36)]
    exact shape_36 a w
  rw [Bool.not_eq_true] at n36
  by_cases n37 : (s.toList == [110, 101, 120, 116]) = true
  · rw [str_of (beq_iff_eq.1 n37)]
    exact shape_37 a w
  rw [Bool.not_eq_true] at n37
  by_cases n38 : (s.toList == [116, 114, 121]) = true
  · rw [str_of (beq_iff_eq.1 n38)]
    exact shape_38 a w
  rw [Bool.not_eq_true] at n38
  by_cases n39 : (s.toList == [101, 110, 100]) = true
  · rw [str_of (beq_iff_eq.1 n39)]
    exact shape_39 a w
  rw [Bool.not_eq_true] at n39
  by_cases n40 : (s.toList == [114, 97, 105, 115, 101]) = true
  · rw [str_of (beq_iff_eq.1 n40)]
    exact shape_40 a w
  rw [Bool.not_eq_true] at n40
  by_cases n41 : (s.toList == [114, 101, 116, 117, 114, 110]) = true
  · rw [str_of (beq_iff_eq.1 n41)]
    exact shape_41 a w
  rw [Bool.not_eq_true] at n41
  by_cases n42 : (s.toList == [115, 116, 101, 112]) = true
  · rw [str_of (beq_iff_eq.1 n42)]
    exact shape_42 a w
  rw [Bool.not_eq_true] at n42
  by_cases n43 : (s.toList == [104, 97, 108, 116]) = true
  · rw [str_of (beq_iff_eq.1 n43)]
    exact shape_43 a w
  rw [Bool.not_eq_true] at n43
  by_cases n44 : (s.toList == [102, 117, 110, 99]) = true
  · rw [str_of (beq_iff_eq.1 n44)]
    exact shape_func a w
  rw [Bool.not_eq_true] at n44
  exact shape_none s a w n0 n1 n2 n3 n4 n5 n6 n7 n8 n9 n10 n11 n12 n13 n14 n15 n16 n17 n18 n19 n20 n21 n22 n23 n24 n25 n26 n27 n28 n29 n30 n31 n32 n33 n34 n35 n36 n37 n38 n39 n40 n41 n42 n43 n44
end Go.Proofs.YtgpfjlejmcdpmaaDoor
