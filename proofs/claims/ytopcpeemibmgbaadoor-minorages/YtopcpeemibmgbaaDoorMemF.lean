/- The document's memory: CheckOf of a memory with no objects; memBack; MemNew, by contracts. -/
import Derived.Test.YtopcpeemibmgbaaDoorMemE
import Derived.OwnWalk
namespace Go.Proofs.YtopcpeemibmgbaaDoor
open Go.RowKit

theorem objects_none (m : Value) (x y : Int) (h : ¬ x < y) (w : World) :
    Calls Tryd.prog 24 #[m, .int .i64 x, .int .i64 y] w fun ev w' => ev = .returned (.tuple #[.slice none 0 0, .bool true]) ∧ w' = w := by
  go_enter Tryd.func24, Tryd.ntmps24
  go_wp2_with fail
  refine wp_loop_rounds 1 ?_
  rw [rounds_succ]
  go_wp2
  go_ret2
  exact ⟨rfl, rfl⟩
theorem fieldsOK_none (ao : Option Addr) (c : Nat) (l : Value) (w : World) :
    Calls Tryd.prog 17 #[.slice ao 0 c, l] w fun ev w' => ev = .returned (.bool true) ∧ w' = w := by
  go_enter Tryd.func17, Tryd.ntmps17
  go_wp2_with fail
  refine wp_loop_rounds 1 ?_
  rw [rounds_succ]
  go_wp2
  go_ret
  exact ⟨rfl, rfl⟩
set_option maxRecDepth 100000 in
theorem infoObj : ∃ i, Tryd.prog.info? 35 = some i ∧ i.zero = some (.agg #[.int .i64 0, .int .i64 0, .int .i64 0, .int .i64 0]) ∧ i.size = 4 ∧ i.bytes = 32 := by
  refine ⟨(Tryd.prog.info? 35).get (by kernel_rfl), ?_, ?_, ?_, ?_⟩
  · exact (Option.some_get _).symm
  · kernel_rfl
  · kernel_rfl
  · kernel_rfl
set_option maxHeartbeats 4000000 in
theorem all_none (p o : Nat) (half old card : Int) (W : Value) (r k i c : Value) (h0 : 1 ≤ half) (h1 : half ≤ 65536) (w : World) (M : MemO p o half old card W 0 0 0 r k i c w) :
    Calls Tryd.prog 12 #[.pointer (some ⟨p, o, none⟩)] w fun ev w' => ev = .returned (.tuple #[.slice none 0 0, .bool true]) ∧ ∃ q, w' = w.drewN q := by
  obtain ⟨c0, c1, c2, c3, c4, c5, c6, c7, c8, c9, c10⟩ := M
  have e1 : IntKind.i64.wrap (0 * half) = 0 := by rw [Int.zero_mul]; decide
  have e2 : IntKind.i64.wrap (0 + 0) = 0 := by decide
  have e3 : IntKind.i64.wrap (2 * half) = 2 * half := wrapI _ (by omega) (by omega)
  have e4 : IntKind.i64.wrap (2 * half + 0) = 2 * half := by rw [Int.add_zero]; exact e3
  have k1 : Hid (∀ w, Calls Tryd.prog 24 #[.pointer (some ⟨p, o, none⟩), .int .i64 0, .int .i64 0] w fun ev w' => ev = .returned (.tuple #[.slice none 0 0, .bool true]) ∧ w' = w) := fun w => objects_none _ 0 0 (by omega) w
  have k2 : Hid (∀ w, Calls Tryd.prog 24 #[.pointer (some ⟨p, o, none⟩), .int .i64 (2 * half), .int .i64 (2 * half)] w fun ev w' => ev = .returned (.tuple #[.slice none 0 0, .bool true]) ∧ w' = w) := fun w => objects_none _ _ _ (by omega) w
  obtain ⟨i0, hi0, hz0, hz1, hz2⟩ := infoObj
  clear c1 c2 c3 c7 c8 c9 c10
  go_enter Tryd.func12, Tryd.ntmps12
  go_wp2_with fail
  go_quiet ((go_at_call 24; exact Calls.quiet_of_same (k1.out _)))
  go_wp2_with fail
  obtain ⟨w1, hw1⟩ : ∃ w1, w1 = w.drewN nq := ⟨_, rfl⟩
  have d0 : w1.cell? ⟨p, o, none⟩ = some (.int .i64 half) := by rw [hw1]; exact c0
  have d6 : w1.cell? ⟨p, o + 6, none⟩ = some (.int .i64 0) := by rw [hw1]; exact c6
  rw [← hw1]
  have HW := toHid hw1
  clear hw1 c0 c4 c5 c6
  go_quiet ((go_at_call 24; exact Calls.quiet_of_same (k2.out _)))
  go_wp2_with (at_builtin; refine wpList_append_own_none rfl _ _ _ rfl 0 35 i0 4 Tryd.underlying32 hi0 _ 0 [] rfl ⟨rfl, .inl ⟨rfl, rfl⟩⟩ rfl ?_)
  go_ret2
  exact ⟨rfl, by rw [HW.out]; exact drew_ex2⟩

set_option maxHeartbeats 4000000 in
set_option maxRecDepth 100000 in
theorem checkOf_none (p o : Nat) (half old card : Int) (nW nC cW cC cR cK cI : Nat) (aW aC aR aK aI : Option Addr) (F : Fits half old card nW nC 0 0 0) (w : World) (hp : p < w.heap.size)
    (M : MemO p o half old card (.slice aW nW cW) 0 0 0 (.slice aR 0 cR) (.slice aK 0 cK) (.slice aI 0 cI) (.slice aC nC cC) w) :
    Calls Tryd.prog 7 #[.pointer (some ⟨p, o, none⟩)] w fun ev w' => ev = .returned (.int .i64 0) ∧ Below w.heap.size w w' := by
  have h := F.nums
  unfold numsOK at h
  go_enter Tryd.func7, Tryd.ntmps7
  go_wp2_with fail
  refine (shaped_ok p o half old card nW nC cW cC aW aC 0 0 0 _ _ _ F w M).mono ?_
  rintro ev w1 ⟨rfl, q, hq⟩
  have hb1 : Below w.heap.size w w1 := by rw [hq]; exact below_drewN (Below.refl _ _)
  have M1 := M.below hb1 hp
  clear hq
  go_wp2_with fail
  refine (all_none p o half old card _ _ _ _ _ (by omega) (by omega) w1 M1).mono ?_
  rintro ev w2 ⟨rfl, q1, hq⟩
  have hb2 : Below w.heap.size w w2 := by rw [hq]; exact below_drewN hb1
  obtain ⟨c0, c1, c2, c3, c4, c5, c6, c7, c8, c9, c10⟩ := M.below hb2 hp
  clear hq M1
  go_wp2_with fail
  refine (fieldsOK_none _ _ _ _).mono ?_
  rintro ev w3 ⟨rfl, hq⟩
  rw [hq]
  clear hq w3
  go_wp2_with fail
  refine (fieldsOK_none _ _ _ _).mono ?_
  rintro ev w3 ⟨rfl, hq⟩
  rw [hq]
  clear hq w3
  go_wp2_with fail
  refine wp_loop_rounds 1 ?_
  rw [rounds_succ]
  go_wp2_with fail
  refine wp_loop_rounds 1 ?_
  rw [rounds_succ]
  go_wp2_with fail
  go_ret
  exact ⟨rfl, hb2⟩

end Go.Proofs.YtopcpeemibmgbaaDoor
