/- Package mem: Check of a memory with no objects, by contracts. -/
import Derived.Test.YtopcpeemibmgbaaDoorMemA
import Derived.Maps.OwnOps
namespace Go.Proofs.YtopcpeemibmgbaaDoor
open Go.RowKit

theorem wrapI (x : Int) (h0 : -9223372036854775808 ≤ x) (h1 : x < 9223372036854775808) : IntKind.i64.wrap x = x := by
  rw [IntKind.wrap_i64]
  omega

/-- Numbers and lengths fit each other. -/
structure Fits (half old card : Int) (nW nC : Nat) (used top oldTop : Int) : Prop where
  nums : numsOK half old card
  w : (nW : Int) = 2 * half + old
  c : (nC : Int) = (old + card - 1) / card
  u0 : 0 ≤ used
  u1 : used ≤ 1
  t0 : 0 ≤ top
  t1 : top ≤ half
  o0 : 0 ≤ oldTop
  o1 : oldTop ≤ old

set_option maxHeartbeats 1000000 in
set_option maxRecDepth 100000 in
theorem measured_ok (p : Nat) (half old card : Int) (nW nC cW cC : Nat) (aW aC : Option Addr) (used top oldTop : Int) (r k i : Value) (F : Fits half old card nW nC used top oldTop) (w : World)
    (M : MemAt p half old card (.slice aW nW cW) used top oldTop r k i (.slice aC nC cC) w) :
    Calls Tryd.prog 50 #[.pointer (some ⟨p, 0, none⟩)] w fun ev w' => ev = .returned (.bool true) ∧ ∃ q, w' = w.drewN q := by
  have kb : Hid (∀ q, Calls Tryd.prog 28 #[.pointer (some ⟨p, 0, none⟩)] (w.drewN q) fun ev w' => ev = .returned (.bool true) ∧ w' = w.drewN q) := fun q => bounded_ok p half old card F.nums (w.drewN q) M.c0 M.c1 M.c2
  have ko : Hid (∀ q, Calls Tryd.prog 29 #[.pointer (some ⟨p, 0, none⟩)] (w.drewN q) fun ev w' => ev = .returned (.int .i64 (2 * half)) ∧ w' = w.drewN q) := fun q => oldFrom_any p half (by have := F.nums; unfold numsOK at this; omega) (by have := F.nums; unfold numsOK at this; omega) (w.drewN q) M.c0
  have kc : Hid (∀ q, Calls Tryd.prog 30 #[.pointer (some ⟨p, 0, none⟩)] (w.drewN q) fun ev w' => ev = .returned (.int .i64 ((old + card - 1) / card)) ∧ ∃ m, w' = (w.drewN q).drewN m) := fun q => cards_any p half old card F.nums (w.drewN q) M.c1 M.c2
  have k1 : Hid (∀ w, Calls Tryd.prog 49 #[.int .i64 used, .int .i64 0, .int .i64 1] w fun ev w' => ev = .returned (.bool true) ∧ w' = w) := fun w => mwithin_ok used 0 1 F.u0 F.u1 w
  have k2 : Hid (∀ w, Calls Tryd.prog 49 #[.int .i64 top, .int .i64 0, .int .i64 half] w fun ev w' => ev = .returned (.bool true) ∧ w' = w) := fun w => mwithin_ok top 0 half F.t0 F.t1 w
  have k3 : Hid (∀ w, Calls Tryd.prog 49 #[.int .i64 oldTop, .int .i64 0, .int .i64 old] w fun ev w' => ev = .returned (.bool true) ∧ w' = w) := fun w => mwithin_ok oldTop 0 old F.o0 F.o1 w
  obtain ⟨c0, c1, c2, c3, c4, c5, c6, c7, c8, c9, c10⟩ := M
  have e1 : IntKind.i64.wrap (2 * half + old) = (nW : Int) := by have := F.nums; unfold numsOK at this; rw [wrapI _ (by omega) (by omega)]; exact F.w.symm
  have e2 : ((nC : Int) == (old + card - 1) / card) = true := by rw [F.c]; simp
  clear F c7 c8 c9
  go_enter Tryd.func50, Tryd.ntmps50
  go_wp2_with fail
  go_quiet (first | (go_at_call 28; exact Calls.quiet_of_same (kb.out _)) | (go_at_call 29; exact Calls.quiet_of_same (ko.out _)) | (go_at_call 30; exact Calls.quiet_of (kc.out _)) | (go_at_call_of 49 used; exact Calls.quiet_of_same (k1.out _)) | (go_at_call_of 49 top; exact Calls.quiet_of_same (k2.out _)) | (go_at_call_of 49 oldTop; exact Calls.quiet_of_same (k3.out _)))
  go_wp2
  go_ret
  exact ⟨rfl, _, rfl⟩

theorem nursery_any (p : Nat) (half used : Int) (h0 : 0 ≤ half) (h1 : half ≤ 65536) (u0 : 0 ≤ used) (u1 : used ≤ 1) (w : World) (c0 : w.cell? ⟨p, 0, none⟩ = some (.int .i64 half)) (c4 : w.cell? ⟨p, 4, none⟩ = some (.int .i64 used)) :
    Calls Tryd.prog 36 #[.pointer (some ⟨p, 0, none⟩)] w fun ev w' => ev = .returned (.int .i64 (used * half)) ∧ ∃ q, w' = w.drewN q := by
  obtain rfl | rfl : used = 0 ∨ used = 1 := by omega
  · go_enter Tryd.func36, Tryd.ntmps36
    go_wp2
    go_quiet (fail)
    go_wp2
    go_ret
    exact ⟨by rw [Int.zero_mul]; rfl, _, rfl⟩
  · go_enter Tryd.func36, Tryd.ntmps36
    go_wp2
    go_quiet (fail)
    go_wp2
    go_ret
    exact ⟨by rw [Int.one_mul]; rfl, _, rfl⟩

theorem eachOf_none (ao : Option Addr) (n c : Nat) (x : Int) (f : Value) (hx : (n : Int) ≤ x) (w : World) :
    Calls Tryd.prog 84 #[.slice ao n c, .int .i64 x, f] w fun ev w' => ev = .returned (.bool true) ∧ w' = w := by
  go_enter Tryd.func84, Tryd.ntmps84
  go_wp2_with fail
  refine wp_loop_rounds 1 ?_
  rw [rounds_succ]
  go_wp2
  go_ret
  exact ⟨rfl, rfl⟩
end Go.Proofs.YtopcpeemibmgbaaDoor
