/- plain.Code, at the errors that this program makes, by contracts. -/
import Derived.Test.YtlifnjfmocjfjaaGreatDoorErrAs
import Derived.Test.YtlifnjfmocjfjaaGreatDoorErrIs
import Derived.Carry
namespace Go.Proofs.YtlifnjfmocjfjaaGreatDoor
open Go.RowKit Go.Extern.Stop Go.Stop Go.Extern

/-- What a call of plain.Code wants of memory: the handle of the type error, and the seven errors of package api, apart from each other. -/
structure Errs (a : Nat → Addr) (w : World) : Prop where
  h : w.cell? ⟨7, 0, none⟩ = some (.iface 177 (.agg #[.pointer (some ⟨14, 25, none⟩)]))
  c0 : w.cell? ⟨1, 0, none⟩ = some (.iface 288 (.pointer (some (a 0))))
  c1 : w.cell? ⟨0, 0, none⟩ = some (.iface 288 (.pointer (some (a 1))))
  c2 : w.cell? ⟨2, 0, none⟩ = some (.iface 288 (.pointer (some (a 2))))
  c3 : w.cell? ⟨3, 0, none⟩ = some (.iface 288 (.pointer (some (a 3))))
  c4 : w.cell? ⟨4, 0, none⟩ = some (.iface 288 (.pointer (some (a 4))))
  c5 : w.cell? ⟨5, 0, none⟩ = some (.iface 288 (.pointer (some (a 5))))
  c6 : w.cell? ⟨6, 0, none⟩ = some (.iface 288 (.pointer (some (a 6))))
  b : ∀ i, i < 7 → ∃ c t, w.heap[(a i).block]? = some (.cells c t (0, 0))
  ne : ∀ i j, i < 7 → j < 7 → i ≠ j → a i ≠ a j

theorem lt_of_heap {w : World} {k : Nat} {o : Obj} (h : w.heap[k]? = some o) : k < w.heap.size := by
  rcases Nat.lt_or_ge k w.heap.size with h1 | h1
  · exact h1
  · rw [Array.getElem?_eq_none h1] at h; cases h

theorem Errs.below {a : Nat → Addr} {w w' : World} (E : Errs a w) (hb : Below w.heap.size w w') : Errs a w' where
  h := (hb.cell (p := ⟨7, 0, none⟩) (lt_of_cell E.h)).trans E.h
  c0 := (hb.cell (p := ⟨1, 0, none⟩) (lt_of_cell E.c0)).trans E.c0
  c1 := (hb.cell (p := ⟨0, 0, none⟩) (lt_of_cell E.c1)).trans E.c1
  c2 := (hb.cell (p := ⟨2, 0, none⟩) (lt_of_cell E.c2)).trans E.c2
  c3 := (hb.cell (p := ⟨3, 0, none⟩) (lt_of_cell E.c3)).trans E.c3
  c4 := (hb.cell (p := ⟨4, 0, none⟩) (lt_of_cell E.c4)).trans E.c4
  c5 := (hb.cell (p := ⟨5, 0, none⟩) (lt_of_cell E.c5)).trans E.c5
  c6 := (hb.cell (p := ⟨6, 0, none⟩) (lt_of_cell E.c6)).trans E.c6
  b := fun i hi => by
    obtain ⟨c, t, h⟩ := E.b i hi
    exact ⟨c, t, (hb.block _ (lt_of_heap h)).trans h⟩
  ne := E.ne

/-- The number that plain.Code tells, out of what errors.Is answers at each of the seven. -/
def codeOf (is : Nat → Bool) : Int := if is 0 then 1 else if is 1 then 2 else if is 2 then 3 else if is 3 then 4 else if is 4 then 5 else if is 5 then 6 else if is 6 then 7 else -1

theorem as_miss' (e t : Addr) (w : World) (hg : w.cell? ⟨7, 0, none⟩ = some (.iface 177 (.agg #[.pointer (some ⟨14, 25, none⟩)]))) :
    Calls Tryz.prog 36 #[.iface 288 (.pointer (some e)), .iface 89 (.pointer (some t))] w fun ev w' => ev = .returned (.bool false) ∧ Below w.heap.size w w' := by
  refine (as_miss e t w hg).mono ?_
  rintro ev w' ⟨h1, h2⟩
  subst h2
  exact ⟨h1, (((Below.refl _ _).alloc (Nat.le_refl _) _).alloc (by simp) _).alloc (by simp; omega) _⟩

theorem as_hit' (e t : Addr) (old : Value) (w : World) (hg : w.cell? ⟨7, 0, none⟩ = some (.iface 177 (.agg #[.pointer (some ⟨14, 25, none⟩)]))) (ht0 : w.cell? t = some old) (hf0 : w.frozen? t = false) :
    Calls Tryz.prog 36 #[.iface 87 (.pointer (some e)), .iface 89 (.pointer (some t))] w fun ev w' => ev = .returned (.bool true) ∧ Below t.block w w' ∧ w'.cell? t = some (.pointer (some e)) := by
  have htl : t.block < w.heap.size := lt_of_cell ht0
  refine (as_hit e t old w hg ht0 hf0).mono ?_
  rintro ev w' ⟨h1, h2⟩
  subst h2
  refine ⟨h1, ?_, ?_⟩
  · exact (((((Below.refl _ _).alloc (by omega) _).alloc (by simp; omega) _).alloc (by simp; omega) _).alloc (by simp; omega) _).setCell (Nat.le_refl _) _
  · refine World.cell?_setCell_same _ _ _ (u := old) ?_
    rw [World.cell?_alloc_lt _ _ t (by simp; omega), World.cell?_alloc_lt _ _ t (by simp; omega), World.cell?_alloc_lt _ _ t (by simp; omega), World.cell?_alloc_lt _ _ t htl]; exact ht0

set_option maxHeartbeats 4000000 in
theorem code_miss (a : Nat → Addr) (e : Addr) (is : Nat → Bool) (w : World) (E : Errs a w)
    (hIs : ∀ i, i < 7 → ∀ w1, Below w.heap.size w w1 → Calls Tryz.prog 37 #[.iface 288 (.pointer (some e)), .iface 288 (.pointer (some (a i)))] w1 fun ev w' => ev = .returned (.bool (is i)) ∧ w' = w1) :
    Calls Tryz.prog 16 #[.iface 288 (.pointer (some e))] w fun ev w' => ev = .returned (.tuple #[.int .i64 (codeOf is), .int .i64 (-1)]) ∧ Below w.heap.size w w' := by
  have HI : Hid (∀ i, i < 7 → ∀ w1, Below w.heap.size w w1 → Calls Tryz.prog 37 #[.iface 288 (.pointer (some e)), .iface 288 (.pointer (some (a i)))] w1 fun ev w' => ev = .returned (.bool (is i)) ∧ w' = w1) := hIs
  clear hIs
  go_enter Tryz.func16, Tryz.ntmps16
  go_wp2_with fail
  refine (as_miss' _ _ _ (E.below ((Below.refl _ _).alloc (Nat.le_refl _) _)).h).mono ?_
  rintro ev w2 ⟨rfl, hb⟩
  have hbw : Below w.heap.size w w2 := ((Below.refl _ _).alloc (Nat.le_refl _) _).trans (hb.mono (by simp))
  have E2 := E.below hbw
  have hsz : w.heap.size ≤ w2.heap.size := hbw.size
  have k0 := E2.c0
  have k1 := E2.c1
  have k2 := E2.c2
  have k3 := E2.c3
  have k4 := E2.c4
  have k5 := E2.c5
  have k6 := E2.c6
  go_wp2_with fail
  refine wp_loop_rounds 8 ?_
  clear k0 k1 k2 k3 k4 k5 k6
  rw [rounds_succ]
  go_wp2_with fail
  refine (HI.out 0 (by decide) _ (hbw.alloc hsz _)).mono ?_
  rintro ev w3 ⟨rfl, rfl⟩
  cases j0 : is 0
  rotate_left
  · go_wp2_with fail
    go_ret2
    exact ⟨by simp [codeOf, j0], hbw.alloc hsz _⟩
  go_wp2_with fail
  rw [rounds_succ]
  go_wp2_with fail
  refine (HI.out 1 (by decide) _ (hbw.alloc hsz _)).mono ?_
  rintro ev w3 ⟨rfl, rfl⟩
  cases j1 : is 1
  rotate_left
  · go_wp2_with fail
    go_ret2
    exact ⟨by simp [codeOf, j0, j1], hbw.alloc hsz _⟩
  go_wp2_with fail
  rw [rounds_succ]
  go_wp2_with fail
  refine (HI.out 2 (by decide) _ (hbw.alloc hsz _)).mono ?_
  rintro ev w3 ⟨rfl, rfl⟩
  cases j2 : is 2
  rotate_left
  · go_wp2_with fail
    go_ret2
    exact ⟨by simp [codeOf, j0, j1, j2], hbw.alloc hsz _⟩
  go_wp2_with fail
  rw [rounds_succ]
  go_wp2_with fail
  refine (HI.out 3 (by decide) _ (hbw.alloc hsz _)).mono ?_
  rintro ev w3 ⟨rfl, rfl⟩
  cases j3 : is 3
  rotate_left
  · go_wp2_with fail
    go_ret2
    exact ⟨by simp [codeOf, j0, j1, j2, j3], hbw.alloc hsz _⟩
  go_wp2_with fail
  rw [rounds_succ]
  go_wp2_with fail
  refine (HI.out 4 (by decide) _ (hbw.alloc hsz _)).mono ?_
  rintro ev w3 ⟨rfl, rfl⟩
  cases j4 : is 4
  rotate_left
  · go_wp2_with fail
    go_ret2
    exact ⟨by simp [codeOf, j0, j1, j2, j3, j4], hbw.alloc hsz _⟩
  go_wp2_with fail
  rw [rounds_succ]
  go_wp2_with fail
  refine (HI.out 5 (by decide) _ (hbw.alloc hsz _)).mono ?_
  rintro ev w3 ⟨rfl, rfl⟩
  cases j5 : is 5
  rotate_left
  · go_wp2_with fail
    go_ret2
    exact ⟨by simp [codeOf, j0, j1, j2, j3, j4, j5], hbw.alloc hsz _⟩
  go_wp2_with fail
  rw [rounds_succ]
  go_wp2_with fail
  refine (HI.out 6 (by decide) _ (hbw.alloc hsz _)).mono ?_
  rintro ev w3 ⟨rfl, rfl⟩
  cases j6 : is 6
  rotate_left
  · go_wp2_with fail
    go_ret2
    exact ⟨by simp [codeOf, j0, j1, j2, j3, j4, j5, j6], hbw.alloc hsz _⟩
  go_wp2_with fail
  rw [rounds_succ]
  go_wp2_with fail
  go_ret2
  exact ⟨by simp [codeOf, j0, j1, j2, j3, j4, j5, j6], hbw.alloc hsz _⟩

set_option maxHeartbeats 4000000 in
theorem code_hit (a : Nat → Addr) (pb po : Nat) (at_ : Int) (is : Nat → Bool) (w : World) (E : Errs a w) (hat : w.cell? ⟨pb, po, none⟩ = some (.int .i64 at_))
    (hIs : ∀ i, i < 7 → ∀ w1, Below w.heap.size w w1 → Calls Tryz.prog 37 #[.iface 87 (.pointer (some ⟨pb, po, none⟩)), .iface 288 (.pointer (some (a i)))] w1 fun ev w' => ev = .returned (.bool (is i)) ∧ w' = w1) :
    Calls Tryz.prog 16 #[.iface 87 (.pointer (some ⟨pb, po, none⟩))] w fun ev w' => ev = .returned (.tuple #[.int .i64 (codeOf is), .int .i64 at_]) ∧ Below w.heap.size w w' := by
  have HI : Hid (∀ i, i < 7 → ∀ w1, Below w.heap.size w w1 → Calls Tryz.prog 37 #[.iface 87 (.pointer (some ⟨pb, po, none⟩)), .iface 288 (.pointer (some (a i)))] w1 fun ev w' => ev = .returned (.bool (is i)) ∧ w' = w1) := hIs
  clear hIs
  go_enter Tryz.func16, Tryz.ntmps16
  go_wp2_with fail
  refine (as_hit' _ _ (.pointer none) _ (E.below ((Below.refl _ _).alloc (Nat.le_refl _) _)).h (by simp) (by simp)).mono ?_
  rintro ev w2 ⟨rfl, hb, ht⟩
  have hbw : Below w.heap.size w w2 := ((Below.refl _ _).alloc (Nat.le_refl _) _).trans hb
  have hat2 : w2.cell? ⟨pb, po, none⟩ = some (.int .i64 at_) := (hbw.cell (p := ⟨pb, po, none⟩) (lt_of_cell hat)).trans hat
  have E2 := E.below hbw
  have hsz : w.heap.size ≤ w2.heap.size := hbw.size
  have k0 := E2.c0
  have k1 := E2.c1
  have k2 := E2.c2
  have k3 := E2.c3
  have k4 := E2.c4
  have k5 := E2.c5
  have k6 := E2.c6
  go_wp2_with fail
  refine wp_loop_rounds 8 ?_
  clear k0 k1 k2 k3 k4 k5 k6
  rw [rounds_succ]
  go_wp2_with fail
  refine (HI.out 0 (by decide) _ (hbw.alloc hsz _)).mono ?_
  rintro ev w3 ⟨rfl, rfl⟩
  cases j0 : is 0
  rotate_left
  · go_wp2_with fail
    go_ret2
    exact ⟨by simp [codeOf, j0], hbw.alloc hsz _⟩
  go_wp2_with fail
  rw [rounds_succ]
  go_wp2_with fail
  refine (HI.out 1 (by decide) _ (hbw.alloc hsz _)).mono ?_
  rintro ev w3 ⟨rfl, rfl⟩
  cases j1 : is 1
  rotate_left
  · go_wp2_with fail
    go_ret2
    exact ⟨by simp [codeOf, j0, j1], hbw.alloc hsz _⟩
  go_wp2_with fail
  rw [rounds_succ]
  go_wp2_with fail
  refine (HI.out 2 (by decide) _ (hbw.alloc hsz _)).mono ?_
  rintro ev w3 ⟨rfl, rfl⟩
  cases j2 : is 2
  rotate_left
  · go_wp2_with fail
    go_ret2
    exact ⟨by simp [codeOf, j0, j1, j2], hbw.alloc hsz _⟩
  go_wp2_with fail
  rw [rounds_succ]
  go_wp2_with fail
  refine (HI.out 3 (by decide) _ (hbw.alloc hsz _)).mono ?_
  rintro ev w3 ⟨rfl, rfl⟩
  cases j3 : is 3
  rotate_left
  · go_wp2_with fail
    go_ret2
    exact ⟨by simp [codeOf, j0, j1, j2, j3], hbw.alloc hsz _⟩
  go_wp2_with fail
  rw [rounds_succ]
  go_wp2_with fail
  refine (HI.out 4 (by decide) _ (hbw.alloc hsz _)).mono ?_
  rintro ev w3 ⟨rfl, rfl⟩
  cases j4 : is 4
  rotate_left
  · go_wp2_with fail
    go_ret2
    exact ⟨by simp [codeOf, j0, j1, j2, j3, j4], hbw.alloc hsz _⟩
  go_wp2_with fail
  rw [rounds_succ]
  go_wp2_with fail
  refine (HI.out 5 (by decide) _ (hbw.alloc hsz _)).mono ?_
  rintro ev w3 ⟨rfl, rfl⟩
  cases j5 : is 5
  rotate_left
  · go_wp2_with fail
    go_ret2
    exact ⟨by simp [codeOf, j0, j1, j2, j3, j4, j5], hbw.alloc hsz _⟩
  go_wp2_with fail
  rw [rounds_succ]
  go_wp2_with fail
  refine (HI.out 6 (by decide) _ (hbw.alloc hsz _)).mono ?_
  rintro ev w3 ⟨rfl, rfl⟩
  cases j6 : is 6
  rotate_left
  · go_wp2_with fail
    go_ret2
    exact ⟨by simp [codeOf, j0, j1, j2, j3, j4, j5, j6], hbw.alloc hsz _⟩
  go_wp2_with fail
  rw [rounds_succ]
  go_wp2_with fail
  go_ret2
  exact ⟨by simp [codeOf, j0, j1, j2, j3, j4, j5, j6], hbw.alloc hsz _⟩

theorem codeOf_eq (k : Nat) (hk : k < 7) : codeOf (fun i => i == k) = k + 1 := by
  obtain rfl | rfl | rfl | rfl | rfl | rfl | rfl : k = 0 ∨ k = 1 ∨ k = 2 ∨ k = 3 ∨ k = 4 ∨ k = 5 ∨ k = 6 := by omega
  all_goals rfl

/-- plain.Code of the k-th error of package api. -/
theorem code_sent (a : Nat → Addr) (k : Nat) (hk : k < 7) (w : World) (E : Errs a w) :
    Calls Tryz.prog 16 #[.iface 288 (.pointer (some (a k)))] w fun ev w' => ev = .returned (.tuple #[.int .i64 (k + 1), .int .i64 (-1)]) ∧ Below w.heap.size w w' := by
  have h := code_miss a (a k) (fun i => i == k) w E (fun i hi w1 hb => by
    by_cases e : i = k
    · subst e
      refine (is_same (a i) w1).mono ?_
      rintro ev w' ⟨h1, h2⟩
      exact ⟨by rw [h1]; simp, h2⟩
    · obtain ⟨c1, t1, h1⟩ := (E.below hb).b k hk
      obtain ⟨c2, t2, h2⟩ := (E.below hb).b i hi
      refine (is_other (a k) (a i) c1 c2 t1 t2 w1 (E.ne k i hk hi (Ne.symm e)) h1 h2).mono ?_
      rintro ev w' ⟨h1, h2⟩
      exact ⟨by rw [h1]; simp [e], h2⟩)
  rw [codeOf_eq k hk] at h
  exact h

/-- plain.Code of a Fault that holds the k-th error of package api. -/
theorem code_fault (a : Nat → Addr) (k : Nat) (hk : k < 7) (pb po : Nat) (at_ : Int) (w : World) (E : Errs a w) (hat : w.cell? ⟨pb, po, none⟩ = some (.int .i64 at_)) (her : w.cell? ⟨pb, po + 1, none⟩ = some (.iface 288 (.pointer (some (a k))))) :
    Calls Tryz.prog 16 #[.iface 87 (.pointer (some ⟨pb, po, none⟩))] w fun ev w' => ev = .returned (.tuple #[.int .i64 (k + 1), .int .i64 at_]) ∧ Below w.heap.size w w' := by
  have h := code_hit a pb po at_ (fun i => i == k) w E hat (fun i hi w1 hb => by
    have her1 : w1.cell? ⟨pb, po + 1, none⟩ = some (.iface 288 (.pointer (some (a k)))) := (hb.cell (p := ⟨pb, po + 1, none⟩) (lt_of_cell her)).trans her
    by_cases e : i = k
    · subst e
      refine (is_wrap_same ⟨pb, po, none⟩ (a i) w1 rfl her1).mono ?_
      rintro ev w' ⟨h1, h2⟩
      exact ⟨by rw [h1]; simp, h2⟩
    · obtain ⟨c1, t1, h1⟩ := (E.below hb).b k hk
      obtain ⟨c2, t2, h2⟩ := (E.below hb).b i hi
      refine (is_wrap_other ⟨pb, po, none⟩ (a i) (a k) c1 c2 t1 t2 w1 rfl her1 (E.ne k i hk hi (Ne.symm e)) h1 h2).mono ?_
      rintro ev w' ⟨h1, h2⟩
      exact ⟨by rw [h1]; simp [e], h2⟩)
  rw [codeOf_eq k hk] at h
  exact h

/-- plain.Code of another error of errors.New's make. -/
theorem code_other (a : Nat → Addr) (e : Addr) (c : Array Value) (t : TypeId) (w : World) (E : Errs a w) (he : w.heap[e.block]? = some (.cells c t (0, 0))) (hne : ∀ i, i < 7 → e ≠ a i) :
    Calls Tryz.prog 16 #[.iface 288 (.pointer (some e))] w fun ev w' => ev = .returned (.tuple #[.int .i64 (-1), .int .i64 (-1)]) ∧ Below w.heap.size w w' := by
  have h := code_miss a e (fun _ => false) w E (fun i hi w1 hb => by
    obtain ⟨c2, t2, h2⟩ := (E.below hb).b i hi
    exact is_other e (a i) c c2 t t2 w1 (hne i hi) ((hb.block _ (lt_of_heap he)).trans he) h2)
  exact h

/-- plain.Code of nil. -/
theorem code_nil (w : World) : Calls Tryz.prog 16 #[.nilIface] w fun ev w' => ev = .returned (.tuple #[.int .i64 0, .int .i64 (-1)]) ∧ w' = w := by
  go_enter Tryz.func16, Tryz.ntmps16
  go_wp2
  go_ret2
  exact ⟨rfl, rfl⟩
end Go.Proofs.YtlifnjfmocjfjaaGreatDoor
