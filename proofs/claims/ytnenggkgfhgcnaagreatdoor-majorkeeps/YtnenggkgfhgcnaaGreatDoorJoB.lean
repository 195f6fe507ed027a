/- Package mem: a new memory, by contracts. -/
import Derived.Test.YtnenggkgfhgcnaaGreatDoorJoA
import Derived.Deep.LoopGhost
import Derived.Laws.MakeOwn
import Derived.Maps.OwnOps
namespace Go.Proofs.YtnenggkgfhgcnaaGreatDoor
open Go.RowKit

theorem mwithin_any (n l t : Int) (w : World) :
    Calls Tryz.prog 72 #[.int .i64 n, .int .i64 l, .int .i64 t] w fun ev w' => ev = .returned (.bool (decide (l ≤ n) && decide (n ≤ t))) ∧ w' = w := by
  by_cases c : l ≤ n
  · rw [decide_eq_true c, Bool.true_and]
    go_enter Tryz.func72, Tryz.ntmps72
    go_wp2
    go_ret
    exact ⟨rfl, rfl⟩
  · rw [decide_eq_false c, Bool.false_and]
    go_enter Tryz.func72, Tryz.ntmps72
    go_wp2
    go_ret
    exact ⟨rfl, rfl⟩
theorem mwithin_ok (n l t : Int) (h0 : l ≤ n) (h1 : n ≤ t) (w : World) :
    Calls Tryz.prog 72 #[.int .i64 n, .int .i64 l, .int .i64 t] w fun ev w' => ev = .returned (.bool true) ∧ w' = w := by
  have h := mwithin_any n l t w
  rw [decide_eq_true h0, decide_eq_true h1] at h
  exact h
theorem mwithin_no (n l t : Int) (h0 : ¬ (l ≤ n ∧ n ≤ t)) (w : World) :
    Calls Tryz.prog 72 #[.int .i64 n, .int .i64 l, .int .i64 t] w fun ev w' => ev = .returned (.bool false) ∧ w' = w := by
  have h := mwithin_any n l t w
  have e : (decide (l ≤ n) && decide (n ≤ t)) = false := by
    rw [Bool.and_eq_false_iff, decide_eq_false_iff_not, decide_eq_false_iff_not]
    omega
  rw [e] at h
  exact h

/-- A memory's cells. -/
structure MemAt (p : Nat) (half old card : Int) (W : Value) (used top oldTop : Int) (roots weak ids cards : Value) (w : World) : Prop where
  c0 : w.cell? ⟨p, 0, none⟩ = some (.int .i64 half)
  c1 : w.cell? ⟨p, 1, none⟩ = some (.int .i64 old)
  c2 : w.cell? ⟨p, 2, none⟩ = some (.int .i64 card)
  c3 : w.cell? ⟨p, 3, none⟩ = some W
  c4 : w.cell? ⟨p, 4, none⟩ = some (.int .i64 used)
  c5 : w.cell? ⟨p, 5, none⟩ = some (.int .i64 top)
  c6 : w.cell? ⟨p, 6, none⟩ = some (.int .i64 oldTop)
  c7 : w.cell? ⟨p, 7, none⟩ = some roots
  c8 : w.cell? ⟨p, 8, none⟩ = some weak
  c9 : w.cell? ⟨p, 9, none⟩ = some ids
  c10 : w.cell? ⟨p, 10, none⟩ = some cards
theorem MemAt.below {p B : Nat} {half old card : Int} {W : Value} {used top oldTop : Int} {roots weak ids cards : Value} {w w' : World} (M : MemAt p half old card W used top oldTop roots weak ids cards w) (hb : Below B w w') (hp : p < B) : MemAt p half old card W used top oldTop roots weak ids cards w' where
  c0 := (hb.cell (p := ⟨p, 0, none⟩) hp).trans M.c0
  c1 := (hb.cell (p := ⟨p, 1, none⟩) hp).trans M.c1
  c2 := (hb.cell (p := ⟨p, 2, none⟩) hp).trans M.c2
  c3 := (hb.cell (p := ⟨p, 3, none⟩) hp).trans M.c3
  c4 := (hb.cell (p := ⟨p, 4, none⟩) hp).trans M.c4
  c5 := (hb.cell (p := ⟨p, 5, none⟩) hp).trans M.c5
  c6 := (hb.cell (p := ⟨p, 6, none⟩) hp).trans M.c6
  c7 := (hb.cell (p := ⟨p, 7, none⟩) hp).trans M.c7
  c8 := (hb.cell (p := ⟨p, 8, none⟩) hp).trans M.c8
  c9 := (hb.cell (p := ⟨p, 9, none⟩) hp).trans M.c9
  c10 := (hb.cell (p := ⟨p, 10, none⟩) hp).trans M.c10

/-- Numbers that New takes. -/
def numsOK (half old card : Int) : Prop := 1 ≤ half ∧ half ≤ 65536 ∧ 1 ≤ old ∧ old ≤ 65536 ∧ 1 ≤ card ∧ card ≤ 1024

theorem bounded_ok (p : Nat) (half old card : Int) (H : numsOK half old card) (w : World) (c0 : w.cell? ⟨p, 0, none⟩ = some (.int .i64 half)) (c1 : w.cell? ⟨p, 1, none⟩ = some (.int .i64 old)) (c2 : w.cell? ⟨p, 2, none⟩ = some (.int .i64 card)) :
    Calls Tryz.prog 42 #[.pointer (some ⟨p, 0, none⟩)] w fun ev w' => ev = .returned (.bool true) ∧ w' = w := by
  obtain ⟨h0, h1, h2, h3, h4, h5⟩ := H
  go_enter Tryz.func42, Tryz.ntmps42
  go_wp2_with fail
  refine (mwithin_ok half 1 65536 h0 h1 w).mono ?_
  rintro ev w' ⟨rfl, h⟩
  rw [h]
  clear h w'
  go_wp2_with fail
  refine (mwithin_ok old 1 65536 h2 h3 w).mono ?_
  rintro ev w' ⟨rfl, h⟩
  rw [h]
  clear h w'
  go_wp2_with fail
  refine (mwithin_ok card 1 1024 h4 h5 w).mono ?_
  rintro ev w' ⟨rfl, h⟩
  rw [h]
  clear h w'
  go_wp2_with fail
  go_ret
  exact ⟨rfl, rfl⟩
theorem bounded_no (p : Nat) (half old card : Int) (H : ¬ numsOK half old card) (w : World) (c0 : w.cell? ⟨p, 0, none⟩ = some (.int .i64 half)) (c1 : w.cell? ⟨p, 1, none⟩ = some (.int .i64 old)) (c2 : w.cell? ⟨p, 2, none⟩ = some (.int .i64 card)) :
    Calls Tryz.prog 42 #[.pointer (some ⟨p, 0, none⟩)] w fun ev w' => ev = .returned (.bool false) ∧ w' = w := by
  unfold numsOK at H
  by_cases h0 : 1 ≤ half ∧ half ≤ 65536
  · by_cases h1 : 1 ≤ old ∧ old ≤ 65536
    · have h2 : ¬ (1 ≤ card ∧ card ≤ 1024) := by omega
      have k0 := mwithin_ok half 1 65536 h0.1 h0.2 w
      have k1 := mwithin_ok old 1 65536 h1.1 h1.2 w
      have k2 := mwithin_no card 1 1024 h2 w
      clear H h0 h1 h2
      go_enter Tryz.func42, Tryz.ntmps42
      go_wp2_with fail
      refine k0.mono ?_
      rintro ev w' ⟨rfl, h⟩
      rw [h]
      clear h w'
      go_wp2_with fail
      refine k1.mono ?_
      rintro ev w' ⟨rfl, h⟩
      rw [h]
      clear h w'
      go_wp2_with fail
      refine k2.mono ?_
      rintro ev w' ⟨rfl, h⟩
      rw [h]
      clear h w'
      go_wp2_with fail
      go_ret
      exact ⟨rfl, rfl⟩
    · have k0 := mwithin_ok half 1 65536 h0.1 h0.2 w
      have k1 := mwithin_no old 1 65536 h1 w
      clear H h0 h1
      go_enter Tryz.func42, Tryz.ntmps42
      go_wp2_with fail
      refine k0.mono ?_
      rintro ev w' ⟨rfl, h⟩
      rw [h]
      clear h w'
      go_wp2_with fail
      refine k1.mono ?_
      rintro ev w' ⟨rfl, h⟩
      rw [h]
      clear h w'
      go_wp2_with fail
      go_ret
      exact ⟨rfl, rfl⟩
  · have k0 := mwithin_no half 1 65536 h0 w
    clear H h0
    go_enter Tryz.func42, Tryz.ntmps42
    go_wp2_with fail
    refine k0.mono ?_
    rintro ev w' ⟨rfl, h⟩
    rw [h]
    clear h w'
    go_wp2_with fail
    go_ret
    exact ⟨rfl, rfl⟩
theorem oldFrom_any (p : Nat) (half : Int) (h0 : 0 ≤ half) (h1 : half ≤ 65536) (w : World) (c0 : w.cell? ⟨p, 0, none⟩ = some (.int .i64 half)) :
    Calls Tryz.prog 43 #[.pointer (some ⟨p, 0, none⟩)] w fun ev w' => ev = .returned (.int .i64 (2 * half)) ∧ w' = w := by
  go_enter Tryz.func43, Tryz.ntmps43
  go_wp2
  go_ret
  exact ⟨rfl, rfl⟩
theorem cards_any (p : Nat) (half old card : Int) (H : numsOK half old card) (w : World) (c1 : w.cell? ⟨p, 1, none⟩ = some (.int .i64 old)) (c2 : w.cell? ⟨p, 2, none⟩ = some (.int .i64 card)) :
    Calls Tryz.prog 44 #[.pointer (some ⟨p, 0, none⟩)] w fun ev w' => ev = .returned (.int .i64 ((old + card - 1) / card)) ∧ ∃ q, w' = w.drewN q := by
  obtain ⟨h0, h1, h2, h3, h4, h5⟩ := H
  have q0 : (0 : Int) ≤ (old + card - 1) / card := Int.ediv_nonneg (by omega) (by omega)
  have q1 : (old + card - 1) / card ≤ old + card - 1 := Int.ediv_le_self _ (by omega)
  go_enter Tryz.func44, Tryz.ntmps44
  go_wp2
  go_quiet (fail)
  go_wp2
  go_ret
  exact ⟨rfl, _, rfl⟩

set_option maxRecDepth 100000 in
theorem infoU64 : ∃ i, Tryz.prog.info? 50 = some i ∧ i.zero = some (.int .u64 0) ∧ i.size = 1 ∧ i.bytes = 8 := by
  refine ⟨(Tryz.prog.info? 50).get (by kernel_rfl), ?_, ?_, ?_, ?_⟩
  · exact (Option.some_get _).symm
  · kernel_rfl
  · kernel_rfl
  · kernel_rfl
set_option maxRecDepth 100000 in
theorem infoBool : ∃ i, Tryz.prog.info? 4 = some i ∧ i.zero = some (.bool false) ∧ i.size = 1 ∧ i.bytes = 1 := by
  refine ⟨(Tryz.prog.info? 4).get (by kernel_rfl), ?_, ?_, ?_, ?_⟩
  · exact (Option.some_get _).symm
  · kernel_rfl
  · kernel_rfl
  · kernel_rfl
theorem make_words (n : Nat) (hn : n ≤ 300000) (L : Int) (hL : L = (n : Int)) (w : World) :
    (Instr.makeSlice 26 (.int .i64 L) (.int .i64 L)).run Tryz.prog w = .ok (.slice (some ⟨w.heap.size, 0, none⟩) n n) (w.alloc (.cells (Array.replicate n (.int .u64 0)) 50)) := by
  subst hL
  obtain ⟨i, hi, hz, h1, h8⟩ := infoU64
  have h := run_make (P := Tryz.prog) w 26 50 i (.int .u64 0) Tryz.underlying26 hi hz .i64 .i64 (n : Int) (n : Int) (by omega) (by omega) (by rw [h8]; omega) (by omega)
  rw [h, h1]
  have e : madeCells (Value.int .u64 0).cells ((n : Int).toNat * 1) = Array.replicate n (.int .u64 0) := by
    apply Array.ext
    · simp [madeCells]
    · intro i h1 h2
      have e0 : i % 1 = 0 := Nat.mod_one i
      simp [madeCells, Value.cells, e0]
  rw [e]
  simp
theorem make_bools (n : Nat) (hn : n ≤ 300000) (L : Int) (hL : L = (n : Int)) (w : World) :
    (Instr.makeSlice 28 (.int .i64 L) (.int .i64 L)).run Tryz.prog w = .ok (.slice (some ⟨w.heap.size, 0, none⟩) n n) (w.alloc (.cells (Array.replicate n (.bool false)) 4)) := by
  subst hL
  obtain ⟨i, hi, hz, h1, h8⟩ := infoBool
  have h := run_make (P := Tryz.prog) w 28 4 i (.bool false) Tryz.underlying28 hi hz .i64 .i64 (n : Int) (n : Int) (by omega) (by omega) (by rw [h8]; omega) (by omega)
  rw [h, h1]
  have e : madeCells (Value.bool false).cells ((n : Int).toNat * 1) = Array.replicate n (.bool false) := by
    apply Array.ext
    · simp [madeCells]
    · intro i h1 h2
      have e0 : i % 1 = 0 := Nat.mod_one i
      simp [madeCells, Value.cells, e0]
  rw [e]
  simp

theorem memAt_alloc (w : World) (half old card : Int) (v3 : Value) (used top oldTop : Int) (v7 v8 v9 v10 : Value) (T : TypeId) : MemAt w.heap.size half old card v3 used top oldTop v7 v8 v9 v10 (w.alloc (.cells #[.int .i64 half, .int .i64 old, .int .i64 card, v3, .int .i64 used, .int .i64 top, .int .i64 oldTop, v7, v8, v9, v10] T)) :=
  have h : ∀ (_ : Nat) (_ : Value), _ → _ := fun o x (hx : #[Value.int .i64 half, .int .i64 old, .int .i64 card, v3, .int .i64 used, .int .i64 top, .int .i64 oldTop, v7, v8, v9, v10][o]? = some x) => (cell_of_row _ _ o _ _ _ (heap_alloc_new w _)).trans hx
  ⟨h 0 _ rfl, h 1 _ rfl, h 2 _ rfl, h 3 _ rfl, h 4 _ rfl, h 5 _ rfl, h 6 _ rfl, h 7 _ rfl, h 8 _ rfl, h 9 _ rfl, h 10 _ rfl⟩
theorem new_no (a : Nat → Addr) (half old card : Int) (H : ¬ numsOK half old card) (w : World) (E : WErr a w) :
    Calls Tryz.prog 21 #[.int .i64 half, .int .i64 old, .int .i64 card] w fun ev w' => ev = .returned (.tuple #[.pointer none, errV a 1]) ∧ Below w.heap.size w w' := by
  go_enter Tryz.func21, Tryz.ntmps21
  go_wp2_with fail
  have M := memAt_alloc w half old card (.slice none 0 0) 0 0 0 (.slice none 0 0) (.slice none 0 0) (.slice none 0 0) (.slice none 0 0) 55
  refine (bounded_no _ half old card H _ M.c0 M.c1 M.c2).mono ?_
  rintro ev w1 ⟨rfl, h⟩
  have hb : Below w.heap.size w w1 := by rw [h]; exact (Below.refl _ _).alloc (Nat.le_refl _) _
  have k1 := (E.below hb).c1
  clear h M
  go_wp2_with fail
  go_quiet (fail)
  go_wp2
  go_ret2
  exact ⟨rfl, below_drewN hb⟩
/-- The world behind New. -/
def newW (half old card : Int) (nW nC : Nat) (w : World) : World := ((w.alloc (.cells #[.int .i64 half, .int .i64 old, .int .i64 card, .slice (some ⟨w.heap.size + 1, 0, none⟩) nW nW, .int .i64 0, .int .i64 0, .int .i64 0, .slice none 0 0, .slice none 0 0, .slice none 0 0, .slice (some ⟨w.heap.size + 2, 0, none⟩) nC nC] 55)).alloc (.cells (Array.replicate nW (.int .u64 0)) 50)).alloc (.cells (Array.replicate nC (.bool false)) 4)
set_option maxHeartbeats 4000000 in
theorem new_ok (half old card : Int) (H : numsOK half old card) (nW nC : Nat) (hW : (nW : Int) = 2 * half + old) (hC : (nC : Int) = (old + card - 1) / card) (w : World) :
    Calls Tryz.prog 21 #[.int .i64 half, .int .i64 old, .int .i64 card] w fun ev w' => ev = .returned (.tuple #[.pointer (some ⟨w.heap.size, 0, none⟩), .nilIface]) ∧ ∃ q, w' = (newW half old card nW nC w).drewN q := by
  have hm1 := make_words nW (by unfold numsOK at H; omega) (2 * half + old) hW.symm
  have q1 : (old + card - 1) / card ≤ old + card - 1 := Int.ediv_le_self _ (by unfold numsOK at H; omega)
  have hm2 := make_bools nC (by unfold numsOK at H; omega) ((old + card - 1) / card) hC.symm
  have HN : Hid (numsOK half old card) := H
  obtain ⟨h0, h1, h2, h3, h4, h5⟩ := H
  go_enter Tryz.func21, Tryz.ntmps21
  go_wp2_with fail
  have M := memAt_alloc w half old card (.slice none 0 0) 0 0 0 (.slice none 0 0) (.slice none 0 0) (.slice none 0 0) (.slice none 0 0) 55
  refine (bounded_ok _ half old card HN.out _ M.c0 M.c1 M.c2).mono ?_
  rintro ev w1 ⟨rfl, h⟩
  rw [h]
  clear h w1
  go_wp2_with fail
  refine (oldFrom_any _ half (by omega) h1 _ M.c0).mono ?_
  rintro ev w1 ⟨rfl, h⟩
  rw [h]
  clear h w1
  go_wp2_with fail
  have M1 := (memAt_alloc w half old card (.slice (some ⟨w.heap.size + 1, 0, none⟩) nW nW) 0 0 0 (.slice none 0 0) (.slice none 0 0) (.slice none 0 0) (.slice none 0 0) 55).below ((Below.refl _ _).alloc (Nat.le_refl _) (.cells (Array.replicate nW (.int .u64 0)) 50)) (by simp)
  refine (cards_any _ half old card HN.out _ M1.c1 M1.c2).mono ?_
  rintro ev w1 ⟨rfl, q, h⟩
  rw [h]
  clear h w1
  go_wp2_with fail
  go_ret2
  refine ⟨rfl, q, ?_⟩
  unfold newW
  rw [show ∀ (x : World) (a : Addr) (v : Value), (x.drewN q).setCell a v = (x.setCell a v).drewN q from fun _ _ _ => rfl, World.setCell_alloc_past _ _ _ _ (by simp), World.setCell_alloc_at _ _ _ _ _ rfl]
  rfl
end Go.Proofs.YtnenggkgfhgcnaaGreatDoor

/- Package mem: Check of a memory with no objects, by contracts. -/
namespace Go.Proofs.YtnenggkgfhgcnaaGreatDoor
open Go.RowKit

theorem wrapI (x : Int) (h0 : -9223372036854775808 ≤ x) (h1 : x < 9223372036854775808) : IntKind.i64.wrap x = x := by
  rw [IntKind.wrap_i64]
  omega

/-- Numbers and lengths fit each other. -/
structure Fits (half old card : Int) (nW nC : Nat) (used top oldTop : Int) : Prop where
  nums : numsOK half old card
  w : (nW : Int) = 2 * half + old
  c : (nC : Int) = (old + card - 1) / card
  u0 : 0 ≤ used
  u1 : used ≤ 1
  t0 : 0 ≤ top
  t1 : top ≤ half
  o0 : 0 ≤ oldTop
  o1 : oldTop ≤ old

set_option maxHeartbeats 1000000 in
set_option maxRecDepth 100000 in
theorem measured_ok (p : Nat) (half old card : Int) (nW nC cW cC : Nat) (aW aC : Option Addr) (used top oldTop : Int) (r k i : Value) (F : Fits half old card nW nC used top oldTop) (w : World)
    (M : MemAt p half old card (.slice aW nW cW) used top oldTop r k i (.slice aC nC cC) w) :
    Calls Tryz.prog 73 #[.pointer (some ⟨p, 0, none⟩)] w fun ev w' => ev = .returned (.bool true) ∧ ∃ q, w' = w.drewN q := by
  have kb : Hid (∀ q, Calls Tryz.prog 42 #[.pointer (some ⟨p, 0, none⟩)] (w.drewN q) fun ev w' => ev = .returned (.bool true) ∧ w' = w.drewN q) := fun q => bounded_ok p half old card F.nums (w.drewN q) M.c0 M.c1 M.c2
  have ko : Hid (∀ q, Calls Tryz.prog 43 #[.pointer (some ⟨p, 0, none⟩)] (w.drewN q) fun ev w' => ev = .returned (.int .i64 (2 * half)) ∧ w' = w.drewN q) := fun q => oldFrom_any p half (by have := F.nums; unfold numsOK at this; omega) (by have := F.nums; unfold numsOK at this; omega) (w.drewN q) M.c0
  have kc : Hid (∀ q, Calls Tryz.prog 44 #[.pointer (some ⟨p, 0, none⟩)] (w.drewN q) fun ev w' => ev = .returned (.int .i64 ((old + card - 1) / card)) ∧ ∃ m, w' = (w.drewN q).drewN m) := fun q => cards_any p half old card F.nums (w.drewN q) M.c1 M.c2
  have k1 : Hid (∀ w, Calls Tryz.prog 72 #[.int .i64 used, .int .i64 0, .int .i64 1] w fun ev w' => ev = .returned (.bool true) ∧ w' = w) := fun w => mwithin_ok used 0 1 F.u0 F.u1 w
  have k2 : Hid (∀ w, Calls Tryz.prog 72 #[.int .i64 top, .int .i64 0, .int .i64 half] w fun ev w' => ev = .returned (.bool true) ∧ w' = w) := fun w => mwithin_ok top 0 half F.t0 F.t1 w
  have k3 : Hid (∀ w, Calls Tryz.prog 72 #[.int .i64 oldTop, .int .i64 0, .int .i64 old] w fun ev w' => ev = .returned (.bool true) ∧ w' = w) := fun w => mwithin_ok oldTop 0 old F.o0 F.o1 w
  obtain ⟨c0, c1, c2, c3, c4, c5, c6, c7, c8, c9, c10⟩ := M
  have e1 : IntKind.i64.wrap (2 * half + old) = (nW : Int) := by have := F.nums; unfold numsOK at this; rw [wrapI _ (by omega) (by omega)]; exact F.w.symm
  have e2 : ((nC : Int) == (old + card - 1) / card) = true := by rw [F.c]; simp
  clear F c7 c8 c9
  go_enter Tryz.func73, Tryz.ntmps73
  go_wp2_with fail
  go_quiet (first | (go_at_call 42; exact Calls.quiet_of_same (kb.out _)) | (go_at_call 43; exact Calls.quiet_of_same (ko.out _)) | (go_at_call 44; exact Calls.quiet_of (kc.out _)) | (go_at_call_of 72 used; exact Calls.quiet_of_same (k1.out _)) | (go_at_call_of 72 top; exact Calls.quiet_of_same (k2.out _)) | (go_at_call_of 72 oldTop; exact Calls.quiet_of_same (k3.out _)))
  go_wp2
  go_ret
  exact ⟨rfl, _, rfl⟩

theorem nursery_any (p : Nat) (half used : Int) (h0 : 0 ≤ half) (h1 : half ≤ 65536) (u0 : 0 ≤ used) (u1 : used ≤ 1) (w : World) (c0 : w.cell? ⟨p, 0, none⟩ = some (.int .i64 half)) (c4 : w.cell? ⟨p, 4, none⟩ = some (.int .i64 used)) :
    Calls Tryz.prog 50 #[.pointer (some ⟨p, 0, none⟩)] w fun ev w' => ev = .returned (.int .i64 (used * half)) ∧ ∃ q, w' = w.drewN q := by
  obtain rfl | rfl : used = 0 ∨ used = 1 := by omega
  · go_enter Tryz.func50, Tryz.ntmps50
    go_wp2
    go_quiet (fail)
    go_wp2
    go_ret
    exact ⟨by rw [Int.zero_mul]; rfl, _, rfl⟩
  · go_enter Tryz.func50, Tryz.ntmps50
    go_wp2
    go_quiet (fail)
    go_wp2
    go_ret
    exact ⟨by rw [Int.one_mul]; rfl, _, rfl⟩

theorem eachOf_none (ao : Option Addr) (n c : Nat) (x : Int) (f : Value) (hx : (n : Int) ≤ x) (w : World) :
    Calls Tryz.prog 138 #[.slice ao n c, .int .i64 x, f] w fun ev w' => ev = .returned (.bool true) ∧ w' = w := by
  go_enter Tryz.func138, Tryz.ntmps138
  go_wp2_with fail
  refine wp_loop_rounds 1 ?_
  rw [rounds_succ]
  go_wp2
  go_ret
  exact ⟨rfl, rfl⟩
end Go.Proofs.YtnenggkgfhgcnaaGreatDoor

/- Package mem: Check of a memory with no objects, by contracts (on). -/
namespace Go.Proofs.YtnenggkgfhgcnaaGreatDoor
open Go.RowKit Go.Maps

theorem eachYoung_none (p b nW cW : Nat) (half old card oldTop : Int) (r k i c f : Value) (h0 : 0 ≤ half) (h1 : half ≤ 65536) (w : World)
    (M : MemAt p half old card (.slice (some ⟨b, 0, none⟩) nW cW) 0 0 oldTop r k i c w) :
    Calls Tryz.prog 124 #[.pointer (some ⟨p, 0, none⟩), f] w fun ev w' => ev = .returned (.bool true) ∧ ∃ q, w' = w.drewN q := by
  have kn : Hid (∀ q, Calls Tryz.prog 50 #[.pointer (some ⟨p, 0, none⟩)] (w.drewN q) fun ev w' => ev = .returned (.int .i64 0) ∧ ∃ m, w' = (w.drewN q).drewN m) := fun q => by
    have h := nursery_any p half 0 h0 h1 (by omega) (by omega) (w.drewN q) M.c0 M.c4
    rw [Int.zero_mul] at h
    exact h
  have ke : Hid (∀ w, Calls Tryz.prog 138 #[.slice (some ⟨b, 0, none⟩) 0 cW, .int .i64 0, f] w fun ev w' => ev = .returned (.bool true) ∧ w' = w) := fun w => eachOf_none _ 0 cW 0 f (by omega) w
  obtain ⟨c0, c1, c2, c3, c4, c5, c6, c7, c8, c9, c10⟩ := M
  have e1 : IntKind.i64.wrap (0 + 0) = 0 := by decide
  clear c0 c1 c2 c4 c6 c7 c8 c9 c10
  go_enter Tryz.func124, Tryz.ntmps124
  go_wp2_with fail
  go_quiet (first | (go_at_call 50; exact Calls.quiet_of (kn.out _)) | (go_at_call 138; exact Calls.quiet_of_same (ke.out _)))
  go_wp2
  go_ret
  exact ⟨rfl, _, rfl⟩
theorem eachOld_none (p b nW cW h : Nat) (old card used top : Int) (r k i c f : Value) (h1 : h ≤ 65536) (hw : 2 * h ≤ nW) (hc : nW ≤ cW) (w : World)
    (M : MemAt p (h : Int) old card (.slice (some ⟨b, 0, none⟩) nW cW) used top 0 r k i c w) :
    Calls Tryz.prog 120 #[.pointer (some ⟨p, 0, none⟩), f] w fun ev w' => ev = .returned (.bool true) ∧ ∃ q, w' = w.drewN q := by
  have kn : Hid (∀ q, Calls Tryz.prog 43 #[.pointer (some ⟨p, 0, none⟩)] (w.drewN q) fun ev w' => ev = .returned (.int .i64 (2 * (h : Int))) ∧ w' = w.drewN q) := fun q => oldFrom_any p h (by omega) (by omega) (w.drewN q) M.c0
  have ke : Hid (∀ w, Calls Tryz.prog 138 #[.slice (some ⟨b, 0, none⟩) (2 * h) cW, .int .i64 (2 * (h : Int)), f] w fun ev w' => ev = .returned (.bool true) ∧ w' = w) := fun w => eachOf_none _ (2 * h) cW _ f (by omega) w
  obtain ⟨c0, c1, c2, c3, c4, c5, c6, c7, c8, c9, c10⟩ := M
  have e1 : IntKind.i64.wrap (2 * (h : Int) + 0) = 2 * (h : Int) := wrapI _ (by omega) (by omega)
  clear c0 c1 c2 c4 c5 c7 c8 c9 c10
  go_enter Tryz.func120, Tryz.ntmps120
  go_wp2_with fail
  go_quiet (first | (go_at_call 43; exact Calls.quiet_of_same (kn.out _)) | (go_at_call 138; exact Calls.quiet_of_same (ke.out _)))
  go_wp2
  go_ret
  exact ⟨rfl, _, rfl⟩
/-- A memory with no objects. -/
structure Bare (p b h nW nC : Nat) (old card : Int) (aC : Option Addr) (w : World) : Prop where
  mem : MemAt p (h : Int) old card (.slice (some ⟨b, 0, none⟩) nW nW) 0 0 0 (.slice none 0 0) (.slice none 0 0) (.slice none 0 0) (.slice aC nC nC) w
  fits : Fits (h : Int) old card nW nC 0 0 0
theorem Bare.below {p b h nW nC B : Nat} {old card : Int} {aC : Option Addr} {w w' : World} (K : Bare p b h nW nC old card aC w) (hb : Below B w w') (hp : p < B) : Bare p b h nW nC old card aC w' := ⟨K.mem.below hb hp, K.fits⟩
theorem Bare.at {p b h nW nC : Nat} {old card : Int} {aC : Option Addr} {w : World} (K : Bare p b h nW nC old card aC w) : p < w.heap.size := lt_of_cell K.mem.c0

theorem eachOld_bare {p b h nW nC : Nat} {old card : Int} {aC : Option Addr} (f : Value) (w : World) (K : Bare p b h nW nC old card aC w) :
    Calls Tryz.prog 120 #[.pointer (some ⟨p, 0, none⟩), f] w fun ev w' => ev = .returned (.bool true) ∧ ∃ q, w' = w.drewN q := by
  have hf := K.fits.nums
  have hw := K.fits.w
  unfold numsOK at hf
  exact eachOld_none p b nW nW h old card 0 0 _ _ _ _ f (by omega) (by omega) (Nat.le_refl _) w K.mem
theorem each_bare {p b h nW nC : Nat} {old card : Int} {aC : Option Addr} (f : Value) (w : World) (K : Bare p b h nW nC old card aC w) :
    Calls Tryz.prog 103 #[.pointer (some ⟨p, 0, none⟩), f] w fun ev w' => ev = .returned (.bool true) ∧ Below w.heap.size w w' := by
  have hf := K.fits.nums
  unfold numsOK at hf
  have ky := eachYoung_none p b nW nW (h : Int) old card 0 _ _ _ _ f (by omega) (by omega) w K.mem
  go_enter Tryz.func103, Tryz.ntmps103
  go_wp2_with fail
  refine ky.mono ?_
  rintro ev w1 ⟨rfl, q, rfl⟩
  go_wp2_with fail
  refine (eachOld_bare f _ (K.below (below_drewN (Below.refl w.heap.size _)) K.at)).mono ?_
  rintro ev w1 ⟨rfl, q1, h1⟩
  rw [h1]
  clear h1 w1
  go_wp2_with fail
  go_ret
  exact ⟨rfl, below_drewN (Below.refl w.heap.size w)⟩
theorem two_below (w : World) (o o' : Obj) : Below w.heap.size w ((w.alloc o).alloc o') := ((Below.refl _ _).alloc (Nat.le_refl _) _).alloc (by simp) _
theorem findHeads_bare {p b h nW nC : Nat} {old card : Int} {aC : Option Addr} (ga : Option Addr) (gn gc : Nat) (w : World) (K : Bare p b h nW nC old card aC w) :
    Calls Tryz.prog 74 #[.pointer (some ⟨p, 0, none⟩), .slice ga gn gc] w fun ev w' => ev = .returned (.bool true) ∧ Below w.heap.size w w' := by
  go_enter Tryz.func74, Tryz.ntmps74
  go_wp2_with fail
  refine (each_bare _ _ (K.below (two_below w _ _) K.at)).mono ?_
  rintro ev w1 ⟨rfl, hb⟩
  go_wp2_with fail
  go_ret
  exact ⟨rfl, (two_below w _ _).trans (hb.mono (by simp; omega))⟩
theorem holdFields_bare {p b h nW nC : Nat} {old card : Int} {aC : Option Addr} (ga : Option Addr) (gn gc : Nat) (w : World) (K : Bare p b h nW nC old card aC w) :
    Calls Tryz.prog 75 #[.pointer (some ⟨p, 0, none⟩), .slice ga gn gc] w fun ev w' => ev = .returned (.bool true) ∧ Below w.heap.size w w' := by
  go_enter Tryz.func75, Tryz.ntmps75
  go_wp2_with fail
  refine (each_bare _ _ (K.below (two_below w _ _) K.at)).mono ?_
  rintro ev w1 ⟨rfl, hb⟩
  go_wp2_with fail
  go_ret
  exact ⟨rfl, (two_below w _ _).trans (hb.mono (by simp; omega))⟩
theorem eachOldField_bare {p b h nW nC : Nat} {old card : Int} {aC : Option Addr} (k : FuncId) (caps : Array Value) (w : World) (K : Bare p b h nW nC old card aC w) :
    Calls Tryz.prog 97 #[.pointer (some ⟨p, 0, none⟩), .func (.func k) #[] caps] w fun ev w' => ev = .returned (.bool true) ∧ Below w.heap.size w w' := by
  go_enter Tryz.func97, Tryz.ntmps97
  go_wp2_with fail
  refine (eachOld_bare _ _ (K.below ((Below.refl w.heap.size w).alloc (Nat.le_refl _) _) K.at)).mono ?_
  rintro ev w1 ⟨rfl, q, hq⟩
  rw [hq]
  clear hq w1
  go_wp2_with fail
  go_ret
  exact ⟨rfl, below_drewN ((Below.refl w.heap.size w).alloc (Nat.le_refl _) _)⟩
theorem carded_bare {p b h nW nC : Nat} {old card : Int} {aC : Option Addr} (w : World) (K : Bare p b h nW nC old card aC w) :
    Calls Tryz.prog 77 #[.pointer (some ⟨p, 0, none⟩)] w fun ev w' => ev = .returned (.bool true) ∧ Below w.heap.size w w' := by
  go_enter Tryz.func77, Tryz.ntmps77
  go_wp2_with fail
  refine (eachOldField_bare _ _ _ (K.below ((Below.refl w.heap.size w).alloc (Nat.le_refl _) _) K.at)).mono ?_
  rintro ev w1 ⟨rfl, hb⟩
  go_wp2_with fail
  go_ret
  exact ⟨rfl, ((Below.refl w.heap.size w).alloc (Nat.le_refl _) _).trans (hb.mono (by simp))⟩
theorem holdAll_none (g : Value) (w : World) :
    Calls Tryz.prog 48 #[g, .slice none 0 0] w fun ev w' => ev = .returned (.bool true) ∧ w' = w := by
  go_enter Tryz.func48, Tryz.ntmps48
  go_wp2_with fail
  refine wp_loop_rounds 1 ?_
  rw [rounds_succ]
  go_wp2
  go_ret
  exact ⟨rfl, rfl⟩
theorem holdIDs_none (g : Value) (w : World) :
    Calls Tryz.prog 76 #[g, .slice none 0 0] w fun ev w' => ev = .returned (.bool true) ∧ Below w.heap.size w w' := by
  have hmm := @run_makeMap Tryz.prog
  go_enter Tryz.func76, Tryz.ntmps76
  go_wp2_with fail
  refine wp_loop_rounds 1 ?_
  rw [rounds_succ]
  go_wp2
  go_ret
  exact ⟨rfl, two_below w _ _⟩
set_option maxRecDepth 100000 in
theorem make_heads (n : Nat) (hn : n ≤ 300000) (L : Int) (hL : L = (n : Int)) (w : World) :
    (Instr.makeSlice 88 (.int .i64 L) (.int .i64 L)).run Tryz.prog w = .ok (.slice (some ⟨w.heap.size, 0, none⟩) n n) (w.alloc (.cells (Array.replicate n (.bool false)) 4)) := by
  subst hL
  obtain ⟨i, hi, hz, h1, h8⟩ := infoBool
  have h := run_make (P := Tryz.prog) w 88 4 i (.bool false) Tryz.underlying88 hi hz .i64 .i64 (n : Int) (n : Int) (by omega) (by omega) (by rw [h8]; omega) (by omega)
  rw [h, h1]
  have e : madeCells (Value.bool false).cells ((n : Int).toNat * 1) = Array.replicate n (.bool false) := by
    apply Array.ext
    · simp [madeCells]
    · intro i h1 h2
      have e0 : i % 1 = 0 := Nat.mod_one i
      simp [madeCells, Value.cells, e0]
  rw [e]
  simp
set_option maxHeartbeats 2000000 in
set_option maxRecDepth 100000 in
theorem survey_bare {p b h nW nC : Nat} {old card : Int} {aC : Option Addr} (w : World) (K : Bare p b h nW nC old card aC w) :
    Calls Tryz.prog 45 #[.pointer (some ⟨p, 0, none⟩)] w fun ev w' => (∃ bh, ev = .returned (.tuple #[.slice (some ⟨bh, 0, none⟩) nW nW, .nilIface])) ∧ Below w.heap.size w w' := by
  have hmk : ∀ w : World, _ := make_heads nW (by have hn := K.fits.nums; have hw := K.fits.w; unfold numsOK at hn; omega) (nW : Int) rfl
  have km := measured_ok p (h : Int) old card nW nC nW nC _ aC 0 0 0 _ _ _ K.fits w K.mem
  have HK : Hid (Bare p b h nW nC old card aC w) := K
  have hp : p < w.heap.size := K.at
  obtain ⟨⟨c0, c1, c2, c3, c4, c5, c6, c7, c8, c9, c10⟩, HF⟩ := K
  clear HF
  go_enter Tryz.func45, Tryz.ntmps45
  go_wp2_with fail
  refine km.mono ?_
  rintro ev w1 ⟨rfl, q, hq⟩
  clear km
  have hb1 : Below w.heap.size w w1 := by rw [hq]; exact below_drewN (Below.refl _ _)
  clear hq q
  have K1 := HK.out.below hb1 hp
  have HK1 : Hid (Bare p b h nW nC old card aC w1) := K1
  have hp1 := K1.at
  obtain ⟨⟨d0, d1, d2, d3, d4, d5, d6, d7, d8, d9, d10⟩, HF⟩ := K1
  clear HF c0 c1 c2 c3 c4 c5 c6 c7 c8 c9 c10
  go_wp2_with fail
  have hb2 : Below w1.heap.size w1 (w1.alloc (.cells (Array.replicate nW (.bool false)) 4)) := (Below.refl _ _).alloc (Nat.le_refl _) _
  have K2 := HK1.out.below hb2 hp1
  refine (findHeads_bare _ _ _ _ K2).mono ?_
  rintro ev w2 ⟨rfl, hb3⟩
  have hb4 := hb2.trans (hb3.mono (by simp))
  have K3 := HK1.out.below hb4 hp1
  clear hb2 hb3 K2
  go_wp2_with fail
  refine (holdFields_bare _ _ _ _ K3).mono ?_
  rintro ev w3 ⟨rfl, hb5⟩
  have hb6 := hb4.trans (hb5.mono hb4.size)
  have K4 := HK1.out.below hb6 hp1
  have hp4 := K4.at
  clear hb4 hb5 K3 w2
  obtain ⟨⟨e0, e1, e2, e3, e4, e5, e6, e7, e8, e9, e10⟩, HF⟩ := K4
  clear HF
  go_wp2_with fail
  refine (holdAll_none _ _).mono ?_
  rintro ev w4 ⟨rfl, hq⟩
  rw [hq]
  clear hq w4
  go_wp2_with fail
  refine (holdAll_none _ _).mono ?_
  rintro ev w4 ⟨rfl, hq⟩
  rw [hq]
  clear hq w4
  go_wp2_with fail
  refine (holdIDs_none _ _).mono ?_
  rintro ev w4 ⟨rfl, hb7⟩
  have hb8 := hb6.trans (hb7.mono hb6.size)
  have K5 := HK1.out.below hb8 hp1
  clear hb6 hb7 e0 e1 e2 e3 e4 e5 e6 e7 e8 e9 e10 hp4
  go_wp2_with fail
  refine (carded_bare _ K5).mono ?_
  rintro ev w5 ⟨rfl, hb9⟩
  have hb10 := hb1.trans ((hb8.trans (hb9.mono hb8.size)).mono hb1.size)
  clear hb8 hb9 K5
  go_wp2_with fail
  go_ret2
  exact ⟨⟨_, rfl⟩, hb10⟩
theorem check_bare {p b h nW nC : Nat} {old card : Int} {aC : Option Addr} (w : World) (K : Bare p b h nW nC old card aC w) :
    Calls Tryz.prog 40 #[.pointer (some ⟨p, 0, none⟩)] w fun ev w' => ev = .returned .nilIface ∧ Below w.heap.size w w' := by
  go_enter Tryz.func40, Tryz.ntmps40
  go_wp2_with fail
  refine (survey_bare w K).mono ?_
  rintro ev w1 ⟨⟨bh, rfl⟩, hb⟩
  go_wp2_with fail
  go_ret
  exact ⟨rfl, hb⟩

theorem newW_facts (half old card : Int) (nW nC : Nat) (w : World) (q : Nat) : Below w.heap.size w ((newW half old card nW nC w).drewN q) ∧
    MemAt w.heap.size half old card (.slice (some ⟨w.heap.size + 1, 0, none⟩) nW nW) 0 0 0 (.slice none 0 0) (.slice none 0 0) (.slice none 0 0) (.slice (some ⟨w.heap.size + 2, 0, none⟩) nC nC) ((newW half old card nW nC w).drewN q) ∧
    ((newW half old card nW nC w).drewN q).heap[w.heap.size + 1]? = some (.cells (Array.replicate nW (.int .u64 0)) 50) ∧
    ((newW half old card nW nC w).drewN q).heap[w.heap.size + 2]? = some (.cells (Array.replicate nC (.bool false)) 4) := by
  refine ⟨below_drewN ((two_below w _ _).alloc (by simp; omega) _), ?_, ?_, ?_⟩
  · exact (memAt_alloc w half old card (.slice (some ⟨w.heap.size + 1, 0, none⟩) nW nW) 0 0 0 (.slice none 0 0) (.slice none 0 0) (.slice none 0 0) (.slice (some ⟨w.heap.size + 2, 0, none⟩) nC nC) 55).below (B := w.heap.size + 1) (below_drewN (((Below.refl _ _).alloc (by simp) _).alloc (by simp) _)) (by simp)
  · show (newW half old card nW nC w).heap[w.heap.size + 1]? = _
    unfold newW World.alloc
    simp [Array.getElem_push]
  · show (newW half old card nW nC w).heap[w.heap.size + 2]? = _
    unfold newW World.alloc
    simp [Array.getElem_push]
end Go.Proofs.YtnenggkgfhgcnaaGreatDoor
