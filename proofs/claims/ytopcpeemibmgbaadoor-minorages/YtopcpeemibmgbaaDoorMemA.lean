/- Package mem: a new memory, by contracts. -/
import Derived.Test.YtopcpeemibmgbaaDoorWordC
import Derived.Deep.LoopGhost
import Derived.Laws.MakeOwn
namespace Go.Proofs.YtopcpeemibmgbaaDoor
open Go.RowKit

theorem mwithin_any (n l t : Int) (w : World) :
    Calls Tryd.prog 49 #[.int .i64 n, .int .i64 l, .int .i64 t] w fun ev w' => ev = .returned (.bool (decide (l ≤ n) && decide (n ≤ t))) ∧ w' = w := by
  by_cases c : l ≤ n
  · rw [decide_eq_true c, Bool.true_and]
    go_enter Tryd.func49, Tryd.ntmps49
    go_wp2
    go_ret
    exact ⟨rfl, rfl⟩
  · rw [decide_eq_false c, Bool.false_and]
    go_enter Tryd.func49, Tryd.ntmps49
    go_wp2
    go_ret
    exact ⟨rfl, rfl⟩
theorem mwithin_ok (n l t : Int) (h0 : l ≤ n) (h1 : n ≤ t) (w : World) :
    Calls Tryd.prog 49 #[.int .i64 n, .int .i64 l, .int .i64 t] w fun ev w' => ev = .returned (.bool true) ∧ w' = w := by
  have h := mwithin_any n l t w
  rw [decide_eq_true h0, decide_eq_true h1] at h
  exact h
theorem mwithin_no (n l t : Int) (h0 : ¬ (l ≤ n ∧ n ≤ t)) (w : World) :
    Calls Tryd.prog 49 #[.int .i64 n, .int .i64 l, .int .i64 t] w fun ev w' => ev = .returned (.bool false) ∧ w' = w := by
  have h := mwithin_any n l t w
  have e : (decide (l ≤ n) && decide (n ≤ t)) = false := by
    rw [Bool.and_eq_false_iff, decide_eq_false_iff_not, decide_eq_false_iff_not]
    omega
  rw [e] at h
  exact h

/-- A memory's cells. -/
structure MemAt (p : Nat) (half old card : Int) (W : Value) (used top oldTop : Int) (roots weak ids cards : Value) (w : World) : Prop where
  c0 : w.cell? ⟨p, 0, none⟩ = some (.int .i64 half)
  c1 : w.cell? ⟨p, 1, none⟩ = some (.int .i64 old)
  c2 : w.cell? ⟨p, 2, none⟩ = some (.int .i64 card)
  c3 : w.cell? ⟨p, 3, none⟩ = some W
  c4 : w.cell? ⟨p, 4, none⟩ = some (.int .i64 used)
  c5 : w.cell? ⟨p, 5, none⟩ = some (.int .i64 top)
  c6 : w.cell? ⟨p, 6, none⟩ = some (.int .i64 oldTop)
  c7 : w.cell? ⟨p, 7, none⟩ = some roots
  c8 : w.cell? ⟨p, 8, none⟩ = some weak
  c9 : w.cell? ⟨p, 9, none⟩ = some ids
  c10 : w.cell? ⟨p, 10, none⟩ = some cards
theorem MemAt.below {p B : Nat} {half old card : Int} {W : Value} {used top oldTop : Int} {roots weak ids cards : Value} {w w' : World} (M : MemAt p half old card W used top oldTop roots weak ids cards w) (hb : Below B w w') (hp : p < B) : MemAt p half old card W used top oldTop roots weak ids cards w' where
  c0 := (hb.cell (p := ⟨p, 0, none⟩) hp).trans M.c0
  c1 := (hb.cell (p := ⟨p, 1, none⟩) hp).trans M.c1
  c2 := (hb.cell (p := ⟨p, 2, none⟩) hp).trans M.c2
  c3 := (hb.cell (p := ⟨p, 3, none⟩) hp).trans M.c3
  c4 := (hb.cell (p := ⟨p, 4, none⟩) hp).trans M.c4
  c5 := (hb.cell (p := ⟨p, 5, none⟩) hp).trans M.c5
  c6 := (hb.cell (p := ⟨p, 6, none⟩) hp).trans M.c6
  c7 := (hb.cell (p := ⟨p, 7, none⟩) hp).trans M.c7
  c8 := (hb.cell (p := ⟨p, 8, none⟩) hp).trans M.c8
  c9 := (hb.cell (p := ⟨p, 9, none⟩) hp).trans M.c9
  c10 := (hb.cell (p := ⟨p, 10, none⟩) hp).trans M.c10

/-- Numbers that New takes. -/
def numsOK (half old card : Int) : Prop := 1 ≤ half ∧ half ≤ 65536 ∧ 1 ≤ old ∧ old ≤ 65536 ∧ 1 ≤ card ∧ card ≤ 1024

theorem bounded_ok (p : Nat) (half old card : Int) (H : numsOK half old card) (w : World) (c0 : w.cell? ⟨p, 0, none⟩ = some (.int .i64 half)) (c1 : w.cell? ⟨p, 1, none⟩ = some (.int .i64 old)) (c2 : w.cell? ⟨p, 2, none⟩ = some (.int .i64 card)) :
    Calls Tryd.prog 28 #[.pointer (some ⟨p, 0, none⟩)] w fun ev w' => ev = .returned (.bool true) ∧ w' = w := by
  obtain ⟨h0, h1, h2, h3, h4, h5⟩ := H
  go_enter Tryd.func28, Tryd.ntmps28
  go_wp2_with fail
  refine (mwithin_ok half 1 65536 h0 h1 w).mono ?_
  rintro ev w' ⟨rfl, h⟩
  rw [h]
  clear h w'
  go_wp2_with fail
  refine (mwithin_ok old 1 65536 h2 h3 w).mono ?_
  rintro ev w' ⟨rfl, h⟩
  rw [h]
  clear h w'
  go_wp2_with fail
  refine (mwithin_ok card 1 1024 h4 h5 w).mono ?_
  rintro ev w' ⟨rfl, h⟩
  rw [h]
  clear h w'
  go_wp2_with fail
  go_ret
  exact ⟨rfl, rfl⟩
theorem bounded_no (p : Nat) (half old card : Int) (H : ¬ numsOK half old card) (w : World) (c0 : w.cell? ⟨p, 0, none⟩ = some (.int .i64 half)) (c1 : w.cell? ⟨p, 1, none⟩ = some (.int .i64 old)) (c2 : w.cell? ⟨p, 2, none⟩ = some (.int .i64 card)) :
    Calls Tryd.prog 28 #[.pointer (some ⟨p, 0, none⟩)] w fun ev w' => ev = .returned (.bool false) ∧ w' = w := by
  unfold numsOK at H
  by_cases h0 : 1 ≤ half ∧ half ≤ 65536
  · by_cases h1 : 1 ≤ old ∧ old ≤ 65536
    · have h2 : ¬ (1 ≤ card ∧ card ≤ 1024) := by omega
      have k0 := mwithin_ok half 1 65536 h0.1 h0.2 w
      have k1 := mwithin_ok old 1 65536 h1.1 h1.2 w
      have k2 := mwithin_no card 1 1024 h2 w
      clear H h0 h1 h2
      go_enter Tryd.func28, Tryd.ntmps28
      go_wp2_with fail
      refine k0.mono ?_
      rintro ev w' ⟨rfl, h⟩
      rw [h]
      clear h w'
      go_wp2_with fail
      refine k1.mono ?_
      rintro ev w' ⟨rfl, h⟩
      rw [h]
      clear h w'
      go_wp2_with fail
      refine k2.mono ?_
      rintro ev w' ⟨rfl, h⟩
      rw [h]
      clear h w'
      go_wp2_with fail
      go_ret
      exact ⟨rfl, rfl⟩
    · have k0 := mwithin_ok half 1 65536 h0.1 h0.2 w
      have k1 := mwithin_no old 1 65536 h1 w
      clear H h0 h1
      go_enter Tryd.func28, Tryd.ntmps28
      go_wp2_with fail
      refine k0.mono ?_
      rintro ev w' ⟨rfl, h⟩
      rw [h]
      clear h w'
      go_wp2_with fail
      refine k1.mono ?_
      rintro ev w' ⟨rfl, h⟩
      rw [h]
      clear h w'
      go_wp2_with fail
      go_ret
      exact ⟨rfl, rfl⟩
  · have k0 := mwithin_no half 1 65536 h0 w
    clear H h0
    go_enter Tryd.func28, Tryd.ntmps28
    go_wp2_with fail
    refine k0.mono ?_
    rintro ev w' ⟨rfl, h⟩
    rw [h]
    clear h w'
    go_wp2_with fail
    go_ret
    exact ⟨rfl, rfl⟩
theorem oldFrom_any (p : Nat) (half : Int) (h0 : 0 ≤ half) (h1 : half ≤ 65536) (w : World) (c0 : w.cell? ⟨p, 0, none⟩ = some (.int .i64 half)) :
    Calls Tryd.prog 29 #[.pointer (some ⟨p, 0, none⟩)] w fun ev w' => ev = .returned (.int .i64 (2 * half)) ∧ w' = w := by
  go_enter Tryd.func29, Tryd.ntmps29
  go_wp2
  go_ret
  exact ⟨rfl, rfl⟩
theorem cards_any (p : Nat) (half old card : Int) (H : numsOK half old card) (w : World) (c1 : w.cell? ⟨p, 1, none⟩ = some (.int .i64 old)) (c2 : w.cell? ⟨p, 2, none⟩ = some (.int .i64 card)) :
    Calls Tryd.prog 30 #[.pointer (some ⟨p, 0, none⟩)] w fun ev w' => ev = .returned (.int .i64 ((old + card - 1) / card)) ∧ ∃ q, w' = w.drewN q := by
  obtain ⟨h0, h1, h2, h3, h4, h5⟩ := H
  have q0 : (0 : Int) ≤ (old + card - 1) / card := Int.ediv_nonneg (by omega) (by omega)
  have q1 : (old + card - 1) / card ≤ old + card - 1 := Int.ediv_le_self _ (by omega)
  go_enter Tryd.func30, Tryd.ntmps30
  go_wp2
  go_quiet (fail)
  go_wp2
  go_ret
  exact ⟨rfl, _, rfl⟩

set_option maxRecDepth 100000 in
theorem infoU64 : ∃ i, Tryd.prog.info? 48 = some i ∧ i.zero = some (.int .u64 0) ∧ i.size = 1 ∧ i.bytes = 8 := by
  refine ⟨(Tryd.prog.info? 48).get (by kernel_rfl), ?_, ?_, ?_, ?_⟩
  · exact (Option.some_get _).symm
  · kernel_rfl
  · kernel_rfl
  · kernel_rfl
set_option maxRecDepth 100000 in
theorem infoBool : ∃ i, Tryd.prog.info? 4 = some i ∧ i.zero = some (.bool false) ∧ i.size = 1 ∧ i.bytes = 1 := by
  refine ⟨(Tryd.prog.info? 4).get (by kernel_rfl), ?_, ?_, ?_, ?_⟩
  · exact (Option.some_get _).symm
  · kernel_rfl
  · kernel_rfl
  · kernel_rfl
theorem make_words (n : Nat) (hn : n ≤ 300000) (L : Int) (hL : L = (n : Int)) (w : World) :
    (Instr.makeSlice 36 (.int .i64 L) (.int .i64 L)).run Tryd.prog w = .ok (.slice (some ⟨w.heap.size, 0, none⟩) n n) (w.alloc (.cells (Array.replicate n (.int .u64 0)) 48)) := by
  subst hL
  obtain ⟨i, hi, hz, h1, h8⟩ := infoU64
  have h := run_make (P := Tryd.prog) w 36 48 i (.int .u64 0) Tryd.underlying36 hi hz .i64 .i64 (n : Int) (n : Int) (by omega) (by omega) (by rw [h8]; omega) (by omega)
  rw [h, h1]
  have e : madeCells (Value.int .u64 0).cells ((n : Int).toNat * 1) = Array.replicate n (.int .u64 0) := by
    apply Array.ext
    · simp [madeCells]
    · intro i h1 h2
      have e0 : i % 1 = 0 := Nat.mod_one i
      simp [madeCells, Value.cells, e0]
  rw [e]
  simp
theorem make_bools (n : Nat) (hn : n ≤ 300000) (L : Int) (hL : L = (n : Int)) (w : World) :
    (Instr.makeSlice 38 (.int .i64 L) (.int .i64 L)).run Tryd.prog w = .ok (.slice (some ⟨w.heap.size, 0, none⟩) n n) (w.alloc (.cells (Array.replicate n (.bool false)) 4)) := by
  subst hL
  obtain ⟨i, hi, hz, h1, h8⟩ := infoBool
  have h := run_make (P := Tryd.prog) w 38 4 i (.bool false) Tryd.underlying38 hi hz .i64 .i64 (n : Int) (n : Int) (by omega) (by omega) (by rw [h8]; omega) (by omega)
  rw [h, h1]
  have e : madeCells (Value.bool false).cells ((n : Int).toNat * 1) = Array.replicate n (.bool false) := by
    apply Array.ext
    · simp [madeCells]
    · intro i h1 h2
      have e0 : i % 1 = 0 := Nat.mod_one i
      simp [madeCells, Value.cells, e0]
  rw [e]
  simp

theorem memAt_alloc (w : World) (half old card : Int) (v3 : Value) (used top oldTop : Int) (v7 v8 v9 v10 : Value) (T : TypeId) : MemAt w.heap.size half old card v3 used top oldTop v7 v8 v9 v10 (w.alloc (.cells #[.int .i64 half, .int .i64 old, .int .i64 card, v3, .int .i64 used, .int .i64 top, .int .i64 oldTop, v7, v8, v9, v10] T)) :=
  have h : ∀ (_ : Nat) (_ : Value), _ → _ := fun o x (hx : #[Value.int .i64 half, .int .i64 old, .int .i64 card, v3, .int .i64 used, .int .i64 top, .int .i64 oldTop, v7, v8, v9, v10][o]? = some x) => (cell_of_row _ _ o _ _ _ (heap_alloc_new w _)).trans hx
  ⟨h 0 _ rfl, h 1 _ rfl, h 2 _ rfl, h 3 _ rfl, h 4 _ rfl, h 5 _ rfl, h 6 _ rfl, h 7 _ rfl, h 8 _ rfl, h 9 _ rfl, h 10 _ rfl⟩
theorem new_no (a : Nat → Addr) (half old card : Int) (H : ¬ numsOK half old card) (w : World) (E : WErr a w) :
    Calls Tryd.prog 14 #[.int .i64 half, .int .i64 old, .int .i64 card] w fun ev w' => ev = .returned (.tuple #[.pointer none, errV a 1]) ∧ Below w.heap.size w w' := by
  go_enter Tryd.func14, Tryd.ntmps14
  go_wp2_with fail
  have M := memAt_alloc w half old card (.slice none 0 0) 0 0 0 (.slice none 0 0) (.slice none 0 0) (.slice none 0 0) (.slice none 0 0) 53
  refine (bounded_no _ half old card H _ M.c0 M.c1 M.c2).mono ?_
  rintro ev w1 ⟨rfl, h⟩
  have hb : Below w.heap.size w w1 := by rw [h]; exact (Below.refl _ _).alloc (Nat.le_refl _) _
  have k1 := (E.below hb).c1
  clear h M
  go_wp2_with fail
  go_quiet (fail)
  go_wp2
  go_ret2
  exact ⟨rfl, below_drewN hb⟩
/-- The world behind New. -/
def newW (half old card : Int) (nW nC : Nat) (w : World) : World := ((w.alloc (.cells #[.int .i64 half, .int .i64 old, .int .i64 card, .slice (some ⟨w.heap.size + 1, 0, none⟩) nW nW, .int .i64 0, .int .i64 0, .int .i64 0, .slice none 0 0, .slice none 0 0, .slice none 0 0, .slice (some ⟨w.heap.size + 2, 0, none⟩) nC nC] 53)).alloc (.cells (Array.replicate nW (.int .u64 0)) 48)).alloc (.cells (Array.replicate nC (.bool false)) 4)
set_option maxHeartbeats 4000000 in
theorem new_ok (half old card : Int) (H : numsOK half old card) (nW nC : Nat) (hW : (nW : Int) = 2 * half + old) (hC : (nC : Int) = (old + card - 1) / card) (w : World) :
    Calls Tryd.prog 14 #[.int .i64 half, .int .i64 old, .int .i64 card] w fun ev w' => ev = .returned (.tuple #[.pointer (some ⟨w.heap.size, 0, none⟩), .nilIface]) ∧ ∃ q, w' = (newW half old card nW nC w).drewN q := by
  have hm1 := make_words nW (by unfold numsOK at H; omega) (2 * half + old) hW.symm
  have q1 : (old + card - 1) / card ≤ old + card - 1 := Int.ediv_le_self _ (by unfold numsOK at H; omega)
  have hm2 := make_bools nC (by unfold numsOK at H; omega) ((old + card - 1) / card) hC.symm
  have HN : Hid (numsOK half old card) := H
  obtain ⟨h0, h1, h2, h3, h4, h5⟩ := H
  go_enter Tryd.func14, Tryd.ntmps14
  go_wp2_with fail
  have M := memAt_alloc w half old card (.slice none 0 0) 0 0 0 (.slice none 0 0) (.slice none 0 0) (.slice none 0 0) (.slice none 0 0) 53
  refine (bounded_ok _ half old card HN.out _ M.c0 M.c1 M.c2).mono ?_
  rintro ev w1 ⟨rfl, h⟩
  rw [h]
  clear h w1
  go_wp2_with fail
  refine (oldFrom_any _ half (by omega) h1 _ M.c0).mono ?_
  rintro ev w1 ⟨rfl, h⟩
  rw [h]
  clear h w1
  go_wp2_with fail
  have M1 := (memAt_alloc w half old card (.slice (some ⟨w.heap.size + 1, 0, none⟩) nW nW) 0 0 0 (.slice none 0 0) (.slice none 0 0) (.slice none 0 0) (.slice none 0 0) 53).below ((Below.refl _ _).alloc (Nat.le_refl _) (.cells (Array.replicate nW (.int .u64 0)) 48)) (by simp)
  refine (cards_any _ half old card HN.out _ M1.c1 M1.c2).mono ?_
  rintro ev w1 ⟨rfl, q, h⟩
  rw [h]
  clear h w1
  go_wp2_with fail
  go_ret2
  refine ⟨rfl, q, ?_⟩
  unfold newW
  rw [show ∀ (x : World) (a : Addr) (v : Value), (x.drewN q).setCell a v = (x.setCell a v).drewN q from fun _ _ _ => rfl, World.setCell_alloc_past _ _ _ _ (by simp), World.setCell_alloc_at _ _ _ _ _ rfl]
  rfl
end Go.Proofs.YtopcpeemibmgbaaDoor
