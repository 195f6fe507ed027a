/- The document's memory: Shaped, CheckOf of a memory with no objects, by contracts. -/
import Derived.Test.YtnenggkgfhgcnaaGreatDoorMemD
import Derived.OwnWalk
namespace Go.Proofs.YtnenggkgfhgcnaaGreatDoor
open Go.RowKit

theorem drew2 (w : World) (a b : Nat) : (w.drewN a).drewN b = w.drewN (a + b) := by simp [World.drewN, Nat.add_assoc]
theorem drew_ex2 {w : World} {a b : Nat} : ∃ q, (w.drewN a).drewN b = w.drewN q := ⟨_, by rw [drew2]⟩
theorem drew_ex3 {w : World} {a b c : Nat} : ∃ q, ((w.drewN a).drewN b).drewN c = w.drewN q := ⟨_, by rw [drew2, drew2]⟩
theorem drew_ex4 {w : World} {a b c d : Nat} : ∃ q, (((w.drewN a).drewN b).drewN c).drewN d = w.drewN q := ⟨_, by rw [drew2, drew2, drew2]⟩
theorem MemAt.memO {p : Nat} {half old card : Int} {W : Value} {used top oldTop : Int} {roots weak ids cards : Value} {w : World} (M : MemAt p half old card W used top oldTop roots weak ids cards w) : MemO p 0 half old card W used top oldTop roots weak ids cards w :=
  ⟨M.c0, M.c1, M.c2, M.c3, M.c4, M.c5, M.c6, M.c7, M.c8, M.c9, M.c10⟩
theorem cards_two {old card : Int} (h2 : 1 ≤ old) (h4 : 1 ≤ card) : (old / card * card < old → (old + card - 1) / card = old / card + 1) ∧ (¬ old / card * card < old → (old + card - 1) / card = old / card) ∧ 0 ≤ old / card ∧ old / card ≤ old ∧ 0 ≤ old / card * card ∧ old / card * card ≤ old := by
  have a1 : old / card * card ≤ old := Int.ediv_mul_le old (by omega)
  have a2 : old < (old / card + 1) * card := Int.lt_ediv_add_one_mul_self old (by omega)
  have a3 : 0 ≤ old / card := Int.ediv_nonneg (by omega) (by omega)
  have a4 : old / card ≤ old := Int.ediv_le_self _ (by omega)
  have a5 : 0 ≤ old / card * card := Int.mul_nonneg a3 (by omega)
  rw [Int.add_mul, Int.one_mul] at a2
  generalize old / card = q at *
  refine ⟨fun h => ?_, fun h => ?_, a3, a4, a5, a1⟩
  · have l1 : q + 1 ≤ (old + card - 1) / card := (Int.le_ediv_iff_mul_le (by omega)).2 (by rw [Int.add_mul, Int.one_mul]; omega)
    have l2 : (old + card - 1) / card < q + 2 := (Int.ediv_lt_iff_lt_mul (by omega)).2 (by rw [Int.add_mul]; omega)
    omega
  · have l1 : q ≤ (old + card - 1) / card := (Int.le_ediv_iff_mul_le (by omega)).2 (by omega)
    have l2 : (old + card - 1) / card < q + 1 := (Int.ediv_lt_iff_lt_mul (by omega)).2 (by rw [Int.add_mul, Int.one_mul]; omega)
    omega

set_option maxHeartbeats 4000000 in
set_option maxRecDepth 100000 in
theorem shaped_core (p o : Nat) (half old card qq mm : Int) (nW nC cW cC : Nat) (aW aC : Option Addr) (used top oldTop : Int) (r k i : Value) (w : World)
    (M : MemO p o half old card (.slice aW nW cW) used top oldTop r k i (.slice aC nC cC) w)
    (h0 : 1 ≤ half) (h1 : half ≤ 65536) (h2 : 1 ≤ old) (h3 : old ≤ 65536) (h4 : 1 ≤ card) (h5 : card ≤ 1024) (u0 : 0 ≤ used) (u1 : used ≤ 1) (t0 : 0 ≤ top) (t1 : top ≤ half) (o0 : 0 ≤ oldTop) (o1 : oldTop ≤ old)
    (e1 : IntKind.i64.wrap (old.tdiv card) = qq) (e2 : IntKind.i64.wrap (qq * card) = mm) (e4 : IntKind.i64.wrap (2 * half + old) = (nW : Int)) (q0 : 0 ≤ qq) (q1 : qq ≤ 65536) (hm : (mm < old ∧ (nC : Int) = qq + 1) ∨ (¬ mm < old ∧ (nC : Int) = qq)) :
    Calls Tryz.prog 23 #[.pointer (some ⟨p, o, none⟩)] w fun ev w' => ev = .returned (.bool true) ∧ ∃ q, w' = w.drewN q := by
  obtain ⟨c0, c1, c2, c3, c4, c5, c6, c7, c8, c9, c10⟩ := M
  have e3 : IntKind.i64.wrap (2 * half) = 2 * half := wrapI _ (by omega) (by omega)
  have hc0 : (card == 0) = false := by rw [beq_eq_false_iff_ne]; omega
  have d1 : decide (used < 0) = false := by rw [decide_eq_false_iff_not]; omega
  have d2 : decide (used > 1) = false := by rw [decide_eq_false_iff_not]; omega
  have d3 : decide (top ≥ 0) = true := by rw [decide_eq_true_eq]; omega
  have d4 : decide (top ≤ half) = true := by rw [decide_eq_true_eq]; omega
  have d5 : decide (oldTop ≥ 0) = true := by rw [decide_eq_true_eq]; omega
  clear c7 c8 c9
  rcases hm with ⟨hlt, hC⟩ | ⟨hlt, hC⟩
  · have e5 : ((nC : Int) != qq + 1) = false := by rw [hC]; simp
    clear hC
    go_enter Tryz.func23, Tryz.ntmps23
    go_wp2_with fail
    go_quiet (fail)
    go_wp2_with fail
    go_quiet (fail)
    go_wp2_with fail
    go_quiet (fail)
    go_wp2_with fail
    go_quiet (fail)
    go_wp2
    go_ret
    exact ⟨rfl, drew_ex3⟩
  · have e5 : ((nC : Int) != qq) = false := by rw [hC]; simp
    clear hC
    go_enter Tryz.func23, Tryz.ntmps23
    go_wp2_with fail
    go_quiet (fail)
    go_wp2_with fail
    go_quiet (fail)
    go_wp2_with fail
    go_quiet (fail)
    go_wp2_with fail
    go_quiet (fail)
    go_wp2
    go_ret
    exact ⟨rfl, drew_ex4⟩
theorem shaped_ok (p o : Nat) (half old card : Int) (nW nC cW cC : Nat) (aW aC : Option Addr) (used top oldTop : Int) (r k i : Value) (F : Fits half old card nW nC used top oldTop) (w : World)
    (M : MemO p o half old card (.slice aW nW cW) used top oldTop r k i (.slice aC nC cC) w) :
    Calls Tryz.prog 23 #[.pointer (some ⟨p, o, none⟩)] w fun ev w' => ev = .returned (.bool true) ∧ ∃ q, w' = w.drewN q := by
  obtain ⟨⟨h0, h1, h2, h3, h4, h5⟩, hW, hC, u0, u1, t0, t1, o0, o1⟩ := F
  obtain ⟨k1, k2, k3, k4, k5, k6⟩ := cards_two h2 h4
  have e1 : IntKind.i64.wrap (old.tdiv card) = old / card := by rw [Int.tdiv_eq_ediv_of_nonneg (by omega), wrapI _ (by omega) (by omega)]
  have e2 : IntKind.i64.wrap (old / card * card) = old / card * card := wrapI _ (by omega) (by omega)
  have e4 : IntKind.i64.wrap (2 * half + old) = (nW : Int) := by rw [wrapI _ (by omega) (by omega)]; exact hW.symm
  refine shaped_core p o half old card (old / card) (old / card * card) nW nC cW cC aW aC used top oldTop r k i w M h0 h1 h2 h3 h4 h5 u0 u1 t0 t1 o0 o1 e1 e2 e4 k3 (by omega) ?_
  by_cases h : old / card * card < old
  · exact .inl ⟨h, hC.trans (k1 h)⟩
  · exact .inr ⟨h, hC.trans (k2 h)⟩
end Go.Proofs.YtnenggkgfhgcnaaGreatDoor

/- The document's memory: CheckOf of a memory with no objects; memBack; MemNew, by contracts. -/
namespace Go.Proofs.YtnenggkgfhgcnaaGreatDoor
open Go.RowKit

theorem objects_none (m : Value) (x y : Int) (h : ¬ x < y) (w : World) :
    Calls Tryz.prog 52 #[m, .int .i64 x, .int .i64 y] w fun ev w' => ev = .returned (.tuple #[.slice none 0 0, .bool true]) ∧ w' = w := by
  go_enter Tryz.func52, Tryz.ntmps52
  go_wp2_with fail
  refine wp_loop_rounds 1 ?_
  rw [rounds_succ]
  go_wp2
  go_ret2
  exact ⟨rfl, rfl⟩
theorem fieldsOK_none (ao : Option Addr) (c : Nat) (l : Value) (w : World) :
    Calls Tryz.prog 25 #[.slice ao 0 c, l] w fun ev w' => ev = .returned (.bool true) ∧ w' = w := by
  go_enter Tryz.func25, Tryz.ntmps25
  go_wp2_with fail
  refine wp_loop_rounds 1 ?_
  rw [rounds_succ]
  go_wp2
  go_ret
  exact ⟨rfl, rfl⟩
set_option maxRecDepth 100000 in
theorem infoObj : ∃ i, Tryz.prog.info? 45 = some i ∧ i.zero = some (.agg #[.int .i64 0, .int .i64 0, .int .i64 0, .int .i64 0]) ∧ i.size = 4 ∧ i.bytes = 32 := by
  refine ⟨(Tryz.prog.info? 45).get (by kernel_rfl), ?_, ?_, ?_, ?_⟩
  · exact (Option.some_get _).symm
  · kernel_rfl
  · kernel_rfl
  · kernel_rfl
set_option maxHeartbeats 4000000 in
theorem all_none (p o : Nat) (half old card : Int) (W : Value) (r k i c : Value) (h0 : 1 ≤ half) (h1 : half ≤ 65536) (w : World) (M : MemO p o half old card W 0 0 0 r k i c w) :
    Calls Tryz.prog 24 #[.pointer (some ⟨p, o, none⟩)] w fun ev w' => ev = .returned (.tuple #[.slice none 0 0, .bool true]) ∧ ∃ q, w' = w.drewN q := by
  obtain ⟨c0, c1, c2, c3, c4, c5, c6, c7, c8, c9, c10⟩ := M
  have e1 : IntKind.i64.wrap (0 * half) = 0 := by rw [Int.zero_mul]; decide
  have e2 : IntKind.i64.wrap (0 + 0) = 0 := by decide
  have e3 : IntKind.i64.wrap (2 * half) = 2 * half := wrapI _ (by omega) (by omega)
  have e4 : IntKind.i64.wrap (2 * half + 0) = 2 * half := by rw [Int.add_zero]; exact e3
  have k1 : Hid (∀ w, Calls Tryz.prog 52 #[.pointer (some ⟨p, o, none⟩), .int .i64 0, .int .i64 0] w fun ev w' => ev = .returned (.tuple #[.slice none 0 0, .bool true]) ∧ w' = w) := fun w => objects_none _ 0 0 (by omega) w
  have k2 : Hid (∀ w, Calls Tryz.prog 52 #[.pointer (some ⟨p, o, none⟩), .int .i64 (2 * half), .int .i64 (2 * half)] w fun ev w' => ev = .returned (.tuple #[.slice none 0 0, .bool true]) ∧ w' = w) := fun w => objects_none _ _ _ (by omega) w
  obtain ⟨i0, hi0, hz0, hz1, hz2⟩ := infoObj
  clear c1 c2 c3 c7 c8 c9 c10
  go_enter Tryz.func24, Tryz.ntmps24
  go_wp2_with fail
  go_quiet ((go_at_call 52; exact Calls.quiet_of_same (k1.out _)))
  go_wp2_with fail
  obtain ⟨w1, hw1⟩ : ∃ w1, w1 = w.drewN nq := ⟨_, rfl⟩
  have d0 : w1.cell? ⟨p, o, none⟩ = some (.int .i64 half) := by rw [hw1]; exact c0
  have d6 : w1.cell? ⟨p, o + 6, none⟩ = some (.int .i64 0) := by rw [hw1]; exact c6
  rw [← hw1]
  have HW := toHid hw1
  clear hw1 c0 c4 c5 c6
  go_quiet ((go_at_call 52; exact Calls.quiet_of_same (k2.out _)))
  go_wp2_with (at_builtin; refine wpList_append_own_none rfl _ _ _ rfl 0 45 i0 4 Tryz.underlying42 hi0 _ 0 [] rfl ⟨rfl, .inl ⟨rfl, rfl⟩⟩ rfl ?_)
  go_ret2
  exact ⟨rfl, by rw [HW.out]; exact drew_ex2⟩

set_option maxHeartbeats 4000000 in
set_option maxRecDepth 100000 in
theorem checkOf_none (p o : Nat) (half old card : Int) (nW nC cW cC cR cK cI : Nat) (aW aC aR aK aI : Option Addr) (F : Fits half old card nW nC 0 0 0) (w : World) (hp : p < w.heap.size)
    (M : MemO p o half old card (.slice aW nW cW) 0 0 0 (.slice aR 0 cR) (.slice aK 0 cK) (.slice aI 0 cI) (.slice aC nC cC) w) :
    Calls Tryz.prog 9 #[.pointer (some ⟨p, o, none⟩)] w fun ev w' => ev = .returned (.int .i64 0) ∧ Below w.heap.size w w' := by
  have h := F.nums
  unfold numsOK at h
  go_enter Tryz.func9, Tryz.ntmps9
  go_wp2_with fail
  refine (shaped_ok p o half old card nW nC cW cC aW aC 0 0 0 _ _ _ F w M).mono ?_
  rintro ev w1 ⟨rfl, q, hq⟩
  have hb1 : Below w.heap.size w w1 := by rw [hq]; exact below_drewN (Below.refl _ _)
  have M1 := M.below hb1 hp
  clear hq
  go_wp2_with fail
  refine (all_none p o half old card _ _ _ _ _ (by omega) (by omega) w1 M1).mono ?_
  rintro ev w2 ⟨rfl, q1, hq⟩
  have hb2 : Below w.heap.size w w2 := by rw [hq]; exact below_drewN hb1
  obtain ⟨c0, c1, c2, c3, c4, c5, c6, c7, c8, c9, c10⟩ := M.below hb2 hp
  clear hq M1
  go_wp2_with fail
  refine (fieldsOK_none _ _ _ _).mono ?_
  rintro ev w3 ⟨rfl, hq⟩
  rw [hq]
  clear hq w3
  go_wp2_with fail
  refine (fieldsOK_none _ _ _ _).mono ?_
  rintro ev w3 ⟨rfl, hq⟩
  rw [hq]
  clear hq w3
  go_wp2_with fail
  refine wp_loop_rounds 1 ?_
  rw [rounds_succ]
  go_wp2_with fail
  refine wp_loop_rounds 1 ?_
  rw [rounds_succ]
  go_wp2_with fail
  go_ret
  exact ⟨rfl, hb2⟩

end Go.Proofs.YtnenggkgfhgcnaaGreatDoor

/- memBack of a memory without IDs; MemNew, by contracts. -/
namespace Go.Proofs.YtnenggkgfhgcnaaGreatDoor
open Go.RowKit

set_option maxHeartbeats 4000000 in
set_option maxRecDepth 100000 in
theorem memBack_none (p : Nat) (h ol c u t ot : Int) (w : World) (hp : p < w.heap.size) (nW nC cW cC cR cK cI : Nat) (aW aC aR aK aI : Option Addr) (xW xC : List Value)
    (lW : xW.length = nW * 1) (fW : 0 < nW → ∃ ad : Addr, aW = some ad ∧ ad.block < w.heap.size ∧ ∀ j v, xW[j]? = some v → w.cell? (ad.add j) = some v) (oW : ∀ v ∈ xW, v.oneCell' = true) (bW : nW ≤ 300000)
    (lC : xC.length = nC * 1) (fC : 0 < nC → ∃ ad : Addr, aC = some ad ∧ ad.block < w.heap.size ∧ ∀ j v, xC[j]? = some v → w.cell? (ad.add j) = some v) (oC : ∀ v ∈ xC, v.oneCell' = true) (bC : nC ≤ 300000)
    (M : MemAt p h ol c (.slice aW nW cW) u t ot (.slice aR 0 cR) (.slice aK 0 cK) (.slice aI 0 cI) (.slice aC nC cC) w) :
    Calls Tryz.prog 15 #[.pointer (some ⟨p, 0, none⟩)] w fun ev w' => ∃ (bx : Nat) (a3 a7 a8 a9 a10 : Option Addr) (k3 k7 k8 k9 k10 : Nat), ev = .returned (.pointer (some ⟨bx, 0, none⟩)) ∧ Below w.heap.size w w' ∧
      MemAt bx h ol c (.slice a3 nW k3) u t ot (.slice a7 0 k7) (.slice a8 0 k8) (.slice a9 0 k9) (.slice a10 nC k10) w' := by
  obtain ⟨c0, c1, c2, c3, c4, c5, c6, c7, c8, c9, c10⟩ := M
  go_enter Tryz.func15, Tryz.ntmps15
  go_upto_region 3 with fail
  go_cut [3] from 5 to 85 (fun v wx => v = .pointer (some ⟨w.heap.size, 0, none⟩) ∧ ∃ q, wx = (w.alloc (.cells #[.int .i64 h, .int .i64 ol, .int .i64 c, .slice aW nW cW, .int .i64 u, .int .i64 t, .int .i64 ot, .slice aR 0 cR, .slice aK 0 cK, .slice none 0 0, .slice aC nC cC] 30)).drewN q)
  case first =>
    go_region_held3 (fun W => W.cell? ⟨p, 0, none⟩ = some (.int .i64 h) ∧ W.cell? ⟨p, 1, none⟩ = some (.int .i64 ol) ∧ W.cell? ⟨p, 2, none⟩ = some (.int .i64 c) ∧ W.cell? ⟨p, 3, none⟩ = some (.slice aW nW cW) ∧ W.cell? ⟨p, 4, none⟩ = some (.int .i64 u) ∧ W.cell? ⟨p, 5, none⟩ = some (.int .i64 t) ∧ W.cell? ⟨p, 6, none⟩ = some (.int .i64 ot) ∧ W.cell? ⟨p, 7, none⟩ = some (.slice aR 0 cR) ∧ W.cell? ⟨p, 8, none⟩ = some (.slice aK 0 cK) ∧ W.cell? ⟨p, 10, none⟩ = some (.slice aC nC cC)) (first | go_keep) (fail)
    all_goals (go_wp2_with fail; go_meet)
    all_goals exact ⟨rfl, 1, rfl⟩
  case rest =>
    obtain ⟨rfl, q, hq⟩ := hcut
    have hb : Below w.heap.size w wc := by rw [hq]; exact below_drewN ((Below.refl _ _).alloc (Nat.le_refl _) _)
    have M1 : MemAt w.heap.size h ol c (.slice aW nW cW) u t ot (.slice aR 0 cR) (.slice aK 0 cK) (.slice none 0 0) (.slice aC nC cC) wc := by
      rw [hq]
      exact (memAt_alloc w h ol c _ u t ot _ _ _ _ _).below (below_drewN (Below.refl (w.heap.size + 1) _)) (by simp)
    have hl : w.heap.size < wc.heap.size := lt_of_cell M1.c0
    clear hq q c0 c1 c2 c3 c4 c5 c6 c7 c8 c10
    have d9 : wc.cell? ⟨p, 9, none⟩ = _ := (hb.cell (p := ⟨p, 9, none⟩) hp).trans c9
    clear c9
    go_wp2_with fail
    refine wp_loop_rounds 1 ?_
    rw [rounds_succ]
    go_wp2_with fail
    have far : ∀ {ao : Option Addr} {n : Nat} {xs : List Value}, (0 < n → ∃ ad : Addr, ao = some ad ∧ ad.block < w.heap.size ∧ ∀ j v, xs[j]? = some v → w.cell? (ad.add j) = some v) → (0 < n → ∃ ad : Addr, ao = some ad ∧ ad.block < wc.heap.size ∧ ∀ j v, xs[j]? = some v → wc.cell? (ad.add j) = some v) := fun H hn => by
      obtain ⟨ad, e1, e2, e3⟩ := H hn
      exact ⟨ad, e1, Nat.lt_trans e2 hl, fun j v hj => (hb.cell (p := ad.add j) (by rw [show (ad.add j).block = ad.block by unfold Addr.add; split <;> rfl]; exact e2)).trans (e3 j v hj)⟩
    refine (own_any w.heap.size 0 h ol c u t ot wc hl aW nW cW xW lW (far fW) oW bW aR 0 cR [] rfl (fun h => absurd h (by omega)) (fun _ h => by cases h) (by omega) aK 0 cK [] rfl (fun h => absurd h (by omega)) (fun _ h => by cases h) (by omega) none 0 0 [] rfl (fun h => absurd h (by omega)) (fun _ h => by cases h) (by omega) aC nC cC xC lC (far fC) oC bC M1.memO).mono ?_
    rintro ev w2 ⟨a3, a7, a8, a9, a10, k3, k7, k8, k9, k10, rfl, hS⟩
    go_wp2_with fail
    go_ret
    exact ⟨_, a3, a7, a8, a9, a10, k3, k7, k8, k9, k10, rfl, hb.trans (hS.1.mono hb.size), hS.2.2.1.mem.1⟩
end Go.Proofs.YtnenggkgfhgcnaaGreatDoor
