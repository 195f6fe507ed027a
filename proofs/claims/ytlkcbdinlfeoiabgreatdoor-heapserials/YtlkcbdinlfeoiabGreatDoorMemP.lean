/- Package mem: objects of the nursery and of the old space, by contracts. -/
import Derived.Test.YtlkcbdinlfeoiabGreatDoorMemN
namespace Go.Proofs.YtlkcbdinlfeoiabGreatDoor
open Go.RowKit

set_option maxHeartbeats 4000000 in
theorem eachYoung_any (a : Nat → Addr) (K : FuncId) (caps : Array Value) (hE : ∀ args w, (callFunc K args).run Tryz.prog w = .ok (.enter K args) w) (G : Nat → Bool) (Inv : List Nat → World → Prop) (p b bc nW nC cW cC : Nat) (h ol c u t ot : Int) (vR vK vI : Value) (F : Nat → Int) (C : Nat → Bool) (n0 n1 : Nat) (e0 : (n0 : Int) = u * h) (e1 : (n1 : Int) = u * h + t)
    (hL : ∀ vs w, Inv vs w → Looked p b bc nW nC cW cC h ol c u t ot vR vK vI F C w ∧ WErr a w) (hkeep : ∀ vs w w', Inv vs w → Below w.heap.size w w' → Inv vs w')
    (hK : ∀ vs f w, Inv vs w → n0 ≤ f → f < n1 → headB (F f) = true → f + 1 + szN (F f) ≤ n1 → Calls Tryz.prog K (#[.int .i64 (f : Int), headV (F f)] ++ caps) w fun ev w' => ev = .returned (.bool (G f)) ∧ Inv (vs ++ [f]) w')
    (vs0 : List Nat) (w : World) (h0 : Inv vs0 w) :
    Calls Tryz.prog 159 #[.pointer (some ⟨p, 0, none⟩), .func (.func K) #[] caps] w fun ev w' => ev = .returned (.bool (walkP F G (n1 - n0) n0 n1).isSome) ∧ ∃ vs, Inv vs w' ∧ ∀ l, walkP F G (n1 - n0) n0 n1 = some l → vs = vs0 ++ l := by
  obtain ⟨L, E⟩ := hL _ _ h0
  have hnum := L.fits.nums
  have hw := L.fits.w
  have t0 := L.fits.t0
  have t1 := L.fits.t1
  have o0 := L.fits.o0
  have o1 := L.fits.o1
  have u0 := L.fits.u0
  have u1 := L.fits.u1
  unfold numsOK at hnum
  have hcap := L.cap
  have hu : (n0 : Int) ≤ h ∧ (n1 : Int) ≤ 2 * h := by
    obtain rfl | rfl : u = 0 ∨ u = 1 := by omega
    · rw [Int.zero_mul] at e0 e1; omega
    · rw [Int.one_mul] at e0 e1; omega
  have s0 : (0 : Int) ≤ (n1 : Int) := by omega
  have s1 : (n1 : Int) ≤ (cW : Int) := by omega
  have ew : IntKind.i64.wrap ((n0 : Int) + t) = (n1 : Int) := by rw [wrapI _ (by omega) (by omega)]; omega
  have kn : Hid (∀ W, Below w.heap.size w W → Calls Tryz.prog 192 #[.pointer (some ⟨p, 0, none⟩)] W fun ev w' => ev = .returned (.int .i64 (n0 : Int)) ∧ Below w.heap.size w w') := fun W hW => by
    have L1 := (hL _ _ (hkeep _ _ _ h0 hW)).1
    have k := nursery_any p h u (by omega) (by omega) u0 u1 W L1.mem.c0 L1.mem.c4
    rw [← e0] at k
    refine k.mono ?_
    rintro ev w1 ⟨rfl, q, rfl⟩
    exact ⟨rfl, below_drewN hW⟩
  have ke : Hid (∀ W, Below w.heap.size w W → Calls Tryz.prog 191 #[.slice (some ⟨b, 0, none⟩) n1 cW, .int .i64 (n0 : Int), .func (.func K) #[] caps] W fun ev w' => ev = .returned (.bool (walkP F G (n1 - n0) n0 n1).isSome) ∧ ∃ vs, Inv vs w' ∧ ∀ l, walkP F G (n1 - n0) n0 n1 = some l → vs = vs0 ++ l) := fun W hW => eachOf_any a K caps hE F G Inv b n1 cW (by omega) (fun i hi => L.range i (by omega)) (fun vs w hv => ⟨(hL vs w hv).2, fun i hi => (hL vs w hv).1.words i (by omega)⟩) hkeep n0 hK vs0 W (hkeep _ _ _ h0 hW)
  have HF : Hid (∀ W, Below w.heap.size w W → W.cell? ⟨p, 3, none⟩ = some (.slice (some ⟨b, 0, none⟩) nW cW) ∧ W.cell? ⟨p, 5, none⟩ = some (.int .i64 t)) := fun W hW => by
    have L1 := (hL _ _ (hkeep _ _ _ h0 hW)).1
    exact ⟨L1.mem.c3, L1.mem.c5⟩
  have HI : Hid (∀ vs W, Inv vs W → W.cell? ⟨p, 3, none⟩ = some (.slice (some ⟨b, 0, none⟩) nW cW) ∧ W.cell? ⟨p, 5, none⟩ = some (.int .i64 t)) := fun vs W hW => ⟨(hL _ _ hW).1.mem.c3, (hL _ _ hW).1.mem.c5⟩
  have c3 := L.mem.c3
  have cf := L.mem.c5
  have lp := lt_of_cell c3
  generalize (walkP F G (n1 - n0) n0 n1) = res at *
  clear hL hkeep hK h0 L E hnum hw t0 t1 o0 o1 u0 u1 e0 e1 hcap
  go_enter Tryz.func159, Tryz.ntmps159
  go_wp2_with fail
  go_region_held3 (fun W => W.cell? ⟨p, 3, none⟩ = some (.slice (some ⟨b, 0, none⟩) nW cW) ∧ W.cell? ⟨p, 5, none⟩ = some (.int .i64 t)) (first | go_keep | with_reducible exact hSE | with_reducible exact HF.out _ (by assumption)) (first
    | (go_at_call 192; refine (kn.out _ (by first | assumption | exact (Below.refl _ _).drew)).mono ?_; rintro ev w1 ⟨rfl, hbN⟩)
    | (go_at_call 191; refine (ke.out _ (by first | assumption | exact (Below.refl _ _).drew)).mono ?_; rintro ev w1 ⟨rfl, vsE, hIE, hlE⟩; have hSE := HI.out _ _ hIE))
  all_goals go_wp2_with fail
  all_goals go_ret
  all_goals exact ⟨rfl, vsE, hIE, hlE⟩

set_option maxHeartbeats 4000000 in
theorem eachOld_any (a : Nat → Addr) (K : FuncId) (caps : Array Value) (hE : ∀ args w, (callFunc K args).run Tryz.prog w = .ok (.enter K args) w) (G : Nat → Bool) (Inv : List Nat → World → Prop) (p b bc nW nC cW cC : Nat) (h ol c u t ot : Int) (vR vK vI : Value) (F : Nat → Int) (C : Nat → Bool) (n0 n1 : Nat) (e0 : (n0 : Int) = 2 * h) (e1 : (n1 : Int) = 2 * h + ot)
    (hL : ∀ vs w, Inv vs w → Looked p b bc nW nC cW cC h ol c u t ot vR vK vI F C w ∧ WErr a w) (hkeep : ∀ vs w w', Inv vs w → Below w.heap.size w w' → Inv vs w')
    (hK : ∀ vs f w, Inv vs w → n0 ≤ f → f < n1 → headB (F f) = true → f + 1 + szN (F f) ≤ n1 → Calls Tryz.prog K (#[.int .i64 (f : Int), headV (F f)] ++ caps) w fun ev w' => ev = .returned (.bool (G f)) ∧ Inv (vs ++ [f]) w')
    (vs0 : List Nat) (w : World) (h0 : Inv vs0 w) :
    Calls Tryz.prog 160 #[.pointer (some ⟨p, 0, none⟩), .func (.func K) #[] caps] w fun ev w' => ev = .returned (.bool (walkP F G (n1 - n0) n0 n1).isSome) ∧ ∃ vs, Inv vs w' ∧ ∀ l, walkP F G (n1 - n0) n0 n1 = some l → vs = vs0 ++ l := by
  obtain ⟨L, E⟩ := hL _ _ h0
  have hnum := L.fits.nums
  have hw := L.fits.w
  have t0 := L.fits.t0
  have t1 := L.fits.t1
  have o0 := L.fits.o0
  have o1 := L.fits.o1
  have u0 := L.fits.u0
  have u1 := L.fits.u1
  unfold numsOK at hnum
  have hcap := L.cap

  have s0 : (0 : Int) ≤ (n1 : Int) := by omega
  have s1 : (n1 : Int) ≤ (cW : Int) := by omega
  have ew : IntKind.i64.wrap ((n0 : Int) + ot) = (n1 : Int) := by rw [wrapI _ (by omega) (by omega)]; omega
  have kn : Hid (∀ W, Below w.heap.size w W → Calls Tryz.prog 43 #[.pointer (some ⟨p, 0, none⟩)] W fun ev w' => ev = .returned (.int .i64 (n0 : Int)) ∧ Below w.heap.size w w') := fun W hW => by
    have L1 := (hL _ _ (hkeep _ _ _ h0 hW)).1
    have k := oldFrom_any p h (by omega) (by omega) W L1.mem.c0
    rw [← e0] at k
    refine k.mono ?_
    rintro ev w1 ⟨rfl, rfl⟩
    exact ⟨rfl, hW⟩
  have ke : Hid (∀ W, Below w.heap.size w W → Calls Tryz.prog 191 #[.slice (some ⟨b, 0, none⟩) n1 cW, .int .i64 (n0 : Int), .func (.func K) #[] caps] W fun ev w' => ev = .returned (.bool (walkP F G (n1 - n0) n0 n1).isSome) ∧ ∃ vs, Inv vs w' ∧ ∀ l, walkP F G (n1 - n0) n0 n1 = some l → vs = vs0 ++ l) := fun W hW => eachOf_any a K caps hE F G Inv b n1 cW (by omega) (fun i hi => L.range i (by omega)) (fun vs w hv => ⟨(hL vs w hv).2, fun i hi => (hL vs w hv).1.words i (by omega)⟩) hkeep n0 hK vs0 W (hkeep _ _ _ h0 hW)
  have HF : Hid (∀ W, Below w.heap.size w W → W.cell? ⟨p, 3, none⟩ = some (.slice (some ⟨b, 0, none⟩) nW cW) ∧ W.cell? ⟨p, 6, none⟩ = some (.int .i64 ot)) := fun W hW => by
    have L1 := (hL _ _ (hkeep _ _ _ h0 hW)).1
    exact ⟨L1.mem.c3, L1.mem.c6⟩
  have HI : Hid (∀ vs W, Inv vs W → W.cell? ⟨p, 3, none⟩ = some (.slice (some ⟨b, 0, none⟩) nW cW) ∧ W.cell? ⟨p, 6, none⟩ = some (.int .i64 ot)) := fun vs W hW => ⟨(hL _ _ hW).1.mem.c3, (hL _ _ hW).1.mem.c6⟩
  have c3 := L.mem.c3
  have cf := L.mem.c6
  have lp := lt_of_cell c3
  generalize (walkP F G (n1 - n0) n0 n1) = res at *
  clear hL hkeep hK h0 L E hnum hw t0 t1 o0 o1 u0 u1 e0 e1 hcap
  go_enter Tryz.func160, Tryz.ntmps160
  go_wp2_with fail
  go_region_held3 (fun W => W.cell? ⟨p, 3, none⟩ = some (.slice (some ⟨b, 0, none⟩) nW cW) ∧ W.cell? ⟨p, 6, none⟩ = some (.int .i64 ot)) (first | go_keep | with_reducible exact hSE | with_reducible exact HF.out _ (by assumption)) (first
    | (go_at_call 43; refine (kn.out _ (by first | assumption | exact (Below.refl _ _).drew)).mono ?_; rintro ev w1 ⟨rfl, hbN⟩)
    | (go_at_call 191; refine (ke.out _ (by first | assumption | exact (Below.refl _ _).drew)).mono ?_; rintro ev w1 ⟨rfl, vsE, hIE, hlE⟩; have hSE := HI.out _ _ hIE))
  all_goals go_wp2_with fail
  all_goals go_ret
  all_goals exact ⟨rfl, vsE, hIE, hlE⟩
end Go.Proofs.YtlkcbdinlfeoiabGreatDoor
