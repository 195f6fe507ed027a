/- Package mem: findHeads, holdFields, carded, by contracts. -/
import Derived.Test.YtlkcbdinlfeoiabGreatDoorMemP
namespace Go.Proofs.YtlkcbdinlfeoiabGreatDoor
open Go.RowKit

/-- Where the nursery's used part begins and ends, and the old space's. -/
structure Parts (h u t ot : Int) (n0 n1 m0 m1 : Nat) : Prop where
  n0 : (n0 : Int) = u * h
  n1 : (n1 : Int) = u * h + t
  m0 : (m0 : Int) = 2 * h
  m1 : (m1 : Int) = 2 * h + ot
theorem Parts.le {h u t ot ol c : Int} {n0 n1 m0 m1 nW nC : Nat} (P : Parts h u t ot n0 n1 m0 m1) (Ft : Fits h ol c nW nC u t ot) : n1 ≤ nW ∧ m1 ≤ nW := by
  obtain ⟨⟨a0, a1, a2, a3, a4, a5⟩, hw, _, u0, u1, t0, t1, o0, o1⟩ := Ft
  obtain ⟨b0, b1, b2, b3⟩ := P
  have : (n1 : Int) ≤ 2 * h := by
    obtain rfl | rfl : u = 0 ∨ u = 1 := by omega
    · rw [Int.zero_mul] at b0 b1; omega
    · rw [Int.one_mul] at b0 b1; omega
  omega
set_option maxHeartbeats 2000000 in
theorem each_any (a : Nat → Addr) (K : FuncId) (caps : Array Value) (hE : ∀ args w, (callFunc K args).run Tryz.prog w = .ok (.enter K args) w) (G : Nat → Bool) (Inv : List Nat → World → Prop) (p b bc nW nC cW cC : Nat) (h ol c u t ot : Int) (vR vK vI : Value) (F : Nat → Int) (C : Nat → Bool) (n0 n1 m0 m1 : Nat) (P : Parts h u t ot n0 n1 m0 m1)
    (hL : ∀ vs w, Inv vs w → Looked p b bc nW nC cW cC h ol c u t ot vR vK vI F C w ∧ WErr a w) (hkeep : ∀ vs w w', Inv vs w → Below w.heap.size w w' → Inv vs w')
    (hK : ∀ vs f w, Inv vs w → f < nW → headB (F f) = true → f + 1 + szN (F f) ≤ nW → Calls Tryz.prog K (#[.int .i64 (f : Int), headV (F f)] ++ caps) w fun ev w' => ev = .returned (.bool (G f)) ∧ Inv (vs ++ [f]) w')
    (vs0 : List Nat) (w : World) (h0 : Inv vs0 w) :
    Calls Tryz.prog 125 #[.pointer (some ⟨p, 0, none⟩), .func (.func K) #[] caps] w fun ev w' => ev = .returned (.bool ((walkP F G (n1 - n0) n0 n1).isSome && (walkP F G (m1 - m0) m0 m1).isSome)) ∧ ∃ vs, Inv vs w' ∧ ∀ l1 l2, walkP F G (n1 - n0) n0 n1 = some l1 → walkP F G (m1 - m0) m0 m1 = some l2 → vs = vs0 ++ l1 ++ l2 := by
  obtain ⟨le1, le2⟩ := P.le (hL _ _ h0).1.fits
  have ky := eachYoung_any a K caps hE G Inv p b bc nW nC cW cC h ol c u t ot vR vK vI F C n0 n1 P.n0 P.n1 hL hkeep (fun vs f w hi _ hf hh hs => hK vs f w hi (by omega) hh (by omega)) vs0 w h0
  have HO : Hid (∀ vs1 W, Inv vs1 W → Calls Tryz.prog 160 #[.pointer (some ⟨p, 0, none⟩), .func (.func K) #[] caps] W fun ev w' => ev = .returned (.bool (walkP F G (m1 - m0) m0 m1).isSome) ∧ ∃ vs, Inv vs w' ∧ ∀ l, walkP F G (m1 - m0) m0 m1 = some l → vs = vs1 ++ l) := fun vs1 W hW => eachOld_any a K caps hE G Inv p b bc nW nC cW cC h ol c u t ot vR vK vI F C m0 m1 P.m0 P.m1 hL hkeep (fun vs f w hi _ hf hh hs => hK vs f w hi (by omega) hh (by omega)) vs1 W hW
  clear hL hkeep hK h0
  generalize (walkP F G (n1 - n0) n0 n1) = r1 at *
  generalize (walkP F G (m1 - m0) m0 m1) = r2 at *
  cases r1 with
  | none =>
    go_enter Tryz.func125, Tryz.ntmps125
    go_wp2_with fail
    refine ky.mono ?_
    rintro ev w1 ⟨rfl, vs, hI, _⟩
    go_wp2_with fail
    go_ret
    exact ⟨rfl, vs, hI, fun _ _ h => by cases h⟩
  | some l1 =>
    go_enter Tryz.func125, Tryz.ntmps125
    go_wp2_with fail
    refine ky.mono ?_
    rintro ev w1 ⟨rfl, vs, hI, hl⟩
    have e := hl l1 rfl
    clear hl ky
    go_wp2_with fail
    refine (HO.out vs w1 hI).mono ?_
    rintro ev w2 ⟨rfl, vs2, hI2, hl2⟩
    go_wp2_with fail
    go_ret
    exact ⟨rfl, vs2, hI2, fun a1 a2 h1 h2 => by cases h1; rw [hl2 a2 h2, e]⟩
theorem enterFH (args : Array Value) (w : World) : (callFunc 126 args).run Tryz.prog w = .ok (.enter 126 args) w := by kernel_rfl
theorem enterHF (args : Array Value) (w : World) : (callFunc 127 args).run Tryz.prog w = .ok (.enter 127 args) w := by kernel_rfl
theorem enterCD (args : Array Value) (w : World) : (callFunc 162 args).run Tryz.prog w = .ok (.enter 162 args) w := by kernel_rfl
theorem fh_start {w0 w : World} {p bh nW : Nat} {vs : List Nat} {T1 T2 : TypeId} (hb : Below w0.heap.size w0 w) (hm : MarksAt w bh nW vs) (hlo : w0.heap.size ≤ bh) : FH w0 p bh (w.heap.size + 1) w.heap.size nW vs ((w.alloc (.cells #[.pointer (some ⟨p, 0, none⟩)] T1)).alloc (.cells #[.slice (some ⟨bh, 0, none⟩) nW nW] T2)) := by
  have hlt := hm.lt
  obtain ⟨e1, e2⟩ := two_new w (.cells #[.pointer (some ⟨p, 0, none⟩)] T1) (.cells #[.slice (some ⟨bh, 0, none⟩) nW nW] T2)
  refine ⟨hb.trans ((two_below w _ _).mono hb.size), hm.below (two_below w _ _), hlo, ?_, ?_, by omega, by omega⟩
  · rw [cell_of_row _ _ _ _ _ _ e2]; rfl
  · rw [cell_of_row _ _ _ _ _ _ e1]; rfl
theorem findHeads_any (a : Nat → Addr) (w0 w : World) (p b bc bh nW nC cW cC : Nat) (h ol c u t ot : Int) (vR vK vI : Value) (F : Nat → Int) (C : Nat → Bool) (n0 n1 m0 m1 : Nat) (P : Parts h u t ot n0 n1 m0 m1) (L : Looked p b bc nW nC cW cC h ol c u t ot vR vK vI F C w0) (E : WErr a w0) (hb : Below w0.heap.size w0 w) (hm : MarksAt w bh nW []) (hlo : w0.heap.size ≤ bh) :
    Calls Tryz.prog 87 #[.pointer (some ⟨p, 0, none⟩), .slice (some ⟨bh, 0, none⟩) nW nW] w fun ev w' => ev = .returned (.bool ((walkP F (G1 F h) (n1 - n0) n0 n1).isSome && (walkP F (G1 F h) (m1 - m0) m0 m1).isSome)) ∧ ∃ vs, Below w0.heap.size w0 w' ∧ MarksAt w' bh nW vs ∧ ∀ l1 l2, walkP F (G1 F h) (n1 - n0) n0 n1 = some l1 → walkP F (G1 F h) (m1 - m0) m0 m1 = some l2 → vs = l1 ++ l2 := by
  have hnum := L.fits.nums
  unfold numsOK at hnum
  have ke := each_any a 126 #[.pointer (some ⟨w.heap.size + 1, 0, none⟩), .pointer (some ⟨w.heap.size, 0, none⟩)] enterFH (G1 F h) (fun vs W => FH w0 p bh (w.heap.size + 1) w.heap.size nW vs W) p b bc nW nC cW cC h ol c u t ot vR vK vI F C n0 n1 m0 m1 P (fun vs W H => ⟨L.below H.below, E.below H.below⟩) (fun vs W W' H hb => H.keep hb) (fun vs f W H hf _ _ => findHeads_one w0 p bh (w.heap.size + 1) w.heap.size nW f h (by omega) (by omega) (lt_of_cell L.mem.c0) L.mem.c0 vs F hf W H) [] _ (fh_start (T1 := 44) (T2 := 108) hb hm hlo)
  clear hnum
  go_enter Tryz.func87, Tryz.ntmps87
  go_wp2_with fail
  refine ke.mono ?_
  rintro ev w1 ⟨rfl, vs, H, hl⟩
  clear ke
  go_wp2_with fail
  go_ret
  exact ⟨rfl, vs, H.below, H.marks, fun l1 l2 h1 h2 => by rw [hl l1 l2 h1 h2]; rfl⟩
theorem holdFields_any (a : Nat → Addr) (w0 w : World) (p b bc bh nW nC cW cC : Nat) (h ol c u t ot : Int) (vR vK vI : Value) (F : Nat → Int) (C : Nat → Bool) (n0 n1 m0 m1 : Nat) (P : Parts h u t ot n0 n1 m0 m1) (L : Looked p b bc nW nC cW cC h ol c u t ot vR vK vI F C w0) (E : WErr a w0) (vs : List Nat) (hb : Below w0.heap.size w0 w) (hm : MarksAt w bh nW vs) (hlo : w0.heap.size ≤ bh) :
    Calls Tryz.prog 88 #[.pointer (some ⟨p, 0, none⟩), .slice (some ⟨bh, 0, none⟩) nW nW] w fun ev w' => ev = .returned (.bool ((walkP F (G2 F nW (fun i => decide (i ∈ vs))) (n1 - n0) n0 n1).isSome && (walkP F (G2 F nW (fun i => decide (i ∈ vs))) (m1 - m0) m0 m1).isSome)) ∧ Below w0.heap.size w0 w' ∧ MarksAt w' bh nW vs := by
  have ke := each_any a 127 #[.pointer (some ⟨w.heap.size + 1, 0, none⟩), .pointer (some ⟨w.heap.size, 0, none⟩)] enterHF (G2 F nW (fun i => decide (i ∈ vs))) (fun _ W => FH w0 p bh (w.heap.size + 1) w.heap.size nW vs W) p b bc nW nC cW cC h ol c u t ot vR vK vI F C n0 n1 m0 m1 P (fun _ W H => ⟨L.below H.below, E.below H.below⟩) (fun _ W W' H hb => H.keep hb) (fun _ f W H _ hh hs => holdFields_one a w0 p b bc bh (w.heap.size + 1) w.heap.size nW nC cW cC f h ol c u t ot vR vK vI F C L E vs hh hs W H) [] _ (fh_start (T1 := 44) (T2 := 108) hb hm hlo)
  go_enter Tryz.func88, Tryz.ntmps88
  go_wp2_with fail
  refine ke.mono ?_
  rintro ev w1 ⟨rfl, _, H, _⟩
  clear ke
  go_wp2_with fail
  go_ret
  exact ⟨rfl, H.below, H.marks⟩
theorem eachOldField_any (a : Nat → Addr) (w0 w : World) (p b bc q2 nW nC cW cC : Nat) (h ol c u t ot : Int) (vR vK vI : Value) (F : Nat → Int) (C : Nat → Bool) (n0 n1 m0 m1 : Nat) (P : Parts h u t ot n0 n1 m0 m1) (L : Looked p b bc nW nC cW cC h ol c u t ot vR vK vI F C w0) (E : WErr a w0) (H : CH w0 p q2 w) :
    Calls Tryz.prog 130 #[.pointer (some ⟨p, 0, none⟩), .func (.func 131) #[] #[.pointer (some ⟨q2, 0, none⟩)]] w fun ev w' => ev = .returned (.bool (walkP F (G3 F C h c) (m1 - m0) m0 m1).isSome) ∧ Below w0.heap.size w0 w' := by
  have hle := (P.le L.fits).2
  have hm0 := P.m0
  have ke := fun T => eachOld_any a 162 #[.pointer (some ⟨w.heap.size, 0, none⟩)] enterCD (G3 F C h c) (fun _ W => CF w0 p q2 w.heap.size W) p b bc nW nC cW cC h ol c u t ot vR vK vI F C m0 m1 P.m0 P.m1 (fun _ W H => ⟨L.below H.ch.below, E.below H.ch.below⟩) (fun _ W W' H hb => H.keep hb) (fun _ f W H hf _ hh hs => eachOldField_one a w0 p b bc q2 w.heap.size nW nC cW cC f h ol c u t ot vR vK vI F C L E hh (by omega) (by omega) W H) [] (w.alloc (.cells #[.func (.func 131) #[] #[.pointer (some ⟨q2, 0, none⟩)]] T)) ⟨H.keep ((Below.refl _ _).alloc (Nat.le_refl _) _), by rw [cell_of_row _ _ _ _ _ _ (heap_alloc_new w _)]; rfl⟩
  clear hle hm0
  go_enter Tryz.func130, Tryz.ntmps130
  go_wp2_with fail
  refine (ke _).mono ?_
  rintro ev w1 ⟨rfl, _, H1, _⟩
  clear ke
  go_wp2_with fail
  go_ret
  exact ⟨rfl, H1.ch.below⟩
theorem carded_any (a : Nat → Addr) (w0 w : World) (p b bc nW nC cW cC : Nat) (h ol c u t ot : Int) (vR vK vI : Value) (F : Nat → Int) (C : Nat → Bool) (n0 n1 m0 m1 : Nat) (P : Parts h u t ot n0 n1 m0 m1) (L : Looked p b bc nW nC cW cC h ol c u t ot vR vK vI F C w0) (E : WErr a w0) (hb : Below w0.heap.size w0 w) :
    Calls Tryz.prog 91 #[.pointer (some ⟨p, 0, none⟩)] w fun ev w' => ev = .returned (.bool (walkP F (G3 F C h c) (m1 - m0) m0 m1).isSome) ∧ Below w0.heap.size w0 w' := by
  have ke := eachOldField_any a w0 (w.alloc (.cells #[.pointer (some ⟨p, 0, none⟩)] 44)) p b bc w.heap.size nW nC cW cC h ol c u t ot vR vK vI F C n0 n1 m0 m1 P L E ⟨hb.alloc hb.size _, by rw [cell_of_row _ _ _ _ _ _ (heap_alloc_new w _)]; rfl⟩
  go_enter Tryz.func91, Tryz.ntmps91
  go_wp2_with fail
  refine ke.mono ?_
  rintro ev w1 ⟨rfl, hb1⟩
  clear ke
  go_wp2_with fail
  go_ret
  exact ⟨rfl, hb1⟩
end Go.Proofs.YtlkcbdinlfeoiabGreatDoor
