/- The document's memory: numbers that do not fit (Shaped), by a contract. -/
import Derived.Test.YtnenggkgfhgcnaaGreatDoorMemRD
import Derived.Test.YtnenggkgfhgcnaaGreatDoorMemRI
import Derived.Test.YtnenggkgfhgcnaaGreatDoorJnT
namespace Go.Proofs.YtnenggkgfhgcnaaGreatDoor
open Go.RowKit

theorem shaped_no (p o : Nat) (half old card : Int) (nW nC cW cC : Nat) (aW aC : Option Addr) (used top oldTop : Int) (r k i : Value) (F : ¬ Fits half old card nW nC used top oldTop) (w : World)
    (M : MemO p o half old card (.slice aW nW cW) used top oldTop r k i (.slice aC nC cC) w) :
    Calls Tryz.prog 23 #[.pointer (some ⟨p, o, none⟩)] w fun ev w' => ev = .returned (.bool false) ∧ ∃ q, w' = w.drewN q := by
  by_cases a0 : 1 ≤ half
  · by_cases a1 : half ≤ 65536
    · by_cases a2 : 1 ≤ old
      · by_cases a3 : old ≤ 65536
        · by_cases a4 : 1 ≤ card
          · by_cases a5 : card ≤ 1024
            · obtain ⟨k1, k2, k3, k4, k5, k6⟩ := cards_two a2 a4
              have e1 : IntKind.i64.wrap (old.tdiv card) = old / card := by rw [Int.tdiv_eq_ediv_of_nonneg (by omega), wrapI _ (by omega) (by omega)]
              have e2 : IntKind.i64.wrap (old / card * card) = old / card * card := wrapI _ (by omega) (by omega)
              have hm : (old / card * card < old ∧ (old + card - 1) / card = old / card + 1) ∨ (¬ old / card * card < old ∧ (old + card - 1) / card = old / card) := by
                by_cases h : old / card * card < old
                · exact .inl ⟨h, k1 h⟩
                · exact .inr ⟨h, k2 h⟩
              by_cases hW : (nW : Int) = 2 * half + old
              · have e4 : IntKind.i64.wrap (2 * half + old) = (nW : Int) := by rw [wrapI _ (by omega) (by omega)]; exact hW.symm
                by_cases hC : (nC : Int) = (old + card - 1) / card
                · have e5 : ((nC : Int) != (old + card - 1) / card) = false := by rw [hC]; simp
                  by_cases u0 : 0 ≤ used
                  · by_cases u1 : used ≤ 1
                    · by_cases t0 : 0 ≤ top
                      · by_cases t1 : top ≤ half
                        · by_cases o0 : 0 ≤ oldTop
                          · by_cases o1 : oldTop ≤ old
                            · exact absurd ⟨⟨a0, a1, a2, a3, a4, a5⟩, hW, hC, u0, u1, t0, t1, o0, o1⟩ F
                            · exact shaped_noo1 p o half old card nW nC cW cC aW aC used top oldTop r k i a0 a1 a2 a3 a4 a5 _ _ e1 e2 k3 (by omega) _ hm e4 e5 u0 u1 t0 t1 o0 (by omega) w M
                          · exact shaped_noo0 p o half old card nW nC cW cC aW aC used top oldTop r k i a0 a1 a2 a3 a4 a5 _ _ e1 e2 k3 (by omega) _ hm e4 e5 u0 u1 t0 t1 (by omega) w M
                        · exact shaped_not1 p o half old card nW nC cW cC aW aC used top oldTop r k i a0 a1 a2 a3 a4 a5 _ _ e1 e2 k3 (by omega) _ hm e4 e5 u0 u1 t0 (by omega) w M
                      · exact shaped_not0 p o half old card nW nC cW cC aW aC used top oldTop r k i a0 a1 a2 a3 a4 a5 _ _ e1 e2 k3 (by omega) _ hm e4 e5 u0 u1 (by omega) w M
                    · exact shaped_nou1 p o half old card nW nC cW cC aW aC used top oldTop r k i a0 a1 a2 a3 a4 a5 _ _ e1 e2 k3 (by omega) _ hm e4 e5 (by omega) w M
                  · exact shaped_nou0 p o half old card nW nC cW cC aW aC used top oldTop r k i a0 a1 a2 a3 a4 a5 _ _ e1 e2 k3 (by omega) _ hm e4 e5 (by omega) w M
                · have e5 : ((nC : Int) != (old + card - 1) / card) = true := by rw [bne_iff_ne]; exact hC
                  exact shaped_noC p o half old card nW nC cW cC aW aC used top oldTop r k i a0 a1 a2 a3 a4 a5 _ _ e1 e2 k3 (by omega) _ hm e4 e5 w M
              · have e4 : ((nW : Int) != 2 * half + old) = true := by rw [bne_iff_ne]; exact hW
                exact shaped_noW p o half old card nW nC cW cC aW aC used top oldTop r k i a0 a1 a2 a3 a4 a5 _ _ e1 e2 k3 (by omega) _ hm e4 w M
            · exact shaped_num5 p o half old card nW nC cW cC aW aC used top oldTop r k i a0 a1 a2 a3 a4 (by omega) w M
          · exact shaped_num4 p o half old card nW nC cW cC aW aC used top oldTop r k i a0 a1 a2 a3 (by omega) w M
        · exact shaped_num3 p o half old card nW nC cW cC aW aC used top oldTop r k i a0 a1 a2 (by omega) w M
      · exact shaped_num2 p o half old card nW nC cW cC aW aC used top oldTop r k i a0 a1 (by omega) w M
    · exact shaped_num1 p o half old card nW nC cW cC aW aC used top oldTop r k i a0 (by omega) w M
  · exact shaped_num0 p o half old card nW nC cW cC aW aC used top oldTop r k i (by omega) w M
end Go.Proofs.YtnenggkgfhgcnaaGreatDoor

/- The document's memory: CheckOf, by a walk (under way). -/
namespace Go.Proofs.YtnenggkgfhgcnaaGreatDoor
open Go.RowKit

set_option maxRecDepth 100000 in
theorem checkOf_nil (w : World) : Calls Tryz.prog 9 #[.pointer none] w fun ev w' => ev = .returned (.int .i64 3) ∧ Below w.heap.size w w' := by
  have ks : Calls Tryz.prog 23 #[.pointer none] w fun ev w' => ev = .returned (.bool false) ∧ w' = w := by
    go_enter Tryz.func23, Tryz.ntmps23
    go_wp2_with fail
    go_ret
    exact ⟨rfl, rfl⟩
  go_enter Tryz.func9, Tryz.ntmps9
  go_wp2_with fail
  refine ks.mono ?_
  rintro ev w1 ⟨rfl, hq⟩
  rw [hq]
  clear hq w1
  go_wp2_with fail
  go_ret
  exact ⟨rfl, Below.refl _ _⟩
set_option maxRecDepth 100000 in
theorem checkOf_unfit (p o : Nat) (m : MD) (hF : ¬ m.FitsM) (w : World) (R : RepM p o m w) : Calls Tryz.prog 9 #[.pointer (some ⟨p, o, none⟩)] w fun ev w' => ev = .returned (.int .i64 3) ∧ Below w.heap.size w w' := by
  obtain ⟨_, _, _, _, _, hp, M, ⟨aW, cW, rfl, _⟩, _, _, _, ⟨aC, cC, rfl, _⟩⟩ := R
  have ks := shaped_no p o m.half m.old m.card m.W.length m.C.length cW cC aW aC m.used m.top m.oldTop _ _ _ hF w M
  go_enter Tryz.func9, Tryz.ntmps9
  go_wp2_with fail
  refine ks.mono ?_
  rintro ev w1 ⟨rfl, q, hq⟩
  have hb1 : Below w.heap.size w w1 := by rw [hq]; exact below_drewN (Below.refl _ _)
  clear hq
  go_wp2_with fail
  go_ret
  exact ⟨rfl, hb1⟩
end Go.Proofs.YtnenggkgfhgcnaaGreatDoor
