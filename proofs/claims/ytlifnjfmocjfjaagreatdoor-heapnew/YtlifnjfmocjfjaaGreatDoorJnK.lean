/- The law HeapNew by a walk, where hold answers true. -/
import Derived.Test.YtlifnjfmocjfjaaGreatDoorJnI
import Derived.Test.YtlifnjfmocjfjaaGreatDoorJnJ
import Derived.Test.YtlifnjfmocjfjaaGreatDoorWordC
namespace Go.Proofs.YtlifnjfmocjfjaaGreatDoor
open Go.RowKit

/-- What the law stands on: the errors, the tables. -/
structure HEnv (a : Nat → Addr) (w : World) : Prop where
  errs : Errs a w
  tab : TabbedM w
  tz : Tz16 w
theorem HEnv.below {a : Nat → Addr} {w w' : World} (h : HEnv a w) (hb : Below w.heap.size w w') : HEnv a w' := ⟨h.errs.below hb, h.tab.below hb (Nat.le_refl _), h.tz.below hb (Nat.le_refl _)⟩
theorem HEnv.me {a : Nat → Addr} {w : World} (h : HEnv a w) : MErr3 a w := ⟨h.errs.c1, h.errs.c2, h.errs.c4⟩
theorem HEnv.we {a : Nat → Addr} {w : World} (h : HEnv a w) : WErr a w := ⟨h.errs.c1, h.errs.c2⟩
set_option maxHeartbeats 4000000 in
set_option maxRecDepth 100000 in
theorem heapNew_good (a : Nat → Addr) (half old card tn : Int) (n : Nat) (h0 : 1 ≤ half) (h1 : half ≤ 3000) (h2 : 1 ≤ old) (h3 : old ≤ 3000) (h4 : 1 ≤ card) (h5 : card ≤ 1024) (h6 : 0 ≤ tn) (h7 : tn ≤ 15) (h8 : n ≤ 300) (w : World) (E : HEnv a w)
    (kh : Calls Tryz.prog 4 #[] w fun ev w' => ev = .returned (.bool true) ∧ Below w.heap.size w w') :
    Calls Tryz.prog 3 #[.int .i64 half, .int .i64 old, .int .i64 card, .int .i64 tn, .int .i64 (n : Int)] w fun ev w' => ev = .returned (.bool true) ∧ Below w.heap.size w w' := by
  have hN : numsOK half old card := ⟨h0, by omega, h2, by omega, h4, h5⟩
  have hq0 : 0 ≤ (old + card - 1) / card := Int.ediv_nonneg (by omega) (by omega)
  obtain ⟨nW, hW⟩ : ∃ nW : Nat, (nW : Int) = 2 * half + old := ⟨(2 * half + old).toNat, by omega⟩
  obtain ⟨nC, hC⟩ : ∃ nC : Nat, (nC : Int) = (old + card - 1) / card := ⟨((old + card - 1) / card).toNat, by omega⟩
  have hn0 : (0 : Int) ≤ (n : Int) := by omega
  have hn1 : (n : Int) ≤ 300 := by omega
  have kn := fun w => hnew_ok half old card tn n nW nC hW hC ⟨hN, h6, h7, hn0, by omega⟩ w
  have HS := toHid (newM_shape (n := n) hN hW hC)
  have HE := toHid E
  clear hN hq0 hW hC E
  go_enter Tryz.func3, Tryz.ntmps3
  go_wp2_with fail
  refine kh.mono ?_
  clear kh
  rintro ev w1 ⟨rfl, b1⟩
  have HB1 := toHid b1
  clear b1
  go_wp2_with fail
  refine (kn w1).mono ?_
  clear kn
  rintro ev w2 ⟨q, p, g, rfl, _, _, _, b2, H2⟩
  have HB2 := toHid (HB1.out.trans (b2.mono HB1.out.size))
  have HH := toHid H2.at
  have HR := toHid (newM_rep H2)
  clear b2 H2
  go_wp2_with fail
  refine (hwords_any q p tn 0 _ w2 HH.out HR.out).mono ?_
  rintro ev w3 ⟨rfl, b3⟩
  have HB3 := toHid (HB2.out.trans (b3.mono HB2.out.size))
  have HH3 := toHid (HH.out.below b3)
  have HR3 := toHid (HR.out.below b3)
  clear b3 HH HR
  unfold newM
  go_wp2_with fail
  have hsz := gLines_rep_size n
  have ks := hshow_any a q p tn 0 (newM half old card nW nC n) [] HS.out (newM_cards _ _ _ _ _ _) (newM_64 _ _ _ _ _ _) (by show (List.replicate n 2).length ≤ 300000; rw [List.length_replicate]; omega) rfl rfl (fun f hf => by rw [newM_reach] at hf; cases hf) (by rw [newM_text, hsz]; omega) w3 (HE.out.below HB3.out).me (HE.out.below HB3.out).tab (HE.out.below HB3.out).tz HH3.out HR3.out
  rw [newM_text] at ks
  refine ks.mono ?_
  clear ks
  rintro ev w4 ⟨rfl, b4⟩
  have HB4 := toHid (HB3.out.trans (b4.mono HB3.out.size))
  clear b4
  go_wp2_with fail
  refine (newModel_any n (by omega) w4).mono ?_
  rintro ev w5 ⟨qm, bm, rfl, M, b5⟩
  have HB5 := toHid (HB4.out.trans (b5.mono HB4.out.size))
  have HM := toHid M
  clear b5 M
  go_wp2_with fail
  refine (mshow_zero qm bm n (by omega) w5 HM.out).mono ?_
  rintro ev w6 ⟨rfl, b6⟩
  have HB6 := toHid (HB5.out.trans (b6.mono HB5.out.size))
  clear b6 hsz
  generalize gLines sRoot [] ⟨#[]⟩ (List.replicate n 2) = A at *
  go_wp2_with fail
  go_ret
  exact ⟨rfl, HB6.out⟩
end Go.Proofs.YtlifnjfmocjfjaaGreatDoor

/- The law HeapNew where it asks nothing: too long to try. -/
namespace Go.Proofs.YtlifnjfmocjfjaaGreatDoor
open Go.RowKit

set_option maxHeartbeats 4000000 in
set_option maxRecDepth 100000 in
theorem heapNew_skip (half old card tn rs : Int) (h : (3000 < half ∧ half ≤ 65536) ∨ ((half ≤ 3000 ∨ 65536 < half) ∧ 3000 < old ∧ old ≤ 65536) ∨ ((half ≤ 3000 ∨ 65536 < half) ∧ (old ≤ 3000 ∨ 65536 < old) ∧ 300 < rs ∧ rs ≤ 5000)) (w : World)
    (kh : Calls Tryz.prog 4 #[] w fun ev w' => ev = .returned (.bool true) ∧ Below w.heap.size w w') :
    Calls Tryz.prog 3 #[.int .i64 half, .int .i64 old, .int .i64 card, .int .i64 tn, .int .i64 rs] w fun ev w' => ev = .returned (.bool true) ∧ Below w.heap.size w w' := by
  rcases h with ⟨h1, h2⟩ | ⟨h1 | h1, h2, h3⟩ | ⟨h1 | h1, h2 | h2, h3, h4⟩
  all_goals go_enter Tryz.func3, Tryz.ntmps3
  all_goals go_wp2_with fail
  all_goals refine kh.mono ?_
  all_goals rintro ev w1 ⟨rfl, hb⟩
  all_goals go_wp2_with fail
  all_goals go_ret
  all_goals exact ⟨rfl, hb⟩
end Go.Proofs.YtlifnjfmocjfjaaGreatDoor
