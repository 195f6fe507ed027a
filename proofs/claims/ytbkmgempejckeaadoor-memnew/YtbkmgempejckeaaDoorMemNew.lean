/- The law MemNew by a walk. -/
import Derived.Test.YtbkmgempejckeaaDoorMemG
namespace Go.Proofs.YtbkmgempejckeaaDoor
open Go.RowKit

theorem errs_we {a : Nat → Addr} {w : World} (E : Errs a w) : WErr a w := ⟨E.c1, E.c2⟩
set_option maxHeartbeats 4000000 in
set_option maxRecDepth 100000 in
theorem memNew_skip (half old card : Int) (h : (3000 < half ∧ half ≤ 65536) ∨ ((half < 1 ∨ (1 ≤ half ∧ half ≤ 3000) ∨ 65536 < half) ∧ 3000 < old ∧ old ≤ 65536)) (w : World) :
    Calls Tryd.prog 3 #[.int .i64 half, .int .i64 old, .int .i64 card] w fun ev w' => ev = .returned (.bool true) ∧ Below w.heap.size w w' := by
  rcases h with ⟨h1, h2⟩ | ⟨h1 | ⟨h0, h1⟩ | h1, h2, h3⟩
  all_goals go_enter Tryd.func3, Tryd.ntmps3
  all_goals go_wp2_with fail
  all_goals refine (fresh_any w).mono ?_
  all_goals rintro ev w1 ⟨rfl, hb⟩
  all_goals go_wp2_with fail
  all_goals go_ret
  all_goals exact ⟨rfl, hb⟩
set_option maxHeartbeats 4000000 in
set_option maxRecDepth 100000 in
theorem memNew_bad (a : Nat → Addr) (half old card : Int) (h : ((half < 1 ∨ 65536 < half) ∧ (old < 1 ∨ (1 ≤ old ∧ old ≤ 3000) ∨ 65536 < old)) ∨ ((1 ≤ half ∧ half ≤ 3000) ∧ (old < 1 ∨ 65536 < old)) ∨ ((1 ≤ half ∧ half ≤ 3000) ∧ (1 ≤ old ∧ old ≤ 3000) ∧ (card < 1 ∨ 1024 < card))) (w : World) (E : Errs a w) :
    Calls Tryd.prog 3 #[.int .i64 half, .int .i64 old, .int .i64 card] w fun ev w' => ev = .returned (.bool true) ∧ Below w.heap.size w w' := by
  have HN : Hid (¬ numsOK half old card) := by show ¬ _; unfold numsOK; omega
  rcases h with ⟨h1 | h1, h2 | ⟨h2, h3⟩ | h2⟩ | ⟨⟨h0, h1⟩, h2 | h2⟩ | ⟨⟨h0, h1⟩, ⟨h2, h3⟩, h4 | h4⟩
  all_goals go_enter Tryd.func3, Tryd.ntmps3
  all_goals go_wp2_with fail
  all_goals refine (fresh_any w).mono ?_
  all_goals rintro ev w1 ⟨rfl, hb⟩
  all_goals go_wp2_with fail
  all_goals refine (new_no a half old card HN.out w1 (errs_we (E.below hb))).mono ?_
  all_goals rintro ev w2 ⟨rfl, hb2⟩
  all_goals have hb3 := hb.trans (hb2.mono hb.size)
  all_goals clear hb2
  all_goals go_wp2_with fail
  all_goals refine (coded_any a 1 (by decide) w2 (E.below hb3)).mono ?_
  all_goals rintro ev w3 ⟨rfl, hb4⟩
  all_goals go_wp2_with fail
  all_goals go_ret
  all_goals exact ⟨rfl, hb3.trans (hb4.mono hb3.size)⟩
theorem repl_row {w : World} {g n : Nat} {v : Value} {T : TypeId} (h : w.heap[g]? = some (.cells (Array.replicate n v) T)) : 0 < n → ∃ ad : Addr, (some ⟨g, 0, none⟩ : Option Addr) = some ad ∧ ad.block < w.heap.size ∧ ∀ j x, (List.replicate n v)[j]? = some x → w.cell? (ad.add j) = some x := fun _ => by
  refine ⟨⟨g, 0, none⟩, rfl, lt_of_heap h, fun j x hj => ?_⟩
  have e : (⟨g, 0, none⟩ : Addr).add j = ⟨g, j, none⟩ := by unfold Addr.add; split <;> simp_all
  rw [e, cell_of_row _ _ _ _ _ _ h, ← hj, ← Array.getElem?_toList]
  simp
set_option maxHeartbeats 4000000 in
set_option maxRecDepth 100000 in
theorem memNew_good (half old card : Int) (nW nC : Nat) (h0 : 1 ≤ half) (h1 : half ≤ 3000) (h2 : 1 ≤ old) (h3 : old ≤ 3000) (h4 : 1 ≤ card) (h5 : card ≤ 1024) (F : Fits half old card nW nC 0 0 0) (w : World) :
    Calls Tryd.prog 3 #[.int .i64 half, .int .i64 old, .int .i64 card] w fun ev w' => ev = .returned (.bool true) ∧ Below w.heap.size w w' := by
  have HF := toHid F
  have bW : nW ≤ 300000 := by have := F.w; omega
  have bC : nC ≤ 300000 := by
    have := F.c
    have : (old + card - 1) / card ≤ old + card - 1 := Int.ediv_le_self _ (by omega)
    omega
  clear F
  go_enter Tryd.func3, Tryd.ntmps3
  go_wp2_with fail
  refine (fresh_any w).mono ?_
  rintro ev w1 ⟨rfl, hb⟩
  go_wp2_with fail
  refine (new_ok half old card HF.out.nums nW nC HF.out.w HF.out.c w1).mono ?_
  rintro ev w2 ⟨rfl, q, hq⟩
  obtain ⟨hb2, M, rW, rC⟩ := newW_facts half old card nW nC w1 q
  rw [← hq] at hb2 M rW rC
  clear hq
  have hb3 := hb.trans (hb2.mono hb.size)
  have hp := lt_of_cell M.c0
  clear hb hb2
  go_wp2_with fail
  refine (memBack_none w1.heap.size half old card 0 0 0 w2 hp nW nC nW nC 0 0 0 _ _ none none none _ _ (by simp) (repl_row rW) (fun v hv => by rw [List.eq_of_mem_replicate hv]; rfl) bW (by simp) (repl_row rC) (fun v hv => by rw [List.eq_of_mem_replicate hv]; rfl) bC M).mono ?_
  rintro ev w3 ⟨bx, a3, a7, a8, a9, a10, k3, k7, k8, k9, k10, rfl, hb4, X⟩
  have hb5 := hb3.trans (hb4.mono hb3.size)
  have hx := lt_of_cell X.c0
  clear hb3 hb4 M rW rC hp
  go_wp2_with fail
  refine (shaped_ok bx 0 half old card nW nC k3 k10 a3 a10 0 0 0 _ _ _ HF.out w3 X.memO).mono ?_
  rintro ev w4 ⟨rfl, q4, hq⟩
  have hb6 : Below w3.heap.size w3 w4 := by rw [hq]; exact below_drewN (Below.refl _ _)
  have X1 := X.below hb6 hx
  have hx1 := lt_of_cell X1.c0
  clear hq
  go_wp2_with fail
  refine (checkOf_none bx 0 half old card nW nC k3 k10 k7 k8 k9 a3 a10 a7 a8 a9 HF.out w4 hx1 X1.memO).mono ?_
  rintro ev w5 ⟨rfl, hb7⟩
  obtain ⟨c0, c1, c2, c3, c4, c5, c6, c7, c8, c9, c10⟩ := X1.below hb7 hx1
  have hb8 := hb5.trans ((hb6.trans (hb7.mono hb6.size)).mono hb5.size)
  clear hb5 hb6 hb7 X X1
  have e1 : IntKind.i64.wrap (0 + 0) = 0 := by decide
  go_wp2_with fail
  go_quiet (fail)
  go_wp2
  go_ret
  exact ⟨rfl, below_drewN hb8⟩
theorem memNew_any (a : Nat → Addr) (half old card : Int) (w : World) (E : Errs a w) :
    Calls Tryd.prog 3 #[.int .i64 half, .int .i64 old, .int .i64 card] w fun ev w' => ev = .returned (.bool true) ∧ Below w.heap.size w w' := by
  by_cases s1 : (3000 < half ∧ half ≤ 65536) ∨ ((half < 1 ∨ (1 ≤ half ∧ half ≤ 3000) ∨ 65536 < half) ∧ 3000 < old ∧ old ≤ 65536)
  · exact memNew_skip half old card s1 w
  · by_cases s2 : (1 ≤ half ∧ half ≤ 3000) ∧ (1 ≤ old ∧ old ≤ 3000) ∧ 1 ≤ card ∧ card ≤ 1024
    · obtain ⟨⟨h0, h1⟩, ⟨h2, h3⟩, h4, h5⟩ := s2
      have q0 : 0 ≤ (old + card - 1) / card := Int.ediv_nonneg (by omega) (by omega)
      exact memNew_good half old card (2 * half + old).toNat ((old + card - 1) / card).toNat h0 h1 h2 h3 h4 h5 ⟨⟨h0, by omega, h2, by omega, h4, h5⟩, by omega, by omega, by omega, by omega, by omega, by omega, by omega, by omega⟩ w
    · exact memNew_bad a half old card (by omega) w E
end Go.Proofs.YtbkmgempejckeaaDoor
