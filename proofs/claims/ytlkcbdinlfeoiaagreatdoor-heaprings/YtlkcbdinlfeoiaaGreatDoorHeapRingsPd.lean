/-
  The law HeapRings holds for every three ints and every bool: called in whatever memory in which the listed variables read as the program's text lays them, it returns true; nothing that was there has turned.
-/
import Derived.Test.YtlkcbdinlfeoiaaGreatDoorHeapRingsPa
import Derived.Test.YtlkcbdinlfeoiaaGreatDoorHeapRingsPc
import Derived.Test.YtlkcbdinlfeoiaaGreatDoorCards
import Derived.Test.YtlkcbdinlfeoiaaGreatDoorTie
import Derived.Test.YtlkcbdinlfeoiaaGreatDoorKrA
import Derived.Test.YtlkcbdinlfeoiaaGreatDoorKnAT
import Derived.ProofKit
import Derived.OpenShut
import Derived.Deep.DeepHandedRow
namespace Go.Proofs.YtlkcbdinlfeoiaaGreatDoor
open Go.ChangeShapes Go.WideShapes Go.ChangeAt Go.RowKit

theorem heapRings_said : Rows.HeapRingsSaid :=
  OpenClaim.holds_of_cond 7 Tryz.f7 rfl rfl rfl rfl rfl rfl rfl ⟨rfl, rfl, rfl, rfl, rfl⟩ rfl rfl rfl rfl rfl (by as_aux_lemma => kernel_rfl) Tryz.func7 heapRings_closed
    (of_decide_eq_true (by as_aux_lemma => kernel_rfl)) (by unfold Func.isWrapper; rw [if_neg (of_decide_eq_false (by as_aux_lemma => kernel_rfl))]; exact ⟨rfl, rfl⟩)
    (fun os started H enc _ F => by rw [OpenClaim.pre_eq_preRow]; exact heapRings_lifted os started H enc F)

theorem heapRings_plain (f : FuncId) (fn : Func) (hf : Tryz.pinned.checked.prog.funcNamed "nurserypy/nurserypylaw3.HeapRings" = some f) (hfn : Tryz.pinned.checked.prog.funcs[f]? = some fn) :
    true = Tryz.pinned.checked.prog.looks [] ∧ ∀ (j : Nat) t, fn.params[j]? = some t → Tryz.pinned.checked.prog.wantsStandIn t = false := by
  obtain rfl : f = 7 := Option.some.inj ((show Tryz.prog.funcNamed "nurserypy/nurserypylaw3.HeapRings" = some 7 by kernel_rfl).symm.trans hf) |>.symm
  obtain rfl : fn = Tryz.f7 := (Option.some.inj (Tryz.func7.symm.trans hfn)).symm
  refine ⟨by kernel_rfl, fun j t ht => ?_⟩
  rw [Tryz.params7] at ht
  have hm := Array.mem_of_getElem? ht
  simp only [List.mem_toArray, List.mem_cons, List.not_mem_nil, or_false] at hm
  rcases hm with rfl | rfl | rfl | rfl
  · exact (show Tryz.prog.wantsStandIn 3 = false by kernel_rfl)
  · exact (show Tryz.prog.wantsStandIn 3 = false by kernel_rfl)
  · exact (show Tryz.prog.wantsStandIn 3 = false by kernel_rfl)
  · exact (show Tryz.prog.wantsStandIn 4 = false by kernel_rfl)

theorem heapRings_card : Rows.HeapRingsCardSaid :=
  Claim7.holds_tied_plain_at .later [] _ _ _ _ heapRings_said (fun _ h => by cases h) (by kernel_rfl) (fun _ h => by cases h) heapRings_row_tie rfl ⟨rfl, rfl⟩ (by kernel_rfl) rfl heapRings_plain (by kernel_rfl)
#print axioms heapRings_card
end Go.Proofs.YtlkcbdinlfeoiaaGreatDoor
