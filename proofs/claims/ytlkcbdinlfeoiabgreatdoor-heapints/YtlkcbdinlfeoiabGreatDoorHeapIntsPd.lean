/-
  The law HeapInts holds for every two ints: called in whatever memory in which the listed variables read as the program's text lays them, it returns true; nothing that was there has turned.
-/
import Derived.Test.YtlkcbdinlfeoiabGreatDoorHeapIntsPa
import Derived.Test.YtlkcbdinlfeoiabGreatDoorHeapIntsPc
import Derived.Test.YtlkcbdinlfeoiabGreatDoorCards
import Derived.Test.YtlkcbdinlfeoiabGreatDoorTie
import Derived.Test.YtlkcbdinlfeoiabGreatDoorKuA
import Derived.Test.YtlkcbdinlfeoiabGreatDoorKnAT
import Derived.ProofKit
import Derived.OpenShut
import Derived.Deep.DeepHandedRow
namespace Go.Proofs.YtlkcbdinlfeoiabGreatDoor
open Go.ChangeShapes Go.WideShapes Go.ChangeAt Go.RowKit

theorem heapInts_said : Rows.HeapIntsSaid :=
  OpenClaim.holds_of_cond 4 Tryz.f4 rfl rfl rfl rfl rfl rfl rfl ⟨rfl, rfl, rfl, rfl, rfl⟩ rfl rfl rfl rfl rfl (by as_aux_lemma => kernel_rfl) Tryz.func4 heapInts_closed
    (of_decide_eq_true (by as_aux_lemma => kernel_rfl)) (by unfold Func.isWrapper; rw [if_neg (of_decide_eq_false (by as_aux_lemma => kernel_rfl))]; exact ⟨rfl, rfl⟩)
    (fun os started H enc _ F => by rw [OpenClaim.pre_eq_preRow]; exact heapInts_lifted os started H enc F)

theorem heapInts_plain (f : FuncId) (fn : Func) (hf : Tryz.pinned.checked.prog.funcNamed "nurserypy/nurserypylaw3.HeapInts" = some f) (hfn : Tryz.pinned.checked.prog.funcs[f]? = some fn) :
    true = Tryz.pinned.checked.prog.looks [] ∧ ∀ (j : Nat) t, fn.params[j]? = some t → Tryz.pinned.checked.prog.wantsStandIn t = false := by
  obtain rfl : f = 4 := Option.some.inj ((show Tryz.prog.funcNamed "nurserypy/nurserypylaw3.HeapInts" = some 4 by kernel_rfl).symm.trans hf) |>.symm
  obtain rfl : fn = Tryz.f4 := (Option.some.inj (Tryz.func4.symm.trans hfn)).symm
  refine ⟨by kernel_rfl, fun j t ht => ?_⟩
  rw [Tryz.params4] at ht
  have hm := Array.mem_of_getElem? ht
  simp only [List.mem_toArray, List.mem_cons, List.not_mem_nil, or_false] at hm
  rcases hm with rfl | rfl
  · exact (show Tryz.prog.wantsStandIn 2 = false by kernel_rfl)
  · exact (show Tryz.prog.wantsStandIn 3 = false by kernel_rfl)

theorem heapInts_card : Rows.HeapIntsCardSaid :=
  Claim7.holds_tied_plain_at .later [] _ _ _ _ heapInts_said (fun _ h => by cases h) (by kernel_rfl) (fun _ h => by cases h) heapInts_row_tie rfl ⟨rfl, rfl⟩ (by kernel_rfl) rfl heapInts_plain (by kernel_rfl)
#print axioms heapInts_card
end Go.Proofs.YtlkcbdinlfeoiabGreatDoor
