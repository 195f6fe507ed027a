/-
  The law Names holds: called in whatever memory in which package api's errors, and the handle of the type error, read as the program's text lays them, it returns true; nothing that was there has turned.
-/
import Derived.Test.YtngiehnokhcifaaDoorCards
import Derived.Test.YtngiehnokhcifaaDoorTie
import Derived.Test.YtngiehnokhcifaaDoorNames
import Derived.ProofKit
import Derived.OpenShut
import Derived.Deep.DeepHandedRow
import Derived.Lib.LaidTab
namespace Go.Proofs.YtngiehnokhcifaaDoor
open Go.ChangeShapes Go.WideShapes Go.ChangeAt Go.RowKit

theorem own : ownKnob Tryd.prog.godebug = none := by kernel_rfl

theorem names_errs {W : World} (h : laidMetH Tryd.prog Rows.namesRow.laid W) : ∃ a : Nat → Addr, Errs a W ∧ ∀ i, i < 7 → W.cell? (a i) = some (.string (sentText i)) := by
  have h' : laidMet Tryd.prog [sentLaid 0, sentLaid 1, sentLaid 2, sentLaid 3, sentLaid 4, sentLaid 5, sentLaid 6] W ∧ handlesMet Tryd.prog [("errors.errorType", Rows.laid_errors_errorType)] W := h
  refine errs_of h'.1 h'.2 (fun i j hi hj hne => ?_)
  have key : ∀ i j : Nat, i < j → j < 7 → [sentLaid i, sentLaid j].Sublist [sentLaid 0, sentLaid 1, sentLaid 2, sentLaid 3, sentLaid 4, sentLaid 5, sentLaid 6] := fun i j h1 h2 => by
    have e : ([i, j].Sublist [0, 1, 2, 3, 4, 5, 6]) := by
      have hj : j ∈ [1, 2, 3, 4, 5, 6] := by simp; omega
      have hi : i ∈ [0, 1, 2, 3, 4, 5] := by simp; omega
      simp at hi hj
      rcases hi with rfl | rfl | rfl | rfl | rfl | rfl <;> rcases hj with rfl | rfl | rfl | rfl | rfl | rfl <;> first | omega | decide
    exact e.map sentLaid
  rcases Nat.lt_or_gt_of_ne hne with h | h
  · exact Or.inl (key i j h hj)
  · exact Or.inr (key j i h hi)

theorem names_contract (H : Type) (enc : TypeId × Value → H) (W : World) (args : Array Value) (ds gs : List (DataW H)) (before : List MemPlace)
    (hW : DataW.Whole enc Tryd.prog Tryd.f3.params.toList Rows.namesSpec.vars false W args.toList ds gs before) (hL : laidMetH Tryd.prog Rows.namesRow.laid W) :
    Calls Tryd.prog 3 args W fun e W' => ∃ v, e = .returned v ∧ Rows.namesSpec.post enc Tryd.prog Tryd.f3 false true false false W args v W' := by
  have hW' := hW
  obtain ⟨p, q, hA0, hV, rfl, hfz, hnd⟩ := hW
  have hA : DataW.TrodAll enc Tryd.prog W 0 (fun _ => true) true Tryd.f3.params.toList args.toList ds p := hA0
  rw [Tryd.params3] at hA
  obtain ⟨hargs, rfl, rfl⟩ := trodAll_nil hA
  obtain rfl : args = #[] := by cases args; simp_all
  obtain ⟨rfl, rfl⟩ := trodVars_none hV
  clear hA0
  simp only [List.append_nil] at hW'
  obtain ⟨a, E, hS⟩ := names_errs hL
  refine (names_any a W E hS).mono fun e W' ⟨he, hg⟩ => ?_
  subst he
  refine ⟨_, rfl, _, _, _, [], [], [], hW', ?_, ?_, ?_, hg.frame _, fun h => by cases h⟩
  · exact trodAll_cons_mk (shut_bool Tryd.underlying4 true) trodAll_mk0
  · exact trodAll_mk0
  · rfl

/-- A world for the witness: the settled one, the errors and the handle laid. -/
def namesLow (P : Program) : Nat := (World.holding P default ⟨#[], #[], []⟩).heap.size
def namesWorld (P : Program) (os : Os) : World :=
  let w0 := World.holding P os ⟨#[.cells #[.string (sentText 0)] 54, .cells #[.string (sentText 1)] 54, .cells #[.string (sentText 2)] 54, .cells #[.string (sentText 3)] 54, .cells #[.string (sentText 4)] 54, .cells #[.string (sentText 5)] 54, .cells #[.string (sentText 6)] 54], #[], []⟩
  let put (k : Nat) (v : Value) (h : Array Obj) : Array Obj := h.modify k fun | .cells _ t frozen => .cells #[v] t frozen | o => o
  { w0 with heap := put 7 (.iface 91 (.agg #[.pointer (some ⟨23, 25, none⟩)])) (put 0 (.iface 52 (.pointer (some ⟨namesLow P, 0, none⟩))) (put 1 (.iface 52 (.pointer (some ⟨namesLow P + 1, 0, none⟩))) (put 2 (.iface 52 (.pointer (some ⟨namesLow P + 2, 0, none⟩))) (put 3 (.iface 52 (.pointer (some ⟨namesLow P + 3, 0, none⟩))) (put 4 (.iface 52 (.pointer (some ⟨namesLow P + 4, 0, none⟩))) (put 5 (.iface 52 (.pointer (some ⟨namesLow P + 5, 0, none⟩))) (put 6 (.iface 52 (.pointer (some ⟨namesLow P + 6, 0, none⟩))) w0.heap))))))) }
theorem names_met (os : Os) : laidMetH Tryd.prog Rows.namesRow.laid ((namesWorld Tryd.prog os).forCall (fun _ _ => 0) ⟨#[], #[], []⟩).memory :=
  laidMetH_of_parts (laidMet_of_run' 8 (by kernel_rfl) (by kernel_rfl)) (by kernel_rfl)
theorem names_reads (os : Os) {H : Type} (enc : TypeId × Value → H) : ∃ places, DataW.whole enc Tryd.prog ((namesWorld Tryd.prog os).forCall (fun _ _ => 0) ⟨#[], #[], []⟩).memory Tryd.f3.params.toList Rows.namesSpec.vars false (#[] : Array Value).toList 8 = some ([], [], places) :=
  ⟨[], by kernel_rfl⟩

set_option maxRecDepth 100000 in
theorem names_lifted (os : Os) (started : os.Started) (H : Type) (enc : TypeId × Value → H) (F : Stop.Interp) :
    ReturnsInHanded {} Tryd.checked os 3 .any ((OpenSpec.ofChange Rows.namesSpec).preRow enc Tryd.prog Tryd.f3 Rows.namesRow.domain false Rows.namesRow.laid) (((OpenSpec.ofChange Rows.namesSpec).at F).post enc Tryd.prog Tryd.f3 false true false false) := by
  obtain ⟨places, hx⟩ := names_reads os enc
  refine returnsInHanded_of_row (C := Tryd.checked) (s := OpenSpec.ofChange Rows.namesSpec) own started (by kernel_rfl) Tryd.func3
    (witness_row_at (enc := enc) (C := Tryd.checked) false (namesWorld Tryd.prog os) #[] rfl (by kernel_rfl) (by kernel_rfl) (by kernel_rfl)
      (OpenSpec.preRow_of_cond 8 hx (by kernel_rfl) (fun k hk => by cases hk) (by kernel_rfl) (names_met os))) ?_
  intro W base args ds gs before hval hW _ _ _ hL _ _
  exact names_contract H enc W args ds gs before hW hL

theorem names_said : Rows.NamesSaid :=
  OpenClaim.holds_of_cond 3 Tryd.f3 rfl rfl rfl rfl rfl rfl rfl ⟨rfl, rfl, rfl, rfl, rfl⟩ rfl rfl rfl rfl rfl (by kernel_rfl) Tryd.func3 (by kernel_rfl)
    (of_decide_eq_true (by kernel_rfl)) (by unfold Func.isWrapper; rw [if_neg (of_decide_eq_false (by kernel_rfl))]; exact ⟨rfl, rfl⟩)
    (fun os started H enc _ F => by rw [OpenClaim.pre_eq_preRow]; exact names_lifted os started H enc F)

theorem names_plain (f : FuncId) (fn : Func) (hf : Tryd.pinned.checked.prog.funcNamed "nurserypy/nurserypylaw1.Names" = some f) (hfn : Tryd.pinned.checked.prog.funcs[f]? = some fn) :
    true = Tryd.pinned.checked.prog.looks [] ∧ ∀ (j : Nat) t, fn.params[j]? = some t → Tryd.pinned.checked.prog.wantsStandIn t = false := by
  obtain rfl : f = 3 := Option.some.inj ((show Tryd.prog.funcNamed "nurserypy/nurserypylaw1.Names" = some 3 by kernel_rfl).symm.trans hf) |>.symm
  obtain rfl : fn = Tryd.f3 := (Option.some.inj (Tryd.func3.symm.trans hfn)).symm
  refine ⟨by kernel_rfl, fun j t ht => ?_⟩
  rw [Tryd.params3] at ht
  simp at ht

theorem names_card : Rows.NamesCardSaid :=
  Claim7.holds_tied_plain_at .later [] _ _ _ _ names_said (fun _ h => by cases h) (by kernel_rfl) (fun _ h => by cases h) names_row_tie rfl ⟨rfl, rfl⟩ (by kernel_rfl) rfl names_plain (by kernel_rfl)
#print axioms names_card
end Go.Proofs.YtngiehnokhcifaaDoor
