/-
  The law MajorKeeps holds for every memory that is handed in (and for none): called in whatever memory in which the listed variables read as the program's text lays them, it returns true; nothing that was there has turned.
-/
import Derived.Test.YtnenggkgfhgcnaaGreatDoorCards
import Derived.Test.YtnenggkgfhgcnaaGreatDoorTie
import Derived.Test.YtnenggkgfhgcnaaGreatDoorKpI
import Derived.Test.YtnenggkgfhgcnaaGreatDoorJnG
import Derived.ProofKit
import Derived.OpenShut
import Derived.Deep.DeepHandedRow
import Derived.WideKeyArgs
import Derived.Deep.Frames
import Derived.SizedLaws
namespace Go.Proofs.YtnenggkgfhgcnaaGreatDoor
open Go.ChangeShapes Go.WideShapes Go.ChangeAt Go.RowKit
open Go.ChangeMaps (open_string shut_string)

theorem majorKeeps_walk (W : World) (x : Option Addr) (hx : MemIn W x) (h : laidMetH Tryz.prog Rows.majorKeepsRow.laid W) : Calls Tryz.prog 3 #[.pointer x] W fun ev W' => ev = .returned (.bool true) ∧ Below W.heap.size W W' := by
  have h' : laidMet Tryz.prog [sentLaid 0, sentLaid 1, sentLaid 2, sentLaid 3, sentLaid 4, sentLaid 5, sentLaid 6] W ∧ handlesMet Tryz.prog [("errors.errorType", Rows.laid_errors_errorType)] W := h
  obtain ⟨a, E⟩ := word_errs h'
  rcases hx with rfl | ⟨b, o, m, rfl, hR, h64⟩
  · exact majorKeeps_nil a W E
  · exact majorKeeps_any a b o m W E hR h64

theorem laidOut : laidOutB Tryz.prog = true := by kernel_rfl
theorem own : ownKnob Tryz.prog.godebug = none := by kernel_rfl

set_option maxRecDepth 100000 in
theorem majorKeeps_contract (H : Type) (enc : TypeId × Value → H) (W : World) (base : Nat) (args : Array Value) (ds gs : List (DataW H)) (before : List MemPlace)
    (hval : ∀ (j : Nat) t v, Tryz.f3.params[j]? = some t → args[j]? = some v → Value.okWide Tryz.prog W .any base t v)
    (hW : DataW.Whole enc Tryz.prog Tryz.f3.params.toList Rows.majorKeepsSpec.vars false W args.toList ds gs before) (hL : laidMetH Tryz.prog Rows.majorKeepsRow.laid W) :
    Calls Tryz.prog 3 args W fun e W' => ∃ v, e = .returned v ∧ Rows.majorKeepsSpec.post enc Tryz.prog Tryz.f3 false true false false W args v W' := by
  have hW' := hW
  obtain ⟨p, q, hA0, hV, rfl, hfz, hnd⟩ := hW
  have hA : DataW.TrodAll enc Tryz.prog W 0 (fun _ => true) true Tryz.f3.params.toList args.toList ds p := hA0
  rw [Tryz.params3] at hA hval
  obtain ⟨v0, vs0, d0, ds0, p0, q0, hargs, rfl, rfl, h0, r0⟩ := trodAll_cons hA
  obtain ⟨rfl, rfl, rfl⟩ := trodAll_nil r0
  obtain rfl : args = #[v0] := by cases args; simp_all
  obtain ⟨rfl, rfl⟩ := trodVars_none hV
  obtain ⟨x0, rfl⟩ := okWide_pointer Tryz.underlying22 (hval 0 22 v0 rfl rfl)
  have h0k := h0
  obtain ⟨fu0, hf0⟩ := h0
  obtain ⟨hmem0, hpc0⟩ : MemIn W x0 ∧ NM p0 := by
    rcases open_mem hf0 with ⟨hcs, hn⟩ | ⟨b, o, m, hcs, hR, h64, hn⟩
    · simp [Value.cells] at hcs
      exact ⟨.inl hcs, hn⟩
    · simp [Value.cells] at hcs
      exact ⟨.inr ⟨b, o, m, hcs, hR, h64⟩, hn⟩
  clear hA0
  simp only [List.append_nil] at hW'
  have hlt0 : ∀ x ∈ p0, x.block < W.heap.size := fun x hx => by simpa using hW'.lt x (by simp [hx])
  refine (majorKeeps_walk W x0 hmem0 hL).mono fun e W' ⟨he, hg⟩ => ?_
  subst he
  refine ⟨_, rfl, _, _, _, [], (p0 ++ []), [], hW', ?_, ?_, ?_, hg.frame _, fun h => by cases h⟩
  · exact trodAll_cons_mk (shut_bool Tryz.underlying4 true) trodAll_mk0
  · exact trodAll_cons_mk (WideElems.Trod_stays laidOut (by kernel_rfl) (of_decide_eq_true (by kernel_rfl)) h0k (fun x hx => World.keptBut.sameAt (hg.frame (fun _ => False)) (hlt0 x hx) (fun hm => hm) (fun bb e => absurd e (hpc0 x hx bb))) (fun x hx => by simpa using hlt0 x hx)) trodAll_mk0
  · rfl

/-- A world for the witness: the settled one, the listed variables laid. -/
def majorKeepsLow (P : Program) : Nat := (World.holding P default ⟨#[], #[], []⟩).heap.size
def majorKeepsWorld (P : Program) (os : Os) : World :=
  let w0 := World.holding P os ⟨#[.cells #[.string ⟨#[110, 117, 114, 115, 101, 114, 121, 112, 121, 58, 32, 116, 101, 120, 116]⟩] 236, .cells #[.string ⟨#[110, 117, 114, 115, 101, 114, 121, 112, 121, 58, 32, 98, 111, 117, 110, 100]⟩] 236, .cells #[.string ⟨#[110, 117, 114, 115, 101, 114, 121, 112, 121, 58, 32, 115, 104, 97, 112, 101]⟩] 236, .cells #[.string ⟨#[110, 117, 114, 115, 101, 114, 121, 112, 121, 58, 32, 110, 97, 109, 101]⟩] 236, .cells #[.string ⟨#[110, 117, 114, 115, 101, 114, 121, 112, 121, 58, 32, 112, 108, 97, 99, 101]⟩] 236, .cells #[.string ⟨#[110, 117, 114, 115, 101, 114, 121, 112, 121, 58, 32, 102, 117, 108, 108]⟩] 236, .cells #[.string ⟨#[110, 117, 114, 115, 101, 114, 121, 112, 121, 58, 32, 110, 111, 110, 101]⟩] 236], #[], []⟩
  let put (k : Nat) (v : Array Value) (h : Array Obj) : Array Obj := h.modify k fun | .cells _ t frozen => .cells v t frozen | o => o
  { w0 with heap := (put 7 #[.iface 182 (.agg #[.pointer (some ⟨8, 34, none⟩)])] (put 3 #[.iface 216 (.pointer (some ⟨majorKeepsLow P + 0, 0, none⟩))] (put 1 #[.iface 216 (.pointer (some ⟨majorKeepsLow P + 1, 0, none⟩))] (put 2 #[.iface 216 (.pointer (some ⟨majorKeepsLow P + 2, 0, none⟩))] (put 4 #[.iface 216 (.pointer (some ⟨majorKeepsLow P + 3, 0, none⟩))] (put 5 #[.iface 216 (.pointer (some ⟨majorKeepsLow P + 4, 0, none⟩))] (put 0 #[.iface 216 (.pointer (some ⟨majorKeepsLow P + 5, 0, none⟩))] (put 6 #[.iface 216 (.pointer (some ⟨majorKeepsLow P + 6, 0, none⟩))] w0.heap)))))))) }
theorem majorKeeps_met (os : Os) : laidMetH Tryz.prog Rows.majorKeepsRow.laid ((majorKeepsWorld Tryz.prog os).forCall (fun _ _ => 0) ⟨#[], #[.pointer none], []⟩).memory :=
  laidMetH_of_parts (laidMet_of_run' 8 (by kernel_rfl) (by kernel_rfl)) (by kernel_rfl)
theorem majorKeeps_reads (os : Os) {H : Type} (enc : TypeId × Value → H) : ∃ places, DataW.whole enc Tryz.prog ((majorKeepsWorld Tryz.prog os).forCall (fun _ _ => 0) ⟨#[], #[.pointer none], []⟩).memory Tryz.f3.params.toList Rows.majorKeepsSpec.vars false (#[.pointer none] : Array Value).toList 8 = some ([.nil], [], places) :=
  ⟨[], by kernel_rfl⟩

set_option maxRecDepth 100000 in
theorem majorKeeps_lifted (os : Os) (started : os.Started) (H : Type) (enc : TypeId × Value → H) (F : Stop.Interp) :
    ReturnsInHanded {} Tryz.checked os 3 .any ((OpenSpec.ofChange Rows.majorKeepsSpec).preRow enc Tryz.prog Tryz.f3 Rows.majorKeepsRow.domain false Rows.majorKeepsRow.laid) (((OpenSpec.ofChange Rows.majorKeepsSpec).at F).post enc Tryz.prog Tryz.f3 false true false false) := by
  obtain ⟨places, hx⟩ := majorKeeps_reads os enc
  refine returnsInHanded_of_row (C := Tryz.checked) (s := OpenSpec.ofChange Rows.majorKeepsSpec) own started (by kernel_rfl) Tryz.func3
    (witness_row_at (enc := enc) (C := Tryz.checked) false (majorKeepsWorld Tryz.prog os) #[.pointer none] rfl (by kernel_rfl) (by kernel_rfl) (by kernel_rfl)
      (OpenSpec.preRow_of_cond 8 hx (by kernel_rfl) (fun k hk => by cases hk) (by kernel_rfl) (majorKeeps_met os))) ?_
  intro W base args ds gs before hval hW _ _ _ hL _ _
  exact majorKeeps_contract H enc W base args ds gs before hval hW hL

theorem majorKeeps_said : Rows.MajorKeepsSaid :=
  OpenClaim.holds_of_cond 3 Tryz.f3 rfl rfl rfl rfl rfl rfl rfl ⟨rfl, rfl, rfl, rfl, rfl⟩ rfl rfl rfl rfl rfl (by kernel_rfl) Tryz.func3 (by kernel_rfl)
    (of_decide_eq_true (by kernel_rfl)) (by unfold Func.isWrapper; rw [if_neg (of_decide_eq_false (by kernel_rfl))]; exact ⟨rfl, rfl⟩)
    (fun os started H enc _ F => by rw [OpenClaim.pre_eq_preRow]; exact majorKeeps_lifted os started H enc F)

theorem majorKeeps_plain (f : FuncId) (fn : Func) (hf : Tryz.pinned.checked.prog.funcNamed "nurserypy/nurserypylaw3.MajorKeeps" = some f) (hfn : Tryz.pinned.checked.prog.funcs[f]? = some fn) :
    true = Tryz.pinned.checked.prog.looks [] ∧ ∀ (j : Nat) t, fn.params[j]? = some t → Tryz.pinned.checked.prog.wantsStandIn t = false := by
  obtain rfl : f = 3 := Option.some.inj ((show Tryz.prog.funcNamed "nurserypy/nurserypylaw3.MajorKeeps" = some 3 by kernel_rfl).symm.trans hf) |>.symm
  obtain rfl : fn = Tryz.f3 := (Option.some.inj (Tryz.func3.symm.trans hfn)).symm
  refine ⟨by kernel_rfl, fun j t ht => ?_⟩
  rw [Tryz.params3] at ht
  have hm := Array.mem_of_getElem? ht
  simp only [List.mem_toArray, List.mem_cons, List.not_mem_nil, or_false] at hm
  subst hm
  exact (show Tryz.prog.wantsStandIn 22 = false by kernel_rfl)

theorem majorKeeps_card : Rows.MajorKeepsCardSaid :=
  Claim7.holds_tied_plain_at .later [] _ _ _ _ majorKeeps_said (fun _ h => by cases h) (by kernel_rfl) (fun _ h => by cases h) majorKeeps_row_tie rfl ⟨rfl, rfl⟩ (by kernel_rfl) rfl majorKeeps_plain (by kernel_rfl)
#print axioms majorKeeps_card
end Go.Proofs.YtnenggkgfhgcnaaGreatDoor
