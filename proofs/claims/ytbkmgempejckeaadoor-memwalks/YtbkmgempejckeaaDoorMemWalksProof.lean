/-
  The law MemWalks holds for every memory that is handed in (and for none): called in whatever memory in which the listed variables read as the program's text lays them, it returns true; nothing that was there has turned.
-/
import Derived.Test.YtbkmgempejckeaaDoorCards
import Derived.Test.YtbkmgempejckeaaDoorTie
import Derived.Test.YtbkmgempejckeaaDoorMemRQ
import Derived.Test.YtbkmgempejckeaaDoorMemRow
import Derived.Test.YtbkmgempejckeaaDoorWordLaid
import Derived.ProofKit
import Derived.OpenShut
import Derived.Deep.DeepHandedRow
import Derived.WideKeyArgs
import Derived.Deep.Frames
import Derived.SizedLaws
namespace Go.Proofs.YtbkmgempejckeaaDoor
open Go.ChangeShapes Go.WideShapes Go.ChangeAt Go.RowKit
open Go.ChangeMaps (open_string shut_string)

theorem mem_errs3 {W : World} (h : laidMet Tryd.prog [sentLaid 1, sentLaid 2, sentLaid 4] W) : ∃ a : Nat → Addr, MErr3 a W := by
  obtain ⟨a1, v1, _⟩ := sent_one 1 (by decide) (laidMet_sub (.cons_cons _ (List.nil_sublist _)) h)
  obtain ⟨a2, v2, _⟩ := sent_one 2 (by decide) (laidMet_sub (.cons _ (.cons_cons _ (List.nil_sublist _))) h)
  obtain ⟨a4, v4, _⟩ := sent_one 4 (by decide) (laidMet_sub (.cons _ (.cons _ (List.Sublist.refl _))) h)
  exact ⟨fun i => if i = 1 then a1 else if i = 2 then a2 else a4, sent_cell 1 (by decide) a1 v1, sent_cell 2 (by decide) a2 v2, sent_cell 4 (by decide) a4 v4⟩
theorem memWalks_walk (W : World) (x : Option Addr) (hx : MemIn W x) (h : laidMetH Tryd.prog Rows.memWalksRow.laid W) : Calls Tryd.prog 7 #[.pointer x] W fun ev W' => ev = .returned (.bool true) ∧ Below W.heap.size W W' := by
  have h' : laidMet Tryd.prog [sentLaid 1, sentLaid 2, sentLaid 4] W := h
  obtain ⟨a, E⟩ := mem_errs3 h'
  rcases hx with rfl | ⟨b, o, m, rfl, hR, h64⟩
  · exact memWalks_nil W
  · exact memWalks_any a b o m W E hR h64

theorem laidOut : laidOutB Tryd.prog = true := by kernel_rfl
theorem cells3 : Tryd.prog.cellsOf 3 = 1 := by kernel_rfl
theorem own : ownKnob Tryd.prog.godebug = none := by kernel_rfl

set_option maxRecDepth 100000 in
theorem memWalks_contract (H : Type) (enc : TypeId × Value → H) (W : World) (base : Nat) (args : Array Value) (ds gs : List (DataW H)) (before : List MemPlace)
    (hval : ∀ (j : Nat) t v, Tryd.f7.params[j]? = some t → args[j]? = some v → Value.okWide Tryd.prog W .any base t v)
    (hW : DataW.Whole enc Tryd.prog Tryd.f7.params.toList Rows.memWalksSpec.vars false W args.toList ds gs before) (hL : laidMetH Tryd.prog Rows.memWalksRow.laid W) :
    Calls Tryd.prog 7 args W fun e W' => ∃ v, e = .returned v ∧ Rows.memWalksSpec.post enc Tryd.prog Tryd.f7 false true false false W args v W' := by
  have hW' := hW
  obtain ⟨p, q, hA0, hV, rfl, hfz, hnd⟩ := hW
  have hA : DataW.TrodAll enc Tryd.prog W 0 (fun _ => true) true Tryd.f7.params.toList args.toList ds p := hA0
  rw [Tryd.params7] at hA hval
  obtain ⟨v0, vs0, d0, ds0, p0, q0, hargs, rfl, rfl, h0, r0⟩ := trodAll_cons hA
  obtain ⟨rfl, rfl, rfl⟩ := trodAll_nil r0
  obtain rfl : args = #[v0] := by cases args; simp_all
  obtain ⟨rfl, rfl⟩ := trodVars_none hV
  obtain ⟨x0, rfl⟩ := okWide_pointer Tryd.underlying29 (hval 0 29 v0 rfl rfl)
  have h0k := h0
  obtain ⟨fu0, hf0⟩ := h0
  obtain ⟨hmem0, hpc0⟩ : MemIn W x0 ∧ NM p0 := by
    rcases open_mem hf0 with ⟨hcs, hn⟩ | ⟨b, o, m, hcs, hR, h64, hn⟩
    · simp [Value.cells] at hcs
      exact ⟨.inl hcs, hn⟩
    · simp [Value.cells] at hcs
      exact ⟨.inr ⟨b, o, m, hcs, hR, h64⟩, hn⟩
  clear hA0
  simp only [List.append_nil] at hW'
  have hlt0 : ∀ x ∈ p0, x.block < W.heap.size := fun x hx => by simpa using hW'.lt x (by simp [hx])
  refine (memWalks_walk W x0 hmem0 hL).mono fun e W' ⟨he, hg⟩ => ?_
  subst he
  refine ⟨_, rfl, _, _, _, [], (p0 ++ []), [], hW', ?_, ?_, ?_, hg.frame _, fun h => by cases h⟩
  · exact trodAll_cons_mk (shut_bool Tryd.underlying4 true) trodAll_mk0
  · exact trodAll_cons_mk (WideElems.Trod_stays laidOut (by kernel_rfl) (of_decide_eq_true (by kernel_rfl)) h0k (fun x hx => World.keptBut.sameAt (hg.frame (fun _ => False)) (hlt0 x hx) (fun hm => hm) (fun bb e => absurd e (hpc0 x hx bb))) (fun x hx => by simpa using hlt0 x hx)) trodAll_mk0
  · rfl

/-- A world for the witness: the settled one, the listed variables laid. -/
def memWalksLow (P : Program) : Nat := (World.holding P default ⟨#[], #[], []⟩).heap.size
def memWalksWorld (P : Program) (os : Os) : World :=
  let w0 := World.holding P os ⟨#[.cells #[.string ⟨#[110, 117, 114, 115, 101, 114, 121, 112, 121, 58, 32, 98, 111, 117, 110, 100]⟩] 172, .cells #[.string ⟨#[110, 117, 114, 115, 101, 114, 121, 112, 121, 58, 32, 115, 104, 97, 112, 101]⟩] 172, .cells #[.string ⟨#[110, 117, 114, 115, 101, 114, 121, 112, 121, 58, 32, 112, 108, 97, 99, 101]⟩] 172], #[], []⟩
  let put (k : Nat) (v : Array Value) (h : Array Obj) : Array Obj := h.modify k fun | .cells _ t frozen => .cells v t frozen | o => o
  { w0 with heap := (put 0 #[.iface 151 (.pointer (some ⟨memWalksLow P + 0, 0, none⟩))] (put 1 #[.iface 151 (.pointer (some ⟨memWalksLow P + 1, 0, none⟩))] (put 5 #[.iface 151 (.pointer (some ⟨memWalksLow P + 2, 0, none⟩))] w0.heap))) }
theorem memWalks_met (os : Os) : laidMetH Tryd.prog Rows.memWalksRow.laid ((memWalksWorld Tryd.prog os).forCall (fun _ _ => 0) ⟨#[], #[.pointer none], []⟩).memory :=
  laidMetH_of_parts (laidMet_of_run' 8 (by kernel_rfl) (by kernel_rfl)) (by kernel_rfl)
theorem memWalks_reads (os : Os) {H : Type} (enc : TypeId × Value → H) : ∃ places, DataW.whole enc Tryd.prog ((memWalksWorld Tryd.prog os).forCall (fun _ _ => 0) ⟨#[], #[.pointer none], []⟩).memory Tryd.f7.params.toList Rows.memWalksSpec.vars false (#[.pointer none] : Array Value).toList 8 = some ([.nil], [], places) :=
  ⟨[], by kernel_rfl⟩

set_option maxRecDepth 100000 in
theorem memWalks_lifted (os : Os) (started : os.Started) (H : Type) (enc : TypeId × Value → H) (F : Stop.Interp) :
    ReturnsInHanded {} Tryd.checked os 7 .any ((OpenSpec.ofChange Rows.memWalksSpec).preRow enc Tryd.prog Tryd.f7 Rows.memWalksRow.domain false Rows.memWalksRow.laid) (((OpenSpec.ofChange Rows.memWalksSpec).at F).post enc Tryd.prog Tryd.f7 false true false false) := by
  obtain ⟨places, hx⟩ := memWalks_reads os enc
  refine returnsInHanded_of_row (C := Tryd.checked) (s := OpenSpec.ofChange Rows.memWalksSpec) own started (by kernel_rfl) Tryd.func7
    (witness_row_at (enc := enc) (C := Tryd.checked) false (memWalksWorld Tryd.prog os) #[.pointer none] rfl (by kernel_rfl) (by kernel_rfl) (by kernel_rfl)
      (OpenSpec.preRow_of_cond 8 hx (by kernel_rfl) (fun k hk => by cases hk) (by kernel_rfl) (memWalks_met os))) ?_
  intro W base args ds gs before hval hW _ _ _ hL _ _
  exact memWalks_contract H enc W base args ds gs before hval hW hL

theorem memWalks_said : Rows.MemWalksSaid :=
  OpenClaim.holds_of_cond 7 Tryd.f7 rfl rfl rfl rfl rfl rfl rfl ⟨rfl, rfl, rfl, rfl, rfl⟩ rfl rfl rfl rfl rfl (by kernel_rfl) Tryd.func7 (by kernel_rfl)
    (of_decide_eq_true (by kernel_rfl)) (by unfold Func.isWrapper; rw [if_neg (of_decide_eq_false (by kernel_rfl))]; exact ⟨rfl, rfl⟩)
    (fun os started H enc _ F => by rw [OpenClaim.pre_eq_preRow]; exact memWalks_lifted os started H enc F)

theorem memWalks_plain (f : FuncId) (fn : Func) (hf : Tryd.pinned.checked.prog.funcNamed "nurserypy/nurserypylaw3.MemWalks" = some f) (hfn : Tryd.pinned.checked.prog.funcs[f]? = some fn) :
    true = Tryd.pinned.checked.prog.looks [] ∧ ∀ (j : Nat) t, fn.params[j]? = some t → Tryd.pinned.checked.prog.wantsStandIn t = false := by
  obtain rfl : f = 7 := Option.some.inj ((show Tryd.prog.funcNamed "nurserypy/nurserypylaw3.MemWalks" = some 7 by kernel_rfl).symm.trans hf) |>.symm
  obtain rfl : fn = Tryd.f7 := (Option.some.inj (Tryd.func7.symm.trans hfn)).symm
  refine ⟨by kernel_rfl, fun j t ht => ?_⟩
  rw [Tryd.params7] at ht
  have hm := Array.mem_of_getElem? ht
  simp only [List.mem_toArray, List.mem_cons, List.not_mem_nil, or_false] at hm
  subst hm
  exact (show Tryd.prog.wantsStandIn 29 = false by kernel_rfl)

theorem memWalks_card : Rows.MemWalksCardSaid :=
  Claim7.holds_tied_plain_at .later [] _ _ _ _ memWalks_said (fun _ h => by cases h) (by kernel_rfl) (fun _ h => by cases h) memWalks_row_tie rfl ⟨rfl, rfl⟩ (by kernel_rfl) rfl memWalks_plain (by kernel_rfl)
#print axioms memWalks_card
end Go.Proofs.YtbkmgempejckeaaDoor
