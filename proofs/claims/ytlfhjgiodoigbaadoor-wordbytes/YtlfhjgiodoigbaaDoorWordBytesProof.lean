/-
  The law WordBytes holds for every string and every int: called in whatever memory in which the listed variables read as the program's text lays them, it returns true; nothing that was there has turned.
-/
import Derived.Test.YtlfhjgiodoigbaaDoorCards
import Derived.Test.YtlfhjgiodoigbaaDoorTie
import Derived.Test.YtlfhjgiodoigbaaDoorWordH
import Derived.Test.YtlfhjgiodoigbaaDoorWordLaid
import Derived.ProofKit
import Derived.OpenShut
import Derived.Deep.DeepHandedRow
namespace Go.Proofs.YtlfhjgiodoigbaaDoor
open Go.ChangeShapes Go.WideShapes Go.ChangeAt Go.RowKit
open Go.ChangeMaps (open_string shut_string)

theorem wordBytes_walk (s : ByteArray) (n : Int) (_ : (Lit.int .i64 n).wf = true) (W : World) (h : laidMetH Tryd.prog Rows.wordBytesRow.laid W) : Calls Tryd.prog 6 #[.string s, .int .i64 n] W fun ev W' => ev = .returned (.bool true) ∧ Below W.heap.size W W' := by
  have h' : laidMet Tryd.prog [sentLaid 0, sentLaid 1, sentLaid 2, sentLaid 3, sentLaid 4, sentLaid 5, sentLaid 6] W ∧ handlesMet Tryd.prog [("errors.errorType", Rows.laid_errors_errorType)] W := h
  obtain ⟨a, E⟩ := word_errs h'
  exact wordBytes_any a s n W E

theorem own : ownKnob Tryd.prog.godebug = none := by kernel_rfl

set_option maxRecDepth 100000 in
theorem wordBytes_contract (H : Type) (enc : TypeId × Value → H) (W : World) (base : Nat) (args : Array Value) (ds gs : List (DataW H)) (before : List MemPlace)
    (hval : ∀ (j : Nat) t v, Tryd.f6.params[j]? = some t → args[j]? = some v → Value.okWide Tryd.prog W .any base t v)
    (hW : DataW.Whole enc Tryd.prog Tryd.f6.params.toList Rows.wordBytesSpec.vars false W args.toList ds gs before) (hL : laidMetH Tryd.prog Rows.wordBytesRow.laid W) :
    Calls Tryd.prog 6 args W fun e W' => ∃ v, e = .returned v ∧ Rows.wordBytesSpec.post enc Tryd.prog Tryd.f6 false true false false W args v W' := by
  have hW' := hW
  obtain ⟨p, q, hA0, hV, rfl, hfz, hnd⟩ := hW
  have hA : DataW.TrodAll enc Tryd.prog W 0 (fun _ => true) true Tryd.f6.params.toList args.toList ds p := hA0
  rw [Tryd.params6] at hA hval
  obtain ⟨v0, vs0, d0, ds0, p0, q0, hargs, rfl, rfl, h0, r0⟩ := trodAll_cons hA
  obtain ⟨v1, vs1, d1, ds1, p1, q1, rfl, rfl, rfl, h1, r1⟩ := trodAll_cons r0
  obtain ⟨rfl, rfl, rfl⟩ := trodAll_nil r1
  obtain rfl : args = #[v0, v1] := by cases args; simp_all
  obtain ⟨rfl, rfl⟩ := trodVars_none hV
  obtain ⟨s0, rfl, rfl, rfl, hs0⟩ := open_string Tryd.underlying9 (hval 0 9 v0 rfl rfl) h0
  obtain ⟨n1, rfl, rfl, rfl, hn1⟩ := open_int Tryd.underlying3 (hval 1 3 v1 rfl rfl) h1
  clear hA0
  simp only [List.append_nil] at hW'
  refine (wordBytes_walk s0 n1 hn1 W hL).mono fun e W' ⟨he, hg⟩ => ?_
  subst he
  refine ⟨_, rfl, _, _, _, [], [], [], hW', ?_, ?_, ?_, hg.frame _, fun h => by cases h⟩
  · exact trodAll_cons_mk (shut_bool Tryd.underlying4 true) trodAll_mk0
  · exact trodAll_cons_mk (shut_string Tryd.underlying9 hs0) (trodAll_cons_mk (shut_int Tryd.underlying3 hn1) trodAll_mk0)
  · rfl

/-- A world for the witness: the settled one, the listed variables laid. -/
def wordBytesLow (P : Program) : Nat := (World.holding P default ⟨#[], #[], []⟩).heap.size
def wordBytesWorld (P : Program) (os : Os) : World :=
  let w0 := World.holding P os ⟨#[.cells #[.string ⟨#[110, 117, 114, 115, 101, 114, 121, 112, 121, 58, 32, 116, 101, 120, 116]⟩] 123, .cells #[.string ⟨#[110, 117, 114, 115, 101, 114, 121, 112, 121, 58, 32, 98, 111, 117, 110, 100]⟩] 123, .cells #[.string ⟨#[110, 117, 114, 115, 101, 114, 121, 112, 121, 58, 32, 115, 104, 97, 112, 101]⟩] 123, .cells #[.string ⟨#[110, 117, 114, 115, 101, 114, 121, 112, 121, 58, 32, 110, 97, 109, 101]⟩] 123, .cells #[.string ⟨#[110, 117, 114, 115, 101, 114, 121, 112, 121, 58, 32, 112, 108, 97, 99, 101]⟩] 123, .cells #[.string ⟨#[110, 117, 114, 115, 101, 114, 121, 112, 121, 58, 32, 102, 117, 108, 108]⟩] 123, .cells #[.string ⟨#[110, 117, 114, 115, 101, 114, 121, 112, 121, 58, 32, 110, 111, 110, 101]⟩] 123], #[], []⟩
  let put (k : Nat) (v : Array Value) (h : Array Obj) : Array Obj := h.modify k fun | .cells _ t frozen => .cells v t frozen | o => o
  { w0 with heap := (put 7 #[.iface 87 (.agg #[.pointer (some ⟨8, 25, none⟩)])] (put 2 #[.iface 101 (.pointer (some ⟨wordBytesLow P + 0, 0, none⟩))] (put 0 #[.iface 101 (.pointer (some ⟨wordBytesLow P + 1, 0, none⟩))] (put 1 #[.iface 101 (.pointer (some ⟨wordBytesLow P + 2, 0, none⟩))] (put 3 #[.iface 101 (.pointer (some ⟨wordBytesLow P + 3, 0, none⟩))] (put 4 #[.iface 101 (.pointer (some ⟨wordBytesLow P + 4, 0, none⟩))] (put 5 #[.iface 101 (.pointer (some ⟨wordBytesLow P + 5, 0, none⟩))] (put 6 #[.iface 101 (.pointer (some ⟨wordBytesLow P + 6, 0, none⟩))] w0.heap)))))))) }
theorem wordBytes_met (os : Os) : laidMetH Tryd.prog Rows.wordBytesRow.laid ((wordBytesWorld Tryd.prog os).forCall (fun _ _ => 0) ⟨#[], #[.string ⟨#[]⟩, .int .i64 0], []⟩).memory :=
  laidMetH_of_parts (laidMet_of_run' 8 (by kernel_rfl) (by kernel_rfl)) (by kernel_rfl)
theorem wordBytes_reads (os : Os) {H : Type} (enc : TypeId × Value → H) : ∃ places, DataW.whole enc Tryd.prog ((wordBytesWorld Tryd.prog os).forCall (fun _ _ => 0) ⟨#[], #[.string ⟨#[]⟩, .int .i64 0], []⟩).memory Tryd.f6.params.toList Rows.wordBytesSpec.vars false (#[.string ⟨#[]⟩, .int .i64 0] : Array Value).toList 8 = some ([.lit (.string []), .lit (.int .i64 0)], [], places) :=
  ⟨[], by kernel_rfl⟩

set_option maxRecDepth 100000 in
theorem wordBytes_lifted (os : Os) (started : os.Started) (H : Type) (enc : TypeId × Value → H) (F : Stop.Interp) :
    ReturnsInHanded {} Tryd.checked os 6 .any ((OpenSpec.ofChange Rows.wordBytesSpec).preRow enc Tryd.prog Tryd.f6 Rows.wordBytesRow.domain false Rows.wordBytesRow.laid) (((OpenSpec.ofChange Rows.wordBytesSpec).at F).post enc Tryd.prog Tryd.f6 false true false false) := by
  obtain ⟨places, hx⟩ := wordBytes_reads os enc
  refine returnsInHanded_of_row (C := Tryd.checked) (s := OpenSpec.ofChange Rows.wordBytesSpec) own started (by kernel_rfl) Tryd.func6
    (witness_row_at (enc := enc) (C := Tryd.checked) false (wordBytesWorld Tryd.prog os) #[.string ⟨#[]⟩, .int .i64 0] rfl (by kernel_rfl) (by kernel_rfl) (by kernel_rfl)
      (OpenSpec.preRow_of_cond 8 hx (by kernel_rfl) (fun k hk => by cases hk) (by kernel_rfl) (wordBytes_met os))) ?_
  intro W base args ds gs before hval hW _ _ _ hL _ _
  exact wordBytes_contract H enc W base args ds gs before hval hW hL

theorem wordBytes_said : Rows.WordBytesSaid :=
  OpenClaim.holds_of_cond 6 Tryd.f6 rfl rfl rfl rfl rfl rfl rfl ⟨rfl, rfl, rfl, rfl, rfl⟩ rfl rfl rfl rfl rfl (by kernel_rfl) Tryd.func6 (by kernel_rfl)
    (of_decide_eq_true (by kernel_rfl)) (by unfold Func.isWrapper; rw [if_neg (of_decide_eq_false (by kernel_rfl))]; exact ⟨rfl, rfl⟩)
    (fun os started H enc _ F => by rw [OpenClaim.pre_eq_preRow]; exact wordBytes_lifted os started H enc F)

theorem wordBytes_plain (f : FuncId) (fn : Func) (hf : Tryd.pinned.checked.prog.funcNamed "nurserypy/nurserypylaw3.WordBytes" = some f) (hfn : Tryd.pinned.checked.prog.funcs[f]? = some fn) :
    true = Tryd.pinned.checked.prog.looks [] ∧ ∀ (j : Nat) t, fn.params[j]? = some t → Tryd.pinned.checked.prog.wantsStandIn t = false := by
  obtain rfl : f = 6 := Option.some.inj ((show Tryd.prog.funcNamed "nurserypy/nurserypylaw3.WordBytes" = some 6 by kernel_rfl).symm.trans hf) |>.symm
  obtain rfl : fn = Tryd.f6 := (Option.some.inj (Tryd.func6.symm.trans hfn)).symm
  refine ⟨by kernel_rfl, fun j t ht => ?_⟩
  rw [Tryd.params6] at ht
  have hm := Array.mem_of_getElem? ht
  simp only [List.mem_toArray, List.mem_cons, List.not_mem_nil, or_false] at hm
  rcases hm with rfl | rfl
  · exact (show Tryd.prog.wantsStandIn 9 = false by kernel_rfl)
  · exact (show Tryd.prog.wantsStandIn 3 = false by kernel_rfl)

theorem wordBytes_card : Rows.WordBytesCardSaid :=
  Claim7.holds_tied_plain_at .later [] _ _ _ _ wordBytes_said (fun _ h => by cases h) (by kernel_rfl) (fun _ h => by cases h) wordBytes_row_tie rfl ⟨rfl, rfl⟩ (by kernel_rfl) rfl wordBytes_plain (by kernel_rfl)
#print axioms wordBytes_card
end Go.Proofs.YtlfhjgiodoigbaaDoor
