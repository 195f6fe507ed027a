/-
  The law MemAllocs holds for every memory that is handed in (and for none), every int and every slice of words: called in whatever memory in which the listed variables read as the program's text lays them, it returns true; nothing that was there has turned.
-/
import Derived.Test.YtbkmgempejckeaaDoorCards
import Derived.Test.YtbkmgempejckeaaDoorTie
import Derived.Test.YtbkmgempejckeaaDoorMemSC
import Derived.Test.YtbkmgempejckeaaDoorMemRow
import Derived.Test.YtbkmgempejckeaaDoorWordLaid
import Derived.ProofKit
import Derived.OpenShut
import Derived.Deep.DeepHandedRow
import Derived.WideKeyArgs
import Derived.Deep.Frames
import Derived.SizedLaws
namespace Go.Proofs.YtbkmgempejckeaaDoor
open Go.ChangeShapes Go.WideShapes Go.ChangeAt Go.RowKit
open Go.ChangeMaps (open_string shut_string)

theorem memAllocs_walk (W : World) (x : Option Addr) (hx : MemIn W x) (n : Int) (_ : (Lit.int .i64 n).wf = true) (fs : List Int) (af : Option Addr) (cf : Nat) (RF : RowV W (.slice af fs.length cf) fs.length (wordsV fs)) (hfu : U64 fs) (h : laidMetH Tryd.prog Rows.memAllocsRow.laid W) : Calls Tryd.prog 4 #[.pointer x, .int .i64 n, .slice af fs.length cf] W fun ev W' => ev = .returned (.bool true) ∧ Below W.heap.size W W' := by
  have h' : laidMet Tryd.prog [sentLaid 0, sentLaid 1, sentLaid 2, sentLaid 3, sentLaid 4, sentLaid 5, sentLaid 6] W ∧ handlesMet Tryd.prog [("errors.errorType", Rows.laid_errors_errorType)] W := h
  obtain ⟨a, E⟩ := word_errs h'
  rcases hx with rfl | ⟨b, o, m, rfl, hR, h64⟩
  · exact memAllocs_none a n fs af cf W E RF
  · exact memAllocs_any a b o m n fs hfu af cf W E hR RF h64

theorem laidOut : laidOutB Tryd.prog = true := by kernel_rfl
theorem cells3 : Tryd.prog.cellsOf 3 = 1 := by kernel_rfl
theorem own : ownKnob Tryd.prog.godebug = none := by kernel_rfl

set_option maxRecDepth 100000 in
theorem memAllocs_contract (H : Type) (enc : TypeId × Value → H) (W : World) (base : Nat) (args : Array Value) (ds gs : List (DataW H)) (before : List MemPlace)
    (hval : ∀ (j : Nat) t v, Tryd.f4.params[j]? = some t → args[j]? = some v → Value.okWide Tryd.prog W .any base t v)
    (hW : DataW.Whole enc Tryd.prog Tryd.f4.params.toList Rows.memAllocsSpec.vars false W args.toList ds gs before) (hL : laidMetH Tryd.prog Rows.memAllocsRow.laid W) :
    Calls Tryd.prog 4 args W fun e W' => ∃ v, e = .returned v ∧ Rows.memAllocsSpec.post enc Tryd.prog Tryd.f4 false true false false W args v W' := by
  have hW' := hW
  obtain ⟨p, q, hA0, hV, rfl, hfz, hnd⟩ := hW
  have hA : DataW.TrodAll enc Tryd.prog W 0 (fun _ => true) true Tryd.f4.params.toList args.toList ds p := hA0
  rw [Tryd.params4] at hA hval
  obtain ⟨v0, vs0, d0, ds0, p0, q0, hargs, rfl, rfl, h0, r0⟩ := trodAll_cons hA
  obtain ⟨v1, vs1, d1, ds1, p1, q1, rfl, rfl, rfl, h1, r1⟩ := trodAll_cons r0
  obtain ⟨v2, vs2, d2, ds2, p2, q2, rfl, rfl, rfl, h2, r2⟩ := trodAll_cons r1
  obtain ⟨rfl, rfl, rfl⟩ := trodAll_nil r2
  obtain rfl : args = #[v0, v1, v2] := by cases args; simp_all
  obtain ⟨rfl, rfl⟩ := trodVars_none hV
  obtain ⟨x0, rfl⟩ := okWide_pointer Tryd.underlying29 (hval 0 29 v0 rfl rfl)
  have h0k := h0
  obtain ⟨fu0, hf0⟩ := h0
  obtain ⟨hmem0, hpc0⟩ : MemIn W x0 ∧ NM p0 := by
    rcases open_mem hf0 with ⟨hcs, hn⟩ | ⟨b, o, m, hcs, hR, h64, hn⟩
    · simp [Value.cells] at hcs
      exact ⟨.inl hcs, hn⟩
    · simp [Value.cells] at hcs
      exact ⟨.inr ⟨b, o, m, hcs, hR, h64⟩, hn⟩
  obtain ⟨n1, rfl, rfl, rfl, hn1⟩ := open_int Tryd.underlying3 (hval 1 3 v1 rfl rfl) h1
  have h2k := h2
  obtain ⟨fu2, hf2⟩ := h2
  obtain ⟨xs2, xa2, xc2, rfl, hrow2, hu2, hpc2⟩ : ∃ (l : List Int) (ao : Option Addr) (cap : Nat), v2 = .slice ao l.length cap ∧ RowV W (.slice ao l.length cap) l.length (wordsV l) ∧ U64 l ∧ NM p2 := by
    obtain ⟨x, xl, xc, rfl⟩ := okWide_slice Tryd.underlying32 (hval 2 32 v2 rfl rfl)
    obtain ⟨v, l, hcs, hR, hU, hN⟩ := open_words hf2
    simp [Value.cells] at hcs
    subst hcs
    obtain ⟨ao, cap, e, hc, hf⟩ := hR
    exact ⟨l, ao, cap, e, ⟨ao, cap, rfl, hc, hf⟩, hU, hN⟩
  clear hA0
  simp only [List.append_nil] at hW'
  have hlt0 : ∀ x ∈ p0, x.block < W.heap.size := fun x hx => by simpa using hW'.lt x (by simp [hx])
  have hlt2 : ∀ x ∈ p2, x.block < W.heap.size := fun x hx => by simpa using hW'.lt x (by simp [hx])
  refine (memAllocs_walk W x0 hmem0 n1 hn1 xs2 xa2 xc2 hrow2 hu2 hL).mono fun e W' ⟨he, hg⟩ => ?_
  subst he
  refine ⟨_, rfl, _, _, _, [], (p0 ++ ([] ++ (p2 ++ []))), [], hW', ?_, ?_, ?_, hg.frame _, fun h => by cases h⟩
  · exact trodAll_cons_mk (shut_bool Tryd.underlying4 true) trodAll_mk0
  · exact trodAll_cons_mk (WideElems.Trod_stays laidOut (by kernel_rfl) (of_decide_eq_true (by kernel_rfl)) h0k (fun x hx => World.keptBut.sameAt (hg.frame (fun _ => False)) (hlt0 x hx) (fun hm => hm) (fun bb e => absurd e (hpc0 x hx bb))) (fun x hx => by simpa using hlt0 x hx)) (trodAll_cons_mk (shut_int Tryd.underlying3 hn1) (trodAll_cons_mk (WideElems.Trod_stays laidOut (by kernel_rfl) (of_decide_eq_true (by kernel_rfl)) h2k (fun x hx => World.keptBut.sameAt (hg.frame (fun _ => False)) (hlt2 x hx) (fun hm => hm) (fun bb e => absurd e (hpc2 x hx bb))) (fun x hx => by simpa using hlt2 x hx)) trodAll_mk0))
  · rfl

/-- A world for the witness: the settled one, the listed variables laid. -/
def memAllocsLow (P : Program) : Nat := (World.holding P default ⟨#[], #[], []⟩).heap.size
def memAllocsWorld (P : Program) (os : Os) : World :=
  let w0 := World.holding P os ⟨#[.cells #[.string ⟨#[110, 117, 114, 115, 101, 114, 121, 112, 121, 58, 32, 116, 101, 120, 116]⟩] 172, .cells #[.string ⟨#[110, 117, 114, 115, 101, 114, 121, 112, 121, 58, 32, 98, 111, 117, 110, 100]⟩] 172, .cells #[.string ⟨#[110, 117, 114, 115, 101, 114, 121, 112, 121, 58, 32, 115, 104, 97, 112, 101]⟩] 172, .cells #[.string ⟨#[110, 117, 114, 115, 101, 114, 121, 112, 121, 58, 32, 110, 97, 109, 101]⟩] 172, .cells #[.string ⟨#[110, 117, 114, 115, 101, 114, 121, 112, 121, 58, 32, 112, 108, 97, 99, 101]⟩] 172, .cells #[.string ⟨#[110, 117, 114, 115, 101, 114, 121, 112, 121, 58, 32, 102, 117, 108, 108]⟩] 172, .cells #[.string ⟨#[110, 117, 114, 115, 101, 114, 121, 112, 121, 58, 32, 110, 111, 110, 101]⟩] 172], #[], []⟩
  let put (k : Nat) (v : Array Value) (h : Array Obj) : Array Obj := h.modify k fun | .cells _ t frozen => .cells v t frozen | o => o
  { w0 with heap := (put 7 #[.iface 136 (.agg #[.pointer (some ⟨8, 25, none⟩)])] (put 3 #[.iface 151 (.pointer (some ⟨memAllocsLow P + 0, 0, none⟩))] (put 0 #[.iface 151 (.pointer (some ⟨memAllocsLow P + 1, 0, none⟩))] (put 1 #[.iface 151 (.pointer (some ⟨memAllocsLow P + 2, 0, none⟩))] (put 4 #[.iface 151 (.pointer (some ⟨memAllocsLow P + 3, 0, none⟩))] (put 5 #[.iface 151 (.pointer (some ⟨memAllocsLow P + 4, 0, none⟩))] (put 2 #[.iface 151 (.pointer (some ⟨memAllocsLow P + 5, 0, none⟩))] (put 6 #[.iface 151 (.pointer (some ⟨memAllocsLow P + 6, 0, none⟩))] w0.heap)))))))) }
theorem memAllocs_met (os : Os) : laidMetH Tryd.prog Rows.memAllocsRow.laid ((memAllocsWorld Tryd.prog os).forCall (fun _ _ => 0) ⟨#[], #[.pointer none, .int .i64 0, .slice none 0 0], []⟩).memory :=
  laidMetH_of_parts (laidMet_of_run' 8 (by kernel_rfl) (by kernel_rfl)) (by kernel_rfl)
theorem memAllocs_reads (os : Os) {H : Type} (enc : TypeId × Value → H) : ∃ places, DataW.whole enc Tryd.prog ((memAllocsWorld Tryd.prog os).forCall (fun _ _ => 0) ⟨#[], #[.pointer none, .int .i64 0, .slice none 0 0], []⟩).memory Tryd.f4.params.toList Rows.memAllocsSpec.vars false (#[.pointer none, .int .i64 0, .slice none 0 0] : Array Value).toList 8 = some ([.nil, .lit (.int .i64 0), .nil], [], places) :=
  ⟨[], by kernel_rfl⟩

set_option maxRecDepth 100000 in
theorem memAllocs_lifted (os : Os) (started : os.Started) (H : Type) (enc : TypeId × Value → H) (F : Stop.Interp) :
    ReturnsInHanded {} Tryd.checked os 4 .any ((OpenSpec.ofChange Rows.memAllocsSpec).preRow enc Tryd.prog Tryd.f4 Rows.memAllocsRow.domain false Rows.memAllocsRow.laid) (((OpenSpec.ofChange Rows.memAllocsSpec).at F).post enc Tryd.prog Tryd.f4 false true false false) := by
  obtain ⟨places, hx⟩ := memAllocs_reads os enc
  refine returnsInHanded_of_row (C := Tryd.checked) (s := OpenSpec.ofChange Rows.memAllocsSpec) own started (by kernel_rfl) Tryd.func4
    (witness_row_at (enc := enc) (C := Tryd.checked) false (memAllocsWorld Tryd.prog os) #[.pointer none, .int .i64 0, .slice none 0 0] rfl (by kernel_rfl) (by kernel_rfl) (by kernel_rfl)
      (OpenSpec.preRow_of_cond 8 hx (by kernel_rfl) (fun k hk => by cases hk) (by kernel_rfl) (memAllocs_met os))) ?_
  intro W base args ds gs before hval hW _ _ _ hL _ _
  exact memAllocs_contract H enc W base args ds gs before hval hW hL

theorem memAllocs_said : Rows.MemAllocsSaid :=
  OpenClaim.holds_of_cond 4 Tryd.f4 rfl rfl rfl rfl rfl rfl rfl ⟨rfl, rfl, rfl, rfl, rfl⟩ rfl rfl rfl rfl rfl (by kernel_rfl) Tryd.func4 (by kernel_rfl)
    (of_decide_eq_true (by kernel_rfl)) (by unfold Func.isWrapper; rw [if_neg (of_decide_eq_false (by kernel_rfl))]; exact ⟨rfl, rfl⟩)
    (fun os started H enc _ F => by rw [OpenClaim.pre_eq_preRow]; exact memAllocs_lifted os started H enc F)

theorem memAllocs_plain (f : FuncId) (fn : Func) (hf : Tryd.pinned.checked.prog.funcNamed "nurserypy/nurserypylaw3.MemAllocs" = some f) (hfn : Tryd.pinned.checked.prog.funcs[f]? = some fn) :
    true = Tryd.pinned.checked.prog.looks [] ∧ ∀ (j : Nat) t, fn.params[j]? = some t → Tryd.pinned.checked.prog.wantsStandIn t = false := by
  obtain rfl : f = 4 := Option.some.inj ((show Tryd.prog.funcNamed "nurserypy/nurserypylaw3.MemAllocs" = some 4 by kernel_rfl).symm.trans hf) |>.symm
  obtain rfl : fn = Tryd.f4 := (Option.some.inj (Tryd.func4.symm.trans hfn)).symm
  refine ⟨by kernel_rfl, fun j t ht => ?_⟩
  rw [Tryd.params4] at ht
  have hm := Array.mem_of_getElem? ht
  simp only [List.mem_toArray, List.mem_cons, List.not_mem_nil, or_false] at hm
  rcases hm with rfl | rfl | rfl
  · exact (show Tryd.prog.wantsStandIn 29 = false by kernel_rfl)
  · exact (show Tryd.prog.wantsStandIn 3 = false by kernel_rfl)
  · exact (show Tryd.prog.wantsStandIn 32 = false by kernel_rfl)

theorem memAllocs_card : Rows.MemAllocsCardSaid :=
  Claim7.holds_tied_plain_at .later [] _ _ _ _ memAllocs_said (fun _ h => by cases h) (by kernel_rfl) (fun _ h => by cases h) memAllocs_row_tie rfl ⟨rfl, rfl⟩ (by kernel_rfl) rfl memAllocs_plain (by kernel_rfl)
#print axioms memAllocs_card
end Go.Proofs.YtbkmgempejckeaaDoor
