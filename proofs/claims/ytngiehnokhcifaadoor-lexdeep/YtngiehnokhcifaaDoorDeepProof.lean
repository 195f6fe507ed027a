/-
  The law LexDeep holds for every slice of ints and every int: called in whatever memory in which the listed variables read as the program's text lays them, it returns true; nothing that was there has turned.
-/
import Derived.Test.YtngiehnokhcifaaDoorCards
import Derived.Test.YtngiehnokhcifaaDoorTie
import Derived.Test.YtngiehnokhcifaaDoorDeep
import Derived.Test.YtngiehnokhcifaaDoorLexLaid
import Derived.ProofKit
import Derived.OpenShut
import Derived.Deep.DeepHandedRow
import Derived.ChangeSlices
import Derived.WideKeyArgs
import Derived.Deep.Frames
namespace Go.Proofs.YtngiehnokhcifaaDoor
open Go.ChangeShapes Go.WideShapes Go.ChangeAt Go.RowKit
open Go.ChangeMaps (open_string shut_string)

theorem lexDeep_walk (W : World) (x : Option Addr) (xl xc xb xo : Nat) (zs : List Int) (hxa : 0 < xl → x = some ⟨xb, xo, none⟩) (hzl : xl ≤ zs.length) (hzc : ∀ j, j < xl → W.cell? ⟨xb, xo + j, none⟩ = some (.int .i64 (zs.getD j 0))) (_ : ∀ n ∈ zs, (Lit.int .i64 n).wf = true) (back : Int) (_ : (Lit.int .i64 back).wf = true) (h : laidMetH Tryd.prog Rows.lexDeepRow.laid W) : Calls Tryd.prog 7 #[.slice x xl xc, .int .i64 back] W fun ev W' => ev = .returned (.bool true) ∧ Below W.heap.size W W' := by
  have h' : laidMet Tryd.prog Rows.lexDeepRow.laid W := h
  obtain ⟨a0, a1, E⟩ := lenv_of h' (List.singleton_sublist.2 (.tail _ (.tail _ (.tail _ (.head _))))) (List.singleton_sublist.2 (.tail _ (.tail _ (.tail _ (.tail _ (.head _)))))) (List.singleton_sublist.2 (.tail _ (.tail _ (.tail _ (.tail _ (.tail _ (.head _))))))) (List.singleton_sublist.2 (.tail _ (.tail _ (.tail _ (.tail _ (.tail _ (.tail _ (.tail _ (.head _))))))))) (List.singleton_sublist.2 (.tail _ (.tail _ (.tail _ (.tail _ (.tail _ (.tail _ (.tail _ (.tail _ (.head _))))))))))
  exact lexDeep_any x xl xc xb xo zs hxa hzl back a0 a1 W hzc E

theorem laidOut : laidOutB Tryd.prog = true := by kernel_rfl
theorem cells3 : Tryd.prog.cellsOf 3 = 1 := by kernel_rfl
theorem own : ownKnob Tryd.prog.godebug = none := by kernel_rfl

set_option maxRecDepth 100000 in
theorem lexDeep_contract (H : Type) (enc : TypeId × Value → H) (W : World) (base : Nat) (args : Array Value) (ds gs : List (DataW H)) (before : List MemPlace)
    (hval : ∀ (j : Nat) t v, Tryd.f7.params[j]? = some t → args[j]? = some v → Value.okWide Tryd.prog W .any base t v)
    (hW : DataW.Whole enc Tryd.prog Tryd.f7.params.toList Rows.lexDeepSpec.vars false W args.toList ds gs before) (hL : laidMetH Tryd.prog Rows.lexDeepRow.laid W) :
    Calls Tryd.prog 7 args W fun e W' => ∃ v, e = .returned v ∧ Rows.lexDeepSpec.post enc Tryd.prog Tryd.f7 false true false false W args v W' := by
  have hW' := hW
  obtain ⟨p, q, hA0, hV, rfl, hfz, hnd⟩ := hW
  have hA : DataW.TrodAll enc Tryd.prog W 0 (fun _ => true) true Tryd.f7.params.toList args.toList ds p := hA0
  rw [Tryd.params7] at hA hval
  obtain ⟨v0, vs0, d0, ds0, p0, q0, hargs, rfl, rfl, h0, r0⟩ := trodAll_cons hA
  obtain ⟨v1, vs1, d1, ds1, p1, q1, rfl, rfl, rfl, h1, r1⟩ := trodAll_cons r0
  obtain ⟨rfl, rfl, rfl⟩ := trodAll_nil r1
  obtain rfl : args = #[v0, v1] := by cases args; simp_all
  obtain ⟨rfl, rfl⟩ := trodVars_none hV
  obtain ⟨x0, xl0, xc0, rfl⟩ := okWide_slice Tryd.underlying22 (hval 0 22 v0 rfl rfl)
  have h0k := h0
  obtain ⟨fu0, hf0⟩ := h0
  obtain ⟨xb0, xo0, zs0, hxa0, hzl0, hzc0, hpc0, hwz0⟩ : ∃ (xb xo : Nat) (zs : List Int), (0 < xl0 → x0 = some ⟨xb, xo, none⟩) ∧ xl0 ≤ zs.length ∧ (∀ j, j < xl0 → W.cell? ⟨xb, xo + j, none⟩ = some (.int .i64 (zs.getD j 0))) ∧ (∀ x ∈ p0, ∀ bb, x ≠ .map bb) ∧ ∀ n ∈ zs, (Lit.int .i64 n).wf = true := by
    rcases open_ints Tryd.underlying22 Tryd.underlying3 cells3 hf0 with ⟨hcs, hx⟩ | ⟨a, len', cap', zs, hcs, _, hl, _, hz, hx, hcell, hwz⟩
    · simp [Value.cells] at hcs
      obtain ⟨rfl, rfl, rfl⟩ := hcs
      simp only [Prod.mk.injEq] at hx
      obtain ⟨rfl, rfl⟩ := hx
      exact ⟨0, 0, [], by simp, by simp, by simp, by simp, by simp⟩
    · simp [Value.cells] at hcs
      obtain ⟨rfl, rfl, rfl⟩ := hcs
      simp only [Prod.mk.injEq] at hx
      obtain ⟨rfl, rfl⟩ := hx
      simp only [if_true] at hz
      have hcl : ∀ x ∈ MemPlace.row a zs.length, ∀ bb, x ≠ .map bb := fun x hx bb e => by
        obtain ⟨j, _, rfl⟩ := MemPlace.mem_row.1 hx
        cases e
      rcases Nat.eq_zero_or_pos zs.length with hz0 | hzp
      · obtain rfl : xl0 = 0 := by omega
        exact ⟨0, 0, zs, by simp, by omega, by simp, hcl, hwz⟩
      · obtain ⟨xb, xo, spot⟩ := a
        have hspot : spot = none := by simpa [Addr.add] using World.cell?_spot (hcell 0 hzp)
        subst hspot
        exact ⟨xb, xo, zs, fun _ => rfl, by omega, fun j hj => by rw [← add_plain]; exact hcell j (by omega), hcl, hwz⟩
  obtain ⟨n1, rfl, rfl, rfl, hn1⟩ := open_int Tryd.underlying3 (hval 1 3 v1 rfl rfl) h1
  clear hA0
  simp only [List.append_nil] at hW'
  have hlt : ∀ x ∈ p0, x.block < W.heap.size := fun x hx => by simpa using hW'.lt x (by simpa using hx)
  refine (lexDeep_walk W x0 xl0 xc0 xb0 xo0 zs0 hxa0 hzl0 hzc0 hwz0 n1 hn1 hL).mono fun e W' ⟨he, hg⟩ => ?_
  subst he
  refine ⟨_, rfl, _, _, _, [], (p0 ++ ([] ++ [])), [], hW', ?_, ?_, ?_, hg.frame _, fun h => by cases h⟩
  · exact trodAll_cons_mk (shut_bool Tryd.underlying4 true) trodAll_mk0
  · exact trodAll_cons_mk (WideElems.Trod_stays laidOut (by kernel_rfl) (of_decide_eq_true (by kernel_rfl)) h0k (fun x hx => World.keptBut.sameAt (hg.frame (fun _ => False)) (hlt x hx) (fun hm => hm) (fun bb e => absurd e (hpc0 x hx bb))) (fun x hx => by simpa using hlt x hx)) (trodAll_cons_mk (shut_int Tryd.underlying3 hn1) trodAll_mk0)
  · rfl

/-- A world for the witness: the settled one, the listed variables laid. -/
def lexDeepLow (P : Program) : Nat := (World.holding P default ⟨#[], #[], []⟩).heap.size
def lexDeepWorld (P : Program) (os : Os) : World :=
  let w0 := World.holding P os ⟨#[.cells #[.string ⟨#[110, 117, 114, 115, 101, 114, 121, 112, 121, 58, 32, 116, 101, 120, 116]⟩] 54, .cells #[.string ⟨#[110, 117, 114, 115, 101, 114, 121, 112, 121, 58, 32, 98, 111, 117, 110, 100]⟩] 54, .cells #[.string ⟨#[118, 97, 108, 117, 101, 32, 111, 117, 116, 32, 111, 102, 32, 114, 97, 110, 103, 101]⟩] 54, .cells #[.string ⟨#[105, 110, 118, 97, 108, 105, 100, 32, 115, 121, 110, 116, 97, 120]⟩] 54], #[], []⟩
  let put (k : Nat) (v : Array Value) (h : Array Obj) : Array Obj := h.modify k fun | .cells _ t frozen => .cells v t frozen | o => o
  { w0 with heap := (put 14 #[.int .u8 0, .int .u8 1, .int .u8 28, .int .u8 2, .int .u8 29, .int .u8 14, .int .u8 24, .int .u8 3, .int .u8 30, .int .u8 22, .int .u8 20, .int .u8 15, .int .u8 25, .int .u8 17, .int .u8 4, .int .u8 8, .int .u8 31, .int .u8 27, .int .u8 13, .int .u8 23, .int .u8 21, .int .u8 19, .int .u8 16, .int .u8 7, .int .u8 26, .int .u8 12, .int .u8 18, .int .u8 6, .int .u8 11, .int .u8 5, .int .u8 10, .int .u8 9] (put 15 #[.int .u8 0, .int .u8 1, .int .u8 56, .int .u8 2, .int .u8 57, .int .u8 49, .int .u8 28, .int .u8 3, .int .u8 61, .int .u8 58, .int .u8 42, .int .u8 50, .int .u8 38, .int .u8 29, .int .u8 17, .int .u8 4, .int .u8 62, .int .u8 47, .int .u8 59, .int .u8 36, .int .u8 45, .int .u8 43, .int .u8 51, .int .u8 22, .int .u8 53, .int .u8 39, .int .u8 33, .int .u8 30, .int .u8 24, .int .u8 18, .int .u8 12, .int .u8 5, .int .u8 63, .int .u8 55, .int .u8 48, .int .u8 27, .int .u8 60, .int .u8 41, .int .u8 37, .int .u8 16, .int .u8 46, .int .u8 35, .int .u8 44, .int .u8 21, .int .u8 52, .int .u8 32, .int .u8 23, .int .u8 11, .int .u8 54, .int .u8 26, .int .u8 40, .int .u8 15, .int .u8 34, .int .u8 20, .int .u8 31, .int .u8 10, .int .u8 25, .int .u8 14, .int .u8 19, .int .u8 9, .int .u8 13, .int .u8 8, .int .u8 7, .int .u8 6] (put 13 #[.int .u64 1, .int .u64 10, .int .u64 100, .int .u64 1000, .int .u64 10000, .int .u64 100000, .int .u64 1000000, .int .u64 10000000, .int .u64 100000000, .int .u64 1000000000, .int .u64 10000000000, .int .u64 100000000000, .int .u64 1000000000000, .int .u64 10000000000000, .int .u64 100000000000000, .int .u64 1000000000000000, .int .u64 10000000000000000, .int .u64 100000000000000000, .int .u64 1000000000000000000, .int .u64 10000000000000000000] (put 0 #[.iface 52 (.pointer (some ⟨lexDeepLow P + 0, 0, none⟩))] (put 1 #[.iface 52 (.pointer (some ⟨lexDeepLow P + 1, 0, none⟩))] (put 11 #[.iface 52 (.pointer (some ⟨lexDeepLow P + 2, 0, none⟩))] (put 10 #[.iface 52 (.pointer (some ⟨lexDeepLow P + 3, 0, none⟩))] (put 9 #[.string ⟨#[97, 110, 100]⟩, .string ⟨#[98, 114, 101, 97, 107]⟩, .string ⟨#[99, 111, 110, 116, 105, 110, 117, 101]⟩, .string ⟨#[100, 101, 102]⟩, .string ⟨#[100, 101, 108]⟩, .string ⟨#[101, 108, 105, 102]⟩, .string ⟨#[101, 108, 115, 101]⟩, .string ⟨#[101, 120, 99, 101, 112, 116]⟩, .string ⟨#[70, 97, 108, 115, 101]⟩, .string ⟨#[102, 111, 114]⟩, .string ⟨#[103, 108, 111, 98, 97, 108]⟩, .string ⟨#[105, 102]⟩, .string ⟨#[105, 110]⟩, .string ⟨#[105, 115]⟩, .string ⟨#[108, 97, 109, 98, 100, 97]⟩, .string ⟨#[78, 111, 110, 101]⟩, .string ⟨#[110, 111, 110, 108, 111, 99, 97, 108]⟩, .string ⟨#[110, 111, 116]⟩, .string ⟨#[111, 114]⟩, .string ⟨#[112, 97, 115, 115]⟩, .string ⟨#[114, 97, 105, 115, 101]⟩, .string ⟨#[114, 101, 116, 117, 114, 110]⟩, .string ⟨#[84, 114, 117, 101]⟩, .string ⟨#[116, 114, 121]⟩, .string ⟨#[119, 104, 105, 108, 101]⟩] (put 8 #[.string ⟨#[61, 61]⟩, .string ⟨#[33, 61]⟩, .string ⟨#[60, 61]⟩, .string ⟨#[62, 61]⟩, .string ⟨#[47, 47]⟩, .string ⟨#[60]⟩, .string ⟨#[62]⟩, .string ⟨#[61]⟩, .string ⟨#[43]⟩, .string ⟨#[45]⟩, .string ⟨#[42]⟩, .string ⟨#[37]⟩, .string ⟨#[40]⟩, .string ⟨#[41]⟩, .string ⟨#[91]⟩, .string ⟨#[93]⟩, .string ⟨#[123]⟩, .string ⟨#[125]⟩, .string ⟨#[44]⟩, .string ⟨#[58]⟩, .string ⟨#[46]⟩] w0.heap))))))))) }
theorem lexDeep_met (os : Os) : laidMetH Tryd.prog Rows.lexDeepRow.laid ((lexDeepWorld Tryd.prog os).forCall (fun _ _ => 0) ⟨#[], #[.slice none 0 0, .int .i64 0], []⟩).memory :=
  laidMetH_of_parts (laidMet_of_run' 8 (by kernel_rfl) (by kernel_rfl)) (by kernel_rfl)
theorem lexDeep_reads (os : Os) {H : Type} (enc : TypeId × Value → H) : ∃ places, DataW.whole enc Tryd.prog ((lexDeepWorld Tryd.prog os).forCall (fun _ _ => 0) ⟨#[], #[.slice none 0 0, .int .i64 0], []⟩).memory Tryd.f7.params.toList Rows.lexDeepSpec.vars false (#[.slice none 0 0, .int .i64 0] : Array Value).toList 8 = some ([.nil, .lit (.int .i64 0)], [], places) :=
  ⟨[], by kernel_rfl⟩

set_option maxRecDepth 100000 in
theorem lexDeep_lifted (os : Os) (started : os.Started) (H : Type) (enc : TypeId × Value → H) (F : Stop.Interp) :
    ReturnsInHanded {} Tryd.checked os 7 .any ((OpenSpec.ofChange Rows.lexDeepSpec).preRow enc Tryd.prog Tryd.f7 Rows.lexDeepRow.domain false Rows.lexDeepRow.laid) (((OpenSpec.ofChange Rows.lexDeepSpec).at F).post enc Tryd.prog Tryd.f7 false true false false) := by
  obtain ⟨places, hx⟩ := lexDeep_reads os enc
  refine returnsInHanded_of_row (C := Tryd.checked) (s := OpenSpec.ofChange Rows.lexDeepSpec) own started (by kernel_rfl) Tryd.func7
    (witness_row_at (enc := enc) (C := Tryd.checked) false (lexDeepWorld Tryd.prog os) #[.slice none 0 0, .int .i64 0] rfl (by kernel_rfl) (by kernel_rfl) (by kernel_rfl)
      (OpenSpec.preRow_of_cond 8 hx (by kernel_rfl) (fun k hk => by cases hk) (by kernel_rfl) (lexDeep_met os))) ?_
  intro W base args ds gs before hval hW _ _ _ hL _ _
  exact lexDeep_contract H enc W base args ds gs before hval hW hL

theorem lexDeep_said : Rows.LexDeepSaid :=
  OpenClaim.holds_of_cond 7 Tryd.f7 rfl rfl rfl rfl rfl rfl rfl ⟨rfl, rfl, rfl, rfl, rfl⟩ rfl rfl rfl rfl rfl (by kernel_rfl) Tryd.func7 (by kernel_rfl)
    (of_decide_eq_true (by kernel_rfl)) (by unfold Func.isWrapper; rw [if_neg (of_decide_eq_false (by kernel_rfl))]; exact ⟨rfl, rfl⟩)
    (fun os started H enc _ F => by rw [OpenClaim.pre_eq_preRow]; exact lexDeep_lifted os started H enc F)

theorem lexDeep_plain (f : FuncId) (fn : Func) (hf : Tryd.pinned.checked.prog.funcNamed "nurserypy/nurserypylaw1.LexDeep" = some f) (hfn : Tryd.pinned.checked.prog.funcs[f]? = some fn) :
    true = Tryd.pinned.checked.prog.looks [] ∧ ∀ (j : Nat) t, fn.params[j]? = some t → Tryd.pinned.checked.prog.wantsStandIn t = false := by
  obtain rfl : f = 7 := Option.some.inj ((show Tryd.prog.funcNamed "nurserypy/nurserypylaw1.LexDeep" = some 7 by kernel_rfl).symm.trans hf) |>.symm
  obtain rfl : fn = Tryd.f7 := (Option.some.inj (Tryd.func7.symm.trans hfn)).symm
  refine ⟨by kernel_rfl, fun j t ht => ?_⟩
  rw [Tryd.params7] at ht
  have hm := Array.mem_of_getElem? ht
  simp only [List.mem_toArray, List.mem_cons, List.not_mem_nil, or_false] at hm
  rcases hm with rfl | rfl
  · exact (show Tryd.prog.wantsStandIn 22 = false by kernel_rfl)
  · exact (show Tryd.prog.wantsStandIn 3 = false by kernel_rfl)

theorem lexDeep_card : Rows.LexDeepCardSaid :=
  Claim7.holds_tied_plain_at .later [] _ _ _ _ lexDeep_said (fun _ h => by cases h) (by kernel_rfl) (fun _ h => by cases h) lexDeep_row_tie rfl ⟨rfl, rfl⟩ (by kernel_rfl) rfl lexDeep_plain (by kernel_rfl)
#print axioms lexDeep_card
end Go.Proofs.YtngiehnokhcifaaDoor
