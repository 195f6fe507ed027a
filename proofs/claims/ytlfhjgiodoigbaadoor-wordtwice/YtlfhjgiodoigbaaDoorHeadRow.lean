/- A header that is handed in: its four ints, opened and shut. -/
import Derived.Test.YtlfhjgiodoigbaaDoorErrCode
import Derived.Lib.SmallJoins
import Derived.ChangeShapes
namespace Go.Proofs.YtlfhjgiodoigbaaDoor
open Go.RowKit Go.ChangeShapes Go.WideShapes Go.Joins

theorem cellsHead : Tryd.prog.cellsOf 43 = 4 := by kernel_rfl
theorem cellsInt3 : Tryd.prog.cellsOf 3 = 1 := by kernel_rfl
set_option maxRecDepth 100000 in
theorem open_head {H : Type} {enc : TypeId × Value → H} {W : World} {r : Reach} {b0 base : Nat} {sp : Nat → Bool} {held : Bool} {v : Value} {d : DataW H} {ps : List MemPlace} (hval : Value.okWide Tryd.prog W r b0 43 v) (h : DataW.Trod enc Tryd.prog W base sp held 43 v d ps) :
    ∃ k g m s : Int, v = .agg #[.int .i64 k, .int .i64 g, .int .i64 m, .int .i64 s] ∧ d = .agg [.lit (.int .i64 k), .lit (.int .i64 g), .lit (.int .i64 m), .lit (.int .i64 s)] ∧ ps = [] ∧ (Lit.int .i64 k).wf = true ∧ (Lit.int .i64 g).wf = true ∧ (Lit.int .i64 m).wf = true ∧ (Lit.int .i64 s).wf = true := by
  obtain ⟨cs, rfl, hsz⟩ := okWide_struct Tryd.underlying43 hval
  rw [cellsHead] at hsz
  obtain ⟨c0, c1, c2, c3, rfl⟩ := array4 hsz
  obtain ⟨fuel, hf⟩ := h
  obtain ⟨y0, y1, y2, y3, n, hx, _, g0, g1, g2, g3⟩ := trod_struct4 Tryd.underlying43 hf
  simp [cellsInt3, Value.cells] at g0 g1 g2 g3
  obtain ⟨k, q0, r0, w0⟩ := DataW.trod_int Tryd.underlying3 g0
  obtain ⟨g, q1, r1, w1⟩ := DataW.trod_int Tryd.underlying3 g1
  obtain ⟨m, q2, r2, w2⟩ := DataW.trod_int Tryd.underlying3 g2
  obtain ⟨s, q3, r3, w3⟩ := DataW.trod_int Tryd.underlying3 g3
  simp only [List.cons.injEq, and_true] at q0 q1 q2 q3
  subst q0 q1 q2 q3 r0 r1 r2 r3
  simp only [Prod.mk.injEq] at hx
  exact ⟨k, g, m, s, rfl, hx.1, by simpa using hx.2, w0, w1, w2, w3⟩
set_option maxRecDepth 100000 in
theorem shut_head {H : Type} {enc : TypeId × Value → H} {W : World} {base : Nat} {sp : Nat → Bool} {held : Bool} {k g m s : Int} (hk : (Lit.int .i64 k).wf = true) (hg : (Lit.int .i64 g).wf = true) (hm : (Lit.int .i64 m).wf = true) (hs : (Lit.int .i64 s).wf = true) :
    DataW.Trod enc Tryd.prog W base sp held 43 (.agg #[.int .i64 k, .int .i64 g, .int .i64 m, .int .i64 s]) (.agg [.lit (.int .i64 k), .lit (.int .i64 g), .lit (.int .i64 m), .lit (.int .i64 s)]) [] := by
  refine ⟨2, ?_⟩
  have h := trod_struct4_mk (enc := enc) (w := W) (base := base) (spare := sp) (held := held) (n := 1) (cs := [.int .i64 k, .int .i64 g, .int .i64 m, .int .i64 s]) (y0 := (.lit (.int .i64 k), [])) (y1 := (.lit (.int .i64 g), [])) (y2 := (.lit (.int .i64 m), [])) (y3 := (.lit (.int .i64 s), [])) Tryd.underlying43 (by rw [cellsHead]; rfl)
    (by simp only [cellsInt3]; exact trod_int_mk 0 Tryd.underlying3 hk) (by simp only [cellsInt3]; exact trod_int_mk 0 Tryd.underlying3 hg) (by simp only [cellsInt3]; exact trod_int_mk 0 Tryd.underlying3 hm) (by simp only [cellsInt3]; exact trod_int_mk 0 Tryd.underlying3 hs)
  simpa [Value.cells] using h
end Go.Proofs.YtlfhjgiodoigbaaDoor
