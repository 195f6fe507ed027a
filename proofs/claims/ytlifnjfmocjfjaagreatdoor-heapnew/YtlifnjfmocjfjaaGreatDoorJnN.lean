/- What a row's list of variables gives a walk: the seven errors of package api, apart from each other, and the handle of the type error. -/
import Derived.Test.YtlifnjfmocjfjaaGreatDoorRows
import Derived.Test.YtlifnjfmocjfjaaGreatDoorErrCode
import Derived.Stop.LaidTwo
import Derived.LaidHandle
import Derived.Test.YtlifnjfmocjfjaaGreatDoorWordA
import Derived.Test.YtlifnjfmocjfjaaGreatDoorHpO
import Derived.Test.YtlifnjfmocjfjaaGreatDoorJnM
namespace Go.Proofs.YtlifnjfmocjfjaaGreatDoor
open Go.RowKit

theorem laidVars_sub {P : Program} {w : World} {l l' : List (String × DataW Unit)} (h : l'.Sublist l) : ∀ ps, DataW.LaidVars P w l ps → ∃ qs, DataW.LaidVars P w l' qs ∧ qs.Sublist ps := by
  induction h with
  | slnil => intro ps hp; exact ⟨ps, hp, List.Sublist.refl _⟩
  | cons x _ ih =>
    intro ps hp
    obtain ⟨n, d⟩ := x
    obtain ⟨g, t, cs, fuel, p, q, _, _, _, _, hq, rfl⟩ := hp
    obtain ⟨qs, h1, h2⟩ := ih q hq
    exact ⟨qs, h1, h2.trans (List.sublist_append_right _ _)⟩
  | cons_cons x _ ih =>
    intro ps hp
    obtain ⟨n, d⟩ := x
    obtain ⟨g, t, cs, fuel, p, q, e1, e2, e3, e4, hq, rfl⟩ := hp
    obtain ⟨qs, h1, h2⟩ := ih q hq
    exact ⟨_, ⟨g, t, cs, fuel, p, qs, e1, e2, e3, e4, h1, rfl⟩, (List.Sublist.refl _).append h2⟩

theorem laidMet_sub {P : Program} {w : World} {l l' : List (String × DataW Unit)} (h : l'.Sublist l) (hl : laidMet P l w) : laidMet P l' w := by
  obtain ⟨ps, h1, h2, h3⟩ := hl
  obtain ⟨qs, k1, k2⟩ := laidVars_sub h ps h1
  exact ⟨qs, k1, h2.sublist k2, fun b off hm => h3 b off (k2.subset hm)⟩

theorem star : "*" ++ "errors.errorString" = "*errors.errorString" := by decide
theorem rowSp (u : TypeId) (h : Tryz.prog.typeName? 3 u = some "*errors.errorString") : u = 288 :=
  typeName_ptr_named (nm := "errors.errorString") (by rw [star]; kernel_rfl) (by kernel_rfl) (by decide) u (by rw [star]; exact h)
theorem cellsS : Tryz.prog.cellsOf 307 = 1 := by kernel_rfl
theorem cellsStr : Tryz.prog.cellsOf 9 = 1 := by kernel_rfl

def sentName : Nat → String
  | 0 => "nurserypy/api.ErrText"
  | 1 => "nurserypy/api.ErrBound"
  | 2 => "nurserypy/api.ErrShape"
  | 3 => "nurserypy/api.ErrName"
  | 4 => "nurserypy/api.ErrPlace"
  | 5 => "nurserypy/api.ErrFull"
  | _ => "nurserypy/api.ErrNone"
def sentGlobal : Nat → Nat
  | 0 => 1
  | 1 => 0
  | 2 => 2
  | 3 => 3
  | 4 => 4
  | 5 => 5
  | _ => 6
def sentTail : Nat → List UInt8
  | 0 => [116, 101, 120, 116]
  | 1 => [98, 111, 117, 110, 100]
  | 2 => [115, 104, 97, 112, 101]
  | 3 => [110, 97, 109, 101]
  | 4 => [112, 108, 97, 99, 101]
  | 5 => [102, 117, 108, 108]
  | _ => [110, 111, 110, 101]
def sentText (i : Nat) : ByteArray := ⟨([110, 117, 114, 115, 101, 114, 121, 112, 121, 58, 32] ++ sentTail i).toArray⟩
def sentLaid (i : Nat) : String × DataW Unit := (sentName i, .iface "*errors.errorString" (.ptr (.agg [.lit (.string ([110, 117, 114, 115, 101, 114, 121, 112, 121, 58, 32] ++ sentTail i))])))

theorem sent_named (i : Nat) (hi : i < 7) : Tryz.prog.globalNamed (sentName i) = some (sentGlobal i) := by
  iterate 7 (rcases i with _ | i; · kernel_rfl)
  omega
theorem sent_type (i : Nat) (hi : i < 7) : (Tryz.prog.globals[sentGlobal i]?).map (·.type) = some 25 := by
  iterate 7 (rcases i with _ | i; · kernel_rfl)
  omega

/-- One of the seven, out of the list. -/
theorem sent_one {W : World} (i : Nat) (hi : i < 7) (h : laidMet Tryz.prog [sentLaid i] W) : ∃ a : Addr, W.var? Tryz.prog (sentName i) = some #[.iface 288 (.pointer (some a))] ∧ W.cell? a = some (.string (sentText i)) := by
  obtain ⟨a, s, h1, h2, h3, _⟩ := laid_sentinel h (sent_named i hi) (sent_type i hi) Tryz.underlying25 rowSp Tryz.underlying288 Tryz.underlying307 rfl rfl Tryz.underlying9 cellsS cellsStr
  refine ⟨a, h1, ?_⟩
  rw [h2]
  congr 2
  apply ByteArray.ext
  show s.data = _
  rw [← Array.toList_inj, h3]
  simp [sentText]

/-- Two of the seven, out of the list: they are apart, and each lies in a block of its own. -/
theorem sent_two {W : World} (i j : Nat) (hi : i < 7) (hj : j < 7) (h : laidMet Tryz.prog [sentLaid i, sentLaid j] W) (a b : Addr) (ha : W.var? Tryz.prog (sentName i) = some #[.iface 288 (.pointer (some a))]) (hb : W.var? Tryz.prog (sentName j) = some #[.iface 288 (.pointer (some b))]) :
    a ≠ b ∧ (∃ c t, W.heap[a.block]? = some (.cells c t (0, 0))) ∧ ∃ c t, W.heap[b.block]? = some (.cells c t (0, 0)) := by
  obtain ⟨a0, a1, s0, s1, c0, c1, t0, t1, hv0, hv1, hc0, hs0, hz0, hc1, hs1, hz1, hne, hb0, hb1⟩ := laid_sentinels2 h (sent_named i hi) (sent_type i hi) (sent_named j hj) (sent_type j hj) Tryz.underlying25 rowSp Tryz.underlying288 Tryz.underlying307 rfl rfl Tryz.underlying9 cellsS cellsStr
  rw [ha] at hv0
  rw [hb] at hv1
  simp at hv0 hv1
  subst hv0 hv1
  exact ⟨hne, ⟨c0, t0, hb0⟩, ⟨c1, t1, hb1⟩⟩

theorem sent_cell {W : World} (i : Nat) (hi : i < 7) (a : Addr) (ha : W.var? Tryz.prog (sentName i) = some #[.iface 288 (.pointer (some a))]) : W.cell? ⟨sentGlobal i, 0, none⟩ = some (.iface 288 (.pointer (some a))) := by
  simpa using World.var?_cell (sent_named i hi) ha 0

theorem gHandle : Tryz.prog.globalNamed "errors.errorType" = some 7 := by kernel_rfl
theorem rtRow : (Tryz.prog.cutTypes.find? (·.1 == "internal/reflectlite.rtype")).map (·.2) = some 177 := by kernel_rfl
theorem errRow : ((List.range 319).filter fun t => Tryz.prog.rowNamed t [101, 114, 114, 111, 114]) = [25] := by kernel_rfl
theorem nTypes : Tryz.prog.types.size = 319 := by kernel_rfl
/-- The handle, out of the list. -/
theorem handle_cell {W : World} (h : handlesMet Tryz.prog [("errors.errorType", Rows.laid_errors_errorType)] W) : W.cell? ⟨7, 0, none⟩ = some (.iface 177 (.agg #[.pointer (some ⟨14, 25, none⟩)])) := by
  obtain ⟨name, u, ty, e1, e2, e3, e4, e5⟩ := h _ (List.mem_singleton.2 rfl)
  have en : name = [101, 114, 114, 111, 114] := (Option.some.inj e1).symm
  subst en
  obtain rfl := Option.some.inj (rtRow.symm.trans e2)
  have hm : ty ∈ (List.range 319).filter fun t => Tryz.prog.rowNamed t [101, 114, 114, 111, 114] := List.mem_filter.2 ⟨List.mem_range.2 (by rw [← nTypes]; exact e3), e4⟩
  rw [errRow] at hm
  obtain rfl := List.mem_singleton.1 hm
  have hh : typeHandle Tryz.prog 25 = .pointer (some ⟨14, 25, none⟩) := by kernel_rfl
  rw [hh] at e5
  simpa using World.var?_cell gHandle e5 0

def pickA (a0 a1 a2 a3 a4 a5 a6 : Addr) : Nat → Addr
  | 0 => a0
  | 1 => a1
  | 2 => a2
  | 3 => a3
  | 4 => a4
  | 5 => a5
  | _ => a6

/-- All seven and the handle, out of a list that holds them in any order. -/
theorem errs_of {W : World} {l : List (String × DataW Unit)} (hl : laidMet Tryz.prog l W) (hh : handlesMet Tryz.prog [("errors.errorType", Rows.laid_errors_errorType)] W)
    (hsub : ∀ i j, i < 7 → j < 7 → i ≠ j → [sentLaid i, sentLaid j].Sublist l ∨ [sentLaid j, sentLaid i].Sublist l) :
    ∃ a : Nat → Addr, Errs a W ∧ ∀ i, i < 7 → W.cell? (a i) = some (.string (sentText i)) := by
  have one : ∀ i, i < 7 → ∃ a : Addr, W.var? Tryz.prog (sentName i) = some #[.iface 288 (.pointer (some a))] ∧ W.cell? a = some (.string (sentText i)) := fun i hi => by
    refine sent_one i hi ?_
    obtain ⟨j, hj, hne⟩ : ∃ j, j < 7 ∧ i ≠ j := by
      by_cases h : i = 0
      · exact ⟨1, by omega, by omega⟩
      · exact ⟨0, by omega, by omega⟩
    rcases hsub i j hi hj hne with h | h
    · exact laidMet_sub ((List.Sublist.cons_cons _ (List.nil_sublist _)).trans h) hl
    · exact laidMet_sub ((List.Sublist.cons _ (List.Sublist.refl _)).trans h) hl
  obtain ⟨a0, v0, x0⟩ := one 0 (by decide)
  obtain ⟨a1, v1, x1⟩ := one 1 (by decide)
  obtain ⟨a2, v2, x2⟩ := one 2 (by decide)
  obtain ⟨a3, v3, x3⟩ := one 3 (by decide)
  obtain ⟨a4, v4, x4⟩ := one 4 (by decide)
  obtain ⟨a5, v5, x5⟩ := one 5 (by decide)
  obtain ⟨a6, v6, x6⟩ := one 6 (by decide)
  have hf : ∀ i, i < 7 → W.var? Tryz.prog (sentName i) = some #[.iface 288 (.pointer (some (pickA a0 a1 a2 a3 a4 a5 a6 i)))] ∧ W.cell? (pickA a0 a1 a2 a3 a4 a5 a6 i) = some (.string (sentText i)) := fun i hi => by
    rcases i with _ | i; · exact ⟨v0, x0⟩
    rcases i with _ | i; · exact ⟨v1, x1⟩
    rcases i with _ | i; · exact ⟨v2, x2⟩
    rcases i with _ | i; · exact ⟨v3, x3⟩
    rcases i with _ | i; · exact ⟨v4, x4⟩
    rcases i with _ | i; · exact ⟨v5, x5⟩
    rcases i with _ | i; · exact ⟨v6, x6⟩
    omega
  generalize pickA a0 a1 a2 a3 a4 a5 a6 = a at hf
  have two : ∀ i j, i < 7 → j < 7 → i ≠ j → a i ≠ a j ∧ (∃ c t, W.heap[(a i).block]? = some (.cells c t (0, 0))) := fun i j hi hj hne => by
    rcases hsub i j hi hj hne with h | h
    · obtain ⟨h1, h2, _⟩ := sent_two i j hi hj (laidMet_sub h hl) (a i) (a j) (hf i hi).1 (hf j hj).1
      exact ⟨h1, h2⟩
    · obtain ⟨h1, _, h2⟩ := sent_two j i hj hi (laidMet_sub h hl) (a j) (a i) (hf j hj).1 (hf i hi).1
      exact ⟨h1.symm, h2⟩
  refine ⟨a, ⟨handle_cell hh, ?_, ?_, ?_, ?_, ?_, ?_, ?_, fun i hi => ?_, fun i j hi hj hne => (two i j hi hj hne).1⟩, fun i hi => (hf i hi).2⟩
  · exact sent_cell 0 (by decide) (a 0) (hf 0 (by decide)).1
  · exact sent_cell 1 (by decide) (a 1) (hf 1 (by decide)).1
  · exact sent_cell 2 (by decide) (a 2) (hf 2 (by decide)).1
  · exact sent_cell 3 (by decide) (a 3) (hf 3 (by decide)).1
  · exact sent_cell 4 (by decide) (a 4) (hf 4 (by decide)).1
  · exact sent_cell 5 (by decide) (a 5) (hf 5 (by decide)).1
  · exact sent_cell 6 (by decide) (a 6) (hf 6 (by decide)).1
  · obtain ⟨j, hj, hne⟩ : ∃ j, j < 7 ∧ i ≠ j := by
      by_cases h : i = 0
      · exact ⟨1, by omega, by omega⟩
      · exact ⟨0, by omega, by omega⟩
    exact (two i j hi hj hne).2
end Go.Proofs.YtlifnjfmocjfjaaGreatDoor

/- What the rows of the Word laws lay: the seven errors of package api, apart from each other, and the handle of the type error. -/
namespace Go.Proofs.YtlifnjfmocjfjaaGreatDoor
open Go.RowKit

theorem word_errs {W : World} (h' : laidMet Tryz.prog [sentLaid 0, sentLaid 1, sentLaid 2, sentLaid 3, sentLaid 4, sentLaid 5, sentLaid 6] W ∧ handlesMet Tryz.prog [("errors.errorType", Rows.laid_errors_errorType)] W) : ∃ a : Nat → Addr, Errs a W := by
  suffices h : ∃ a : Nat → Addr, Errs a W ∧ ∀ i, i < 7 → W.cell? (a i) = some (.string (sentText i)) by
    obtain ⟨a, E, _⟩ := h
    exact ⟨a, E⟩
  refine errs_of h'.1 h'.2 (fun i j hi hj hne => ?_)
  have key : ∀ i j : Nat, i < j → j < 7 → [sentLaid i, sentLaid j].Sublist [sentLaid 0, sentLaid 1, sentLaid 2, sentLaid 3, sentLaid 4, sentLaid 5, sentLaid 6] := fun i j h1 h2 => by
    have e : ([i, j].Sublist [0, 1, 2, 3, 4, 5, 6]) := by
      have hj : j ∈ [1, 2, 3, 4, 5, 6] := by simp; omega
      have hi : i ∈ [0, 1, 2, 3, 4, 5] := by simp; omega
      simp at hi hj
      rcases hi with rfl | rfl | rfl | rfl | rfl | rfl <;> rcases hj with rfl | rfl | rfl | rfl | rfl | rfl <;> first | omega | decide
    exact e.map sentLaid
  rcases Nat.lt_or_gt_of_ne hne with h | h
  · exact Or.inl (key i j h hj)
  · exact Or.inr (key j i h hi)

theorem word_two {W : World} (h : laidMet Tryz.prog [sentLaid 1, sentLaid 2] W) : ∃ a : Nat → Addr, WErr a W := by
  obtain ⟨a1, v1, _⟩ := sent_one 1 (by decide) (laidMet_sub (List.Sublist.cons_cons _ (List.nil_sublist _)) h)
  obtain ⟨a2, v2, _⟩ := sent_one 2 (by decide) (laidMet_sub (List.Sublist.cons _ (List.Sublist.refl _)) h)
  exact ⟨fun i => if i = 1 then a1 else a2, sent_cell 1 (by decide) a1 v1, sent_cell 2 (by decide) a2 v2⟩

theorem bounds_i64 {n : Int} (h : (Lit.int .i64 n).wf = true) : -9223372036854775808 ≤ n ∧ n < 9223372036854775808 := by
  simp only [Lit.wf, Bool.and_eq_true, decide_eq_true_eq] at h
  have e1 : IntKind.i64.min = -9223372036854775808 := by decide
  have e2 : IntKind.i64.max = 9223372036854775807 := by decide
  omega
theorem bounds_u64 {n : Int} (h : (Lit.int .u64 n).wf = true) : 0 ≤ n ∧ n < 18446744073709551616 := by
  simp only [Lit.wf, Bool.and_eq_true, decide_eq_true_eq] at h
  have e1 : IntKind.u64.min = 0 := by decide
  have e2 : IntKind.u64.max = 18446744073709551615 := by decide
  omega
end Go.Proofs.YtlifnjfmocjfjaaGreatDoor

/- The law HeapNew: any five ints; what its row lays. -/
namespace Go.Proofs.YtlifnjfmocjfjaaGreatDoor
open Go.RowKit

theorem heapNew_any (a : Nat → Addr) (half old card tn rs : Int) (w : World) (E : HEnv a w) :
    Calls Tryz.prog 3 #[.int .i64 half, .int .i64 old, .int .i64 card, .int .i64 tn, .int .i64 rs] w fun ev w' => ev = .returned (.bool true) ∧ Below w.heap.size w w' := by
  have kh := hold_any a w E
  by_cases h : (3000 < half ∧ half ≤ 65536) ∨ ((half ≤ 3000 ∨ 65536 < half) ∧ 3000 < old ∧ old ≤ 65536) ∨ ((half ≤ 3000 ∨ 65536 < half) ∧ (old ≤ 3000 ∨ 65536 < old) ∧ 300 < rs ∧ rs ≤ 5000)
  · exact heapNew_skip half old card tn rs h w kh
  · by_cases H : heapOK half old card tn rs
    · obtain ⟨⟨a1, a2, a3, a4, a5, a6⟩, t0, t1, r0, r1⟩ := H
      obtain ⟨n, rfl⟩ : ∃ n : Nat, rs = (n : Int) := ⟨rs.toNat, by omega⟩
      exact heapNew_good a half old card tn n a1 (by omega) a3 (by omega) a5 a6 t0 t1 (by omega) w E kh
    · exact heapNew_bad a half old card tn rs H (by omega) w E kh
def db64 : List Int := [0, 1, 56, 2, 57, 49, 28, 3, 61, 58, 42, 50, 38, 29, 17, 4, 62, 47, 59, 36, 45, 43, 51, 22, 53, 39, 33, 30, 24, 18, 12, 5, 63, 55, 48, 27, 60, 41, 37, 16, 46, 35, 44, 21, 52, 32, 23, 11, 54, 26, 40, 15, 34, 20, 31, 10, 25, 14, 19, 9, 13, 8, 7, 6]
theorem tab_pow {W : World} {x y : String × DataW Unit} {r : List (String × DataW Unit)} (h : laidMet Tryz.prog (x :: y :: ("internal/strconv.uint64pow10", Lib.tabData .u64 Lib.pow10Tab) :: r) W) : TabbedM W :=
  Lib.tabIs_of_head (g := 9) (t := 226) (e := 45) (n := 20) (by kernel_rfl) (by kernel_rfl) Tryz.underlying226 Tryz.underlying45 (by kernel_rfl) (by kernel_rfl) (laidMet.tail (laidMet.tail h))
theorem tab_tz {W : World} {x : String × DataW Unit} {r : List (String × DataW Unit)} (h : laidMet Tryz.prog (x :: ("math/bits.deBruijn64tab", Lib.tabData .u8 db64) :: r) W) : Tz16 W := by
  have h1 : Lib.TabIs Tryz.prog W "math/bits.deBruijn64tab" .u8 db64 := Lib.tabIs_of_head (g := 13) (t := 262) (e := 5) (n := 64) (by kernel_rfl) (by kernel_rfl) Tryz.underlying262 Tryz.underlying5 (by kernel_rfl) (by kernel_rfl) (laidMet.tail h)
  exact h1.cell (g := 13) (by kernel_rfl) 15 (by decide)
theorem heap_env {W : World} {x z y : String × DataW Unit} (h : laidMet Tryz.prog (x :: ("math/bits.deBruijn64tab", Lib.tabData .u8 db64) :: ("internal/strconv.uint64pow10", Lib.tabData .u64 Lib.pow10Tab) :: z :: [sentLaid 0, sentLaid 1, sentLaid 2, sentLaid 3, sentLaid 4, sentLaid 5, sentLaid 6, y]) W) (h2 : handlesMet Tryz.prog [("errors.errorType", Rows.laid_errors_errorType)] W) : ∃ a, HEnv a W := by
  have hs : List.Sublist [sentLaid 0, sentLaid 1, sentLaid 2, sentLaid 3, sentLaid 4, sentLaid 5, sentLaid 6] [sentLaid 0, sentLaid 1, sentLaid 2, sentLaid 3, sentLaid 4, sentLaid 5, sentLaid 6, y] := List.sublist_append_left [sentLaid 0, sentLaid 1, sentLaid 2, sentLaid 3, sentLaid 4, sentLaid 5, sentLaid 6] [y]
  obtain ⟨a, E⟩ := word_errs ⟨laidMet_sub (((hs.cons _).cons _).cons _ |>.cons _) h, h2⟩
  exact ⟨a, E, tab_pow h, tab_tz h⟩
end Go.Proofs.YtlifnjfmocjfjaaGreatDoor
