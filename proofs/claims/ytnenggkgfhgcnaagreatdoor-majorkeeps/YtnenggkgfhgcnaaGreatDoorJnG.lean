/- What a row's list of variables gives a walk: the seven errors of package api, apart from each other, and the handle of the type error. -/
import Derived.Test.YtnenggkgfhgcnaaGreatDoorRows
import Derived.Test.YtnenggkgfhgcnaaGreatDoorJnQ
import Derived.Stop.LaidTwo
import Derived.LaidHandle
import Derived.Test.YtnenggkgfhgcnaaGreatDoorJoA
import Derived.Test.YtnenggkgfhgcnaaGreatDoorJoF
import Derived.Deep.Fields
import Derived.Deep.Strs
import Derived.ChangeSlices
import Derived.ChangeArms
namespace Go.Proofs.YtnenggkgfhgcnaaGreatDoor
open Go.RowKit

theorem laidVars_sub {P : Program} {w : World} {l l' : List (String × DataW Unit)} (h : l'.Sublist l) : ∀ ps, DataW.LaidVars P w l ps → ∃ qs, DataW.LaidVars P w l' qs ∧ qs.Sublist ps := by
  induction h with
  | slnil => intro ps hp; exact ⟨ps, hp, List.Sublist.refl _⟩
  | cons x _ ih =>
    intro ps hp
    obtain ⟨n, d⟩ := x
    obtain ⟨g, t, cs, fuel, p, q, _, _, _, _, hq, rfl⟩ := hp
    obtain ⟨qs, h1, h2⟩ := ih q hq
    exact ⟨qs, h1, h2.trans (List.sublist_append_right _ _)⟩
  | cons_cons x _ ih =>
    intro ps hp
    obtain ⟨n, d⟩ := x
    obtain ⟨g, t, cs, fuel, p, q, e1, e2, e3, e4, hq, rfl⟩ := hp
    obtain ⟨qs, h1, h2⟩ := ih q hq
    exact ⟨_, ⟨g, t, cs, fuel, p, qs, e1, e2, e3, e4, h1, rfl⟩, (List.Sublist.refl _).append h2⟩

theorem laidMet_sub {P : Program} {w : World} {l l' : List (String × DataW Unit)} (h : l'.Sublist l) (hl : laidMet P l w) : laidMet P l' w := by
  obtain ⟨ps, h1, h2, h3⟩ := hl
  obtain ⟨qs, k1, k2⟩ := laidVars_sub h ps h1
  exact ⟨qs, k1, h2.sublist k2, fun b off hm => h3 b off (k2.subset hm)⟩

theorem star : "*" ++ "errors.errorString" = "*errors.errorString" := by decide
theorem rowSp (u : TypeId) (h : Tryz.prog.typeName? 3 u = some "*errors.errorString") : u = 216 :=
  typeName_ptr_named (nm := "errors.errorString") (by rw [star]; kernel_rfl) (by kernel_rfl) (by decide) u (by rw [star]; exact h)
theorem cellsS : Tryz.prog.cellsOf 236 = 1 := by kernel_rfl
theorem cellsStr : Tryz.prog.cellsOf 9 = 1 := by kernel_rfl

def sentName : Nat → String
  | 0 => "nurserypy/api.ErrText"
  | 1 => "nurserypy/api.ErrBound"
  | 2 => "nurserypy/api.ErrShape"
  | 3 => "nurserypy/api.ErrName"
  | 4 => "nurserypy/api.ErrPlace"
  | 5 => "nurserypy/api.ErrFull"
  | _ => "nurserypy/api.ErrNone"
def sentGlobal : Nat → Nat
  | 0 => 3
  | 1 => 1
  | 2 => 2
  | 3 => 4
  | 4 => 5
  | 5 => 0
  | _ => 6
def sentTail : Nat → List UInt8
  | 0 => [116, 101, 120, 116]
  | 1 => [98, 111, 117, 110, 100]
  | 2 => [115, 104, 97, 112, 101]
  | 3 => [110, 97, 109, 101]
  | 4 => [112, 108, 97, 99, 101]
  | 5 => [102, 117, 108, 108]
  | _ => [110, 111, 110, 101]
def sentText (i : Nat) : ByteArray := ⟨([110, 117, 114, 115, 101, 114, 121, 112, 121, 58, 32] ++ sentTail i).toArray⟩
def sentLaid (i : Nat) : String × DataW Unit := (sentName i, .iface "*errors.errorString" (.ptr (.agg [.lit (.string ([110, 117, 114, 115, 101, 114, 121, 112, 121, 58, 32] ++ sentTail i))])))

theorem sent_named (i : Nat) (hi : i < 7) : Tryz.prog.globalNamed (sentName i) = some (sentGlobal i) := by
  iterate 7 (rcases i with _ | i; · kernel_rfl)
  omega
theorem sent_type (i : Nat) (hi : i < 7) : (Tryz.prog.globals[sentGlobal i]?).map (·.type) = some 34 := by
  iterate 7 (rcases i with _ | i; · kernel_rfl)
  omega

/-- One of the seven, out of the list. -/
theorem sent_one {W : World} (i : Nat) (hi : i < 7) (h : laidMet Tryz.prog [sentLaid i] W) : ∃ a : Addr, W.var? Tryz.prog (sentName i) = some #[.iface 216 (.pointer (some a))] ∧ W.cell? a = some (.string (sentText i)) := by
  obtain ⟨a, s, h1, h2, h3, _⟩ := laid_sentinel h (sent_named i hi) (sent_type i hi) Tryz.underlying34 rowSp Tryz.underlying216 Tryz.underlying236 rfl rfl Tryz.underlying9 cellsS cellsStr
  refine ⟨a, h1, ?_⟩
  rw [h2]
  congr 2
  apply ByteArray.ext
  show s.data = _
  rw [← Array.toList_inj, h3]
  simp [sentText]

/-- Two of the seven, out of the list: they are apart, and each lies in a block of its own. -/
theorem sent_two {W : World} (i j : Nat) (hi : i < 7) (hj : j < 7) (h : laidMet Tryz.prog [sentLaid i, sentLaid j] W) (a b : Addr) (ha : W.var? Tryz.prog (sentName i) = some #[.iface 216 (.pointer (some a))]) (hb : W.var? Tryz.prog (sentName j) = some #[.iface 216 (.pointer (some b))]) :
    a ≠ b ∧ (∃ c t, W.heap[a.block]? = some (.cells c t (0, 0))) ∧ ∃ c t, W.heap[b.block]? = some (.cells c t (0, 0)) := by
  obtain ⟨a0, a1, s0, s1, c0, c1, t0, t1, hv0, hv1, hc0, hs0, hz0, hc1, hs1, hz1, hne, hb0, hb1⟩ := laid_sentinels2 h (sent_named i hi) (sent_type i hi) (sent_named j hj) (sent_type j hj) Tryz.underlying34 rowSp Tryz.underlying216 Tryz.underlying236 rfl rfl Tryz.underlying9 cellsS cellsStr
  rw [ha] at hv0
  rw [hb] at hv1
  simp at hv0 hv1
  subst hv0 hv1
  exact ⟨hne, ⟨c0, t0, hb0⟩, ⟨c1, t1, hb1⟩⟩

theorem sent_cell {W : World} (i : Nat) (hi : i < 7) (a : Addr) (ha : W.var? Tryz.prog (sentName i) = some #[.iface 216 (.pointer (some a))]) : W.cell? ⟨sentGlobal i, 0, none⟩ = some (.iface 216 (.pointer (some a))) := by
  simpa using World.var?_cell (sent_named i hi) ha 0

theorem gHandle : Tryz.prog.globalNamed "errors.errorType" = some 7 := by kernel_rfl
theorem rtRow : (Tryz.prog.cutTypes.find? (·.1 == "internal/reflectlite.rtype")).map (·.2) = some 182 := by kernel_rfl
theorem errRow : ((List.range 248).filter fun t => Tryz.prog.rowNamed t [101, 114, 114, 111, 114]) = [34] := by kernel_rfl
theorem nTypes : Tryz.prog.types.size = 248 := by kernel_rfl
/-- The handle, out of the list. -/
theorem handle_cell {W : World} (h : handlesMet Tryz.prog [("errors.errorType", Rows.laid_errors_errorType)] W) : W.cell? ⟨7, 0, none⟩ = some (.iface 182 (.agg #[.pointer (some ⟨8, 34, none⟩)])) := by
  obtain ⟨name, u, ty, e1, e2, e3, e4, e5⟩ := h _ (List.mem_singleton.2 rfl)
  have en : name = [101, 114, 114, 111, 114] := (Option.some.inj e1).symm
  subst en
  obtain rfl := Option.some.inj (rtRow.symm.trans e2)
  have hm : ty ∈ (List.range 248).filter fun t => Tryz.prog.rowNamed t [101, 114, 114, 111, 114] := List.mem_filter.2 ⟨List.mem_range.2 (by rw [← nTypes]; exact e3), e4⟩
  rw [errRow] at hm
  obtain rfl := List.mem_singleton.1 hm
  have hh : typeHandle Tryz.prog 34 = .pointer (some ⟨8, 34, none⟩) := by kernel_rfl
  rw [hh] at e5
  simpa using World.var?_cell gHandle e5 0

def pickA (a0 a1 a2 a3 a4 a5 a6 : Addr) : Nat → Addr
  | 0 => a0
  | 1 => a1
  | 2 => a2
  | 3 => a3
  | 4 => a4
  | 5 => a5
  | _ => a6

/-- All seven and the handle, out of a list that holds them in any order. -/
theorem errs_of {W : World} {l : List (String × DataW Unit)} (hl : laidMet Tryz.prog l W) (hh : handlesMet Tryz.prog [("errors.errorType", Rows.laid_errors_errorType)] W)
    (hsub : ∀ i j, i < 7 → j < 7 → i ≠ j → [sentLaid i, sentLaid j].Sublist l ∨ [sentLaid j, sentLaid i].Sublist l) :
    ∃ a : Nat → Addr, Errs a W ∧ ∀ i, i < 7 → W.cell? (a i) = some (.string (sentText i)) := by
  have one : ∀ i, i < 7 → ∃ a : Addr, W.var? Tryz.prog (sentName i) = some #[.iface 216 (.pointer (some a))] ∧ W.cell? a = some (.string (sentText i)) := fun i hi => by
    refine sent_one i hi ?_
    obtain ⟨j, hj, hne⟩ : ∃ j, j < 7 ∧ i ≠ j := by
      by_cases h : i = 0
      · exact ⟨1, by omega, by omega⟩
      · exact ⟨0, by omega, by omega⟩
    rcases hsub i j hi hj hne with h | h
    · exact laidMet_sub ((List.Sublist.cons_cons _ (List.nil_sublist _)).trans h) hl
    · exact laidMet_sub ((List.Sublist.cons _ (List.Sublist.refl _)).trans h) hl
  obtain ⟨a0, v0, x0⟩ := one 0 (by decide)
  obtain ⟨a1, v1, x1⟩ := one 1 (by decide)
  obtain ⟨a2, v2, x2⟩ := one 2 (by decide)
  obtain ⟨a3, v3, x3⟩ := one 3 (by decide)
  obtain ⟨a4, v4, x4⟩ := one 4 (by decide)
  obtain ⟨a5, v5, x5⟩ := one 5 (by decide)
  obtain ⟨a6, v6, x6⟩ := one 6 (by decide)
  have hf : ∀ i, i < 7 → W.var? Tryz.prog (sentName i) = some #[.iface 216 (.pointer (some (pickA a0 a1 a2 a3 a4 a5 a6 i)))] ∧ W.cell? (pickA a0 a1 a2 a3 a4 a5 a6 i) = some (.string (sentText i)) := fun i hi => by
    rcases i with _ | i; · exact ⟨v0, x0⟩
    rcases i with _ | i; · exact ⟨v1, x1⟩
    rcases i with _ | i; · exact ⟨v2, x2⟩
    rcases i with _ | i; · exact ⟨v3, x3⟩
    rcases i with _ | i; · exact ⟨v4, x4⟩
    rcases i with _ | i; · exact ⟨v5, x5⟩
    rcases i with _ | i; · exact ⟨v6, x6⟩
    omega
  generalize pickA a0 a1 a2 a3 a4 a5 a6 = a at hf
  have two : ∀ i j, i < 7 → j < 7 → i ≠ j → a i ≠ a j ∧ (∃ c t, W.heap[(a i).block]? = some (.cells c t (0, 0))) := fun i j hi hj hne => by
    rcases hsub i j hi hj hne with h | h
    · obtain ⟨h1, h2, _⟩ := sent_two i j hi hj (laidMet_sub h hl) (a i) (a j) (hf i hi).1 (hf j hj).1
      exact ⟨h1, h2⟩
    · obtain ⟨h1, _, h2⟩ := sent_two j i hj hi (laidMet_sub h hl) (a j) (a i) (hf j hj).1 (hf i hi).1
      exact ⟨h1.symm, h2⟩
  refine ⟨a, ⟨handle_cell hh, ?_, ?_, ?_, ?_, ?_, ?_, ?_, fun i hi => ?_, fun i j hi hj hne => (two i j hi hj hne).1⟩, fun i hi => (hf i hi).2⟩
  · exact sent_cell 0 (by decide) (a 0) (hf 0 (by decide)).1
  · exact sent_cell 1 (by decide) (a 1) (hf 1 (by decide)).1
  · exact sent_cell 2 (by decide) (a 2) (hf 2 (by decide)).1
  · exact sent_cell 3 (by decide) (a 3) (hf 3 (by decide)).1
  · exact sent_cell 4 (by decide) (a 4) (hf 4 (by decide)).1
  · exact sent_cell 5 (by decide) (a 5) (hf 5 (by decide)).1
  · exact sent_cell 6 (by decide) (a 6) (hf 6 (by decide)).1
  · obtain ⟨j, hj, hne⟩ : ∃ j, j < 7 ∧ i ≠ j := by
      by_cases h : i = 0
      · exact ⟨1, by omega, by omega⟩
      · exact ⟨0, by omega, by omega⟩
    exact (two i j hi hj hne).2
end Go.Proofs.YtnenggkgfhgcnaaGreatDoor

/- What the rows of the Word laws lay: the seven errors of package api, apart from each other, and the handle of the type error. -/
namespace Go.Proofs.YtnenggkgfhgcnaaGreatDoor
open Go.RowKit

theorem word_errs {W : World} (h' : laidMet Tryz.prog [sentLaid 0, sentLaid 1, sentLaid 2, sentLaid 3, sentLaid 4, sentLaid 5, sentLaid 6] W ∧ handlesMet Tryz.prog [("errors.errorType", Rows.laid_errors_errorType)] W) : ∃ a : Nat → Addr, Errs a W := by
  suffices h : ∃ a : Nat → Addr, Errs a W ∧ ∀ i, i < 7 → W.cell? (a i) = some (.string (sentText i)) by
    obtain ⟨a, E, _⟩ := h
    exact ⟨a, E⟩
  refine errs_of h'.1 h'.2 (fun i j hi hj hne => ?_)
  have key : ∀ i j : Nat, i < j → j < 7 → [sentLaid i, sentLaid j].Sublist [sentLaid 0, sentLaid 1, sentLaid 2, sentLaid 3, sentLaid 4, sentLaid 5, sentLaid 6] := fun i j h1 h2 => by
    have e : ([i, j].Sublist [0, 1, 2, 3, 4, 5, 6]) := by
      have hj : j ∈ [1, 2, 3, 4, 5, 6] := by simp; omega
      have hi : i ∈ [0, 1, 2, 3, 4, 5] := by simp; omega
      simp at hi hj
      rcases hi with rfl | rfl | rfl | rfl | rfl | rfl <;> rcases hj with rfl | rfl | rfl | rfl | rfl | rfl <;> first | omega | decide
    exact e.map sentLaid
  rcases Nat.lt_or_gt_of_ne hne with h | h
  · exact Or.inl (key i j h hj)
  · exact Or.inr (key j i h hi)

theorem word_two {W : World} (h : laidMet Tryz.prog [sentLaid 1, sentLaid 2] W) : ∃ a : Nat → Addr, WErr a W := by
  obtain ⟨a1, v1, _⟩ := sent_one 1 (by decide) (laidMet_sub (List.Sublist.cons_cons _ (List.nil_sublist _)) h)
  obtain ⟨a2, v2, _⟩ := sent_one 2 (by decide) (laidMet_sub (List.Sublist.cons _ (List.Sublist.refl _)) h)
  exact ⟨fun i => if i = 1 then a1 else a2, sent_cell 1 (by decide) a1 v1, sent_cell 2 (by decide) a2 v2⟩

theorem bounds_i64 {n : Int} (h : (Lit.int .i64 n).wf = true) : -9223372036854775808 ≤ n ∧ n < 9223372036854775808 := by
  simp only [Lit.wf, Bool.and_eq_true, decide_eq_true_eq] at h
  have e1 : IntKind.i64.min = -9223372036854775808 := by decide
  have e2 : IntKind.i64.max = 9223372036854775807 := by decide
  omega
theorem bounds_u64 {n : Int} (h : (Lit.int .u64 n).wf = true) : 0 ≤ n ∧ n < 18446744073709551616 := by
  simp only [Lit.wf, Bool.and_eq_true, decide_eq_true_eq] at h
  have e1 : IntKind.u64.min = 0 := by decide
  have e2 : IntKind.u64.max = 18446744073709551615 := by decide
  omega
end Go.Proofs.YtnenggkgfhgcnaaGreatDoor

/- A memory that is handed in, read out of memory. -/
namespace Go.Proofs.YtnenggkgfhgcnaaGreatDoor
open Go.RowKit Go.ChangeShapes Go.WideShapes Go.Deep

theorem cellsU : Tryz.prog.cellsOf 50 = 1 := by kernel_rfl
theorem cellsB : Tryz.prog.cellsOf 4 = 1 := by kernel_rfl
theorem cellsN : Tryz.prog.cellsOf 3 = 1 := by kernel_rfl
theorem cellsRID : Tryz.prog.cellsOf 61 = 2 := by kernel_rfl
/-- No place is a map. -/
def NM (ps : List MemPlace) : Prop := ∀ p ∈ ps, ∀ bb, p ≠ .map bb
theorem nm_row (a : Addr) (n : Nat) : NM (MemPlace.row a n) := fun p hp bb e => by
  obtain ⟨j, _, rfl⟩ := MemPlace.mem_row.1 hp
  cases e
theorem wfU {n : Int} (h : (Lit.int .u64 n).wf = true) : 0 ≤ n ∧ n < 18446744073709551616 := by
  simp only [Lit.wf, Bool.and_eq_true, decide_eq_true_eq] at h
  have e1 : IntKind.u64.min = 0 := by decide
  have e2 : IntKind.u64.max = 18446744073709551615 := by decide
  omega
theorem wfI {n : Int} (h : (Lit.int .i64 n).wf = true) : -9223372036854775808 ≤ n ∧ n < 9223372036854775808 := by
  simp only [Lit.wf, Bool.and_eq_true, decide_eq_true_eq] at h
  have e1 : IntKind.i64.min = -9223372036854775808 := by decide
  have e2 : IntKind.i64.max = 9223372036854775807 := by decide
  omega
/-- A memory that is handed in: none, or one that stands there. -/
def MemIn (W : World) (x : Option Addr) : Prop := x = none ∨ ∃ b o m, x = some ⟨b, o, none⟩ ∧ RepM b o m W ∧ MD64 m
section
variable {H : Type} {enc : TypeId × Value → H} {W : World} {base : Nat} {sp : Nat → Bool} {held : Bool} {fuel : Nat}
theorem row_of {a : Addr} {len cap : Nat} {xs : List Value} (hl : len ≤ cap) (hx : 0 < len → 0 < xs.length) (hc : ∀ j u, xs[j]? = some u → W.cell? (a.add j) = some u) : RowV W (.slice (some a) len cap) len xs := by
  refine ⟨some a, cap, rfl, hl, fun hp => ?_⟩
  obtain ⟨xb, xo, spot⟩ := a
  have h0 := hc 0 xs[0] (by rw [List.getElem?_eq_getElem (hx hp)])
  have hspot : spot = none := by simpa [Addr.add] using World.cell?_spot h0
  subst hspot
  have hc' : ∀ j u, xs[j]? = some u → W.cell? ⟨xb, xo + j, none⟩ = some u := fun j u hj => by rw [← add_plain]; exact hc j u hj
  exact ⟨xb, xo, rfl, lt_of_cell (hc' 0 xs[0] (by rw [List.getElem?_eq_getElem (hx hp)])), hc'⟩
theorem open_words {cs : List Value} {y : DataW H × List MemPlace} (h : DataW.trod enc Tryz.prog W base sp held fuel 26 cs = some y) :
    ∃ v l, cs = [v] ∧ RowV W v l.length (wordsV l) ∧ U64 l ∧ NM y.2 := by
  rcases open_ints Tryz.underlying26 Tryz.underlying50 cellsU h with ⟨rfl, rfl⟩ | ⟨a, len, cap, zs, rfl, _, hl, _, hz, rfl, hc, hw⟩
  · exact ⟨_, [], rfl, ⟨none, 0, rfl, Nat.le_refl _, fun h => absurd h (by simp)⟩, (fun x hx => by cases hx), (fun p hp => by cases hp)⟩
  · have hlz : len ≤ zs.length := by rw [hz]; split <;> omega
    have e : (zs.take len).length = len := by simp; omega
    refine ⟨_, zs.take len, rfl, ?_, fun x hx => wfU (hw x (List.mem_of_mem_take hx)), nm_row _ _⟩
    rw [e]
    refine row_of hl (fun hp => by rw [lenV, e]; exact hp) (fun j u hj => ?_)
    have hjl : j < len := by
      have := (List.getElem?_eq_some_iff.1 hj).1
      rw [lenV, e] at this
      exact this
    have e2 : (zs.take len)[j]? = some (zs.getD j 0) := by
      rw [List.getElem?_take, if_pos hjl, List.getD_eq_getElem?_getD, List.getElem?_eq_getElem (by omega)]
      rfl
    rw [words_at e2] at hj
    cases hj
    exact hc j (by omega)
theorem open_bools {cs : List Value} {y : DataW H × List MemPlace} (h : DataW.trod enc Tryz.prog W base sp held fuel 28 cs = some y) :
    ∃ v l, cs = [v] ∧ RowV W v l.length (boolsV l) ∧ NM y.2 := by
  rcases open_slice Tryz.underlying28 h with ⟨rfl, rfl⟩ | ⟨a, len, cap, m, n, D, Pl, rfl, _, hl, _, hmm, rfl, hx⟩
  · exact ⟨_, [], rfl, ⟨none, 0, rfl, Nat.le_refl _, fun h => absurd h (by simp)⟩, fun p hp => by cases hp⟩
  have hlm : len ≤ m := by rw [hmm]; split <;> omega
  rw [cellsB] at hx
  have each : ∀ i, i < m → ∃ z : Bool, W.cell? (a.add i) = some (.bool z) ∧ Pl i = [] := by
    intro i hi
    obtain ⟨cs', h1, h2⟩ := hx i hi
    obtain ⟨_, hlen, hcell⟩ := World.cells?_some h1
    obtain ⟨z, rfl, hz⟩ := DataW.trod_bool Tryz.underlying4 h2
    have e0 := hcell 0 (by omega)
    rw [add_add] at e0
    simp only [Prod.mk.injEq] at hz
    exact ⟨z, by simpa using e0, hz.2⟩
  obtain ⟨f, hf⟩ := choose_lt each
  have e : ((List.range len).map f).length = len := by simp
  refine ⟨_, (List.range len).map f, rfl, ?_, fun p hp bb e => ?_⟩
  · rw [e]
    refine row_of hl (fun hp => by rw [lenB, e]; exact hp) (fun j u hj => ?_)
    have hjl : j < len := by
      have := (List.getElem?_eq_some_iff.1 hj).1
      rw [lenB, e] at this
      exact this
    have e2 : ((List.range len).map f)[j]? = some (f j) := by rw [List.getElem?_map, List.getElem?_range hjl]; rfl
    rw [bools_at e2] at hj
    cases hj
    exact (hf j (by omega)).1
  · rcases List.mem_append.1 hp with h1 | h1
    · exact nm_row _ _ p h1 bb e
    · obtain ⟨i, hi, h2⟩ := List.mem_flatMap.1 h1
      rw [(hf i (List.mem_range.1 hi)).2] at h2
      cases h2
set_option maxRecDepth 100000 in
theorem open_ids {cs : List Value} {y : DataW H × List MemPlace} (h : DataW.trod enc Tryz.prog W base sp held fuel 27 cs = some y) :
    ∃ v l, cs = [v] ∧ RowV W v l.length (idsV l) ∧ Ids64 l ∧ NM y.2 := by
  rcases open_slice Tryz.underlying27 h with ⟨rfl, rfl⟩ | ⟨a, len, cap, m, n, D, Pl, rfl, _, hl, _, hmm, rfl, hx⟩
  · exact ⟨_, [], rfl, ⟨none, 0, rfl, Nat.le_refl _, fun h => absurd h (by simp)⟩, (fun x hx => by cases hx), (fun p hp => by cases hp)⟩
  have hlm : len ≤ m := by rw [hmm]; split <;> omega
  rw [cellsRID] at hx
  have each : ∀ i, i < m → ∃ z : Int × Int, W.cell? (a.add (i * 2)) = some (.int .u64 z.1) ∧ W.cell? (a.add (i * 2 + 1)) = some (.int .i64 z.2) ∧ ((0 ≤ z.1 ∧ z.1 < 18446744073709551616) ∧ (-9223372036854775808 ≤ z.2 ∧ z.2 < 9223372036854775808)) ∧ Pl i = [] := by
    intro i hi
    obtain ⟨cs', h1, h2⟩ := hx i hi
    obtain ⟨_, hlen, hcell⟩ := World.cells?_some h1
    obtain ⟨y0, y1, k, hxy, _, g0, g1⟩ := trod_struct2 Tryz.underlying61 h2
    match cs', hlen with
    | [v0, v1], _ =>
      simp [cellsU, cellsN] at g0 g1
      obtain ⟨z0, q0, r0, w0⟩ := DataW.trod_int Tryz.underlying50 g0
      obtain ⟨z1, q1, r1, w1⟩ := DataW.trod_int Tryz.underlying3 g1
      simp only [List.cons.injEq, and_true] at q0 q1
      subst q0 q1
      have e0 := hcell 0 (by omega)
      have e1 := hcell 1 (by omega)
      rw [add_add] at e0 e1
      simp only [Prod.mk.injEq] at hxy
      refine ⟨(z0, z1), by simpa using e0, by simpa using e1, ⟨wfU w0, wfI w1⟩, ?_⟩
      rw [hxy.2, r0, r1]
      rfl
  obtain ⟨f, hf⟩ := choose_lt each
  have e : ((List.range len).map f).length = len := by simp
  refine ⟨_, (List.range len).map f, rfl, ?_, fun x hx => ?_, fun p hp bb e => ?_⟩
  · rw [e]
    refine row_of hl (fun hp => by rw [lenI, e]; omega) (fun j u hj => ?_)
    have hjl : j < len * 2 := by
      have := (List.getElem?_eq_some_iff.1 hj).1
      rw [lenI, e] at this
      exact this
    have hq : j / 2 < len := by omega
    have e2 : ((List.range len).map f)[j / 2]? = some (f (j / 2)) := by rw [List.getElem?_map, List.getElem?_range hq]; rfl
    have ha := ids_at e2
    have hc := hf (j / 2) (by omega)
    rcases Nat.mod_two_eq_zero_or_one j with h0 | h0
    · rw [show j = j / 2 * 2 by omega] at hj ⊢
      rw [ha.1] at hj
      cases hj
      exact hc.1
    · rw [show j = j / 2 * 2 + 1 by omega] at hj ⊢
      rw [ha.2] at hj
      cases hj
      exact hc.2.1
  · obtain ⟨i, hi, rfl⟩ := List.mem_map.1 hx
    exact (hf i (by have := List.mem_range.1 hi; omega)).2.2.1
  · rcases List.mem_append.1 hp with h1 | h1
    · exact nm_row _ _ p h1 bb e
    · obtain ⟨i, hi, h2⟩ := List.mem_flatMap.1 h1
      rw [(hf i (List.mem_range.1 hi)).2.2.2] at h2
      cases h2
set_option maxRecDepth 100000 in
theorem open_mem {cs : List Value} {y : DataW H × List MemPlace} (h : DataW.trod enc Tryz.prog W base sp held fuel 22 cs = some y) :
    (cs = [.pointer none] ∧ NM y.2) ∨ ∃ b o m, cs = [.pointer (some ⟨b, o, none⟩)] ∧ RepM b o m W ∧ MD64 m ∧ NM y.2 := by
  rcases open_ptr_fields Tryz.underlying22 Tryz.underlying30 (hone_of (by kernel_rfl)) (by kernel_rfl) (by decide) h with ⟨rfl, rfl⟩ | ⟨b, o, n, V, Y, rfl, _, rfl, hf⟩
  · exact .inl ⟨rfl, fun p hp => by cases hp⟩
  right
  obtain ⟨c0, t0⟩ := hf 0 _ rfl
  obtain ⟨c1, t1⟩ := hf 1 _ rfl
  obtain ⟨c2, t2⟩ := hf 2 _ rfl
  obtain ⟨c3, t3⟩ := hf 3 _ rfl
  obtain ⟨c4, t4⟩ := hf 4 _ rfl
  obtain ⟨c5, t5⟩ := hf 5 _ rfl
  obtain ⟨c6, t6⟩ := hf 6 _ rfl
  obtain ⟨c7, t7⟩ := hf 7 _ rfl
  obtain ⟨c8, t8⟩ := hf 8 _ rfl
  obtain ⟨c9, t9⟩ := hf 9 _ rfl
  obtain ⟨c10, t10⟩ := hf 10 _ rfl
  obtain ⟨z0, q0, r0, _⟩ := DataW.trod_int Tryz.underlying3 t0
  obtain ⟨z1, q1, r1, _⟩ := DataW.trod_int Tryz.underlying3 t1
  obtain ⟨z2, q2, r2, _⟩ := DataW.trod_int Tryz.underlying3 t2
  obtain ⟨z4, q4, r4, _⟩ := DataW.trod_int Tryz.underlying3 t4
  obtain ⟨z5, q5, r5, _⟩ := DataW.trod_int Tryz.underlying3 t5
  obtain ⟨z6, q6, r6, _⟩ := DataW.trod_int Tryz.underlying3 t6
  obtain ⟨v3, l3, q3, R3, u3, m3⟩ := open_words t3
  obtain ⟨v7, l7, q7, R7, u7, m7⟩ := open_words t7
  obtain ⟨v8, l8, q8, R8, u8, m8⟩ := open_words t8
  obtain ⟨v9, l9, q9, R9, u9, m9⟩ := open_ids t9
  obtain ⟨v10, l10, q10, R10, m10⟩ := open_bools t10
  simp only [List.cons.injEq, and_true] at q0 q1 q2 q3 q4 q5 q6 q7 q8 q9 q10
  rw [q0] at c0
  rw [q1] at c1
  rw [q2] at c2
  rw [q3] at c3
  rw [q4] at c4
  rw [q5] at c5
  rw [q6] at c6
  rw [q7] at c7
  rw [q8] at c8
  rw [q9] at c9
  rw [q10] at c10
  refine ⟨b, o, ⟨z0, z1, z2, z4, z5, z6, l3, l7, l8, l9, l10⟩, rfl, ⟨v3, v7, v8, v9, v10, lt_of_cell c0, ⟨c0, c1, c2, c3, c4, c5, c6, c7, c8, c9, c10⟩, R3, R7, R8, R9, R10⟩, ⟨u3, u7, u8, u9⟩, fun p hp bb e => ?_⟩
  rcases List.mem_append.1 hp with h1 | h1
  · exact nm_row _ _ p h1 bb e
  · obtain ⟨i, hi, h2⟩ := List.mem_flatMap.1 h1
    have hi' : i < 11 := List.mem_range.1 hi
    have z : ∀ {x : DataW H × List MemPlace} {d : DataW H}, x = (d, []) → NM x.2 := fun h p hp => by rw [h] at hp; cases hp
    obtain rfl | rfl | rfl | rfl | rfl | rfl | rfl | rfl | rfl | rfl | rfl : i = 0 ∨ i = 1 ∨ i = 2 ∨ i = 3 ∨ i = 4 ∨ i = 5 ∨ i = 6 ∨ i = 7 ∨ i = 8 ∨ i = 9 ∨ i = 10 := by omega
    · exact z r0 p h2 bb e
    · exact z r1 p h2 bb e
    · exact z r2 p h2 bb e
    · exact m3 p h2 bb e
    · exact z r4 p h2 bb e
    · exact z r5 p h2 bb e
    · exact z r6 p h2 bb e
    · exact m7 p h2 bb e
    · exact m8 p h2 bb e
    · exact m9 p h2 bb e
    · exact m10 p h2 bb e
end
end Go.Proofs.YtnenggkgfhgcnaaGreatDoor
