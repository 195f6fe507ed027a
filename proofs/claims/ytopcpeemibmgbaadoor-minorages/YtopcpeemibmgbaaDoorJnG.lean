/- A memory that is handed in, read out of memory. -/
import Derived.Test.YtopcpeemibmgbaaDoorMemT
import Derived.Deep.Fields
import Derived.Deep.Strs
import Derived.ChangeSlices
import Derived.ChangeArms
import Derived.Test.YtopcpeemibmgbaaDoorRows
import Derived.Test.YtopcpeemibmgbaaDoorErrCode
import Derived.Stop.LaidTwo
namespace Go.Proofs.YtopcpeemibmgbaaDoor
open Go.RowKit Go.ChangeShapes Go.WideShapes Go.Deep

theorem cellsU : Tryd.prog.cellsOf 48 = 1 := by kernel_rfl
theorem cellsB : Tryd.prog.cellsOf 4 = 1 := by kernel_rfl
theorem cellsN : Tryd.prog.cellsOf 3 = 1 := by kernel_rfl
theorem cellsRID : Tryd.prog.cellsOf 57 = 2 := by kernel_rfl
/-- No place is a map. -/
def NM (ps : List MemPlace) : Prop := ∀ p ∈ ps, ∀ bb, p ≠ .map bb
theorem nm_row (a : Addr) (n : Nat) : NM (MemPlace.row a n) := fun p hp bb e => by
  obtain ⟨j, _, rfl⟩ := MemPlace.mem_row.1 hp
  cases e
theorem wfU {n : Int} (h : (Lit.int .u64 n).wf = true) : 0 ≤ n ∧ n < 18446744073709551616 := by
  simp only [Lit.wf, Bool.and_eq_true, decide_eq_true_eq] at h
  have e1 : IntKind.u64.min = 0 := by decide
  have e2 : IntKind.u64.max = 18446744073709551615 := by decide
  omega
theorem wfI {n : Int} (h : (Lit.int .i64 n).wf = true) : -9223372036854775808 ≤ n ∧ n < 9223372036854775808 := by
  simp only [Lit.wf, Bool.and_eq_true, decide_eq_true_eq] at h
  have e1 : IntKind.i64.min = -9223372036854775808 := by decide
  have e2 : IntKind.i64.max = 9223372036854775807 := by decide
  omega
/-- A memory that is handed in: none, or one that stands there. -/
def MemIn (W : World) (x : Option Addr) : Prop := x = none ∨ ∃ b o m, x = some ⟨b, o, none⟩ ∧ RepM b o m W ∧ MD64 m
section
variable {H : Type} {enc : TypeId × Value → H} {W : World} {base : Nat} {sp : Nat → Bool} {held : Bool} {fuel : Nat}
theorem row_of {a : Addr} {len cap : Nat} {xs : List Value} (hl : len ≤ cap) (hx : 0 < len → 0 < xs.length) (hc : ∀ j u, xs[j]? = some u → W.cell? (a.add j) = some u) : RowV W (.slice (some a) len cap) len xs := by
  refine ⟨some a, cap, rfl, hl, fun hp => ?_⟩
  obtain ⟨xb, xo, spot⟩ := a
  have h0 := hc 0 xs[0] (by rw [List.getElem?_eq_getElem (hx hp)])
  have hspot : spot = none := by simpa [Addr.add] using World.cell?_spot h0
  subst hspot
  have hc' : ∀ j u, xs[j]? = some u → W.cell? ⟨xb, xo + j, none⟩ = some u := fun j u hj => by rw [← add_plain]; exact hc j u hj
  exact ⟨xb, xo, rfl, lt_of_cell (hc' 0 xs[0] (by rw [List.getElem?_eq_getElem (hx hp)])), hc'⟩
theorem open_words {cs : List Value} {y : DataW H × List MemPlace} (h : DataW.trod enc Tryd.prog W base sp held fuel 36 cs = some y) :
    ∃ v l, cs = [v] ∧ RowV W v l.length (wordsV l) ∧ U64 l ∧ NM y.2 := by
  rcases open_ints Tryd.underlying36 Tryd.underlying48 cellsU h with ⟨rfl, rfl⟩ | ⟨a, len, cap, zs, rfl, _, hl, _, hz, rfl, hc, hw⟩
  · exact ⟨_, [], rfl, ⟨none, 0, rfl, Nat.le_refl _, fun h => absurd h (by simp)⟩, (fun x hx => by cases hx), (fun p hp => by cases hp)⟩
  · have hlz : len ≤ zs.length := by rw [hz]; split <;> omega
    have e : (zs.take len).length = len := by simp; omega
    refine ⟨_, zs.take len, rfl, ?_, fun x hx => wfU (hw x (List.mem_of_mem_take hx)), nm_row _ _⟩
    rw [e]
    refine row_of hl (fun hp => by rw [lenV, e]; exact hp) (fun j u hj => ?_)
    have hjl : j < len := by
      have := (List.getElem?_eq_some_iff.1 hj).1
      rw [lenV, e] at this
      exact this
    have e2 : (zs.take len)[j]? = some (zs.getD j 0) := by
      rw [List.getElem?_take, if_pos hjl, List.getD_eq_getElem?_getD, List.getElem?_eq_getElem (by omega)]
      rfl
    rw [words_at e2] at hj
    cases hj
    exact hc j (by omega)
theorem open_bools {cs : List Value} {y : DataW H × List MemPlace} (h : DataW.trod enc Tryd.prog W base sp held fuel 38 cs = some y) :
    ∃ v l, cs = [v] ∧ RowV W v l.length (boolsV l) ∧ NM y.2 := by
  rcases open_slice Tryd.underlying38 h with ⟨rfl, rfl⟩ | ⟨a, len, cap, m, n, D, Pl, rfl, _, hl, _, hmm, rfl, hx⟩
  · exact ⟨_, [], rfl, ⟨none, 0, rfl, Nat.le_refl _, fun h => absurd h (by simp)⟩, fun p hp => by cases hp⟩
  have hlm : len ≤ m := by rw [hmm]; split <;> omega
  rw [cellsB] at hx
  have each : ∀ i, i < m → ∃ z : Bool, W.cell? (a.add i) = some (.bool z) ∧ Pl i = [] := by
    intro i hi
    obtain ⟨cs', h1, h2⟩ := hx i hi
    obtain ⟨_, hlen, hcell⟩ := World.cells?_some h1
    obtain ⟨z, rfl, hz⟩ := DataW.trod_bool Tryd.underlying4 h2
    have e0 := hcell 0 (by omega)
    rw [add_add] at e0
    simp only [Prod.mk.injEq] at hz
    exact ⟨z, by simpa using e0, hz.2⟩
  obtain ⟨f, hf⟩ := choose_lt each
  have e : ((List.range len).map f).length = len := by simp
  refine ⟨_, (List.range len).map f, rfl, ?_, fun p hp bb e => ?_⟩
  · rw [e]
    refine row_of hl (fun hp => by rw [lenB, e]; exact hp) (fun j u hj => ?_)
    have hjl : j < len := by
      have := (List.getElem?_eq_some_iff.1 hj).1
      rw [lenB, e] at this
      exact this
    have e2 : ((List.range len).map f)[j]? = some (f j) := by rw [List.getElem?_map, List.getElem?_range hjl]; rfl
    rw [bools_at e2] at hj
    cases hj
    exact (hf j (by omega)).1
  · rcases List.mem_append.1 hp with h1 | h1
    · exact nm_row _ _ p h1 bb e
    · obtain ⟨i, hi, h2⟩ := List.mem_flatMap.1 h1
      rw [(hf i (List.mem_range.1 hi)).2] at h2
      cases h2
set_option maxRecDepth 100000 in
theorem open_ids {cs : List Value} {y : DataW H × List MemPlace} (h : DataW.trod enc Tryd.prog W base sp held fuel 37 cs = some y) :
    ∃ v l, cs = [v] ∧ RowV W v l.length (idsV l) ∧ Ids64 l ∧ NM y.2 := by
  rcases open_slice Tryd.underlying37 h with ⟨rfl, rfl⟩ | ⟨a, len, cap, m, n, D, Pl, rfl, _, hl, _, hmm, rfl, hx⟩
  · exact ⟨_, [], rfl, ⟨none, 0, rfl, Nat.le_refl _, fun h => absurd h (by simp)⟩, (fun x hx => by cases hx), (fun p hp => by cases hp)⟩
  have hlm : len ≤ m := by rw [hmm]; split <;> omega
  rw [cellsRID] at hx
  have each : ∀ i, i < m → ∃ z : Int × Int, W.cell? (a.add (i * 2)) = some (.int .u64 z.1) ∧ W.cell? (a.add (i * 2 + 1)) = some (.int .i64 z.2) ∧ ((0 ≤ z.1 ∧ z.1 < 18446744073709551616) ∧ (-9223372036854775808 ≤ z.2 ∧ z.2 < 9223372036854775808)) ∧ Pl i = [] := by
    intro i hi
    obtain ⟨cs', h1, h2⟩ := hx i hi
    obtain ⟨_, hlen, hcell⟩ := World.cells?_some h1
    obtain ⟨y0, y1, k, hxy, _, g0, g1⟩ := trod_struct2 Tryd.underlying57 h2
    match cs', hlen with
    | [v0, v1], _ =>
      simp [cellsU, cellsN] at g0 g1
      obtain ⟨z0, q0, r0, w0⟩ := DataW.trod_int Tryd.underlying48 g0
      obtain ⟨z1, q1, r1, w1⟩ := DataW.trod_int Tryd.underlying3 g1
      simp only [List.cons.injEq, and_true] at q0 q1
      subst q0 q1
      have e0 := hcell 0 (by omega)
      have e1 := hcell 1 (by omega)
      rw [add_add] at e0 e1
      simp only [Prod.mk.injEq] at hxy
      refine ⟨(z0, z1), by simpa using e0, by simpa using e1, ⟨wfU w0, wfI w1⟩, ?_⟩
      rw [hxy.2, r0, r1]
      rfl
  obtain ⟨f, hf⟩ := choose_lt each
  have e : ((List.range len).map f).length = len := by simp
  refine ⟨_, (List.range len).map f, rfl, ?_, fun x hx => ?_, fun p hp bb e => ?_⟩
  · rw [e]
    refine row_of hl (fun hp => by rw [lenI, e]; omega) (fun j u hj => ?_)
    have hjl : j < len * 2 := by
      have := (List.getElem?_eq_some_iff.1 hj).1
      rw [lenI, e] at this
      exact this
    have hq : j / 2 < len := by omega
    have e2 : ((List.range len).map f)[j / 2]? = some (f (j / 2)) := by rw [List.getElem?_map, List.getElem?_range hq]; rfl
    have ha := ids_at e2
    have hc := hf (j / 2) (by omega)
    rcases Nat.mod_two_eq_zero_or_one j with h0 | h0
    · rw [show j = j / 2 * 2 by omega] at hj ⊢
      rw [ha.1] at hj
      cases hj
      exact hc.1
    · rw [show j = j / 2 * 2 + 1 by omega] at hj ⊢
      rw [ha.2] at hj
      cases hj
      exact hc.2.1
  · obtain ⟨i, hi, rfl⟩ := List.mem_map.1 hx
    exact (hf i (by have := List.mem_range.1 hi; omega)).2.2.1
  · rcases List.mem_append.1 hp with h1 | h1
    · exact nm_row _ _ p h1 bb e
    · obtain ⟨i, hi, h2⟩ := List.mem_flatMap.1 h1
      rw [(hf i (List.mem_range.1 hi)).2.2.2] at h2
      cases h2
set_option maxRecDepth 100000 in
theorem open_mem {cs : List Value} {y : DataW H × List MemPlace} (h : DataW.trod enc Tryd.prog W base sp held fuel 22 cs = some y) :
    (cs = [.pointer none] ∧ NM y.2) ∨ ∃ b o m, cs = [.pointer (some ⟨b, o, none⟩)] ∧ RepM b o m W ∧ MD64 m ∧ NM y.2 := by
  rcases open_ptr_fields Tryd.underlying22 Tryd.underlying40 (hone_of (by kernel_rfl)) (by kernel_rfl) (by decide) h with ⟨rfl, rfl⟩ | ⟨b, o, n, V, Y, rfl, _, rfl, hf⟩
  · exact .inl ⟨rfl, fun p hp => by cases hp⟩
  right
  obtain ⟨c0, t0⟩ := hf 0 _ rfl
  obtain ⟨c1, t1⟩ := hf 1 _ rfl
  obtain ⟨c2, t2⟩ := hf 2 _ rfl
  obtain ⟨c3, t3⟩ := hf 3 _ rfl
  obtain ⟨c4, t4⟩ := hf 4 _ rfl
  obtain ⟨c5, t5⟩ := hf 5 _ rfl
  obtain ⟨c6, t6⟩ := hf 6 _ rfl
  obtain ⟨c7, t7⟩ := hf 7 _ rfl
  obtain ⟨c8, t8⟩ := hf 8 _ rfl
  obtain ⟨c9, t9⟩ := hf 9 _ rfl
  obtain ⟨c10, t10⟩ := hf 10 _ rfl
  obtain ⟨z0, q0, r0, _⟩ := DataW.trod_int Tryd.underlying3 t0
  obtain ⟨z1, q1, r1, _⟩ := DataW.trod_int Tryd.underlying3 t1
  obtain ⟨z2, q2, r2, _⟩ := DataW.trod_int Tryd.underlying3 t2
  obtain ⟨z4, q4, r4, _⟩ := DataW.trod_int Tryd.underlying3 t4
  obtain ⟨z5, q5, r5, _⟩ := DataW.trod_int Tryd.underlying3 t5
  obtain ⟨z6, q6, r6, _⟩ := DataW.trod_int Tryd.underlying3 t6
  obtain ⟨v3, l3, q3, R3, u3, m3⟩ := open_words t3
  obtain ⟨v7, l7, q7, R7, u7, m7⟩ := open_words t7
  obtain ⟨v8, l8, q8, R8, u8, m8⟩ := open_words t8
  obtain ⟨v9, l9, q9, R9, u9, m9⟩ := open_ids t9
  obtain ⟨v10, l10, q10, R10, m10⟩ := open_bools t10
  simp only [List.cons.injEq, and_true] at q0 q1 q2 q3 q4 q5 q6 q7 q8 q9 q10
  rw [q0] at c0
  rw [q1] at c1
  rw [q2] at c2
  rw [q3] at c3
  rw [q4] at c4
  rw [q5] at c5
  rw [q6] at c6
  rw [q7] at c7
  rw [q8] at c8
  rw [q9] at c9
  rw [q10] at c10
  refine ⟨b, o, ⟨z0, z1, z2, z4, z5, z6, l3, l7, l8, l9, l10⟩, rfl, ⟨v3, v7, v8, v9, v10, lt_of_cell c0, ⟨c0, c1, c2, c3, c4, c5, c6, c7, c8, c9, c10⟩, R3, R7, R8, R9, R10⟩, ⟨u3, u7, u8, u9⟩, fun p hp bb e => ?_⟩
  rcases List.mem_append.1 hp with h1 | h1
  · exact nm_row _ _ p h1 bb e
  · obtain ⟨i, hi, h2⟩ := List.mem_flatMap.1 h1
    have hi' : i < 11 := List.mem_range.1 hi
    have z : ∀ {x : DataW H × List MemPlace} {d : DataW H}, x = (d, []) → NM x.2 := fun h p hp => by rw [h] at hp; cases hp
    obtain rfl | rfl | rfl | rfl | rfl | rfl | rfl | rfl | rfl | rfl | rfl : i = 0 ∨ i = 1 ∨ i = 2 ∨ i = 3 ∨ i = 4 ∨ i = 5 ∨ i = 6 ∨ i = 7 ∨ i = 8 ∨ i = 9 ∨ i = 10 := by omega
    · exact z r0 p h2 bb e
    · exact z r1 p h2 bb e
    · exact z r2 p h2 bb e
    · exact m3 p h2 bb e
    · exact z r4 p h2 bb e
    · exact z r5 p h2 bb e
    · exact z r6 p h2 bb e
    · exact m7 p h2 bb e
    · exact m8 p h2 bb e
    · exact m9 p h2 bb e
    · exact m10 p h2 bb e
end
end Go.Proofs.YtopcpeemibmgbaaDoor

/- What a row's list of variables gives a walk: the seven errors of package api, apart from each other, and the handle of the type error. -/
namespace Go.Proofs.YtopcpeemibmgbaaDoor
open Go.RowKit

theorem laidVars_sub {P : Program} {w : World} {l l' : List (String × DataW Unit)} (h : l'.Sublist l) : ∀ ps, DataW.LaidVars P w l ps → ∃ qs, DataW.LaidVars P w l' qs ∧ qs.Sublist ps := by
  induction h with
  | slnil => intro ps hp; exact ⟨ps, hp, List.Sublist.refl _⟩
  | cons x _ ih =>
    intro ps hp
    obtain ⟨n, d⟩ := x
    obtain ⟨g, t, cs, fuel, p, q, _, _, _, _, hq, rfl⟩ := hp
    obtain ⟨qs, h1, h2⟩ := ih q hq
    exact ⟨qs, h1, h2.trans (List.sublist_append_right _ _)⟩
  | cons_cons x _ ih =>
    intro ps hp
    obtain ⟨n, d⟩ := x
    obtain ⟨g, t, cs, fuel, p, q, e1, e2, e3, e4, hq, rfl⟩ := hp
    obtain ⟨qs, h1, h2⟩ := ih q hq
    exact ⟨_, ⟨g, t, cs, fuel, p, qs, e1, e2, e3, e4, h1, rfl⟩, (List.Sublist.refl _).append h2⟩

theorem laidMet_sub {P : Program} {w : World} {l l' : List (String × DataW Unit)} (h : l'.Sublist l) (hl : laidMet P l w) : laidMet P l' w := by
  obtain ⟨ps, h1, h2, h3⟩ := hl
  obtain ⟨qs, k1, k2⟩ := laidVars_sub h ps h1
  exact ⟨qs, k1, h2.sublist k2, fun b off hm => h3 b off (k2.subset hm)⟩

theorem star : "*" ++ "errors.errorString" = "*errors.errorString" := by decide
theorem rowSp (u : TypeId) (h : Tryd.prog.typeName? 3 u = some "*errors.errorString") : u = 128 :=
  typeName_ptr_named (nm := "errors.errorString") (by rw [star]; kernel_rfl) (by kernel_rfl) (by decide) u (by rw [star]; exact h)
theorem cellsS : Tryd.prog.cellsOf 145 = 1 := by kernel_rfl
theorem cellsStr : Tryd.prog.cellsOf 9 = 1 := by kernel_rfl

def sentName : Nat → String
  | 0 => "nurserypy/api.ErrText"
  | 1 => "nurserypy/api.ErrBound"
  | _ => "nurserypy/api.ErrShape"
def sentTail : Nat → List UInt8
  | 0 => [116, 101, 120, 116]
  | 1 => [98, 111, 117, 110, 100]
  | _ => [115, 104, 97, 112, 101]
def sentText (i : Nat) : ByteArray := ⟨([110, 117, 114, 115, 101, 114, 121, 112, 121, 58, 32] ++ sentTail i).toArray⟩
def sentLaid (i : Nat) : String × DataW Unit := (sentName i, .iface "*errors.errorString" (.ptr (.agg [.lit (.string ([110, 117, 114, 115, 101, 114, 121, 112, 121, 58, 32] ++ sentTail i))])))

end Go.Proofs.YtopcpeemibmgbaaDoor

/- Out of a row's list of variables: four errors of package api. -/
namespace Go.Proofs.YtopcpeemibmgbaaDoor
open Go.RowKit

/-- An error's variable, as a row lists it. -/
def fourLaid (nm : String) (tl : List UInt8) : String × DataW Unit := (nm, .iface "*errors.errorString" (.ptr (.agg [.lit (.string ([110, 117, 114, 115, 101, 114, 121, 112, 121, 58, 32] ++ tl))])))
theorem four_one {W : World} (nm : String) (g : Nat) (tl : List UInt8) (hn : Tryd.prog.globalNamed nm = some g) (ht : (Tryd.prog.globals[g]?).map (·.type) = some 29) (h : laidMet Tryd.prog [fourLaid nm tl] W) : ∃ a : Addr, W.cell? ⟨g, 0, none⟩ = some (.iface 128 (.pointer (some a))) := by
  obtain ⟨a, s, h1, _⟩ := laid_sentinel h hn ht Tryd.underlying29 rowSp Tryd.underlying128 Tryd.underlying145 rfl rfl Tryd.underlying9 cellsS cellsStr
  exact ⟨a, by simpa using World.var?_cell hn h1 0⟩
/-- The row's list. -/
def fourL : List (String × DataW Unit) := [fourLaid "nurserypy/api.ErrBound" [98, 111, 117, 110, 100], fourLaid "nurserypy/api.ErrShape" [115, 104, 97, 112, 101], fourLaid "nurserypy/api.ErrPlace" [112, 108, 97, 99, 101], fourLaid "nurserypy/api.ErrFull" [102, 117, 108, 108]]
theorem four_errs {W : World} (h : laidMet Tryd.prog fourL W) : ∃ a : Nat → Addr, MErr a W := by
  obtain ⟨a1, v1⟩ := four_one _ 0 _ (by kernel_rfl) (by kernel_rfl) (laidMet_sub (.cons_cons _ (List.nil_sublist _)) h)
  obtain ⟨a2, v2⟩ := four_one _ 2 _ (by kernel_rfl) (by kernel_rfl) (laidMet_sub (.cons _ (.cons_cons _ (List.nil_sublist _))) h)
  obtain ⟨a4, v4⟩ := four_one _ 3 _ (by kernel_rfl) (by kernel_rfl) (laidMet_sub (.cons _ (.cons _ (.cons_cons _ (List.nil_sublist _)))) h)
  obtain ⟨a5, v5⟩ := four_one _ 1 _ (by kernel_rfl) (by kernel_rfl) (laidMet_sub (.cons _ (.cons _ (.cons _ (List.Sublist.refl _)))) h)
  exact ⟨fun i => if i = 1 then a1 else if i = 2 then a2 else if i = 4 then a4 else a5, v1, v2, v4, v5⟩
theorem four_i64 {n : Int} (h : (Lit.int .i64 n).wf = true) : -9223372036854775808 ≤ n ∧ n < 9223372036854775808 := by
  simp only [Lit.wf, Bool.and_eq_true, decide_eq_true_eq] at h
  have e1 : IntKind.i64.min = -9223372036854775808 := by decide
  have e2 : IntKind.i64.max = 9223372036854775807 := by decide
  omega
end Go.Proofs.YtopcpeemibmgbaaDoor
