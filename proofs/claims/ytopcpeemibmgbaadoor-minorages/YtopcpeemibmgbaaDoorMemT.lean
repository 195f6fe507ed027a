/- Package mem: survey of every memory, by a contract. -/
import Derived.Test.YtopcpeemibmgbaaDoorMemR
import Derived.Test.YtopcpeemibmgbaaDoorMemS
namespace Go.Proofs.YtopcpeemibmgbaaDoor
open Go.RowKit

/-- What package mem wants of memory: four errors of package api. -/
structure MErr (a : Nat → Addr) (w : World) : Prop where
  c1 : w.cell? ⟨0, 0, none⟩ = some (.iface 128 (.pointer (some (a 1))))
  c2 : w.cell? ⟨2, 0, none⟩ = some (.iface 128 (.pointer (some (a 2))))
  c4 : w.cell? ⟨3, 0, none⟩ = some (.iface 128 (.pointer (some (a 4))))
  c5 : w.cell? ⟨1, 0, none⟩ = some (.iface 128 (.pointer (some (a 5))))
theorem MErr.below {a : Nat → Addr} {w w' : World} (E : MErr a w) (hb : Below w.heap.size w w') : MErr a w' where
  c1 := (hb.cell (p := ⟨0, 0, none⟩) (lt_of_cell E.c1)).trans E.c1
  c2 := (hb.cell (p := ⟨2, 0, none⟩) (lt_of_cell E.c2)).trans E.c2
  c4 := (hb.cell (p := ⟨3, 0, none⟩) (lt_of_cell E.c4)).trans E.c4
  c5 := (hb.cell (p := ⟨1, 0, none⟩) (lt_of_cell E.c5)).trans E.c5
theorem MErr.we {a : Nat → Addr} {w : World} (E : MErr a w) : WErr a w := ⟨E.c1, E.c2⟩
/-- A row that begins at its block's beginning. -/
def Row0 (w : World) (v : Value) (n : Nat) (xs : List Value) : Prop := ∃ ao cap, v = .slice ao n cap ∧ n ≤ cap ∧ (0 < n → ∃ b, ao = some ⟨b, 0, none⟩ ∧ b < w.heap.size ∧ ∀ j u, xs[j]? = some u → w.cell? ⟨b, j, none⟩ = some u)
theorem Row0.row {w : World} {v : Value} {n : Nat} {xs : List Value} (h : Row0 w v n xs) : RowV w v n xs := by
  obtain ⟨ao, cap, e, hc, h⟩ := h
  refine ⟨ao, cap, e, hc, fun hn => ?_⟩
  obtain ⟨b, e1, e2, e3⟩ := h hn
  exact ⟨b, 0, e1, e2, fun j u hj => by rw [Nat.zero_add]; exact e3 j u hj⟩
theorem Row0.below {w w' : World} {v : Value} {n : Nat} {xs : List Value} (h : Row0 w v n xs) (hb : Below w.heap.size w w') : Row0 w' v n xs := by
  obtain ⟨ao, cap, e, hc, h⟩ := h
  refine ⟨ao, cap, e, hc, fun hn => ?_⟩
  obtain ⟨b, e1, e2, e3⟩ := h hn
  exact ⟨b, e1, Nat.lt_of_lt_of_le e2 hb.size, fun j u hj => (hb.cell (p := ⟨b, j, none⟩) e2).trans (e3 j u hj)⟩
theorem row0_own {w : World} {base e size n : Nat} {v : Value} {xs : List Value} (h : w.ownsRow base e size v n xs) : Row0 w v n xs := by
  obtain ⟨h1, h2⟩ := h
  rcases h2 with ⟨rfl, rfl⟩ | ⟨g, cap, cur, rfl, hb, hg, hc, _, hs, ht⟩
  · exact ⟨none, 0, rfl, Nat.le_refl _, fun h => absurd h (by omega)⟩
  · refine ⟨_, _, rfl, hc, fun _ => ⟨g, rfl, lt_of_heap hg, fun j u hj => ?_⟩⟩
    rw [← ht, List.getElem?_take] at hj
    split at hj
    · rw [cell_of_row _ _ _ _ _ _ hg, ← Array.getElem?_toList]
      exact hj
    · cases hj
/-- A memory of the program stands at p. -/
def RepP (p : Nat) (m : MD) (w : World) : Prop := ∃ vW vR vK vI vC, p < w.heap.size ∧ MemAt p m.half m.old m.card vW m.used m.top m.oldTop vR vK vI vC w ∧
  Row0 w vW m.W.length (wordsV m.W) ∧ RowV w vR m.R.length (wordsV m.R) ∧ RowV w vK m.K.length (wordsV m.K) ∧ RowV w vI m.I.length (idsV m.I) ∧ Row0 w vC m.C.length (boolsV m.C)
theorem RepP.below {p : Nat} {m : MD} {w w' : World} (h : RepP p m w) (hb : Below w.heap.size w w') : RepP p m w' := by
  obtain ⟨vW, vR, vK, vI, vC, hp, M, h1, h2, h3, h4, h5⟩ := h
  exact ⟨vW, vR, vK, vI, vC, Nat.lt_of_lt_of_le hp hb.size, M.below hb hp, h1.below hb, h2.below hb, h3.below hb, h4.below hb, h5.below hb⟩
theorem RepP.rep {p : Nat} {m : MD} {w : World} (h : RepP p m w) : RepM p 0 m w := by
  obtain ⟨vW, vR, vK, vI, vC, hp, M, h1, h2, h3, h4, h5⟩ := h
  exact ⟨vW, vR, vK, vI, vC, hp, M.memO, h1.row, h2, h3, h4, h5.row⟩
/-- Numbers within their types. -/
structure MD64 (m : MD) : Prop where
  w : U64 m.W
  r : U64 m.R
  k : U64 m.K
  i : Ids64 m.I
def MD.F (m : MD) (i : Nat) : Int := m.W.getD i 0
def MD.Cf (m : MD) (i : Nat) : Bool := m.C.getD i false
def MD.n0 (m : MD) : Nat := (m.used * m.half).toNat
def MD.n1 (m : MD) : Nat := (m.used * m.half + m.top).toNat
def MD.m0 (m : MD) : Nat := (2 * m.half).toNat
def MD.m1 (m : MD) : Nat := (2 * m.half + m.oldTop).toNat
def MD.FitsM (m : MD) : Prop := Fits m.half m.old m.card m.W.length m.C.length m.used m.top m.oldTop
theorem MD.parts {m : MD} (h : m.FitsM) : Parts m.half m.used m.top m.oldTop m.n0 m.n1 m.m0 m.m1 := by
  obtain ⟨⟨a0, a1, a2, a3, a4, a5⟩, hw, _, u0, u1, t0, t1, o0, o1⟩ := h
  have : 0 ≤ m.used * m.half := Int.mul_nonneg u0 (by omega)
  constructor
  · unfold MD.n0; omega
  · unfold MD.n1; omega
  · unfold MD.m0; omega
  · unfold MD.m1; omega
/-- Where the objects of a memory begin, if they are as they must be. -/
def MD.objs (m : MD) : Option (List Nat) := match walkP m.F (G1 m.F m.half) (m.n1 - m.n0) m.n0 m.n1, walkP m.F (G1 m.F m.half) (m.m1 - m.m0) m.m0 m.m1 with
  | some l1, some l2 => some (l1 ++ l2)
  | _, _ => none
/-- Does each word point to where it may? -/
def MD.holdB (m : MD) (vs : List Nat) : Bool := (walkP m.F (G2 m.F m.W.length (fun i => decide (i ∈ vs))) (m.n1 - m.n0) m.n0 m.n1).isSome && (walkP m.F (G2 m.F m.W.length (fun i => decide (i ∈ vs))) (m.m1 - m.m0) m.m0 m.m1).isSome
def MD.restB (m : MD) (vs : List Nat) : Bool := m.R.all (fieldB m.W.length (fun i => decide (i ∈ vs))) && (m.K.all (fieldB m.W.length (fun i => decide (i ∈ vs))) && idsB m.W.length (fun i => decide (i ∈ vs)) m.I)
def MD.cardsB (m : MD) : Bool := (walkP m.F (G3 m.F m.Cf m.half m.card) (m.m1 - m.m0) m.m0 m.m1).isSome
/-- A memory has this shape, and its objects begin there. -/
def MD.Shape (m : MD) (vs : List Nat) : Prop := m.FitsM ∧ m.objs = some vs ∧ m.holdB vs = true ∧ m.restB vs = true
theorem looked_of {p : Nat} {m : MD} {w : World} {vR vK vI : Value} {b bc cW cC : Nat} (hF : m.FitsM) (h64 : MD64 m) (M : MemAt p m.half m.old m.card (.slice (some ⟨b, 0, none⟩) m.W.length cW) m.used m.top m.oldTop vR vK vI (.slice (some ⟨bc, 0, none⟩) m.C.length cC) w) (hc : m.W.length ≤ cW)
    (hw : ∀ j u, (wordsV m.W)[j]? = some u → w.cell? ⟨b, j, none⟩ = some u) (hk : ∀ j u, (boolsV m.C)[j]? = some u → w.cell? ⟨bc, j, none⟩ = some u) : Looked p b bc m.W.length m.C.length cW cC m.half m.old m.card m.used m.top m.oldTop vR vK vI m.F m.Cf w where
  mem := M
  fits := hF
  cap := hc
  words i hi := hw i _ (words_at (by unfold MD.F; rw [List.getD_eq_getElem?_getD, List.getElem?_eq_getElem hi]; rfl))
  cards i hi := hk i _ (bools_at (by unfold MD.Cf; rw [List.getD_eq_getElem?_getD, List.getElem?_eq_getElem hi]; rfl))
  range i hi := by
    unfold MD.F
    rw [List.getD_eq_getElem?_getD, List.getElem?_eq_getElem hi]
    exact h64.w _ (List.getElem_mem hi)

theorem survey_nil (a : Nat → Addr) (w : World) (E : MErr a w) :
    Calls Tryd.prog 31 #[.pointer none] w fun ev w' => ev = .returned (.tuple #[.slice none 0 0, errV a 2]) ∧ Below w.heap.size w w' := by
  have hn := shaped_nil w
  have HE := toHid E
  go_enter Tryd.func31, Tryd.ntmps31
  go_wp2_with fail
  refine hn.mono ?_
  rintro ev w1 ⟨rfl, q, hq⟩
  have hb1 : Below w.heap.size w w1 := by rw [hq]; exact below_drewN (Below.refl _ _)
  clear hq
  have k2 := (HE.out.below hb1).c2
  go_wp2_with fail
  go_quiet (fail)
  go_wp2
  go_ret2
  exact ⟨rfl, below_drewN hb1⟩
set_option maxHeartbeats 2000000 in
set_option maxRecDepth 100000 in
theorem survey_unfit (a : Nat → Addr) (p : Nat) (m : MD) (hF : ¬ m.FitsM) (w : World) (E : MErr a w) (R : RepP p m w) :
    Calls Tryd.prog 31 #[.pointer (some ⟨p, 0, none⟩)] w fun ev w' => ev = .returned (.tuple #[.slice none 0 0, errV a 2]) ∧ Below w.heap.size w w' := by
  obtain ⟨_, vR, vK, vI, _, hp, M, ⟨aW, cW, rfl, _⟩, _, _, _, ⟨aC, cC, rfl, _⟩⟩ := R
  have km := measured_no p m.half m.old m.card m.W.length m.C.length cW cC aW aC m.used m.top m.oldTop vR vK vI hF w M
  go_enter Tryd.func31, Tryd.ntmps31
  go_wp2_with fail
  refine km.mono ?_
  rintro ev w1 ⟨rfl, q, hq⟩
  have hb1 : Below w.heap.size w w1 := by rw [hq]; exact below_drewN (Below.refl _ _)
  have k2 := (E.below hb1).c2
  clear hq M km
  go_wp2_with fail
  go_quiet (fail)
  go_wp2
  go_ret2
  exact ⟨rfl, below_drewN hb1⟩
end Go.Proofs.YtopcpeemibmgbaaDoor
