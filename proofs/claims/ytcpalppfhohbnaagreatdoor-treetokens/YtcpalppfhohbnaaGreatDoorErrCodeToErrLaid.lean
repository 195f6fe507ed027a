/- Small facts on cells and blocks (a program that does not reach plain.Code). -/
import Derived.Test.YtcpalppfhohbnaaGreatDoorProg
import Derived.WalkKit
import Derived.LaidEql
import Derived.Stop.Asserts
import Derived.RowKitTokens
import Derived.Carry
import Derived.Test.YtcpalppfhohbnaaGreatDoorRows
import Derived.Stop.LaidTwo
namespace Go.Proofs.YtcpalppfhohbnaaGreatDoor
open Go.RowKit Go.Extern.Stop Go.Stop Go.Extern

theorem lt_of_cell {w : World} {a : Addr} {v : Value} (h : w.cell? a = some v) : a.block < w.heap.size := by
  rcases Nat.lt_or_ge a.block w.heap.size with h1 | h1
  · exact h1
  · simp [World.cell?, Array.getElem?_eq_none h1] at h
theorem lt_of_heap {w : World} {k : Nat} {o : Obj} (h : w.heap[k]? = some o) : k < w.heap.size := by
  rcases Nat.lt_or_ge k w.heap.size with h1 | h1
  · exact h1
  · rw [Array.getElem?_eq_none h1] at h; cases h
end Go.Proofs.YtcpalppfhohbnaaGreatDoor

/- What a row's list of variables gives a walk: the seven errors of package api, apart from each other, and the handle of the type error. -/
namespace Go.Proofs.YtcpalppfhohbnaaGreatDoor
open Go.RowKit

theorem laidVars_sub {P : Program} {w : World} {l l' : List (String × DataW Unit)} (h : l'.Sublist l) : ∀ ps, DataW.LaidVars P w l ps → ∃ qs, DataW.LaidVars P w l' qs ∧ qs.Sublist ps := by
  induction h with
  | slnil => intro ps hp; exact ⟨ps, hp, List.Sublist.refl _⟩
  | cons x _ ih =>
    intro ps hp
    obtain ⟨n, d⟩ := x
    obtain ⟨g, t, cs, fuel, p, q, _, _, _, _, hq, rfl⟩ := hp
    obtain ⟨qs, h1, h2⟩ := ih q hq
    exact ⟨qs, h1, h2.trans (List.sublist_append_right _ _)⟩
  | cons_cons x _ ih =>
    intro ps hp
    obtain ⟨n, d⟩ := x
    obtain ⟨g, t, cs, fuel, p, q, e1, e2, e3, e4, hq, rfl⟩ := hp
    obtain ⟨qs, h1, h2⟩ := ih q hq
    exact ⟨_, ⟨g, t, cs, fuel, p, qs, e1, e2, e3, e4, h1, rfl⟩, (List.Sublist.refl _).append h2⟩

theorem laidMet_sub {P : Program} {w : World} {l l' : List (String × DataW Unit)} (h : l'.Sublist l) (hl : laidMet P l w) : laidMet P l' w := by
  obtain ⟨ps, h1, h2, h3⟩ := hl
  obtain ⟨qs, k1, k2⟩ := laidVars_sub h ps h1
  exact ⟨qs, k1, h2.sublist k2, fun b off hm => h3 b off (k2.subset hm)⟩

theorem star : "*" ++ "errors.errorString" = "*errors.errorString" := by decide
theorem rowSp (u : TypeId) (h : Tryz.prog.typeName? 3 u = some "*errors.errorString") : u = 163 :=
  typeName_ptr_named (nm := "errors.errorString") (by rw [star]; kernel_rfl) (by kernel_rfl) (by decide) u (by rw [star]; exact h)
theorem cellsS : Tryz.prog.cellsOf 165 = 1 := by kernel_rfl
theorem cellsStr : Tryz.prog.cellsOf 9 = 1 := by kernel_rfl

def sentName : Nat → String
  | 0 => "nurserypy/api.ErrText"
  | 1 => "nurserypy/api.ErrBound"
  | _ => "nurserypy/api.ErrShape"
def sentGlobal : Nat → Nat
  | 0 => 2
  | 1 => 0
  | _ => 1
def sentTail : Nat → List UInt8
  | 0 => [116, 101, 120, 116]
  | 1 => [98, 111, 117, 110, 100]
  | _ => [115, 104, 97, 112, 101]
def sentText (i : Nat) : ByteArray := ⟨([110, 117, 114, 115, 101, 114, 121, 112, 121, 58, 32] ++ sentTail i).toArray⟩
def sentLaid (i : Nat) : String × DataW Unit := (sentName i, .iface "*errors.errorString" (.ptr (.agg [.lit (.string ([110, 117, 114, 115, 101, 114, 121, 112, 121, 58, 32] ++ sentTail i))])))

theorem sent_named (i : Nat) (hi : i < 3) : Tryz.prog.globalNamed (sentName i) = some (sentGlobal i) := by
  iterate 3 (rcases i with _ | i; · kernel_rfl)
  omega
theorem sent_type (i : Nat) (hi : i < 3) : (Tryz.prog.globals[sentGlobal i]?).map (·.type) = some 25 := by
  iterate 3 (rcases i with _ | i; · kernel_rfl)
  omega

/-- One of the seven, out of the list. -/
theorem sent_one {W : World} (i : Nat) (hi : i < 3) (h : laidMet Tryz.prog [sentLaid i] W) : ∃ a : Addr, W.var? Tryz.prog (sentName i) = some #[.iface 163 (.pointer (some a))] ∧ W.cell? a = some (.string (sentText i)) := by
  obtain ⟨a, s, h1, h2, h3, _⟩ := laid_sentinel h (sent_named i hi) (sent_type i hi) Tryz.underlying25 rowSp Tryz.underlying163 Tryz.underlying165 rfl rfl Tryz.underlying9 cellsS cellsStr
  refine ⟨a, h1, ?_⟩
  rw [h2]
  congr 2
  apply ByteArray.ext
  show s.data = _
  rw [← Array.toList_inj, h3]
  simp [sentText]

/-- Two of the seven, out of the list: they are apart, and each lies in a block of its own. -/
theorem sent_two {W : World} (i j : Nat) (hi : i < 3) (hj : j < 3) (h : laidMet Tryz.prog [sentLaid i, sentLaid j] W) (a b : Addr) (ha : W.var? Tryz.prog (sentName i) = some #[.iface 163 (.pointer (some a))]) (hb : W.var? Tryz.prog (sentName j) = some #[.iface 163 (.pointer (some b))]) :
    a ≠ b ∧ (∃ c t, W.heap[a.block]? = some (.cells c t (0, 0))) ∧ ∃ c t, W.heap[b.block]? = some (.cells c t (0, 0)) := by
  obtain ⟨a0, a1, s0, s1, c0, c1, t0, t1, hv0, hv1, hc0, hs0, hz0, hc1, hs1, hz1, hne, hb0, hb1⟩ := laid_sentinels2 h (sent_named i hi) (sent_type i hi) (sent_named j hj) (sent_type j hj) Tryz.underlying25 rowSp Tryz.underlying163 Tryz.underlying165 rfl rfl Tryz.underlying9 cellsS cellsStr
  rw [ha] at hv0
  rw [hb] at hv1
  simp at hv0 hv1
  subst hv0 hv1
  exact ⟨hne, ⟨c0, t0, hb0⟩, ⟨c1, t1, hb1⟩⟩

theorem sent_cell {W : World} (i : Nat) (hi : i < 3) (a : Addr) (ha : W.var? Tryz.prog (sentName i) = some #[.iface 163 (.pointer (some a))]) : W.cell? ⟨sentGlobal i, 0, none⟩ = some (.iface 163 (.pointer (some a))) := by
  simpa using World.var?_cell (sent_named i hi) ha 0

end Go.Proofs.YtcpalppfhohbnaaGreatDoor
