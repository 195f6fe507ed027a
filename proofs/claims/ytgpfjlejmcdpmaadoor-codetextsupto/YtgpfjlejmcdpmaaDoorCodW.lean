/- Count, CountOf, tame, dash of any code in memory. -/
import Derived.Test.YtgpfjlejmcdpmaaDoorCodQ
import Derived.Test.YtgpfjlejmcdpmaaDoorCodK
namespace Go.Proofs.YtgpfjlejmcdpmaaDoor
open Go.RowKit

def FL1 (d : CD) : Nat → Nat := fun i => (d.fs i).n
theorem count_in (d : CD) (aF : Option Addr) (cF : Nat) (v1 v2 v3 : Value) (hn : d.nF ≤ 1048576) (ho : ∀ i, i < d.nF → (d.fs i).n ≤ 1048576) (w : World) (hC : ∀ i, i < d.nF → ∃ b o oa oc, aF = some ⟨b, o, none⟩ ∧ FuncIn w b o i (d.fs i) oa oc) :
    Calls Tryd.prog 10 #[.agg #[.slice aF d.nF cF, v1, v2, v3]] w fun ev w' => ev = .returned (.int .i64 (sumL (FL1 d) d.nF : Nat)) ∧ Below w.heap.size w w' := by
  have HC := toHid hC
  have HO := toHid ho
  clear hC ho
  go_enter Tryd.func10, Tryd.ntmps10
  go_wp2_with fail
  go_loopg [3, 9] (d.nF + 1) (fun gk v3 v9 wr => ∃ i : Nat, gk = d.nF + 1 - i ∧ i ≤ d.nF ∧ v3 = .int .i64 (sumL (FL1 d) i : Nat) ∧ v9 = .int .i64 (i : Int) ∧ Below w.heap.size w wr)
  case atStart => exact ⟨0, rfl, Nat.zero_le _, rfl, rfl, (Below.refl _ _).alloc (Nat.le_refl _) _⟩
  case round =>
    obtain ⟨i, hgk, hi, rfl, rfl, hbr⟩ := hrel
    have HG := toHid hgk
    clear hgk
    by_cases hlt : i < d.nF
    · have hJ : (i : Int) < (d.nF : Int) := by omega
      have hJ0 : (0 : Int) ≤ (i : Int) := by omega
      obtain ⟨bF, oF, oa, oc, rfl, hFI⟩ := HC.out i hlt
      obtain ⟨c0, c1, c2, c3, c4, c5, _⟩ := hFI.below hbr
      clear hFI
      have hs := sumL_le (L := FL1 d) (m := 1048576) (n := i) fun k hk => HO.out k (by omega)
      have hf := HO.out i hlt
      have e1 : IntKind.i64.wrap ((sumL (FL1 d) i : Nat) + ((d.fs i).n : Int)) = ((sumL (FL1 d) (i + 1) : Nat) : Int) := by
        rw [wrapI _ (by omega) (by omega)]
        show _ = ((sumL (FL1 d) i + (d.fs i).n : Nat) : Int)
        omega
      go_wp2_with fail
      go_roundg (d.nF + 1 - (i + 1))
      case measure => have := HG.out; omega
      case rel => exact ⟨i + 1, rfl, by omega, rfl, by go_num, hbr.alloc hbr.size _⟩
    · obtain rfl : i = d.nF := by omega
      go_wp2_with fail
      go_ret
      exact ⟨rfl, hbr⟩
theorem code_cell {w wr : World} {v0 v1 v2 v3 : Value} {t : TypeId} (hb : Below (w.heap.size + 1) (w.alloc (.cells #[v0, v1, v2, v3] t)) wr) :
    wr.cell? ⟨w.heap.size, 0, none⟩ = some v0 ∧ wr.cell? ⟨w.heap.size, 1, none⟩ = some v1 ∧ wr.cell? ⟨w.heap.size, 2, none⟩ = some v2 ∧ wr.cell? ⟨w.heap.size, 3, none⟩ = some v3 := by
  have h := fun j => (hb.cell (p := ⟨w.heap.size, j, none⟩) (by simp)).trans (cell_of_row _ _ j _ _ _ (heap_alloc_new w (.cells #[v0, v1, v2, v3] t)))
  exact ⟨h 0, h 1, h 2, h 3⟩
theorem made_below (w : World) (o : Obj) {wr : World} (hb : Below (w.heap.size + 1) (w.alloc o) wr) : Below w.heap.size w wr := ((Below.refl _ _).alloc (Nat.le_refl _) o).trans (hb.mono (Nat.le_succ _))
set_option maxHeartbeats 4000000 in
set_option maxRecDepth 100000 in
theorem countOf_in (d : CD) (aF : Option Addr) (cF : Nat) (v1 v2 v3 : Value) (hn : d.nF ≤ 1048576) (ho : ∀ i, i < d.nF → (d.fs i).n ≤ 1048576) (w : World) (hC : ∀ i, i < d.nF → ∃ b o oa oc, aF = some ⟨b, o, none⟩ ∧ FuncIn w b o i (d.fs i) oa oc) :
    Calls Tryd.prog 11 #[.agg #[.slice aF d.nF cF, v1, v2, v3]] w fun ev w' => ev = .returned (.int .i64 (sumL (FL1 d) d.nF : Nat)) ∧ Below w.heap.size w w' := by
  have HC := toHid hC
  have HO := toHid ho
  clear hC ho
  go_enter Tryd.func11, Tryd.ntmps11
  go_wp2_with fail
  go_loopg [3, 4] (d.nF + 1) (fun gk v3' v4 wr => ∃ i : Nat, gk = d.nF + 1 - i ∧ i ≤ d.nF ∧ v3' = .int .i64 (sumL (FL1 d) i : Nat) ∧ v4 = .int .i64 (i : Int) ∧ Below (w.heap.size + 1) (w.alloc (.cells #[.slice aF d.nF cF, v1, v2, v3] 26)) wr)
  case atStart => exact ⟨0, rfl, Nat.zero_le _, rfl, rfl, Below.refl _ _⟩
  case round =>
    obtain ⟨i, hgk, hi, rfl, rfl, hbr⟩ := hrel
    have HG := toHid hgk
    clear hgk
    obtain ⟨x0, _, _, _⟩ := code_cell hbr
    have hbw := made_below _ _ hbr
    have HBR := toHid hbr
    clear hbr
    by_cases hlt : i < d.nF
    · have hJ : (i : Int) < (d.nF : Int) := by omega
      have hJ0 : (0 : Int) ≤ (i : Int) := by omega
      obtain ⟨bF, oF, oa, oc, rfl, hFI⟩ := HC.out i hlt
      obtain ⟨c0, c1, c2, c3, c4, c5, _⟩ := hFI.below hbw
      clear hFI
      have hs := sumL_le (L := FL1 d) (m := 1048576) (n := i) fun k hk => HO.out k (by omega)
      have hf := HO.out i hlt
      have e1 : IntKind.i64.wrap ((sumL (FL1 d) i : Nat) + ((d.fs i).n : Int)) = ((sumL (FL1 d) (i + 1) : Nat) : Int) := by
        rw [wrapI _ (by omega) (by omega)]
        show _ = ((sumL (FL1 d) i + (d.fs i).n : Nat) : Int)
        omega
      go_wp2_with fail
      go_roundg (d.nF + 1 - (i + 1))
      case measure => have := HG.out; omega
      case rel => exact ⟨i + 1, rfl, by omega, rfl, by go_num, HBR.out⟩
    · obtain rfl : i = d.nF := by omega
      go_wp2_with fail
      go_ret
      exact ⟨rfl, hbw⟩
set_option maxHeartbeats 1000000 in
theorem dash_any (s : ByteArray) (w : World) :
    Calls Tryd.prog 23 #[.string s] w fun ev w' => ev = .returned (.string (dashB s)) ∧ w' = w := by
  by_cases h : s.size = 0
  · obtain rfl : s = ⟨#[]⟩ := by
      obtain ⟨d⟩ := s
      have : d.size = 0 := h
      simp_all
    go_enter Tryd.func23, Tryd.ntmps23
    go_wp2_with fail
    go_ret
    exact ⟨rfl, rfl⟩
  · have e : s.toList.isEmpty = false := by
      cases hl : s.toList with
      | nil =>
        exfalso
        apply h
        have := congrArg List.length hl
        rw [ByteArray.toList_eq] at this
        exact this
      | cons _ _ => rfl
    have e2 : dashB s = s := if_neg h
    rw [e2]
    go_enter Tryd.func23, Tryd.ntmps23
    go_wp2_with fail
    go_ret
    exact ⟨rfl, rfl⟩
end Go.Proofs.YtgpfjlejmcdpmaaDoor
