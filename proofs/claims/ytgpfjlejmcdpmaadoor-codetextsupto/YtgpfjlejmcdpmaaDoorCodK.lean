/- Package code: Count, counted, Verify of code that goes straight on, by walks. -/
import Derived.Test.YtgpfjlejmcdpmaaDoorCodB
import Derived.Test.YtgpfjlejmcdpmaaDoorCodJ
namespace Go.Proofs.YtgpfjlejmcdpmaaDoor
open Go.RowKit

/-- Code in memory: Funcs, and their ops. -/
structure CodeAt (w : World) (bF oF nF : Nat) (ob oo L cp : Nat → Nat) (nm : Nat → Nat → ByteArray) : Prop where
  func : ∀ i, i < nF → FuncAt w bF oF i (.slice (some ⟨ob i, oo i, none⟩) (L i) (cp i))
  ops : ∀ i, i < nF → OpsAt w (ob i) (oo i) (L i) (nm i)
  lt : ∀ i, i < nF → ob i < w.heap.size
  few : ∀ i, i < nF → L i ≤ 200000
theorem FuncAt.below {w w' : World} {b o i B : Nat} {v : Value} (h : FuncAt w b o i v) (hb : Below B w w') (hB : b < B) : FuncAt w' b o i v :=
  ⟨(hb.cell (p := ⟨b, o + i * 6, none⟩) hB).trans h.1, (hb.cell (p := ⟨b, o + i * 6 + 1, none⟩) hB).trans h.2.1, (hb.cell (p := ⟨b, o + i * 6 + 2, none⟩) hB).trans h.2.2.1, (hb.cell (p := ⟨b, o + i * 6 + 3, none⟩) hB).trans h.2.2.2.1, (hb.cell (p := ⟨b, o + i * 6 + 4, none⟩) hB).trans h.2.2.2.2.1, (hb.cell (p := ⟨b, o + i * 6 + 5, none⟩) hB).trans h.2.2.2.2.2⟩
theorem CodeAt.below {w w' : World} {bF oF nF : Nat} {ob oo L cp : Nat → Nat} {nm : Nat → Nat → ByteArray} (h : CodeAt w bF oF nF ob oo L cp nm) (hb : Below w.heap.size w w') : CodeAt w' bF oF nF ob oo L cp nm :=
  ⟨fun i hi => (h.func i hi).below hb (lt_of_cell (h.func i hi).1), fun i hi => (h.ops i hi).below hb (h.lt i hi), fun i hi => Nat.lt_of_lt_of_le (h.lt i hi) hb.size, h.few⟩
def sumL (L : Nat → Nat) : Nat → Nat
  | 0 => 0
  | n + 1 => sumL L n + L n
theorem sumL_le {L : Nat → Nat} {m : Nat} : ∀ {n : Nat}, (∀ i, i < n → L i ≤ m) → sumL L n ≤ n * m
  | 0, _ => by unfold sumL; omega
  | n + 1, h => by
    unfold sumL
    have := sumL_le (n := n) fun i hi => h i (by omega)
    have := h n (by omega)
    rw [Nat.add_mul]
    omega
set_option maxHeartbeats 4000000 in
set_option maxRecDepth 100000 in
theorem count_any (bF oF nF cF : Nat) (ob oo L cp : Nat → Nat) (nm : Nat → Nat → ByteArray) (v1 v2 v3 : Value) (hn : nF ≤ 1000) (w : World) (hC : CodeAt w bF oF nF ob oo L cp nm) :
    Calls Tryd.prog 10 #[.agg #[.slice (some ⟨bF, oF, none⟩) nF cF, v1, v2, v3]] w fun ev w' => ev = .returned (.int .i64 (sumL L nF : Nat)) ∧ Below w.heap.size w w' := by
  have HC := toHid hC
  clear hC
  go_enter Tryd.func10, Tryd.ntmps10
  go_wp2_with fail
  go_loopg [3, 9] (nF + 1) (fun gk v3 v9 wr => ∃ i : Nat, gk = nF + 1 - i ∧ i ≤ nF ∧ v3 = .int .i64 (sumL L i : Nat) ∧ v9 = .int .i64 (i : Int) ∧ Below w.heap.size w wr)
  case atStart => exact ⟨0, rfl, Nat.zero_le _, rfl, rfl, (Below.refl _ _).alloc (Nat.le_refl _) _⟩
  case round =>
    obtain ⟨i, hgk, hi, rfl, rfl, hbr⟩ := hrel
    have HG := toHid hgk
    clear hgk
    by_cases hlt : i < nF
    · have hJ : (i : Int) < (nF : Int) := by omega
      have hJ0 : (0 : Int) ≤ (i : Int) := by omega
      obtain ⟨c0, c1, c2, c3, c4, c5⟩ := (HC.out.below hbr).func i hlt
      have hs := sumL_le (L := L) (m := 200000) (n := i) fun k hk => HC.out.few k (by omega)
      have hf := HC.out.few i hlt
      have e1 : IntKind.i64.wrap ((sumL L i : Nat) + (L i : Int)) = ((sumL L (i + 1) : Nat) : Int) := by
        rw [wrapI _ (by omega) (by omega)]
        show _ = ((sumL L i + L i : Nat) : Int)
        omega
      go_wp2_with fail
      go_roundg (nF + 1 - (i + 1))
      case measure => have := HG.out; omega
      case rel => exact ⟨i + 1, rfl, by omega, rfl, by go_num, hbr.alloc hbr.size _⟩
    · obtain rfl : i = nF := by omega
      go_wp2_with fail
      go_ret
      exact ⟨rfl, hbr⟩
set_option maxHeartbeats 4000000 in
set_option maxRecDepth 100000 in
theorem counted_ok (bF oF nF cF : Nat) (ob oo L cp : Nat → Nat) (nm : Nat → Nat → ByteArray) (h0 : 0 < nF) (hn : nF ≤ 1000) (w : World) (hC : CodeAt w bF oF nF ob oo L cp nm) :
    Calls Tryd.prog 27 #[.slice (some ⟨bF, oF, none⟩) nF cF] w fun ev w' => ev = .returned (.bool true) ∧ Below w.heap.size w w' := by
  obtain ⟨_, d1, d2, d3, d4, _⟩ := hC.func 0 h0
  rw [Nat.zero_mul, Nat.add_zero] at d1 d2 d3 d4
  have hz : ((nF : Int) == 0) = false := by rw [beq_eq_false_iff_ne]; omega
  have hp : (0 : Int) < (nF : Int) := by omega
  have HC := toHid hC
  clear hC
  go_enter Tryd.func27, Tryd.ntmps27
  go_wp2_with fail
  clear d1 d2 d3 d4
  go_loopg [40] (nF + 1) (fun gk v40 wr => ∃ i : Nat, gk = nF + 1 - i ∧ i ≤ nF ∧ v40 = .int .i64 (i : Int) ∧ Below w.heap.size w wr)
  case atStart => exact ⟨0, rfl, Nat.zero_le _, rfl, Below.refl _ _⟩
  case round =>
    obtain ⟨i, hgk, hi, rfl, hbr⟩ := hrel
    have HG := toHid hgk
    clear hgk
    by_cases hlt : i < nF
    · have hJ : (i : Int) < (nF : Int) := by omega
      have hJ0 : (0 : Int) ≤ (i : Int) := by omega
      obtain ⟨c0, c1, c2, c3, c4, c5⟩ := (HC.out.below hbr).func i hlt
      go_wp2_with fail
      obtain ⟨k1, k2, k3⟩ := two_made wr (.cells #[.string ⟨#[]⟩, .int .i64 0, .int .i64 0, .int .i64 0, .int .i64 0, .slice (some ⟨ob i, oo i, none⟩) (L i) (cp i)] 39) (.cells #[.int .i64 0, .int .i64 0, .int .i64 0, .int .i64 0] 3)
      obtain ⟨w3, hw3⟩ : ∃ w3, w3 = (wr.alloc (.cells #[.string ⟨#[]⟩, .int .i64 0, .int .i64 0, .int .i64 0, .int .i64 0, .slice (some ⟨ob i, oo i, none⟩) (L i) (cp i)] 39)).alloc (.cells #[.int .i64 0, .int .i64 0, .int .i64 0, .int .i64 0] 3) := ⟨_, rfl⟩
      rw [← hw3] at k1 k2 k3 ⊢
      obtain ⟨q4, hq4⟩ : ∃ q4, q4 = wr.heap.size := ⟨_, rfl⟩
      rw [← hq4] at k1 k2 ⊢
      obtain ⟨q5, hq5⟩ : ∃ q5, q5 = q4 + 1 := ⟨_, rfl⟩
      rw [← hq5] at k2 ⊢
      have f1 : w3.cell? ⟨q4, 1, none⟩ = some (.int .i64 0) := (cell_of_row _ _ 1 _ _ _ k1).trans rfl
      have f2 : w3.cell? ⟨q4, 2, none⟩ = some (.int .i64 0) := (cell_of_row _ _ 2 _ _ _ k1).trans rfl
      have g : ∀ j, j < 4 → w3.cell? ⟨q5, j, none⟩ = some (.int .i64 0) := fun j hj => by
        rw [cell_of_row _ _ j _ _ _ k2]
        match j, hj with
        | 0, _ => rfl
        | 1, _ => rfl
        | 2, _ => rfl
        | 3, _ => rfl
      have HG4 := toHid g
      have HB3 : Hid (Below w.heap.size w w3) := hbr.trans (k3.mono hbr.size)
      have HF1 := toHid f1
      have HF2 := toHid f2
      clear hw3 k1 k2 k3 hq4 hq5 c0 c1 c2 c3 c4 c5 f1 f2 g
      go_loopg [54] 5 (fun gj v54 wr2 => ∃ j : Nat, gj = 5 - j ∧ j ≤ 4 ∧ v54 = .int .i64 (j : Int) ∧ Below w3.heap.size w3 wr2)
      case atStart => exact ⟨0, rfl, Nat.zero_le _, rfl, Below.refl _ _⟩
      case round =>
        obtain ⟨j, hgj, hj, rfl, hb4⟩ := hrel
        have HGJ := toHid hgj
        clear hgj
        by_cases hjl : j < 4
        · have hK : (j : Int) < 4 := by omega
          have hK0 : (0 : Int) ≤ (j : Int) := by omega
          have x0 := (hb4.cell (p := ⟨q5, j, none⟩) (lt_of_cell (HG4.out j hjl))).trans (HG4.out j hjl)
          go_wp2_with fail
          go_roundg (5 - (j + 1))
          case measure => have := HGJ.out; omega
          case rel => exact ⟨j + 1, rfl, by omega, by go_num, hb4⟩
        · obtain rfl : j = 4 := by omega
          have x1 := (hb4.cell (p := ⟨q4, 1, none⟩) (lt_of_cell HF1.out)).trans HF1.out
          have x2 := (hb4.cell (p := ⟨q4, 2, none⟩) (lt_of_cell HF2.out)).trans HF2.out
          have HBE := toHid (HB3.out.trans (hb4.mono HB3.out.size))
          go_wp2_with fail
          all_goals go_roundg (nF + 1 - (i + 1))
          all_goals (first | (have := HG.out; omega) | exact ⟨i + 1, rfl, by omega, by go_num, HBE.out⟩)
    · obtain rfl : i = nF := by omega
      go_wp2_with fail
      go_ret
      exact ⟨rfl, hbr⟩
end Go.Proofs.YtgpfjlejmcdpmaaDoor
