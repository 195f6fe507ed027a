/- tame: how much there is of something, by a walk. -/
import Derived.Test.YtgpfjlejmcdpmaaDoorCodW
import Derived.Deep.RegionHeld3
namespace Go.Proofs.YtgpfjlejmcdpmaaDoor
open Go.RowKit

theorem sumL_mem {L : Nat → Nat} : ∀ {n i : Nat}, i < n → L i ≤ sumL L n
  | n + 1, i, h => by
    unfold sumL
    by_cases e : i = n
    · subst e; omega
    · have := sumL_mem (L := L) (n := n) (i := i) (by omega)
      omega
/-- What tame tells, if it says yes. -/
def TamePost (d : CD) (W : World) : Ending → World → Prop := fun ev w' => ∃ b, ev = .returned (.bool b) ∧ (b = true → d.nF ≤ 100 ∧ d.nI ≤ 300 ∧ d.nS ≤ 300 ∧ d.nN ≤ 300 ∧ ∀ i, i < d.nF → (d.fs i).n ≤ 2000) ∧ Below W.heap.size W w'
theorem tame_end {d : CD} {W w' : World} {b : Bool} (h : b = true → d.nF ≤ 100 ∧ d.nI ≤ 300 ∧ d.nS ≤ 300 ∧ d.nN ≤ 300 ∧ ∀ i, i < d.nF → (d.fs i).n ≤ 2000) (hb : Below W.heap.size W w') : TamePost d W (.returned (.bool b)) w' := ⟨b, rfl, h, hb⟩
set_option maxHeartbeats 8000000 in
set_option maxRecDepth 100000 in
theorem tame_any (d : CD) (aF aI aS aN : Option Addr) (cF cI cS cN : Nat) (hn : d.nF ≤ 1048576) (hnI : d.nI ≤ 1048576) (hnS : d.nS ≤ 1048576) (hnN : d.nN ≤ 1048576) (ho : ∀ i, i < d.nF → (d.fs i).n ≤ 1048576 ∧ (d.fs i).name.size ≤ 1048576) (hs : ∀ i, i < d.nS → (d.ss i).size ≤ 1048576)
    (W : World) (hC : CodeIn W d aF aI aS aN) :
    Calls Tryd.prog 6 #[.agg #[.slice aF d.nF cF, .slice aI d.nI cI, .slice aS d.nS cS, .slice aN d.nN cN]] W (TamePost d W) := by
  obtain ⟨w1, hw1⟩ : ∃ w1, w1 = W.alloc (.cells #[.slice aF d.nF cF, .slice aI d.nI cI, .slice aS d.nS cS, .slice aN d.nN cN] 26) := ⟨_, rfl⟩
  have hs1 : w1.heap.size = W.heap.size + 1 := by rw [hw1]; simp
  have HCC : Hid (∀ wr, Below w1.heap.size w1 wr → Below W.heap.size W wr ∧ wr.cell? ⟨W.heap.size, 0, none⟩ = some (.slice aF d.nF cF) ∧ wr.cell? ⟨W.heap.size, 1, none⟩ = some (.slice aI d.nI cI) ∧ wr.cell? ⟨W.heap.size, 2, none⟩ = some (.slice aS d.nS cS) ∧ wr.cell? ⟨W.heap.size, 3, none⟩ = some (.slice aN d.nN cN)) := fun wr hb => by
    rw [hs1, hw1] at hb
    exact ⟨made_below _ _ hb, code_cell hb⟩
  have HW := toHid hw1
  have HC := toHid hC
  have HO := toHid ho
  have HS := toHid hs
  clear hw1 hC ho hs1 hs
  go_enter Tryd.func6, Tryd.ntmps6
  go_wp2_with fail
  rw [← HW.out]
  go_loopg [3, 4] (d.nS + 1) (fun gk v3 v4 wr => ∃ (i : Nat), gk = d.nS + 1 - i ∧ i ≤ d.nS ∧ v3 = .int .i64 (sumL (fun i => (d.ss i).size) i : Nat) ∧ v4 = .int .i64 (i : Int) ∧ Below w1.heap.size w1 wr)
  case atStart => exact ⟨0, rfl, Nat.zero_le _, rfl, rfl, Below.refl _ _⟩
  case round =>
    obtain ⟨i, hgk, hi, rfl, rfl, hb1⟩ := hrel
    have HG := toHid hgk
    clear hgk
    obtain ⟨hbW, x0, x1, x2, x3⟩ := HCC.out _ hb1
    have hsum := sumL_le (L := fun i => (d.ss i).size) (m := 1048576) (n := i) fun k hk => HS.out k (by omega)
    by_cases hlt : i < d.nS
    · have hJ : (i : Int) < (d.nS : Int) := by omega
      have hJ0 : (0 : Int) ≤ (i : Int) := by omega
      obtain ⟨bS, oS, rfl, y0⟩ := HC.out.strs i hlt
      replace y0 := (hbW.cell (p := ⟨bS, oS + i, none⟩) (lt_of_cell y0)).trans y0
      have hf := HS.out i hlt
      have e1 : IntKind.i64.wrap ((sumL (fun i => (d.ss i).size) i : Nat) + ((d.ss i).size : Int)) = ((sumL (fun i => (d.ss i).size) (i + 1) : Nat) : Int) := by
        rw [wrapI _ (by omega) (by omega)]
        show _ = ((sumL (fun i => (d.ss i).size) i + (d.ss i).size : Nat) : Int)
        omega
      have HB1 := toHid hb1
      clear hb1 hbW
      go_wp2_with fail
      go_roundg (d.nS + 1 - (i + 1))
      case measure => have := HG.out; omega
      case rel => exact ⟨i + 1, rfl, by omega, rfl, by go_num, HB1.out⟩
    · obtain rfl : i = d.nS := by omega
      generalize sumL (fun i => (d.ss i).size) d.nS = T0 at hsum ⊢
      have HB1 := toHid hb1
      clear hb1 hbW HG
      go_wp2_with fail
      clear x0 x1 x2 x3
      go_loopg [3, 5] (d.nF + 1) (fun gk v3 v5 wr => ∃ (i : Nat), gk = d.nF + 1 - i ∧ i ≤ d.nF ∧ v3 = .int .i64 ((T0 + sumL (fun i => (d.fs i).n + (d.fs i).name.size) i : Nat) : Int) ∧ v5 = .int .i64 (i : Int) ∧ Below w1.heap.size w1 wr)
      case atStart => exact ⟨0, rfl, Nat.zero_le _, rfl, rfl, HB1.out⟩
      case round =>
        obtain ⟨i, hgk, hi, rfl, rfl, hb1⟩ := hrel
        have HG := toHid hgk
        clear hgk
        obtain ⟨hbW, x0, x1, x2, x3⟩ := HCC.out _ hb1
        have hsum2 := sumL_le (L := fun i => (d.fs i).n + (d.fs i).name.size) (m := 2097152) (n := i) fun k hk => by have := HO.out k (by omega); show _ + _ ≤ _; omega
        by_cases hlt : i < d.nF
        · have hJ : (i : Int) < (d.nF : Int) := by omega
          have hJ0 : (0 : Int) ≤ (i : Int) := by omega
          obtain ⟨bF, oF, fa, fc, rfl, hFI⟩ := HC.out.func i hlt
          obtain ⟨c0, c1, c2, c3, c4, c5, _⟩ := hFI.below hbW
          have hf := HO.out i hlt
          have e1 : IntKind.i64.wrap (((T0 + sumL (fun i => (d.fs i).n + (d.fs i).name.size) i : Nat) : Int) + ((d.fs i).n : Int)) = ((T0 + sumL (fun i => (d.fs i).n + (d.fs i).name.size) i + (d.fs i).n : Nat) : Int) := by
            rw [wrapI _ (by omega) (by omega)]
            omega
          have e2 : IntKind.i64.wrap (((T0 + sumL (fun i => (d.fs i).n + (d.fs i).name.size) i + (d.fs i).n : Nat) : Int) + ((d.fs i).name.size : Int)) = ((T0 + sumL (fun i => (d.fs i).n + (d.fs i).name.size) (i + 1) : Nat) : Int) := by
            rw [wrapI _ (by omega) (by omega)]
            show _ = ((T0 + (sumL (fun i => (d.fs i).n + (d.fs i).name.size) i + ((d.fs i).n + (d.fs i).name.size)) : Nat) : Int)
            omega
          have HB1 := toHid hb1
          clear hb1 hbW hFI c1 c2 c3 c4
          go_upto_region 9 with fail
          generalize (T0 + sumL (fun i => (d.fs i).n + (d.fs i).name.size) i + (d.fs i).n : Nat) = M2 at e1 e2
          generalize hM3 : (T0 + sumL (fun i => (d.fs i).n + (d.fs i).name.size) (i + 1) : Nat) = M3 at e2
          generalize (T0 + sumL (fun i => (d.fs i).n + (d.fs i).name.size) i : Nat) = M1 at e1 ⊢
          have HM3 := toHid hM3
          clear hM3 hsum2
          go_region_held3 (fun w => w.cell? ⟨W.heap.size, 0, none⟩ = some (.slice (some ⟨bF, oF, none⟩) d.nF cF) ∧ w.cell? ⟨bF, oF + i * 6, none⟩ = some (.string (d.fs i).name) ∧ w.cell? ⟨bF, oF + i * 6 + 5, none⟩ = some (.slice fa (d.fs i).n fc)) (exact ⟨x0, c0, c5⟩) (fail)
          go_wp2_with fail
          go_roundg (d.nF + 1 - (i + 1))
          case measure => have := HG.out; omega
          case rel => exact ⟨i + 1, rfl, by omega, by rw [HM3.out], by go_num, HB1.out.drew⟩
        · obtain rfl : i = d.nF := by omega
          have HT : Hid (∀ i, i < d.nF → T0 + sumL (fun i => (d.fs i).n + (d.fs i).name.size) d.nF ≤ 2000 → (d.fs i).n ≤ 2000) := fun i hi h => by
            have := sumL_mem (L := fun i => (d.fs i).n + (d.fs i).name.size) hi
            have e : (d.fs i).n + (d.fs i).name.size ≤ sumL (fun i => (d.fs i).n + (d.fs i).name.size) d.nF := this
            omega
          have hM : T0 + sumL (fun i => (d.fs i).n + (d.fs i).name.size) d.nF ≤ 10000000000000 := by omega
          generalize (T0 + sumL (fun i => (d.fs i).n + (d.fs i).name.size) d.nF : Nat) = M at HT hM ⊢
          have HBE := toHid hbW
          clear hb1 hbW hsum hsum2
          by_cases h0 : (M : Int) ≤ 2000
          · by_cases h1 : (d.nF : Int) ≤ 100
            · by_cases h2 : (d.nI : Int) ≤ 300
              · by_cases h3 : (d.nS : Int) ≤ 300
                · by_cases h4 : (d.nN : Int) ≤ 300
                  · go_wp2_with fail
                    go_ret
                    exact tame_end (fun _ => ⟨by omega, by omega, by omega, by omega, fun i hi => HT.out i hi (by omega)⟩) HBE.out
                  · go_wp2_with fail
                    go_ret
                    exact tame_end (fun h => by cases h) HBE.out
                · go_wp2_with fail
                  go_ret
                  exact tame_end (fun h => by cases h) HBE.out
              · go_wp2_with fail
                go_ret
                exact tame_end (fun h => by cases h) HBE.out
            · go_wp2_with fail
              go_ret
              exact tame_end (fun h => by cases h) HBE.out
          · go_wp2_with fail
            go_ret
            exact tame_end (fun h => by cases h) HBE.out
end Go.Proofs.YtgpfjlejmcdpmaaDoor
