/- The law CodeTexts, by a walk. -/
import Derived.Test.YtgpfjlejmcdpmaaDoorCodTB
namespace Go.Proofs.YtgpfjlejmcdpmaaDoor
open Go.RowKit

/-- The code's own block, and what was there. -/
structure CG (W : World) (cs : Array Value) (w : World) : Prop where
  far : Below W.heap.size W w
  own : w.heap[W.heap.size]? = some (.cells cs 26)
theorem CG.grow {W : World} {cs : Array Value} {w w' : World} (h : CG W cs w) (hb : Below w.heap.size w w') : CG W cs w' := ⟨h.far.trans (hb.mono h.far.size), (hb.block _ (lt_of_heap h.own)).trans h.own⟩
theorem CG.drew {W : World} {cs : Array Value} {w : World} (h : CG W cs w) : CG W cs w.drew := h.grow (Below.refl _ _).drew
theorem CG.four {W : World} {v0 v1 v2 v3 : Value} {w : World} (h : CG W #[v0, v1, v2, v3] w) :
    w.cell? ⟨W.heap.size, 0, none⟩ = some v0 ∧ w.cell? ⟨W.heap.size, 1, none⟩ = some v1 ∧ w.cell? ⟨W.heap.size, 2, none⟩ = some v2 ∧ w.cell? ⟨W.heap.size, 3, none⟩ = some v3 :=
  ⟨(cell_of_row _ _ 0 _ _ _ h.own).trans rfl, (cell_of_row _ _ 1 _ _ _ h.own).trans rfl, (cell_of_row _ _ 2 _ _ _ h.own).trans rfl, (cell_of_row _ _ 3 _ _ _ h.own).trans rfl⟩
set_option maxHeartbeats 8000000 in
set_option maxRecDepth 100000 in
/-- THE LAW, of any code that is no greater than what comes in. -/
theorem codeTexts_any (d : CD) (aF aI aS aN : Option Addr) (cF cI cS cN : Nat) (hd : d.Few) (W : World) (hC : CodeIn W d aF aI aS aN) (hT : Tabbed W) :
    Calls Tryd.prog 3 #[.agg #[.slice aF d.nF cF, .slice aI d.nI cI, .slice aS d.nS cS, .slice aN d.nN cN]] W fun ev w' => ev = .returned (.bool true) ∧ Below W.heap.size W w' := by
  have hG0 : CG W #[.slice aF d.nF cF, .slice aI d.nI cI, .slice aS d.nS cS, .slice aN d.nN cN] (W.alloc (.cells #[.slice aF d.nF cF, .slice aI d.nI cI, .slice aS d.nS cS, .slice aN d.nN cN] 26)) := ⟨(Below.refl _ _).alloc (Nat.le_refl _) _, heap_alloc_new _ _⟩
  obtain ⟨w1, hw1⟩ : ∃ w1, w1 = W.alloc (.cells #[.slice aF d.nF cF, .slice aI d.nI cI, .slice aS d.nS cS, .slice aN d.nN cN] 26) := ⟨_, rfl⟩
  rw [← hw1] at hG0
  have HW := toHid hw1
  have HC : Hid (∀ w, CG W #[.slice aF d.nF cF, .slice aI d.nI cI, .slice aS d.nS cS, .slice aN d.nN cN] w → CodeIn w d aF aI aS aN) := fun w h => hC.below h.far
  have HT : Hid (∀ w, CG W #[.slice aF d.nF cF, .slice aI d.nI cI, .slice aS d.nS cS, .slice aN d.nN cN] w → Tabbed w) := fun w h => hT.below h.far (Nat.le_refl _)
  have HD := toHid hd
  have HG0 := toHid hG0
  clear hw1 hC hT hd hG0
  go_enter Tryd.func3, Tryd.ntmps3
  go_wp2_with fail
  rw [← HW.out]
  refine (halt_any w1 (HT.out _ HG0.out)).mono ?_
  rintro ev w2 ⟨rfl, hb2⟩
  have HG2 := toHid (HG0.out.grow hb2)
  obtain ⟨x0, x1, x2, x3⟩ := HG2.out.four
  clear hb2
  go_wp2_with fail
  refine (tame_any d aF aI aS aN cF cI cS cN HD.out.nF HD.out.nI HD.out.nS HD.out.nN HD.out.ops HD.out.strs w2 (HC.out _ HG2.out)).mono ?_
  rintro ev w3 ⟨b, rfl, hb, hb3⟩
  have HG3 := toHid (HG2.out.grow hb3)
  have HB := toHid hb
  clear x0 x1 x2 x3 hb3 hb
  obtain ⟨x0, x1, x2, x3⟩ := HG3.out.four
  cases b with
  | false =>
    go_wp2_with fail
    go_ret
    exact ⟨rfl, HG3.out.far⟩
  | true =>
    have HLN := toHid (code_len HD.out (HB.out rfl))
    go_wp2_with fail
    have hG := HG3.out
    have HFI : Hid (∀ w aF aI aS aN, CodeIn w d aF aI aS aN → ∀ cF cI cS cN, Tabbed w → Calls Tryd.prog 7 #[.agg #[.slice aF d.nF cF, .slice aI d.nI cI, .slice aS d.nS cS, .slice aN d.nN cN]] w fun ev w' => ev = .returned (.string ⟨(codeB (fun s => quotedB s.data.toList) d).toArray⟩) ∧ Below w.heap.size w w') := fun w aF aI aS aN h cF cI cS cN ht => text_any (fun s => quotedB s.data.toList) d aF aI aS aN cF cI cS cN HD.out.fits HLN.out w h ht (fun i hi => by have := quoted_few (d.ss i) (HD.out.strs i hi); show (quotedB (d.ss i).data.toList).size ≤ _; omega) (fun i hi w => quote_any (d.ss i) (HD.out.strs i hi) w)
    have HCT : Hid (∀ w, CG W #[.slice aF d.nF cF, .slice aI d.nI cI, .slice aS d.nS cS, .slice aN d.nN cN] w → Calls Tryd.prog 9 #[.agg #[.slice aF d.nF cF, .slice aI d.nI cI, .slice aS d.nS cS, .slice aN d.nN cN]] w fun ev w' => ev = .returned (.string ⟨(codeB (fun s => quotedB s.data.toList) d).toArray⟩) ∧ Below w.heap.size w w') := fun w h => codeText_any d aF aI aS aN cF cI cS cN HD.out.fits HD.out.strs HLN.out w (HC.out w h)
    generalize (⟨(codeB (fun s => quotedB s.data.toList) d).toArray⟩ : ByteArray) = txt at HFI HCT
    have HCO : Hid (∀ w, CG W #[.slice aF d.nF cF, .slice aI d.nI cI, .slice aS d.nS cS, .slice aN d.nN cN] w → Calls Tryd.prog 8 #[.agg #[.slice aF d.nF cF, .slice aI d.nI cI, .slice aS d.nS cS, .slice aN d.nN cN]] w fun ev w' => ∃ aF' aI' aS' aN' cF' cI' cS' cN', ev = .returned (.agg #[.slice aF' d.nF cF', .slice aI' d.nI cI', .slice aS' d.nS cS', .slice aN' d.nN cN']) ∧ CodeIn w' d aF' aI' aS' aN' ∧ Below w.heap.size w w') := fun w h => codeOf_any d aF aI aS aN cF cI cS cN HD.out.nF HD.out.nI HD.out.nS HD.out.nN (fun i hi => (HD.out.ops i hi).1) w (HC.out w h)
    have HCN : Hid (∀ w aF aI aS aN, CodeIn w d aF aI aS aN → ∀ cF v1 v2 v3, Calls Tryd.prog 10 #[.agg #[.slice aF d.nF cF, v1, v2, v3]] w fun ev w' => ev = .returned (.int .i64 (sumL (FL1 d) d.nF : Nat)) ∧ Below w.heap.size w w') := fun w aF aI aS aN h cF v1 v2 v3 => count_in d aF cF v1 v2 v3 HD.out.nF (fun i hi => (HD.out.ops i hi).1) w h.func
    have HCM : Hid (∀ w, CG W #[.slice aF d.nF cF, .slice aI d.nI cI, .slice aS d.nS cS, .slice aN d.nN cN] w → ∀ v1 v2 v3, Calls Tryd.prog 11 #[.agg #[.slice aF d.nF cF, v1, v2, v3]] w fun ev w' => ev = .returned (.int .i64 (sumL (FL1 d) d.nF : Nat)) ∧ Below w.heap.size w w') := fun w h v1 v2 v3 => countOf_in d aF cF v1 v2 v3 HD.out.nF (fun i hi => (HD.out.ops i hi).1) w (HC.out w h).func
    generalize (sumL (FL1 d) d.nF : Nat) = cnt at HCN HCM
    clear x0 x1 x2 x3
    go_region_held3 (fun w => w.cell? ⟨W.heap.size, 0, none⟩ = some (.slice aF d.nF cF) ∧ w.cell? ⟨W.heap.size, 1, none⟩ = some (.slice aI d.nI cI) ∧ w.cell? ⟨W.heap.size, 2, none⟩ = some (.slice aS d.nS cS) ∧ w.cell? ⟨W.heap.size, 3, none⟩ = some (.slice aN d.nN cN)) (first | with_reducible exact hG.four | with_reducible exact hG.drew.four) (first
      | (go_at_call 8; refine (HCO.out _ (by first | with_reducible exact hG | with_reducible exact hG.drew)).mono ?_; rintro ev wx ⟨bF, bI, bS, bN, eF, eI, eS, eN, rfl, hCI, hbx⟩; replace hG : CG W #[.slice aF d.nF cF, .slice aI d.nI cI, .slice aS d.nS cS, .slice aN d.nN cN] wx := (by first | with_reducible exact hG.grow hbx | with_reducible exact hG.drew.grow hbx); clear hbx)
      | (go_at_call 7; refine (HFI.out _ _ _ _ _ (by with_reducible exact hCI) _ _ _ _ (HT.out _ (by with_reducible exact hG))).mono ?_; rintro ev wx ⟨rfl, hbx⟩; replace hG : CG W #[.slice aF d.nF cF, .slice aI d.nI cI, .slice aS d.nS cS, .slice aN d.nN cN] wx := hG.grow hbx; clear hbx hCI)
      | (go_at_call 9; refine (HCT.out _ (by first | with_reducible exact hG | with_reducible exact hG.drew)).mono ?_; rintro ev wx ⟨rfl, hbx⟩; replace hG : CG W #[.slice aF d.nF cF, .slice aI d.nI cI, .slice aS d.nS cS, .slice aN d.nN cN] wx := hG.grow hbx; clear hbx)
      | (go_at_call 10; refine (HCN.out _ _ _ _ _ (by with_reducible exact hCI) _ _ _ _).mono ?_; rintro ev wx ⟨rfl, hbx⟩; replace hG : CG W #[.slice aF d.nF cF, .slice aI d.nI cI, .slice aS d.nS cS, .slice aN d.nN cN] wx := hG.grow hbx; clear hbx hCI)
      | (go_at_call 11; refine (HCM.out _ (by with_reducible exact hG) _ _ _).mono ?_; rintro ev wx ⟨rfl, hbx⟩; replace hG : CG W #[.slice aF d.nF cF, .slice aI d.nI cI, .slice aS d.nS cS, .slice aN d.nN cN] wx := hG.grow hbx; clear hbx))
    go_wp2_with fail
    go_ret
    exact ⟨rfl, hG.far⟩
end Go.Proofs.YtgpfjlejmcdpmaaDoor
