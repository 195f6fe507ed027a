/- near and sameMemory, by contracts. -/
import Derived.Test.YtnenggkgfhgcnaaGreatDoorJoD
namespace Go.Proofs.YtnenggkgfhgcnaaGreatDoor
open Go.RowKit

set_option maxHeartbeats 2000000 in
set_option maxRecDepth 100000 in
theorem near_yes (p o : Nat) (m : MD) (w : World) (h : RepM p o m w) (h1 : m.W.length ≤ 1000) (h2 : m.R.length ≤ 100) (h3 : m.K.length ≤ 100) (h4 : m.I.length ≤ 100) (h5 : m.C.length ≤ 1000) :
    Calls Tryz.prog 8 #[.pointer (some ⟨p, o, none⟩)] w fun ev w' => ev = .returned (.bool true) ∧ w' = w := by
  obtain ⟨_, _, _, _, _, _, ⟨c0, c1, c2, c3, c4, c5, c6, c7, c8, c9, c10⟩, ⟨_, _, rfl, _⟩, ⟨_, _, rfl, _⟩, ⟨_, _, rfl, _⟩, ⟨_, _, rfl, _⟩, ⟨_, _, rfl, _⟩⟩ := h
  have d1 : (m.W.length : Int) ≤ 1000 := by omega
  have d2 : (m.R.length : Int) ≤ 100 := by omega
  have d3 : (m.K.length : Int) ≤ 100 := by omega
  have d4 : (m.I.length : Int) ≤ 100 := by omega
  have d5 : (m.C.length : Int) ≤ 1000 := by omega
  clear c0 c1 c2 c4 c5 c6
  go_enter Tryz.func8, Tryz.ntmps8
  go_wp2
  go_ret
  exact ⟨rfl, rfl⟩
set_option maxHeartbeats 2000000 in
set_option maxRecDepth 100000 in
theorem near_no (p o : Nat) (m : MD) (w : World) (h : RepM p o m w) (hn : ¬ (m.W.length ≤ 1000 ∧ m.R.length ≤ 100 ∧ m.K.length ≤ 100 ∧ m.I.length ≤ 100 ∧ m.C.length ≤ 1000)) :
    Calls Tryz.prog 8 #[.pointer (some ⟨p, o, none⟩)] w fun ev w' => ev = .returned (.bool false) ∧ w' = w := by
  have hw : (1000 < (m.W.length : Int)) ∨ ((m.W.length : Int) ≤ 1000 ∧ (100 < (m.R.length : Int))) ∨ ((m.W.length : Int) ≤ 1000 ∧ (m.R.length : Int) ≤ 100 ∧ (100 < (m.K.length : Int))) ∨ ((m.W.length : Int) ≤ 1000 ∧ (m.R.length : Int) ≤ 100 ∧ (m.K.length : Int) ≤ 100 ∧ (100 < (m.I.length : Int))) ∨ ((m.W.length : Int) ≤ 1000 ∧ (m.R.length : Int) ≤ 100 ∧ (m.K.length : Int) ≤ 100 ∧ (m.I.length : Int) ≤ 100 ∧ (1000 < (m.C.length : Int))) := by omega
  clear hn
  obtain ⟨_, _, _, _, _, _, ⟨c0, c1, c2, c3, c4, c5, c6, c7, c8, c9, c10⟩, ⟨_, _, rfl, _⟩, ⟨_, _, rfl, _⟩, ⟨_, _, rfl, _⟩, ⟨_, _, rfl, _⟩, ⟨_, _, rfl, _⟩⟩ := h
  clear c0 c1 c2 c4 c5 c6
  rcases hw with d1 | ⟨d1, d2⟩ | ⟨d1, d2, d3⟩ | ⟨d1, d2, d3, d4⟩ | ⟨d1, d2, d3, d4, d5⟩
  case inr.inr.inr.inr =>
    have d6 : decide ((m.C.length : Int) ≤ 1000) = false := by rw [decide_eq_false_iff_not]; exact Int.not_le.2 d5
    go_enter Tryz.func8, Tryz.ntmps8
    go_wp2
    go_ret
    exact ⟨rfl, rfl⟩
  all_goals go_enter Tryz.func8, Tryz.ntmps8
  all_goals go_wp2
  all_goals go_ret
  all_goals exact ⟨rfl, rfl⟩
theorem RepM.drewN {p o : Nat} {m : MD} {w : World} (h : RepM p o m w) (q : Nat) : RepM p o m (w.drewN q) := h.below (below_drewN (Below.refl _ _))

set_option maxHeartbeats 4000000 in
set_option maxRecDepth 100000 in
theorem sameMemory_eq (p o p' o' : Nat) (m : MD) (w : World) (h : RepM p o m w) (h' : RepM p' o' m w) (b1 : m.W.length ≤ 300000) (b2 : m.R.length ≤ 300000) (b3 : m.K.length ≤ 300000) (b4 : m.I.length ≤ 300000) (b5 : m.C.length ≤ 300000) :
    Calls Tryz.prog 14 #[.pointer (some ⟨p, o, none⟩), .pointer (some ⟨p', o', none⟩)] w fun ev w' => ev = .returned (.bool true) ∧ Below w.heap.size w w' := by
  obtain ⟨_, _, _, _, _, _, ⟨c0, c1, c2, c3, c4, c5, c6, c7, c8, c9, c10⟩, ⟨aW, cW, rfl, rW⟩, ⟨aR, cR, rfl, rR⟩, ⟨aK, cK, rfl, rK⟩, ⟨aI, cI, rfl, rI⟩, ⟨aC, cC, rfl, rC⟩⟩ := h
  obtain ⟨_, _, _, _, _, _, ⟨d0, d1, d2, d3, d4, d5, d6, d7, d8, d9, d10⟩, ⟨bW, eW, rfl, sW⟩, ⟨bR, eR, rfl, sR⟩, ⟨bK, eK, rfl, sK⟩, ⟨bI, eI, rfl, sI⟩, ⟨bC, eC, rfl, sC⟩⟩ := h'
  have HW : Hid (RowV w (.slice aW m.W.length cW) m.W.length (wordsV m.W)) := ⟨_, _, rfl, rW⟩
  have HR : Hid (RowV w (.slice aR m.R.length cR) m.R.length (wordsV m.R)) := ⟨_, _, rfl, rR⟩
  have HK : Hid (RowV w (.slice aK m.K.length cK) m.K.length (wordsV m.K)) := ⟨_, _, rfl, rK⟩
  have HI : Hid (RowV w (.slice aI m.I.length cI) m.I.length (idsV m.I)) := ⟨_, _, rfl, rI⟩
  have HC : Hid (RowV w (.slice aC m.C.length cC) m.C.length (boolsV m.C)) := ⟨_, _, rfl, rC⟩
  have HW' : Hid (RowV w (.slice bW m.W.length eW) m.W.length (wordsV m.W)) := ⟨_, _, rfl, sW⟩
  have HR' : Hid (RowV w (.slice bR m.R.length eR) m.R.length (wordsV m.R)) := ⟨_, _, rfl, sR⟩
  have HK' : Hid (RowV w (.slice bK m.K.length eK) m.K.length (wordsV m.K)) := ⟨_, _, rfl, sK⟩
  have HI' : Hid (RowV w (.slice bI m.I.length eI) m.I.length (idsV m.I)) := ⟨_, _, rfl, sI⟩
  have HC' : Hid (RowV w (.slice bC m.C.length eC) m.C.length (boolsV m.C)) := ⟨_, _, rfl, sC⟩
  clear rW rR rK rI rC sW sR sK sI sC
  go_enter Tryz.func14, Tryz.ntmps14
  go_wp2_with fail
  go_quiet (fail)
  go_wp2_with fail
  obtain ⟨w1, hw1⟩ : ∃ w1, w1 = w.drewN nq := ⟨_, rfl⟩
  rw [← hw1]
  have hb1 : Below w.heap.size w w1 := by rw [hw1]; exact below_drewN (Below.refl _ _)
  have lt1 := lt_of_cell c0
  have lt2 := lt_of_cell d0
  have x3 := (hb1.cell (p := ⟨p, o + 3, none⟩) lt1).trans c3
  have x7 := (hb1.cell (p := ⟨p, o + 7, none⟩) lt1).trans c7
  have x8 := (hb1.cell (p := ⟨p, o + 8, none⟩) lt1).trans c8
  have x9 := (hb1.cell (p := ⟨p, o + 9, none⟩) lt1).trans c9
  have x10 := (hb1.cell (p := ⟨p, o + 10, none⟩) lt1).trans c10
  have y3 := (hb1.cell (p := ⟨p', o' + 3, none⟩) lt2).trans d3
  have y7 := (hb1.cell (p := ⟨p', o' + 7, none⟩) lt2).trans d7
  have y8 := (hb1.cell (p := ⟨p', o' + 8, none⟩) lt2).trans d8
  have y9 := (hb1.cell (p := ⟨p', o' + 9, none⟩) lt2).trans d9
  have y10 := (hb1.cell (p := ⟨p', o' + 10, none⟩) lt2).trans d10
  have kW : Hid (∀ q, Calls Tryz.prog 33 #[.slice aW m.W.length cW, .slice bW m.W.length eW] (w1.drewN q) fun ev w' => ev = .returned (.bool true) ∧ ∃ n, w' = (w1.drewN q).drewN n) := fun q => sameWords_eq m.W _ _ _ _ b1 _ (HW.out.below (below_drewN hb1)) (HW'.out.below (below_drewN hb1))
  have kR : Hid (∀ q, Calls Tryz.prog 33 #[.slice aR m.R.length cR, .slice bR m.R.length eR] (w1.drewN q) fun ev w' => ev = .returned (.bool true) ∧ ∃ n, w' = (w1.drewN q).drewN n) := fun q => sameWords_eq m.R _ _ _ _ b2 _ (HR.out.below (below_drewN hb1)) (HR'.out.below (below_drewN hb1))
  have kK : Hid (∀ q, Calls Tryz.prog 33 #[.slice aK m.K.length cK, .slice bK m.K.length eK] (w1.drewN q) fun ev w' => ev = .returned (.bool true) ∧ ∃ n, w' = (w1.drewN q).drewN n) := fun q => sameWords_eq m.K _ _ _ _ b3 _ (HK.out.below (below_drewN hb1)) (HK'.out.below (below_drewN hb1))
  clear hw1 c0 c1 c2 c3 c4 c5 c6 c7 c8 d0 d1 d2 d3 d4 d5 d6 d7 d8 HW HR HK HW' HR' HK'
  go_quiet (first | (go_at_call_of 33 aW; exact Calls.quiet_of (kW.out _)) | (go_at_call_of 33 aR; exact Calls.quiet_of (kR.out _)) | (go_at_call_of 33 aK; exact Calls.quiet_of (kK.out _)))
  go_wp2_with fail
  obtain ⟨w2, hw2⟩ : ∃ w2, w2 = w1.drewN nq := ⟨_, rfl⟩
  rw [← hw2]
  have hb2 : Below w.heap.size w w2 := by rw [hw2]; exact below_drewN hb1
  clear hw2 x3 x7 x8 x9 x10 y3 y7 y8 y9 y10 kW kR kK
  go_loopg [5] (m.I.length + 1) (fun gk v5 wr => ∃ k : Nat, gk = m.I.length + 1 - k ∧ k ≤ m.I.length ∧ v5 = .int .i64 (k : Int) ∧ Below w.heap.size w wr)
  case atStart => exact ⟨0, rfl, Nat.zero_le _, rfl, hb2⟩
  case round =>
    obtain ⟨k, hgk, hk, hv5, hb⟩ := hrel
    subst hv5
    have HG := toHid hgk
    have z9 := (hb.cell (p := ⟨p, o + 9, none⟩) lt1).trans c9
    have z9' := (hb.cell (p := ⟨p', o' + 9, none⟩) lt2).trans d9
    clear hgk
    by_cases hlt : k < m.I.length
    · have hI : (k : Int) < (m.I.length : Int) := by omega
      have hI0 : (0 : Int) ≤ (k : Int) := by omega
      obtain ⟨x, hx⟩ : ∃ x, m.I[k]? = some x := ⟨_, List.getElem?_eq_getElem hlt⟩
      obtain ⟨_, _, e, _, f1⟩ := HI.out
      cases e
      obtain ⟨p1, o1, rfl, l1, g1⟩ := f1 (by omega)
      obtain ⟨_, _, e, _, f2⟩ := HI'.out
      cases e
      obtain ⟨p2, o2, rfl, l2, g2⟩ := f2 (by omega)
      have r1 : wr.cell? ⟨p1, o1 + k * 2, none⟩ = some (.int .u64 x.1) := (hb.cell (p := ⟨p1, o1 + k * 2, none⟩) l1).trans (g1 _ _ (ids_at hx).1)
      have r2 : wr.cell? ⟨p1, o1 + k * 2 + 1, none⟩ = some (.int .i64 x.2) := (hb.cell (p := ⟨p1, o1 + k * 2 + 1, none⟩) l1).trans (by rw [Nat.add_assoc]; exact g1 _ _ (ids_at hx).2)
      have r3 : wr.cell? ⟨p2, o2 + k * 2, none⟩ = some (.int .u64 x.1) := (hb.cell (p := ⟨p2, o2 + k * 2, none⟩) l2).trans (g2 _ _ (ids_at hx).1)
      have r4 : wr.cell? ⟨p2, o2 + k * 2 + 1, none⟩ = some (.int .i64 x.2) := (hb.cell (p := ⟨p2, o2 + k * 2 + 1, none⟩) l2).trans (by rw [Nat.add_assoc]; exact g2 _ _ (ids_at hx).2)
      clear f1 f2 g1 g2 hx
      go_wp2_with fail
      go_quiet (fail)
      go_wp2_with fail
      go_roundg (m.I.length + 1 - (k + 1))
      case measure => have := HG.out; omega
      case rel => exact ⟨k + 1, rfl, by omega, by go_num, below_drewN hb⟩
    · obtain rfl : k = m.I.length := by omega
      go_wp2_with fail
      clear z9 z9' HI HI' c9 d9
      go_loopg [6] (m.C.length + 1) (fun gk v6 wr => ∃ k : Nat, gk = m.C.length + 1 - k ∧ k ≤ m.C.length ∧ v6 = .int .i64 (k : Int) ∧ Below w.heap.size w wr)
      case atStart => exact ⟨0, rfl, Nat.zero_le _, rfl, hb⟩
      case round =>
        obtain ⟨k, hgk, hk, hv6, hb⟩ := hrel
        subst hv6
        have HG := toHid hgk
        have z10 := (hb.cell (p := ⟨p, o + 10, none⟩) lt1).trans c10
        have z10' := (hb.cell (p := ⟨p', o' + 10, none⟩) lt2).trans d10
        clear hgk
        by_cases hlt : k < m.C.length
        · have hI : (k : Int) < (m.C.length : Int) := by omega
          have hI0 : (0 : Int) ≤ (k : Int) := by omega
          obtain ⟨x, hx⟩ : ∃ x, m.C[k]? = some x := ⟨_, List.getElem?_eq_getElem hlt⟩
          obtain ⟨_, _, e, _, f1⟩ := HC.out
          cases e
          obtain ⟨p1, o1, rfl, l1, g1⟩ := f1 (by omega)
          obtain ⟨_, _, e, _, f2⟩ := HC'.out
          cases e
          obtain ⟨p2, o2, rfl, l2, g2⟩ := f2 (by omega)
          have r1 : wr.cell? ⟨p1, o1 + k, none⟩ = some (.bool x) := (hb.cell (p := ⟨p1, o1 + k, none⟩) l1).trans (g1 _ _ (bools_at hx))
          have r3 : wr.cell? ⟨p2, o2 + k, none⟩ = some (.bool x) := (hb.cell (p := ⟨p2, o2 + k, none⟩) l2).trans (g2 _ _ (bools_at hx))
          clear f1 f2 g1 g2 hx
          go_wp2_with fail
          go_quiet (fail)
          go_wp2_with fail
          go_roundg (m.C.length + 1 - (k + 1))
          case measure => have := HG.out; omega
          case rel => exact ⟨k + 1, rfl, by omega, by go_num, below_drewN hb⟩
        · obtain rfl : k = m.C.length := by omega
          go_wp2_with fail
          go_ret
          exact ⟨rfl, hb⟩
end Go.Proofs.YtnenggkgfhgcnaaGreatDoor
