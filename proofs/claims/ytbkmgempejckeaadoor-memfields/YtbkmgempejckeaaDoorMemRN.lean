/- Package mem: Get and Put of a right memory, by contracts. -/
import Derived.Test.YtbkmgempejckeaaDoorMemRL
import Derived.Test.YtbkmgempejckeaaDoorMemRM
import Derived.Test.YtbkmgempejckeaaDoorMemRK
import Derived.Test.YtbkmgempejckeaaDoorMemUT
namespace Go.Proofs.YtbkmgempejckeaaDoor
open Go.RowKit

/-- survey of a right memory. -/
theorem survey_right (a : Nat → Addr) (p : Nat) (m : MD) (vs : List Nat) (hS : m.Shape vs) (hC : m.cardsB = true) (h64 : MD64 m) (bR : m.R.length ≤ 300000) (bK : m.K.length ≤ 300000) (bI : m.I.length ≤ 300000) (w : World) (E : MErr3 a w) (R : RepP p m w) :
    Calls Tryd.prog 36 #[.pointer (some ⟨p, 0, none⟩)] w fun ev w' => ∃ bh, ev = .returned (.tuple #[.slice (some ⟨bh, 0, none⟩) m.W.length m.W.length, .nilIface]) ∧ HeadsAt w' bh m.W.length (fun i => decide (i ∈ vs)) ∧ bh < w'.heap.size ∧ Below w.heap.size w w' := by
  refine (survey_any3 a p m h64 bR bK bI w E R).mono ?_
  rintro ev w' ⟨hb, ⟨us, bh, hs, _, he, hm, _⟩ | ⟨us, _, hc, _⟩ | ⟨hno, _⟩⟩
  · have hu := hS.one hs
    subst hu
    obtain ⟨cur, h1, _⟩ := id hm
    exact ⟨bh, he, hm.heads, lt_of_heap h1, hb⟩
  · rw [hC] at hc; cases hc
  · exact absurd hS (hno vs)
theorem MD.range {m : MD} (h64 : MD64 m) : ∀ i, i < m.W.length → 0 ≤ m.F i ∧ m.F i < 18446744073709551616 := fun i hi => by
  unfold MD.F
  rw [List.getD_eq_getElem?_getD, List.getElem?_eq_getElem hi]
  exact h64.w _ (List.getElem_mem hi)
theorem MD.Shape.len {m : MD} {vs : List Nat} (S : m.Shape vs) : 0 < m.W.length ∧ m.W.length ≤ 300000 ∧ 0 < m.C.length := by
  have hnum := S.1.nums
  have hw := S.1.w
  have hc := S.1.c
  unfold numsOK at hnum
  have : 1 ≤ (m.old + m.card - 1) / m.card := (Int.le_ediv_iff_mul_le (by omega)).2 (by omega)
  omega
theorem heap_setSame {w : World} {g j : Nat} {v : Value} {cur : Array Value} {t : TypeId} (hg : w.heap[g]? = some (.cells cur t)) (hj : cur[j]? = some v) (k : Nat) : (w.setCell ⟨g, j, none⟩ v).heap[k]? = w.heap[k]? := by
  by_cases e : k = g
  · subst e
    rw [heap_set_same hg, hg]
    have : cur.setIfInBounds j v = cur := by
      apply Array.ext_getElem?
      intro i
      rw [Array.getElem?_setIfInBounds]
      split
      · rename_i e
        subst e
        rw [hj]
        have := (Array.getElem?_eq_some_iff.1 hj).1
        rw [if_pos this]
      · rfl
    rw [this]
  · exact heap_set _ _ _ _ _ e
theorem below_setSame {B g j : Nat} {w w' : World} {v : Value} {cur : Array Value} {t : TypeId} (h : Below B w w') (hg : w'.heap[g]? = some (.cells cur t)) (hc : w'.cell? ⟨g, j, none⟩ = some v) : Below B w (w'.setCell ⟨g, j, none⟩ v) := by
  have z : Below 0 w' (w'.setCell ⟨g, j, none⟩ v) := (Below.refl 0 w').setCell (Nat.zero_le _) v
  have hj : cur[j]? = some v := by rw [cell_of_row _ _ _ _ _ _ hg] at hc; exact hc
  exact ⟨z.os.trans h.os, z.tape.trans h.tape, z.output.trans h.output, Nat.le_trans h.size z.size, fun k hk => (heap_setSame hg hj k).trans (h.block k hk)⟩
/-- A right memory of one's own: its words' row. -/
theorem OwnQ.rowW {B bx : Nat} {m : MD} {vW vR vK vI vC : Value} {w : World} (h : OwnQ B bx m vW vR vK vI vC w) (hl : 0 < m.W.length) : ∃ g cap, vW = .slice (some ⟨g, 0, none⟩) m.W.length cap ∧ m.W.length ≤ cap ∧ B ≤ g ∧ g < w.heap.size ∧ g ≠ bx ∧ (∀ i, i < m.W.length → w.cell? ⟨g, i, none⟩ = some (.int .u64 (m.F i))) ∧ (∀ i, w.frozen? ⟨g, i, none⟩ = false) ∧ ∃ cur t, w.heap[g]? = some (.cells cur t) := by
  obtain ⟨_, _, r1, _, _, _, _, d1, _, _⟩ := h
  have hr := row0_own r1
  rcases r1.2 with ⟨_, h0⟩ | ⟨g, cap, cur, rfl, hb, hg, hc, _, _, _⟩
  · omega
  · obtain ⟨_, _, e, _, hr⟩ := hr
    cases e
    obtain ⟨b, e, _, hw⟩ := hr hl
    cases e
    refine ⟨g, cap, rfl, hc, hb, lt_of_heap hg, fun e => d1 (.slice (some ⟨g, 0, none⟩) m.W.length cap) (by simp) (by rw [← e]; rfl), fun i hi => hw i _ (words_at (by unfold MD.F; rw [List.getD_eq_getElem?_getD, List.getElem?_eq_getElem hi]; rfl)), fun i => by simp [World.frozen?, hg], _, _, hg⟩
theorem OwnQ.rowC {B bx : Nat} {m : MD} {vW vR vK vI vC : Value} {w : World} (h : OwnQ B bx m vW vR vK vI vC w) (hl : 0 < m.C.length) : ∃ g cap, vC = .slice (some ⟨g, 0, none⟩) m.C.length cap ∧ m.C.length ≤ cap ∧ B ≤ g ∧ g < w.heap.size ∧ g ≠ bx ∧ (∀ i, i < m.C.length → w.cell? ⟨g, i, none⟩ = some (.bool (m.Cf i))) ∧ (∀ i, w.frozen? ⟨g, i, none⟩ = false) ∧ ∃ cur t, w.heap[g]? = some (.cells cur t) := by
  obtain ⟨_, _, _, _, _, _, r5, d1, _, _⟩ := h
  have hr := row0_own r5
  rcases r5.2 with ⟨_, h0⟩ | ⟨g, cap, cur, rfl, hb, hg, hc, _, _, _⟩
  · omega
  · obtain ⟨_, _, e, _, hr⟩ := hr
    cases e
    obtain ⟨b, e, _, hw⟩ := hr hl
    cases e
    refine ⟨g, cap, rfl, hc, hb, lt_of_heap hg, fun e => d1 (.slice (some ⟨g, 0, none⟩) m.C.length cap) (by simp) (by rw [← e]; rfl), fun i hi => hw i _ (bools_at (by unfold MD.Cf; rw [List.getD_eq_getElem?_getD, List.getElem?_eq_getElem hi]; rfl)), fun i => by simp [World.frozen?, hg], _, _, hg⟩
theorem OwnQ.seen {B bx bh g cap : Nat} {m : MD} {vs : List Nat} {vR vK vI vC : Value} {w : World} (h : OwnQ B bx m (.slice (some ⟨g, 0, none⟩) m.W.length cap) vR vK vI vC w) (S : m.Shape vs) (h64 : MD64 m) (hH : HeadsAt w bh m.W.length (fun i => decide (i ∈ vs))) (hbh : bh < w.heap.size) : Seen bx g bh m.W.length cap m.F (fun i => decide (i ∈ vs)) w := by
  obtain ⟨g', cap', e, hc, _, hg, _, hw, _, _⟩ := h.rowW S.len.1
  cases e
  exact ⟨S.len.2.1, hc, lt_of_cell h.mem.c0, hg, hbh, hH, h.mem.c3, hw, MD.range h64, fun f _ hf => S.fine f (of_decide_eq_true hf)⟩
set_option maxHeartbeats 4000000 in
theorem get_ok (a : Nat → Addr) (B bx : Nat) (m : MD) (vs : List Nat) (hS : m.Shape vs) (hC : m.cardsB = true) (h64 : MD64 m) (bR : m.R.length ≤ 300000) (bK : m.K.length ≤ 300000) (bI : m.I.length ≤ 300000) (f k : Nat) (hf : f ∈ vs) (hk : k < szN (m.F f)) (w : World) (E : MErr3 a w) (O : OwnP B bx m w) :
    Calls Tryd.prog 23 #[.pointer (some ⟨bx, 0, none⟩), .int .u64 (((f : Int) + 1) * 4), .int .i64 (k : Int)] w fun ev w' => ev = .returned (.tuple #[.int .u64 (m.F (f + 1 + k)), .nilIface]) ∧ Below w.heap.size w w' := by
  have ks := survey_right a bx m vs hS hC h64 bR bK bI w E O.repP
  obtain ⟨vW, vR, vK, vI, vC, Q⟩ := O.named
  have hff := hS.fine f hf
  obtain ⟨g, cap, rfl, hcap, _, hg, _, hw, _, _⟩ := Q.rowW hS.len.1
  obtain ⟨x, hx⟩ : ∃ x, x = ((f : Int) + 1) * 4 := ⟨_, rfl⟩
  obtain ⟨y, hy⟩ : ∃ y : Nat, y = f + 1 + k := ⟨_, rfl⟩
  have hyl : y < m.W.length := by omega
  have hI : (y : Int) < (m.W.length : Int) := by omega
  have hI0 : (0 : Int) ≤ (y : Int) := by omega
  rw [← hx, ← hy]
  have HQ := toHid Q
  have HS := toHid hS
  have H64 := toHid h64
  have HK := toHid hk
  have HF := toHid hf
  have HX := toHid hx
  have HYY := toHid hy
  clear Q hS h64 hk hf hw E O hC bR bK bI hx hy hff hcap
  go_enter Tryd.func23, Tryd.ntmps23
  go_wp2_with fail
  refine ks.mono ?_
  rintro ev w1 ⟨bh, rfl, hH, hbh, hb1⟩
  have Q1 := HQ.out.below hb1
  have S1 := Q1.seen HS.out H64.out hH hbh
  have kp := place_ok bx g bh m.W.length cap f k m.F _ (by have := (HS.out.fine f HF.out).2; omega) (decide_eq_true HF.out) HK.out w1 S1
  rw [← HX.out, ← HYY.out] at kp
  generalize m.F f / 4 % 256 = kd at kp
  clear ks hH hbh
  have HS1 := toHid S1
  clear S1 Q1
  go_wp2_with fail
  refine kp.mono ?_
  rintro ev w2 ⟨rfl, hb2⟩
  have S2 := HS1.out.below hb2
  have d3 := S2.c3
  have dy := S2.words y hyl
  clear kp S2
  go_wp2_with fail
  go_ret2
  exact ⟨rfl, hb1.trans (hb2.mono hb1.size)⟩
/-- What Put makes of a memory. -/
def MD.put (m : MD) (y : Nat) (x : Int) : MD := if 2 * m.half ≤ (y : Int) ∧ youngB m.half x = true then (m.setW y x).setC (cardN m.half m.card y) true else m.setW y x
/-- What Mark makes of a memory. -/
def MD.mark (m : MD) (y : Nat) : MD := if 2 * m.half ≤ (y : Int) ∧ youngB m.half (m.F y) = true then m.setC (cardN m.half m.card y) true else m
theorem setW_F {m : MD} {y : Nat} {x : Int} (h : y < m.W.length) : (m.setW y x).F y = x := by
  unfold MD.F MD.setW
  show (m.W.set y x).getD y 0 = x
  rw [List.getD_eq_getElem?_getD, List.getElem?_set_self h]
  rfl
theorem put_mark {m : MD} {y : Nat} {x : Int} (h : y < m.W.length) : m.put y x = (m.setW y x).mark y := by
  unfold MD.put MD.mark
  rw [setW_F h]
  rfl
set_option maxHeartbeats 4000000 in
set_option maxRecDepth 100000 in
theorem mark_any (a : Nat → Addr) (w0 : World) (bx g cap : Nat) (m : MD) (vR vK vI vC : Value) (hF : m.FitsM) (hlc : 0 < m.C.length) (y : Nat) (hyl : y < m.W.length) (x : Int) (hx : m.F y = x) (x0 : 0 ≤ x) (x1 : x < 18446744073709551616) (w : World) (E : WErr a w) (hb0 : Below w0.heap.size w0 w) (Q : OwnQ w0.heap.size bx m (.slice (some ⟨g, 0, none⟩) m.W.length cap) vR vK vI vC w) :
    Calls Tryd.prog 45 #[.pointer (some ⟨bx, 0, none⟩), .int .i64 (y : Int)] w fun ev w' => ev = .returned (.tuple #[]) ∧ OwnP w0.heap.size bx (m.mark y) w' ∧ Below w0.heap.size w0 w' ∧ ((2 * m.half ≤ (y : Int) → youngB m.half x = true → m.Cf (cardN m.half m.card y) = true) → Below w.heap.size w w') := by
  have hnum := hF.nums
  unfold numsOK at hnum
  have hw := hF.w
  have hy3 : y ≤ 300000 := by omega
  obtain ⟨g', cap', e, _, _, _, _, hwd, _, _⟩ := Q.rowW (by omega)
  cases e
  have dy := hwd y hyl
  rw [hx] at dy
  obtain ⟨gc, cc, rfl, hcc, hBc, hgc, _, hwc, hfc, cur, tc, hcur⟩ := Q.rowC hlc
  have M := Q.mem
  have c0 : w.cell? ⟨bx, 0, none⟩ = some (.int .i64 m.half) := M.c0
  have c3 := M.c3
  have km : Hid (∀ q, Calls Tryd.prog 54 #[.pointer (some ⟨bx, 0, none⟩)] (w.drewN q) fun ev w' => ev = .returned (.bool true) ∧ ∃ n, w' = (w.drewN q).drewN n) := fun q => measured_ok bx m.half m.old m.card m.W.length m.C.length cap cc _ _ m.used m.top m.oldTop _ _ _ hF (w.drewN q) (M.below (below_drewN (Below.refl _ _)) (lt_of_cell c0))
  have ko : Hid (∀ q, Calls Tryd.prog 30 #[.pointer (some ⟨bx, 0, none⟩)] (w.drewN q) fun ev w' => ev = .returned (.int .i64 (2 * m.half)) ∧ w' = w.drewN q) := fun q => oldFrom_any bx m.half (by omega) (by omega) (w.drewN q) c0
  have ky : Hid (∀ q, Calls Tryd.prog 64 #[.pointer (some ⟨bx, 0, none⟩), .int .u64 x] (w.drewN q) fun ev w' => ev = .returned (.bool (youngB m.half x)) ∧ ∃ n, w' = (w.drewN q).drewN n) := fun q => young_any a bx m.half x (by omega) (by omega) x0 x1 (w.drewN q) (E.below (below_drewN (Below.refl _ _))) c0
  have kw : Hid (∀ W, Calls Tryd.prog 50 #[.int .i64 (y : Int), .int .i64 (2 * m.half), .int .i64 ((m.W.length : Int) - 1)] W fun ev w' => ev = .returned (.bool (decide (2 * m.half ≤ (y : Int)))) ∧ w' = W) := fun W => by
    have h := mwithin_any (y : Int) (2 * m.half) ((m.W.length : Int) - 1) W
    rw [decide_eq_true (show (y : Int) ≤ (m.W.length : Int) - 1 by omega), Bool.and_true] at h
    exact h
  have e1 : IntKind.i64.wrap ((m.W.length : Int) - 1) = (m.W.length : Int) - 1 := wrapI _ (by omega) (by omega)
  have hI : (y : Int) < (m.W.length : Int) := by omega
  have hI0 : (0 : Int) ≤ (y : Int) := by omega
  have HQ := toHid Q
  have HB0 := toHid hb0
  have HX := toHid hx
  clear Q M E hb0 hwd hx hw
  by_cases hold : 2 * m.half ≤ (y : Int)
  · rw [decide_eq_true hold] at kw
    cases hyo : youngB m.half x with
    | true =>
      rw [hyo] at ky
      have HPU : Hid (m.mark y = m.setC (cardN m.half m.card y) true) := by show _ = _; unfold MD.mark; rw [if_pos ⟨hold, by rw [HX.out]; exact hyo⟩]
      clear hyo
      obtain ⟨d, j, hd, hj, hjl, hcn⟩ := card_ix hF hold hyl
      have d2 : w.cell? ⟨bx, 2, none⟩ = some (.int .i64 m.card) := HQ.out.mem.c2
      have d10 : w.cell? ⟨bx, 10, none⟩ = some (.slice (some ⟨gc, 0, none⟩) m.C.length cc) := HQ.out.mem.c10
      have dj : w.cell? ⟨gc, j, none⟩ = some (.bool (m.Cf j)) := hwc j hjl
      have dfj := hfc j
      have hJ : (j : Int) < (m.C.length : Int) := by omega
      have hJ0 : (0 : Int) ≤ (j : Int) := by omega
      obtain ⟨cj, hcj⟩ : ∃ cj, cj = m.Cf j := ⟨_, rfl⟩
      rw [← hcj] at dj
      have HCJ : Hid (m.Cf (cardN m.half m.card y) = true → cj = true) := fun h => by rw [hcj, ← hcn]; exact h
      have HCN := toHid hcn
      have HCUR := toHid hcur
      have kc : Hid (∀ W, Below w.heap.size w W → Calls Tryd.prog 65 #[.pointer (some ⟨bx, 0, none⟩), .int .i64 (y : Int)] W fun ev w' => ev = .returned (.int .i64 (j : Int)) ∧ ∃ n, w' = W.drewN n) := fun W hW => cardOf_any bx m.half m.card y d j (by omega) (by omega) (by omega) hy3 hd hj W ((hW.cell (p := ⟨bx, 0, none⟩) (lt_of_cell c0)).trans c0) ((hW.cell (p := ⟨bx, 2, none⟩) (lt_of_cell d2)).trans d2)
      clear hd hj hcn hcj hcur hwc hfc
      go_enter Tryd.func45, Tryd.ntmps45
      go_wp2_with fail
      go_quiet (first | (go_at_call 54; exact Calls.quiet_of (km.out _)) | (go_at_call 30; exact Calls.quiet_of_same (ko.out _)) | (go_at_call 50; exact Calls.quiet_of_same (kw.out _)) | (go_at_call 64; exact Calls.quiet_of (ky.out _)))
      go_upto_region 1 with fail
      obtain ⟨w5, hw5⟩ : ∃ w5, w5 = w.drewN nq := ⟨_, rfl⟩
      rw [← hw5]
      have hb5 : Below w.heap.size w w5 := by rw [hw5]; exact below_drewN (Below.refl _ _)
      have d10 : w5.cell? ⟨bx, 10, none⟩ = some (.slice (some ⟨gc, 0, none⟩) m.C.length cc) := (hb5.cell (p := ⟨bx, 10, none⟩) (lt_of_cell d10)).trans d10
      have dj5 : w5.cell? ⟨gc, j, none⟩ = some (.bool cj) := (hb5.cell (p := ⟨gc, j, none⟩) (lt_of_cell dj)).trans dj
      have df5 := (hb5.frozen (p := ⟨gc, j, none⟩) (lt_of_cell dj)).trans dfj
      have ldj := lt_of_cell dj5
      have ld10 := lt_of_cell d10
      have HC5 : Hid (w5.heap[gc]? = some (.cells cur tc)) := (hb5.block gc (lt_of_cell dj)).trans HCUR.out
      have kc : Hid (∀ W, Below w5.heap.size w5 W → Calls Tryd.prog 65 #[.pointer (some ⟨bx, 0, none⟩), .int .i64 (y : Int)] W fun ev w' => ev = .returned (.int .i64 (j : Int)) ∧ Below w5.heap.size w5 w') := fun W hW => by
        refine (kc.out W (hb5.trans (hW.mono hb5.size))).mono ?_
        rintro ev w9 ⟨rfl, n, hq⟩
        exact ⟨rfl, by rw [hq]; exact below_drewN hW⟩
      have HB5 := toHid hb5
      clear hw5 hb5 c0 c3 dy dj dfj d2
      go_region_with ((go_at_call 65; refine (kc.out _ (by first | exact (Below.refl _ _).drew | exact Below.refl _ _)).mono ?_; rintro ev w7 ⟨rfl, hb7⟩; have t10 := (hb7.cell (p := ⟨bx, 10, none⟩) ld10).trans d10; have tj := (hb7.cell (p := ⟨gc, j, none⟩) ldj).trans dj5; have tf := (hb7.frozen (p := ⟨gc, j, none⟩) ldj).trans df5))
      all_goals go_wp2_with fail
      all_goals go_end0
      all_goals (
        have Q7 := ((HQ.out.below HB5.out).below hb7).setC j true
        have hB7 : Below w0.heap.size w0 (w7.setCell ⟨gc, j, none⟩ (.bool true)) := ((HB0.out.trans (HB5.out.mono HB0.out.size)).trans (hb7.mono (HB0.out.trans (HB5.out.mono HB0.out.size)).size)).setCell hBc _
        have hS7 : cj = true → Below w.heap.size w (w7.setCell ⟨gc, j, none⟩ (.bool true)) := fun h => below_setSame (HB5.out.trans (hb7.mono HB5.out.size)) ((hb7.block gc ldj).trans HC5.out) (by rw [tj, h])
        refine ⟨rfl, ?_, ?_, ?_⟩
        · rw [HPU.out, HCN.out]; first | exact Q7.own | exact Q7.own.below (Below.refl _ _).drew
        · first | exact hB7 | exact hB7.drew
        · first | exact fun h => hS7 (HCJ.out (h hold trivial)) | exact fun h => (hS7 (HCJ.out (h hold trivial))).drew)
    | false =>
      rw [hyo] at ky
      have HPU : Hid (m.mark y = m) := by show _ = _; unfold MD.mark; rw [if_neg (fun h => by rw [HX.out, hyo] at h; cases h.2)]
      clear hyo
      go_enter Tryd.func45, Tryd.ntmps45
      go_wp2_with fail
      go_quiet (first | (go_at_call 54; exact Calls.quiet_of (km.out _)) | (go_at_call 30; exact Calls.quiet_of_same (ko.out _)) | (go_at_call 50; exact Calls.quiet_of_same (kw.out _)) | (go_at_call 64; exact Calls.quiet_of (ky.out _)))
      go_wp2_with fail
      go_end0
      have hb5 : Below w.heap.size w (w.drewN nq) := below_drewN (Below.refl _ _)
      exact ⟨rfl, by rw [HPU.out]; exact HQ.out.own.below hb5, HB0.out.trans (hb5.mono HB0.out.size), fun _ => hb5⟩
  · rw [decide_eq_false hold] at kw
    have HPU : Hid (m.mark y = m) := by show _ = _; unfold MD.mark; rw [if_neg (fun h => hold h.1)]
    go_enter Tryd.func45, Tryd.ntmps45
    go_wp2_with fail
    go_quiet (first | (go_at_call 54; exact Calls.quiet_of (km.out _)) | (go_at_call 30; exact Calls.quiet_of_same (ko.out _)) | (go_at_call 50; exact Calls.quiet_of_same (kw.out _)) | (go_at_call 64; exact Calls.quiet_of (ky.out _)))
    go_wp2_with fail
    go_end0
    have hb5 : Below w.heap.size w (w.drewN nq) := below_drewN (Below.refl _ _)
    exact ⟨rfl, by rw [HPU.out]; exact HQ.out.own.below hb5, HB0.out.trans (hb5.mono HB0.out.size), fun _ => hb5⟩
set_option maxHeartbeats 4000000 in
theorem put_ok (a : Nat → Addr) (w0 : World) (bx : Nat) (m : MD) (vs : List Nat) (hS : m.Shape vs) (hC : m.cardsB = true) (h64 : MD64 m) (bR : m.R.length ≤ 300000) (bK : m.K.length ≤ 300000) (bI : m.I.length ≤ 300000) (f k : Nat) (hf : f ∈ vs) (hk : k < szN (m.F f)) (hkd : ¬ m.F f / 4 % 256 < 8) (x : Int) (x0 : 0 ≤ x) (x1 : x < 18446744073709551616) (hfx : fieldB m.W.length (fun i => decide (i ∈ vs)) x = true) (w : World) (E : MErr3 a w0) (hb0 : Below w0.heap.size w0 w) (O : OwnP w0.heap.size bx m w) :
    Calls Tryd.prog 24 #[.pointer (some ⟨bx, 0, none⟩), .int .u64 (((f : Int) + 1) * 4), .int .i64 (k : Int), .int .u64 x] w fun ev w' => ev = .returned .nilIface ∧ OwnP w0.heap.size bx (m.put (f + 1 + k) x) w' ∧ Below w0.heap.size w0 w' ∧ (x = m.F (f + 1 + k) → Below w.heap.size w w') := by
  have ks := survey_right a bx m vs hS hC h64 bR bK bI w (E.below hb0) O.repP
  obtain ⟨vW, vR, vK, vI, vC, Q⟩ := O.named
  have hff := hS.fine f hf
  obtain ⟨g, cap, rfl, hcap, hBg, hg, _, hw, _, _⟩ := Q.rowW hS.len.1
  obtain ⟨p, hp⟩ : ∃ p, p = ((f : Int) + 1) * 4 := ⟨_, rfl⟩
  obtain ⟨y, hy⟩ : ∃ y : Nat, y = f + 1 + k := ⟨_, rfl⟩
  have hyl : y < m.W.length := by omega
  have hy3 : y ≤ 300000 := by have := hS.len.2.1; omega
  have hI : (y : Int) < (m.W.length : Int) := by omega
  have hI0 : (0 : Int) ≤ (y : Int) := by omega
  have hnum := hS.1.nums
  unfold numsOK at hnum
  rw [← hp, ← hy]
  have HE := toHid E
  have HB0 := toHid hb0
  have HQ := toHid Q
  have HS := toHid hS
  have H64 := toHid h64
  have HK := toHid hk
  have HF := toHid hf
  have HP := toHid hp
  have HYY := toHid hy
  have HFX := toHid hfx
  have HCA : Hid (2 * m.half ≤ (y : Int) → youngB m.half (m.F y) = true → m.Cf (cardN m.half m.card y) = true) := fun h1 h2 => by
    rw [hy] at h1 h2 ⊢
    exact hS.carded hC hf hk hkd h1 h2
  clear Q hS h64 hk hf hw E O hC bR bK bI hp hy hff hcap hfx hb0
  go_enter Tryd.func24, Tryd.ntmps24
  go_wp2_with fail
  refine ks.mono ?_
  rintro ev w1 ⟨bh, rfl, hH, hbh, hb1⟩
  have Q1 := HQ.out.below hb1
  have S1 := Q1.seen HS.out H64.out hH hbh
  have kp := place_ok bx g bh m.W.length cap f k m.F _ (by have := (HS.out.fine f HF.out).2; omega) (decide_eq_true HF.out) HK.out w1 S1
  rw [← HP.out, ← HYY.out] at kp
  have hkd0 : 0 ≤ m.F f / 4 % 256 := Int.emod_nonneg _ (by decide)
  generalize m.F f / 4 % 256 = kd at *
  clear ks hH hbh
  have HS1 := toHid S1
  have hb01 := HB0.out.trans (hb1.mono HB0.out.size)
  clear S1 Q1
  go_wp2_with fail
  refine kp.mono ?_
  rintro ev w2 ⟨rfl, hb2⟩
  have hb02 := hb01.trans (hb2.mono hb01.size)
  have S2 := HS1.out.below hb2
  have kr := raw_any kd hkd0 w2
  rw [decide_eq_false (by omega : ¬ kd < 8)] at kr
  have kh := holds_any a bh m.W.length _ S2.hn x x0 x1 w2 (HE.out.below hb02).we S2.heads S2.hbh
  rw [HFX.out] at kh
  have Q2 := HQ.out.below (hb1.trans (hb2.mono hb1.size))
  have HQ2 := toHid Q2
  clear kp S2 Q2
  go_wp2_with fail
  refine kr.mono ?_
  rintro ev w3 ⟨rfl, hq⟩
  rw [hq]
  clear hq w3 kr
  go_wp2_with fail
  refine kh.mono ?_
  rintro ev w3 ⟨rfl, hb3⟩
  have hb03 := hb02.trans (hb3.mono hb02.size)
  have Q3 := HQ2.out.below hb3
  obtain ⟨g', cap', e, _, _, hg3, _, hw3, hfz, cur, tc, hcur⟩ := Q3.rowW HS.out.len.1
  cases e
  have d3 := Q3.mem.c3
  have dy := hw3 y hyl
  have df := hfz y
  have HQ3 := toHid Q3
  have hb13 : Below w.heap.size w w3 := (hb1.trans (hb2.mono hb1.size)).trans (hb3.mono (hb1.trans (hb2.mono hb1.size)).size)
  have HSA : Hid (x = m.F y → Below w.heap.size w (w3.setCell ⟨g, y, none⟩ (.int .u64 x))) := fun h => below_setSame hb13 hcur (by rw [h]; exact dy)
  clear kh hw3 hfz Q3 hcur
  go_wp2_with fail
  obtain ⟨w4, hw4⟩ : ∃ w4, w4 = w3.setCell ⟨g, y, none⟩ (.int .u64 x) := ⟨_, rfl⟩
  rw [← hw4]
  have hb04 : Below w0.heap.size w0 w4 := by rw [hw4]; exact hb03.setCell hBg _
  have Q4 : OwnQ w0.heap.size bx (m.setW y x) (.slice (some ⟨g, 0, none⟩) m.W.length cap) vR vK vI vC w4 := by rw [hw4]; exact HQ3.out.setW y x
  have kmk := mark_any a w0 bx g cap (m.setW y x) vR vK vI vC (by show Fits _ _ _ (m.W.set y x).length _ _ _ _; rw [List.length_set]; exact HS.out.1) HS.out.len.2.2 y (by show y < (m.W.set y x).length; rw [List.length_set]; exact hyl) x (setW_F hyl) x0 x1 w4 (HE.out.below hb04).we hb04 (by show OwnQ _ _ _ (.slice _ (m.W.set y x).length _) _ _ _ _ _; rw [List.length_set]; exact Q4)
  rw [← hw4] at HSA
  clear hw4 Q4 dy df d3 hb04
  go_wp2_with fail
  refine kmk.mono ?_
  rintro ev w5 ⟨rfl, hO5, hB5, hS5⟩
  clear kmk
  go_wp2_with fail
  go_ret
  exact ⟨rfl, by rw [put_mark hyl]; exact hO5, hB5, fun h => (HSA.out h).trans ((hS5 (fun h1 h2 => HCA.out h1 (by rw [← h]; exact h2))).mono (HSA.out h).size)⟩
end Go.Proofs.YtbkmgempejckeaaDoor
