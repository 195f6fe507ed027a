/- Package mem: survey of every memory, where three errors of package api are known. -/
import Derived.Test.YtnenggkgfhgcnaaGreatDoorJoF
namespace Go.Proofs.YtnenggkgfhgcnaaGreatDoor
open Go.RowKit

/-- What survey, Get and Put want of memory: three errors of package api. -/
structure MErr3 (a : Nat → Addr) (w : World) : Prop where
  c1 : w.cell? ⟨1, 0, none⟩ = some (.iface 216 (.pointer (some (a 1))))
  c2 : w.cell? ⟨2, 0, none⟩ = some (.iface 216 (.pointer (some (a 2))))
  c4 : w.cell? ⟨5, 0, none⟩ = some (.iface 216 (.pointer (some (a 4))))
theorem MErr3.below {a : Nat → Addr} {w w' : World} (E : MErr3 a w) (hb : Below w.heap.size w w') : MErr3 a w' where
  c1 := (hb.cell (p := ⟨1, 0, none⟩) (lt_of_cell E.c1)).trans E.c1
  c2 := (hb.cell (p := ⟨2, 0, none⟩) (lt_of_cell E.c2)).trans E.c2
  c4 := (hb.cell (p := ⟨5, 0, none⟩) (lt_of_cell E.c4)).trans E.c4
theorem MErr3.we {a : Nat → Addr} {w : World} (E : MErr3 a w) : WErr a w := ⟨E.c1, E.c2⟩
theorem MErr.three {a : Nat → Addr} {w : World} (E : MErr a w) : MErr3 a w := ⟨E.c1, E.c2, E.c4⟩
theorem survey_nil3 (a : Nat → Addr) (w : World) (E : MErr3 a w) :
    Calls Tryz.prog 45 #[.pointer none] w fun ev w' => ev = .returned (.tuple #[.slice none 0 0, errV a 2]) ∧ Below w.heap.size w w' := by
  have hn := shaped_nil w
  have HE := toHid E
  go_enter Tryz.func45, Tryz.ntmps45
  go_wp2_with fail
  refine hn.mono ?_
  rintro ev w1 ⟨rfl, q, hq⟩
  have hb1 : Below w.heap.size w w1 := by rw [hq]; exact below_drewN (Below.refl _ _)
  clear hq
  have k2 := (HE.out.below hb1).c2
  go_wp2_with fail
  go_quiet (fail)
  go_wp2
  go_ret2
  exact ⟨rfl, below_drewN hb1⟩
set_option maxHeartbeats 2000000 in
set_option maxRecDepth 100000 in
theorem survey_unfit3 (a : Nat → Addr) (p : Nat) (m : MD) (hF : ¬ m.FitsM) (w : World) (E : MErr3 a w) (R : RepP p m w) :
    Calls Tryz.prog 45 #[.pointer (some ⟨p, 0, none⟩)] w fun ev w' => ev = .returned (.tuple #[.slice none 0 0, errV a 2]) ∧ Below w.heap.size w w' := by
  obtain ⟨_, vR, vK, vI, _, hp, M, ⟨aW, cW, rfl, _⟩, _, _, _, ⟨aC, cC, rfl, _⟩⟩ := R
  have km := measured_no p m.half m.old m.card m.W.length m.C.length cW cC aW aC m.used m.top m.oldTop vR vK vI hF w M
  go_enter Tryz.func45, Tryz.ntmps45
  go_wp2_with fail
  refine km.mono ?_
  rintro ev w1 ⟨rfl, q, hq⟩
  have hb1 : Below w.heap.size w w1 := by rw [hq]; exact below_drewN (Below.refl _ _)
  have k2 := (E.below hb1).c2
  clear hq M km
  go_wp2_with fail
  go_quiet (fail)
  go_wp2
  go_ret2
  exact ⟨rfl, below_drewN hb1⟩
set_option maxHeartbeats 8000000 in
set_option maxRecDepth 100000 in
theorem survey_fit3 (a : Nat → Addr) (p : Nat) (m : MD) (hF : m.FitsM) (h64 : MD64 m) (bR : m.R.length ≤ 300000) (bK : m.K.length ≤ 300000) (bI : m.I.length ≤ 300000) (w : World) (E : MErr3 a w) (R : RepP p m w) :
    Calls Tryz.prog 45 #[.pointer (some ⟨p, 0, none⟩)] w fun ev w' => SurveyPost a m w ev w' := by
  obtain ⟨_, _, _, _, _, hp, M, ⟨aW, cW, rfl, hcW, fW⟩, ⟨aR, cR, rfl, fR⟩, ⟨aK, cK, rfl, fK⟩, ⟨aI, cI, rfl, fI⟩, ⟨aC, cC, rfl, hcC, fC⟩⟩ := R
  have hnum := hF.nums
  have hwl := hF.w
  have hcl := hF.c
  unfold numsOK at hnum
  have hn : m.W.length ≤ 300000 := by omega
  have hcp : 0 < m.C.length := by
    have : 1 ≤ (m.old + m.card - 1) / m.card := (Int.le_ediv_iff_mul_le (by omega)).2 (by omega)
    omega
  obtain ⟨b, rfl, lb, gW⟩ := fW (by omega)
  obtain ⟨bc, rfl, lbc, gC⟩ := fC hcp
  have L := looked_of hF h64 M hcW gW gC
  have HL := toHid L
  have HRr : Hid (RowV w (.slice aR m.R.length cR) m.R.length (wordsV m.R)) := ⟨_, _, rfl, fR⟩
  have HRk : Hid (RowV w (.slice aK m.K.length cK) m.K.length (wordsV m.K)) := ⟨_, _, rfl, fK⟩
  have HRi : Hid (RowV w (.slice aI m.I.length cI) m.I.length (idsV m.I)) := ⟨_, _, rfl, fI⟩
  have HM := toHid M
  have HE := toHid E
  have HP := toHid (MD.parts hF)
  have H64 := toHid h64
  have HF := toHid hF
  have hmk := make_heads m.W.length (by omega) (m.W.length : Int) rfl
  have km := measured_ok p m.half m.old m.card m.W.length m.C.length cW cC _ _ m.used m.top m.oldTop _ _ _ hF w M
  clear fR fK fI gW gC hnum hwl hcl L M hF h64 fW fC
  go_enter Tryz.func45, Tryz.ntmps45
  go_wp2_with fail
  refine km.mono ?_
  rintro ev w1 ⟨rfl, q, hq⟩
  have hb1 : Below w.heap.size w w1 := by rw [hq]; exact below_drewN (Below.refl _ _)
  clear hq km
  have d3 := (HM.out.below hb1 hp).c3
  go_wp2_with fail
  have hb2 : Below w.heap.size w (w1.alloc (.cells (Array.replicate m.W.length (.bool false)) 4)) := hb1.alloc hb1.size _
  have hlo := hb1.size
  have kf := findHeads_any a w _ p b bc w1.heap.size m.W.length m.C.length cW cC m.half m.old m.card m.used m.top m.oldTop _ _ _ m.F m.Cf m.n0 m.n1 m.m0 m.m1 HP.out HL.out HE.out.we hb2 (marks_new w1 m.W.length) hlo
  clear d3 hb2
  cases ho : m.objs with
  | none =>
    rw [objs_none ho] at kf
    have HS : Hid (∀ vs, ¬ m.Shape vs) := fun vs h => by have := h.2.1; rw [ho] at this; cases this
    refine kf.mono ?_
    rintro ev w2 ⟨rfl, vs, hb3, _, _⟩
    have k2 := (HE.out.below hb3).c2
    clear kf ho
    go_wp2_with fail
    go_quiet (fail)
    go_wp2
    go_ret2
    exact ⟨below_drewN hb3, .inr (.inr ⟨HS.out, rfl⟩)⟩
  | some vs =>
    obtain ⟨l1, l2, e1, e2, e3⟩ := objs_some ho
    rw [e1, e2] at kf
    have HO := toHid ho
    refine kf.mono ?_
    rintro ev w2 ⟨rfl, vs', hb3, hm3, hvs⟩
    obtain rfl : vs' = vs := (hvs l1 l2 rfl rfl).trans e3.symm
    clear kf ho e1 e2 e3 hvs
    have kh := holdFields_any a w w2 p b bc w1.heap.size m.W.length m.C.length cW cC m.half m.old m.card m.used m.top m.oldTop _ _ _ m.F m.Cf m.n0 m.n1 m.m0 m.m1 HP.out HL.out HE.out.we vs' hb3 hm3 hlo
    have eh : ((walkP m.F (G2 m.F m.W.length (fun i => decide (i ∈ vs'))) (m.n1 - m.n0) m.n0 m.n1).isSome && (walkP m.F (G2 m.F m.W.length (fun i => decide (i ∈ vs'))) (m.m1 - m.m0) m.m0 m.m1).isSome) = m.holdB vs' := rfl
    rw [eh] at kh
    clear eh hb3 hm3
    go_wp2_with fail
    refine kh.mono ?_
    rintro ev w3 ⟨rfl, hb4, hm4⟩
    clear kh
    cases hh : m.holdB vs' with
    | false =>
      have HS : Hid (∀ vs, ¬ m.Shape vs) := fun vs h => by
        have e := h.2.1
        rw [HO.out] at e
        cases e
        have e := h.2.2.1
        rw [hh] at e
        cases e
      have k2 := (HE.out.below hb4).c2
      clear HO
      go_wp2_with fail
      go_quiet (fail)
      go_wp2
      go_ret2
      exact ⟨below_drewN hb4, .inr (.inr ⟨HS.out, rfl⟩)⟩
    | true =>
      have HH := toHid hh
      clear hh
      have d7 := (HM.out.below hb4 hp).c7
      have kr := holdAll_any a w1.heap.size m.W.length (fun i => decide (i ∈ vs')) hn m.R bR H64.out.r aR cR w3 (HE.out.below hb4).we hm4.heads hm4.lt (HRr.out.below hb4)
      go_wp2_with fail
      refine kr.mono ?_
      rintro ev w4 ⟨rfl, hb5⟩
      have hb6 := hb4.trans (hb5.mono hb4.size)
      have hm6 := hm4.below hb5
      clear kr hb4 hb5 hm4 d7
      cases hr : m.R.all (fieldB m.W.length (fun i => decide (i ∈ vs'))) with
      | false =>
        have HS : Hid (∀ vs, ¬ m.Shape vs) := fun vs h => by
          have e := h.2.1
          rw [HO.out] at e
          cases e
          have e := h.2.2.2
          unfold MD.restB at e
          rw [hr] at e
          cases e
        have k2 := (HE.out.below hb6).c2
        clear HO
        go_wp2_with fail
        go_quiet (fail)
        go_wp2
        go_ret2
        exact ⟨below_drewN hb6, .inr (.inr ⟨HS.out, rfl⟩)⟩
      | true =>
        have HR := toHid hr
        clear hr
        have d8 := (HM.out.below hb6 hp).c8
        have kr := holdAll_any a w1.heap.size m.W.length (fun i => decide (i ∈ vs')) hn m.K bK H64.out.k aK cK w4 (HE.out.below hb6).we hm6.heads hm6.lt (HRk.out.below hb6)
        go_wp2_with fail
        refine kr.mono ?_
        rintro ev w5 ⟨rfl, hb7⟩
        have hb8 := hb6.trans (hb7.mono hb6.size)
        have hm8 := hm6.below hb7
        clear kr hb6 hb7 hm6 d8
        cases hk : m.K.all (fieldB m.W.length (fun i => decide (i ∈ vs'))) with
        | false =>
          have HS : Hid (∀ vs, ¬ m.Shape vs) := fun vs h => by
            have e := h.2.1
            rw [HO.out] at e
            cases e
            have e := h.2.2.2
            unfold MD.restB at e
            rw [HR.out, hk] at e
            cases e
          have k2 := (HE.out.below hb8).c2
          clear HO
          go_wp2_with fail
          go_quiet (fail)
          go_wp2
          go_ret2
          exact ⟨below_drewN hb8, .inr (.inr ⟨HS.out, rfl⟩)⟩
        | true =>
          have HK := toHid hk
          clear hk
          have d9 := (HM.out.below hb8 hp).c9
          have kr := holdIDs_any a w1.heap.size m.W.length (fun i => decide (i ∈ vs')) hn m.I bI H64.out.i aI cI w5 (HE.out.below hb8).we hm8.heads hm8.lt (HRi.out.below hb8)
          go_wp2_with fail
          refine kr.mono ?_
          rintro ev w6 ⟨rfl, hb9⟩
          have hb10 := hb8.trans (hb9.mono hb8.size)
          have hm10 := hm8.below hb9
          clear kr hb8 hb9 hm8 d9
          cases hi : idsB m.W.length (fun i => decide (i ∈ vs')) m.I with
          | false =>
            have HS : Hid (∀ vs, ¬ m.Shape vs) := fun vs h => by
              have e := h.2.1
              rw [HO.out] at e
              cases e
              have e := h.2.2.2
              unfold MD.restB at e
              rw [HR.out, HK.out, hi] at e
              cases e
            have k2 := (HE.out.below hb10).c2
            clear HO
            go_wp2_with fail
            go_quiet (fail)
            go_wp2
            go_ret2
            exact ⟨below_drewN hb10, .inr (.inr ⟨HS.out, rfl⟩)⟩
          | true =>
            have HSh : Hid (m.Shape vs') := ⟨HF.out, HO.out, HH.out, by unfold MD.restB; rw [HR.out, HK.out, hi]; rfl⟩
            clear hi HR HK HH HO
            have kc := carded_any a w6 w6 p b bc m.W.length m.C.length cW cC m.half m.old m.card m.used m.top m.oldTop _ _ _ m.F m.Cf m.n0 m.n1 m.m0 m.m1 HP.out (HL.out.below hb10) (HE.out.below hb10).we (Below.refl _ _)
            have ec : (walkP m.F (G3 m.F m.Cf m.half m.card) (m.m1 - m.m0) m.m0 m.m1).isSome = m.cardsB := rfl
            rw [ec] at kc
            clear ec
            go_wp2_with fail
            refine kc.mono ?_
            rintro ev w7 ⟨rfl, hb11⟩
            have hb12 := hb10.trans (hb11.mono hb10.size)
            have hm12 := hm10.below hb11
            clear kc hb10 hb11 hm10
            cases hc : m.cardsB with
            | true =>
              have HC := toHid hc
              clear hc
              go_wp2_with fail
              go_ret2
              exact ⟨hb12, .inl ⟨vs', _, HSh.out, HC.out, rfl, hm12, hlo⟩⟩
            | false =>
              have HC := toHid hc
              have k4 := (HE.out.below hb12).c4
              clear hc
              go_wp2_with fail
              go_quiet (fail)
              go_wp2
              go_ret2
              exact ⟨below_drewN hb12, .inr (.inl ⟨vs', HSh.out, HC.out, rfl⟩)⟩
theorem survey_any3 (a : Nat → Addr) (p : Nat) (m : MD) (h64 : MD64 m) (bR : m.R.length ≤ 300000) (bK : m.K.length ≤ 300000) (bI : m.I.length ≤ 300000) (w : World) (E : MErr3 a w) (R : RepP p m w) :
    Calls Tryz.prog 45 #[.pointer (some ⟨p, 0, none⟩)] w fun ev w' => SurveyPost a m w ev w' := by
  by_cases hF : m.FitsM
  · exact survey_fit3 a p m hF h64 bR bK bI w E R
  · refine (survey_unfit3 a p m hF w E R).mono ?_
    rintro ev w1 ⟨rfl, hb⟩
    exact ⟨hb, .inr (.inr ⟨fun vs h => hF h.1, rfl⟩)⟩
end Go.Proofs.YtnenggkgfhgcnaaGreatDoor
