/- The law MajorOrder by a walk. -/
import Derived.Test.YtnenggkgfhgcnaaGreatDoorJoJ
namespace Go.Proofs.YtnenggkgfhgcnaaGreatDoor
open Go.RowKit Go.Maps

theorem jNear_nil (w : World) : Calls Tryz.prog 8 #[.pointer none] w fun ev w' => ev = .returned (.bool true) ∧ w' = w := by
  go_enter Tryz.func8, Tryz.ntmps8
  go_wp2
  go_ret
  exact ⟨rfl, rfl⟩
/-- In which order objects lie behind a collection of all. -/
def OrdP (h : Int) (ψ : Nat → Nat) (rm : List Nat) : Prop := ∀ f ∈ rm, ∀ g ∈ rm, ((2 * h ≤ (f : Int) ∧ ¬ 2 * h ≤ (g : Int)) ∨ ((2 * h ≤ (f : Int) ↔ 2 * h ≤ (g : Int)) ∧ (f : Int) < (g : Int))) → ψ f < ψ g
def SameB (x y : Bool) : Prop := x = y
def OrdQ (h : Int) (f g t u : Nat) : Prop := ((2 * h ≤ (f : Int) ∧ ¬ 2 * h ≤ (g : Int)) ∨ ((2 * h ≤ (f : Int) ↔ 2 * h ≤ (g : Int)) ∧ (f : Int) < (g : Int))) → t < u
set_option maxHeartbeats 4000000 in
set_option maxRecDepth 100000 in
theorem majorOrder_nil (a : Nat → Addr) (w : World) (E : MErr a w) : Calls Tryz.prog 4 #[.pointer none] w fun ev w' => ev = .returned (.bool true) ∧ Below w.heap.size w w' := by
  have ks := still_any a w E
  go_enter Tryz.func4, Tryz.ntmps4
  go_wp2_with fail
  refine ks.mono ?_
  rintro ev w1 ⟨rfl, hb⟩
  go_wp2_with fail
  refine (jNear_nil w1).mono ?_
  rintro ev w2 ⟨rfl, hq⟩
  rw [hq]
  clear hq w2
  go_wp2_with fail
  refine (checkOf_nil w1).mono ?_
  rintro ev w2 ⟨rfl, hb2⟩
  go_wp2_with fail
  go_ret
  exact ⟨rfl, hb.trans (hb2.mono hb.size)⟩
set_option maxHeartbeats 4000000 in
set_option maxRecDepth 100000 in
theorem majorOrder_far (a : Nat → Addr) (p o : Nat) (m : MD) (w : World) (E : MErr a w) (h : RepM p o m w) (hn : ¬ (m.W.length ≤ 1000 ∧ m.R.length ≤ 100 ∧ m.K.length ≤ 100 ∧ m.I.length ≤ 100 ∧ m.C.length ≤ 1000)) : Calls Tryz.prog 4 #[.pointer (some ⟨p, o, none⟩)] w fun ev w' => ev = .returned (.bool true) ∧ Below w.heap.size w w' := by
  have ks := still_any a w E
  go_enter Tryz.func4, Tryz.ntmps4
  go_wp2_with fail
  refine ks.mono ?_
  rintro ev w1 ⟨rfl, hb⟩
  go_wp2_with fail
  refine (near_no p o m w1 (h.below hb) hn).mono ?_
  rintro ev w2 ⟨rfl, hq⟩
  rw [hq]
  clear hq w2
  go_wp2_with fail
  go_ret
  exact ⟨rfl, hb⟩
set_option maxHeartbeats 8000000 in
set_option maxRecDepth 100000 in
theorem majorOrder_near (a : Nat → Addr) (p o : Nat) (m : MD) (w : World) (E : MErr a w) (h : RepM p o m w) (h64 : MD64 m) (n1 : m.W.length ≤ 1000) (n2 : m.R.length ≤ 100) (n3 : m.K.length ≤ 100) (n4 : m.I.length ≤ 100) (n5 : m.C.length ≤ 1000) : Calls Tryz.prog 4 #[.pointer (some ⟨p, o, none⟩)] w fun ev w' => ev = .returned (.bool true) ∧ Below w.heap.size w w' := by
  have HE := toHid E
  have HR := toHid h
  have H64 := toHid h64
  have ks := still_any a w E
  clear E h h64
  go_enter Tryz.func4, Tryz.ntmps4
  go_wp2_with fail
  refine ks.mono ?_
  clear ks
  rintro ev w1 ⟨rfl, hb1⟩
  go_wp2_with fail
  refine (near_yes p o m w1 (HR.out.below hb1) n1 n2 n3 n4 n5).mono ?_
  rintro ev w2 ⟨rfl, hq⟩
  rw [hq]
  clear hq w2
  go_wp2_with fail
  refine (checkOf_any p o m H64.out (by omega) (by omega) (by omega) w1 (HR.out.below hb1)).mono ?_
  rintro ev w2 ⟨hb2, ⟨vs, hS, hC, rfl⟩ | ⟨vs, _, _, rfl⟩ | ⟨_, rfl⟩⟩
  rotate_left
  · have HB2 : Hid (Below w.heap.size w w2) := hb1.trans (hb2.mono hb1.size)
    clear hb1 hb2
    go_wp2_with fail
    go_ret
    exact ⟨rfl, HB2.out⟩
  · have HB2 : Hid (Below w.heap.size w w2) := hb1.trans (hb2.mono hb1.size)
    clear hb1 hb2
    go_wp2_with fail
    go_ret
    exact ⟨rfl, HB2.out⟩
  · have hb02 := hb1.trans (hb2.mono hb1.size)
    have HS := toHid hS
    have HC := toHid hC
    have HB02 := toHid hb02
    clear hb1 hb2 hS hC
    go_wp2_with fail
    refine (memOf_own p o m w2 (HR.out.below hb02) (by omega) (by omega) (by omega) (by omega) (by omega)).mono ?_
    rintro ev w3 ⟨bx, rfl, O3, hb3⟩
    obtain ⟨l1, l2, hv, g1, g2⟩ := HS.out.bare
    obtain ⟨bW, bC, cW, cC, vR, vK, vI, hCA, x0, x1, x2⟩ := colAt_of O3 (shape_pos HS.out).1 (shape_pos HS.out).2.1
    have kc := jcollect_any a bx bW bC cW cC m vR vK vI l1 l2 w3 hCA (by rw [← hv]; exact HS.out) HC.out H64.out g1 g2 (by omega) (by omega) (by omega) (fun w' h => (HE.out.below HB02.out).below (hb3.trans (h.below hb3.size (fun q hq hx => by
      rcases hx with h | h | h <;> omega))))
    have HHV := toHid hv
    have HG1 := toHid g1
    have HG2 := toHid g2
    have HB3 : Hid (Below w2.heap.size w2 w3) := hb3
    have HXX : Hid (w2.heap.size ≤ bx ∧ w2.heap.size ≤ bW ∧ w2.heap.size ≤ bC) := ⟨x0, x1, x2⟩
    clear O3 hCA hv g1 g2 hb3 x0 x1 x2 hb02
    go_wp2_with fail
    refine kc.mono ?_
    clear kc
    rintro ev w4 (⟨_, rfl, hb4⟩ | ⟨_, rfl, P, φ, X, hPf, vR', vK', vI', hN, ha⟩)
    · have HBE : Hid (Below w.heap.size w w4) := HB02.out.trans ((HB3.out.trans (hb4.mono HB3.out.size)).mono HB02.out.size)
      clear hb4
      unfold errV
      go_wp2_with fail
      go_ret
      exact ⟨rfl, HBE.out⟩
    · have hb4 : Below w2.heap.size w2 w4 := HB3.out.trans (ha.below HB3.out.size (fun q hq hx => by
        obtain ⟨x0, x1, x2⟩ := HXX.out
        rcases hx with h | h | h <;> omega))
      have HB4 : Hid (Below w.heap.size w w4) := HB02.out.trans (hb4.mono HB02.out.size)
      have Sm : m.Shape (l1 ++ l2) := by rw [← HHV.out]; exact HS.out
      have J := jdone_of Sm H64.out X hPf
      obtain ⟨n, hn⟩ : ∃ n, n = majM m φ (carryL m.W.length φ m.W P) (m.m0 + m.live (l1 ++ l2)) := ⟨_, rfl⟩
      obtain ⟨us, hus⟩ : ∃ us, us = P.map Prod.snd := ⟨_, rfl⟩
      obtain ⟨ψ, hψ⟩ : ∃ ψ, ψ = atP φ := ⟨_, rfl⟩
      rw [← hn, ← hus, ← hψ] at J
      rw [← hn] at hN
      have lR : n.R.length ≤ 300000 := by rw [J.C.roots, List.length_map]; omega
      have lK : n.K.length ≤ 300000 := by rw [J.C.klen]; omega
      have lI : n.I.length ≤ 300000 := by have := J.C.ilen; omega
      have kb := memBack_any bx n w4 hN.repP.rep (shape_pos J.C.shape).2.2 lR lK lI (shape_c J.C.shape)
      have HLR := toHid lR
      obtain ⟨hrs, hin⟩ := reach_same Sm H64.out J.C.shape J.C.h64 J.C.iso J.C.roots J.C.rin
      have HRS : Hid (n.reach us = (m.reach vs).map ψ) := by show _ = _; rw [hrs, ← HHV.out]
      have HOR : OrdP m.half ψ (m.reach vs) := fun f hf g hg h => by
        rw [HHV.out] at hf hg
        exact J.order Sm HG1.out HG2.out ((J.led f).2 hf) ((J.led g).2 hg) h
      have HJ := toHid J
      clear hb4 hN ha lR lK lI hrs hin Sm J X hPf hn hus hψ
      go_wp2_with fail
      refine kb.mono ?_
      clear kb
      rintro ev w5 ⟨bn, rfl, _, hRn, hb5⟩
      have HB5 : Hid (Below w.heap.size w w5) := HB4.out.trans (hb5.mono HB4.out.size)
      have HRn := toHid hRn
      clear hRn hb5
      have k1 := reached_any p o m vs HS.out H64.out (by omega) w5 (HR.out.below HB5.out)
      obtain ⟨rm, hrm⟩ : ∃ rm, rm = m.reach vs := ⟨_, rfl⟩
      rw [← hrm] at k1 HRS HOR
      have hrl : rm.length ≤ 300000 := by
        rw [hrm]
        have := (reach_outs HS.out H64.out).len
        have := HS.out.few
        omega
      clear hrm
      go_wp2_with fail
      refine k1.mono ?_
      clear k1
      rintro ev w6 ⟨aw, cw, rfl, hRw, hb6⟩
      have k2 := reached_any bn 0 n us HJ.out.C.shape HJ.out.C.h64 HLR.out w6 (HRn.out.below hb6)
      rw [HRS.out, List.length_map] at k2
      have HRw := toHid hRw
      have HB6 : Hid (Below w.heap.size w w6) := HB5.out.trans (hb6.mono HB5.out.size)
      clear hRw hb6
      go_wp2_with fail
      refine k2.mono ?_
      clear k2
      rintro ev w7 ⟨an, cn, rfl, hRo, hb7⟩
      have HRo := toHid hRo
      have HRw7 : Hid (RowV w7 (.slice aw rm.length cw) rm.length (objsV m.F rm)) := RowV.below HRw.out hb7
      have HB7 : Hid (Below w.heap.size w w7) := HB6.out.trans (hb7.mono HB6.out.size)
      have hnum := HS.out.1.nums
      unfold numsOK at hnum
      have hh1 : 1 ≤ m.half ∧ m.half ≤ 65536 := by omega
      have HHf := toHid hh1
      clear hRo hb7 hnum hh1
      go_wp2_with fail
      go_loopg [8] (rm.length + 1) (fun gk v8 wr => ∃ i : Nat, gk = rm.length + 1 - i ∧ i ≤ rm.length ∧ v8 = .int .i64 (i : Int) ∧ Hid (Below w7.heap.size w7 wr))
      case atStart => exact ⟨0, rfl, Nat.zero_le _, rfl, Below.refl _ _⟩
      case round =>
        obtain ⟨i, hgk, hi', rfl, hB⟩ := hrel
        have HGK := toHid hgk
        clear hgk
        have hi0 : (0 : Int) ≤ (i : Int) := by omega
        by_cases hlt : i < rm.length
        · have hI : (i : Int) < (rm.length : Int) := by omega
          obtain ⟨f, hf⟩ : ∃ f, rm[i]? = some f := ⟨_, List.getElem?_eq_getElem hlt⟩
          have HFM := toHid (List.mem_of_getElem? hf)
          have hf2 : (rm.map ψ)[i]? = some (ψ f) := by rw [List.getElem?_map, hf]; rfl
          obtain ⟨_, _, e7, _, f7⟩ := id HRw7.out
          cases e7
          obtain ⟨gA, oA, rfl, lA, cA⟩ := f7 (by omega)
          obtain ⟨_, _, e8, _, f8⟩ := id HRo.out
          cases e8
          obtain ⟨gB, oB, rfl, lB, cB⟩ := f8 (by omega)
          obtain ⟨t, hpt⟩ : ∃ t, t = ψ f := ⟨_, rfl⟩
          have HCI : Hid (∀ W, Below w7.heap.size w7 W → W.cell? ⟨gA, oA + i * 4, none⟩ = some (.int .i64 (f : Int)) ∧ W.cell? ⟨gB, oB + i * 4, none⟩ = some (.int .i64 (t : Int)) ∧ W.cell? ⟨p, o, none⟩ = some (.int .i64 m.half)) := fun W hW => by
            refine ⟨(hW.cell (p := ⟨gA, oA + i * 4, none⟩) lA).trans (cA (i * 4) _ (objs_at hf 0 (by omega))), by rw [hpt]; exact (hW.cell (p := ⟨gB, oB + i * 4, none⟩) lB).trans (cB (i * 4) _ (objs_at hf2 0 (by omega))), ?_⟩
            obtain ⟨_, _, _, _, _, _, Mm, _⟩ := (HR.out.below HB7.out).below hW
            exact Mm.c0
          have HCA := toHid cA
          have HCB := toHid cB
          have HPT := toHid hpt
          clear f7 f8 cA cB hpt hf hf2
          go_wp2_with fail
          go_loopg [9] (rm.length + 1) (fun gk v9 wr2 => ∃ k : Nat, gk = rm.length + 1 - k ∧ k ≤ rm.length ∧ v9 = .int .i64 (k : Int) ∧ Hid (Below w7.heap.size w7 wr2))
          case atStart => exact ⟨0, rfl, Nat.zero_le _, rfl, hB⟩
          case round =>
            obtain ⟨k, hgk, hk', rfl, hB2⟩ := hrel
            have HGK2 := toHid hgk
            clear hgk
            have hk0 : (0 : Int) ≤ (k : Int) := by omega
            by_cases hlt2 : k < rm.length
            · have hI2 : (k : Int) < (rm.length : Int) := by omega
              obtain ⟨g, hg⟩ : ∃ g, rm[k]? = some g := ⟨_, List.getElem?_eq_getElem hlt2⟩
              have hg2 : (rm.map ψ)[k]? = some (ψ g) := by rw [List.getElem?_map, hg]; rfl
              obtain ⟨u, hpu⟩ : ∃ u, u = ψ g := ⟨_, rfl⟩
              have HCK : Hid (∀ W, Below w7.heap.size w7 W → W.cell? ⟨gA, oA + k * 4, none⟩ = some (.int .i64 (g : Int)) ∧ W.cell? ⟨gB, oB + k * 4, none⟩ = some (.int .i64 (u : Int))) := fun W hW => ⟨(hW.cell (p := ⟨gA, oA + k * 4, none⟩) lA).trans (HCA.out (k * 4) _ (objs_at hg 0 (by omega))), by rw [hpu]; exact (hW.cell (p := ⟨gB, oB + k * 4, none⟩) lB).trans (HCB.out (k * 4) _ (objs_at hg2 0 (by omega)))⟩
              have HORD : OrdQ m.half f g t u := fun h => by rw [HPT.out, hpu]; exact HOR f HFM.out g (List.mem_of_getElem? hg) h
              have hh1 := HHf.out
              have e2 : IntKind.i64.wrap (2 * m.half) = 2 * m.half := wrapI _ (by omega) (by omega)
              clear hg hg2 hpu hh1
              obtain ⟨ci1, ci2, ci3⟩ := HCI.out wr hB2.out
              obtain ⟨ck1, ck2⟩ := HCK.out wr hB2.out
              by_cases hA : 2 * m.half ≤ (f : Int) <;> by_cases hG : 2 * m.half ≤ (g : Int) <;> by_cases hLt : (f : Int) < (g : Int)
              all_goals (
                have hq : ((2 * m.half ≤ (f : Int) ∧ ¬ 2 * m.half ≤ (g : Int)) ∨ ((2 * m.half ≤ (f : Int) ↔ 2 * m.half ≤ (g : Int)) ∧ (f : Int) < (g : Int))) → ¬ (u : Int) ≤ (t : Int) := fun h => by have := HORD h; omega
                first | have hz := hq (Or.inl ⟨hA, hG⟩) | have hz := hq (Or.inr ⟨⟨fun _ => hG, fun _ => hA⟩, hLt⟩) | have hz := hq (Or.inr ⟨⟨fun h => absurd h hA, fun h => absurd h hG⟩, hLt⟩) | have hz := True.intro
                clear hq
                first | have dA : SameB (decide (2 * m.half ≤ (f : Int))) false := decide_eq_false hA | have dA := True.intro
                first | have dG : SameB (decide (2 * m.half ≤ (g : Int))) false := decide_eq_false hG | have dG := True.intro
                first | have dL : SameB (decide ((f : Int) < (g : Int))) false := decide_eq_false hLt | have dL := True.intro
                first | have dL2 : decide (f < g) = true := decide_eq_true (by omega) | have dL2 : decide (f < g) = false := decide_eq_false (by omega)
                first | have hz2 : decide (u ≤ t) = false := decide_eq_false (by omega) | have hz2 := True.intro
                first | have hz3 : decide ((u : Int) ≤ (t : Int)) = false := decide_eq_false (by omega) | have hz3 := True.intro
                go_wp2_with fail
                go_quiet (fail)
                obtain ⟨w8, hw8⟩ : ∃ w8, w8 = wr.drewN nq := ⟨_, rfl⟩
                have hB8 : Hid (Below w7.heap.size w7 w8) := by rw [hw8]; exact below_drewN hB2.out
                rw [← hw8]
                first | rw [show decide (2 * m.half ≤ (f : Int)) = false from dA] | skip
                first | rw [show decide (2 * m.half ≤ (g : Int)) = false from dG] | skip
                first | rw [show decide ((f : Int) < (g : Int)) = false from dL] | skip
                clear hw8 ci1 ci2 ci3 ck1 ck2
                obtain ⟨ci1, ci2, ci3⟩ := HCI.out w8 hB8.out
                obtain ⟨ck1, ck2⟩ := HCK.out w8 hB8.out
                go_wp2_with fail
                go_quiet (fail)
                obtain ⟨w9, hw9⟩ : ∃ w9, w9 = w8.drewN nq := ⟨_, rfl⟩
                have hB9 : Hid (Below w7.heap.size w7 w9) := by rw [hw9]; exact below_drewN hB8.out
                rw [← hw9]
                first | rw [show decide (2 * m.half ≤ (f : Int)) = false from dA] | skip
                first | rw [show decide (2 * m.half ≤ (g : Int)) = false from dG] | skip
                first | rw [show decide ((f : Int) < (g : Int)) = false from dL] | skip
                clear hw9 ci1 ci2 ci3 ck1 ck2
                obtain ⟨ci1, ci2, ci3⟩ := HCI.out w9 hB9.out
                obtain ⟨ck1, ck2⟩ := HCK.out w9 hB9.out
                go_wp2_with fail
                go_quiet (fail)
                obtain ⟨w10, hw10⟩ : ∃ w10, w10 = w9.drewN nq := ⟨_, rfl⟩
                have hB10 : Hid (Below w7.heap.size w7 w10) := by rw [hw10]; exact below_drewN hB9.out
                rw [← hw10]
                first | rw [show decide (2 * m.half ≤ (f : Int)) = false from dA] | skip
                first | rw [show decide (2 * m.half ≤ (g : Int)) = false from dG] | skip
                first | rw [show decide ((f : Int) < (g : Int)) = false from dL] | skip
                clear hw10 ci1 ci2 ci3 ck1 ck2
                obtain ⟨ci1, ci2, ci3⟩ := HCI.out w10 hB10.out
                obtain ⟨ck1, ck2⟩ := HCK.out w10 hB10.out
                go_wp2_with fail
                go_quiet (fail)
                obtain ⟨w11, hw11⟩ : ∃ w11, w11 = w10.drewN nq := ⟨_, rfl⟩
                have hB11 : Hid (Below w7.heap.size w7 w11) := by rw [hw11]; exact below_drewN hB10.out
                rw [← hw11]
                clear hw11 ci1 ci2 ci3 ck1 ck2
                go_wp2_with fail
                go_roundg (rm.length + 1 - (k + 1))
                case measure => have := HGK2.out; omega
                case rel => exact ⟨k + 1, rfl, by omega, by go_num, hB11⟩)
            · have hI2 : ¬ (k : Int) < (rm.length : Int) := by omega
              go_wp2_with fail
              go_roundg (rm.length + 1 - (i + 1))
              case measure => have := HGK.out; omega
              case rel => exact ⟨i + 1, rfl, by omega, by go_num, hB2⟩
        · have hI : ¬ (i : Int) < (rm.length : Int) := by omega
          have HBE : Hid (Below w.heap.size w wr) := HB7.out.trans (hB.out.mono HB7.out.size)
          go_wp2_with fail
          go_ret
          exact ⟨rfl, HBE.out⟩
theorem majorOrder_any (a : Nat → Addr) (p o : Nat) (m : MD) (w : World) (E : MErr a w) (h : RepM p o m w) (h64 : MD64 m) : Calls Tryz.prog 4 #[.pointer (some ⟨p, o, none⟩)] w fun ev w' => ev = .returned (.bool true) ∧ Below w.heap.size w w' := by
  by_cases hn : m.W.length ≤ 1000 ∧ m.R.length ≤ 100 ∧ m.K.length ≤ 100 ∧ m.I.length ≤ 100 ∧ m.C.length ≤ 1000
  · exact majorOrder_near a p o m w E h h64 hn.1 hn.2.1 hn.2.2.1 hn.2.2.2.1 hn.2.2.2.2
  · exact majorOrder_far a p o m w E h hn
end Go.Proofs.YtnenggkgfhgcnaaGreatDoor
