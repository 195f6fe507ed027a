/- The law MemWalks by a walk. -/
import Derived.Test.YtbkmgempejckeaaDoorMemRP
namespace Go.Proofs.YtbkmgempejckeaaDoor
open Go.RowKit

theorem mwNear_nil (w : World) : Calls Tryd.prog 14 #[.pointer none] w fun ev w' => ev = .returned (.bool true) ∧ w' = w := by
  go_enter Tryd.func14, Tryd.ntmps14
  go_wp2
  go_ret
  exact ⟨rfl, rfl⟩
set_option maxRecDepth 100000 in
theorem memWalks_nil (w : World) : Calls Tryd.prog 7 #[.pointer none] w fun ev w' => ev = .returned (.bool true) ∧ Below w.heap.size w w' := by
  go_enter Tryd.func7, Tryd.ntmps7
  go_wp2_with fail
  refine (fresh_any w).mono ?_
  rintro ev w1 ⟨rfl, hb⟩
  go_wp2_with fail
  refine (mwNear_nil w1).mono ?_
  rintro ev w2 ⟨rfl, hq⟩
  rw [hq]
  clear hq w2
  go_wp2_with fail
  refine (checkOf_nil w1).mono ?_
  rintro ev w2 ⟨rfl, hb2⟩
  go_wp2_with fail
  go_ret
  exact ⟨rfl, hb.trans (hb2.mono hb.size)⟩
theorem memWalks_far (p o : Nat) (m : MD) (w : World) (h : RepM p o m w) (hn : ¬ (m.W.length ≤ 1000 ∧ m.R.length ≤ 100 ∧ m.K.length ≤ 100 ∧ m.I.length ≤ 100 ∧ m.C.length ≤ 1000)) : Calls Tryd.prog 7 #[.pointer (some ⟨p, o, none⟩)] w fun ev w' => ev = .returned (.bool true) ∧ Below w.heap.size w w' := by
  go_enter Tryd.func7, Tryd.ntmps7
  go_wp2_with fail
  refine (fresh_any w).mono ?_
  rintro ev w1 ⟨rfl, hb⟩
  go_wp2_with fail
  refine (near_no p o m w1 (h.below hb) hn).mono ?_
  rintro ev w2 ⟨rfl, hq⟩
  rw [hq]
  clear hq w2
  go_wp2_with fail
  go_ret
  exact ⟨rfl, hb⟩
set_option maxHeartbeats 8000000 in
set_option maxRecDepth 100000 in
theorem memWalks_near (a : Nat → Addr) (p o : Nat) (m : MD) (w : World) (E : MErr3 a w) (h : RepM p o m w) (h64 : MD64 m) (n1 : m.W.length ≤ 1000) (n2 : m.R.length ≤ 100) (n3 : m.K.length ≤ 100) (n4 : m.I.length ≤ 100) (n5 : m.C.length ≤ 1000) : Calls Tryd.prog 7 #[.pointer (some ⟨p, o, none⟩)] w fun ev w' => ev = .returned (.bool true) ∧ Below w.heap.size w w' := by
  have HE := toHid E
  have HR := toHid h
  have H64 := toHid h64
  clear E h h64
  go_enter Tryd.func7, Tryd.ntmps7
  go_wp2_with fail
  refine (fresh_any w).mono ?_
  rintro ev w1 ⟨rfl, hb1⟩
  go_wp2_with fail
  refine (near_yes p o m w1 (HR.out.below hb1) n1 n2 n3 n4 n5).mono ?_
  rintro ev w2 ⟨rfl, hq⟩
  rw [hq]
  clear hq w2
  go_wp2_with fail
  refine (checkOf_any p o m H64.out (by omega) (by omega) (by omega) w1 (HR.out.below hb1)).mono ?_
  rintro ev w2 ⟨hb2, ⟨vs, hS, hC, rfl⟩ | ⟨vs, _, _, rfl⟩ | ⟨_, rfl⟩⟩
  · have hb02 := hb1.trans (hb2.mono hb1.size)
    have HS := toHid hS
    have HC := toHid hC
    clear hb1 hb2 hS hC
    go_wp2_with fail
    refine (memOf_own p o m w2 (HR.out.below hb02) (by omega) (by omega) (by omega) (by omega) (by omega)).mono ?_
    rintro ev w3 ⟨bx, rfl, O3, hb3⟩
    have hb03 := hb02.trans (hb3.mono hb02.size)
    go_wp2_with fail
    refine (all_right p o m vs HS.out H64.out w3 (HR.out.below hb03)).mono ?_
    rintro ev w4 ⟨ao, cap, rfl, hRo, hb4⟩
    have hb04 := hb03.trans (hb4.mono hb03.size)
    have HO : Hid (OwnP w2.heap.size bx m w4) := O3.below hb4
    have HRo := toHid hRo
    have HB04 := toHid hb04
    have HB24 : Hid (Below w2.heap.size w2 w4) := hb3.trans (hb4.mono hb3.size)
    have HB02 := toHid hb02
    have hvl := HS.out.few
    clear O3 hb3 hb4 hb03 hb04 hRo hb02
    go_wp2_with fail
    go_loopg [7] (vs.length + 1) (fun gk v7 wr => ∃ k : Nat, gk = vs.length + 1 - k ∧ k ≤ vs.length ∧ v7 = .int .i64 (k : Int) ∧ Below w4.heap.size w4 wr)
    case atStart => exact ⟨0, rfl, Nat.zero_le _, rfl, Below.refl _ _⟩
    case round =>
      obtain ⟨k, hgk, hk, hv, hbr⟩ := hrel
      subst hv
      have HG := toHid hgk
      clear hgk
      by_cases hlt : k < vs.length
      · have hI : (k : Int) < (vs.length : Int) := by omega
        have hI0 : (0 : Int) ≤ (k : Int) := by omega
        obtain ⟨f, hf⟩ : ∃ f, vs[k]? = some f := ⟨_, List.getElem?_eq_getElem hlt⟩
        have HIN : Hid (f ∈ vs) := List.mem_of_getElem? hf
        have hff := HS.out.fine f HIN.out
        obtain ⟨_, _, e, _, f1⟩ := HRo.out
        cases e
        obtain ⟨p1, o1, rfl, lp1, g1⟩ := f1 (by omega)
        have rr : ∀ j, j < 4 → ∀ u, (objV m.F f)[j]? = some u → w4.cell? ⟨p1, o1 + k * 4 + j, none⟩ = some u := fun j hj u hu => by
          rw [Nat.add_assoc]
          exact g1 _ _ ((objs_at hf j hj).trans hu)
        have r0 : w4.cell? ⟨p1, o1 + k * 4, none⟩ = some (.int .i64 (f : Int)) := rr 0 (by omega) _ rfl
        have r1 := rr 1 (by omega) _ rfl
        have r3 := rr 3 (by omega) _ rfl
        have hrg := MD.range H64.out f (by omega)
        obtain ⟨s, hs⟩ : ∃ s : Nat, (s : Int) = m.F f / 65536 := ⟨(m.F f / 65536).toNat, by omega⟩
        have HSZ : Hid (szN (m.F f) = s) := by show _ = _; unfold szN; omega
        have hsl : f + 1 + s ≤ m.W.length := by rw [← HSZ.out]; exact hff.2
        rw [← hs] at r3
        obtain ⟨kd, hkd⟩ : ∃ kd, kd = m.F f / 4 % 256 := ⟨_, rfl⟩
        rw [← hkd] at r1
        have HKD := toHid hkd
        have HR0 := toHid r0
        have HR1 := toHid r1
        have HR3 := toHid r3
        clear rr g1 f1 hf hff hrg hs r0 r1 r3 hkd
        go_wp2_with fail
        go_loopg [8] (s + 1) (fun gj v8 wr2 => ∃ j : Nat, gj = s + 1 - j ∧ j ≤ s ∧ v8 = .int .i64 (j : Int) ∧ Below w4.heap.size w4 wr2)
        case atStart => exact ⟨0, rfl, Nat.zero_le _, rfl, hbr⟩
        case round =>
          obtain ⟨j, hgj, hj, hv, hb5⟩ := hrel
          subst hv
          have HG2 := toHid hgj
          clear hgj
          have q0 := (hb5.cell (p := ⟨p1, o1 + k * 4, none⟩) lp1).trans HR0.out
          have q1 := (hb5.cell (p := ⟨p1, o1 + k * 4 + 1, none⟩) lp1).trans HR1.out
          have q3 := (hb5.cell (p := ⟨p1, o1 + k * 4 + 3, none⟩) lp1).trans HR3.out
          by_cases hjl : j < s
          · have hJ : (j : Int) < (s : Int) := by omega
            have ka := addrWord_any (f : Int) (by omega) (by omega) wr
            have hb25 := HB24.out.trans (hb5.mono HB24.out.size)
            have hb05 := HB04.out.trans (hb5.mono HB04.out.size)
            have kg := get_ok a w2.heap.size bx m vs HS.out HC.out H64.out (by omega) (by omega) (by omega) f j HIN.out (by rw [HSZ.out]; exact hjl) wr (HE.out.below hb05) (HO.out.below hb5)
            obtain ⟨y, hy⟩ : ∃ y : Nat, y = f + 1 + j := ⟨_, rfl⟩
            have hyl : y < m.W.length := by omega
            rw [← hy] at kg
            have hrg := MD.range H64.out y hyl
            obtain ⟨xw, hxw⟩ : ∃ xw, xw = m.F y := ⟨_, rfl⟩
            rw [← hxw] at kg hrg
            have HXW := toHid hxw
            have HYY := toHid hy
            have e1 : IntKind.i64.wrap ((f : Int) + 1) = (f : Int) + 1 := wrapI _ (by omega) (by omega)
            have e2 : IntKind.i64.wrap ((f : Int) + 1 + (j : Int)) = (y : Int) := by rw [wrapI _ (by omega) (by omega)]; omega
            have hY : (y : Int) < (m.W.length : Int) := by omega
            have hY0 : (0 : Int) ≤ (y : Int) := by omega
            generalize hap : ((f : Int) + 1) * 4 = ap at *
            have HAP := toHid hap
            clear hxw hy hap
            go_wp2_with fail
            refine ka.mono ?_
            rintro ev w6 ⟨rfl, hq⟩
            rw [hq]
            clear hq w6
            go_wp2_with fail
            refine kg.mono ?_
            rintro ev w6 ⟨rfl, hb6⟩
            clear kg ka
            have hb46 := hb5.trans (hb6.mono hb5.size)
            have hb06 := hb05.trans (hb6.mono hb05.size)
            have hb26 := hb25.trans (hb6.mono hb25.size)
            have s0 := (hb6.cell (p := ⟨p1, o1 + k * 4, none⟩) (lt_of_cell q0)).trans q0
            have s1 := (hb6.cell (p := ⟨p1, o1 + k * 4 + 1, none⟩) (lt_of_cell q1)).trans q1
            obtain ⟨_, _, _, _, _, hpl, M6, ⟨aW, cW, rfl, hcW, fW⟩, _, _, _, _⟩ := HR.out.below hb06
            obtain ⟨b, ob, rfl, lb, gW⟩ := fW (by omega)
            have c3 := M6.c3
            have cy : w6.cell? ⟨b, ob + y, none⟩ = some (.int .u64 xw) := by
              rw [HXW.out]
              exact gW y _ (words_at (by unfold MD.F; rw [List.getD_eq_getElem?_getD, List.getElem?_eq_getElem hyl]; rfl))
            have hne : (xw != xw) = false := by rw [bne_self_eq_false]
            clear q0 q1 q3 M6 fW gW hb5 hb05 hb25
            go_wp2_with fail
            go_quiet (fail)
            obtain ⟨w7, hw7⟩ : ∃ w7, w7 = w6.drewN nq := ⟨_, rfl⟩
            rw [← hw7]
            have hb7 : Below w6.heap.size w6 w7 := by rw [hw7]; exact below_drewN (Below.refl _ _)
            have t0 := (hb7.cell (p := ⟨p1, o1 + k * 4, none⟩) (lt_of_cell s0)).trans s0
            have t1 := (hb7.cell (p := ⟨p1, o1 + k * 4 + 1, none⟩) (lt_of_cell s1)).trans s1
            have hb47 := hb46.trans (hb7.mono hb46.size)
            have hb27 := hb26.trans (hb7.mono hb26.size)
            have ka := addrWord_any (f : Int) (by omega) (by omega) w7
            rw [HAP.out] at ka
            clear hw7 s0 s1 c3 cy hb7 hb46 hb06 hb26
            by_cases hkd : kd < 8
            · have hk7 : ¬ 7 < kd := by omega
              go_wp2_with fail
              go_roundg (s + 1 - (j + 1))
              case measure => have := HG2.out; omega
              case rel => exact ⟨j + 1, rfl, by omega, by go_num, hb47⟩
            · have hk7 : 7 < kd := by omega
              have kp := put_ok a w2 bx m vs HS.out HC.out H64.out (by omega) (by omega) (by omega) f j HIN.out (by rw [HSZ.out]; exact hjl) (by rw [← HKD.out]; exact hkd) xw hrg.1 hrg.2 (by rw [HXW.out, HYY.out]; exact HS.out.held HIN.out (by rw [HSZ.out]; exact hjl) (by rw [← HKD.out]; exact hkd)) w7 (HE.out.below HB02.out) hb27 (HO.out.below hb47)
              rw [HAP.out] at kp
              go_wp2_with fail
              refine ka.mono ?_
              rintro ev w8 ⟨rfl, hq⟩
              rw [hq]
              clear hq w8
              go_wp2_with fail
              refine kp.mono ?_
              rintro ev w8 ⟨rfl, _, _, hb8⟩
              have hb8' := hb8 (by rw [HXW.out, HYY.out])
              have hb48 := hb47.trans (hb8'.mono hb47.size)
              clear kp ka hb8 hb8' hb27 hb47
              go_wp2_with fail
              go_roundg (s + 1 - (j + 1))
              case measure => have := HG2.out; omega
              case rel => exact ⟨j + 1, rfl, by omega, by go_num, hb48⟩
          · obtain rfl : j = s := by omega
            go_wp2_with fail
            all_goals go_roundg (vs.length + 1 - (k + 1))
            all_goals (first | (have := HG.out; omega) | exact ⟨k + 1, rfl, by omega, by go_num, hb5⟩)
      · obtain rfl : k = vs.length := by omega
        have hb05 := HB04.out.trans (hbr.mono HB04.out.size)
        have O5 := HO.out.below hbr
        have P5 := O5.repP
        obtain ⟨_, _, _, _, _, hx5, MX, ⟨aX, cX, rfl, rX⟩, _, _, _, _⟩ := id P5.rep
        obtain ⟨_, _, _, _, _, hp5, M5, ⟨aW, cW, rfl, rW⟩, _, _, _, _⟩ := HR.out.below hb05
        have HB05 := toHid hb05
        have kw : Hid (∀ W, Below wr.heap.size wr W → Calls Tryd.prog 27 #[.slice aX m.W.length cX, .slice aW m.W.length cW] W fun ev w' => ev = .returned (.bool true) ∧ Below wr.heap.size wr w') := fun W hW => by
          refine (sameWords_eq m.W aX aW cX cW (by omega) W (RowV.below ⟨_, _, rfl, rX⟩ hW) (RowV.below ⟨_, _, rfl, rW⟩ hW)).mono ?_
          rintro ev w9 ⟨rfl, q, hq⟩
          exact ⟨rfl, by rw [hq]; exact below_drewN hW⟩
        have kc : Hid (∀ W, Below wr.heap.size wr W → Calls Tryd.prog 28 #[.pointer (some ⟨bx, 0, none⟩)] W fun ev w' => ev = .returned .nilIface ∧ Below wr.heap.size wr w') := fun W hW => by
          refine (check_right a bx m vs HS.out HC.out H64.out (by omega) (by omega) (by omega) W (HE.out.below (HB05.out.trans (hW.mono HB05.out.size))) (P5.below hW)).mono ?_
          rintro ev w9 ⟨rfl, hb9⟩
          exact ⟨rfl, hW.trans (hb9.mono hW.size)⟩
        have HF : Hid (∀ W, Below wr.heap.size wr W → W.cell? ⟨bx, 3, none⟩ = some (.slice aX m.W.length cX) ∧ W.cell? ⟨bx, 5, none⟩ = some (.int .i64 m.top) ∧ W.cell? ⟨bx, 6, none⟩ = some (.int .i64 m.oldTop) ∧ W.cell? ⟨p, o + 3, none⟩ = some (.slice aW m.W.length cW) ∧ W.cell? ⟨p, o + 5, none⟩ = some (.int .i64 m.top) ∧ W.cell? ⟨p, o + 6, none⟩ = some (.int .i64 m.oldTop)) := fun W hW => by
          have A := MX.below hW hx5
          have C := M5.below hW hp5
          have a3 := A.c3
          have a5 := A.c5
          have a6 := A.c6
          rw [Nat.zero_add] at a3 a5 a6
          exact ⟨a3, a5, a6, C.c3, C.c5, C.c6⟩
        obtain ⟨c3, c5, c6, d3, d5, d6⟩ := HF.out wr (Below.refl _ _)
        clear rX rW MX M5 P5 O5 hb05
        go_upto_region 17 with fail
        go_region_held3 (fun W => W.cell? ⟨bx, 3, none⟩ = some (.slice aX m.W.length cX) ∧ W.cell? ⟨bx, 5, none⟩ = some (.int .i64 m.top) ∧ W.cell? ⟨bx, 6, none⟩ = some (.int .i64 m.oldTop) ∧ W.cell? ⟨p, o + 3, none⟩ = some (.slice aW m.W.length cW) ∧ W.cell? ⟨p, o + 5, none⟩ = some (.int .i64 m.top) ∧ W.cell? ⟨p, o + 6, none⟩ = some (.int .i64 m.oldTop)) (first | go_keep | with_reducible exact HF.out _ (by assumption)) (first
          | (go_at_call 27; refine (kw.out _ (by first | assumption | exact (Below.refl _ _).drew)).mono ?_; rintro ev w8 ⟨rfl, hbN⟩)
          | (go_at_call 28; refine (kc.out _ (by first | assumption | exact hbN.drew | exact (Below.refl _ _).drew)).mono ?_; rintro ev w9 ⟨rfl, hbM⟩))
        all_goals go_wp2_with fail
        all_goals go_ret
        all_goals exact ⟨rfl, by first | exact HB05.out.trans (hbM.mono HB05.out.size) | exact HB05.out.trans (hbM.drew.mono HB05.out.size)⟩
  · go_wp2_with fail
    go_ret
    exact ⟨rfl, hb1.trans (hb2.mono hb1.size)⟩
  · go_wp2_with fail
    go_ret
    exact ⟨rfl, hb1.trans (hb2.mono hb1.size)⟩
theorem memWalks_any (a : Nat → Addr) (p o : Nat) (m : MD) (w : World) (E : MErr3 a w) (h : RepM p o m w) (h64 : MD64 m) : Calls Tryd.prog 7 #[.pointer (some ⟨p, o, none⟩)] w fun ev w' => ev = .returned (.bool true) ∧ Below w.heap.size w w' := by
  by_cases hn : m.W.length ≤ 1000 ∧ m.R.length ≤ 100 ∧ m.K.length ≤ 100 ∧ m.I.length ≤ 100 ∧ m.C.length ≤ 1000
  · exact memWalks_near a p o m w E h h64 hn.1 hn.2.1 hn.2.2.1 hn.2.2.2.1 hn.2.2.2.2
  · exact memWalks_far p o m w h hn
end Go.Proofs.YtbkmgempejckeaaDoor
