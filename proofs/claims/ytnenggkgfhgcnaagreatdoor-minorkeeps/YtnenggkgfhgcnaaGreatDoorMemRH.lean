/- The document's memory: CheckOf of numbers that fit, by a walk (under way). -/
import Derived.Test.YtnenggkgfhgcnaaGreatDoorJnT
namespace Go.Proofs.YtnenggkgfhgcnaaGreatDoor
open Go.RowKit

theorem young_pt {h x : Int} (h1 : h ≤ 65536) : youngB h x = (decide (0 ≤ ptI x) && decide (ptI x < 2 * h)) := by
  unfold youngB ptI
  split
  · rename_i hc
    rw [decide_eq_true (by omega : 0 ≤ x / 4 - 1), Bool.true_and]
    by_cases hy : x / 4 - 1 < 2 * h
    · rw [decide_eq_true hy, decide_eq_true ⟨hc.1, hc.2.1, hy⟩]
    · rw [decide_eq_false hy, decide_eq_false (fun h => hy h.2.2)]
  · rename_i hc
    rw [decide_eq_false (fun h => hc ⟨h.1, h.2.1, by omega⟩)]
    rfl
theorem fieldsP_rowO {F : Nat → Int} {f b ob nW : Nat} {ao : Option Addr} {cap : Nat} {w : World} (hf : f + 1 + szN (F f) ≤ nW) (hw : ∀ i, i < nW → w.cell? ⟨b, ob + i, none⟩ = some (.int .u64 (F i))) (hc : szN (F f) ≤ cap) (ha : 0 < szN (F f) → ao = some ⟨b, ob + (f + 1), none⟩) : RowV w (.slice ao (fieldsP F f).length cap) (fieldsP F f).length (wordsV (fieldsP F f)) := by
  rw [fieldsP_len]
  refine ⟨ao, cap, rfl, hc, fun h => ⟨b, ob + (f + 1), ha h, lt_of_cell (hw f (by omega)), fun j u hj => ?_⟩⟩
  have hl : j < szN (F f) := by
    have := (List.getElem?_eq_some_iff.1 hj).1
    rw [lenV, fieldsP_len] at this
    exact this
  have e : (wordsV (fieldsP F f))[j]? = some (.int .u64 (F (f + 1 + j))) := words_at (fieldsP_at hl)
  rw [e] at hj
  cases hj
  rw [Nat.add_assoc]
  exact hw _ (by omega)
set_option maxHeartbeats 8000000 in
set_option maxRecDepth 100000 in
theorem checkOf_fit (p o : Nat) (m : MD) (hF : m.FitsM) (h64 : MD64 m) (bR : m.R.length ≤ 300000) (bK : m.K.length ≤ 300000) (bI : m.I.length ≤ 300000) (w : World) (R : RepM p o m w) :
    Calls Tryz.prog 9 #[.pointer (some ⟨p, o, none⟩)] w fun ev w' => ∃ n : Int, ev = .returned (.int .i64 n) ∧ Below w.heap.size w w' ∧ ChkP m n := by
  obtain ⟨_, _, _, _, _, hp, M, ⟨aW, cW, rfl, hcW, fW⟩, ⟨aR, cR, rfl, fR⟩, ⟨aK, cK, rfl, fK⟩, ⟨aI, cI, rfl, fI⟩, ⟨aC, cC, rfl, hcC, fC⟩⟩ := R
  have hnum := hF.nums
  have hwl := hF.w
  have hcl := hF.c
  unfold numsOK at hnum
  have hn : m.W.length ≤ 300000 := by omega
  have hcl2 : m.C.length ≤ 300000 := by
    have : (m.old + m.card - 1) / m.card ≤ m.old + m.card - 1 := Int.ediv_le_self _ (by omega)
    omega
  have hcp : 0 < m.C.length := by
    have : 1 ≤ (m.old + m.card - 1) / m.card := (Int.le_ediv_iff_mul_le (by omega)).2 (by omega)
    omega
  obtain ⟨b, ob, rfl, lb, gW⟩ := fW (by omega)
  obtain ⟨bc, obc, rfl, lbc, gC⟩ := fC hcp
  have hw : ∀ i, i < m.W.length → w.cell? ⟨b, ob + i, none⟩ = some (.int .u64 (m.F i)) := fun i hi => gW i _ (words_at (by unfold MD.F; rw [List.getD_eq_getElem?_getD, List.getElem?_eq_getElem hi]; rfl))
  have hcd : ∀ i, i < m.C.length → w.cell? ⟨bc, obc + i, none⟩ = some (.bool (m.Cf i)) := fun i hi => gC i _ (bools_at (by unfold MD.Cf; rw [List.getD_eq_getElem?_getD, List.getElem?_eq_getElem hi]; rfl))
  have hr : ∀ i, i < m.W.length → 0 ≤ m.F i ∧ m.F i < 18446744073709551616 := fun i hi => by
    unfold MD.F
    rw [List.getD_eq_getElem?_getD, List.getElem?_eq_getElem hi]
    exact h64.w _ (List.getElem_mem hi)
  have HRr : Hid (RowV w (.slice aR m.R.length cR) m.R.length (wordsV m.R)) := ⟨_, _, rfl, fR⟩
  have HRk : Hid (RowV w (.slice aK m.K.length cK) m.K.length (wordsV m.K)) := ⟨_, _, rfl, fK⟩
  have HRi : Hid (RowV w (.slice aI m.I.length cI) m.I.length (idsV m.I)) := ⟨_, _, rfl, fI⟩
  have HM := toHid M
  have HP := toHid (MD.parts hF)
  have HF := toHid hF
  have H64 := toHid h64
  have HW := toHid hw
  have HC := toHid hcd
  have HR := toHid hr
  have ks := shaped_ok p o m.half m.old m.card m.W.length m.C.length cW cC _ _ m.used m.top m.oldTop _ _ _ hF w M
  clear fR fK fI gW gC hwl hcl M hF h64 fW fC hw hcd hr
  go_enter Tryz.func9, Tryz.ntmps9
  go_wp2_with fail
  refine ks.mono ?_
  rintro ev w1 ⟨rfl, q, hq⟩
  have hb1 : Below w.heap.size w w1 := by rw [hq]; exact below_drewN (Below.refl _ _)
  clear hq ks
  have ka := all_any p o b ob m.W.length m.C.length cW m.half m.old m.card m.used m.top m.oldTop _ _ _ _ m.n0 m.n1 m.m0 m.m1 m.F w1 (HM.out.below hb1 hp) HF.out HP.out (fun i hi => (hb1.cell (p := ⟨b, ob + i, none⟩) (lt_of_cell (HW.out i hi))).trans (HW.out i hi)) HR.out
  go_wp2_with fail
  refine ka.mono ?_
  rintro ev w2 ⟨hb2, ⟨l1, l2, ao, cap, e1, e2, rfl, hown⟩ | ⟨hno, ao, n, cap, rfl⟩⟩
  · clear ka
    have hb3 := hb1.trans (hb2.mono hb1.size)
    obtain ⟨vs, hvs⟩ : ∃ vs, vs = l1 ++ l2 := ⟨_, rfl⟩
    have HE : Hid (∀ n, n = m.chk vs → ChkP m n) := fun n hn => .inl ⟨l1, l2, e1, e2, by rw [hn, hvs]⟩
    have hlen : l1.length + l2.length = vs.length := by rw [hvs, List.length_append]
    rw [hlen, ← hvs] at hown
    rw [hlen]
    have hRo := rowV_own hown
    have hv1 : ∀ v ∈ vs, headB (m.F v) = true ∧ v + 1 + szN (m.F v) ≤ m.W.length := fun v hv => by
      have hle := HP.out.le HF.out
      rw [hvs] at hv
      rcases List.mem_append.1 hv with h | h
      · exact ⟨walkP_head e1 v h, by have := (walkP_lt e1 v h).2; omega⟩
      · exact ⟨walkP_head e2 v h, by have := (walkP_lt e2 v h).2; omega⟩
    have hvl : vs.length ≤ 300000 := by
      have a1 := walkP_len e1
      have a2 := walkP_len e2
      have b1 := HP.out.n0
      have b2 := HP.out.n1
      have b3 := HP.out.m0
      have b4 := HP.out.m1
      have b5 := HF.out.t1
      have b6 := HF.out.o1
      omega
    have HV := toHid hv1
    have HRo := toHid hRo
    have HB3 := toHid hb3
    clear hown hvs hlen hv1 hRo hb2 hb1
    have d7 := (HM.out.below hb3 hp).c7
    have d8 := (HM.out.below hb3 hp).c8
    have kr := fieldsOK_any m.F vs ao cap m.R aR cR bR H64.out.r hvl w2 HRo.out (HRr.out.below hb3)
    have kk := fieldsOK_any m.F vs ao cap m.K aK cK bK H64.out.k hvl w2 HRo.out (HRk.out.below hb3)
    cases hra : m.R.all (fieldR vs) with
    | false =>
      rw [hra] at kr
      go_wp2_with fail
      refine kr.mono ?_
      rintro ev w3 ⟨rfl, hq⟩
      rw [hq]
      clear hq w3 kr kk
      go_wp2_with fail
      go_ret
      exact ⟨3, rfl, HB3.out, HE.out _ (chk_r hra)⟩
    | true =>
      rw [hra] at kr
      cases hka : m.K.all (fieldR vs) with
      | false =>
        rw [hka] at kk
        go_wp2_with fail
        refine kr.mono ?_
        rintro ev w3 ⟨rfl, hq⟩
        rw [hq]
        clear hq w3 kr
        go_wp2_with fail
        refine kk.mono ?_
        rintro ev w3 ⟨rfl, hq⟩
        rw [hq]
        clear hq w3 kk
        go_wp2_with fail
        go_ret
        exact ⟨3, rfl, HB3.out, HE.out _ (chk_k hka)⟩
      | true =>
        rw [hka] at kk
        go_wp2_with fail
        refine kr.mono ?_
        rintro ev w3 ⟨rfl, hq⟩
        rw [hq]
        clear hq w3 kr
        go_wp2_with fail
        refine kk.mono ?_
        rintro ev w3 ⟨rfl, hq⟩
        rw [hq]
        clear hq w3 kk
        go_wp2_with fail
        have HRA := toHid hra
        have HKA := toHid hka
        clear hra hka d7 d8
        go_loopg [5, 6] (vs.length + 1) (fun gk v5 v6 wr => ∃ (k : Nat) (cb : Bool), gk = vs.length + 1 - k ∧ k ≤ vs.length ∧ v6 = .int .i64 (k : Int) ∧ v5 = .bool cb ∧ Below w2.heap.size w2 wr ∧ Hid ((vs.take k).all (okO m.F m.half vs) = true) ∧ Hid (cb = (vs.take k).all (cardO m.F m.Cf m.half m.card)))
        case atStart => exact ⟨0, true, rfl, Nat.zero_le _, rfl, rfl, Below.refl _ _, rfl, rfl⟩
        case round =>
          obtain ⟨k, cb, hgk, hk, hv6, hv5, hbr, hok, hcb⟩ := hrel
          subst hv6 hv5
          have HG := toHid hgk
          clear hgk
          have hbw := HB3.out.trans (hbr.mono HB3.out.size)
          have Mr := HM.out.below hbw hp
          have c0 := Mr.c0
          have HMr := toHid Mr
          clear Mr
          by_cases hlt : k < vs.length
          · have hI : (k : Int) < (vs.length : Int) := by omega
            have hI0 : (0 : Int) ≤ (k : Int) := by omega
            obtain ⟨f, hf⟩ : ∃ f, vs[k]? = some f := ⟨_, List.getElem?_eq_getElem hlt⟩
            have HIN : Hid (f ∈ vs) := List.mem_of_getElem? hf
            obtain ⟨hhd, hfs⟩ := HV.out f HIN.out
            obtain ⟨_, _, e, _, f1⟩ := HRo.out
            cases e
            obtain ⟨p1, o1, rfl, l1', g1⟩ := f1 (by omega)
            have rr : ∀ j, j < 4 → ∀ u, (objV m.F f)[j]? = some u → wr.cell? ⟨p1, o1 + k * 4 + j, none⟩ = some u := fun j hj u hu => by
              rw [Nat.add_assoc]
              exact (hbr.cell (p := ⟨p1, o1 + (k * 4 + j), none⟩) l1').trans (g1 _ _ ((objs_at hf j hj).trans hu))
            have r0 : wr.cell? ⟨p1, o1 + k * 4, none⟩ = some (.int .i64 (f : Int)) := rr 0 (by omega) _ rfl
            have r1 := rr 1 (by omega) _ rfl
            have r2 := rr 2 (by omega) _ rfl
            have r3 := rr 3 (by omega) _ rfl
            have HT1 : Hid ((vs.take (k + 1)).all (okO m.F m.half vs) = okO m.F m.half vs f) := by
              show _ = _
              rw [List.take_add_one, hf, List.all_append, hok.out, Bool.true_and]
              simp
            have HT2 : Hid ((vs.take (k + 1)).all (cardO m.F m.Cf m.half m.card) = (cb && cardO m.F m.Cf m.half m.card f)) := by
              show _ = _
              rw [List.take_add_one, hf, List.all_append, ← hcb.out]
              simp
            have e3 : IntKind.i64.wrap (2 * m.half) = 2 * m.half := wrapI _ (by omega) (by omega)
            have lp := lt_of_cell c0
            clear f1 g1 rr hf
            obtain ⟨s, hs⟩ : ∃ s : Nat, (s : Int) = m.F f / 65536 := ⟨(m.F f / 65536).toNat, by have := HR.out f (by omega); omega⟩
            have HS : Hid (szN (m.F f) = s) := by show _ = _; unfold szN; omega
            have hs1 : s ≤ 4096 := by unfold headB at hhd; have := (of_decide_eq_true hhd).2.2; omega
            have hfs1 : f + 1 + s ≤ m.W.length := by rw [← HS.out]; exact hfs
            rw [← hs] at r3
            have HOK : Hid (okO m.F m.half vs f = ((decide ((f : Int) < 2 * m.half) || decide (m.F f / 1024 % 16 = 0)) && (decide (m.F f / 4 % 256 < 8) || (fieldsP m.F f).all (fieldR vs)))) := rfl
            have HCO : Hid (cardO m.F m.Cf m.half m.card f = (decide ((f : Int) < 2 * m.half) || (decide (m.F f / 4 % 256 < 8) || (List.range s).all fun j => cardB m.F m.Cf m.half m.card (f + 1 + j)))) := by show _ = _; unfold cardO; rw [HS.out]
            clear hs hfs hhd
            generalize m.F f / 1024 % 16 = ag at *
            generalize m.F f / 4 % 256 = kd at *
            go_wp2_with fail
            obtain ⟨wa, hwa⟩ : ∃ wa, wa = wr.alloc (.cells #[.int .i64 (f : Int), .int .i64 kd, .int .i64 ag, .int .i64 (s : Int)] 45) := ⟨_, rfl⟩
            rw [← hwa]
            have hba : Below wr.heap.size wr wa := by rw [hwa]; exact (Below.refl _ _).alloc (Nat.le_refl _) _
            have hbl : wa.heap[wr.heap.size]? = some (.cells #[.int .i64 (f : Int), .int .i64 kd, .int .i64 ag, .int .i64 (s : Int)] 45) := by rw [hwa]; exact heap_alloc_new wr _
            have x0 := (cell_of_row _ _ 0 _ _ _ hbl).trans (show #[Value.int .i64 (f : Int), .int .i64 kd, .int .i64 ag, .int .i64 (s : Int)][0]? = some (.int .i64 (f : Int)) from rfl)
            have d0 := (hba.cell (p := ⟨p, o, none⟩) lp).trans c0
            have HBL := toHid hbl
            have HBA := toHid hba
            clear hwa hbl r0 r1 r2 r3 c0
            go_quiet (fail)
            obtain ⟨wb, hwb⟩ : ∃ wb, wb = wa.drewN nq := ⟨_, rfl⟩
            rw [← hwb]
            have hbb : Below wa.heap.size wa wb := by rw [hwb]; exact below_drewN (Below.refl _ _)
            have hbl2 := (hbb.block wr.heap.size (lt_of_heap HBL.out)).trans HBL.out
            have z0 := (cell_of_row _ _ 0 _ _ _ hbl2).trans (show #[Value.int .i64 (f : Int), .int .i64 kd, .int .i64 ag, .int .i64 (s : Int)][0]? = some (.int .i64 (f : Int)) from rfl)
            have z1 := (cell_of_row _ _ 1 _ _ _ hbl2).trans (show #[Value.int .i64 (f : Int), .int .i64 kd, .int .i64 ag, .int .i64 (s : Int)][1]? = some (.int .i64 kd) from rfl)
            have z2 := (cell_of_row _ _ 2 _ _ _ hbl2).trans (show #[Value.int .i64 (f : Int), .int .i64 kd, .int .i64 ag, .int .i64 (s : Int)][2]? = some (.int .i64 ag) from rfl)
            have z3 := (cell_of_row _ _ 3 _ _ _ hbl2).trans (show #[Value.int .i64 (f : Int), .int .i64 kd, .int .i64 ag, .int .i64 (s : Int)][3]? = some (.int .i64 (s : Int)) from rfl)
            have hbwb : Below w2.heap.size w2 wb := hbr.trans ((HBA.out.trans (hbb.mono HBA.out.size)).mono hbr.size)
            have HBLb := toHid hbl2
            clear hwb hbb hbl2 x0 d0 HBL HBA
            by_cases hold : 2 * m.half ≤ (f : Int)
            · by_cases hag : ag = 0
              · subst hag
                have HBW := toHid hbwb
                by_cases hkd : kd < 8
                · have HN1 : Hid ((vs.take (k + 1)).all (okO m.F m.half vs) = true) := by show _ = _; rw [HT1.out, HOK.out, decide_eq_false (by omega : ¬ (f : Int) < 2 * m.half), decide_eq_true hkd]; rfl
                  have HN2 : Hid (cb = (vs.take (k + 1)).all (cardO m.F m.Cf m.half m.card)) := by show _ = _; rw [HT2.out, HCO.out, decide_eq_false (by omega : ¬ (f : Int) < 2 * m.half), decide_eq_true hkd]; cases cb <;> rfl
                  clear HT1 HT2 HOK HCO
                  go_wp2_with fail
                  go_roundg (vs.length + 1 - (k + 1))
                  case measure => have := HG.out; omega
                  case rel => exact ⟨k + 1, cb, rfl, by omega, by go_num, rfl, HBW.out, HN1, HN2⟩
                · have c3 := (HM.out.below (HB3.out.trans (hbwb.mono HB3.out.size)) hp).c3
                  have ef1 : IntKind.i64.wrap ((f : Int) + 1) = (f : Int) + 1 := wrapI _ (by omega) (by omega)
                  have ef2 : IntKind.i64.wrap ((f : Int) + 1 + (s : Int)) = (f : Int) + 1 + (s : Int) := wrapI _ (by omega) (by omega)
                  have sb0 : (0 : Int) ≤ (f : Int) + 1 := by omega
                  have sb1 : (f : Int) + 1 ≤ (f : Int) + 1 + (s : Int) := by omega
                  have sb2 : (f : Int) + 1 + (s : Int) ≤ (cW : Int) := by omega
                  have ef5 : ((f : Int) + 1 + (s : Int)).toNat - (f + 1) = s := by omega
                  go_upto_region 16 with fail
                  go_cut [9] from 72 to 85 (fun v9 wx => ∃ (ax : Option Addr) (cx : Nat), v9 = .slice ax s cx ∧ s ≤ cx ∧ (0 < s → ax = some ⟨b, ob + (f + 1), none⟩) ∧ Below wb.heap.size wb wx)
                  case first =>
                    by_cases hcap : cW = f + 1
                    · subst hcap
                      go_quiet (fail)
                      go_wp2_with fail
                      go_meet
                      exact ⟨_, _, rfl, by omega, fun h => by omega, below_drewN (Below.refl _ _)⟩
                    · go_quiet (fail)
                      go_wp2_with fail
                      go_meet
                      exact ⟨_, _, rfl, by omega, fun _ => rfl, below_drewN (Below.refl _ _)⟩
                  case rest =>
                    obtain ⟨ax, cx, rfl, hcx, hax, hbc⟩ := hcut
                    have hbc0 := hbc
                    have hbwc : Below w2.heap.size w2 wc := hbwb.trans (hbc.mono hbwb.size)
                    have hbww := HB3.out.trans (hbwc.mono HB3.out.size)
                    have hwc : ∀ i, i < m.W.length → wc.cell? ⟨b, ob + i, none⟩ = some (.int .u64 (m.F i)) := fun i hi => (hbww.cell (p := ⟨b, ob + i, none⟩) (lt_of_cell (HW.out i hi))).trans (HW.out i hi)
                    have kf := fieldsOK_any m.F vs _ cap (fieldsP m.F f) ax cx (by rw [fieldsP_len, HS.out]; omega) (fieldsP_u64 (by rw [HS.out]; exact hfs1) HR.out) hvl wc (HRo.out.below hbwc) (fieldsP_rowO (by rw [HS.out]; exact hfs1) hwc (by rw [HS.out]; exact hcx) (by rw [HS.out]; exact hax))
                    rw [fieldsP_len, HS.out] at kf
                    have HWC := toHid hwc
                    have HBC := toHid hbwc
                    clear hwc z0 z1 z2 z3 c3 ef1 ef2 sb0 sb1 sb2 ef5 hbc HBW
                    cases hfa : (fieldsP m.F f).all (fieldR vs) with
                    | false =>
                      rw [hfa] at kf
                      go_wp2_with fail
                      refine kf.mono ?_
                      rintro ev w5 ⟨rfl, hq⟩
                      rw [hq]
                      clear hq w5 kf
                      go_wp2_with fail
                      go_ret
                      exact ⟨3, rfl, hbww, HE.out _ (chk_o HIN.out (by rw [HOK.out, hfa, decide_eq_false (by omega : ¬ kd < 8), Bool.or_false, Bool.and_false]))⟩
                    | true =>
                      rw [hfa] at kf
                      have HN1 : Hid ((vs.take (k + 1)).all (okO m.F m.half vs) = true) := by show _ = _; rw [HT1.out, HOK.out, hfa, decide_eq_false (by omega : ¬ (f : Int) < 2 * m.half)]; simp
                      clear hfa HT1 HOK
                      go_wp2_with fail
                      refine kf.mono ?_
                      rintro ev w5 ⟨rfl, hq⟩
                      rw [hq]
                      clear hq w5 kf
                      go_wp2_with fail
                      have hblc := (hbc0.block wr.heap.size (lt_of_heap HBLb.out)).trans HBLb.out
                      obtain ⟨bo, hbo⟩ : ∃ bo, bo = wr.heap.size := ⟨_, rfl⟩
                      rw [← hbo] at hblc ⊢
                      have HBLc := toHid hblc
                      clear hblc hbo
                      go_loopg [5, 10] (s + 1) (fun gk2 v5 v10 wr2 => ∃ (j : Nat) (cb2 : Bool), gk2 = s + 1 - j ∧ j ≤ s ∧ v10 = .int .i64 (j : Int) ∧ v5 = .bool cb2 ∧ Below wc.heap.size wc wr2 ∧ Hid (cb2 = (cb && (List.range j).all fun i => cardB m.F m.Cf m.half m.card (f + 1 + i))))
                      case atStart => exact ⟨0, cb, rfl, Nat.zero_le _, rfl, rfl, Below.refl _ _, by show _ = _; simp⟩
                      case round =>
                        obtain ⟨j, cb2, hgk2, hj, hv10, hv5, hbr2, hcb2⟩ := hrel
                        subst hv10 hv5
                        have HG2 := toHid hgk2
                        clear hgk2
                        by_cases hjl : j < s
                        · have hJ : (j : Int) < (s : Int) := by omega
                          have hJ0 : (0 : Int) ≤ (j : Int) := by omega
                          obtain rfl := hax (by omega)
                          obtain ⟨x, hx⟩ : ∃ x, x = m.F (f + 1 + j) := ⟨_, rfl⟩
                          have hxr := HR.out (f + 1 + j) (by omega)
                          have y0 := (hbr2.cell (p := ⟨b, ob + (f + 1 + j), none⟩) (lt_of_cell (HWC.out _ (by omega)))).trans (HWC.out (f + 1 + j) (by omega))
                          rw [← hx] at hxr y0
                          rw [show ob + (f + 1 + j) = ob + (f + 1) + j by omega] at y0
                          have kp := points_any x hxr.1 hxr.2 wr
                          obtain ⟨ij, hij⟩ : ∃ ij : Nat, ij = f + 1 + j := ⟨_, rfl⟩
                          obtain ⟨d, jj, hd, hjj, hjn, hcn⟩ : ∃ d jj : Nat, ((f + 1 + j : Nat) : Int) - 2 * m.half = (d : Int) ∧ (d : Int) / m.card = (jj : Int) ∧ jj < m.C.length ∧ cardN m.half m.card (f + 1 + j) = jj := card_ix HF.out (by omega) (by omega)
                          have hb5 := HB3.out.trans ((HBC.out.trans (hbr2.mono HBC.out.size)).mono HB3.out.size)
                          have M5 := HM.out.below hb5 hp
                          have c0 := M5.c0
                          have c2 := M5.c2
                          have c10 := M5.c10
                          have y1 := (hb5.cell (p := ⟨bc, obc + jj, none⟩) (lt_of_cell (HC.out jj hjn))).trans (HC.out jj hjn)
                          have hb6 := (hbr2.block bo (lt_of_heap HBLc.out)).trans HBLc.out
                          have y2 := (cell_of_row _ _ 0 _ _ _ hb6).trans (show #[Value.int .i64 (f : Int), .int .i64 kd, .int .i64 0, .int .i64 (s : Int)][0]? = some (.int .i64 (f : Int)) from rfl)
                          obtain ⟨cv, hcv⟩ : ∃ cv, cv = m.Cf jj := ⟨_, rfl⟩
                          rw [← hcv] at y1
                          have HCB : Hid (cardB m.F m.Cf m.half m.card (f + 1 + j) = !((decide (0 ≤ ptI x) && decide (ptI x < 2 * m.half)) && !cv)) := by show _ = _; unfold cardB; rw [← hx, hcn, ← hcv, young_pt (by omega)]
                          have e1 : IntKind.i64.wrap ((f : Int) + 1) = (f : Int) + 1 := wrapI _ (by omega) (by omega)
                          have e2 : IntKind.i64.wrap ((f : Int) + 1 + (j : Int)) = (ij : Int) := by rw [wrapI _ (by omega) (by omega)]; omega
                          have e4 : IntKind.i64.wrap ((ij : Int) - 2 * m.half) = (d : Int) := by rw [wrapI _ (by omega) (by omega)]; omega
                          have e5 : IntKind.i64.wrap ((d : Int).tdiv m.card) = (jj : Int) := by rw [Int.tdiv_eq_ediv_of_nonneg (by omega), hjj]; exact wrapI _ (by omega) (by omega)
                          have e6 : wrap64 ((d : Int) / m.card) = (jj : Int) := by rw [hjj]; exact wrap64_small _ (by omega) (by omega)
                          have e7 : (m.card == 0) = false := by rw [beq_eq_false_iff_ne]; omega
                          have hq0 : (0 : Int) ≤ (jj : Int) := by omega
                          have hq1 : (jj : Int) < (m.C.length : Int) := by omega
                          have HAL : Hid ((List.range (j + 1)).all (fun i => cardB m.F m.Cf m.half m.card (f + 1 + i)) = ((List.range j).all (fun i => cardB m.F m.Cf m.half m.card (f + 1 + i)) && cardB m.F m.Cf m.half m.card (f + 1 + j))) := by show _ = _; rw [List.range_succ, List.all_append]; simp
                          clear hx hd hjj hcn hcv M5 hb6 hij
                          generalize ptI x = pt at *
                          go_wp2_with fail
                          refine kp.mono ?_
                          rintro ev w5 ⟨rfl, hq⟩
                          rw [hq]
                          clear hq w5 kp
                          by_cases hp0 : 0 ≤ pt
                          · by_cases hp1 : pt < 2 * m.half
                            · cases cv with
                              | true =>
                                have HN : Hid (cb2 = (cb && (List.range (j + 1)).all (fun i => cardB m.F m.Cf m.half m.card (f + 1 + i)))) := by show _ = _; rw [HAL.out, HCB.out, decide_eq_true hp0, decide_eq_true hp1, hcb2.out]; simp
                                clear HAL HCB
                                have g1 : decide (pt ≥ 0) = true := decide_eq_true hp0
                                have g2 : decide (pt < 2 * m.half) = true := decide_eq_true hp1
                                go_wp2_with fail
                                go_quiet (fail)
                                go_wp2_with fail
                                go_roundg (s + 1 - (j + 1))
                                case measure => have := HG2.out; omega
                                case rel => exact ⟨j + 1, cb2, rfl, by omega, by go_num, rfl, below_drewN hbr2, HN⟩
                              | false =>
                                have HN : Hid (false = (cb && (List.range (j + 1)).all (fun i => cardB m.F m.Cf m.half m.card (f + 1 + i)))) := by show _ = _; rw [HAL.out, HCB.out, decide_eq_true hp0, decide_eq_true hp1]; simp
                                clear HAL HCB
                                have g1 : decide (pt ≥ 0) = true := decide_eq_true hp0
                                have g2 : decide (pt < 2 * m.half) = true := decide_eq_true hp1
                                go_wp2_with fail
                                go_quiet (fail)
                                go_wp2_with fail
                                go_roundg (s + 1 - (j + 1))
                                case measure => have := HG2.out; omega
                                case rel => exact ⟨j + 1, false, rfl, by omega, by go_num, rfl, below_drewN hbr2, HN⟩
                            · have HN : Hid (cb2 = (cb && (List.range (j + 1)).all (fun i => cardB m.F m.Cf m.half m.card (f + 1 + i)))) := by show _ = _; rw [HAL.out, HCB.out, decide_eq_false hp1, hcb2.out]; simp
                              clear HAL HCB
                              have g1 : decide (pt ≥ 0) = true := decide_eq_true hp0
                              have g2 : decide (pt < 2 * m.half) = false := decide_eq_false hp1
                              go_wp2_with fail
                              go_quiet (fail)
                              go_wp2_with fail
                              go_roundg (s + 1 - (j + 1))
                              case measure => have := HG2.out; omega
                              case rel => exact ⟨j + 1, cb2, rfl, by omega, by go_num, rfl, below_drewN hbr2, HN⟩
                          · have HN : Hid (cb2 = (cb && (List.range (j + 1)).all (fun i => cardB m.F m.Cf m.half m.card (f + 1 + i)))) := by show _ = _; rw [HAL.out, HCB.out, decide_eq_false hp0, hcb2.out]; simp
                            clear HAL HCB
                            have g1 : decide (pt ≥ 0) = false := decide_eq_false hp0
                            go_wp2_with fail
                            go_quiet (fail)
                            go_wp2_with fail
                            go_roundg (s + 1 - (j + 1))
                            case measure => have := HG2.out; omega
                            case rel => exact ⟨j + 1, cb2, rfl, by omega, by go_num, rfl, below_drewN hbr2, HN⟩
                        · obtain rfl : j = s := by omega
                          have HN2 : Hid (cb2 = (vs.take (k + 1)).all (cardO m.F m.Cf m.half m.card)) := by show _ = _; rw [HT2.out, HCO.out, decide_eq_false (by omega : ¬ (f : Int) < 2 * m.half), decide_eq_false (by omega : ¬ kd < 8), hcb2.out]; simp
                          have HBE := toHid (HBC.out.trans (hbr2.mono HBC.out.size))
                          clear HT2 HCO
                          go_wp2_with fail
                          all_goals go_roundg (vs.length + 1 - (k + 1))
                          all_goals (first | (have := HG.out; omega) | exact ⟨k + 1, cb2, rfl, by omega, by go_num, rfl, HBE.out, HN1, HN2⟩)
              · have hz : (ag != 0) = true := by rw [bne_iff_ne]; exact hag
                go_wp2_with fail
                go_ret
                exact ⟨3, rfl, HB3.out.trans (hbwb.mono HB3.out.size), HE.out _ (chk_o HIN.out (by rw [HOK.out, decide_eq_false (by omega : ¬ (f : Int) < 2 * m.half), decide_eq_false hag]; rfl))⟩
            · have HBW := toHid hbwb
              by_cases hkd : kd < 8
              · have HN1 : Hid ((vs.take (k + 1)).all (okO m.F m.half vs) = true) := by show _ = _; rw [HT1.out, HOK.out, decide_eq_true (by omega : (f : Int) < 2 * m.half), decide_eq_true hkd]; rfl
                have HN2 : Hid (cb = (vs.take (k + 1)).all (cardO m.F m.Cf m.half m.card)) := by show _ = _; rw [HT2.out, HCO.out, decide_eq_true (by omega : (f : Int) < 2 * m.half), decide_eq_true hkd]; cases cb <;> rfl
                clear HT1 HT2 HOK HCO
                go_wp2_with fail
                go_roundg (vs.length + 1 - (k + 1))
                case measure => have := HG.out; omega
                case rel => exact ⟨k + 1, cb, rfl, by omega, by go_num, rfl, HBW.out, HN1, HN2⟩
              · have c3 := (HM.out.below (HB3.out.trans (hbwb.mono HB3.out.size)) hp).c3
                have ef1 : IntKind.i64.wrap ((f : Int) + 1) = (f : Int) + 1 := wrapI _ (by omega) (by omega)
                have ef2 : IntKind.i64.wrap ((f : Int) + 1 + (s : Int)) = (f : Int) + 1 + (s : Int) := wrapI _ (by omega) (by omega)
                have sb0 : (0 : Int) ≤ (f : Int) + 1 := by omega
                have sb1 : (f : Int) + 1 ≤ (f : Int) + 1 + (s : Int) := by omega
                have sb2 : (f : Int) + 1 + (s : Int) ≤ (cW : Int) := by omega
                have ef5 : ((f : Int) + 1 + (s : Int)).toNat - (f + 1) = s := by omega
                go_upto_region 16 with fail
                go_cut [9] from 72 to 85 (fun v9 wx => ∃ (ax : Option Addr) (cx : Nat), v9 = .slice ax s cx ∧ s ≤ cx ∧ (0 < s → ax = some ⟨b, ob + (f + 1), none⟩) ∧ Below wb.heap.size wb wx)
                case first =>
                  by_cases hcap : cW = f + 1
                  · subst hcap
                    go_quiet (fail)
                    go_wp2_with fail
                    go_meet
                    exact ⟨_, _, rfl, by omega, fun h => by omega, below_drewN (Below.refl _ _)⟩
                  · go_quiet (fail)
                    go_wp2_with fail
                    go_meet
                    exact ⟨_, _, rfl, by omega, fun _ => rfl, below_drewN (Below.refl _ _)⟩
                case rest =>
                  obtain ⟨ax, cx, rfl, hcx, hax, hbc⟩ := hcut
                  have hbwc : Below w2.heap.size w2 wc := hbwb.trans (hbc.mono hbwb.size)
                  have hbww := HB3.out.trans (hbwc.mono HB3.out.size)
                  have hwc : ∀ i, i < m.W.length → wc.cell? ⟨b, ob + i, none⟩ = some (.int .u64 (m.F i)) := fun i hi => (hbww.cell (p := ⟨b, ob + i, none⟩) (lt_of_cell (HW.out i hi))).trans (HW.out i hi)
                  have kf := fieldsOK_any m.F vs _ cap (fieldsP m.F f) ax cx (by rw [fieldsP_len, HS.out]; omega) (fieldsP_u64 (by rw [HS.out]; exact hfs1) HR.out) hvl wc (HRo.out.below hbwc) (fieldsP_rowO (by rw [HS.out]; exact hfs1) hwc (by rw [HS.out]; exact hcx) (by rw [HS.out]; exact hax))
                  rw [fieldsP_len, HS.out] at kf
                  have HWC := toHid hwc
                  have HBC := toHid hbwc
                  clear hwc z0 z1 z2 z3 c3 ef1 ef2 sb0 sb1 sb2 ef5 hbc HBW
                  cases hfa : (fieldsP m.F f).all (fieldR vs) with
                  | false =>
                    rw [hfa] at kf
                    go_wp2_with fail
                    refine kf.mono ?_
                    rintro ev w5 ⟨rfl, hq⟩
                    rw [hq]
                    clear hq w5 kf
                    go_wp2_with fail
                    go_ret
                    exact ⟨3, rfl, hbww, HE.out _ (chk_o HIN.out (by rw [HOK.out, hfa, decide_eq_false (by omega : ¬ kd < 8), Bool.or_false, Bool.and_false]))⟩
                  | true =>
                    rw [hfa] at kf
                    have HN1 : Hid ((vs.take (k + 1)).all (okO m.F m.half vs) = true) := by show _ = _; rw [HT1.out, HOK.out, hfa, decide_eq_true (by omega : (f : Int) < 2 * m.half)]; simp
                    clear hfa HT1 HOK
                    go_wp2_with fail
                    refine kf.mono ?_
                    rintro ev w5 ⟨rfl, hq⟩
                    rw [hq]
                    clear hq w5 kf
                    go_wp2_with fail
                    have HN2 : Hid (cb = (vs.take (k + 1)).all (cardO m.F m.Cf m.half m.card)) := by show _ = _; rw [HT2.out, HCO.out, decide_eq_true (by omega : (f : Int) < 2 * m.half)]; cases cb <;> rfl
                    clear HT2 HCO
                    refine wp_loop_rounds 1 ?_
                    rw [rounds_succ]
                    go_wp2_with fail
                    all_goals go_roundg (vs.length + 1 - (k + 1))
                    all_goals (first | (have := HG.out; omega) | exact ⟨k + 1, cb, rfl, by omega, by go_num, rfl, HBC.out, HN1, HN2⟩)
          · obtain rfl : k = vs.length := by omega
            have HOK : Hid (vs.all (okO m.F m.half vs) = true) := by show _ = _; have := hok.out; rw [List.take_length] at this; exact this
            have HCB : Hid (cb = vs.all (cardO m.F m.Cf m.half m.card)) := by show _ = _; have := hcb.out; rw [List.take_length] at this; exact this
            have HBW := toHid hbw
            have HBR := toHid hbr
            clear hok hcb HG c0 hbw hbr
            go_wp2_with fail
            go_loopg [12] (m.I.length + 1) (fun gi v12 wr3 => ∃ i : Nat, gi = m.I.length + 1 - i ∧ i ≤ m.I.length ∧ v12 = .int .i64 (i : Int) ∧ Below wr.heap.size wr wr3 ∧ Hid ((List.range i).all (idR vs m.I) = true))
            case atStart => exact ⟨0, rfl, Nat.zero_le _, rfl, Below.refl _ _, rfl⟩
            case round =>
              obtain ⟨i, hgi, hi, hv12, hbr3, hall⟩ := hrel
              subst hv12
              have HGI := toHid hgi
              clear hgi
              have hbw3 := HBW.out.trans (hbr3.mono HBW.out.size)
              have hb23 := HBR.out.trans (hbr3.mono HBR.out.size)
              have c9 := (HM.out.below hbw3 hp).c9
              have lp := lt_of_cell c9
              by_cases hil : i < m.I.length
              · have hI : (i : Int) < (m.I.length : Int) := by omega
                have hI0 : (0 : Int) ≤ (i : Int) := by omega
                obtain ⟨x, hx⟩ : ∃ x, m.I[i]? = some x := ⟨_, List.getElem?_eq_getElem hil⟩
                obtain ⟨⟨x0, x1⟩, x2, x3⟩ := H64.out.i x (List.mem_of_getElem? hx)
                have hRi := HRi.out.below hbw3
                obtain ⟨_, _, e, hcI, f1⟩ := hRi
                cases e
                obtain ⟨bi, oi, rfl, li, gi⟩ := f1 (by omega)
                obtain ⟨i1, i2⟩ := ids_at hx
                have r0 := gi _ _ i1
                have r1 := gi _ _ i2
                rw [← Nat.add_assoc] at r1
                have HGI2 : Hid (∀ j u, (idsV m.I)[j]? = some u → wr.cell? ⟨bi, oi + j, none⟩ = some u) := gi
                have HX : Hid (idR vs m.I i = (decide (0 ≤ ptI x.1) && (decide (0 ≤ objI vs (ptI x.1)) && (decide (1 ≤ x.2) && (m.I.take i).all fun y => !(y.1 == x.1) && !(y.2 == x.2))))) := by show _ = _; unfold idR; rw [hx]
                obtain ⟨xa, xs⟩ := x
                have x0 : 0 ≤ xa := x0
                have x1 : xa < 18446744073709551616 := x1
                have HX3 : Hid (3 = m.chk vs → ChkP m 3) := fun h => HE.out _ h
                have HIL := toHid hil
                clear gi f1 i1 i2 hx
                go_wp2_with fail
                obtain ⟨wa, hwa⟩ : ∃ wa, wa = wr.alloc (.cells #[.int .u64 xa, .int .i64 xs] 61) := ⟨_, rfl⟩
                rw [← hwa]
                have hba : Below wr.heap.size wr wa := by rw [hwa]; exact (Below.refl _ _).alloc (Nat.le_refl _) _
                have hbl : wa.heap[wr.heap.size]? = some (.cells #[.int .u64 xa, .int .i64 xs] 61) := by rw [hwa]; exact heap_alloc_new wr _
                have y0 := (cell_of_row _ _ 0 _ _ _ hbl).trans (show #[Value.int .u64 xa, .int .i64 xs][0]? = some (.int .u64 xa) from rfl)
                have y1 := (cell_of_row _ _ 1 _ _ _ hbl).trans (show #[Value.int .u64 xa, .int .i64 xs][1]? = some (.int .i64 xs) from rfl)
                have d9 := (hba.cell (p := ⟨p, o + 9, none⟩) lp).trans c9
                have HBL := toHid hbl
                have HBA := toHid hba
                have hba2 := hb23.trans (hba.mono hb23.size)
                have kp := points_any xa x0 x1 wa
                have ko := objectAt_any m.F vs _ cap (ptI xa) hvl wa (HRo.out.below hba2)
                clear hwa hbl r0 r1 c9
                go_wp2_with fail
                refine kp.mono ?_
                rintro ev w5 ⟨rfl, hq⟩
                rw [hq]
                clear hq w5 kp
                have HFIN := toHid (hbw3.trans (hba.mono hbw3.size))
                clear hba2 hba
                obtain ⟨pt, hpt⟩ : ∃ pt, pt = ptI xa := ⟨_, rfl⟩
                have HX : Hid (idR vs m.I i = (decide (0 ≤ pt) && (decide (0 ≤ objI vs pt) && (decide (1 ≤ xs) && (m.I.take i).all fun y => !(y.1 == xa) && !(y.2 == xs))))) := by show _ = _; rw [HX.out, hpt]
                rw [← hpt] at ko ⊢
                clear hpt
                by_cases hp0 : pt < 0
                · go_wp2_with fail
                  go_ret
                  exact ⟨3, rfl, HFIN.out, HX3.out (chk_i HIL.out (by rw [HX.out, decide_eq_false (by omega)]; rfl))⟩
                · obtain ⟨oj, hoj⟩ : ∃ oj, oj = objI vs pt := ⟨_, rfl⟩
                  have HX : Hid (idR vs m.I i = (decide (0 ≤ oj) && (decide (1 ≤ xs) && (m.I.take i).all fun y => !(y.1 == xa) && !(y.2 == xs)))) := by show _ = _; rw [HX.out, hoj, decide_eq_true (by omega : 0 ≤ pt), Bool.true_and]
                  rw [← hoj] at ko
                  clear hoj
                  by_cases ho0 : oj < 0
                  · go_wp2_with fail
                    refine ko.mono ?_
                    rintro ev w5 ⟨rfl, hq⟩
                    rw [hq]
                    clear hq w5 ko
                    go_wp2_with fail
                    go_ret
                    exact ⟨3, rfl, HFIN.out, HX3.out (chk_i HIL.out (by rw [HX.out, decide_eq_false (by omega)]; rfl))⟩
                  · by_cases hs0 : xs < 1
                    · go_wp2_with fail
                      refine ko.mono ?_
                      rintro ev w5 ⟨rfl, hq⟩
                      rw [hq]
                      clear hq w5 ko
                      go_wp2_with fail
                      go_ret
                      exact ⟨3, rfl, HFIN.out, HX3.out (chk_i HIL.out (by rw [HX.out, decide_eq_false (by omega : ¬ 1 ≤ xs), Bool.false_and, Bool.and_false]))⟩
                    · have HX : Hid (idR vs m.I i = (m.I.take i).all fun y => !(y.1 == xa) && !(y.2 == xs)) := by show _ = _; rw [HX.out, decide_eq_true (by omega : 0 ≤ oj), decide_eq_true (by omega : 1 ≤ xs), Bool.true_and, Bool.true_and]
                      go_wp2_with fail
                      refine ko.mono ?_
                      rintro ev w5 ⟨rfl, hq⟩
                      rw [hq]
                      clear hq w5 ko
                      go_wp2_with fail
                      clear y0 y1 d9
                      obtain ⟨bo, hbo⟩ : ∃ bo, bo = wr.heap.size := ⟨_, rfl⟩
                      have HBL : Hid (wa.heap[bo]? = some (.cells #[.int .u64 xa, .int .i64 xs] 61)) := by show _ = _; rw [hbo]; exact HBL.out
                      rw [← hbo]
                      clear hbo
                      go_loopg [15] (i + 1) (fun gj v15 wr4 => ∃ j : Nat, gj = i + 1 - j ∧ j ≤ i ∧ v15 = .int .i64 (j : Int) ∧ Below wa.heap.size wa wr4 ∧ Hid ((m.I.take j).all (fun y => !(y.1 == xa) && !(y.2 == xs)) = true))
                      case atStart => exact ⟨0, rfl, Nat.zero_le _, rfl, Below.refl _ _, rfl⟩
                      case round =>
                        obtain ⟨j, hgj, hj, hv15, hbr4, hal2⟩ := hrel
                        subst hv15
                        have HGJ := toHid hgj
                        clear hgj
                        by_cases hjl : j < i
                        · have hJ : (j : Int) < (i : Int) := by omega
                          have hJ1 : (j : Int) < (m.I.length : Int) := by omega
                          have hJ0 : (0 : Int) ≤ (j : Int) := by omega
                          obtain ⟨⟨ya, ys⟩, hy⟩ : ∃ y, m.I[j]? = some y := ⟨_, List.getElem?_eq_getElem (by omega)⟩
                          obtain ⟨i1, i2⟩ := ids_at hy
                          have hb4 := HBA.out.trans (hbr4.mono HBA.out.size)
                          have s0 := (hb4.cell (p := ⟨bi, oi + j * 2, none⟩) li).trans (HGI2.out _ _ i1)
                          have s1 := (hb4.cell (p := ⟨bi, oi + (j * 2 + 1), none⟩) li).trans (HGI2.out _ _ i2)
                          rw [← Nat.add_assoc] at s1
                          have hbl2 := (hbr4.block bo (lt_of_heap HBL.out)).trans HBL.out
                          have t0 := (cell_of_row _ _ 0 _ _ _ hbl2).trans (show #[Value.int .u64 xa, .int .i64 xs][0]? = some (.int .u64 xa) from rfl)
                          have t1 := (cell_of_row _ _ 1 _ _ _ hbl2).trans (show #[Value.int .u64 xa, .int .i64 xs][1]? = some (.int .i64 xs) from rfl)
                          have hfin := hbw3.trans (hb4.mono hbw3.size)
                          have d9 := (HM.out.below hfin hp).c9
                          have HS : Hid ((m.I.take (j + 1)).all (fun y => !(y.1 == xa) && !(y.2 == xs)) = (!(ya == xa) && !(ys == xs))) := by
                            show _ = _
                            rw [List.take_add_one, hy, List.all_append, hal2.out, Bool.true_and]
                            simp
                          have HBR4 := toHid hbr4
                          have HNO : Hid ((!(ya == xa) && !(ys == xs)) = false → idR vs m.I i = false) := fun h => by
                            rw [HX.out, List.all_eq_false]
                            refine ⟨(ya, ys), List.mem_of_getElem? (i := j) (by rw [List.getElem?_take, if_pos hjl]; exact hy), ?_⟩
                            show ¬ (!(ya == xa) && !(ys == xs)) = true
                            rw [h]
                            exact Bool.false_ne_true
                          clear i1 i2 hy hbl2 hb4 hbr4
                          by_cases q1 : ya = xa
                          · have g1 : (ya == xa) = true := by rw [beq_iff_eq]; exact q1
                            have HNO2 : Hid (idR vs m.I i = false) := HNO.out (by rw [g1]; rfl)
                            clear q1
                            go_wp2_with fail
                            go_quiet (fail)
                            go_wp2_with fail
                            go_ret
                            exact ⟨3, rfl, below_drewN hfin, HX3.out (chk_i HIL.out HNO2.out)⟩
                          · have g1 : (ya == xa) = false := by rw [beq_eq_false_iff_ne]; exact q1
                            clear q1
                            by_cases q2 : ys = xs
                            · have g2 : (ys == xs) = true := by rw [beq_iff_eq]; exact q2
                              have HNO2 : Hid (idR vs m.I i = false) := HNO.out (by rw [g2, Bool.not_true, Bool.and_false])
                              clear q2
                              go_wp2_with fail
                              go_quiet (fail)
                              go_wp2_with fail
                              go_ret
                              exact ⟨3, rfl, below_drewN hfin, HX3.out (chk_i HIL.out HNO2.out)⟩
                            · have g2 : (ys == xs) = false := by rw [beq_eq_false_iff_ne]; exact q2
                              have HS2 : Hid ((m.I.take (j + 1)).all (fun y => !(y.1 == xa) && !(y.2 == xs)) = true) := by show _ = _; rw [HS.out, g1, g2]; rfl
                              clear q2
                              go_wp2_with fail
                              go_quiet (fail)
                              go_wp2_with fail
                              go_roundg (i + 1 - (j + 1))
                              case measure => have := HGJ.out; omega
                              case rel => exact ⟨j + 1, rfl, by omega, by go_num, below_drewN HBR4.out, HS2⟩
                        · obtain rfl : j = i := by omega
                          have HN : Hid ((List.range (j + 1)).all (idR vs m.I) = true) := range_all_step hall.out (by rw [HX.out]; exact hal2.out)
                          have HBE := toHid (hbr3.trans ((HBA.out.trans (hbr4.mono HBA.out.size)).mono hbr3.size))
                          go_wp2_with fail
                          all_goals go_roundg (m.I.length + 1 - (j + 1))
                          all_goals (first | (have := HGI.out; omega) | exact ⟨j + 1, rfl, by omega, by go_num, HBE.out, HN⟩)
              · obtain rfl : i = m.I.length := by omega
                have HN : Hid ((if cb then 0 else 5) = m.chk vs) := chk_end HRA.out HKA.out HOK.out hall.out HCB.out
                have HFIN := toHid hbw3
                cases cb with
                | true =>
                  go_wp2_with fail
                  go_ret
                  exact ⟨0, rfl, HFIN.out, HE.out _ HN.out⟩
                | false =>
                  go_wp2_with fail
                  go_ret
                  exact ⟨5, rfl, HFIN.out, HE.out _ HN.out⟩
  · clear ka
    have hb3 := hb1.trans (hb2.mono hb1.size)
    have HNO : Hid (ChkP m 3) := .inr ⟨hno, rfl⟩
    clear hno
    go_wp2_with fail
    go_ret
    exact ⟨3, rfl, hb3, HNO.out⟩
end Go.Proofs.YtnenggkgfhgcnaaGreatDoor
