/- The document's memory: all that can be come to (Reached), how much that is (LiveOf), by contracts. -/
import Derived.Test.YtebhakmladbjlaaGreatDoorMemGB
import Derived.Test.YtebhakmladbjlaaGreatDoorMemRK
namespace Go.Proofs.YtebhakmladbjlaaGreatDoor
open Go.RowKit

theorem shape_len {m : MD} {vs : List Nat} (S : m.Shape vs) : 0 < m.W.length ∧ m.W.length ≤ 300000 ∧ 0 < m.C.length := by
  have hnum := S.1.nums
  have hw := S.1.w
  have hc := S.1.c
  unfold numsOK at hnum
  have : 1 ≤ (m.old + m.card - 1) / m.card := (Int.le_ediv_iff_mul_le (by omega)).2 (by omega)
  omega
theorem md_range {m : MD} (h64 : MD64 m) : ∀ i, i < m.W.length → 0 ≤ m.F i ∧ m.F i < 18446744073709551616 := fun i hi => by
  unfold MD.F
  rw [List.getD_eq_getElem?_getD, List.getElem?_eq_getElem hi]
  exact h64.w _ (List.getElem_mem hi)
theorem all_shape (p o : Nat) (m : MD) (vs : List Nat) (hS : m.Shape vs) (h64 : MD64 m) (w : World) (R : RepM p o m w) :
    Calls Tryz.prog 18 #[.pointer (some ⟨p, o, none⟩)] w fun ev w' => ∃ ao cap, ev = .returned (.tuple #[.slice ao vs.length cap, .bool true]) ∧ RowV w' (.slice ao vs.length cap) vs.length (objsV m.F vs) ∧ Below w.heap.size w w' := by
  obtain ⟨_, _, _, _, _, hp, M, ⟨aW, cW, rfl, hcW, fW⟩, _, _, _, ⟨aC, cC, rfl, hcC, fC⟩⟩ := R
  obtain ⟨b, ob, rfl, lb, gW⟩ := fW (shape_len hS).1
  refine (all_any p o b ob m.W.length m.C.length cW m.half m.old m.card m.used m.top m.oldTop _ _ _ _ m.n0 m.n1 m.m0 m.m1 m.F w M hS.1 (MD.parts hS.1) (fun i hi => gW i _ (words_at (by unfold MD.F; rw [List.getD_eq_getElem?_getD, List.getElem?_eq_getElem hi]; rfl))) (md_range h64)).mono ?_
  obtain ⟨k1, k2, rfl, g1, g2⟩ := hS.bare
  rintro ev w' ⟨hb, ⟨l1, l2, ao, cap, e1, e2, rfl, hown⟩ | ⟨hno, _⟩⟩
  · rw [g1] at e1
    rw [g2] at e2
    cases e1
    cases e2
    rw [List.length_append]
    exact ⟨ao, cap, rfl, rowV_own hown, hb⟩
  · rw [g1, g2] at hno
    rcases hno with h | h <;> cases h
theorem MD.Shape.reachy {m : MD} {vs : List Nat} (S : m.Shape vs) (h64 : MD64 m) : Reachy m.F vs where
  held f hf hkd x hx := by
    obtain ⟨j, hj⟩ := List.mem_iff_getElem?.1 hx
    have hl := (List.getElem?_eq_some_iff.1 hj).1
    rw [fieldsP_len] at hl
    rw [fieldsP_at hl] at hj
    cases hj
    have hfi := (S.fine f hf).2
    refine held_field ?_
    rw [fieldR_eq (nW := m.W.length) (fun v hv => by have := (S.fine v hv).2; omega) (shape_len S).2.1 (md_range h64 _ (by omega)).1]
    exact S.held hf hl hkd
theorem MD.Shape.roots {m : MD} {vs : List Nat} (S : m.Shape vs) (h64 : MD64 m) : ∀ x ∈ m.R, Held vs x := fun x hx => by
  have h := S.2.2.2
  unfold MD.restB at h
  rw [Bool.and_eq_true] at h
  refine held_field ?_
  rw [fieldR_eq (nW := m.W.length) (fun v hv => by have := (S.fine v hv).2; omega) (shape_len S).2.1 (h64.r x hx).1]
  exact List.all_eq_true.1 h.1 x hx
/-- All that can be come to. -/
def MD.reach (m : MD) (vs : List Nat) : List Nat := reachP m.F (vs.length + 1) (comesP [] m.R) 0
theorem outs_nil (vs : List Nat) : Outs vs [] := ⟨fun f h => by simp at h, List.nodup_nil⟩
set_option maxHeartbeats 8000000 in
set_option maxRecDepth 100000 in
theorem reached_any (p o : Nat) (m : MD) (vs : List Nat) (hS : m.Shape vs) (h64 : MD64 m) (bR : m.R.length ≤ 300000) (w : World) (R : RepM p o m w) :
    Calls Tryz.prog 32 #[.pointer (some ⟨p, o, none⟩)] w fun ev w' => ∃ ao cap, ev = .returned (.slice ao (m.reach vs).length cap) ∧ RowV w' (.slice ao (m.reach vs).length cap) (m.reach vs).length (objsV m.F (m.reach vs)) ∧ Below w.heap.size w w' := by
  have ka := all_shape p o m vs hS h64 w R
  have hfew := hS.few
  have HR := toHid R
  have HS := toHid hS
  have H64 := toHid h64
  obtain ⟨rr, hrr⟩ : ∃ rr, rr = m.reach vs := ⟨_, rfl⟩
  rw [← hrr]
  have HRR := toHid hrr
  clear R hS h64 hrr
  go_enter Tryz.func32, Tryz.ntmps32
  go_wp2_with fail
  refine ka.mono ?_
  rintro ev w1 ⟨ao, ca, rfl, hL, hb1⟩
  clear ka
  have HL := toHid hL
  have HB1 := toHid hb1
  have R1 := HR.out.below hb1
  have HR1 := toHid R1
  obtain ⟨vW, vR, vK, vI, vC, hp, M, ⟨aW, cW, rfl, hcW, fW⟩, ⟨aR, cR, rfl, hcR, fR⟩, _, _, _⟩ := R1
  obtain ⟨bW, oW, rfl, lW, gW⟩ := fW (shape_len HS.out).1
  have HGW := toHid gW
  have HFR := toHid fR
  have c3 := M.c3
  have c7 := M.c7
  clear hL hb1 fW fR gW M
  go_wp2_with fail
  go_loopg [5, 6] (m.R.length + 1) (fun gk v5 v6 wr => ∃ (k : Nat) (oo : Option Addr) (oc : Nat), gk = m.R.length + 1 - k ∧ k ≤ m.R.length ∧ v6 = .int .i64 (k : Int) ∧ v5 = .slice oo (comesP [] (m.R.take k)).length oc ∧ Below w1.heap.size w1 wr ∧ Hid (wr.ownsRow w1.heap.size 55 4 (.slice oo (comesP [] (m.R.take k)).length oc) (comesP [] (m.R.take k)).length (objsV m.F (comesP [] (m.R.take k)))) ∧ Hid (Outs vs (comesP [] (m.R.take k))))
  case atStart => exact ⟨0, none, 0, rfl, Nat.zero_le _, rfl, rfl, Below.refl _ _, ⟨rfl, .inl ⟨rfl, rfl⟩⟩, outs_nil vs⟩
  case round =>
    obtain ⟨k, oo, oc, hgk, hk, rfl, rfl, hb, hO, hU⟩ := hrel
    have HG := toHid hgk
    have hk0 : (0 : Int) ≤ (k : Int) := by omega
    have hol := hU.out.len
    have d3 := (hb.cell (p := ⟨p, o + 3, none⟩) (lt_of_cell c3)).trans c3
    have d7 := (hb.cell (p := ⟨p, o + 7, none⟩) (lt_of_cell c7)).trans c7
    have HB := toHid hb
    clear hgk hb
    by_cases hlt : k < m.R.length
    · have hI : (k : Int) < (m.R.length : Int) := by omega
      obtain ⟨x, hx⟩ : ∃ x, m.R[k]? = some x := ⟨_, List.getElem?_eq_getElem hlt⟩
      obtain ⟨pR, oR, rfl, lR, gR⟩ := HFR.out (by omega)
      have r1 : wr.cell? ⟨pR, oR + k, none⟩ = some (.int .u64 x) := (HB.out.cell (p := ⟨pR, oR + k, none⟩) lR).trans (gR k _ (words_at hx))
      have hxr := H64.out.r x (List.mem_of_getElem? hx)
      have hxh := HS.out.roots H64.out x (List.mem_of_getElem? hx)
      have kc := come_any m.F vs (comesP [] (m.R.take k)) ao oo ca oc hfew (by omega) x hxr.1 hxr.2 hxh w1 wr HL.out HB.out hO.out
      rw [← comesP_take hx] at kc
      have HU2 : Hid (Outs vs (comesP [] (m.R.take (k + 1)))) := by show Outs _ _; rw [comesP_take hx]; exact hU.out.come hxh
      clear gR hx hxr hxh hO hU
      go_wp2_with fail
      refine kc.mono ?_
      rintro ev w2 ⟨oo2, oc2, rfl, ho2, hb2⟩
      clear kc
      have HO2 := toHid ho2
      clear ho2
      go_wp2_with fail
      go_roundg (m.R.length + 1 - (k + 1))
      case measure => have := HG.out; omega
      case rel => exact ⟨k + 1, oo2, oc2, rfl, by omega, by go_num, rfl, hb2, HO2, HU2⟩
    · have hI : ¬ (k : Int) < (m.R.length : Int) := by omega
      have hkk : m.R.take k = m.R := List.take_of_length_le (by omega)
      rw [hkk] at hO hU hol ⊢
      clear hkk
      obtain ⟨ou, hou⟩ : ∃ ou, ou = comesP [] m.R := ⟨_, rfl⟩
      rw [← hou] at hO hU hol ⊢
      have HRE : Hid (rr = reachP m.F (vs.length + 1) ou 0) := by show _ = _; rw [HRR.out, hou]; rfl
      clear hou
      go_wp2_with fail
      go_loopg [5, 7] (vs.length + 1) (fun gk v5 v7 wx => ∃ (k : Nat) (ou : List Nat) (oo : Option Addr) (oc : Nat), gk = vs.length + 1 - k ∧ k ≤ ou.length ∧ v7 = .int .i64 (k : Int) ∧ v5 = .slice oo ou.length oc ∧ Below w1.heap.size w1 wx ∧ Hid (wx.ownsRow w1.heap.size 55 4 (.slice oo ou.length oc) ou.length (objsV m.F ou)) ∧ Hid (Outs vs ou) ∧ Hid (rr = reachP m.F (vs.length + 1 - k) ou k))
      case atStart => exact ⟨0, ou, oo, oc, rfl, Nat.zero_le _, rfl, rfl, HB.out, hO, hU, HRE⟩
      case round =>
        clear hI hlt hk hk0 HG hO hU hol d3 d7 HB HRE
        obtain ⟨k, ou, oo, oc, hgk, hk, rfl, rfl, hb, hO, hU, HRE⟩ := hrel
        obtain ⟨wx, hwx⟩ : ∃ wx, wx = wr := ⟨_, rfl⟩
        subst hwx
        have HG := toHid hgk
        have hk0 : (0 : Int) ≤ (k : Int) := by omega
        have hol := hU.out.len
        have HB := toHid hb
        clear hgk hb
        by_cases hlt : k < ou.length
        · have hI : (k : Int) < (ou.length : Int) := by omega
          obtain ⟨f, hf⟩ : ∃ f, ou[k]? = some f := ⟨_, List.getElem?_eq_getElem hlt⟩
          have hfv := hU.out.sub f (List.mem_of_getElem? hf)
          obtain ⟨_, _, e, _, f1⟩ := rowV_own hO.out
          cases e
          obtain ⟨p1, o1, rfl, l1, g1⟩ := f1 (by omega)
          have r1 : wx.cell? ⟨p1, o1 + k * 4 + 1, none⟩ = some (.int .i64 (m.F f / 4 % 256)) := g1 (k * 4 + 1) _ (objs_at hf 1 (by omega))
          obtain ⟨n', hn'⟩ : ∃ n', vs.length + 1 - k = n' + 1 := ⟨vs.length - k, by omega⟩
          have HGO : Hid (rr = reachP m.F n' (stepP m.F ou f) (k + 1)) := by show _ = _; rw [HRE.out, hn', reachP_go hf]
          have HN' : Hid (n' = vs.length + 1 - (k + 1)) := by show _ = _; omega
          have HF := toHid hf
          clear hn' hf HRE f1
          by_cases hraw : m.F f / 4 % 256 < 8
          · have HST : Hid (stepP m.F ou f = ou) := by show _ = _; unfold stepP; rw [if_pos hraw]
            have HRE2 : Hid (rr = reachP m.F (vs.length + 1 - (k + 1)) ou (k + 1)) := by show _ = _; rw [HGO.out, HST.out, HN'.out]
            clear g1 HGO HST
            generalize m.F f / 4 % 256 = kd at *
            go_wp2_with fail
            go_roundg (vs.length + 1 - (k + 1))
            case measure => have := HG.out; omega
            case rel => exact ⟨k + 1, ou, _, oc, rfl, by omega, by go_num, rfl, HB.out, hO, hU, HRE2⟩
          · obtain ⟨hfh, hfl⟩ := HS.out.fine f hfv
            obtain ⟨sz, hsz⟩ : ∃ sz, sz = szN (m.F f) := ⟨_, rfl⟩
            have hszI : m.F f / 65536 = (sz : Int) := by
              have := md_range H64.out f (by omega)
              rw [hsz]
              unfold szN
              omega
            have hs4 : sz ≤ 4096 := by
              unfold headB at hfh
              have := of_decide_eq_true hfh
              omega
            have hfsz : f + 1 + sz ≤ m.W.length := by rw [hsz]; exact hfl
            have hW3 := (shape_len HS.out).2.1
            have HST : Hid (stepP m.F ou f = comesP ou (fieldsP m.F f)) := by show _ = _; unfold stepP; rw [if_neg hraw]
            have HLN : Hid ((fieldsP m.F f).length = sz) := by show _ = _; rw [fieldsP_len, hsz]
            have HRY := toHid ((HS.out.reachy H64.out).held f hfv hraw)
            clear hfh hfl hsz g1
            generalize hgkd : m.F f / 4 % 256 = kd at *
            clear hgkd
            go_wp2_with fail
            go_loopg [5, 8] (sz + 1) (fun gk v5 v8 wy => ∃ (i : Nat) (oo : Option Addr) (oc : Nat), gk = sz + 1 - i ∧ i ≤ sz ∧ v8 = .int .i64 (i : Int) ∧ v5 = .slice oo (comesP ou ((fieldsP m.F f).take i)).length oc ∧ Below w1.heap.size w1 wy ∧ Hid (wy.ownsRow w1.heap.size 55 4 (.slice oo (comesP ou ((fieldsP m.F f).take i)).length oc) (comesP ou ((fieldsP m.F f).take i)).length (objsV m.F (comesP ou ((fieldsP m.F f).take i)))) ∧ Hid (Outs vs (comesP ou ((fieldsP m.F f).take i))))
            case atStart => exact ⟨0, some ⟨p1, o1, none⟩, oc, rfl, Nat.zero_le _, rfl, rfl, HB.out, hO, hU⟩
            case round =>
              clear r1 l1 hO hU hol HB hI hlt
              obtain ⟨i, oo, oc, hgi, hi, rfl, rfl, hb, hO, hU⟩ := hrel
              obtain ⟨wy, hwy⟩ : ∃ wy, wy = wr := ⟨_, rfl⟩
              subst hwy
              have HGI := toHid hgi
              have hi0 : (0 : Int) ≤ (i : Int) := by omega
              have hol := hU.out.len
              have HB := toHid hb
              obtain ⟨ri, hri⟩ := comesP_pre ((fieldsP m.F f).take i) ou
              have hkf : (comesP ou ((fieldsP m.F f).take i))[k]? = some f := by
                rw [hri, List.getElem?_append_left (List.getElem?_eq_some_iff.1 HF.out).1]
                exact HF.out
              have hkl : (k : Int) < ((comesP ou ((fieldsP m.F f).take i)).length : Int) := by
                have := (List.getElem?_eq_some_iff.1 hkf).1
                omega
              obtain ⟨_, _, e, _, f1⟩ := rowV_own hO.out
              cases e
              obtain ⟨p2, o2, rfl, l2, g2⟩ := f1 (by have := (List.getElem?_eq_some_iff.1 hkf).1; omega)
              have r0 : wy.cell? ⟨p2, o2 + k * 4, none⟩ = some (.int .i64 (f : Int)) := g2 (k * 4) _ (objs_at hkf 0 (by omega))
              have r3 : wy.cell? ⟨p2, o2 + k * 4 + 3, none⟩ = some (.int .i64 (sz : Int)) := by rw [← hszI]; exact g2 (k * 4 + 3) _ (objs_at hkf 3 (by omega))
              have hp2 := lt_of_cell r0
              clear hgi hb f1 g2 hri hkf
              by_cases hlti : i < sz
              · have hI : (i : Int) < (sz : Int) := by omega
                obtain ⟨x, hx⟩ : ∃ x, x = m.F (f + 1 + i) := ⟨_, rfl⟩
                have hxf : (fieldsP m.F f)[i]? = some x := by rw [hx]; exact fieldsP_at (by have := HLN.out; rw [fieldsP_len] at this; omega)
                have d3 := (HB.out.cell (p := ⟨p, o + 3, none⟩) (lt_of_cell c3)).trans c3
                have rx : wy.cell? ⟨bW, oW + (f + 1 + i), none⟩ = some (.int .u64 x) := by
                  rw [hx]
                  exact (HB.out.cell (p := ⟨bW, oW + (f + 1 + i), none⟩) lW).trans (HGW.out (f + 1 + i) _ (words_at (by unfold MD.F; rw [List.getD_eq_getElem?_getD, List.getElem?_eq_getElem (by omega)]; rfl)))
                have hxr := md_range H64.out (f + 1 + i) (by omega)
                rw [← hx] at hxr
                have hxh := HRY.out x (List.mem_of_getElem? hxf)
                have kc := toHid (fun (q : Nat) => come_any m.F vs (comesP ou ((fieldsP m.F f).take i)) ao (some ⟨p2, o2, none⟩) ca oc hfew (by omega) x hxr.1 hxr.2 hxh w1 (wy.drewN q) HL.out (below_drewN HB.out) hO.out)
                rw [← comesP_take hxf] at kc
                have HU2 : Hid (Outs vs (comesP ou ((fieldsP m.F f).take (i + 1)))) := by show Outs _ _; rw [comesP_take hxf]; exact hU.out.come hxh
                have e1 : IntKind.i64.wrap ((f : Int) + 1) = (f : Int) + 1 := wrapI _ (by omega) (by omega)
                have e2 : IntKind.i64.wrap ((f : Int) + 1 + (i : Int)) = (((f + 1 + i : Nat)) : Int) := by rw [wrapI _ (by omega) (by omega)]; omega
                have hy0 : (0 : Int) ≤ ((f + 1 + i : Nat) : Int) := by omega
                have hy1 : ((f + 1 + i : Nat) : Int) < (m.W.length : Int) := by omega
                clear hx hxf hxr hxh hO hU
                go_upto_region 14 with fail
                go_region_with ((go_at_call 66; refine (kc.out _).mono ?_; rintro ev w2 ⟨oo2, oc2, rfl, ho2, hb2⟩))
                all_goals (have HO2 := toHid ho2)
                all_goals (have HB2 := toHid hb2)
                all_goals clear ho2 hb2
                all_goals go_wp2_with fail
                all_goals go_roundg (sz + 1 - (i + 1))
                all_goals first | exact ⟨i + 1, oo2, oc2, rfl, by omega, by go_num, rfl, HB2.out, HO2, HU2⟩ | exact ⟨i + 1, oo2, oc2, rfl, by omega, by go_num, rfl, HB2.out.drew, HO2.out, HU2⟩ | (have := HGI.out; omega)
              · have hI : ¬ (i : Int) < (sz : Int) := by omega
                have hii : (fieldsP m.F f).take i = fieldsP m.F f := List.take_of_length_le (by have := HLN.out; omega)
                rw [hii, ← HST.out] at hO hU hol ⊢
                clear hii
                obtain ⟨r, hr⟩ := stepP_pre m.F ou f
                have hkl2 : k + 1 ≤ (stepP m.F ou f).length := by rw [hr, List.length_append]; have := (List.getElem?_eq_some_iff.1 HF.out).1; omega
                have HRE2 : Hid (rr = reachP m.F (vs.length + 1 - (k + 1)) (stepP m.F ou f) (k + 1)) := by show _ = _; rw [HGO.out, HN'.out]
                clear hr
                go_wp2_with fail
                go_roundg (vs.length + 1 - (k + 1))
                case measure => have := HG.out; omega
                case rel => exact ⟨k + 1, stepP m.F ou f, _, oc, rfl, hkl2, by go_num, rfl, HB.out, hO, hU, HRE2⟩
        · have hI : ¬ (k : Int) < (ou.length : Int) := by omega
          have HE : Hid (rr = ou) := by show _ = _; rw [HRE.out, reachP_end (by omega)]
          go_wp2_with fail
          go_ret
          have e := HE.out
          subst e
          exact ⟨oo, oc, rfl, rowV_own hO.out, HB1.out.trans (HB.out.mono HB1.out.size)⟩
theorem sumN_step {F : Nat → Int} {l : List Nat} {k f : Nat} (h : l[k]? = some f) : ((l.take (k + 1)).map (fun f => 1 + szN (F f))).sum = ((l.take k).map (fun f => 1 + szN (F f))).sum + (1 + szN (F f)) := by
  rw [List.take_add_one, h, List.map_append, List.sum_append]
  simp
/-- Live words. -/
def MD.live (m : MD) (vs : List Nat) : Nat := ((m.reach vs).map (fun f => 1 + szN (m.F f))).sum
end Go.Proofs.YtebhakmladbjlaaGreatDoor
