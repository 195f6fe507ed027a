/- The law MajorTwice by a walk. -/
import Derived.Test.YtnenggkgfhgcnaaGreatDoorMjM
import Derived.Test.YtnenggkgfhgcnaaGreatDoorMemVO
import Derived.Test.YtnenggkgfhgcnaaGreatDoorMemI
namespace Go.Proofs.YtnenggkgfhgcnaaGreatDoor
open Go.RowKit Go.Maps

theorem OwnK.aside {X : Nat → Prop} {B bx : Nat} {m : MD} {vW vR vK vI vC : Value} {w w' : World} (h : OwnK B bx m vW vR vK vI vC w) (ha : Aside X w w') (hx : ∀ k, X k → k < B) : OwnK B bx m vW vR vK vI vC w' := by
  obtain ⟨h0, hO, r1, r2, r3, r4, r5, hr⟩ := h
  have f : ∀ k, B ≤ k → k < w.heap.size → w'.heap[k]? = w.heap[k]? := fun k h1 h2 => ha.block k h2 (fun h3 => by have := hx k h3; omega)
  exact ⟨h0, (f bx h0 (lt_of_heap hO)).trans hO, ownsRow_far' r1 (fun k hk => f k (own_lt2 r1 k hk).1 (own_lt2 r1 k hk).2), ownsRow_far' r2 (fun k hk => f k (own_lt2 r2 k hk).1 (own_lt2 r2 k hk).2), ownsRow_far' r3 (fun k hk => f k (own_lt2 r3 k hk).1 (own_lt2 r3 k hk).2), ownsRow_far' r4 (fun k hk => f k (own_lt2 r4 k hk).1 (own_lt2 r4 k hk).2), ownsRow_far' r5 (fun k hk => f k (own_lt2 r5 k hk).1 (own_lt2 r5 k hk).2), hr⟩
set_option maxHeartbeats 4000000 in
set_option maxRecDepth 100000 in
theorem majorTwice_nil (a : Nat → Addr) (tn : Int) (w : World) (E : MErr a w) : Calls Tryz.prog 6 #[.pointer none, .int .i64 tn] w fun ev w' => ev = .returned (.bool true) ∧ Below w.heap.size w w' := by
  have ks := still_any a w E
  go_enter Tryz.func6, Tryz.ntmps6
  go_wp2_with fail
  refine ks.mono ?_
  rintro ev w1 ⟨rfl, hb⟩
  go_wp2_with fail
  refine (jNear_nil w1).mono ?_
  rintro ev w2 ⟨rfl, hq⟩
  rw [hq]
  clear hq w2
  go_wp2_with fail
  refine (checkOf_nil w1).mono ?_
  rintro ev w2 ⟨rfl, hb2⟩
  go_wp2_with fail
  go_ret
  exact ⟨rfl, hb.trans (hb2.mono hb.size)⟩
set_option maxHeartbeats 4000000 in
set_option maxRecDepth 100000 in
theorem majorTwice_far (a : Nat → Addr) (p o : Nat) (m : MD) (tn : Int) (w : World) (E : MErr a w) (h : RepM p o m w) (hn : ¬ (m.W.length ≤ 1000 ∧ m.R.length ≤ 100 ∧ m.K.length ≤ 100 ∧ m.I.length ≤ 100 ∧ m.C.length ≤ 1000)) : Calls Tryz.prog 6 #[.pointer (some ⟨p, o, none⟩), .int .i64 tn] w fun ev w' => ev = .returned (.bool true) ∧ Below w.heap.size w w' := by
  have ks := still_any a w E
  go_enter Tryz.func6, Tryz.ntmps6
  go_wp2_with fail
  refine ks.mono ?_
  rintro ev w1 ⟨rfl, hb⟩
  go_wp2_with fail
  refine (near_no p o m w1 (h.below hb) hn).mono ?_
  rintro ev w2 ⟨rfl, hq⟩
  rw [hq]
  clear hq w2
  go_wp2_with fail
  go_ret
  exact ⟨rfl, hb⟩
set_option maxHeartbeats 8000000 in
set_option maxRecDepth 100000 in
theorem majorTwice_near (a : Nat → Addr) (p o : Nat) (m : MD) (tn : Int) (htn : -9223372036854775808 ≤ tn ∧ tn < 9223372036854775808) (w : World) (E : MErr a w) (h : RepM p o m w) (h64 : MD64 m) (n1 : m.W.length ≤ 1000) (n2 : m.R.length ≤ 100) (n3 : m.K.length ≤ 100) (n4 : m.I.length ≤ 100) (n5 : m.C.length ≤ 1000) : Calls Tryz.prog 6 #[.pointer (some ⟨p, o, none⟩), .int .i64 tn] w fun ev w' => ev = .returned (.bool true) ∧ Below w.heap.size w w' := by
  have HE := toHid E
  have HR := toHid h
  have H64 := toHid h64
  have ks := still_any a w E
  clear E h h64
  go_enter Tryz.func6, Tryz.ntmps6
  go_wp2_with fail
  refine ks.mono ?_
  clear ks
  rintro ev w1 ⟨rfl, hb1⟩
  go_wp2_with fail
  refine (near_yes p o m w1 (HR.out.below hb1) n1 n2 n3 n4 n5).mono ?_
  rintro ev w2 ⟨rfl, hq⟩
  rw [hq]
  clear hq w2
  go_wp2_with fail
  refine (checkOf_any p o m H64.out (by omega) (by omega) (by omega) w1 (HR.out.below hb1)).mono ?_
  rintro ev w2 ⟨hb2, ⟨vs, hS, hC, rfl⟩ | ⟨vs, _, _, rfl⟩ | ⟨_, rfl⟩⟩
  rotate_left
  · have HB2 : Hid (Below w.heap.size w w2) := hb1.trans (hb2.mono hb1.size)
    clear hb1 hb2
    go_wp2_with fail
    go_ret
    exact ⟨rfl, HB2.out⟩
  · have HB2 : Hid (Below w.heap.size w w2) := hb1.trans (hb2.mono hb1.size)
    clear hb1 hb2
    go_wp2_with fail
    go_ret
    exact ⟨rfl, HB2.out⟩
  · have hb02 := hb1.trans (hb2.mono hb1.size)
    have HS := toHid hS
    have HC := toHid hC
    have HB02 := toHid hb02
    clear hb1 hb2 hS hC
    go_wp2_with fail
    refine (memOf_own p o m w2 (HR.out.below hb02) (by omega) (by omega) (by omega) (by omega) (by omega)).mono ?_
    rintro ev w3 ⟨bx, rfl, O3, hb3⟩
    obtain ⟨l1, l2, hv, g1, g2⟩ := HS.out.bare
    obtain ⟨bW, bC, cW, cC, vR, vK, vI, hCA, x0, x1, x2⟩ := colAt_of O3 (shape_pos HS.out).1 (shape_pos HS.out).2.1
    have kc := jcollect_any a bx bW bC cW cC m vR vK vI l1 l2 w3 hCA (by rw [← hv]; exact HS.out) HC.out H64.out g1 g2 (by omega) (by omega) (by omega) (fun w' h => (HE.out.below HB02.out).below (hb3.trans (h.below hb3.size (fun q hq hx => by
      rcases hx with h | h | h <;> omega))))
    have HHV := toHid hv
    have HG1 := toHid g1
    have HG2 := toHid g2
    have HB3 : Hid (Below w2.heap.size w2 w3) := hb3
    have HXX : Hid (w2.heap.size ≤ bx ∧ w2.heap.size ≤ bW ∧ w2.heap.size ≤ bC) := ⟨x0, x1, x2⟩
    clear O3 hCA hv g1 g2 hb3 x0 x1 x2 hb02
    go_wp2_with fail
    refine kc.mono ?_
    clear kc
    rintro ev w4 (⟨_, rfl, hb4⟩ | ⟨hroom, rfl, P, φ, X, hPf, vR', vK', vI', hN, ha⟩)
    · have HBE : Hid (Below w.heap.size w w4) := HB02.out.trans ((HB3.out.trans (hb4.mono HB3.out.size)).mono HB02.out.size)
      clear hb4
      unfold errV
      go_wp2_with fail
      go_ret
      exact ⟨rfl, HBE.out⟩
    · have hb4 : Below w2.heap.size w2 w4 := HB3.out.trans (ha.below HB3.out.size (fun q hq hx => by
        obtain ⟨x0, x1, x2⟩ := HXX.out
        rcases hx with h | h | h <;> omega))
      have HB24 := toHid hb4
      have HB4 : Hid (Below w.heap.size w w4) := HB02.out.trans (hb4.mono HB02.out.size)
      have Sm : m.Shape (l1 ++ l2) := by rw [← HHV.out]; exact HS.out
      have J := jdone_of Sm H64.out X hPf
      obtain ⟨n, hn⟩ : ∃ n, n = majM m φ (carryL m.W.length φ m.W P) (m.m0 + m.live (l1 ++ l2)) := ⟨_, rfl⟩
      obtain ⟨us, hus⟩ : ∃ us, us = P.map Prod.snd := ⟨_, rfl⟩
      obtain ⟨ψ, hψ⟩ : ∃ ψ, ψ = atP φ := ⟨_, rfl⟩
      rw [← hn, ← hus, ← hψ] at J
      rw [← hn] at hN
      have lR : n.R.length ≤ 300000 := by rw [J.C.roots, List.length_map]; omega
      have lK : n.K.length ≤ 300000 := by rw [J.C.klen]; omega
      have lI : n.I.length ≤ 300000 := by have := J.C.ilen; omega
      have kb := memBack_own bx n w4 hN.repP.rep (shape_pos J.C.shape).2.2 lR lK lI (shape_c J.C.shape)
      have hlen := J.C.lens Sm
      have hlv := J.C.live Sm H64.out
      obtain ⟨k1, k2, hk, z1, z2⟩ := J.C.shape.bare
      have HL : Hid (n.R.length ≤ 300000 ∧ n.K.length ≤ 300000 ∧ n.I.length ≤ 300000 ∧ n.W.length ≤ 300000 ∧ n.C.length ≤ 300000) := ⟨lR, lK, lI, (shape_pos J.C.shape).2.2, shape_c J.C.shape⟩
      have Sn : n.Shape (k1 ++ k2) := by rw [← hk]; exact J.C.shape
      have HF5 : Hid (∀ w5, Below w4.heap.size w4 w5 → Calls Tryz.prog 12 #[.pointer (some ⟨bx, 0, none⟩)] w5 fun ev w' => ev = .returned .nilIface ∧ (∃ vR vK vI, ColAt bx bW bC cW cC n vR vK vI w') ∧ Aside (ownM bx bW bC) w5 w') := fun w5 b5 => by
        refine (jcollect_any a bx bW bC cW cC n vR' vK' vI' k1 k2 w5 (hN.below b5) Sn J.C.cards J.C.h64 z1 z2 lR lK lI (fun w' h => (HE.out.below HB02.out).below ((hb4.trans (b5.mono hb4.size)).trans (h.below (Nat.le_trans hb4.size b5.size) (fun q hq hx => by
          obtain ⟨x0, x1, x2⟩ := HXX.out
          rcases hx with h | h | h <;> omega))))).mono ?_
        rintro ev w' (⟨hfull, _⟩ | ⟨_, rfl, P', φ', X', hPf', vR2, vK2, vI2, hN2, ha2⟩)
        · rw [← hk, hlv, hlen.1, hlen.2.2] at hfull
          omega
        · rw [J.again hk z1 z2 X' hPf'] at hN2
          exact ⟨rfl, ⟨_, _, _, hN2⟩, ha2⟩
      have HTX : Hid (n.textA us = m.textA vs ∧ n.oldTop = (m.live vs : Int)) := by rw [HHV.out]; exact ⟨J.C.text Sm H64.out, J.top⟩
      have HJC : Hid (n.Shape us ∧ MD64 n) := ⟨J.C.shape, J.C.h64⟩
      have hW4 : bx < w4.heap.size ∧ bW < w4.heap.size ∧ bC < w4.heap.size := ⟨lt_of_heap hN.mb, hN.hW.lt, hN.hC.lt⟩
      have HRM : Hid (m.m0 + m.live vs ≤ m.W.length) := by rw [HHV.out]; exact hroom
      clear hb4 hN ha lR lK lI Sm J X hPf hn hus hψ hlen hlv hk z1 z2 Sn hroom
      go_wp2_with fail
      refine kb.mono ?_
      clear kb
      rintro ev w5 ⟨bf, rfl, ⟨vW1, vR1, vK1, vI1, vC1, hO1⟩, hb5⟩
      have k5 := HF5.out w5 hb5
      have HO1 := toHid hO1
      have HB5 : Hid (Below w.heap.size w w5) := HB4.out.trans (hb5.mono HB4.out.size)
      have HB45 := toHid hb5
      clear hO1 hb5
      go_wp2_with fail
      refine k5.mono ?_
      clear k5
      rintro ev w6 ⟨rfl, ⟨vR2, vK2, vI2, hN2⟩, ha2⟩
      have hO6 : OwnK w4.heap.size bf n vW1 vR1 vK1 vI1 vC1 w6 := HO1.out.aside ha2 (fun k hk => by rcases hk with h | h | h <;> omega)
      have HO6 := toHid hO6
      have hb26 : Below w2.heap.size w2 w6 := by
        have h25 : Below w2.heap.size w2 w5 := by
          have h24 : Below w2.heap.size w2 w4 := HB24.out
          exact h24.trans (HB45.out.mono h24.size)
        exact h25.trans (ha2.below h25.size (fun q hq hx => by
          obtain ⟨x0, x1, x2⟩ := HXX.out
          rcases hx with h | h | h <;> omega))
      have HB6 : Hid (Below w.heap.size w w6) := HB02.out.trans (hb26.mono HB02.out.size)
      have kb2 := memBack_any bx n w6 hN2.repP.rep HL.out.2.2.2.1 HL.out.1 HL.out.2.1 HL.out.2.2.1 HL.out.2.2.2.2
      clear hO6 hb26 hN2 ha2
      go_wp2_with fail
      refine kb2.mono ?_
      clear kb2
      rintro ev w7 ⟨b2, rfl, _, hR2, hb7⟩
      have ks2 := sameMemory_eq b2 0 bf 0 n w7 hR2 (HO6.out.rep.below hb7) HL.out.2.2.2.1 HL.out.1 HL.out.2.1 HL.out.2.2.1 HL.out.2.2.2.2
      have HO7 := toHid (HO6.out.rep.below hb7)
      have HB7 : Hid (Below w.heap.size w w7) := HB6.out.trans (hb7.mono HB6.out.size)
      clear hR2 hb7
      go_wp2_with fail
      refine ks2.mono ?_
      clear ks2
      rintro ev w8 ⟨rfl, hb8⟩
      have HO8 := toHid (HO7.out.below hb8)
      have HB8 : Hid (Below w.heap.size w w8) := HB7.out.trans (hb8.mono HB7.out.size)
      clear hb8
      -- the nursery first
      go_wp2_with fail
      refine (memOf_own p o m w8 (HR.out.below HB8.out) (by omega) (by omega) (by omega) (by omega) (by omega)).mono ?_
      rintro ev w9 ⟨by', rfl, O9, hb9⟩
      obtain ⟨bW', bC', cW', cC', vR3, vK3, vI3, hCA, x0, x1, x2⟩ := colAt_of O9 (shape_pos HS.out).1 (shape_pos HS.out).2.1
      have kc := ncollect_any a by' bW' bC' cW' cC' m vR3 vK3 vI3 l1 l2 tn w9 hCA (by rw [← HHV.out]; exact HS.out) HC.out H64.out HG1.out HG2.out (by omega) (by omega) (by omega) htn (fun w' h => (HE.out.below HB8.out).below (hb9.trans (h.below hb9.size (fun q hq hx => by
        rcases hx with h | h | h <;> omega))))
      have HX9 : Hid (w8.heap.size ≤ by' ∧ w8.heap.size ≤ bW' ∧ w8.heap.size ≤ bC') := ⟨x0, x1, x2⟩
      have HB9 := toHid hb9
      clear O9 hCA x0 x1 x2 hb9
      go_wp2_with fail
      refine kc.mono ?_
      clear kc
      rintro ev w10 (⟨_, rfl, hb10⟩ | ⟨_, _, rfl, hb10⟩ | ⟨_, _, rfl, e, q, vs2, S2, ψ2, vR4, vK4, vI4, _, hN4, hCo, _, ha4⟩)
      · have HBE : Hid (Below w.heap.size w w10) := HB8.out.trans ((HB9.out.trans (hb10.mono HB9.out.size)).mono HB8.out.size)
        clear hb10
        unfold errV
        go_wp2_with fail
        go_ret
        exact ⟨rfl, HBE.out⟩
      · have HBE : Hid (Below w.heap.size w w10) := HB8.out.trans ((HB9.out.trans (hb10.mono HB9.out.size)).mono HB8.out.size)
        clear hb10
        unfold errV
        go_wp2_with fail
        go_ret
        exact ⟨rfl, HBE.out⟩
      · have Sm : m.Shape (l1 ++ l2) := by rw [← HHV.out]; exact HS.out
        have hb10 : Below w8.heap.size w8 w10 := HB9.out.trans (ha4.below HB9.out.size (fun q hq hx => by
          obtain ⟨x0, x1, x2⟩ := HX9.out
          rcases hx with h | h | h <;> omega))
        obtain ⟨k3, k4, hk, z1, z2⟩ := hCo.shape.bare
        have Sq : q.Shape (k3 ++ k4) := by rw [← hk]; exact hCo.shape
        have lR : q.R.length ≤ 300000 := by rw [hCo.roots, List.length_map]; omega
        have lK : q.K.length ≤ 300000 := by rw [hCo.klen]; omega
        have lI : q.I.length ≤ 300000 := by have := hCo.ilen; omega
        have hlen := hCo.lens Sm
        have hlv := hCo.live Sm H64.out
        have htx := hCo.text Sm H64.out
        have kc := jcollect_any a by' bW' bC' cW' cC' q vR4 vK4 vI4 k3 k4 w10 hN4 Sq hCo.cards hCo.h64 z1 z2 lR lK lI (fun w' h => (HE.out.below HB8.out).below (hb10.trans (h.below hb10.size (fun q hq hx => by
          obtain ⟨x0, x1, x2⟩ := HX9.out
          rcases hx with h | h | h <;> omega))))
        have hQ : q.m0 + q.live (k3 ++ k4) ≤ q.W.length := by
          rw [← hk, hlv, hlen.1, hlen.2, ← HHV.out]
          exact HRM.out
        have HQ := toHid hQ
        have HB10 := toHid hb10
        have HSq := toHid Sq
        have H64q := toHid hCo.h64
        have HLq : Hid (q.R.length ≤ 300000 ∧ q.K.length ≤ 300000 ∧ q.I.length ≤ 300000) := ⟨lR, lK, lI⟩
        have HTq : Hid (q.textA (k3 ++ k4) = m.textA vs ∧ q.live (k3 ++ k4) = m.live vs) := by rw [← hk, HHV.out]; exact ⟨htx, hlv⟩
        clear hb10 hN4 hCo ha4 lR lK lI Sm hk z1 z2 hlen hlv htx hQ Sq
        go_wp2_with fail
        refine kc.mono ?_
        clear kc
        rintro ev w11 (⟨hfull, _⟩ | ⟨_, rfl, P2, φ2, X2, hPf2, vR5, vK5, vI5, hN5, ha5⟩)
        · have := HQ.out; omega
        · have J := jdone_of HSq.out H64q.out X2 hPf2
          obtain ⟨r, hr⟩ : ∃ r, r = majM q φ2 (carryL q.W.length φ2 q.W P2) (q.m0 + q.live (k3 ++ k4)) := ⟨_, rfl⟩
          obtain ⟨us2, hus2⟩ : ∃ us2, us2 = P2.map Prod.snd := ⟨_, rfl⟩
          rw [← hr, ← hus2] at J
          rw [← hr] at hN5
          have hb11 : Below w8.heap.size w8 w11 := HB10.out.trans (ha5.below HB10.out.size (fun q hq hx => by
            obtain ⟨x0, x1, x2⟩ := HX9.out
            rcases hx with h | h | h <;> omega))
          have lR : r.R.length ≤ 300000 := by rw [J.C.roots, List.length_map]; exact HLq.out.1
          have lK : r.K.length ≤ 300000 := by rw [J.C.klen]; exact HLq.out.2.1
          have lI : r.I.length ≤ 300000 := by have := J.C.ilen; have := HLq.out.2.2; omega
          have HL5 : Hid (r.R.length ≤ 300000 ∧ r.K.length ≤ 300000 ∧ r.I.length ≤ 300000) := ⟨lR, lK, lI⟩
          have kb3 := memBack_any by' r w11 hN5.repP.rep (shape_pos J.C.shape).2.2 lR lK lI (shape_c J.C.shape)
          have HT5 : Hid (r.textA us2 = m.textA vs ∧ r.oldTop = (m.live vs : Int) ∧ r.Shape us2 ∧ MD64 r) := ⟨(J.C.text HSq.out H64q.out).trans HTq.out.1, by rw [J.top, HTq.out.2], J.C.shape, J.C.h64⟩
          have HO11 := toHid (HO8.out.below hb11)
          have HB11 : Hid (Below w.heap.size w w11) := HB8.out.trans (hb11.mono HB8.out.size)
          clear hb11 hN5 ha5 lR lK lI J X2 hPf2 hr hus2
          go_wp2_with fail
          refine kb3.mono ?_
          clear kb3
          rintro ev w12 ⟨b5, rfl, _, hR5, hb12⟩
          have HO12 := toHid (HO11.out.below hb12)
          have HB12 : Hid (Below w.heap.size w w12) := HB11.out.trans (hb12.mono HB11.out.size)
          have HR12 := toHid hR5
          have kg := graphOf_any bf 0 n us HJC.out.1 HJC.out.2 HL.out.1 HL.out.2.1 HL.out.2.2.1 w12 HO12.out
          rw [HTX.out.1] at kg
          clear hR5 hb12
          go_wp2_with fail
          refine kg.mono ?_
          clear kg
          rintro ev w13 ⟨rfl, hb13⟩
          have kg2 := graphOf_any b5 0 r us2 HT5.out.2.2.1 HT5.out.2.2.2 HL5.out.1 HL5.out.2.1 HL5.out.2.2 w13 (HR12.out.below hb13)
          rw [HT5.out.1] at kg2
          have HO13 := toHid (HO12.out.below hb13)
          have HR13 := toHid (HR12.out.below hb13)
          have HB13 : Hid (Below w.heap.size w w13) := HB12.out.trans (hb13.mono HB12.out.size)
          clear hb13
          go_wp2_with fail
          refine kg2.mono ?_
          clear kg2
          rintro ev w14 ⟨rfl, hb14⟩
          obtain ⟨_, _, _, _, _, _, M1, _⟩ := HO13.out.below hb14
          obtain ⟨_, _, _, _, _, _, M2, _⟩ := HR13.out.below hb14
          have c1 : w14.cell? ⟨bf, 6, none⟩ = some (.int .i64 (m.live vs : Int)) := by have := M1.c6; rw [HTX.out.2, Nat.zero_add] at this; exact this
          have c2 : w14.cell? ⟨b5, 6, none⟩ = some (.int .i64 (m.live vs : Int)) := by have := M2.c6; rw [HT5.out.2.1, Nat.zero_add] at this; exact this
          have HB14 : Hid (Below w.heap.size w w14) := HB13.out.trans (hb14.mono HB13.out.size)
          clear M1 M2 hb14
          go_wp2_with fail
          go_quiet (fail)
          go_wp2_with fail
          go_ret
          exact ⟨by simp, below_drewN HB14.out⟩
theorem majorTwice_any (a : Nat → Addr) (p o : Nat) (m : MD) (tn : Int) (htn : -9223372036854775808 ≤ tn ∧ tn < 9223372036854775808) (w : World) (E : MErr a w) (h : RepM p o m w) (h64 : MD64 m) : Calls Tryz.prog 6 #[.pointer (some ⟨p, o, none⟩), .int .i64 tn] w fun ev w' => ev = .returned (.bool true) ∧ Below w.heap.size w w' := by
  by_cases hn : m.W.length ≤ 1000 ∧ m.R.length ≤ 100 ∧ m.K.length ≤ 100 ∧ m.I.length ≤ 100 ∧ m.C.length ≤ 1000
  · exact majorTwice_near a p o m tn htn w E h h64 hn.1 hn.2.1 hn.2.2.1 hn.2.2.2.1 hn.2.2.2.2
  · exact majorTwice_far a p o m tn w E h hn
end Go.Proofs.YtnenggkgfhgcnaaGreatDoor
