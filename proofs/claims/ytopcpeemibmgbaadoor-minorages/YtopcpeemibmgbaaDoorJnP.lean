/- The law MinorAges: how many words young objects have, plainly. -/
import Derived.Test.YtopcpeemibmgbaaDoorJnF
namespace Go.Proofs.YtopcpeemibmgbaaDoor
open Go.RowKit Go.Maps

/-- How many words those of these objects have that lie in the nursery. -/
def ywP (F : Nat → Int) (h : Int) (l : List Nat) : Nat := (l.map fun t : Nat => if (t : Int) < 2 * h then 1 + szN (F t) else 0).sum
theorem ywP_snoc (F : Nat → Int) (h : Int) (l : List Nat) (t : Nat) : ywP F h (l ++ [t]) = ywP F h l + (if (t : Int) < 2 * h then 1 + szN (F t) else 0) := by
  unfold ywP
  rw [List.map_append, List.sum_append_nat]
  simp
theorem ywP_young {F : Nat → Int} {h : Int} : ∀ {l : List Nat}, (∀ t ∈ l, (t : Int) < 2 * h) → ywP F h l = wordsP F l
  | [], _ => rfl
  | t :: l, hl => by
    have ih := ywP_young (F := F) (fun x hx => hl x (by simp [hx]) : ∀ x ∈ l, (x : Int) < 2 * h)
    unfold ywP wordsP at ih ⊢
    rw [List.map_cons, List.map_cons, List.sum_cons, List.sum_cons, ih, if_pos (hl t (by simp))]
theorem ywP_old {F : Nat → Int} {h : Int} : ∀ {l : List Nat}, (∀ t ∈ l, 2 * h ≤ (t : Int)) → ywP F h l = 0
  | [], _ => rfl
  | t :: l, hl => by
    have ih := ywP_old (F := F) (fun x hx => hl x (by simp [hx]) : ∀ x ∈ l, 2 * h ≤ (x : Int))
    have := hl t (by simp)
    unfold ywP at ih ⊢
    rw [List.map_cons, List.sum_cons, ih, if_neg (by omega)]
theorem ywP_all {n : MD} {us : List Nat} (S : n.Shape us) : (ywP n.F n.half us : Int) = n.top := by
  obtain ⟨l1, l2, hus, g1, g2⟩ := S.bare
  have P := MD.parts S.1
  have p0 := P.n0
  have p1 := P.n1
  have t0 := S.1.t0
  have ht := (tiled_of_walk g1 (by omega) (Nat.le_refl _)).sum
  have e1 : (l1.map fun f => (f, f)).map Prod.fst = l1 := by rw [List.map_map]; exact List.map_id' _
  rw [e1] at ht
  have e2 : ywP n.F n.half us = ywP n.F n.half l1 + ywP n.F n.half l2 := by
    rw [hus]; unfold ywP; rw [List.map_append, List.sum_append_nat]
  rw [e2, ywP_young (fun t ht => young_lt S g1 ht), ywP_old (fun t ht => old_ge S g2 ht)]
  omega
theorem ywP_take {F : Nat → Int} {h : Int} {l : List Nat} {i t : Nat} (ht : l[i]? = some t) : ywP F h (l.take (i + 1)) = ywP F h (l.take i) + (if (t : Int) < 2 * h then 1 + szN (F t) else 0) := by
  rw [List.take_add_one, ht]
  exact ywP_snoc F h _ t
theorem ywP_le {F : Nat → Int} {h : Int} (hs : ∀ t, szN (F t) ≤ 4096 ∨ True) : ∀ (l : List Nat), (∀ t ∈ l, szN (F t) ≤ 4096) → ywP F h l ≤ 4097 * l.length
  | [], _ => Nat.zero_le _
  | t :: l, hl => by
    have ih := ywP_le hs l (fun x hx => hl x (by simp [hx])) (h := h)
    have := hl t (by simp)
    unfold ywP at ih ⊢
    rw [List.map_cons, List.sum_cons, List.length_cons]
    split <;> omega
/-- What is told of an object, ahead of a collection and behind it. -/
structure AgeFact (e : CE) (m n : MD) (f t : Nat) : Prop where
  kind : n.F t / 4 % 256 = m.F f / 4 % 256
  size : n.F t / 65536 = m.F f / 65536
  way : (2 * m.half ≤ (f : Int) ∧ t = f) ∨ (¬ 2 * m.half ≤ (f : Int) ∧ ¬ 2 * m.half ≤ (t : Int) ∧ m.F f / 1024 % 16 < e.tn ∧ n.F t / 1024 % 16 = m.F f / 1024 % 16 + 1) ∨ (¬ 2 * m.half ≤ (f : Int) ∧ 2 * m.half ≤ (t : Int) ∧ e.tn ≤ m.F f / 1024 % 16)
theorem Coll.age {e : CE} {m n : MD} {l1 l2 us : List Nat} {S : Nat → Prop} {ψ : Nat → Nat} (h : Coll e m n l1 l2 us S ψ) (Sm : m.Shape (l1 ++ l2)) (h64 : MD64 m) (w1 : walkP m.F (G0 m.F) (m.n1 - m.n0) m.n0 m.n1 = some l1) (w2 : walkP m.F (G0 m.F) (m.m1 - m.m0) m.m0 m.m1 = some l2) {f : Nat} (hf : S f) : AgeFact e m n f (ψ f) := by
  have hin := (h.in' f hf)
  have hsz := h.iso.size f hf
  have r1 : 0 ≤ m.F f := (md_range h64 f (by have := (Sm.fine f hin.1).2; omega)).1
  have r2 : 0 ≤ n.F (ψ f) := (md_range h.h64 (ψ f) (by have := (h.shape.fine _ hin.2).2; omega)).1
  refine ⟨h.iso.kind f hf, ?_, ?_⟩
  · unfold szN at hsz; omega
  · rcases List.mem_append.1 hin.1 with hl | hl
    · have hy := young_lt Sm w1 hl
      obtain ⟨y1, y2⟩ := h.young f hf hl
      by_cases ha : m.F f / 1024 % 16 < e.tn
      · have := y1.2 ha
        exact Or.inr (Or.inl ⟨by omega, by omega, ha, y2 ha⟩)
      · have : ¬ ((ψ f : Nat) : Int) < 2 * m.half := fun h5 => ha (y1.1 h5)
        exact Or.inr (Or.inr ⟨by omega, by omega, by omega⟩)
    · exact Or.inl ⟨old_ge Sm w2 hl, (h.old f hl).2⟩
end Go.Proofs.YtopcpeemibmgbaaDoor

/- The law MinorAges by a walk. -/
namespace Go.Proofs.YtopcpeemibmgbaaDoor
open Go.RowKit Go.Maps

set_option maxHeartbeats 4000000 in
set_option maxRecDepth 100000 in
theorem minorAges_nil (a : Nat → Addr) (tn : Int) (w : World) (E : MErr a w) : Calls Tryd.prog 3 #[.pointer none, .int .i64 tn] w fun ev w' => ev = .returned (.bool true) ∧ Below w.heap.size w w' := by
  have ks := still_any a w E
  go_enter Tryd.func3, Tryd.ntmps3
  go_wp2_with fail
  refine ks.mono ?_
  rintro ev w1 ⟨rfl, hb⟩
  go_wp2_with fail
  refine (mgNear_nil w1).mono ?_
  rintro ev w2 ⟨rfl, hq⟩
  rw [hq]
  clear hq w2
  go_wp2_with fail
  refine (checkOf_nil w1).mono ?_
  rintro ev w2 ⟨rfl, hb2⟩
  go_wp2_with fail
  go_ret
  exact ⟨rfl, hb.trans (hb2.mono hb.size)⟩
set_option maxHeartbeats 4000000 in
set_option maxRecDepth 100000 in
theorem minorAges_far (a : Nat → Addr) (p o : Nat) (m : MD) (tn : Int) (w : World) (E : MErr a w) (h : RepM p o m w) (hn : ¬ (m.W.length ≤ 1000 ∧ m.R.length ≤ 100 ∧ m.K.length ≤ 100 ∧ m.I.length ≤ 100 ∧ m.C.length ≤ 1000)) : Calls Tryd.prog 3 #[.pointer (some ⟨p, o, none⟩), .int .i64 tn] w fun ev w' => ev = .returned (.bool true) ∧ Below w.heap.size w w' := by
  have ks := still_any a w E
  go_enter Tryd.func3, Tryd.ntmps3
  go_wp2_with fail
  refine ks.mono ?_
  rintro ev w1 ⟨rfl, hb⟩
  go_wp2_with fail
  refine (near_no p o m w1 (h.below hb) hn).mono ?_
  rintro ev w2 ⟨rfl, hq⟩
  rw [hq]
  clear hq w2
  go_wp2_with fail
  go_ret
  exact ⟨rfl, hb⟩
set_option maxHeartbeats 8000000 in
set_option maxRecDepth 100000 in
theorem minorAges_out (a : Nat → Addr) (p o : Nat) (m : MD) (tn : Int) (ht : ¬ (0 ≤ tn ∧ tn ≤ 15)) (w : World) (E : MErr a w) (h : RepM p o m w) (h64 : MD64 m) (n1 : m.W.length ≤ 1000) (n2 : m.R.length ≤ 100) (n3 : m.K.length ≤ 100) (n4 : m.I.length ≤ 100) (n5 : m.C.length ≤ 1000) : Calls Tryd.prog 3 #[.pointer (some ⟨p, o, none⟩), .int .i64 tn] w fun ev w' => ev = .returned (.bool true) ∧ Below w.heap.size w w' := by
  have HR := toHid h
  have H64 := toHid h64
  have ks := still_any a w E
  have hcase : tn < 0 ∨ (¬ tn < 0 ∧ 15 < tn) := by omega
  clear ht E h h64
  go_enter Tryd.func3, Tryd.ntmps3
  go_wp2_with fail
  refine ks.mono ?_
  clear ks
  rintro ev w1 ⟨rfl, hb1⟩
  go_wp2_with fail
  refine (near_yes p o m w1 (HR.out.below hb1) n1 n2 n3 n4 n5).mono ?_
  rintro ev w2 ⟨rfl, hq⟩
  rw [hq]
  clear hq w2
  go_wp2_with fail
  refine (checkOf_any p o m H64.out (by omega) (by omega) (by omega) w1 (HR.out.below hb1)).mono ?_
  rintro ev w2 ⟨hb2, ⟨vs, hS, hC, rfl⟩ | ⟨vs, _, _, rfl⟩ | ⟨_, rfl⟩⟩
  all_goals (
    have HB2 : Hid (Below w.heap.size w w2) := hb1.trans (hb2.mono hb1.size)
    clear hb1 hb2
    rcases hcase with t1 | ⟨t1, t2⟩
    · go_wp2_with fail
      go_ret
      exact ⟨rfl, HB2.out⟩
    · go_wp2_with fail
      go_ret
      exact ⟨rfl, HB2.out⟩)
set_option maxHeartbeats 8000000 in
set_option maxRecDepth 100000 in
theorem minorAges_in (a : Nat → Addr) (p o : Nat) (m : MD) (tn : Int) (ht : 0 ≤ tn ∧ tn ≤ 15) (w : World) (E : MErr a w) (h : RepM p o m w) (h64 : MD64 m) (n1 : m.W.length ≤ 1000) (n2 : m.R.length ≤ 100) (n3 : m.K.length ≤ 100) (n4 : m.I.length ≤ 100) (n5 : m.C.length ≤ 1000) : Calls Tryd.prog 3 #[.pointer (some ⟨p, o, none⟩), .int .i64 tn] w fun ev w' => ev = .returned (.bool true) ∧ Below w.heap.size w w' := by
  have HE := toHid E
  have HR := toHid h
  have H64 := toHid h64
  have ks := still_any a w E
  have HTT := toHid ht
  have t1 : ¬ tn < 0 := by omega
  have t2 : ¬ 15 < tn := by omega
  clear E h h64
  go_enter Tryd.func3, Tryd.ntmps3
  go_wp2_with fail
  refine ks.mono ?_
  clear ks
  rintro ev w1 ⟨rfl, hb1⟩
  go_wp2_with fail
  refine (near_yes p o m w1 (HR.out.below hb1) n1 n2 n3 n4 n5).mono ?_
  rintro ev w2 ⟨rfl, hq⟩
  rw [hq]
  clear hq w2
  go_wp2_with fail
  refine (checkOf_any p o m H64.out (by omega) (by omega) (by omega) w1 (HR.out.below hb1)).mono ?_
  rintro ev w2 ⟨hb2, ⟨vs, hS, hC, rfl⟩ | ⟨vs, _, _, rfl⟩ | ⟨_, rfl⟩⟩
  rotate_left
  · have HB2 : Hid (Below w.heap.size w w2) := hb1.trans (hb2.mono hb1.size)
    clear hb1 hb2
    go_wp2_with fail
    go_ret
    exact ⟨rfl, HB2.out⟩
  · have HB2 : Hid (Below w.heap.size w w2) := hb1.trans (hb2.mono hb1.size)
    clear hb1 hb2
    go_wp2_with fail
    go_ret
    exact ⟨rfl, HB2.out⟩
  · have hb02 := hb1.trans (hb2.mono hb1.size)
    have HS := toHid hS
    have HC := toHid hC
    have HB02 := toHid hb02
    clear hb1 hb2 hS hC
    go_wp2_with fail
    refine (memOf_own p o m w2 (HR.out.below hb02) (by omega) (by omega) (by omega) (by omega) (by omega)).mono ?_
    rintro ev w3 ⟨bx, rfl, O3, hb3⟩
    obtain ⟨l1, l2, hv, g1, g2⟩ := HS.out.bare
    obtain ⟨bW, bC, cW, cC, vR, vK, vI, hCA, x0, x1, x2⟩ := colAt_of O3 (shape_pos HS.out).1 (shape_pos HS.out).2.1
    have kc := ncollect_any a bx bW bC cW cC m vR vK vI l1 l2 tn w3 hCA (by rw [← hv]; exact HS.out) HC.out H64.out g1 g2 (by omega) (by omega) (by omega) (by omega) (fun w' h => (HE.out.below HB02.out).below (hb3.trans (h.below hb3.size (fun q hq hx => by
      rcases hx with h | h | h <;> omega))))
    have HHV := toHid hv
    have HG1 := toHid g1
    have HG2 := toHid g2
    have HB3 : Hid (Below w2.heap.size w2 w3) := hb3
    have HX : Hid (w2.heap.size ≤ bx ∧ w2.heap.size ≤ bW ∧ w2.heap.size ≤ bC) := ⟨x0, x1, x2⟩
    clear O3 hCA hv g1 g2 hb3 x0 x1 x2 hb02
    go_wp2_with fail
    refine kc.mono ?_
    clear kc
    rintro ev w4 (⟨h, _⟩ | ⟨_, _, rfl, hb4⟩ | ⟨_, _, rfl, e, n, us, S, ψ, vR', vK', vI', htn, hN, hCo, _, ha⟩)
    · exact absurd HTT.out h
    · have HBE : Hid (Below w.heap.size w w4) := HB02.out.trans ((HB3.out.trans (hb4.mono HB3.out.size)).mono HB02.out.size)
      clear hb4
      unfold errV
      go_wp2_with fail
      go_ret
      exact ⟨rfl, HBE.out⟩
    · have hb4 : Below w2.heap.size w2 w4 := HB3.out.trans (ha.below HB3.out.size (fun q hq hx => by
        obtain ⟨x0, x1, x2⟩ := HX.out
        rcases hx with h | h | h <;> omega))
      have HB4 : Hid (Below w.heap.size w w4) := HB02.out.trans (hb4.mono HB02.out.size)
      have lR : n.R.length ≤ 300000 := by rw [hCo.roots, List.length_map]; omega
      have lK : n.K.length ≤ 300000 := by rw [hCo.klen]; omega
      have lI : n.I.length ≤ 300000 := by have := hCo.ilen; omega
      have kb := memBack_any bx n w4 hN.repP.rep (shape_pos hCo.shape).2.2 lR lK lI (shape_c hCo.shape)
      have HCo := toHid hCo
      have HTN := toHid htn
      have HLR := toHid lR
      have Sm : m.Shape (l1 ++ l2) := by rw [← HHV.out]; exact HS.out
      obtain ⟨hrs, hin⟩ := reach_same Sm H64.out hCo.shape hCo.h64 hCo.iso hCo.roots hCo.rin
      have HRS : Hid (n.reach us = (m.reach vs).map ψ) := by show _ = _; rw [hrs, ← HHV.out]
      have HIN : Hid (∀ g ∈ m.reach vs, S g) := by rw [HHV.out]; exact hin
      clear hb4 hN hCo htn ha lR lK lI hrs hin Sm
      go_wp2_with fail
      refine kb.mono ?_
      clear kb
      rintro ev w5 ⟨bn, rfl, _, hRn, hb5⟩
      have HB5 : Hid (Below w.heap.size w w5) := HB4.out.trans (hb5.mono HB4.out.size)
      have HRn := toHid hRn
      clear hRn hb5
      have k1 := reached_any p o m vs HS.out H64.out (by omega) w5 (HR.out.below HB5.out)
      obtain ⟨rm, hrm⟩ : ∃ rm, rm = m.reach vs := ⟨_, rfl⟩
      rw [← hrm] at k1 HRS HIN
      have hrl : rm.length ≤ 300000 := by
        rw [hrm]
        have := (reach_outs HS.out H64.out).len
        have := HS.out.few
        omega
      clear hrm
      go_wp2_with fail
      refine k1.mono ?_
      clear k1
      rintro ev w6 ⟨aw, cw, rfl, hRw, hb6⟩
      have k2 := reached_any bn 0 n us HCo.out.shape HCo.out.h64 HLR.out w6 (HRn.out.below hb6)
      rw [HRS.out, List.length_map] at k2
      have HRw := toHid hRw
      have HB6 : Hid (Below w.heap.size w w6) := HB5.out.trans (hb6.mono HB5.out.size)
      have HB56 := toHid hb6
      clear hRw hb6
      go_wp2_with fail
      refine k2.mono ?_
      clear k2
      rintro ev w7 ⟨an, cn, rfl, hRo, hb7⟩
      have HRo := toHid hRo
      have HRw7 : Hid (RowV w7 (.slice aw rm.length cw) rm.length (objsV m.F rm)) := RowV.below HRw.out hb7
      have HB7 : Hid (Below w.heap.size w w7) := HB6.out.trans (hb7.mono HB6.out.size)
      have HRn7 : Hid (RepM bn 0 n w7) := (HRn.out.below HB56.out).below hb7
      have hnum := HS.out.1.nums
      unfold numsOK at hnum
      have hh1 : 1 ≤ m.half ∧ m.half ≤ 65536 := by omega
      have HHf := toHid hh1
      have HFA : Hid (∀ f ∈ rm, AgeFact e m n f (ψ f) ∧ 0 ≤ m.F f) := fun f hf => by
        have hS' := HIN.out f hf
        refine ⟨HCo.out.age (by rw [← HHV.out]; exact HS.out) H64.out HG1.out HG2.out hS', ?_⟩
        have hin := (HCo.out.in' f hS').1
        rw [← HHV.out] at hin
        exact (md_range H64.out f (by have := (HS.out.fine f hin).2; omega)).1
      clear hRo hb7 hnum hh1
      go_wp2_with fail
      go_loopg [10] (rm.length + 1) (fun gk v10 wr => ∃ i : Nat, gk = rm.length + 1 - i ∧ i ≤ rm.length ∧ v10 = .int .i64 (i : Int) ∧ Hid (Below w7.heap.size w7 wr))
      case atStart => exact ⟨0, rfl, Nat.zero_le _, rfl, Below.refl _ _⟩
      case round =>
        obtain ⟨i, hgk, hi', rfl, hB⟩ := hrel
        have HGK := toHid hgk
        clear hgk
        have hi0 : (0 : Int) ≤ (i : Int) := by omega
        by_cases hlt : i < rm.length
        · have hI : (i : Int) < (rm.length : Int) := by omega
          obtain ⟨f, hf⟩ : ∃ f, rm[i]? = some f := ⟨_, List.getElem?_eq_getElem hlt⟩
          have hfm := List.mem_of_getElem? hf
          obtain ⟨AF, r0⟩ := HFA.out f hfm
          have hf2 : (rm.map ψ)[i]? = some (ψ f) := by rw [List.getElem?_map, hf]; rfl
          obtain ⟨_, _, e7, _, f7⟩ := HRw7.out
          cases e7
          obtain ⟨gA, oA, rfl, lA, cA⟩ := f7 (by omega)
          obtain ⟨_, _, e8, _, f8⟩ := HRo.out
          cases e8
          obtain ⟨gB, oB, rfl, lB, cB⟩ := f8 (by omega)
          obtain ⟨kd, hkd⟩ : ∃ kd, kd = m.F f / 4 % 256 := ⟨_, rfl⟩
          obtain ⟨sz, hsz⟩ : ∃ sz, sz = m.F f / 65536 := ⟨_, rfl⟩
          obtain ⟨ag, hag⟩ : ∃ ag, ag = m.F f / 1024 % 16 := ⟨_, rfl⟩
          obtain ⟨ag2, hag2⟩ : ∃ ag2, ag2 = n.F (ψ f) / 1024 % 16 := ⟨_, rfl⟩
          obtain ⟨t, hpt⟩ : ∃ t, t = ψ f := ⟨_, rfl⟩
          have r_0 : wr.cell? ⟨gA, oA + i * 4, none⟩ = some (.int .i64 (f : Int)) := (hB.out.cell (p := ⟨gA, oA + i * 4, none⟩) lA).trans (cA (i * 4) _ (objs_at hf 0 (by omega)))
          have r_1 : wr.cell? ⟨gA, oA + i * 4 + 1, none⟩ = some (.int .i64 kd) := by rw [hkd]; exact (hB.out.cell (p := ⟨gA, oA + i * 4 + 1, none⟩) lA).trans (cA (i * 4 + 1) _ (objs_at hf 1 (by omega)))
          have r_2 : wr.cell? ⟨gA, oA + i * 4 + 2, none⟩ = some (.int .i64 ag) := by rw [hag]; exact (hB.out.cell (p := ⟨gA, oA + i * 4 + 2, none⟩) lA).trans (cA (i * 4 + 2) _ (objs_at hf 2 (by omega)))
          have r_3 : wr.cell? ⟨gA, oA + i * 4 + 3, none⟩ = some (.int .i64 sz) := by rw [hsz]; exact (hB.out.cell (p := ⟨gA, oA + i * 4 + 3, none⟩) lA).trans (cA (i * 4 + 3) _ (objs_at hf 3 (by omega)))
          have s_0 : wr.cell? ⟨gB, oB + i * 4, none⟩ = some (.int .i64 (t : Int)) := by rw [hpt]; exact (hB.out.cell (p := ⟨gB, oB + i * 4, none⟩) lB).trans (cB (i * 4) _ (objs_at hf2 0 (by omega)))
          have s_1 : wr.cell? ⟨gB, oB + i * 4 + 1, none⟩ = some (.int .i64 kd) := by rw [hkd, ← AF.kind]; exact (hB.out.cell (p := ⟨gB, oB + i * 4 + 1, none⟩) lB).trans (cB (i * 4 + 1) _ (objs_at hf2 1 (by omega)))
          have s_2 : wr.cell? ⟨gB, oB + i * 4 + 2, none⟩ = some (.int .i64 ag2) := by rw [hag2]; exact (hB.out.cell (p := ⟨gB, oB + i * 4 + 2, none⟩) lB).trans (cB (i * 4 + 2) _ (objs_at hf2 2 (by omega)))
          have s_3 : wr.cell? ⟨gB, oB + i * 4 + 3, none⟩ = some (.int .i64 sz) := by rw [hsz, ← AF.size]; exact (hB.out.cell (p := ⟨gB, oB + i * 4 + 3, none⟩) lB).trans (cB (i * 4 + 3) _ (objs_at hf2 3 (by omega)))
          have way := AF.way
          rw [← hpt] at way hag2
          rw [← hag, ← hag2, HTN.out] at way
          have hag15 : 0 ≤ ag ∧ ag ≤ 15 := by rw [hag]; omega
          obtain ⟨_, _, _, _, _, _, Mm, _⟩ := (HR.out.below HB7.out).below hB.out
          have cH : wr.cell? ⟨p, o, none⟩ = some (.int .i64 m.half) := Mm.c0
          have lg : gA < wr.heap.size ∧ gB < wr.heap.size := ⟨Nat.lt_of_lt_of_le lA hB.out.size, Nat.lt_of_lt_of_le lB hB.out.size⟩
          have hg1 : gA ≠ wr.heap.size := by omega
          have hg2 : gB ≠ wr.heap.size := by omega
          have hh1 := HHf.out
          have e2 : IntKind.i64.wrap (2 * m.half) = 2 * m.half := wrapI _ (by omega) (by omega)
          have HWAY := toHid way
          have HAG := toHid hag15
          have HCH := toHid cH
          clear AF f7 f8 cA cB hkd hsz hag hag2 hpt hf hf2 hfm Mm way r0 hh1 cH
          go_upto_region 17 with fail
          obtain ⟨w9, hw9⟩ : ∃ w9, w9 = (wr.alloc (.cells #[.int .i64 (f : Int), .int .i64 kd, .int .i64 ag, .int .i64 sz] 35)).alloc (.cells #[.int .i64 (t : Int), .int .i64 kd, .int .i64 ag2, .int .i64 sz] 35) := ⟨_, rfl⟩
          obtain ⟨qa, hqa⟩ : ∃ qa, qa = wr.heap.size := ⟨_, rfl⟩
          obtain ⟨qb, hqb⟩ : ∃ qb, qb = wr.heap.size + 1 := ⟨_, rfl⟩
          have b9 : Below wr.heap.size wr w9 := by rw [hw9]; exact ((Below.refl _ _).alloc (Nat.le_refl _) _).alloc (by simp) _
          have ob : w9.heap[qb]? = some (.cells #[.int .i64 (t : Int), .int .i64 kd, .int .i64 ag2, .int .i64 sz] 35) := by
            have := heap_alloc_new (wr.alloc (.cells #[.int .i64 (f : Int), .int .i64 kd, .int .i64 ag, .int .i64 sz] 35)) (.cells #[.int .i64 (t : Int), .int .i64 kd, .int .i64 ag2, .int .i64 sz] 35)
            rw [hw9, hqb]; simpa using this
          have oa : w9.heap[qa]? = some (.cells #[.int .i64 (f : Int), .int .i64 kd, .int .i64 ag, .int .i64 sz] 35) := by rw [hw9, hqa, heap_alloc_old _ _ _ (by simp)]; exact heap_alloc_new _ _
          rw [← hw9, ← hqb, ← hqa]
          have a0 : w9.cell? ⟨qa, 0, none⟩ = some (.int .i64 (f : Int)) := by rw [cell_of_row _ _ _ _ _ _ oa]; rfl
          have a1 : w9.cell? ⟨qa, 1, none⟩ = some (.int .i64 kd) := by rw [cell_of_row _ _ _ _ _ _ oa]; rfl
          have a2 : w9.cell? ⟨qa, 2, none⟩ = some (.int .i64 ag) := by rw [cell_of_row _ _ _ _ _ _ oa]; rfl
          have a3 : w9.cell? ⟨qa, 3, none⟩ = some (.int .i64 sz) := by rw [cell_of_row _ _ _ _ _ _ oa]; rfl
          have b0 : w9.cell? ⟨qb, 0, none⟩ = some (.int .i64 (t : Int)) := by rw [cell_of_row _ _ _ _ _ _ ob]; rfl
          have b1 : w9.cell? ⟨qb, 1, none⟩ = some (.int .i64 kd) := by rw [cell_of_row _ _ _ _ _ _ ob]; rfl
          have b2 : w9.cell? ⟨qb, 2, none⟩ = some (.int .i64 ag2) := by rw [cell_of_row _ _ _ _ _ _ ob]; rfl
          have b3 : w9.cell? ⟨qb, 3, none⟩ = some (.int .i64 sz) := by rw [cell_of_row _ _ _ _ _ _ ob]; rfl
          have cH : w9.cell? ⟨p, o, none⟩ = some (.int .i64 m.half) := (b9.cell (p := ⟨p, o, none⟩) (lt_of_cell HCH.out)).trans HCH.out
          have HB9 : Hid (Below w7.heap.size w7 w9) := hB.out.trans (b9.mono hB.out.size)
          have HDR : Hid (∀ q, w9.cell? ⟨qa, 0, none⟩ = (w9.drewN q).cell? ⟨qa, 0, none⟩ ∧ w9.cell? ⟨qa, 2, none⟩ = (w9.drewN q).cell? ⟨qa, 2, none⟩ ∧ w9.cell? ⟨qb, 0, none⟩ = (w9.drewN q).cell? ⟨qb, 0, none⟩ ∧ w9.cell? ⟨qb, 2, none⟩ = (w9.drewN q).cell? ⟨qb, 2, none⟩ ∧ w9.cell? ⟨p, o, none⟩ = (w9.drewN q).cell? ⟨p, o, none⟩) := fun q => ⟨rfl, rfl, rfl, rfl, rfl⟩
          clear hw9 hqa hqb b9 oa ob r_0 r_1 r_2 r_3 s_0 s_1 s_2 s_3 hg1 hg2 lg HCH
          rcases HWAY.out with ⟨y1, y2⟩ | ⟨y1, y2, y3, y4⟩ | ⟨y1, y2, y3⟩
          · obtain rfl : t = f := y2
            go_wp2_with fail
            go_quiet (fail)
            obtain ⟨wq, hwq⟩ : ∃ wq, wq = w9.drewN nq := ⟨_, rfl⟩
            obtain ⟨z1, z2, z3, z4, z5⟩ := HDR.out nq
            rw [← hwq]
            rw [← hwq] at z1 z2 z3 z4 z5
            have HBq : Hid (Below w7.heap.size w7 wq) := by rw [hwq]; exact below_drewN HB9.out
            rw [z1] at a0
            rw [z3] at b0
            clear z1 z2 z3 z4 z5 hwq a1 a2 a3 b1 b2 b3 cH HDR
            go_wp2_with fail
            go_roundg (rm.length + 1 - (i + 1))
            case measure => have := HGK.out; omega
            case rel => exact ⟨i + 1, rfl, by omega, by go_num, HBq⟩
          · have hag := HAG.out
            obtain rfl : ag2 = ag + 1 := y4
            have g1 : IntKind.i64.wrap (ag + 1) = ag + 1 := wrapI _ (by omega) (by omega)
            have g2 : ¬ 15 < ag + 1 := by omega
            have g3 : ¬ tn ≤ ag := by omega
            have yd1 : decide (2 * m.half ≤ (f : Int)) = false := decide_eq_false y1
            have yd2 : decide (2 * m.half ≤ (t : Int)) = false := decide_eq_false y2
            have yd3 : decide (tn ≤ ag) = false := decide_eq_false g3
            clear y3 hag
            go_wp2_with fail
            go_quiet (fail)
            obtain ⟨wq, hwq⟩ : ∃ wq, wq = w9.drewN nq := ⟨_, rfl⟩
            obtain ⟨z1, z2, z3, z4, z5⟩ := HDR.out nq
            rw [← hwq]
            rw [← hwq] at z1 z2 z3 z4 z5
            have HBq : Hid (Below w7.heap.size w7 wq) := by rw [hwq]; exact below_drewN HB9.out
            rw [z1] at a0
            rw [z2] at a2
            rw [z3] at b0
            rw [z4] at b2
            rw [z5] at cH
            have HDR2 : Hid (∀ q, wq.cell? ⟨qa, 2, none⟩ = (wq.drewN q).cell? ⟨qa, 2, none⟩ ∧ wq.cell? ⟨qb, 2, none⟩ = (wq.drewN q).cell? ⟨qb, 2, none⟩) := fun q => ⟨rfl, rfl⟩
            clear z1 z2 z3 z4 z5 hwq a1 a3 b1 b3 HDR
            go_wp2_with fail
            go_quiet (fail)
            obtain ⟨wp, hwp⟩ : ∃ wp, wp = wq.drewN nq := ⟨_, rfl⟩
            obtain ⟨z1, z2⟩ := HDR2.out nq
            rw [← hwp]
            rw [← hwp] at z1 z2
            have HBp : Hid (Below w7.heap.size w7 wp) := by rw [hwp]; exact below_drewN HBq.out
            rw [z1] at a2
            rw [z2] at b2
            clear z1 z2 hwp a0 b0 cH HDR2
            go_wp2_with fail
            go_roundg (rm.length + 1 - (i + 1))
            case measure => have := HGK.out; omega
            case rel => exact ⟨i + 1, rfl, by omega, by go_num, HBp⟩
          · have hag := HAG.out
            have g1 : IntKind.i64.wrap (ag + 1) = ag + 1 := wrapI _ (by omega) (by omega)
            have yd1 : decide (2 * m.half ≤ (f : Int)) = false := decide_eq_false y1
            have yd2 : decide (2 * m.half ≤ (t : Int)) = true := decide_eq_true y2
            have yd3 : decide (tn ≤ ag) = true := decide_eq_true y3
            by_cases h15 : 15 < ag + 1
            · clear hag
              go_wp2_with fail
              go_quiet (fail)
              obtain ⟨wq, hwq⟩ : ∃ wq, wq = w9.drewN nq := ⟨_, rfl⟩
              obtain ⟨z1, z2, z3, z4, z5⟩ := HDR.out nq
              rw [← hwq]
              rw [← hwq] at z1 z2 z3 z4 z5
              have HBq : Hid (Below w7.heap.size w7 wq) := by rw [hwq]; exact below_drewN HB9.out
              rw [z1] at a0
              rw [z2] at a2
              rw [z3] at b0
              rw [z4] at b2
              rw [z5] at cH
              have HDR2 : Hid (∀ q, wq.cell? ⟨qa, 2, none⟩ = (wq.drewN q).cell? ⟨qa, 2, none⟩ ∧ wq.cell? ⟨qb, 2, none⟩ = (wq.drewN q).cell? ⟨qb, 2, none⟩) := fun q => ⟨rfl, rfl⟩
              clear z1 z2 z3 z4 z5 hwq a1 a3 b1 b3 HDR
              go_wp2_with fail
              go_quiet (fail)
              obtain ⟨wp, hwp⟩ : ∃ wp, wp = wq.drewN nq := ⟨_, rfl⟩
              obtain ⟨z1, z2⟩ := HDR2.out nq
              rw [← hwp]
              rw [← hwp] at z1 z2
              have HBp : Hid (Below w7.heap.size w7 wp) := by rw [hwp]; exact below_drewN HBq.out
              rw [z1] at a2
              rw [z2] at b2
              clear z1 z2 hwp a0 b0 cH HDR2
              go_wp2_with fail
              go_roundg (rm.length + 1 - (i + 1))
              case measure => have := HGK.out; omega
              case rel => exact ⟨i + 1, rfl, by omega, by go_num, HBp⟩
            · clear hag
              go_wp2_with fail
              go_quiet (fail)
              obtain ⟨wq, hwq⟩ : ∃ wq, wq = w9.drewN nq := ⟨_, rfl⟩
              obtain ⟨z1, z2, z3, z4, z5⟩ := HDR.out nq
              rw [← hwq]
              rw [← hwq] at z1 z2 z3 z4 z5
              have HBq : Hid (Below w7.heap.size w7 wq) := by rw [hwq]; exact below_drewN HB9.out
              rw [z1] at a0
              rw [z2] at a2
              rw [z3] at b0
              rw [z4] at b2
              rw [z5] at cH
              have HDR2 : Hid (∀ q, wq.cell? ⟨qa, 2, none⟩ = (wq.drewN q).cell? ⟨qa, 2, none⟩ ∧ wq.cell? ⟨qb, 2, none⟩ = (wq.drewN q).cell? ⟨qb, 2, none⟩) := fun q => ⟨rfl, rfl⟩
              clear z1 z2 z3 z4 z5 hwq a1 a3 b1 b3 HDR
              go_wp2_with fail
              go_quiet (fail)
              obtain ⟨wp, hwp⟩ : ∃ wp, wp = wq.drewN nq := ⟨_, rfl⟩
              obtain ⟨z1, z2⟩ := HDR2.out nq
              rw [← hwp]
              rw [← hwp] at z1 z2
              have HBp : Hid (Below w7.heap.size w7 wp) := by rw [hwp]; exact below_drewN HBq.out
              rw [z1] at a2
              rw [z2] at b2
              clear z1 z2 hwp a0 b0 cH HDR2
              go_wp2_with fail
              go_roundg (rm.length + 1 - (i + 1))
              case measure => have := HGK.out; omega
              case rel => exact ⟨i + 1, rfl, by omega, by go_num, HBp⟩
        · have hI : ¬ (i : Int) < (rm.length : Int) := by omega
          obtain ⟨wo, hwo⟩ : ∃ wo, wo = wr := ⟨_, rfl⟩
          subst hwo
          have kall := all_right bn 0 n us HCo.out.shape HCo.out.h64 wo (HRn7.out.below hB.out)
          have hful := HCo.out.shape.few
          have HBr : Hid (Below w.heap.size w wo) := HB7.out.trans (hB.out.mono HB7.out.size)
          obtain ⟨_, _, _, _, _, _, Mn, _⟩ := HRn7.out.below hB.out
          obtain ⟨_, _, _, _, _, _, Mm, _⟩ := (HR.out.below HB7.out).below hB.out
          have HMn : Hid (∀ W, Below wo.heap.size wo W → W.cell? ⟨bn, 0, none⟩ = some (.int .i64 n.half) ∧ W.cell? ⟨bn, 5, none⟩ = some (.int .i64 n.top) ∧ W.cell? ⟨p, o + 5, none⟩ = some (.int .i64 m.top)) := fun W hW => by
            have c0 : wo.cell? ⟨bn, 0, none⟩ = some (.int .i64 n.half) := Mn.c0
            have c5 : wo.cell? ⟨bn, 5, none⟩ = some (.int .i64 n.top) := by have := Mn.c5; rw [Nat.zero_add] at this; exact this
            have d5 : wo.cell? ⟨p, o + 5, none⟩ = some (.int .i64 m.top) := Mm.c5
            exact ⟨(hW.cell (p := ⟨bn, 0, none⟩) (lt_of_cell c0)).trans c0, (hW.cell (p := ⟨bn, 5, none⟩) (lt_of_cell c5)).trans c5, (hW.cell (p := ⟨p, o + 5, none⟩) (lt_of_cell d5)).trans d5⟩
          have hnh : 1 ≤ n.half ∧ n.half ≤ 65536 := by rw [HCo.out.half]; exact HHf.out
          have e2 : IntKind.i64.wrap (2 * n.half) = 2 * n.half := wrapI _ (by omega) (by omega)
          have HSZ : Hid (∀ t ∈ us, szN (n.F t) ≤ 4096 ∧ n.F t / 65536 = (szN (n.F t) : Int)) := fun t ht => by
            obtain ⟨h1, h2⟩ := HCo.out.shape.fine t ht
            have h3 := md_range HCo.out.h64 t (by omega)
            unfold headB at h1
            have h4 := (of_decide_eq_true h1).2.2
            unfold szN
            omega
          have HYA : Hid ((ywP n.F n.half us : Int) = n.top) := ywP_all HCo.out.shape
          have HYL : Hid (∀ i, ywP n.F n.half (us.take i) ≤ 4097 * 300000) := fun i => by
            have h1 := ywP_le (F := n.F) (h := n.half) (fun _ => Or.inr trivial) (us.take i) (fun t ht => (HSZ.out t (List.mem_of_mem_take ht)).1)
            have h2 : (us.take i).length ≤ us.length := by rw [List.length_take]; omega
            omega
          have HTL : Hid (n.top ≤ m.top) := HCo.out.top
          clear Mn Mm hnh HGK
          go_wp2_with fail
          refine kall.mono ?_
          clear kall
          rintro ev wz ⟨al, cl, rfl, hRl, hbz⟩
          have HRl := toHid hRl
          have HBz := toHid hbz
          clear hRl hbz
          go_wp2_with fail
          go_loopg [17, 18] (us.length + 1) (fun gk v17 v18 wy => ∃ i : Nat, gk = us.length + 1 - i ∧ i ≤ us.length ∧ v18 = .int .i64 (i : Int) ∧ (∃ y : Nat, v17 = .int .i64 (y : Int) ∧ Hid (y = ywP n.F n.half (us.take i))) ∧ Hid (Below wz.heap.size wz wy))
          case atStart => exact ⟨0, rfl, Nat.zero_le _, rfl, ⟨0, rfl, rfl⟩, Below.refl _ _⟩
          case round =>
            obtain ⟨j, hgk, hj', rfl, ⟨y, rfl, hy⟩, hBy⟩ := hrel
            have HGK := toHid hgk
            clear hgk hI hlt hi'
            have hj0 : (0 : Int) ≤ (j : Int) := by omega
            have hbr : Below wo.heap.size wo wr := HBz.out.trans (hBy.out.mono HBz.out.size)
            obtain ⟨c0, c5, d5⟩ := HMn.out _ hbr
            have HBF : Hid (Below w.heap.size w wr) := HBr.out.trans (hbr.mono HBr.out.size)
            have hyl : y ≤ 4097 * 300000 := by have := HYL.out j; have := hy.out; omega
            clear hbr
            by_cases hlt : j < us.length
            · have hI : (j : Int) < (us.length : Int) := by omega
              obtain ⟨f, hf⟩ : ∃ f, us[j]? = some f := ⟨_, List.getElem?_eq_getElem hlt⟩
              obtain ⟨hs1, hs2⟩ := HSZ.out f (List.mem_of_getElem? hf)
              obtain ⟨_, _, e7, _, f7⟩ := RowV.below HRl.out hBy.out
              cases e7
              obtain ⟨gA, oA, rfl, lA, cA⟩ := f7 (by omega)
              obtain ⟨sz, hsz⟩ : ∃ sz, sz = szN (n.F f) := ⟨_, rfl⟩
              rw [← hsz] at hs1 hs2
              have r_0 : wr.cell? ⟨gA, oA + j * 4, none⟩ = some (.int .i64 (f : Int)) := cA (j * 4) _ (objs_at hf 0 (by omega))
              have r_3 : wr.cell? ⟨gA, oA + j * 4 + 3, none⟩ = some (.int .i64 (sz : Int)) := by rw [← hs2]; exact cA (j * 4 + 3) _ (objs_at hf 3 (by omega))
              have hty := ywP_take (F := n.F) (h := n.half) hf
              rw [← hsz] at hty
              have HTY := toHid hty
              have HD3 : Hid (∀ q, wr.cell? ⟨gA, oA + j * 4 + 3, none⟩ = (wr.drewN q).cell? ⟨gA, oA + j * 4 + 3, none⟩) := fun q => rfl
              clear f7 cA lA hf hs2 hsz hty c5 d5
              by_cases hyo : (f : Int) < 2 * n.half
              · have hyd : decide ((f : Int) < 2 * n.half) = true := decide_eq_true hyo
                have HN : Hid (y + (1 + sz) = ywP n.F n.half (us.take (j + 1))) := by show _ = _; rw [HTY.out, if_pos hyo, ← hy.out]
                go_wp2_with fail
                go_quiet (fail)
                obtain ⟨wq, hwq⟩ : ∃ wq, wq = wr.drewN nq := ⟨_, rfl⟩
                have z3 := HD3.out nq
                rw [← hwq] at z3 ⊢
                have HBq : Hid (Below wz.heap.size wz wq) := by rw [hwq]; exact below_drewN hBy.out
                rw [z3] at r_3
                clear z3 hwq r_0 c0
                go_wp2_with fail
                go_roundg (us.length + 1 - (j + 1))
                case measure => have := HGK.out; omega
                case rel => exact ⟨j + 1, rfl, by omega, by go_num, ⟨y + (1 + sz), by go_num, HN⟩, HBq⟩
              · have hyd : decide ((f : Int) < 2 * n.half) = false := decide_eq_false hyo
                have HN : Hid (y = ywP n.F n.half (us.take (j + 1))) := by show _ = _; rw [HTY.out, if_neg hyo, ← hy.out]; rfl
                go_wp2_with fail
                go_quiet (fail)
                obtain ⟨wq, hwq⟩ : ∃ wq, wq = wr.drewN nq := ⟨_, rfl⟩
                rw [← hwq]
                have HBq : Hid (Below wz.heap.size wz wq) := by rw [hwq]; exact below_drewN hBy.out
                clear hwq r_0 r_3 c0
                go_wp2_with fail
                go_roundg (us.length + 1 - (j + 1))
                case measure => have := HGK.out; omega
                case rel => exact ⟨j + 1, rfl, by omega, by go_num, ⟨y, rfl, HN⟩, HBq⟩
            · have hI : ¬ (j : Int) < (us.length : Int) := by omega
              have hjl : j = us.length := by omega
              have hyt : n.top = (y : Int) := by rw [hy.out, hjl, List.take_length]; exact HYA.out.symm
              have hle : (y : Int) ≤ m.top := by rw [← hyt]; exact HTL.out
              rw [hyt] at c5
              clear hyt hjl
              go_wp2_with fail
              go_quiet (fail)
              go_wp2_with fail
              go_ret
              refine ⟨?_, below_drewN HBF.out⟩
              simp
theorem minorAges_any (a : Nat → Addr) (p o : Nat) (m : MD) (tn : Int) (_ : -9223372036854775808 ≤ tn ∧ tn < 9223372036854775808) (w : World) (E : MErr a w) (h : RepM p o m w) (h64 : MD64 m) : Calls Tryd.prog 3 #[.pointer (some ⟨p, o, none⟩), .int .i64 tn] w fun ev w' => ev = .returned (.bool true) ∧ Below w.heap.size w w' := by
  by_cases hn : m.W.length ≤ 1000 ∧ m.R.length ≤ 100 ∧ m.K.length ≤ 100 ∧ m.I.length ≤ 100 ∧ m.C.length ≤ 1000
  · by_cases ht : 0 ≤ tn ∧ tn ≤ 15
    · exact minorAges_in a p o m tn ht w E h h64 hn.1 hn.2.1 hn.2.2.1 hn.2.2.2.1 hn.2.2.2.2
    · exact minorAges_out a p o m tn ht w E h h64 hn.1 hn.2.1 hn.2.2.1 hn.2.2.2.1 hn.2.2.2.2
  · exact minorAges_far a p o m tn w E h hn
end Go.Proofs.YtopcpeemibmgbaaDoor
