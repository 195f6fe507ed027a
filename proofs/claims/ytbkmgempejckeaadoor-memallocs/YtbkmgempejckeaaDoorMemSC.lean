/- The law MemAllocs by a walk. -/
import Derived.Test.YtbkmgempejckeaaDoorMemSA
import Derived.Test.YtbkmgempejckeaaDoorMemSB
import Derived.Test.YtbkmgempejckeaaDoorMemV
namespace Go.Proofs.YtbkmgempejckeaaDoor
open Go.RowKit

/-- What CheckOf answers, by its number. -/
def CheckN (m : MD) (n : Int) : Prop := (∃ vs, m.Shape vs ∧ m.cardsB = true ∧ n = 0) ∨ (∃ vs, m.Shape vs ∧ m.cardsB = false ∧ n = 5) ∨ ((∀ vs, ¬ m.Shape vs) ∧ n = 3)
theorem CheckPost.num {m : MD} {w w' : World} {ev : Ending} (h : CheckPost m w ev w') : ∃ n : Int, ev = .returned (.int .i64 n) ∧ CheckN m n ∧ Below w.heap.size w w' := by
  obtain ⟨hb, ⟨vs, h1, h2, rfl⟩ | ⟨vs, h1, h2, rfl⟩ | ⟨h1, rfl⟩⟩ := h
  · exact ⟨0, rfl, .inl ⟨vs, h1, h2, rfl⟩, hb⟩
  · exact ⟨5, rfl, .inr (.inl ⟨vs, h1, h2, rfl⟩), hb⟩
  · exact ⟨3, rfl, .inr (.inr ⟨h1, rfl⟩), hb⟩
theorem alloc_cases {m : MD} {kd n : Int} {fs : List Int} {k : Nat} (hn : CheckN m n) (h : AllocErr m kd fs k) : (n = 3 ∧ k = 2) ∨ (n = 5 ∧ k = 4) ∨ (n = 0 ∧ ∃ vs, m.Shape vs ∧ ((¬ (0 ≤ kd ∧ kd ≤ 255) ∧ k = 1) ∨ (0 ≤ kd ∧ kd ≤ 255 ∧ 8 ≤ kd ∧ fs.all (fieldB m.W.length (fun i => decide (i ∈ vs))) = false ∧ k = 2) ∨ (0 ≤ kd ∧ kd ≤ 255 ∧ (kd < 8 ∨ fs.all (fieldB m.W.length (fun i => decide (i ∈ vs))) = true) ∧ m.half - m.top < 1 + (fs.length : Int) ∧ k = 5))) := by
  rcases hn with ⟨us, s1, c1, rfl⟩ | ⟨us, s1, c1, rfl⟩ | ⟨s1, rfl⟩
  · rcases h with ⟨h, _⟩ | ⟨vs, s2, ⟨c2, _⟩ | ⟨_, h⟩⟩
    · exact absurd s1 (h us)
    · rw [c1] at c2; cases c2
    · refine .inr (.inr ⟨rfl, vs, s2, ?_⟩)
      rcases h with ⟨h1, h2⟩ | ⟨h1, h2, ⟨h3, h4, h5⟩ | ⟨h3, h4, h5⟩⟩
      · exact .inl ⟨h1, h2⟩
      · exact .inr (.inl ⟨h1, h2, h3, h4, h5⟩)
      · exact .inr (.inr ⟨h1, h2, h3, h4, h5⟩)
  · rcases h with ⟨h, _⟩ | ⟨vs, s2, ⟨c2, rfl⟩ | ⟨c2, _⟩⟩
    · exact absurd s1 (h us)
    · exact .inr (.inl ⟨rfl, rfl⟩)
    · rw [c1] at c2; cases c2
  · rcases h with ⟨_, rfl⟩ | ⟨vs, s2, _⟩
    · exact .inl ⟨rfl, rfl⟩
    · exact absurd s2 (s1 vs)
theorem check_zero {m : MD} {n : Int} (hn : CheckN m n) {vs : List Nat} (h1 : m.Shape vs) (h2 : m.cardsB = true) : n = 0 := by
  rcases hn with ⟨us, s1, c1, rfl⟩ | ⟨us, s1, c1, rfl⟩ | ⟨s1, rfl⟩
  · rfl
  · rw [h2] at c1; cases c1
  · exact absurd h1 (s1 vs)
theorem splice_none {α : Type} (L : List α) (off : Nat) : splice L off [] = L := by simp [splice]
theorem splice_snoc {α : Type} (L cs : List α) (off : Nat) (x : α) (h : off + cs.length < L.length) : splice L off (cs ++ [x]) = (splice L off cs).set (off + cs.length) x := by
  unfold splice
  have e : (L.take off).length = off := by rw [List.length_take]; omega
  rw [List.set_append_right _ _ (by omega), e, show off + cs.length - off = cs.length by omega, List.set_append_right _ _ (Nat.le_refl _), Nat.sub_self, List.append_assoc, List.length_append]
  congr 2
  rw [List.drop_eq_getElem_cons h]
  show x :: L.drop (off + (cs.length + 1)) = x :: L.drop (off + cs.length + 1)
  rw [Nat.add_assoc]
theorem splice_set {α : Type} (L cs : List α) (off ax : Nat) (x : α) (h : ax < off) (hl : off ≤ L.length) : (splice L off cs).set ax x = splice (L.set ax x) off cs := by
  unfold splice
  have e : (L.take off).length = off := by rw [List.length_take]; omega
  rw [List.set_append_left _ _ (by omega), List.take_set, List.drop_set_of_lt (by omega)]
theorem cop_none (m : MD) (off : Nat) : m.cop off [] = m := by
  unfold MD.cop
  rw [splice_none]
theorem cop_step {m : MD} {off i : Nat} {fs : List Int} {x : Int} (hx : fs[i]? = some x) (h : off + i < m.W.length) : (m.cop off (fs.take i)).setW (off + i) x = m.cop off (fs.take (i + 1)) := by
  have hi := (List.getElem?_eq_some_iff.1 hx).1
  have e : (fs.take i).length = i := by rw [List.length_take]; omega
  unfold MD.cop MD.setW
  have k := splice_snoc m.W (fs.take i) off x (by omega)
  rw [e] at k
  rw [List.take_add_one, hx]
  show ({ m with W := (splice m.W off (fs.take i)).set (off + i) x } : MD) = { m with W := splice m.W off (fs.take i ++ [x]) }
  rw [k]
theorem alloc_same {m : MD} {kd : Int} {fs : List Int} (h : m.n1 + 1 ≤ m.W.length) : ((m.setW m.n1 ((fs.length : Int) * 65536 + 0 * 16384 + 0 * 1024 + kd * 4 + 3)).cop (m.n1 + 1) fs).setT (m.top + 1 + (fs.length : Int)) = m.allocd kd fs := by
  unfold MD.allocd MD.cop MD.setW MD.setT
  have k := splice_set m.W fs (m.n1 + 1) m.n1 ((fs.length : Int) * 65536 + 0 * 16384 + 0 * 1024 + kd * 4 + 3) (by omega) h
  have e : m.top + 1 + (fs.length : Int) = m.top + (1 + (fs.length : Int)) := by omega
  rw [e]
  show ({ m with W := splice (m.W.set m.n1 _) (m.n1 + 1) fs, top := _ } : MD) = { m with W := (splice m.W (m.n1 + 1) fs).set m.n1 _, top := _ }
  rw [k]
set_option maxHeartbeats 16000000 in
set_option maxRecDepth 100000 in
theorem memAllocs_near (a : Nat → Addr) (p o : Nat) (m : MD) (kd : Int) (fs : List Int) (hfu : U64 fs) (hfl : fs.length ≤ 200) (af : Option Addr) (cf : Nat) (w : World) (E : Errs a w) (h : RepM p o m w) (RF : RowV w (.slice af fs.length cf) fs.length (wordsV fs)) (h64 : MD64 m) (n1 : m.W.length ≤ 1000) (n2 : m.R.length ≤ 100) (n3 : m.K.length ≤ 100) (n4 : m.I.length ≤ 100) (n5 : m.C.length ≤ 1000) : Calls Tryd.prog 4 #[.pointer (some ⟨p, o, none⟩), .int .i64 kd, .slice af fs.length cf] w fun ev w' => ev = .returned (.bool true) ∧ Below w.heap.size w w' := by
  obtain ⟨i0, hi0, hz0, hz1, hz2⟩ : ∃ i0, Tryd.prog.info? 40 = some i0 ∧ i0.zero = some (.int .u64 0) ∧ i0.size = 1 ∧ i0.bytes = 8 := ⟨_, rfl, rfl, rfl, rfl⟩
  have HE := toHid E
  have HR := toHid h
  have H64 := toHid h64
  have HRF := toHid RF
  have HFU := toHid hfu
  obtain ⟨vW, vR, vK, vI, vC, hpl, MP, _⟩ := h
  have HMP := toHid MP
  have HPL := toHid hpl
  obtain ⟨s, hs⟩ : ∃ s : Nat, s = fs.length := ⟨_, rfl⟩
  have HSL := toHid hs
  have hs1 : s ≤ 200 := by omega
  have hsI : ¬ 200 < (s : Int) := by omega
  rw [← hs]
  clear E h64 RF hfu MP hpl hs hfl
  go_enter Tryd.func4, Tryd.ntmps4
  go_wp2_with fail
  refine (fresh_any w).mono ?_
  rintro ev w1 ⟨rfl, hb1⟩
  go_wp2_with fail
  refine (near_yes p o m w1 (HR.out.below hb1) n1 n2 n3 n4 n5).mono ?_
  rintro ev w2 ⟨rfl, hq⟩
  rw [hq]
  clear hq w2
  go_wp2_with fail
  refine (checkOf_any p o m H64.out (by omega) (by omega) (by omega) w1 (HR.out.below hb1)).mono ?_
  intro ev w2 hcp
  obtain ⟨n, rfl, hcn, hb2⟩ := hcp.num
  have hb02 := hb1.trans (hb2.mono hb1.size)
  have HCN := toHid hcn
  clear hb1 hb2 hcp hcn
  go_wp2_with fail
  refine (memOf_own p o m w2 (HR.out.below hb02) (by omega) (by omega) (by omega) (by omega) (by omega)).mono ?_
  rintro ev w3 ⟨bx, rfl, O3, hb3⟩
  have hb03 := hb02.trans (hb3.mono hb02.size)
  have HO3 := toHid O3
  have HPOS : Hid (0 < s → ∃ ad, af = some ad ∧ ∀ j u, (wordsV fs)[j]? = some u → w3.cell? (ad.add j) = some u) := fun h => by
    obtain ⟨ad, e1, _, e3⟩ := (HRF.out.below hb03).src (by rw [← HSL.out]; exact h)
    exact ⟨ad, e1, e3⟩
  have HLN : Hid ((wordsV fs).length = s * 1) := by show _ = _; rw [lenV, ← HSL.out]; omega
  have HB02 := toHid hb02
  have HB03 := toHid hb03
  have HB23 := toHid hb3
  clear O3 hb3 hb02 hb03
  go_wp2_with (at_builtin; refine wpList_append_nil rfl _ _ _ rfl 40 i0 (.int .u64 0) 1 8 Tryd.underlying32 hi0 hz0 hz1 hz2 rfl (by decide) rfl af s cf (wordsV fs) rfl HLN.out HPOS.out (one_words fs) (by unfold maxLen; omega) (by omega) ?_; intro ao4 cap4 w4 hown4 hgr4)
  have hb4 : Below w3.heap.size w3 w4 := (Below.refl _ _).grown hgr4 (Nat.le_refl _) (fun k hk => by cases hk)
  have hb04 := HB03.out.trans (hb4.mono HB03.out.size)
  have hb24 := HB23.out.trans (hb4.mono HB23.out.size)
  have kal := alloc_any a w2 bx m H64.out (by omega) (by omega) (by omega) kd fs HFU.out (by rw [← HSL.out]; omega) ao4 cap4 w4 (HE.out.below HB02.out).me hb24 (HO3.out.below hb4) (by rw [← HSL.out]; exact rowV_own hown4)
  rw [← HSL.out] at kal
  have HO4 := toHid (HO3.out.below hb4)
  have HB04 := toHid hb04
  clear hgr4 hown4 hb4 hb04 hb24
  go_wp2_with fail
  refine kal.mono ?_
  rintro ev w5 (⟨k, herr, rfl, hb5⟩ | ⟨vs, hSh, hCb, k0, k1, hor, hroom, rfl, O5, hb25⟩)
  · clear kal
    have hb05 := HB04.out.trans (hb5.mono HB04.out.size)
    have O5 := HO4.out.below hb5
    have HB05 := toHid hb05
    have HO5 := toHid O5
    have hca := alloc_cases HCN.out herr
    clear herr hb5 hb05 O5
    rcases hca with ⟨rfl, rfl⟩ | ⟨rfl, rfl⟩ | ⟨rfl, vs, hSh, hca⟩
    · go_wp2_with fail
      go_quiet (fail)
      obtain ⟨wz, hwz⟩ : ∃ wz, wz = w5.drewN nq := ⟨_, rfl⟩
      rw [← hwz]
      have hbd : Below w5.heap.size w5 wz := by rw [hwz]; exact below_drewN (Below.refl _ _)
      have hbz := (HB05.out).trans (hbd.mono (HB05.out).size)
      have Oz := (HO5.out).below hbd
      clear hwz
      go_wp2_with fail
      refine (coded_any a 2 (by decide) wz (HE.out.below hbz)).mono ?_
      rintro ev w6 ⟨rfl, hb6⟩
      have hbw6 := hbz.trans (hb6.mono hbz.size)
      go_wp2_with fail
      refine (memBack_any bx m w6 (Oz.below hb6).repP.rep (by omega) (by omega) (by omega) (by omega) (by omega)).mono ?_
      rintro ev w7 ⟨bz, rfl, _, Z7, hb7⟩
      have hbw7 := hbw6.trans (hb7.mono hbw6.size)
      go_wp2_with fail
      refine (sameMemory_eq bz 0 p o m w7 Z7 (HR.out.below hbw7) (by omega) (by omega) (by omega) (by omega) (by omega)).mono ?_
      rintro ev w8 ⟨rfl, hb8⟩
      go_wp2_with fail
      go_ret
      exact ⟨rfl, hbw7.trans (hb8.mono hbw7.size)⟩
    · go_wp2_with fail
      go_quiet (fail)
      obtain ⟨wz, hwz⟩ : ∃ wz, wz = w5.drewN nq := ⟨_, rfl⟩
      rw [← hwz]
      have hbd : Below w5.heap.size w5 wz := by rw [hwz]; exact below_drewN (Below.refl _ _)
      have hbz := (HB05.out).trans (hbd.mono (HB05.out).size)
      have Oz := (HO5.out).below hbd
      clear hwz
      go_wp2_with fail
      refine (coded_any a 4 (by decide) wz (HE.out.below hbz)).mono ?_
      rintro ev w6 ⟨rfl, hb6⟩
      have hbw6 := hbz.trans (hb6.mono hbz.size)
      go_wp2_with fail
      refine (memBack_any bx m w6 (Oz.below hb6).repP.rep (by omega) (by omega) (by omega) (by omega) (by omega)).mono ?_
      rintro ev w7 ⟨bz, rfl, _, Z7, hb7⟩
      have hbw7 := hbw6.trans (hb7.mono hbw6.size)
      go_wp2_with fail
      refine (sameMemory_eq bz 0 p o m w7 Z7 (HR.out.below hbw7) (by omega) (by omega) (by omega) (by omega) (by omega)).mono ?_
      rintro ev w8 ⟨rfl, hb8⟩
      go_wp2_with fail
      go_ret
      exact ⟨rfl, hbw7.trans (hb8.mono hbw7.size)⟩
    · have HSH := toHid hSh
      have hnum := hSh.1.nums
      unfold numsOK at hnum
      have ht0 := hSh.1.t0
      have ht1 := hSh.1.t1
      clear hSh
      rcases hca with ⟨hk, rfl⟩ | ⟨k0, k1, hk8, hal, rfl⟩ | ⟨k0, k1, hor, hfull, rfl⟩
      · have hk2 : kd < 0 ∨ (¬ kd < 0 ∧ 255 < kd) := by omega
        clear hk
        rcases hk2 with hk | ⟨hk, hk'⟩
        · go_wp2_with fail
          go_quiet (fail)
          obtain ⟨wz, hwz⟩ : ∃ wz, wz = w5.drewN nq := ⟨_, rfl⟩
          rw [← hwz]
          have hbd : Below w5.heap.size w5 wz := by rw [hwz]; exact below_drewN (Below.refl _ _)
          have hbz := (HB05.out).trans (hbd.mono (HB05.out).size)
          have Oz := (HO5.out).below hbd
          clear hwz
          go_wp2_with fail
          refine (coded_any a 1 (by decide) wz (HE.out.below hbz)).mono ?_
          rintro ev w6 ⟨rfl, hb6⟩
          have hbw6 := hbz.trans (hb6.mono hbz.size)
          go_wp2_with fail
          refine (memBack_any bx m w6 (Oz.below hb6).repP.rep (by omega) (by omega) (by omega) (by omega) (by omega)).mono ?_
          rintro ev w7 ⟨bz, rfl, _, Z7, hb7⟩
          have hbw7 := hbw6.trans (hb7.mono hbw6.size)
          go_wp2_with fail
          refine (sameMemory_eq bz 0 p o m w7 Z7 (HR.out.below hbw7) (by omega) (by omega) (by omega) (by omega) (by omega)).mono ?_
          rintro ev w8 ⟨rfl, hb8⟩
          go_wp2_with fail
          go_ret
          exact ⟨rfl, hbw7.trans (hb8.mono hbw7.size)⟩
        · go_wp2_with fail
          go_quiet (fail)
          obtain ⟨wz, hwz⟩ : ∃ wz, wz = w5.drewN nq := ⟨_, rfl⟩
          rw [← hwz]
          have hbd : Below w5.heap.size w5 wz := by rw [hwz]; exact below_drewN (Below.refl _ _)
          have hbz := (HB05.out).trans (hbd.mono (HB05.out).size)
          have Oz := (HO5.out).below hbd
          clear hwz
          go_wp2_with fail
          refine (coded_any a 1 (by decide) wz (HE.out.below hbz)).mono ?_
          rintro ev w6 ⟨rfl, hb6⟩
          have hbw6 := hbz.trans (hb6.mono hbz.size)
          go_wp2_with fail
          refine (memBack_any bx m w6 (Oz.below hb6).repP.rep (by omega) (by omega) (by omega) (by omega) (by omega)).mono ?_
          rintro ev w7 ⟨bz, rfl, _, Z7, hb7⟩
          have hbw7 := hbw6.trans (hb7.mono hbw6.size)
          go_wp2_with fail
          refine (sameMemory_eq bz 0 p o m w7 Z7 (HR.out.below hbw7) (by omega) (by omega) (by omega) (by omega) (by omega)).mono ?_
          rintro ev w8 ⟨rfl, hb8⟩
          go_wp2_with fail
          go_ret
          exact ⟨rfl, hbw7.trans (hb8.mono hbw7.size)⟩
      · have hk0 : ¬ kd < 0 := by omega
        have hk1 : ¬ 255 < kd := by omega
        have hk7 : 7 < kd := by omega
        have kf := fieldsOK_right p o m vs HSH.out H64.out fs af cf (by rw [← HSL.out]; omega) HFU.out w5 (HR.out.below HB05.out) (HRF.out.below HB05.out)
        rw [hal, ← HSL.out] at kf
        clear hal k0 k1 hk8
        go_wp2_with fail
        refine kf.mono ?_
        rintro ev w6 ⟨rfl, hb6⟩
        have HB06 := toHid (HB05.out.trans (hb6.mono HB05.out.size))
        have HO6 := toHid (HO5.out.below hb6)
        clear kf hb6
        go_wp2_with fail
        go_quiet (fail)
        obtain ⟨wz, hwz⟩ : ∃ wz, wz = w6.drewN nq := ⟨_, rfl⟩
        rw [← hwz]
        have hbd : Below w6.heap.size w6 wz := by rw [hwz]; exact below_drewN (Below.refl _ _)
        have hbz := (HB06.out).trans (hbd.mono (HB06.out).size)
        have Oz := (HO6.out).below hbd
        clear hwz
        go_wp2_with fail
        refine (coded_any a 2 (by decide) wz (HE.out.below hbz)).mono ?_
        rintro ev w6 ⟨rfl, hb6⟩
        have hbw6 := hbz.trans (hb6.mono hbz.size)
        go_wp2_with fail
        refine (memBack_any bx m w6 (Oz.below hb6).repP.rep (by omega) (by omega) (by omega) (by omega) (by omega)).mono ?_
        rintro ev w7 ⟨bz, rfl, _, Z7, hb7⟩
        have hbw7 := hbw6.trans (hb7.mono hbw6.size)
        go_wp2_with fail
        refine (sameMemory_eq bz 0 p o m w7 Z7 (HR.out.below hbw7) (by omega) (by omega) (by omega) (by omega) (by omega)).mono ?_
        rintro ev w8 ⟨rfl, hb8⟩
        go_wp2_with fail
        go_ret
        exact ⟨rfl, hbw7.trans (hb8.mono hbw7.size)⟩
      · have hk0 : ¬ kd < 0 := by omega
        have hk1 : ¬ 255 < kd := by omega
        rw [← HSL.out] at hfull
        have hgt : m.half < m.top + 1 + (s : Int) := by omega
        by_cases hk8 : kd < 8
        · have hk7 : ¬ 7 < kd := by omega
          have M6 : Hid (MemO p o m.half m.old m.card vW m.used m.top m.oldTop vR vK vI vC w5) := HMP.out.below HB05.out HPL.out
          have c0 := M6.out.c0
          have c5 := M6.out.c5
          have e1 : IntKind.i64.wrap (m.top + 1) = m.top + 1 := wrapI _ (by omega) (by omega)
          have e2 : IntKind.i64.wrap (m.top + 1 + (s : Int)) = m.top + 1 + (s : Int) := wrapI _ (by omega) (by omega)
          clear hor
          go_wp2_with fail
          go_quiet (fail)
          obtain ⟨wz, hwz⟩ : ∃ wz, wz = w5.drewN nq := ⟨_, rfl⟩
          rw [← hwz]
          have hbd : Below w5.heap.size w5 wz := by rw [hwz]; exact below_drewN (Below.refl _ _)
          have hbz := (HB05.out).trans (hbd.mono (HB05.out).size)
          have Oz := (HO5.out).below hbd
          clear hwz
          go_wp2_with fail
          refine (coded_any a 5 (by decide) wz (HE.out.below hbz)).mono ?_
          rintro ev w6 ⟨rfl, hb6⟩
          have hbw6 := hbz.trans (hb6.mono hbz.size)
          go_wp2_with fail
          refine (memBack_any bx m w6 (Oz.below hb6).repP.rep (by omega) (by omega) (by omega) (by omega) (by omega)).mono ?_
          rintro ev w7 ⟨bz, rfl, _, Z7, hb7⟩
          have hbw7 := hbw6.trans (hb7.mono hbw6.size)
          go_wp2_with fail
          refine (sameMemory_eq bz 0 p o m w7 Z7 (HR.out.below hbw7) (by omega) (by omega) (by omega) (by omega) (by omega)).mono ?_
          rintro ev w8 ⟨rfl, hb8⟩
          go_wp2_with fail
          go_ret
          exact ⟨rfl, hbw7.trans (hb8.mono hbw7.size)⟩
        · have hk7 : 7 < kd := by omega
          have hal : fs.all (fieldB m.W.length (fun i => decide (i ∈ vs))) = true := hor.resolve_left hk8
          have kf := fieldsOK_right p o m vs HSH.out H64.out fs af cf (by rw [← HSL.out]; omega) HFU.out w5 (HR.out.below HB05.out) (HRF.out.below HB05.out)
          rw [hal, ← HSL.out] at kf
          clear hal hor
          go_wp2_with fail
          refine kf.mono ?_
          rintro ev w6 ⟨rfl, hb6⟩
          have HB06 := toHid (HB05.out.trans (hb6.mono HB05.out.size))
          have HO6 := toHid (HO5.out.below hb6)
          clear kf hb6
          have M6 : Hid (MemO p o m.half m.old m.card vW m.used m.top m.oldTop vR vK vI vC w6) := HMP.out.below HB06.out HPL.out
          have c0 := M6.out.c0
          have c5 := M6.out.c5
          have e1 : IntKind.i64.wrap (m.top + 1) = m.top + 1 := wrapI _ (by omega) (by omega)
          have e2 : IntKind.i64.wrap (m.top + 1 + (s : Int)) = m.top + 1 + (s : Int) := wrapI _ (by omega) (by omega)
          go_wp2_with fail
          go_quiet (fail)
          obtain ⟨wz, hwz⟩ : ∃ wz, wz = w6.drewN nq := ⟨_, rfl⟩
          rw [← hwz]
          have hbd : Below w6.heap.size w6 wz := by rw [hwz]; exact below_drewN (Below.refl _ _)
          have hbz := (HB06.out).trans (hbd.mono (HB06.out).size)
          have Oz := (HO6.out).below hbd
          clear hwz
          go_wp2_with fail
          refine (coded_any a 5 (by decide) wz (HE.out.below hbz)).mono ?_
          rintro ev w6 ⟨rfl, hb6⟩
          have hbw6 := hbz.trans (hb6.mono hbz.size)
          go_wp2_with fail
          refine (memBack_any bx m w6 (Oz.below hb6).repP.rep (by omega) (by omega) (by omega) (by omega) (by omega)).mono ?_
          rintro ev w7 ⟨bz, rfl, _, Z7, hb7⟩
          have hbw7 := hbw6.trans (hb7.mono hbw6.size)
          go_wp2_with fail
          refine (sameMemory_eq bz 0 p o m w7 Z7 (HR.out.below hbw7) (by omega) (by omega) (by omega) (by omega) (by omega)).mono ?_
          rintro ev w8 ⟨rfl, hb8⟩
          go_wp2_with fail
          go_ret
          exact ⟨rfl, hbw7.trans (hb8.mono hbw7.size)⟩
  · clear kal
    obtain rfl := check_zero HCN.out hSh hCb
    generalize hpv : ((m.n1 : Int) + 1) * 4 = pv
    have HPV := toHid hpv
    clear hpv
    have HSH := toHid hSh
    have hnum := hSh.1.nums
    unfold numsOK at hnum
    have ht0 := hSh.1.t0
    have ht1 := hSh.1.t1
    have hk0 : ¬ kd < 0 := by omega
    have hk1 : ¬ 255 < kd := by omega
    rw [← HSL.out] at hroom
    have hgt : ¬ m.half < m.top + 1 + (s : Int) := by omega
    have HB05 : Hid (Below w.heap.size w w5) := HB02.out.trans (hb25.mono HB02.out.size)
    have HO5 := toHid O5
    have HKD : Hid (0 ≤ kd ∧ kd ≤ 255) := ⟨k0, k1⟩
    clear hSh hCb hb25 O5 k0 k1
    by_cases hk8 : kd < 8
    · have hk7 : ¬ 7 < kd := by omega
      have M6 : Hid (MemO p o m.half m.old m.card vW m.used m.top m.oldTop vR vK vI vC w5) := HMP.out.below HB05.out HPL.out
      have c0 := M6.out.c0
      have c5 := M6.out.c5
      have e1 : IntKind.i64.wrap (m.top + 1) = m.top + 1 := wrapI _ (by omega) (by omega)
      have e2 : IntKind.i64.wrap (m.top + 1 + (s : Int)) = m.top + 1 + (s : Int) := wrapI _ (by omega) (by omega)
      clear hor
      go_wp2_with fail
      go_quiet (fail)
      obtain ⟨wz, hwz⟩ : ∃ wz, wz = w5.drewN nq := ⟨_, rfl⟩
      rw [← hwz]
      have hbd : Below w5.heap.size w5 wz := by rw [hwz]; exact below_drewN (Below.refl _ _)
      have hbz := (HB05.out).trans (hbd.mono (HB05.out).size)
      have Oz := (HO5.out).below hbd
      clear hwz
      have kown := ownOf_any p o m wz (HR.out.below hbz) (by omega) (by omega) (by omega) (by omega) (by omega)
      go_wp2_with fail
      refine kown.mono ?_
      rintro ev w6 ⟨uW, uR, uK, uI, uC, rfl, K6, hb6⟩
      have hbw6 := hbz.trans (hb6.mono hbz.size)
      have HBZ := toHid hbz
      have HOZ := toHid Oz
      clear kown hbd
      have L6 := HMP.out.below hbw6 HPL.out
      have c0 := L6.c0
      have c4 := L6.c4
      have c5 := L6.c5
      obtain ⟨n0, hn0'⟩ : ∃ n0 : Nat, n0 = m.n0 := ⟨_, rfl⟩
      obtain ⟨ax, hax⟩ : ∃ ax : Nat, ax = m.n1 := ⟨_, rfl⟩
      have P := MD.parts HSH.out.1
      have hn0 := P.n0
      have hn1 := P.n1
      have hwl := HSH.out.1.w
      have hu0 := HSH.out.1.u0
      have hu1 := HSH.out.1.u1
      have hnb : (m.n0 : Int) ≤ m.half := by
        obtain e | e : m.used = 0 ∨ m.used = 1 := by omega
        · rw [e, Int.zero_mul] at hn0; omega
        · rw [e, Int.one_mul] at hn0; omega
      have em : IntKind.i64.wrap (m.used * m.half) = (n0 : Int) := by rw [← hn0]; rw [wrapI _ (by omega) (by omega)]; omega
      have ea : IntKind.i64.wrap ((n0 : Int) + m.top) = (ax : Int) := by rw [wrapI _ (by omega) (by omega)]; omega
      have HAX := toHid hax
      have hxs : ax + 1 + s < m.W.length := by omega
      have hxl : ax < m.W.length := by omega
      obtain ⟨hw, hhw⟩ : ∃ hw, hw = (s : Int) * 65536 + 0 * 16384 + 0 * 1024 + kd * 4 + 3 := ⟨_, rfl⟩
      have HHW := toHid hhw
      obtain ⟨bk, hbk⟩ : ∃ bk, bk = wz.heap.size := ⟨_, rfl⟩
      rw [← hbk] at K6 hb6 ⊢
      have HBK := toHid hbk
      have HK6 := toHid K6
      have HZ6 := toHid hb6
      clear hax hn0' hn0 hn1 P hu0 hu1 hwl hnb K6 L6 Oz hbz hb6 hhw hbk hbw6
      go_wp2_with fail
      go_quiet (fail)
      obtain ⟨w7, hw7⟩ : ∃ w7, w7 = w6.drewN nq := ⟨_, rfl⟩
      rw [← hw7]
      have hb7 : Below w6.heap.size w6 w7 := by rw [hw7]; exact below_drewN (Below.refl _ _)
      have K7 := HK6.out.below hb7
      have hbz7 := HZ6.out.trans (hb7.mono (by rw [HBK.out]; exact HZ6.out.size))
      clear hw7 c0 c4 c5
      obtain ⟨gw, ck, rfl, hck, hBk, hgk, hgx, hwk, hfk, _⟩ := K7.rowW (by omega)
      have d3 := K7.mem.c3
      have dx := hwk ax hxl
      have df := hfk ax
      have HK7 := toHid K7
      have HZ7 := toHid hbz7
      have HBG := toHid hBk
      have kh : Hid (∀ W, Calls Tryd.prog 20 #[.int .i64 kd, .int .i64 0, .int .i64 0, .int .i64 (s : Int)] W fun ev w' => ev = .returned (.int .u64 hw) ∧ w' = W) := fun W => by
        rw [HHW.out]
        exact headWord_any kd 0 0 (s : Int) HKD.out.1 HKD.out.2 (by omega) (by omega) (by omega) (by omega) (by omega) (by omega) W
      have hxi : (ax : Int) < (m.W.length : Int) := by omega
      have hxi0 : (0 : Int) ≤ (ax : Int) := by omega
      clear K7 hwk hfk hb7 hbz7 hBk hgx
      go_upto_region 19 with fail
      go_cut [] from 118 to 127 (fun wx => Hid (OwnK bk bk (m.setW ax hw) (.slice (some ⟨gw, 0, none⟩) m.W.length ck) uR uK uI uC wx) ∧ Hid (Below bk wz wx))
      case first =>
        go_region_with ((go_at_call 20; refine (kh.out _).mono ?_; rintro ev w8 ⟨rfl, hq⟩; rw [hq]; clear hq w8))
        all_goals go_wp2_with fail
        all_goals go_meet
        all_goals (
          have K8 := HK7.out.setW ax hw
          have hb8 : Below bk wz (w7.setCell ⟨gw, ax, none⟩ (.int .u64 hw)) := HZ7.out.setCell HBG.out _
          exact ⟨by first | exact K8 | exact K8.below (Below.refl _ _).drew | exact K8.below (below_drewN (q := 2) (Below.refl _ _)), by first | exact hb8 | exact hb8.drew | exact below_drewN hb8⟩)
      case rest =>
        obtain ⟨HK8, HZ8⟩ := hcut
        clear d3 dx df HK7 HZ7 kh
        have HLL : Hid (∀ i, i ≤ s → ((m.setW ax hw).cop (ax + 1) (fs.take i)).W.length = m.W.length) := fun i hi => by
          have e1 : (m.setW ax hw).W.length = m.W.length := List.length_set
          have e2 : (fs.take i).length ≤ s := by rw [List.length_take]; omega
          exact (length_splice _ _ _ (by omega)).trans e1
        go_wp2_with fail
        go_loopg [15] (s + 1) (fun gi v15 wr => ∃ i : Nat, gi = s + 1 - i ∧ i ≤ s ∧ v15 = .int .i64 (i : Int) ∧ Hid (OwnK bk bk ((m.setW ax hw).cop (ax + 1) (fs.take i)) (.slice (some ⟨gw, 0, none⟩) m.W.length ck) uR uK uI uC wr) ∧ Hid (Below bk wz wr))
        case atStart => exact ⟨0, rfl, Nat.zero_le _, rfl, by rw [List.take_zero, cop_none]; exact HK8, HZ8⟩
        case round =>
          obtain ⟨i, hgi, hi, hv, HK9, HZ9⟩ := hrel
          subst hv
          have HG := toHid hgi
          have hl := HLL.out i hi
          have hbw9 : Below w.heap.size w wr := HBZ.out.trans (HZ9.out.mono (by rw [HBK.out]; exact HBZ.out.size))
          clear hgi HK8 HZ8
          by_cases hlt : i < s
          · have hI : (i : Int) < (s : Int) := by omega
            have hI0 : (0 : Int) ≤ (i : Int) := by omega
            obtain ⟨x, hx⟩ : ∃ x, fs[i]? = some x := ⟨_, List.getElem?_eq_getElem (by rw [← HSL.out]; exact hlt)⟩
            obtain ⟨y, hy⟩ : ∃ y : Nat, y = ax + 1 + i := ⟨_, rfl⟩
            obtain ⟨_, _, e, _, ff⟩ := HRF.out.below hbw9
            cases e
            obtain ⟨fb, fo, rfl, lf, gf⟩ := ff (by rw [← HSL.out]; omega)
            have xf := gf i _ (words_at hx)
            obtain ⟨g', c', ee, _, _, _, _, hwk, hfk, _⟩ := HK9.out.rowW (by rw [hl]; omega)
            rw [hl] at ee
            cases ee
            have d3 := HK9.out.mem.c3
            have dy := hwk y (by rw [hl]; omega)
            have dfy := hfk y
            have ez1 : IntKind.i64.wrap ((ax : Int) + 1) = (ax : Int) + 1 := wrapI _ (by omega) (by omega)
            have ez2 : IntKind.i64.wrap ((ax : Int) + 1 + (i : Int)) = (y : Int) := by rw [wrapI _ (by omega) (by omega)]; omega
            have hyi : (y : Int) < (m.W.length : Int) := by omega
            have hyi0 : (0 : Int) ≤ (y : Int) := by omega
            have HST : Hid (((m.setW ax hw).cop (ax + 1) (fs.take i)).setW y x = (m.setW ax hw).cop (ax + 1) (fs.take (i + 1))) := by
              show _ = _
              rw [hy]
              exact cop_step hx (by show ax + 1 + i < (m.W.set ax hw).length; rw [List.length_set]; omega)
            generalize ((m.setW ax hw).cop (ax + 1) (fs.take i)).F y = cy at *
            clear hwk hfk gf ff hx hy hl hbw9
            go_wp2_with fail
            go_region
            all_goals go_wp2_with fail
            all_goals go_roundg (s + 1 - (i + 1))
            all_goals (first
              | (have := HG.out; omega)
              | (have K8 := HK9.out.setW y x
                 rw [HST.out] at K8
                 have hb8 : Below bk wz (wr.setCell ⟨gw, y, none⟩ (.int .u64 x)) := HZ9.out.setCell HBG.out _
                 exact ⟨i + 1, rfl, by omega, by go_num, by first | exact K8 | exact K8.below (Below.refl _ _).drew | exact K8.below (below_drewN (q := 2) (Below.refl _ _)), by first | exact hb8 | exact hb8.drew | exact below_drewN hb8⟩))
          · obtain rfl : i = s := by omega
            have ef : fs.take i = fs := List.take_of_length_le (by rw [← HSL.out]; exact Nat.le_refl _)
            have c5 := (HMP.out.below hbw9 HPL.out).c5
            have d5 : wr.cell? ⟨bk, 5, none⟩ = some (.int .i64 m.top) := HK9.out.mem.c5
            have df5 : wr.frozen? ⟨bk, 5, none⟩ = false := (OB.mem HK9.out.2.1).2 5
            have HEF := toHid ef
            clear ef hl hbw9
            go_upto_region 25 with fail
            obtain ⟨wq, hwq⟩ : ∃ wq, wq = wr.setCell ⟨bk, 5, none⟩ (.int .i64 (m.top + 1 + (i : Int))) := ⟨_, rfl⟩
            rw [← hwq]
            have HAL : Hid (((m.setW ax hw).cop (ax + 1) (fs.take i)).setT (m.top + 1 + (i : Int)) = m.allocd kd fs) := by
              show _ = _
              rw [HEF.out, HHW.out, HAX.out, HSL.out]
              exact alloc_same (by rw [← HAX.out]; omega)
            have K9 : OwnK bk bk (m.allocd kd fs) (.slice (some ⟨gw, 0, none⟩) m.W.length ck) uR uK uI uC wq := by rw [hwq, ← HAL.out]; exact HK9.out.setT _
            have hz9 : Below bk wz wq := by rw [hwq]; exact HZ9.out.setCell (Nat.le_refl _) _
            have hz9' : Below wz.heap.size wz wq := by rw [← HBK.out]; exact hz9
            have hbwq := HBZ.out.trans (hz9'.mono HBZ.out.size)
            have O9 := HOZ.out.below hz9'
            have ka : Calls Tryd.prog 21 #[.int .i64 (ax : Int)] wq fun ev w' => ev = .returned (.int .u64 pv) ∧ w' = wq := by
              have k := addrWord_any (ax : Int) (by omega) (by omega) wq
              have e : ((ax : Int) + 1) * 4 = pv := by rw [HAX.out]; exact HPV.out
              rw [e] at k
              exact k
            have hlW : (m.allocd kd fs).W.length = m.W.length := by
              rw [← HAL.out]
              exact HLL.out i (Nat.le_refl _)
            have HLW := toHid hlW
            have HK9' := toHid K9
            have HO9 := toHid O9
            have HBQ := toHid hbwq
            clear hwq K9 O9 hbwq hz9 hz9' d5 df5 c5 hlW HK9 HZ9
            go_wp2_with fail
            refine ka.mono ?_
            rintro ev w8 ⟨rfl, hq⟩
            rw [hq]
            clear hq w8 ka
            go_wp2_with fail
            refine (memBack_any bx (m.allocd kd fs) wq HO9.out.repP.rep (by rw [HLW.out]; omega) (by show m.R.length ≤ 300000; omega) (by show m.K.length ≤ 300000; omega) (by show m.I.length ≤ 300000; omega) (by show m.C.length ≤ 300000; omega)).mono ?_
            rintro ev w8 ⟨bz, rfl, _, Z8, hb8⟩
            go_wp2_with fail
            refine (sameMemory_eq bz 0 bk 0 (m.allocd kd fs) w8 Z8 (HK9'.out.rep.below hb8) (by rw [HLW.out]; omega) (by show m.R.length ≤ 300000; omega) (by show m.K.length ≤ 300000; omega) (by show m.I.length ≤ 300000; omega) (by show m.C.length ≤ 300000; omega)).mono ?_
            rintro ev w9 ⟨rfl, hb9⟩
            have hbf := HBQ.out.trans ((hb8.trans (hb9.mono hb8.size)).mono HBQ.out.size)
            go_wp2_with fail
            go_ret
            exact ⟨rfl, hbf⟩
    · have hk7 : 7 < kd := by omega
      have hal : fs.all (fieldB m.W.length (fun i => decide (i ∈ vs))) = true := hor.resolve_left hk8
      have kf := fieldsOK_right p o m vs HSH.out H64.out fs af cf (by rw [← HSL.out]; omega) HFU.out w5 (HR.out.below HB05.out) (HRF.out.below HB05.out)
      rw [hal, ← HSL.out] at kf
      clear hal hor
      go_wp2_with fail
      refine kf.mono ?_
      rintro ev w6 ⟨rfl, hb6⟩
      have HB06 := toHid (HB05.out.trans (hb6.mono HB05.out.size))
      have HO6 := toHid (HO5.out.below hb6)
      clear kf hb6
      have M6 : Hid (MemO p o m.half m.old m.card vW m.used m.top m.oldTop vR vK vI vC w6) := HMP.out.below HB06.out HPL.out
      have c0 := M6.out.c0
      have c5 := M6.out.c5
      have e1 : IntKind.i64.wrap (m.top + 1) = m.top + 1 := wrapI _ (by omega) (by omega)
      have e2 : IntKind.i64.wrap (m.top + 1 + (s : Int)) = m.top + 1 + (s : Int) := wrapI _ (by omega) (by omega)
      go_wp2_with fail
      go_quiet (fail)
      obtain ⟨wz, hwz⟩ : ∃ wz, wz = w6.drewN nq := ⟨_, rfl⟩
      rw [← hwz]
      have hbd : Below w6.heap.size w6 wz := by rw [hwz]; exact below_drewN (Below.refl _ _)
      have hbz := (HB06.out).trans (hbd.mono (HB06.out).size)
      have Oz := (HO6.out).below hbd
      clear hwz
      have kown := ownOf_any p o m wz (HR.out.below hbz) (by omega) (by omega) (by omega) (by omega) (by omega)
      go_wp2_with fail
      refine kown.mono ?_
      rintro ev w6 ⟨uW, uR, uK, uI, uC, rfl, K6, hb6⟩
      have hbw6 := hbz.trans (hb6.mono hbz.size)
      have HBZ := toHid hbz
      have HOZ := toHid Oz
      clear kown hbd
      have L6 := HMP.out.below hbw6 HPL.out
      have c0 := L6.c0
      have c4 := L6.c4
      have c5 := L6.c5
      obtain ⟨n0, hn0'⟩ : ∃ n0 : Nat, n0 = m.n0 := ⟨_, rfl⟩
      obtain ⟨ax, hax⟩ : ∃ ax : Nat, ax = m.n1 := ⟨_, rfl⟩
      have P := MD.parts HSH.out.1
      have hn0 := P.n0
      have hn1 := P.n1
      have hwl := HSH.out.1.w
      have hu0 := HSH.out.1.u0
      have hu1 := HSH.out.1.u1
      have hnb : (m.n0 : Int) ≤ m.half := by
        obtain e | e : m.used = 0 ∨ m.used = 1 := by omega
        · rw [e, Int.zero_mul] at hn0; omega
        · rw [e, Int.one_mul] at hn0; omega
      have em : IntKind.i64.wrap (m.used * m.half) = (n0 : Int) := by rw [← hn0]; rw [wrapI _ (by omega) (by omega)]; omega
      have ea : IntKind.i64.wrap ((n0 : Int) + m.top) = (ax : Int) := by rw [wrapI _ (by omega) (by omega)]; omega
      have HAX := toHid hax
      have hxs : ax + 1 + s < m.W.length := by omega
      have hxl : ax < m.W.length := by omega
      obtain ⟨hw, hhw⟩ : ∃ hw, hw = (s : Int) * 65536 + 0 * 16384 + 0 * 1024 + kd * 4 + 3 := ⟨_, rfl⟩
      have HHW := toHid hhw
      obtain ⟨bk, hbk⟩ : ∃ bk, bk = wz.heap.size := ⟨_, rfl⟩
      rw [← hbk] at K6 hb6 ⊢
      have HBK := toHid hbk
      have HK6 := toHid K6
      have HZ6 := toHid hb6
      clear hax hn0' hn0 hn1 P hu0 hu1 hwl hnb K6 L6 Oz hbz hb6 hhw hbk hbw6
      go_wp2_with fail
      go_quiet (fail)
      obtain ⟨w7, hw7⟩ : ∃ w7, w7 = w6.drewN nq := ⟨_, rfl⟩
      rw [← hw7]
      have hb7 : Below w6.heap.size w6 w7 := by rw [hw7]; exact below_drewN (Below.refl _ _)
      have K7 := HK6.out.below hb7
      have hbz7 := HZ6.out.trans (hb7.mono (by rw [HBK.out]; exact HZ6.out.size))
      clear hw7 c0 c4 c5
      obtain ⟨gw, ck, rfl, hck, hBk, hgk, hgx, hwk, hfk, _⟩ := K7.rowW (by omega)
      have d3 := K7.mem.c3
      have dx := hwk ax hxl
      have df := hfk ax
      have HK7 := toHid K7
      have HZ7 := toHid hbz7
      have HBG := toHid hBk
      have kh : Hid (∀ W, Calls Tryd.prog 20 #[.int .i64 kd, .int .i64 0, .int .i64 0, .int .i64 (s : Int)] W fun ev w' => ev = .returned (.int .u64 hw) ∧ w' = W) := fun W => by
        rw [HHW.out]
        exact headWord_any kd 0 0 (s : Int) HKD.out.1 HKD.out.2 (by omega) (by omega) (by omega) (by omega) (by omega) (by omega) W
      have hxi : (ax : Int) < (m.W.length : Int) := by omega
      have hxi0 : (0 : Int) ≤ (ax : Int) := by omega
      clear K7 hwk hfk hb7 hbz7 hBk hgx
      go_upto_region 19 with fail
      go_cut [] from 118 to 127 (fun wx => Hid (OwnK bk bk (m.setW ax hw) (.slice (some ⟨gw, 0, none⟩) m.W.length ck) uR uK uI uC wx) ∧ Hid (Below bk wz wx))
      case first =>
        go_region_with ((go_at_call 20; refine (kh.out _).mono ?_; rintro ev w8 ⟨rfl, hq⟩; rw [hq]; clear hq w8))
        all_goals go_wp2_with fail
        all_goals go_meet
        all_goals (
          have K8 := HK7.out.setW ax hw
          have hb8 : Below bk wz (w7.setCell ⟨gw, ax, none⟩ (.int .u64 hw)) := HZ7.out.setCell HBG.out _
          exact ⟨by first | exact K8 | exact K8.below (Below.refl _ _).drew | exact K8.below (below_drewN (q := 2) (Below.refl _ _)), by first | exact hb8 | exact hb8.drew | exact below_drewN hb8⟩)
      case rest =>
        obtain ⟨HK8, HZ8⟩ := hcut
        clear d3 dx df HK7 HZ7 kh
        have HLL : Hid (∀ i, i ≤ s → ((m.setW ax hw).cop (ax + 1) (fs.take i)).W.length = m.W.length) := fun i hi => by
          have e1 : (m.setW ax hw).W.length = m.W.length := List.length_set
          have e2 : (fs.take i).length ≤ s := by rw [List.length_take]; omega
          exact (length_splice _ _ _ (by omega)).trans e1
        go_wp2_with fail
        go_loopg [15] (s + 1) (fun gi v15 wr => ∃ i : Nat, gi = s + 1 - i ∧ i ≤ s ∧ v15 = .int .i64 (i : Int) ∧ Hid (OwnK bk bk ((m.setW ax hw).cop (ax + 1) (fs.take i)) (.slice (some ⟨gw, 0, none⟩) m.W.length ck) uR uK uI uC wr) ∧ Hid (Below bk wz wr))
        case atStart => exact ⟨0, rfl, Nat.zero_le _, rfl, by rw [List.take_zero, cop_none]; exact HK8, HZ8⟩
        case round =>
          obtain ⟨i, hgi, hi, hv, HK9, HZ9⟩ := hrel
          subst hv
          have HG := toHid hgi
          have hl := HLL.out i hi
          have hbw9 : Below w.heap.size w wr := HBZ.out.trans (HZ9.out.mono (by rw [HBK.out]; exact HBZ.out.size))
          clear hgi HK8 HZ8
          by_cases hlt : i < s
          · have hI : (i : Int) < (s : Int) := by omega
            have hI0 : (0 : Int) ≤ (i : Int) := by omega
            obtain ⟨x, hx⟩ : ∃ x, fs[i]? = some x := ⟨_, List.getElem?_eq_getElem (by rw [← HSL.out]; exact hlt)⟩
            obtain ⟨y, hy⟩ : ∃ y : Nat, y = ax + 1 + i := ⟨_, rfl⟩
            obtain ⟨_, _, e, _, ff⟩ := HRF.out.below hbw9
            cases e
            obtain ⟨fb, fo, rfl, lf, gf⟩ := ff (by rw [← HSL.out]; omega)
            have xf := gf i _ (words_at hx)
            obtain ⟨g', c', ee, _, _, _, _, hwk, hfk, _⟩ := HK9.out.rowW (by rw [hl]; omega)
            rw [hl] at ee
            cases ee
            have d3 := HK9.out.mem.c3
            have dy := hwk y (by rw [hl]; omega)
            have dfy := hfk y
            have ez1 : IntKind.i64.wrap ((ax : Int) + 1) = (ax : Int) + 1 := wrapI _ (by omega) (by omega)
            have ez2 : IntKind.i64.wrap ((ax : Int) + 1 + (i : Int)) = (y : Int) := by rw [wrapI _ (by omega) (by omega)]; omega
            have hyi : (y : Int) < (m.W.length : Int) := by omega
            have hyi0 : (0 : Int) ≤ (y : Int) := by omega
            have HST : Hid (((m.setW ax hw).cop (ax + 1) (fs.take i)).setW y x = (m.setW ax hw).cop (ax + 1) (fs.take (i + 1))) := by
              show _ = _
              rw [hy]
              exact cop_step hx (by show ax + 1 + i < (m.W.set ax hw).length; rw [List.length_set]; omega)
            generalize ((m.setW ax hw).cop (ax + 1) (fs.take i)).F y = cy at *
            clear hwk hfk gf ff hx hy hl hbw9
            go_wp2_with fail
            go_region
            all_goals go_wp2_with fail
            all_goals go_roundg (s + 1 - (i + 1))
            all_goals (first
              | (have := HG.out; omega)
              | (have K8 := HK9.out.setW y x
                 rw [HST.out] at K8
                 have hb8 : Below bk wz (wr.setCell ⟨gw, y, none⟩ (.int .u64 x)) := HZ9.out.setCell HBG.out _
                 exact ⟨i + 1, rfl, by omega, by go_num, by first | exact K8 | exact K8.below (Below.refl _ _).drew | exact K8.below (below_drewN (q := 2) (Below.refl _ _)), by first | exact hb8 | exact hb8.drew | exact below_drewN hb8⟩))
          · obtain rfl : i = s := by omega
            have ef : fs.take i = fs := List.take_of_length_le (by rw [← HSL.out]; exact Nat.le_refl _)
            have c5 := (HMP.out.below hbw9 HPL.out).c5
            have d5 : wr.cell? ⟨bk, 5, none⟩ = some (.int .i64 m.top) := HK9.out.mem.c5
            have df5 : wr.frozen? ⟨bk, 5, none⟩ = false := (OB.mem HK9.out.2.1).2 5
            have HEF := toHid ef
            clear ef hl hbw9
            go_upto_region 25 with fail
            obtain ⟨wq, hwq⟩ : ∃ wq, wq = wr.setCell ⟨bk, 5, none⟩ (.int .i64 (m.top + 1 + (i : Int))) := ⟨_, rfl⟩
            rw [← hwq]
            have HAL : Hid (((m.setW ax hw).cop (ax + 1) (fs.take i)).setT (m.top + 1 + (i : Int)) = m.allocd kd fs) := by
              show _ = _
              rw [HEF.out, HHW.out, HAX.out, HSL.out]
              exact alloc_same (by rw [← HAX.out]; omega)
            have K9 : OwnK bk bk (m.allocd kd fs) (.slice (some ⟨gw, 0, none⟩) m.W.length ck) uR uK uI uC wq := by rw [hwq, ← HAL.out]; exact HK9.out.setT _
            have hz9 : Below bk wz wq := by rw [hwq]; exact HZ9.out.setCell (Nat.le_refl _) _
            have hz9' : Below wz.heap.size wz wq := by rw [← HBK.out]; exact hz9
            have hbwq := HBZ.out.trans (hz9'.mono HBZ.out.size)
            have O9 := HOZ.out.below hz9'
            have ka : Calls Tryd.prog 21 #[.int .i64 (ax : Int)] wq fun ev w' => ev = .returned (.int .u64 pv) ∧ w' = wq := by
              have k := addrWord_any (ax : Int) (by omega) (by omega) wq
              have e : ((ax : Int) + 1) * 4 = pv := by rw [HAX.out]; exact HPV.out
              rw [e] at k
              exact k
            have hlW : (m.allocd kd fs).W.length = m.W.length := by
              rw [← HAL.out]
              exact HLL.out i (Nat.le_refl _)
            have HLW := toHid hlW
            have HK9' := toHid K9
            have HO9 := toHid O9
            have HBQ := toHid hbwq
            clear hwq K9 O9 hbwq hz9 hz9' d5 df5 c5 hlW HK9 HZ9
            go_wp2_with fail
            refine ka.mono ?_
            rintro ev w8 ⟨rfl, hq⟩
            rw [hq]
            clear hq w8 ka
            go_wp2_with fail
            refine (memBack_any bx (m.allocd kd fs) wq HO9.out.repP.rep (by rw [HLW.out]; omega) (by show m.R.length ≤ 300000; omega) (by show m.K.length ≤ 300000; omega) (by show m.I.length ≤ 300000; omega) (by show m.C.length ≤ 300000; omega)).mono ?_
            rintro ev w8 ⟨bz, rfl, _, Z8, hb8⟩
            go_wp2_with fail
            refine (sameMemory_eq bz 0 bk 0 (m.allocd kd fs) w8 Z8 (HK9'.out.rep.below hb8) (by rw [HLW.out]; omega) (by show m.R.length ≤ 300000; omega) (by show m.K.length ≤ 300000; omega) (by show m.I.length ≤ 300000; omega) (by show m.C.length ≤ 300000; omega)).mono ?_
            rintro ev w9 ⟨rfl, hb9⟩
            have hbf := HBQ.out.trans ((hb8.trans (hb9.mono hb8.size)).mono HBQ.out.size)
            go_wp2_with fail
            go_ret
            exact ⟨rfl, hbf⟩
theorem maNear_nil (w : World) : Calls Tryd.prog 14 #[.pointer none] w fun ev w' => ev = .returned (.bool true) ∧ w' = w := by
  go_enter Tryd.func14, Tryd.ntmps14
  go_wp2
  go_ret
  exact ⟨rfl, rfl⟩
set_option maxRecDepth 100000 in
theorem memAllocs_nil (a : Nat → Addr) (kd : Int) (fs : List Int) (hfl : fs.length ≤ 200) (af : Option Addr) (cf : Nat) (w : World) (E : Errs a w) (RF : RowV w (.slice af fs.length cf) fs.length (wordsV fs)) : Calls Tryd.prog 4 #[.pointer none, .int .i64 kd, .slice af fs.length cf] w fun ev w' => ev = .returned (.bool true) ∧ Below w.heap.size w w' := by
  obtain ⟨i0, hi0, hz0, hz1, hz2⟩ : ∃ i0, Tryd.prog.info? 40 = some i0 ∧ i0.zero = some (.int .u64 0) ∧ i0.size = 1 ∧ i0.bytes = 8 := ⟨_, rfl, rfl, rfl, rfl⟩
  have HE := toHid E
  have HRF := toHid RF
  obtain ⟨s, hs⟩ : ∃ s : Nat, s = fs.length := ⟨_, rfl⟩
  have HSL := toHid hs
  have hs1 : s ≤ 200 := by omega
  have hsI : ¬ 200 < (s : Int) := by omega
  rw [← hs]
  clear E RF hs hfl
  go_enter Tryd.func4, Tryd.ntmps4
  go_wp2_with fail
  refine (fresh_any w).mono ?_
  rintro ev w1 ⟨rfl, hb1⟩
  go_wp2_with fail
  refine (maNear_nil w1).mono ?_
  rintro ev w2 ⟨rfl, hq⟩
  rw [hq]
  clear hq w2
  go_wp2_with fail
  refine (checkOf_nil w1).mono ?_
  rintro ev w2 ⟨rfl, hb2⟩
  have hb02 := hb1.trans (hb2.mono hb1.size)
  clear hb1 hb2
  go_wp2_with fail
  refine (memOf_nil w2).mono ?_
  rintro ev w3 ⟨rfl, hq⟩
  rw [hq]
  clear hq w3
  have HPOS : Hid (0 < s → ∃ ad, af = some ad ∧ ∀ j u, (wordsV fs)[j]? = some u → w2.cell? (ad.add j) = some u) := fun h => by
    obtain ⟨ad, e1, _, e3⟩ := (HRF.out.below hb02).src (by rw [← HSL.out]; exact h)
    exact ⟨ad, e1, e3⟩
  have HLN : Hid ((wordsV fs).length = s * 1) := by show _ = _; rw [lenV, ← HSL.out]; omega
  have HB02 := toHid hb02
  clear hb02
  go_wp2_with (at_builtin; refine wpList_append_nil rfl _ _ _ rfl 40 i0 (.int .u64 0) 1 8 Tryd.underlying32 hi0 hz0 hz1 hz2 rfl (by decide) rfl af s cf (wordsV fs) rfl HLN.out HPOS.out (one_words fs) (by unfold maxLen; omega) (by omega) ?_; intro ao4 cap4 w4 hown4 hgr4)
  have hb4 : Below w2.heap.size w2 w4 := (Below.refl _ _).grown hgr4 (Nat.le_refl _) (fun k hk => by cases hk)
  have hb04 := HB02.out.trans (hb4.mono HB02.out.size)
  clear hgr4 hown4 hb4
  refine (alloc_nil a kd _ w4 (HE.out.below hb04).me).mono ?_
  rintro ev w5 ⟨rfl, hb5⟩
  have hb05 := hb04.trans (hb5.mono hb04.size)
  have HB05 := toHid hb05
  clear hb04 hb5 hb05
  go_wp2_with fail
  go_quiet (fail)
  go_wp2_with fail
  have hb06 : Below w.heap.size w (w5.drewN nq) := below_drewN HB05.out
  refine (coded_any a 2 (by decide) _ (HE.out.below hb06)).mono ?_
  rintro ev w6 ⟨rfl, hb6⟩
  go_wp2_with fail
  go_ret
  exact ⟨rfl, hb06.trans (hb6.mono hb06.size)⟩
set_option maxRecDepth 100000 in
theorem memAllocs_long (x : Option Addr) (kd : Int) (s : Nat) (hs : 200 < s) (af : Option Addr) (cf : Nat) (w : World) (hx : ∀ w', Below w.heap.size w w' → ∃ b, Calls Tryd.prog 14 #[.pointer x] w' fun ev w'' => ev = .returned (.bool b) ∧ w'' = w') : Calls Tryd.prog 4 #[.pointer x, .int .i64 kd, .slice af s cf] w fun ev w' => ev = .returned (.bool true) ∧ Below w.heap.size w w' := by
  have hsI : 200 < (s : Int) := by omega
  go_enter Tryd.func4, Tryd.ntmps4
  go_wp2_with fail
  refine (fresh_any w).mono ?_
  rintro ev w1 ⟨rfl, hb1⟩
  obtain ⟨b, kn⟩ := hx w1 hb1
  cases b with
  | true =>
    go_wp2_with fail
    refine kn.mono ?_
    rintro ev w2 ⟨rfl, hq⟩
    rw [hq]
    clear hq w2
    go_wp2_with fail
    go_ret
    exact ⟨rfl, hb1⟩
  | false =>
    go_wp2_with fail
    refine kn.mono ?_
    rintro ev w2 ⟨rfl, hq⟩
    rw [hq]
    clear hq w2
    go_wp2_with fail
    go_ret
    exact ⟨rfl, hb1⟩
set_option maxRecDepth 100000 in
theorem memAllocs_far (p o : Nat) (m : MD) (kd : Int) (v : Value) (w : World) (h : RepM p o m w) (hn : ¬ (m.W.length ≤ 1000 ∧ m.R.length ≤ 100 ∧ m.K.length ≤ 100 ∧ m.I.length ≤ 100 ∧ m.C.length ≤ 1000)) : Calls Tryd.prog 4 #[.pointer (some ⟨p, o, none⟩), .int .i64 kd, v] w fun ev w' => ev = .returned (.bool true) ∧ Below w.heap.size w w' := by
  go_enter Tryd.func4, Tryd.ntmps4
  go_wp2_with fail
  refine (fresh_any w).mono ?_
  rintro ev w1 ⟨rfl, hb⟩
  go_wp2_with fail
  refine (near_no p o m w1 (h.below hb) hn).mono ?_
  rintro ev w2 ⟨rfl, hq⟩
  rw [hq]
  clear hq w2
  go_wp2_with fail
  go_ret
  exact ⟨rfl, hb⟩
theorem memAllocs_any (a : Nat → Addr) (p o : Nat) (m : MD) (kd : Int) (fs : List Int) (hfu : U64 fs) (af : Option Addr) (cf : Nat) (w : World) (E : Errs a w) (h : RepM p o m w) (RF : RowV w (.slice af fs.length cf) fs.length (wordsV fs)) (h64 : MD64 m) : Calls Tryd.prog 4 #[.pointer (some ⟨p, o, none⟩), .int .i64 kd, .slice af fs.length cf] w fun ev w' => ev = .returned (.bool true) ∧ Below w.heap.size w w' := by
  by_cases hn : m.W.length ≤ 1000 ∧ m.R.length ≤ 100 ∧ m.K.length ≤ 100 ∧ m.I.length ≤ 100 ∧ m.C.length ≤ 1000
  · by_cases hs : fs.length ≤ 200
    · exact memAllocs_near a p o m kd fs hfu hs af cf w E h RF h64 hn.1 hn.2.1 hn.2.2.1 hn.2.2.2.1 hn.2.2.2.2
    · exact memAllocs_long _ kd fs.length (by omega) af cf w (fun w' hb => ⟨true, near_yes p o m w' (h.below hb) hn.1 hn.2.1 hn.2.2.1 hn.2.2.2.1 hn.2.2.2.2⟩)
  · exact memAllocs_far p o m kd _ w h hn
theorem memAllocs_none (a : Nat → Addr) (kd : Int) (fs : List Int) (af : Option Addr) (cf : Nat) (w : World) (E : Errs a w) (RF : RowV w (.slice af fs.length cf) fs.length (wordsV fs)) : Calls Tryd.prog 4 #[.pointer none, .int .i64 kd, .slice af fs.length cf] w fun ev w' => ev = .returned (.bool true) ∧ Below w.heap.size w w' := by
  by_cases hs : fs.length ≤ 200
  · exact memAllocs_nil a kd fs hs af cf w E RF
  · exact memAllocs_long _ kd fs.length (by omega) af cf w (fun w' _ => ⟨true, maNear_nil w'⟩)
end Go.Proofs.YtbkmgempejckeaaDoor
