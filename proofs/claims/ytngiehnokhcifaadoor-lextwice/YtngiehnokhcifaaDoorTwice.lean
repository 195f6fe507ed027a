/- The law LexTwice: its walk. -/
import Derived.Test.YtngiehnokhcifaaDoorTextC
namespace Go.Proofs.YtngiehnokhcifaaDoor
open Go.RowKit

theorem depth_step {d : Nat} {x : ByteArray × ByteArray × Nat} {r : List (ByteArray × ByteArray × Nat)} (h : depthFrom d (x :: r) = some 0) : (indB x.1 = true ∧ depthFrom (d + 1) r = some 0) ∨ (indB x.1 = false ∧ dedB x.1 = true ∧ 0 < d ∧ depthFrom (d - 1) r = some 0) ∨ (indB x.1 = false ∧ dedB x.1 = false ∧ depthFrom d r = some 0) := by
  unfold depthFrom at h
  cases h1 : indB x.1
  · rw [h1] at h
    cases h2 : dedB x.1
    · rw [h2] at h
      exact .inr (.inr ⟨rfl, rfl, by simpa using h⟩)
    · rw [h2] at h
      simp only [Bool.false_eq_true, if_false, if_true] at h
      split at h
      · cases h
      · exact .inr (.inl ⟨rfl, rfl, by omega, h⟩)
  · rw [h1] at h
    exact .inl ⟨rfl, by simpa using h⟩

theorem place_le {l : List (ByteArray × ByteArray × Nat)} (h : l.Pairwise fun x y => x.2.2 ≤ y.2.2) {j : Nat} {x y : ByteArray × ByteArray × Nat} (hx : l[j]? = some x) (hy : l[j + 1]? = some y) : x.2.2 ≤ y.2.2 := by
  obtain ⟨h1, rfl⟩ := List.getElem?_eq_some_iff.1 hx
  obtain ⟨h2, rfl⟩ := List.getElem?_eq_some_iff.1 hy
  exact List.pairwise_iff_getElem.1 h j (j + 1) h1 h2 (by omega)

theorem kt_get {l m : List (ByteArray × ByteArray × Nat)} (h : ktOf l = ktOf m) {j : Nat} {x y : ByteArray × ByteArray × Nat} (hx : l[j]? = some x) (hy : m[j]? = some y) : y.1.toList = x.1.toList ∧ y.2.1.toList = x.2.1.toList := by
  have e1 : (ktOf l)[j]? = (ktOf m)[j]? := by rw [h]
  unfold ktOf at e1
  rw [List.getElem?_map, List.getElem?_map, hx, hy] at e1
  simp at e1
  exact ⟨e1.1.symm, e1.2.symm⟩

set_option maxHeartbeats 4000000 in
theorem lexTwice_any (s : ByteArray) (a0 a1 a2 : Addr) (w : World) (E : TEnv w.heap.size a0 a1 a2 w) :
    Calls Tryd.prog 4 #[.string s] w fun ev w' => ev = .returned (.bool true) ∧ Below w.heap.size w w' := by
  by_cases hs : 3000 < s.size
  · have hI : (3000 : Int) < (s.size : Int) := by omega
    go_enter Tryd.func4, Tryd.ntmps4
    go_wp2_with fail
    refine (one_any a0 a1 w E.lenv).mono ?_
    rintro ev w1 ⟨rfl, hb1⟩
    go_wp2_with fail
    go_ret
    exact ⟨rfl, hb1⟩
  have hI : ¬ (3000 : Int) < (s.size : Int) := by omega
  go_enter Tryd.func4, Tryd.ntmps4
  go_wp2_with fail
  refine (one_any a0 a1 w E.lenv).mono ?_
  rintro ev w1 ⟨rfl, hb1⟩
  have E1 := (E.below hb1).up hb1.size
  go_wp2_with fail
  refine (lex_told s a0 a1 w1 E1.lenv (by omega)).mono ?_
  rintro ev w2 ⟨v5, v6, rfl, T2, hb2⟩
  have hb2w := hb1.trans (hb2.mono hb1.size)
  have E2 := (E.below hb2w).up hb2w.size
  unfold Told at T2
  cases hl : lexP s with
  | error e =>
    rw [hl] at T2
    obtain ⟨rfl, b, rfl⟩ := T2
    clear hl
    go_wp2_with fail
    go_ret
    exact ⟨rfl, hb2w⟩
  | ok x =>
    obtain ⟨n, tk⟩ := x
    rw [hl] at T2
    obtain ⟨l, rfl, rfl, hmono, hdeep, hshort⟩ := lexP_fine hl
    obtain ⟨g, cap, rfl, rfl, hgB, hgl, hc⟩ := T2
    have hlb := lexP_bd hl
    have HC : Hid (∀ k v, (cellsOf l)[k]? = some v → w2.cell? ⟨g, k, none⟩ = some v) := hc
    have HM : Hid (l.Pairwise fun x y => x.2.2 ≤ y.2.2) := hmono
    have HS : Hid (∀ x ∈ l, x.2.1.size ≤ 6000) := fun x hx => by have := hshort x hx; omega
    clear hl hc hmono hshort
    go_wp2_with fail
    go_loopg [6, 7] (l.length + 1) (fun gk v6 v7 wr => ∃ j d : Nat, gk = l.length + 1 - j ∧ j ≤ l.length ∧ v6 = .int .i64 (d : Int) ∧ v7 = .int .i64 (j : Int) ∧ d ≤ j ∧ depthFrom d (l.drop j) = some 0 ∧ ∃ q, wr = w2.drewN q)
    case atStart => exact ⟨0, 0, rfl, Nat.zero_le _, rfl, rfl, Nat.le_refl _, hdeep, 0, rfl⟩
    case round =>
      obtain ⟨j, d, hgk, hj, hv6, hv7, hd, hdf, q, hq⟩ := hrel
      subst hv6 hv7
      have HG : Hid (gk = l.length + 1 - j) := hgk
      have HQ : Hid (wr = w2.drewN q) := hq
      clear hgk hq hdeep
      have hj0 : (0 : Int) ≤ (j : Int) := by omega
      have hd0 : decide ((d : Int) < 0) = false := by simp
      by_cases hlt : j < l.length
      · have hjI : (j : Int) < (l.length : Int) := by omega
        obtain ⟨y, hy⟩ : ∃ y, l[j]? = some y := ⟨l[j], by simp [hlt]⟩
        obtain ⟨e1, e2, e3⟩ := cells_get l j y hy
        have hD : l.drop j = y :: l.drop (j + 1) := by
          rw [List.drop_eq_getElem_cons hlt]
          obtain ⟨_, e⟩ := List.getElem?_eq_some_iff.1 hy
          rw [e]
        rw [hD] at hdf
        have hst := depth_step hdf
        clear hdf hD
        have c1 := (congrArg (fun x => World.cell? x _) HQ.out).trans (HC.out _ _ e1)
        have c3 := (congrArg (fun x => World.cell? x _) HQ.out).trans (HC.out _ _ e3)
        clear e1 e2 e3
        by_cases hz0 : j = 0
        · subst hz0
          clear hy
          obtain ⟨k, t, o⟩ := y
          unfold indB dedB at hst
          simp only at hst c1 c3
          rcases hst with ⟨k1, hdf⟩ | ⟨k1, k2, h0, hdf⟩ | ⟨k1, k2, hdf⟩
          · have k2 : (k.toList == [100, 101, 100, 101, 110, 116]) = false := ind_ded k1
            have HF : Hid (depthFrom (d + 1) (l.drop (0 + 1)) = some 0) := hdf
            clear hdf
            have hdd : decide ((d : Int) + 1 < 0) = false := by simp; omega
            go_wp2
            go_quiet (fail)
            go_wp2
            go_roundg (l.length + 1 - (0 + 1))
            case measure => have := HG.out; omega
            case rel => exact ⟨0 + 1, d + 1, rfl, by omega, by go_num, by go_num, by omega, HF.out, q + nq, by rw [HQ.out, World.drewN_drewN]⟩
          · omega
          · have HF : Hid (depthFrom d (l.drop (0 + 1)) = some 0) := hdf
            clear hdf
            go_wp2
            go_quiet (fail)
            go_wp2
            go_roundg (l.length + 1 - (0 + 1))
            case measure => have := HG.out; omega
            case rel => exact ⟨0 + 1, d, rfl, by omega, rfl, by go_num, by omega, HF.out, q + nq, by rw [HQ.out, World.drewN_drewN]⟩
        · obtain ⟨j', hj'⟩ : ∃ j', j = j' + 1 := ⟨j - 1, by omega⟩
          obtain ⟨z, hz⟩ : ∃ z, l[j']? = some z := ⟨l[j']'(by omega), by simp [show j' < l.length by omega]⟩
          obtain ⟨_, _, d3⟩ := cells_get l j' z hz
          have hle := place_le HM.out hz (by rw [← hj']; exact hy)
          have b3 := (congrArg (fun x => World.cell? x _) HQ.out).trans (HC.out _ _ d3)
          have hpos : (0 : Int) < (j : Int) := by omega
          have hposN : 0 < j := by omega
          have hjm : (j : Int) - 1 = (j' : Int) := by omega
          have hjm0 : (0 : Int) ≤ (j' : Int) := by omega
          have hjml : (j' : Int) < (l.length : Int) := by omega
          clear hy hz d3 hj' hz0
          obtain ⟨k, t, o⟩ := y
          obtain ⟨k', t', o'⟩ := z
          simp only at hle b3
          have hleN : ¬ o < o' := by omega
          unfold indB dedB at hst
          simp only at hst c1 c3
          rcases hst with ⟨k1, hdf⟩ | ⟨k1, k2, h0, hdf⟩ | ⟨k1, k2, hdf⟩
          · have k2 : (k.toList == [100, 101, 100, 101, 110, 116]) = false := ind_ded k1
            have HF : Hid (depthFrom (d + 1) (l.drop (j + 1)) = some 0) := hdf
            clear hdf
            have hdd : decide ((d : Int) + 1 < 0) = false := by simp; omega
            go_wp2
            go_quiet (fail)
            go_wp2
            go_roundg (l.length + 1 - (j + 1))
            case measure => have := HG.out; omega
            case rel => exact ⟨j + 1, d + 1, rfl, by omega, by go_num, by go_num, by omega, HF.out, q + nq, by rw [HQ.out, World.drewN_drewN]⟩
          · have HF : Hid (depthFrom (d - 1) (l.drop (j + 1)) = some 0) := hdf
            clear hdf
            have hdd : decide ((d : Int) - 1 < 0) = false := by simp; omega
            go_wp2
            go_quiet (fail)
            go_wp2
            go_roundg (l.length + 1 - (j + 1))
            case measure => have := HG.out; omega
            case rel => exact ⟨j + 1, d - 1, rfl, by omega, by congr 1; omega, by go_num, by omega, HF.out, q + nq, by rw [HQ.out, World.drewN_drewN]⟩
          · have HF : Hid (depthFrom d (l.drop (j + 1)) = some 0) := hdf
            clear hdf
            go_wp2
            go_quiet (fail)
            go_wp2
            go_roundg (l.length + 1 - (j + 1))
            case measure => have := HG.out; omega
            case rel => exact ⟨j + 1, d, rfl, by omega, rfl, by go_num, by omega, HF.out, q + nq, by rw [HQ.out, World.drewN_drewN]⟩
      · obtain rfl : j = l.length := by omega
        have hd00 : d = 0 := by
          rw [List.drop_length] at hdf
          simpa [depthFrom] using hdf
        subst hd00
        have hjI : ¬ ((l.length : Nat) : Int) < (l.length : Int) := by omega
        have hbr : Below w.heap.size w wr := by rw [HQ.out]; exact below_drewN hb2w q
        have Er := (E.below hbr).up hbr.size
        have hcr : ∀ k v, (cellsOf l)[k]? = some v → wr.cell? ⟨g, k, none⟩ = some v := fun k v h => (congrArg (fun x => World.cell? x _) HQ.out).trans (HC.out _ _ h)
        have hglr : g < wr.heap.size := by rw [HQ.out]; exact hgl
        clear hdf E2
        go_wp2_with fail
        refine (text_any l g cap (by omega) HS.out a0 a1 a2 wr Er hglr hcr).mono ?_
        rintro ev w3 ⟨hT, hb3⟩
        have hb3w := hbr.trans (hb3.mono hbr.size)
        rcases hT with ⟨rfl, _⟩ | ⟨t, ⟨hw, m, hlt2, hkt⟩, rfl⟩
        · go_wp2_with fail
          go_ret
          exact ⟨rfl, hb3w⟩
        · have hts : t.size ≤ 6000 := by
            have := written_len l 0 false [] _ (by simp) hw
            simpa using this
          have E3 := (E.below hb3w).up hb3w.size
          have HC3 : Hid (∀ k v, (cellsOf l)[k]? = some v → w3.cell? ⟨g, k, none⟩ = some v) := fun k v h => (hb3.cell (p := ⟨g, k, none⟩) hglr).trans (hcr k v h)
          have hg3 : g < w3.heap.size := Nat.lt_of_lt_of_le hglr hb3.size
          have HL : Hid (lexP t = .ok (m.length, cellsOf m)) := hlt2
          have HK : Hid (ktOf l = ktOf m) := hkt
          have hlm : l.length = m.length := by simpa [ktOf] using congrArg List.length hkt
          clear hw hlt2 hkt hcr Er
          go_wp2_with fail
          refine (lex_told t a0 a1 w3 E3.lenv hts).mono ?_
          rintro ev w4 ⟨v9, v10, rfl, T4, hb4⟩
          have hb4w := hb3w.trans (hb4.mono hb3w.size)
          unfold Told at T4
          rw [HL.out] at T4
          obtain ⟨g', cap', rfl, rfl, _, _, hc4⟩ := T4
          have HD : Hid (∀ k v, (cellsOf m)[k]? = some v → w4.cell? ⟨g', k, none⟩ = some v) := hc4
          have HC4 : Hid (∀ k v, (cellsOf l)[k]? = some v → w4.cell? ⟨g, k, none⟩ = some v) := fun k v h => (hb4.cell (p := ⟨g, k, none⟩) hg3).trans (HC3.out k v h)
          have hlmI : (m.length : Int) = (l.length : Int) := by omega
          clear hc4
          go_wp2_with fail
          go_loopg [10] (l.length + 1) (fun gk v10 wx => ∃ j : Nat, gk = l.length + 1 - j ∧ j ≤ l.length ∧ v10 = .int .i64 (j : Int) ∧ ∃ q, wx = w4.drewN q)
          case atStart => exact ⟨0, rfl, Nat.zero_le _, rfl, 0, rfl⟩
          case round =>
            obtain ⟨j, hgj, hj2, hvj, q2, hq2⟩ := hrel
            subst hvj
            have HJ : Hid (gk = l.length + 1 - j) := hgj
            have HQ2 : Hid (wr = w4.drewN q2) := hq2
            clear hgj hq2
            have hjz : (0 : Int) ≤ (j : Int) := by omega
            by_cases hjl : j < l.length
            · have hjI1 : (j : Int) < (l.length : Int) := by omega
              have hjI2 : (j : Int) < (m.length : Int) := by omega
              obtain ⟨y, hy⟩ : ∃ y, l[j]? = some y := ⟨l[j], by simp [hjl]⟩
              obtain ⟨z, hz⟩ : ∃ z, m[j]? = some z := ⟨m[j]'(by omega), by simp [show j < m.length by omega]⟩
              obtain ⟨e1, e2, _⟩ := cells_get l j y hy
              obtain ⟨d1, d2, _⟩ := cells_get m j z hz
              obtain ⟨kk, kt⟩ := kt_get HK.out hy hz
              have c1 := (congrArg (fun x => World.cell? x _) HQ2.out).trans (HC4.out _ _ e1)
              have c2 := (congrArg (fun x => World.cell? x _) HQ2.out).trans (HC4.out _ _ e2)
              have b1 := (congrArg (fun x => World.cell? x _) HQ2.out).trans (HD.out _ _ d1)
              have b2 := (congrArg (fun x => World.cell? x _) HQ2.out).trans (HD.out _ _ d2)
              have n1 : (z.1.toList != y.1.toList) = false := by rw [kk]; simp
              have n2 : (z.2.1.toList != y.2.1.toList) = false := by rw [kt]; simp
              have m1 : (z.1.toList == y.1.toList) = true := by rw [kk]; simp
              have m2 : (z.2.1.toList == y.2.1.toList) = true := by rw [kt]; simp
              clear hy hz e1 e2 d1 d2 kk kt
              obtain ⟨k, x, o⟩ := y
              obtain ⟨k', x', o'⟩ := z
              simp only at c1 c2 b1 b2 n1 n2 m1 m2
              go_wp2
              go_quiet (fail)
              go_wp2
              go_roundg (l.length + 1 - (j + 1))
              case measure => have := HJ.out; omega
              case rel => exact ⟨j + 1, rfl, by omega, by go_num, q2 + nq, by rw [HQ2.out, World.drewN_drewN]⟩
            · have hjI1 : ¬ (j : Int) < (l.length : Int) := by omega
              go_wp2
              go_ret
              exact ⟨rfl, by rw [HQ2.out]; exact below_drewN hb4w q2⟩
end Go.Proofs.YtngiehnokhcifaaDoor
