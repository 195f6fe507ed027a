/- Package mem: IDs (holdIDs), by a contract. -/
import Derived.Test.YtnenggkgfhgcnaaGreatDoorJoE
import Derived.Maps.OwnOps
import Derived.Maps.Views
import Derived.Test.YtnenggkgfhgcnaaGreatDoorMemS
namespace Go.Proofs.YtnenggkgfhgcnaaGreatDoor
open Go.RowKit Go.Maps

theorem lawU : Keyed Tryz.prog 50 := int_keyed Tryz.underlying50
theorem lawI : Keyed Tryz.prog 3 := int_keyed Tryz.underlying3
theorem zeroI (w : World) : (zeroValue 3).run Tryz.prog w = .ok (.int .i64 0) w := by kernel_rfl
theorem grown_of_below {w w' : World} (hb : Below w.heap.size w w') : w.grownBy w' none := ⟨hb.os, hb.tape, hb.output, hb.size, fun k hk _ => hb.block k hk⟩
/-- A map that counts. -/
def Counts (q : IntKind) (D : DataW Unit) (l : List Int) : Prop := IsMap D ∧ ∀ x, D.atKey (.int q x) (.lit (.int .i64 0)) = .lit (.int .i64 (l.count x : Nat))
theorem counts_none (q : IntKind) : Counts q (.map []) [] := ⟨⟨[], rfl⟩, fun _ => rfl⟩
theorem counts_put {q : IntKind} {D : DataW Unit} {l : List Int} (h : Counts q D l) (x : Int) : Counts q (D.put (.int q x) (.lit (.int .i64 ((l.count x : Nat) + 1)))) (l ++ [x]) := by
  refine ⟨h.1.put _ _, fun y => ?_⟩
  by_cases e : y = x
  · subst e
    rw [atKey_put_same h.1 (by trivial), List.count_append]
    simp
  · rw [atKey_put_other (fun h => e (by cases h; rfl)), h.2 y, List.count_append, List.count_singleton]
    have : (x == y) = false := by rw [beq_eq_false_iff_ne]; exact fun h => e h.symm
    simp [this]
/-- Is the i-th ID as it must be? -/
def idB (nH : Nat) (hb : Nat → Bool) (l : List (Int × Int)) (i : Nat) : Bool := match l[i]? with
  | some x => ptrB nH hb x.1 && (decide (1 ≤ x.2) && (decide (((l.take (i + 1)).map (·.1)).count x.1 ≤ 1) && decide (((l.take (i + 1)).map (·.2)).count x.2 ≤ 1)))
  | none => true
def idsB (nH : Nat) (hb : Nat → Bool) (l : List (Int × Int)) : Bool := (List.range l.length).all (idB nH hb l)
def Ids64 (l : List (Int × Int)) : Prop := ∀ x ∈ l, (0 ≤ x.1 ∧ x.1 < 18446744073709551616) ∧ (-9223372036854775808 ≤ x.2 ∧ x.2 < 9223372036854775808)
theorem wf_u {x : Int} (h0 : 0 ≤ x) (h1 : x < 18446744073709551616) : (Lit.int .u64 x).wf = true := WalkArith.wf_u64 (by omega)
theorem wf_i {x : Int} (h0 : -9223372036854775808 ≤ x) (h1 : x < 9223372036854775808) : (Lit.int .i64 x).wf = true := WalkArith.wf_i64 (by omega)
set_option maxHeartbeats 8000000 in
set_option maxRecDepth 100000 in
theorem holdIDs_any (a : Nat → Addr) (bh nH : Nat) (hb : Nat → Bool) (hn : nH ≤ 300000) (l : List (Int × Int)) (hl : l.length ≤ 300000) (hu : Ids64 l) (ao : Option Addr) (cap : Nat) (w : World) (E : WErr a w) (H : HeadsAt w bh nH hb) (hbl : bh < w.heap.size) (hR : RowV w (.slice ao l.length cap) l.length (idsV l)) :
    Calls Tryz.prog 76 #[.slice (some ⟨bh, 0, none⟩) nH nH, .slice ao l.length cap] w fun ev w' => ev = .returned (.bool (idsB nH hb l)) ∧ Below w.heap.size w w' := by
  have hmm := @run_makeMap Tryz.prog
  have HR := toHid hR
  have HU := toHid hu
  have HH := toHid H
  have HE := toHid E
  clear hR hu H E
  go_enter Tryz.func76, Tryz.ntmps76
  go_wp2_with fail
  go_loopg [13] (l.length + 1) (fun gk v13 wr => ∃ (k : Nat) (D1 D2 : DataW Unit), gk = l.length + 1 - k ∧ k ≤ l.length ∧ v13 = .int .i64 (k : Int) ∧ Below w.heap.size w wr ∧ Hid ((List.range k).all (idB nH hb l) = true) ∧ Hid (wr.ownsMap Tryz.prog 50 (plainElem Tryz.prog 3) w.heap.size k D1) ∧ Hid (wr.ownsMap Tryz.prog 3 (plainElem Tryz.prog 3) (w.heap.size + 1) k D2) ∧ Hid (Counts .u64 D1 ((l.take k).map (·.1))) ∧ Hid (Counts .i64 D2 ((l.take k).map (·.2))))
  case atStart =>
    have m1 := (World.ownsMap_made w Tryz.prog 50 (plainElem (H := Unit) Tryz.prog 3)).alloc (.map #[] 0)
    have m2 := World.ownsMap_made (w.alloc (.map #[] 0)) Tryz.prog 3 (plainElem (H := Unit) Tryz.prog 3)
    have e : (w.alloc (.map #[] 0)).heap.size = w.heap.size + 1 := by simp
    rw [e] at m2
    exact ⟨0, .map [], .map [], rfl, Nat.zero_le _, rfl, two_below w _ _, rfl, m1, m2, counts_none _, counts_none _⟩
  case round =>
    obtain ⟨k, D1, D2, hgk, hk, hv13, hb1, hal, hm1, hm2, hc1, hc2⟩ := hrel
    subst hv13
    have HG := toHid hgk
    clear hgk hmm
    by_cases hlt : k < l.length
    · have hI : (k : Int) < (l.length : Int) := by omega
      have hI0 : (0 : Int) ≤ (k : Int) := by omega
      obtain ⟨⟨x, y⟩, hx⟩ : ∃ x, l[k]? = some x := ⟨_, List.getElem?_eq_getElem hlt⟩
      obtain ⟨_, _, e, _, f1⟩ := HR.out
      cases e
      obtain ⟨p1, o1, rfl, l1, g1⟩ := f1 (by omega)
      have r1 : wr.cell? ⟨p1, o1 + k * 2, none⟩ = some (.int .u64 x) := (hb1.cell (p := ⟨p1, o1 + k * 2, none⟩) l1).trans (g1 _ _ (ids_at hx).1)
      have r2 : wr.cell? ⟨p1, o1 + k * 2 + 1, none⟩ = some (.int .i64 y) := (hb1.cell (p := ⟨p1, o1 + k * 2 + 1, none⟩) l1).trans (by rw [Nat.add_assoc]; exact g1 _ _ (ids_at hx).2)
      obtain ⟨⟨xu0, xu1⟩, yu0, yu1⟩ := HU.out (x, y) (List.mem_of_getElem? hx)
      have hkx : Hid (keyOf Tryz.prog 50 (.int .u64 x) = some (.int .u64 x)) := keyOf_int_mk Tryz.underlying50 (wf_u xu0 xu1)
      have hky : Hid (keyOf Tryz.prog 3 (.int .i64 y) = some (.int .i64 y)) := keyOf_int_mk Tryz.underlying3 (wf_i yu0 yu1)
      have e1 : (l.take (k + 1)).map (·.1) = (l.take k).map (·.1) ++ [x] := by rw [List.take_add_one, hx]; simp
      have e2 : (l.take (k + 1)).map (·.2) = (l.take k).map (·.2) ++ [y] := by rw [List.take_add_one, hx]; simp
      have HB : Hid (idB nH hb l k = (ptrB nH hb x && (decide (1 ≤ y) && (decide (((l.take k).map (·.1)).count x + 1 ≤ 1) && decide (((l.take k).map (·.2)).count y + 1 ≤ 1))))) := by
        show _ = _
        unfold idB
        rw [hx]
        simp only [e1, e2, List.count_append, List.count_singleton_self]
      have HT1 := toHid e1
      have HT2 := toHid e2
      have k1 : ((l.take k).map (·.1)).count x ≤ 300000 := Nat.le_trans (List.count_le_length) (by simp; omega)
      have k2 : ((l.take k).map (·.2)).count y ≤ 300000 := Nat.le_trans (List.count_le_length) (by simp; omega)
      have hA1 := hc1.out.2 x
      have hA2 := hc2.out.2 y
      have HP1 := toHid (counts_put hc1.out x)
      have HP2 := toHid (counts_put hc2.out y)
      generalize ((l.take k).map (·.1)).count x = n1 at *
      generalize ((l.take k).map (·.2)).count y = n2 at *
      have HA1 := toHid hA1
      have HA2 := toHid hA2
      clear f1 g1 hx e1 e2 hA1 hA2
      have bl1 := hm1.out.lt
      have bl2 := hm2.out.lt
      have HM1 := toHid (hm1.out.alloc (.cells #[.int .u64 x, .int .i64 y] 64))
      have HM2 := toHid (hm2.out.alloc (.cells #[.int .u64 x, .int .i64 y] 64))
      have HI := toHid (heap_alloc_new wr (.cells #[.int .u64 x, .int .i64 y] 64))
      have HBA := toHid (hb1.alloc hb1.size (.cells #[.int .u64 x, .int .i64 y] 64))
      have J1 := hc1.out.1
      have J2 := hc2.out.1
      clear hm1 hm2 hc1 hc2
      go_wp2_with (first
        | (at_lookup; refine wpList_lookup_own_int _ rfl _ _ 101 rfl 50 3 .i64 lawU Tryz.underlying101 Tryz.underlying3 (zeroI _) w.heap.size k _ rfl HM1.out _ _ rfl hkx.out ?_; intro c hat hwc; obtain rfl : c = (n1 : Int) := (by have e := HA1.out.symm.trans hat; cases e; rfl); clear hat hwc)
        | (at_mapUpdate; refine wpList_mapUpdate_own _ rfl _ _ _ 101 rfl 50 3 lawU Tryz.underlying101 _ w.heap.size k _ rfl HM1.out (by unfold maxLen; omega) _ _ _ rfl rfl hkx.out _ [] (plainElem_int Tryz.underlying3 (wf_i (by omega) (by omega))) ?_; intro w1 hown1 hgrow1; have HO1 := toHid hown1; have HM2' := toHid (HM2.out.kept hgrow1 (by simp)); have hid1 := (hgrow1.block wr.heap.size (by simp) (by simp; omega)).trans HI.out; have HI1 := toHid hid1; have q0 := cell_of_row _ _ 0 _ _ _ hid1; have q1 := cell_of_row _ _ 1 _ _ _ hid1; have HB1 := toHid (HBA.out.grown hgrow1 HBA.out.size (fun j hj => by cases hj; exact Nat.le_refl _)); clear hown1 hgrow1 hid1)
        | (at_lookup; refine wpList_lookup_own_int _ rfl _ _ 70 rfl 3 3 .i64 lawI Tryz.underlying70 Tryz.underlying3 (zeroI _) (w.heap.size + 1) k _ rfl HM2'.out _ _ rfl hky.out ?_; intro c hat hwc; obtain rfl : c = (n2 : Int) := (by have e := HA2.out.symm.trans hat; cases e; rfl); clear hat hwc)
        | (at_mapUpdate; refine wpList_mapUpdate_own _ rfl _ _ _ 70 rfl 3 3 lawI Tryz.underlying70 _ (w.heap.size + 1) k _ rfl HM2'.out (by unfold maxLen; omega) _ _ _ rfl rfl hky.out _ [] (plainElem_int Tryz.underlying3 (wf_i (by omega) (by omega))) ?_; intro w2 hown2 hgrow2; have HO2 := toHid hown2; have HO1' := toHid (HO1.out.kept hgrow2 (by simp)); have hid2 := (hgrow2.block wr.heap.size (lt_of_heap HI1.out) (by simp; omega)).trans HI1.out; have HI2 := toHid hid2; have p0 := cell_of_row _ _ 0 _ _ _ hid2; have p1' := cell_of_row _ _ 1 _ _ _ hid2; have HB2 := toHid (HB1.out.grown hgrow2 HB1.out.size (fun j hj => by cases hj; omega)); clear hown2 hgrow2 hid2))
      have hbw := HB2.out
      refine (pointed_any a bh nH hb hn x xu0 xu1 w2 (HE.out.below hbw) (HH.out.below hbw hbl) (Nat.lt_of_lt_of_le hbl hbw.size)).mono ?_
      rintro ev w3 ⟨rfl, hb3⟩
      have hb4 := hbw.trans (hb3.mono hbw.size)
      have hid3 := (hb3.block wr.heap.size (lt_of_heap HI2.out)).trans HI2.out
      have t0 := cell_of_row _ _ 0 _ _ _ hid3
      have t1 := cell_of_row _ _ 1 _ _ _ hid3
      have M1 := HO1'.out.kept (grown_of_below hb3) (by simp)
      have M2 := HO2.out.kept (grown_of_below hb3) (by simp)
      obtain ⟨c1, run1, at1, _⟩ := M1.lookup_int lawU Tryz.underlying101 Tryz.underlying3 (zeroI _) hkx.out
      obtain ⟨c2, run2, at2, _⟩ := M2.lookup_int lawI Tryz.underlying70 Tryz.underlying3 (zeroI _) hky.out
      rw [atKey_put_same J1 (by trivial)] at at1
      rw [atKey_put_same J2 (by trivial)] at at2
      obtain rfl : c1 = (n1 : Int) + 1 := by cases at1; rfl
      obtain rfl : c2 = (n2 : Int) + 1 := by cases at2; rfl
      have HM1e := toHid M1
      have HM2e := toHid M2
      have u0 : w3.cell? ⟨wr.heap.size, 0, none⟩ = some (.int .u64 x) := t0
      have u1 : w3.cell? ⟨wr.heap.size, 1, none⟩ = some (.int .i64 y) := t1
      clear at1 at2 M1 M2 t0 t1 p0 p1' q0 q1 hid3
      cases hpb : ptrB nH hb x with
      | false =>
        rw [hpb] at HB
        clear hpb
        have HN : Hid (idsB nH hb l = false) := range_all_no hlt (by rw [HB.out]; rw [Bool.false_and])
        clear HB
        go_wp2_with fail
        go_ret
        rw [HN.out]
        exact ⟨rfl, hb4⟩
      | true =>
        rw [hpb] at HB
        clear hpb
        by_cases hy : y < 1
        · have hy2 : decide (1 ≤ y) = false := by rw [decide_eq_false_iff_not]; omega
          rw [hy2] at HB
          clear hy2
          have HN : Hid (idsB nH hb l = false) := range_all_no hlt (by rw [HB.out]; rw [Bool.false_and, Bool.and_false])
          clear HB
          go_wp2_with fail
          go_ret
          rw [HN.out]
          exact ⟨rfl, hb4⟩
        · have hy2 : decide (1 ≤ y) = true := by rw [decide_eq_true_eq]; omega
          have hy3 : ¬ y < 1 := hy
          rw [hy2] at HB
          clear hy2
          by_cases hn1 : 0 < n1
          · have hd1 : decide (n1 + 1 ≤ 1) = false := by rw [decide_eq_false_iff_not]; omega
            have hg1 : (n1 : Int) + 1 > 1 := by omega
            rw [hd1] at HB
            clear hd1
            have HN : Hid (idsB nH hb l = false) := range_all_no hlt (by rw [HB.out]; rw [Bool.false_and, Bool.and_false, Bool.and_false])
            clear HB
            go_wp2_with fail
            go_ret
            rw [HN.out]
            exact ⟨rfl, hb4⟩
          · obtain rfl : n1 = 0 := by omega
            by_cases hn2 : 0 < n2
            · have hd2 : decide (n2 + 1 ≤ 1) = false := by rw [decide_eq_false_iff_not]; omega
              have hg2 : (n2 : Int) + 1 > 1 := by omega
              rw [hd2] at HB
              clear hd2
              have HN : Hid (idsB nH hb l = false) := range_all_no hlt (by rw [HB.out]; rfl)
              clear HB
              go_wp2_with fail
              go_ret
              rw [HN.out]
              exact ⟨rfl, hb4⟩
            · obtain rfl : n2 = 0 := by omega
              have HT : Hid ((List.range (k + 1)).all (idB nH hb l) = true) := range_all_step hal.out (by rw [HB.out]; rfl)
              clear HB hal
              go_wp2_with fail
              go_roundg (l.length + 1 - (k + 1))
              case measure => have := HG.out; omega
              case rel => exact ⟨k + 1, _, _, rfl, by omega, by go_num, hb4, HT, HM1e.out, HM2e.out, by rw [HT1.out]; exact HP1, by rw [HT2.out]; exact HP2⟩
    · obtain rfl : k = l.length := by omega
      go_wp2_with fail
      go_ret
      unfold idsB
      rw [hal.out]
      exact ⟨rfl, hb1⟩
end Go.Proofs.YtnenggkgfhgcnaaGreatDoor

/- Package mem: survey of every memory, by a contract. -/
namespace Go.Proofs.YtnenggkgfhgcnaaGreatDoor
open Go.RowKit

/-- What package mem wants of memory: four errors of package api. -/
structure MErr (a : Nat → Addr) (w : World) : Prop where
  c1 : w.cell? ⟨1, 0, none⟩ = some (.iface 216 (.pointer (some (a 1))))
  c2 : w.cell? ⟨2, 0, none⟩ = some (.iface 216 (.pointer (some (a 2))))
  c4 : w.cell? ⟨5, 0, none⟩ = some (.iface 216 (.pointer (some (a 4))))
  c5 : w.cell? ⟨0, 0, none⟩ = some (.iface 216 (.pointer (some (a 5))))
theorem MErr.below {a : Nat → Addr} {w w' : World} (E : MErr a w) (hb : Below w.heap.size w w') : MErr a w' where
  c1 := (hb.cell (p := ⟨1, 0, none⟩) (lt_of_cell E.c1)).trans E.c1
  c2 := (hb.cell (p := ⟨2, 0, none⟩) (lt_of_cell E.c2)).trans E.c2
  c4 := (hb.cell (p := ⟨5, 0, none⟩) (lt_of_cell E.c4)).trans E.c4
  c5 := (hb.cell (p := ⟨0, 0, none⟩) (lt_of_cell E.c5)).trans E.c5
theorem MErr.we {a : Nat → Addr} {w : World} (E : MErr a w) : WErr a w := ⟨E.c1, E.c2⟩
theorem Errs.me {a : Nat → Addr} {w : World} (E : Errs a w) : MErr a w := ⟨E.c1, E.c2, E.c4, E.c5⟩
/-- A row that begins at its block's beginning. -/
def Row0 (w : World) (v : Value) (n : Nat) (xs : List Value) : Prop := ∃ ao cap, v = .slice ao n cap ∧ n ≤ cap ∧ (0 < n → ∃ b, ao = some ⟨b, 0, none⟩ ∧ b < w.heap.size ∧ ∀ j u, xs[j]? = some u → w.cell? ⟨b, j, none⟩ = some u)
theorem Row0.row {w : World} {v : Value} {n : Nat} {xs : List Value} (h : Row0 w v n xs) : RowV w v n xs := by
  obtain ⟨ao, cap, e, hc, h⟩ := h
  refine ⟨ao, cap, e, hc, fun hn => ?_⟩
  obtain ⟨b, e1, e2, e3⟩ := h hn
  exact ⟨b, 0, e1, e2, fun j u hj => by rw [Nat.zero_add]; exact e3 j u hj⟩
theorem Row0.below {w w' : World} {v : Value} {n : Nat} {xs : List Value} (h : Row0 w v n xs) (hb : Below w.heap.size w w') : Row0 w' v n xs := by
  obtain ⟨ao, cap, e, hc, h⟩ := h
  refine ⟨ao, cap, e, hc, fun hn => ?_⟩
  obtain ⟨b, e1, e2, e3⟩ := h hn
  exact ⟨b, e1, Nat.lt_of_lt_of_le e2 hb.size, fun j u hj => (hb.cell (p := ⟨b, j, none⟩) e2).trans (e3 j u hj)⟩
theorem row0_own {w : World} {base e size n : Nat} {v : Value} {xs : List Value} (h : w.ownsRow base e size v n xs) : Row0 w v n xs := by
  obtain ⟨h1, h2⟩ := h
  rcases h2 with ⟨rfl, rfl⟩ | ⟨g, cap, cur, rfl, hb, hg, hc, _, hs, ht⟩
  · exact ⟨none, 0, rfl, Nat.le_refl _, fun h => absurd h (by omega)⟩
  · refine ⟨_, _, rfl, hc, fun _ => ⟨g, rfl, lt_of_heap hg, fun j u hj => ?_⟩⟩
    rw [← ht, List.getElem?_take] at hj
    split at hj
    · rw [cell_of_row _ _ _ _ _ _ hg, ← Array.getElem?_toList]
      exact hj
    · cases hj
/-- A memory of the program stands at p. -/
def RepP (p : Nat) (m : MD) (w : World) : Prop := ∃ vW vR vK vI vC, p < w.heap.size ∧ MemAt p m.half m.old m.card vW m.used m.top m.oldTop vR vK vI vC w ∧
  Row0 w vW m.W.length (wordsV m.W) ∧ RowV w vR m.R.length (wordsV m.R) ∧ RowV w vK m.K.length (wordsV m.K) ∧ RowV w vI m.I.length (idsV m.I) ∧ Row0 w vC m.C.length (boolsV m.C)
theorem RepP.below {p : Nat} {m : MD} {w w' : World} (h : RepP p m w) (hb : Below w.heap.size w w') : RepP p m w' := by
  obtain ⟨vW, vR, vK, vI, vC, hp, M, h1, h2, h3, h4, h5⟩ := h
  exact ⟨vW, vR, vK, vI, vC, Nat.lt_of_lt_of_le hp hb.size, M.below hb hp, h1.below hb, h2.below hb, h3.below hb, h4.below hb, h5.below hb⟩
theorem RepP.rep {p : Nat} {m : MD} {w : World} (h : RepP p m w) : RepM p 0 m w := by
  obtain ⟨vW, vR, vK, vI, vC, hp, M, h1, h2, h3, h4, h5⟩ := h
  exact ⟨vW, vR, vK, vI, vC, hp, M.memO, h1.row, h2, h3, h4, h5.row⟩
/-- Numbers within their types. -/
structure MD64 (m : MD) : Prop where
  w : U64 m.W
  r : U64 m.R
  k : U64 m.K
  i : Ids64 m.I
def MD.F (m : MD) (i : Nat) : Int := m.W.getD i 0
def MD.Cf (m : MD) (i : Nat) : Bool := m.C.getD i false
def MD.n0 (m : MD) : Nat := (m.used * m.half).toNat
def MD.n1 (m : MD) : Nat := (m.used * m.half + m.top).toNat
def MD.m0 (m : MD) : Nat := (2 * m.half).toNat
def MD.m1 (m : MD) : Nat := (2 * m.half + m.oldTop).toNat
def MD.FitsM (m : MD) : Prop := Fits m.half m.old m.card m.W.length m.C.length m.used m.top m.oldTop
theorem MD.parts {m : MD} (h : m.FitsM) : Parts m.half m.used m.top m.oldTop m.n0 m.n1 m.m0 m.m1 := by
  obtain ⟨⟨a0, a1, a2, a3, a4, a5⟩, hw, _, u0, u1, t0, t1, o0, o1⟩ := h
  have : 0 ≤ m.used * m.half := Int.mul_nonneg u0 (by omega)
  constructor
  · unfold MD.n0; omega
  · unfold MD.n1; omega
  · unfold MD.m0; omega
  · unfold MD.m1; omega
/-- Where the objects of a memory begin, if they are as they must be. -/
def MD.objs (m : MD) : Option (List Nat) := match walkP m.F (G1 m.F m.half) (m.n1 - m.n0) m.n0 m.n1, walkP m.F (G1 m.F m.half) (m.m1 - m.m0) m.m0 m.m1 with
  | some l1, some l2 => some (l1 ++ l2)
  | _, _ => none
/-- Does each word point to where it may? -/
def MD.holdB (m : MD) (vs : List Nat) : Bool := (walkP m.F (G2 m.F m.W.length (fun i => decide (i ∈ vs))) (m.n1 - m.n0) m.n0 m.n1).isSome && (walkP m.F (G2 m.F m.W.length (fun i => decide (i ∈ vs))) (m.m1 - m.m0) m.m0 m.m1).isSome
def MD.restB (m : MD) (vs : List Nat) : Bool := m.R.all (fieldB m.W.length (fun i => decide (i ∈ vs))) && (m.K.all (fieldB m.W.length (fun i => decide (i ∈ vs))) && idsB m.W.length (fun i => decide (i ∈ vs)) m.I)
def MD.cardsB (m : MD) : Bool := (walkP m.F (G3 m.F m.Cf m.half m.card) (m.m1 - m.m0) m.m0 m.m1).isSome
/-- A memory has this shape, and its objects begin there. -/
def MD.Shape (m : MD) (vs : List Nat) : Prop := m.FitsM ∧ m.objs = some vs ∧ m.holdB vs = true ∧ m.restB vs = true
theorem looked_of {p : Nat} {m : MD} {w : World} {vR vK vI : Value} {b bc cW cC : Nat} (hF : m.FitsM) (h64 : MD64 m) (M : MemAt p m.half m.old m.card (.slice (some ⟨b, 0, none⟩) m.W.length cW) m.used m.top m.oldTop vR vK vI (.slice (some ⟨bc, 0, none⟩) m.C.length cC) w) (hc : m.W.length ≤ cW)
    (hw : ∀ j u, (wordsV m.W)[j]? = some u → w.cell? ⟨b, j, none⟩ = some u) (hk : ∀ j u, (boolsV m.C)[j]? = some u → w.cell? ⟨bc, j, none⟩ = some u) : Looked p b bc m.W.length m.C.length cW cC m.half m.old m.card m.used m.top m.oldTop vR vK vI m.F m.Cf w where
  mem := M
  fits := hF
  cap := hc
  words i hi := hw i _ (words_at (by unfold MD.F; rw [List.getD_eq_getElem?_getD, List.getElem?_eq_getElem hi]; rfl))
  cards i hi := hk i _ (bools_at (by unfold MD.Cf; rw [List.getD_eq_getElem?_getD, List.getElem?_eq_getElem hi]; rfl))
  range i hi := by
    unfold MD.F
    rw [List.getD_eq_getElem?_getD, List.getElem?_eq_getElem hi]
    exact h64.w _ (List.getElem_mem hi)

theorem survey_nil (a : Nat → Addr) (w : World) (E : MErr a w) :
    Calls Tryz.prog 45 #[.pointer none] w fun ev w' => ev = .returned (.tuple #[.slice none 0 0, errV a 2]) ∧ Below w.heap.size w w' := by
  have hn := shaped_nil w
  have HE := toHid E
  go_enter Tryz.func45, Tryz.ntmps45
  go_wp2_with fail
  refine hn.mono ?_
  rintro ev w1 ⟨rfl, q, hq⟩
  have hb1 : Below w.heap.size w w1 := by rw [hq]; exact below_drewN (Below.refl _ _)
  clear hq
  have k2 := (HE.out.below hb1).c2
  go_wp2_with fail
  go_quiet (fail)
  go_wp2
  go_ret2
  exact ⟨rfl, below_drewN hb1⟩
set_option maxHeartbeats 2000000 in
set_option maxRecDepth 100000 in
theorem survey_unfit (a : Nat → Addr) (p : Nat) (m : MD) (hF : ¬ m.FitsM) (w : World) (E : MErr a w) (R : RepP p m w) :
    Calls Tryz.prog 45 #[.pointer (some ⟨p, 0, none⟩)] w fun ev w' => ev = .returned (.tuple #[.slice none 0 0, errV a 2]) ∧ Below w.heap.size w w' := by
  obtain ⟨_, vR, vK, vI, _, hp, M, ⟨aW, cW, rfl, _⟩, _, _, _, ⟨aC, cC, rfl, _⟩⟩ := R
  have km := measured_no p m.half m.old m.card m.W.length m.C.length cW cC aW aC m.used m.top m.oldTop vR vK vI hF w M
  go_enter Tryz.func45, Tryz.ntmps45
  go_wp2_with fail
  refine km.mono ?_
  rintro ev w1 ⟨rfl, q, hq⟩
  have hb1 : Below w.heap.size w w1 := by rw [hq]; exact below_drewN (Below.refl _ _)
  have k2 := (E.below hb1).c2
  clear hq M km
  go_wp2_with fail
  go_quiet (fail)
  go_wp2
  go_ret2
  exact ⟨rfl, below_drewN hb1⟩
end Go.Proofs.YtnenggkgfhgcnaaGreatDoor

/- Package mem: survey of a memory whose numbers fit, by a contract. -/
namespace Go.Proofs.YtnenggkgfhgcnaaGreatDoor
open Go.RowKit

theorem objs_none {m : MD} (h : m.objs = none) : ((walkP m.F (G1 m.F m.half) (m.n1 - m.n0) m.n0 m.n1).isSome && (walkP m.F (G1 m.F m.half) (m.m1 - m.m0) m.m0 m.m1).isSome) = false := by
  unfold MD.objs at h
  cases h1 : walkP m.F (G1 m.F m.half) (m.n1 - m.n0) m.n0 m.n1 with
  | none => rfl
  | some l1 =>
    cases h2 : walkP m.F (G1 m.F m.half) (m.m1 - m.m0) m.m0 m.m1 with
    | none => rfl
    | some l2 => rw [h1, h2] at h; cases h
theorem objs_some {m : MD} {vs : List Nat} (h : m.objs = some vs) : ∃ l1 l2, walkP m.F (G1 m.F m.half) (m.n1 - m.n0) m.n0 m.n1 = some l1 ∧ walkP m.F (G1 m.F m.half) (m.m1 - m.m0) m.m0 m.m1 = some l2 ∧ vs = l1 ++ l2 := by
  unfold MD.objs at h
  cases h1 : walkP m.F (G1 m.F m.half) (m.n1 - m.n0) m.n0 m.n1 with
  | none => rw [h1] at h; cases h
  | some l1 =>
    cases h2 : walkP m.F (G1 m.F m.half) (m.m1 - m.m0) m.m0 m.m1 with
    | none => rw [h1, h2] at h; cases h
    | some l2 => rw [h1, h2] at h; cases h; exact ⟨l1, l2, rfl, rfl, rfl⟩
theorem marks_new (w : World) (n : Nat) : MarksAt (w.alloc (.cells (Array.replicate n (.bool false)) 4)) w.heap.size n [] :=
  ⟨_, heap_alloc_new w _, by simp, fun i hi => by simp [hi]⟩
/-- What survey answers. -/
def SurveyPost (a : Nat → Addr) (m : MD) (w : World) (ev : Ending) (w' : World) : Prop := Below w.heap.size w w' ∧
  ((∃ vs bh, m.Shape vs ∧ m.cardsB = true ∧ ev = .returned (.tuple #[.slice (some ⟨bh, 0, none⟩) m.W.length m.W.length, .nilIface]) ∧ MarksAt w' bh m.W.length vs ∧ w.heap.size ≤ bh) ∨
   (∃ vs, m.Shape vs ∧ m.cardsB = false ∧ ev = .returned (.tuple #[.slice none 0 0, errV a 4])) ∨
   ((∀ vs, ¬ m.Shape vs) ∧ ev = .returned (.tuple #[.slice none 0 0, errV a 2])))
set_option maxHeartbeats 8000000 in
set_option maxRecDepth 100000 in
theorem survey_fit (a : Nat → Addr) (p : Nat) (m : MD) (hF : m.FitsM) (h64 : MD64 m) (bR : m.R.length ≤ 300000) (bK : m.K.length ≤ 300000) (bI : m.I.length ≤ 300000) (w : World) (E : MErr a w) (R : RepP p m w) :
    Calls Tryz.prog 45 #[.pointer (some ⟨p, 0, none⟩)] w fun ev w' => SurveyPost a m w ev w' := by
  obtain ⟨_, _, _, _, _, hp, M, ⟨aW, cW, rfl, hcW, fW⟩, ⟨aR, cR, rfl, fR⟩, ⟨aK, cK, rfl, fK⟩, ⟨aI, cI, rfl, fI⟩, ⟨aC, cC, rfl, hcC, fC⟩⟩ := R
  have hnum := hF.nums
  have hwl := hF.w
  have hcl := hF.c
  unfold numsOK at hnum
  have hn : m.W.length ≤ 300000 := by omega
  have hcp : 0 < m.C.length := by
    have : 1 ≤ (m.old + m.card - 1) / m.card := (Int.le_ediv_iff_mul_le (by omega)).2 (by omega)
    omega
  obtain ⟨b, rfl, lb, gW⟩ := fW (by omega)
  obtain ⟨bc, rfl, lbc, gC⟩ := fC hcp
  have L := looked_of hF h64 M hcW gW gC
  have HL := toHid L
  have HRr : Hid (RowV w (.slice aR m.R.length cR) m.R.length (wordsV m.R)) := ⟨_, _, rfl, fR⟩
  have HRk : Hid (RowV w (.slice aK m.K.length cK) m.K.length (wordsV m.K)) := ⟨_, _, rfl, fK⟩
  have HRi : Hid (RowV w (.slice aI m.I.length cI) m.I.length (idsV m.I)) := ⟨_, _, rfl, fI⟩
  have HM := toHid M
  have HE := toHid E
  have HP := toHid (MD.parts hF)
  have H64 := toHid h64
  have HF := toHid hF
  have hmk := make_heads m.W.length (by omega) (m.W.length : Int) rfl
  have km := measured_ok p m.half m.old m.card m.W.length m.C.length cW cC _ _ m.used m.top m.oldTop _ _ _ hF w M
  clear fR fK fI gW gC hnum hwl hcl L M hF h64 fW fC
  go_enter Tryz.func45, Tryz.ntmps45
  go_wp2_with fail
  refine km.mono ?_
  rintro ev w1 ⟨rfl, q, hq⟩
  have hb1 : Below w.heap.size w w1 := by rw [hq]; exact below_drewN (Below.refl _ _)
  clear hq km
  have d3 := (HM.out.below hb1 hp).c3
  go_wp2_with fail
  have hb2 : Below w.heap.size w (w1.alloc (.cells (Array.replicate m.W.length (.bool false)) 4)) := hb1.alloc hb1.size _
  have hlo := hb1.size
  have kf := findHeads_any a w _ p b bc w1.heap.size m.W.length m.C.length cW cC m.half m.old m.card m.used m.top m.oldTop _ _ _ m.F m.Cf m.n0 m.n1 m.m0 m.m1 HP.out HL.out HE.out.we hb2 (marks_new w1 m.W.length) hlo
  clear d3 hb2
  cases ho : m.objs with
  | none =>
    rw [objs_none ho] at kf
    have HS : Hid (∀ vs, ¬ m.Shape vs) := fun vs h => by have := h.2.1; rw [ho] at this; cases this
    refine kf.mono ?_
    rintro ev w2 ⟨rfl, vs, hb3, _, _⟩
    have k2 := (HE.out.below hb3).c2
    clear kf ho
    go_wp2_with fail
    go_quiet (fail)
    go_wp2
    go_ret2
    exact ⟨below_drewN hb3, .inr (.inr ⟨HS.out, rfl⟩)⟩
  | some vs =>
    obtain ⟨l1, l2, e1, e2, e3⟩ := objs_some ho
    rw [e1, e2] at kf
    have HO := toHid ho
    refine kf.mono ?_
    rintro ev w2 ⟨rfl, vs', hb3, hm3, hvs⟩
    obtain rfl : vs' = vs := (hvs l1 l2 rfl rfl).trans e3.symm
    clear kf ho e1 e2 e3 hvs
    have kh := holdFields_any a w w2 p b bc w1.heap.size m.W.length m.C.length cW cC m.half m.old m.card m.used m.top m.oldTop _ _ _ m.F m.Cf m.n0 m.n1 m.m0 m.m1 HP.out HL.out HE.out.we vs' hb3 hm3 hlo
    have eh : ((walkP m.F (G2 m.F m.W.length (fun i => decide (i ∈ vs'))) (m.n1 - m.n0) m.n0 m.n1).isSome && (walkP m.F (G2 m.F m.W.length (fun i => decide (i ∈ vs'))) (m.m1 - m.m0) m.m0 m.m1).isSome) = m.holdB vs' := rfl
    rw [eh] at kh
    clear eh hb3 hm3
    go_wp2_with fail
    refine kh.mono ?_
    rintro ev w3 ⟨rfl, hb4, hm4⟩
    clear kh
    cases hh : m.holdB vs' with
    | false =>
      have HS : Hid (∀ vs, ¬ m.Shape vs) := fun vs h => by
        have e := h.2.1
        rw [HO.out] at e
        cases e
        have e := h.2.2.1
        rw [hh] at e
        cases e
      have k2 := (HE.out.below hb4).c2
      clear HO
      go_wp2_with fail
      go_quiet (fail)
      go_wp2
      go_ret2
      exact ⟨below_drewN hb4, .inr (.inr ⟨HS.out, rfl⟩)⟩
    | true =>
      have HH := toHid hh
      clear hh
      have d7 := (HM.out.below hb4 hp).c7
      have kr := holdAll_any a w1.heap.size m.W.length (fun i => decide (i ∈ vs')) hn m.R bR H64.out.r aR cR w3 (HE.out.below hb4).we hm4.heads hm4.lt (HRr.out.below hb4)
      go_wp2_with fail
      refine kr.mono ?_
      rintro ev w4 ⟨rfl, hb5⟩
      have hb6 := hb4.trans (hb5.mono hb4.size)
      have hm6 := hm4.below hb5
      clear kr hb4 hb5 hm4 d7
      cases hr : m.R.all (fieldB m.W.length (fun i => decide (i ∈ vs'))) with
      | false =>
        have HS : Hid (∀ vs, ¬ m.Shape vs) := fun vs h => by
          have e := h.2.1
          rw [HO.out] at e
          cases e
          have e := h.2.2.2
          unfold MD.restB at e
          rw [hr] at e
          cases e
        have k2 := (HE.out.below hb6).c2
        clear HO
        go_wp2_with fail
        go_quiet (fail)
        go_wp2
        go_ret2
        exact ⟨below_drewN hb6, .inr (.inr ⟨HS.out, rfl⟩)⟩
      | true =>
        have HR := toHid hr
        clear hr
        have d8 := (HM.out.below hb6 hp).c8
        have kr := holdAll_any a w1.heap.size m.W.length (fun i => decide (i ∈ vs')) hn m.K bK H64.out.k aK cK w4 (HE.out.below hb6).we hm6.heads hm6.lt (HRk.out.below hb6)
        go_wp2_with fail
        refine kr.mono ?_
        rintro ev w5 ⟨rfl, hb7⟩
        have hb8 := hb6.trans (hb7.mono hb6.size)
        have hm8 := hm6.below hb7
        clear kr hb6 hb7 hm6 d8
        cases hk : m.K.all (fieldB m.W.length (fun i => decide (i ∈ vs'))) with
        | false =>
          have HS : Hid (∀ vs, ¬ m.Shape vs) := fun vs h => by
            have e := h.2.1
            rw [HO.out] at e
            cases e
            have e := h.2.2.2
            unfold MD.restB at e
            rw [HR.out, hk] at e
            cases e
          have k2 := (HE.out.below hb8).c2
          clear HO
          go_wp2_with fail
          go_quiet (fail)
          go_wp2
          go_ret2
          exact ⟨below_drewN hb8, .inr (.inr ⟨HS.out, rfl⟩)⟩
        | true =>
          have HK := toHid hk
          clear hk
          have d9 := (HM.out.below hb8 hp).c9
          have kr := holdIDs_any a w1.heap.size m.W.length (fun i => decide (i ∈ vs')) hn m.I bI H64.out.i aI cI w5 (HE.out.below hb8).we hm8.heads hm8.lt (HRi.out.below hb8)
          go_wp2_with fail
          refine kr.mono ?_
          rintro ev w6 ⟨rfl, hb9⟩
          have hb10 := hb8.trans (hb9.mono hb8.size)
          have hm10 := hm8.below hb9
          clear kr hb8 hb9 hm8 d9
          cases hi : idsB m.W.length (fun i => decide (i ∈ vs')) m.I with
          | false =>
            have HS : Hid (∀ vs, ¬ m.Shape vs) := fun vs h => by
              have e := h.2.1
              rw [HO.out] at e
              cases e
              have e := h.2.2.2
              unfold MD.restB at e
              rw [HR.out, HK.out, hi] at e
              cases e
            have k2 := (HE.out.below hb10).c2
            clear HO
            go_wp2_with fail
            go_quiet (fail)
            go_wp2
            go_ret2
            exact ⟨below_drewN hb10, .inr (.inr ⟨HS.out, rfl⟩)⟩
          | true =>
            have HSh : Hid (m.Shape vs') := ⟨HF.out, HO.out, HH.out, by unfold MD.restB; rw [HR.out, HK.out, hi]; rfl⟩
            clear hi HR HK HH HO
            have kc := carded_any a w6 w6 p b bc m.W.length m.C.length cW cC m.half m.old m.card m.used m.top m.oldTop _ _ _ m.F m.Cf m.n0 m.n1 m.m0 m.m1 HP.out (HL.out.below hb10) (HE.out.below hb10).we (Below.refl _ _)
            have ec : (walkP m.F (G3 m.F m.Cf m.half m.card) (m.m1 - m.m0) m.m0 m.m1).isSome = m.cardsB := rfl
            rw [ec] at kc
            clear ec
            go_wp2_with fail
            refine kc.mono ?_
            rintro ev w7 ⟨rfl, hb11⟩
            have hb12 := hb10.trans (hb11.mono hb10.size)
            have hm12 := hm10.below hb11
            clear kc hb10 hb11 hm10
            cases hc : m.cardsB with
            | true =>
              have HC := toHid hc
              clear hc
              go_wp2_with fail
              go_ret2
              exact ⟨hb12, .inl ⟨vs', _, HSh.out, HC.out, rfl, hm12, hlo⟩⟩
            | false =>
              have HC := toHid hc
              have k4 := (HE.out.below hb12).c4
              clear hc
              go_wp2_with fail
              go_quiet (fail)
              go_wp2
              go_ret2
              exact ⟨below_drewN hb12, .inr (.inl ⟨vs', HSh.out, HC.out, rfl⟩)⟩
theorem survey_any (a : Nat → Addr) (p : Nat) (m : MD) (h64 : MD64 m) (bR : m.R.length ≤ 300000) (bK : m.K.length ≤ 300000) (bI : m.I.length ≤ 300000) (w : World) (E : MErr a w) (R : RepP p m w) :
    Calls Tryz.prog 45 #[.pointer (some ⟨p, 0, none⟩)] w fun ev w' => SurveyPost a m w ev w' := by
  by_cases hF : m.FitsM
  · exact survey_fit a p m hF h64 bR bK bI w E R
  · refine (survey_unfit a p m hF w E R).mono ?_
    rintro ev w1 ⟨rfl, hb⟩
    exact ⟨hb, .inr (.inr ⟨fun vs h => hF h.1, rfl⟩)⟩
end Go.Proofs.YtnenggkgfhgcnaaGreatDoor
