/- Package mem: IDs (holdIDs), by a contract. -/
import Derived.Test.YtopcpeemibmgbaaDoorMemQ
import Derived.Maps.OwnOps
import Derived.Maps.Views
namespace Go.Proofs.YtopcpeemibmgbaaDoor
open Go.RowKit Go.Maps

theorem lawU : Keyed Tryd.prog 48 := int_keyed Tryd.underlying48
theorem lawI : Keyed Tryd.prog 3 := int_keyed Tryd.underlying3
theorem zeroI (w : World) : (zeroValue 3).run Tryd.prog w = .ok (.int .i64 0) w := by kernel_rfl
theorem grown_of_below {w w' : World} (hb : Below w.heap.size w w') : w.grownBy w' none := ⟨hb.os, hb.tape, hb.output, hb.size, fun k hk _ => hb.block k hk⟩
/-- A map that counts. -/
def Counts (q : IntKind) (D : DataW Unit) (l : List Int) : Prop := IsMap D ∧ ∀ x, D.atKey (.int q x) (.lit (.int .i64 0)) = .lit (.int .i64 (l.count x : Nat))
theorem counts_none (q : IntKind) : Counts q (.map []) [] := ⟨⟨[], rfl⟩, fun _ => rfl⟩
theorem counts_put {q : IntKind} {D : DataW Unit} {l : List Int} (h : Counts q D l) (x : Int) : Counts q (D.put (.int q x) (.lit (.int .i64 ((l.count x : Nat) + 1)))) (l ++ [x]) := by
  refine ⟨h.1.put _ _, fun y => ?_⟩
  by_cases e : y = x
  · subst e
    rw [atKey_put_same h.1 (by trivial), List.count_append]
    simp
  · rw [atKey_put_other (fun h => e (by cases h; rfl)), h.2 y, List.count_append, List.count_singleton]
    have : (x == y) = false := by rw [beq_eq_false_iff_ne]; exact fun h => e h.symm
    simp [this]
/-- Is the i-th ID as it must be? -/
def idB (nH : Nat) (hb : Nat → Bool) (l : List (Int × Int)) (i : Nat) : Bool := match l[i]? with
  | some x => ptrB nH hb x.1 && (decide (1 ≤ x.2) && (decide (((l.take (i + 1)).map (·.1)).count x.1 ≤ 1) && decide (((l.take (i + 1)).map (·.2)).count x.2 ≤ 1)))
  | none => true
def idsB (nH : Nat) (hb : Nat → Bool) (l : List (Int × Int)) : Bool := (List.range l.length).all (idB nH hb l)
def Ids64 (l : List (Int × Int)) : Prop := ∀ x ∈ l, (0 ≤ x.1 ∧ x.1 < 18446744073709551616) ∧ (-9223372036854775808 ≤ x.2 ∧ x.2 < 9223372036854775808)
theorem wf_u {x : Int} (h0 : 0 ≤ x) (h1 : x < 18446744073709551616) : (Lit.int .u64 x).wf = true := WalkArith.wf_u64 (by omega)
theorem wf_i {x : Int} (h0 : -9223372036854775808 ≤ x) (h1 : x < 9223372036854775808) : (Lit.int .i64 x).wf = true := WalkArith.wf_i64 (by omega)
set_option maxHeartbeats 8000000 in
set_option maxRecDepth 100000 in
theorem holdIDs_any (a : Nat → Addr) (bh nH : Nat) (hb : Nat → Bool) (hn : nH ≤ 300000) (l : List (Int × Int)) (hl : l.length ≤ 300000) (hu : Ids64 l) (ao : Option Addr) (cap : Nat) (w : World) (E : WErr a w) (H : HeadsAt w bh nH hb) (hbl : bh < w.heap.size) (hR : RowV w (.slice ao l.length cap) l.length (idsV l)) :
    Calls Tryd.prog 53 #[.slice (some ⟨bh, 0, none⟩) nH nH, .slice ao l.length cap] w fun ev w' => ev = .returned (.bool (idsB nH hb l)) ∧ Below w.heap.size w w' := by
  have hmm := @run_makeMap Tryd.prog
  have HR := toHid hR
  have HU := toHid hu
  have HH := toHid H
  have HE := toHid E
  clear hR hu H E
  go_enter Tryd.func53, Tryd.ntmps53
  go_wp2_with fail
  go_loopg [13] (l.length + 1) (fun gk v13 wr => ∃ (k : Nat) (D1 D2 : DataW Unit), gk = l.length + 1 - k ∧ k ≤ l.length ∧ v13 = .int .i64 (k : Int) ∧ Below w.heap.size w wr ∧ Hid ((List.range k).all (idB nH hb l) = true) ∧ Hid (wr.ownsMap Tryd.prog 48 (plainElem Tryd.prog 3) w.heap.size k D1) ∧ Hid (wr.ownsMap Tryd.prog 3 (plainElem Tryd.prog 3) (w.heap.size + 1) k D2) ∧ Hid (Counts .u64 D1 ((l.take k).map (·.1))) ∧ Hid (Counts .i64 D2 ((l.take k).map (·.2))))
  case atStart =>
    have m1 := (World.ownsMap_made w Tryd.prog 48 (plainElem (H := Unit) Tryd.prog 3)).alloc (.map #[] 0)
    have m2 := World.ownsMap_made (w.alloc (.map #[] 0)) Tryd.prog 3 (plainElem (H := Unit) Tryd.prog 3)
    have e : (w.alloc (.map #[] 0)).heap.size = w.heap.size + 1 := by simp
    rw [e] at m2
    exact ⟨0, .map [], .map [], rfl, Nat.zero_le _, rfl, two_below w _ _, rfl, m1, m2, counts_none _, counts_none _⟩
  case round =>
    obtain ⟨k, D1, D2, hgk, hk, hv13, hb1, hal, hm1, hm2, hc1, hc2⟩ := hrel
    subst hv13
    have HG := toHid hgk
    clear hgk hmm
    by_cases hlt : k < l.length
    · have hI : (k : Int) < (l.length : Int) := by omega
      have hI0 : (0 : Int) ≤ (k : Int) := by omega
      obtain ⟨⟨x, y⟩, hx⟩ : ∃ x, l[k]? = some x := ⟨_, List.getElem?_eq_getElem hlt⟩
      obtain ⟨_, _, e, _, f1⟩ := HR.out
      cases e
      obtain ⟨p1, o1, rfl, l1, g1⟩ := f1 (by omega)
      have r1 : wr.cell? ⟨p1, o1 + k * 2, none⟩ = some (.int .u64 x) := (hb1.cell (p := ⟨p1, o1 + k * 2, none⟩) l1).trans (g1 _ _ (ids_at hx).1)
      have r2 : wr.cell? ⟨p1, o1 + k * 2 + 1, none⟩ = some (.int .i64 y) := (hb1.cell (p := ⟨p1, o1 + k * 2 + 1, none⟩) l1).trans (by rw [Nat.add_assoc]; exact g1 _ _ (ids_at hx).2)
      obtain ⟨⟨xu0, xu1⟩, yu0, yu1⟩ := HU.out (x, y) (List.mem_of_getElem? hx)
      have hkx : Hid (keyOf Tryd.prog 48 (.int .u64 x) = some (.int .u64 x)) := keyOf_int_mk Tryd.underlying48 (wf_u xu0 xu1)
      have hky : Hid (keyOf Tryd.prog 3 (.int .i64 y) = some (.int .i64 y)) := keyOf_int_mk Tryd.underlying3 (wf_i yu0 yu1)
      have e1 : (l.take (k + 1)).map (·.1) = (l.take k).map (·.1) ++ [x] := by rw [List.take_add_one, hx]; simp
      have e2 : (l.take (k + 1)).map (·.2) = (l.take k).map (·.2) ++ [y] := by rw [List.take_add_one, hx]; simp
      have HB : Hid (idB nH hb l k = (ptrB nH hb x && (decide (1 ≤ y) && (decide (((l.take k).map (·.1)).count x + 1 ≤ 1) && decide (((l.take k).map (·.2)).count y + 1 ≤ 1))))) := by
        show _ = _
        unfold idB
        rw [hx]
        simp only [e1, e2, List.count_append, List.count_singleton_self]
      have HT1 := toHid e1
      have HT2 := toHid e2
      have k1 : ((l.take k).map (·.1)).count x ≤ 300000 := Nat.le_trans (List.count_le_length) (by simp; omega)
      have k2 : ((l.take k).map (·.2)).count y ≤ 300000 := Nat.le_trans (List.count_le_length) (by simp; omega)
      have hA1 := hc1.out.2 x
      have hA2 := hc2.out.2 y
      have HP1 := toHid (counts_put hc1.out x)
      have HP2 := toHid (counts_put hc2.out y)
      generalize ((l.take k).map (·.1)).count x = n1 at *
      generalize ((l.take k).map (·.2)).count y = n2 at *
      have HA1 := toHid hA1
      have HA2 := toHid hA2
      clear f1 g1 hx e1 e2 hA1 hA2
      have bl1 := hm1.out.lt
      have bl2 := hm2.out.lt
      have HM1 := toHid (hm1.out.alloc (.cells #[.int .u64 x, .int .i64 y] 60))
      have HM2 := toHid (hm2.out.alloc (.cells #[.int .u64 x, .int .i64 y] 60))
      have HI := toHid (heap_alloc_new wr (.cells #[.int .u64 x, .int .i64 y] 60))
      have HBA := toHid (hb1.alloc hb1.size (.cells #[.int .u64 x, .int .i64 y] 60))
      have J1 := hc1.out.1
      have J2 := hc2.out.1
      clear hm1 hm2 hc1 hc2
      go_wp2_with (first
        | (at_lookup; refine wpList_lookup_own_int _ rfl _ _ 115 rfl 48 3 .i64 lawU Tryd.underlying115 Tryd.underlying3 (zeroI _) w.heap.size k _ rfl HM1.out _ _ rfl hkx.out ?_; intro c hat hwc; obtain rfl : c = (n1 : Int) := (by have e := HA1.out.symm.trans hat; cases e; rfl); clear hat hwc)
        | (at_mapUpdate; refine wpList_mapUpdate_own _ rfl _ _ _ 115 rfl 48 3 lawU Tryd.underlying115 _ w.heap.size k _ rfl HM1.out (by unfold maxLen; omega) _ _ _ rfl rfl hkx.out _ [] (plainElem_int Tryd.underlying3 (wf_i (by omega) (by omega))) ?_; intro w1 hown1 hgrow1; have HO1 := toHid hown1; have HM2' := toHid (HM2.out.kept hgrow1 (by simp)); have hid1 := (hgrow1.block wr.heap.size (by simp) (by simp; omega)).trans HI.out; have HI1 := toHid hid1; have q0 := cell_of_row _ _ 0 _ _ _ hid1; have q1 := cell_of_row _ _ 1 _ _ _ hid1; have HB1 := toHid (HBA.out.grown hgrow1 HBA.out.size (fun j hj => by cases hj; exact Nat.le_refl _)); clear hown1 hgrow1 hid1)
        | (at_lookup; refine wpList_lookup_own_int _ rfl _ _ 81 rfl 3 3 .i64 lawI Tryd.underlying81 Tryd.underlying3 (zeroI _) (w.heap.size + 1) k _ rfl HM2'.out _ _ rfl hky.out ?_; intro c hat hwc; obtain rfl : c = (n2 : Int) := (by have e := HA2.out.symm.trans hat; cases e; rfl); clear hat hwc)
        | (at_mapUpdate; refine wpList_mapUpdate_own _ rfl _ _ _ 81 rfl 3 3 lawI Tryd.underlying81 _ (w.heap.size + 1) k _ rfl HM2'.out (by unfold maxLen; omega) _ _ _ rfl rfl hky.out _ [] (plainElem_int Tryd.underlying3 (wf_i (by omega) (by omega))) ?_; intro w2 hown2 hgrow2; have HO2 := toHid hown2; have HO1' := toHid (HO1.out.kept hgrow2 (by simp)); have hid2 := (hgrow2.block wr.heap.size (lt_of_heap HI1.out) (by simp; omega)).trans HI1.out; have HI2 := toHid hid2; have p0 := cell_of_row _ _ 0 _ _ _ hid2; have p1' := cell_of_row _ _ 1 _ _ _ hid2; have HB2 := toHid (HB1.out.grown hgrow2 HB1.out.size (fun j hj => by cases hj; omega)); clear hown2 hgrow2 hid2))
      have hbw := HB2.out
      refine (pointed_any a bh nH hb hn x xu0 xu1 w2 (HE.out.below hbw) (HH.out.below hbw hbl) (Nat.lt_of_lt_of_le hbl hbw.size)).mono ?_
      rintro ev w3 ⟨rfl, hb3⟩
      have hb4 := hbw.trans (hb3.mono hbw.size)
      have hid3 := (hb3.block wr.heap.size (lt_of_heap HI2.out)).trans HI2.out
      have t0 := cell_of_row _ _ 0 _ _ _ hid3
      have t1 := cell_of_row _ _ 1 _ _ _ hid3
      have M1 := HO1'.out.kept (grown_of_below hb3) (by simp)
      have M2 := HO2.out.kept (grown_of_below hb3) (by simp)
      obtain ⟨c1, run1, at1, _⟩ := M1.lookup_int lawU Tryd.underlying115 Tryd.underlying3 (zeroI _) hkx.out
      obtain ⟨c2, run2, at2, _⟩ := M2.lookup_int lawI Tryd.underlying81 Tryd.underlying3 (zeroI _) hky.out
      rw [atKey_put_same J1 (by trivial)] at at1
      rw [atKey_put_same J2 (by trivial)] at at2
      obtain rfl : c1 = (n1 : Int) + 1 := by cases at1; rfl
      obtain rfl : c2 = (n2 : Int) + 1 := by cases at2; rfl
      have HM1e := toHid M1
      have HM2e := toHid M2
      have u0 : w3.cell? ⟨wr.heap.size, 0, none⟩ = some (.int .u64 x) := t0
      have u1 : w3.cell? ⟨wr.heap.size, 1, none⟩ = some (.int .i64 y) := t1
      clear at1 at2 M1 M2 t0 t1 p0 p1' q0 q1 hid3
      cases hpb : ptrB nH hb x with
      | false =>
        rw [hpb] at HB
        clear hpb
        have HN : Hid (idsB nH hb l = false) := range_all_no hlt (by rw [HB.out]; rw [Bool.false_and])
        clear HB
        go_wp2_with fail
        go_ret
        rw [HN.out]
        exact ⟨rfl, hb4⟩
      | true =>
        rw [hpb] at HB
        clear hpb
        by_cases hy : y < 1
        · have hy2 : decide (1 ≤ y) = false := by rw [decide_eq_false_iff_not]; omega
          rw [hy2] at HB
          clear hy2
          have HN : Hid (idsB nH hb l = false) := range_all_no hlt (by rw [HB.out]; rw [Bool.false_and, Bool.and_false])
          clear HB
          go_wp2_with fail
          go_ret
          rw [HN.out]
          exact ⟨rfl, hb4⟩
        · have hy2 : decide (1 ≤ y) = true := by rw [decide_eq_true_eq]; omega
          have hy3 : ¬ y < 1 := hy
          rw [hy2] at HB
          clear hy2
          by_cases hn1 : 0 < n1
          · have hd1 : decide (n1 + 1 ≤ 1) = false := by rw [decide_eq_false_iff_not]; omega
            have hg1 : (n1 : Int) + 1 > 1 := by omega
            rw [hd1] at HB
            clear hd1
            have HN : Hid (idsB nH hb l = false) := range_all_no hlt (by rw [HB.out]; rw [Bool.false_and, Bool.and_false, Bool.and_false])
            clear HB
            go_wp2_with fail
            go_ret
            rw [HN.out]
            exact ⟨rfl, hb4⟩
          · obtain rfl : n1 = 0 := by omega
            by_cases hn2 : 0 < n2
            · have hd2 : decide (n2 + 1 ≤ 1) = false := by rw [decide_eq_false_iff_not]; omega
              have hg2 : (n2 : Int) + 1 > 1 := by omega
              rw [hd2] at HB
              clear hd2
              have HN : Hid (idsB nH hb l = false) := range_all_no hlt (by rw [HB.out]; rfl)
              clear HB
              go_wp2_with fail
              go_ret
              rw [HN.out]
              exact ⟨rfl, hb4⟩
            · obtain rfl : n2 = 0 := by omega
              have HT : Hid ((List.range (k + 1)).all (idB nH hb l) = true) := range_all_step hal.out (by rw [HB.out]; rfl)
              clear HB hal
              go_wp2_with fail
              go_roundg (l.length + 1 - (k + 1))
              case measure => have := HG.out; omega
              case rel => exact ⟨k + 1, _, _, rfl, by omega, by go_num, hb4, HT, HM1e.out, HM2e.out, by rw [HT1.out]; exact HP1, by rw [HT2.out]; exact HP2⟩
    · obtain rfl : k = l.length := by omega
      go_wp2_with fail
      go_ret
      unfold idsB
      rw [hal.out]
      exact ⟨rfl, hb1⟩
end Go.Proofs.YtopcpeemibmgbaaDoor
