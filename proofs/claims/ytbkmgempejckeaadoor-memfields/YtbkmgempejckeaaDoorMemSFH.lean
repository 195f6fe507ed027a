/- The law MemFields by a walk. -/
import Derived.Test.YtbkmgempejckeaaDoorMemSDE
import Derived.Test.YtbkmgempejckeaaDoorMemVO
import Derived.Test.YtbkmgempejckeaaDoorMemV
import Derived.Test.YtbkmgempejckeaaDoorMemSB
namespace Go.Proofs.YtbkmgempejckeaaDoor
open Go.RowKit

theorem checkOf_right (p o : Nat) (m : MD) (vs : List Nat) (hS : m.Shape vs) (hC : m.cardsB = true) (h64 : MD64 m) (bR : m.R.length ≤ 300000) (bK : m.K.length ≤ 300000) (bI : m.I.length ≤ 300000) (w : World) (R : RepM p o m w) :
    Calls Tryd.prog 13 #[.pointer (some ⟨p, o, none⟩)] w fun ev w' => ev = .returned (.int .i64 0) ∧ Below w.heap.size w w' := by
  refine (checkOf_any p o m h64 bR bK bI w R).mono ?_
  rintro ev w' ⟨hb, ⟨us, _, _, he⟩ | ⟨us, _, hc, _⟩ | ⟨hno, _⟩⟩
  · exact ⟨he, hb⟩
  · rw [hC] at hc; cases hc
  · exact absurd hS (hno vs)
theorem checkOf_wrong (p o : Nat) (m : MD) (k : Nat) (hW : Wrong m k) (h64 : MD64 m) (bR : m.R.length ≤ 300000) (bK : m.K.length ≤ 300000) (bI : m.I.length ≤ 300000) (w : World) (R : RepM p o m w) :
    Calls Tryd.prog 13 #[.pointer (some ⟨p, o, none⟩)] w fun ev w' => ev = .returned (.int .i64 ((k : Int) + 1)) ∧ Below w.heap.size w w' := by
  refine (checkOf_any p o m h64 bR bK bI w R).mono ?_
  rintro ev w' ⟨hb, ⟨us, hs, hc, _⟩ | ⟨us, hs, hc, he⟩ | ⟨hno, he⟩⟩
  · rcases hW with ⟨vs, _, hf, _⟩ | ⟨hno, _⟩
    · rw [hc] at hf; cases hf
    · exact absurd hs (hno us)
  · rcases hW with ⟨vs, _, _, rfl⟩ | ⟨hno, _⟩
    · exact ⟨he, hb⟩
    · exact absurd hs (hno us)
  · rcases hW with ⟨vs, hs, _⟩ | ⟨_, rfl⟩
    · exact absurd hs (hno vs)
    · exact ⟨he, hb⟩
set_option maxHeartbeats 8000000 in
set_option maxRecDepth 100000 in
theorem memFields_wrong (a : Nat → Addr) (p o : Nat) (m : MD) (x fld v : Int) (w : World) (E : Errs a w) (h : RepM p o m w) (h64 : MD64 m) (n1 : m.W.length ≤ 1000) (n2 : m.R.length ≤ 100) (n3 : m.K.length ≤ 100) (n4 : m.I.length ≤ 100) (n5 : m.C.length ≤ 1000) (k : Nat) (hW : Wrong m k) : Calls Tryd.prog 5 #[.pointer (some ⟨p, o, none⟩), .int .u64 x, .int .i64 fld, .int .u64 v] w fun ev w' => ev = .returned (.bool true) ∧ Below w.heap.size w w' := by
  obtain ⟨n, hn⟩ : ∃ n : Int, n = (k : Int) + 1 := ⟨_, rfl⟩
  have HNK := toHid hn
  have hn0 : 0 < n := by omega
  have hn1 : (n == 0) = false := by rw [beq_eq_false_iff_ne]; omega
  have HK7 : Hid (k < 7) := by
    rcases hW with ⟨_, _, _, rfl⟩ | ⟨_, rfl⟩
    · show 4 < 7; decide
    · show 2 < 7; decide
  have HW := toHid hW
  clear hn hW
  have HE := toHid E
  have HR := toHid h
  have H64 := toHid h64
  clear E h h64
  go_enter Tryd.func5, Tryd.ntmps5
  go_wp2_with fail
  refine (fresh_any w).mono ?_
  rintro ev w1 ⟨rfl, hb1⟩
  go_wp2_with fail
  refine (near_yes p o m w1 (HR.out.below hb1) n1 n2 n3 n4 n5).mono ?_
  rintro ev w2 ⟨rfl, hq⟩
  rw [hq]
  clear hq w2
  go_wp2_with fail
  have kch := checkOf_wrong p o m k HW.out H64.out (by omega) (by omega) (by omega) w1 (HR.out.below hb1)
  rw [← HNK.out] at kch
  refine kch.mono ?_
  rintro ev w2 ⟨rfl, hb2⟩
  have hb02 := hb1.trans (hb2.mono hb1.size)
  clear hb1 hb2 kch
  go_wp2_with fail
  refine (memOf_own p o m w2 (HR.out.below hb02) (by omega) (by omega) (by omega) (by omega) (by omega)).mono ?_
  rintro ev w4 ⟨bx, rfl, O4, hb4⟩
  have hb04 := hb02.trans (hb4.mono hb02.size)
  go_wp2_with fail
  have kg := get_wrong a bx m k HW.out H64.out (by omega) (by omega) (by omega) x fld w4 (HE.out.below hb04).me.three O4.repP
  have kp : Hid (∀ W, Below w.heap.size w W → OwnP w2.heap.size bx m W → Calls Tryd.prog 24 #[.pointer (some ⟨bx, 0, none⟩), .int .u64 x, .int .i64 fld, .int .u64 v] W fun ev w' => ev = .returned (errV a k) ∧ Below W.heap.size W w') := fun W hW hO => put_wrong a bx m k HW.out H64.out (by omega) (by omega) (by omega) x fld v W (HE.out.below hW).me.three hO.repP
  have kc : Hid (∀ W, Errs a W → Calls Tryd.prog 10 #[errV a k, .int .i64 n] W fun ev w' => ev = .returned (.bool true) ∧ Below W.heap.size W w') := fun W hW => by
    rw [HNK.out]
    exact coded_any a k HK7.out W hW
  refine kg.mono ?_
  rintro ev w5 ⟨rfl, hb5⟩
  have hb05 := hb04.trans (hb5.mono hb04.size)
  have O5 := O4.below hb5
  clear kg O4
  go_wp2_with fail
  refine (kp.out w5 hb05 O5).mono ?_
  rintro ev w6 ⟨rfl, hb6⟩
  have hb06 := hb05.trans (hb6.mono hb05.size)
  have O6 := O5.below hb6
  clear kp O5
  go_wp2_with fail
  refine (kc.out w6 (HE.out.below hb06)).mono ?_
  rintro ev w7 ⟨rfl, hb7⟩
  have hb07 := hb06.trans (hb7.mono hb06.size)
  have O7 := O6.below hb7
  go_wp2_with fail
  refine (kc.out w7 (HE.out.below hb07)).mono ?_
  rintro ev w8 ⟨rfl, hb8⟩
  have hb08 := hb07.trans (hb8.mono hb07.size)
  have O8 := O7.below hb8
  go_wp2_with fail
  refine (memBack_any bx m w8 O8.repP.rep (by omega) (by omega) (by omega) (by omega) (by omega)).mono ?_
  rintro ev w9 ⟨bz, rfl, _, Z9, hb9⟩
  have hb09 := hb08.trans (hb9.mono hb08.size)
  go_wp2_with fail
  refine (sameMemory_eq bz 0 p o m w9 Z9 (HR.out.below hb09) (by omega) (by omega) (by omega) (by omega) (by omega)).mono ?_
  rintro ev wa ⟨rfl, hba⟩
  go_wp2_with fail
  go_ret
  exact ⟨rfl, hb09.trans (hba.mono hb09.size)⟩
set_option maxHeartbeats 8000000 in
set_option maxRecDepth 100000 in
theorem memFields_off (a : Nat → Addr) (p o : Nat) (m : MD) (x fld v : Int) (w : World) (E : Errs a w) (h : RepM p o m w) (h64 : MD64 m) (n1 : m.W.length ≤ 1000) (n2 : m.R.length ≤ 100) (n3 : m.K.length ≤ 100) (n4 : m.I.length ≤ 100) (n5 : m.C.length ≤ 1000) (x0 : 0 ≤ x) (x1 : x < 18446744073709551616) (vs : List Nat) (hS : m.Shape vs) (hC : m.cardsB = true) (k : Nat) (hO : Off m vs x fld k) : Calls Tryd.prog 5 #[.pointer (some ⟨p, o, none⟩), .int .u64 x, .int .i64 fld, .int .u64 v] w fun ev w' => ev = .returned (.bool true) ∧ Below w.heap.size w w' := by
  obtain ⟨n, hn⟩ : ∃ n : Int, n = (k : Int) + 1 := ⟨_, rfl⟩
  have HNK := toHid hn
  have hn0 : 0 < n := by omega
  have hn1 : (n == 0) = false := by rw [beq_eq_false_iff_ne]; omega
  have HK7 : Hid (k < 7) := by
    rcases hO with ⟨_, rfl⟩ | ⟨_, _, _, _, rfl⟩
    · show 4 < 7; decide
    · show 1 < 7; decide
  have HS := toHid hS
  have HC := toHid hC
  have HO := toHid hO
  clear hn hO hS hC
  have HE := toHid E
  have HR := toHid h
  have H64 := toHid h64
  clear E h h64
  go_enter Tryd.func5, Tryd.ntmps5
  go_wp2_with fail
  refine (fresh_any w).mono ?_
  rintro ev w1 ⟨rfl, hb1⟩
  go_wp2_with fail
  refine (near_yes p o m w1 (HR.out.below hb1) n1 n2 n3 n4 n5).mono ?_
  rintro ev w2 ⟨rfl, hq⟩
  rw [hq]
  clear hq w2
  go_wp2_with fail
  refine (checkOf_right p o m vs HS.out HC.out H64.out (by omega) (by omega) (by omega) w1 (HR.out.below hb1)).mono ?_
  rintro ev w2 ⟨rfl, hb2⟩
  have hb02 := hb1.trans (hb2.mono hb1.size)
  clear hb1 hb2
  go_wp2_with fail
  have kfa : Calls Tryd.prog 22 #[.pointer (some ⟨p, o, none⟩), .int .u64 x, .int .i64 fld] w2 fun ev w' => ev = .returned (.tuple #[.int .i64 (-1), .int .i64 0, .int .i64 n]) ∧ Below w2.heap.size w2 w' := by
    rw [HNK.out]
    rcases HO.out with ⟨hp, rfl⟩ | ⟨f, hf, rfl, hk, rfl⟩
    · exact fieldAt_no p o m vs HS.out H64.out x fld x0 x1 hp w2 (HR.out.below hb02)
    · have k := fieldAt_at p o m vs HS.out H64.out f hf fld w2 (HR.out.below hb02)
      unfold atP at k
      rw [if_neg hk] at k
      exact k
  refine kfa.mono ?_
  rintro ev w3 ⟨rfl, hb3⟩
  have hb03 := hb02.trans (hb3.mono hb02.size)
  clear kfa hb3 hb02
  go_wp2_with fail
  refine (memOf_own p o m w3 (HR.out.below hb03) (by omega) (by omega) (by omega) (by omega) (by omega)).mono ?_
  rintro ev w4 ⟨bx, rfl, O4, hb4⟩
  have hb04 := hb03.trans (hb4.mono hb03.size)
  go_wp2_with fail
  have kg := get_off a w3.heap.size bx m vs HS.out HC.out H64.out (by omega) (by omega) (by omega) x fld x0 x1 k HO.out w4 (HE.out.below hb04).me.three O4
  have kp : Hid (∀ W, Below w.heap.size w W → OwnP w3.heap.size bx m W → Calls Tryd.prog 24 #[.pointer (some ⟨bx, 0, none⟩), .int .u64 x, .int .i64 fld, .int .u64 v] W fun ev w' => ev = .returned (errV a k) ∧ Below W.heap.size W w') := fun W hW hO => put_off a w3.heap.size bx m vs HS.out HC.out H64.out (by omega) (by omega) (by omega) x fld v x0 x1 k HO.out W (HE.out.below hW).me.three hO
  have kc : Hid (∀ W, Errs a W → Calls Tryd.prog 10 #[errV a k, .int .i64 n] W fun ev w' => ev = .returned (.bool true) ∧ Below W.heap.size W w') := fun W hW => by
    rw [HNK.out]
    exact coded_any a k HK7.out W hW
  refine kg.mono ?_
  rintro ev w5 ⟨rfl, hb5⟩
  have hb05 := hb04.trans (hb5.mono hb04.size)
  have O5 := O4.below hb5
  clear kg O4
  go_wp2_with fail
  refine (kp.out w5 hb05 O5).mono ?_
  rintro ev w6 ⟨rfl, hb6⟩
  have hb06 := hb05.trans (hb6.mono hb05.size)
  have O6 := O5.below hb6
  clear kp O5
  go_wp2_with fail
  refine (kc.out w6 (HE.out.below hb06)).mono ?_
  rintro ev w7 ⟨rfl, hb7⟩
  have hb07 := hb06.trans (hb7.mono hb06.size)
  have O7 := O6.below hb7
  go_wp2_with fail
  refine (kc.out w7 (HE.out.below hb07)).mono ?_
  rintro ev w8 ⟨rfl, hb8⟩
  have hb08 := hb07.trans (hb8.mono hb07.size)
  have O8 := O7.below hb8
  go_wp2_with fail
  refine (memBack_any bx m w8 O8.repP.rep (by omega) (by omega) (by omega) (by omega) (by omega)).mono ?_
  rintro ev w9 ⟨bz, rfl, _, Z9, hb9⟩
  have hb09 := hb08.trans (hb9.mono hb08.size)
  go_wp2_with fail
  refine (sameMemory_eq bz 0 p o m w9 Z9 (HR.out.below hb09) (by omega) (by omega) (by omega) (by omega) (by omega)).mono ?_
  rintro ev wa ⟨rfl, hba⟩
  go_wp2_with fail
  go_ret
  exact ⟨rfl, hb09.trans (hba.mono hb09.size)⟩
set_option maxHeartbeats 8000000 in
set_option maxRecDepth 100000 in
theorem memFields_bad (a : Nat → Addr) (p o : Nat) (m : MD) (x fld v : Int) (w : World) (E : Errs a w) (h : RepM p o m w) (h64 : MD64 m) (n1 : m.W.length ≤ 1000) (n2 : m.R.length ≤ 100) (n3 : m.K.length ≤ 100) (n4 : m.I.length ≤ 100) (n5 : m.C.length ≤ 1000) (v0 : 0 ≤ v) (v1 : v < 18446744073709551616) (vs : List Nat) (hS : m.Shape vs) (hC : m.cardsB = true) (f j : Nat) (hf : f ∈ vs) (hj : j < szN (m.F f)) (hx : x = ((f : Int) + 1) * 4) (hfld : fld = (j : Int)) (hbad : m.F f / 4 % 256 < 8 ∨ fieldB m.W.length (fun i => decide (i ∈ vs)) v = false) : Calls Tryd.prog 5 #[.pointer (some ⟨p, o, none⟩), .int .u64 x, .int .i64 fld, .int .u64 v] w fun ev w' => ev = .returned (.bool true) ∧ Below w.heap.size w w' := by
  obtain ⟨kd, hkd⟩ : ∃ kd, kd = m.F f / 4 % 256 := ⟨_, rfl⟩
  obtain ⟨y, hy⟩ : ∃ y : Nat, y = f + 1 + j := ⟨_, rfl⟩
  have hff := hS.fine f hf
  have hyl : y < m.W.length := by omega
  obtain ⟨xw, hxw⟩ : ∃ xw, xw = m.F y := ⟨_, rfl⟩
  have HS := toHid hS
  have HC := toHid hC
  have HF := toHid hf
  have HJ := toHid hj
  have HKD := toHid hkd
  have HYY := toHid hy
  have HXW := toHid hxw
  have HX := toHid hx
  have hFA : atP m f (j : Int) = .tuple #[.int .i64 (y : Int), .int .i64 kd, .int .i64 0] := by
    unfold atP
    rw [if_pos ⟨by omega, by omega⟩, ← hkd, hy]
    congr 3
  have HFA := toHid hFA
  have hY : (y : Int) < (m.W.length : Int) := by omega
  have hY0 : (0 : Int) ≤ (y : Int) := by omega
  have hfl : fld = (j : Int) := hfld
  subst hfl
  have HBAD := toHid hbad
  clear hS hC hf hj hkd hy hxw hFA hff hbad hfld hx
  have HE := toHid E
  have HR := toHid h
  have H64 := toHid h64
  clear E h h64
  go_enter Tryd.func5, Tryd.ntmps5
  go_wp2_with fail
  refine (fresh_any w).mono ?_
  rintro ev w1 ⟨rfl, hb1⟩
  go_wp2_with fail
  refine (near_yes p o m w1 (HR.out.below hb1) n1 n2 n3 n4 n5).mono ?_
  rintro ev w2 ⟨rfl, hq⟩
  rw [hq]
  clear hq w2
  go_wp2_with fail
  refine (checkOf_right p o m vs HS.out HC.out H64.out (by omega) (by omega) (by omega) w1 (HR.out.below hb1)).mono ?_
  rintro ev w2 ⟨rfl, hb2⟩
  have hb02 := hb1.trans (hb2.mono hb1.size)
  clear hb1 hb2
  go_wp2_with fail
  have kfa := fieldAt_at p o m vs HS.out H64.out f HF.out (j : Int) w2 (HR.out.below hb02)
  rw [HFA.out, ← HX.out] at kfa
  refine kfa.mono ?_
  rintro ev w3 ⟨rfl, hb3⟩
  have hb03 := hb02.trans (hb3.mono hb02.size)
  clear kfa hb3 hb02
  go_wp2_with fail
  refine (memOf_own p o m w3 (HR.out.below hb03) (by omega) (by omega) (by omega) (by omega) (by omega)).mono ?_
  rintro ev w4 ⟨bx, rfl, O4, hb4⟩
  have hb04 := hb03.trans (hb4.mono hb03.size)
  go_wp2_with fail
  have kg := get_ok a w3.heap.size bx m vs HS.out HC.out H64.out (by omega) (by omega) (by omega) f j HF.out HJ.out w4 (HE.out.below hb04).me.three O4
  rw [← HX.out, ← HYY.out, ← HXW.out] at kg
  refine kg.mono ?_
  rintro ev w5 ⟨rfl, hb5⟩
  have hb05 := hb04.trans (hb5.mono hb04.size)
  have O5 := O4.below hb5
  clear kg O4
  go_wp2_with fail
  have kp := put_bad a w3.heap.size bx m vs HS.out HC.out H64.out (by omega) (by omega) (by omega) f j HF.out HJ.out v v0 v1 HBAD.out w5 (HE.out.below hb05).me.three O5
  rw [← HX.out] at kp
  refine kp.mono ?_
  rintro ev w6 ⟨rfl, hb6⟩
  have hb06 := hb05.trans (hb6.mono hb05.size)
  have O6 := O5.below hb6
  clear kp O5
  obtain ⟨_, _, _, _, _, hpl, M6, ⟨aW, cW, rfl, hcW, fW⟩, _, _, _, _⟩ := HR.out.below hb06
  obtain ⟨b, ob, rfl, lb, gW⟩ := fW (by omega)
  have c3 := M6.c3
  have cy : w6.cell? ⟨b, ob + y, none⟩ = some (.int .u64 xw) := by
    rw [HXW.out]
    exact gW y _ (words_at (by unfold MD.F; rw [List.getD_eq_getElem?_getD, List.getElem?_eq_getElem hyl]; rfl))
  have hne : (xw != xw) = false := by rw [bne_self_eq_false]
  clear M6 fW gW
  by_cases hk8 : kd < 8
  · go_wp2_with fail
    refine (coded_any a 2 (by decide) w6 (HE.out.below hb06)).mono ?_
    rintro ev w8 ⟨rfl, hb8⟩
    have hb08 := hb06.trans (hb8.mono hb06.size)
    have O8 := O6.below hb8
    go_wp2_with fail
    refine (memBack_any bx m w8 O8.repP.rep (by omega) (by omega) (by omega) (by omega) (by omega)).mono ?_
    rintro ev w9 ⟨bz, rfl, _, Z9, hb9⟩
    have hb09 := hb08.trans (hb9.mono hb08.size)
    go_wp2_with fail
    refine (sameMemory_eq bz 0 p o m w9 Z9 (HR.out.below hb09) (by omega) (by omega) (by omega) (by omega) (by omega)).mono ?_
    rintro ev wa ⟨rfl, hba⟩
    go_wp2_with fail
    go_ret
    exact ⟨rfl, hb09.trans (hba.mono hb09.size)⟩
  · have hv : fieldB m.W.length (fun i => decide (i ∈ vs)) v = false := HBAD.out.resolve_left (by rw [← HKD.out]; exact hk8)
    have hU : U64 [v] := fun z hz => by
      obtain rfl := List.mem_singleton.1 hz
      exact ⟨v0, v1⟩
    have hba : Below w6.heap.size w6 (w6.alloc (.cells #[.int .u64 v] 40)) := (Below.refl _ _).alloc (Nat.le_refl _) _
    have hRow : RowV (w6.alloc (.cells #[.int .u64 v] 40)) (.slice (some ⟨w6.heap.size, 0, none⟩) 1 1) [v].length (wordsV [v]) := ⟨_, _, rfl, Nat.le_refl _, fun _ => ⟨w6.heap.size, 0, rfl, by simp, fun i u hi => by
      rw [Nat.zero_add, cell_of_row _ _ _ _ _ _ (heap_alloc_new w6 _)]
      cases i with
      | zero => simpa [wordsV] using hi
      | succ i => simp [wordsV] at hi⟩⟩
    have hb06a := hb06.trans (hba.mono hb06.size)
    have kf := fieldsOK_right p o m vs HS.out H64.out [v] (some ⟨w6.heap.size, 0, none⟩) 1 (by simp) hU _ (HR.out.below hb06a) hRow
    have hv1 : [v].all (fieldB m.W.length (fun i => decide (i ∈ vs))) = false := by rw [List.all_cons, hv]; rfl
    rw [hv1] at kf
    clear hv hv1 hRow hU
    go_wp2_with fail
    refine kf.mono ?_
    rintro ev w7 ⟨rfl, hb7⟩
    have hb07 := hb06a.trans (hb7.mono hb06a.size)
    have O7 := (O6.below hba).below hb7
    clear kf
    go_wp2_with fail
    refine (coded_any a 2 (by decide) w7 (HE.out.below hb07)).mono ?_
    rintro ev w8 ⟨rfl, hb8⟩
    have hb08 := hb07.trans (hb8.mono hb07.size)
    have O8 := O7.below hb8
    go_wp2_with fail
    refine (memBack_any bx m w8 O8.repP.rep (by omega) (by omega) (by omega) (by omega) (by omega)).mono ?_
    rintro ev w9 ⟨bz, rfl, _, Z9, hb9⟩
    have hb09 := hb08.trans (hb9.mono hb08.size)
    go_wp2_with fail
    refine (sameMemory_eq bz 0 p o m w9 Z9 (HR.out.below hb09) (by omega) (by omega) (by omega) (by omega) (by omega)).mono ?_
    rintro ev wa ⟨rfl, hba⟩
    go_wp2_with fail
    go_ret
    exact ⟨rfl, hb09.trans (hba.mono hb09.size)⟩
end Go.Proofs.YtbkmgempejckeaaDoor

/- The law MemFields by a walk: a field is put; every case. -/
namespace Go.Proofs.YtbkmgempejckeaaDoor
open Go.RowKit

/-- Other cards. -/
def MD.withC (m : MD) (C : List Bool) : MD := { m with C := C }
theorem put64 {m : MD} (h : MD64 m) {y : Nat} {v : Int} (v0 : 0 ≤ v) (v1 : v < 18446744073709551616) : MD64 (m.put y v) := by
  rw [put_eq]
  refine ⟨fun z hz => ?_, h.r, h.k, h.i⟩
  rcases List.mem_or_eq_of_mem_set hz with h1 | rfl
  · exact h.w z h1
  · exact ⟨v0, v1⟩
theorem put_back {m : MD} {y : Nat} (hy : y < m.W.length) (v : Int) : (m.put y v).setW y (m.F y) = m.withC (m.put y v).C := by
  rw [put_eq]
  unfold MD.setW MD.withC MD.F
  rw [List.getD_eq_getElem?_getD, List.getElem?_eq_getElem hy]
  show ({ m with W := (m.W.set y v).set y m.W[y], C := _ } : MD) = { m with C := _ }
  rw [List.set_set, List.set_getElem_self]
theorem put_len (m : MD) (y : Nat) (v : Int) : (m.put y v).C.length = m.C.length ∧ (m.put y v).W.length = m.W.length := by
  rw [put_eq]
  refine ⟨?_, List.length_set⟩
  show (if _ then _ else _ : List Bool).length = _
  split <;> simp
theorem put_up (m : MD) (y : Nat) (v : Int) (i : Nat) (h : m.C[i]? = some true) : (m.put y v).C[i]? = some true := by
  rw [put_eq]
  show (if _ then _ else _ : List Bool)[i]? = some true
  split
  · rw [List.getElem?_set]
    split
    · rename_i e
      subst e
      rw [if_pos (List.getElem?_eq_some_iff.1 h).1]
    · exact h
  · exact h
theorem put_at {m : MD} {y : Nat} (hy : y < m.W.length) (v : Int) : (m.put y v).F y = v := by
  rw [put_eq]
  show (m.W.set y v).getD y 0 = v
  rw [List.getD_eq_getElem?_getD, List.getElem?_set_self hy]
  rfl
theorem cards_step {C D : List Bool} {i : Nat} {c : Bool} (hl : D.length = C.length) (hc : C[i]? = some c) : (C.take i ++ D.drop i).set i c = C.take (i + 1) ++ D.drop (i + 1) := by
  have hi := (List.getElem?_eq_some_iff.1 hc).1
  have e : (C.take i).length = i := by rw [List.length_take]; omega
  rw [List.set_append_right _ _ (by omega), e, Nat.sub_self, List.drop_eq_getElem_cons (by omega), List.set_cons_zero, List.take_add_one, hc, List.append_assoc]
  rfl
theorem cards_at {C D : List Bool} {i : Nat} (hi : i ≤ C.length) : (C.take i ++ D.drop i)[i]? = D[i]? := by
  have e : (C.take i).length = i := by rw [List.length_take]; omega
  rw [List.getElem?_append_right (by omega), e, Nat.sub_self, List.getElem?_drop, Nat.add_zero]
set_option maxHeartbeats 8000000 in
set_option maxRecDepth 100000 in
theorem memFields_good (a : Nat → Addr) (p o : Nat) (m : MD) (x fld v : Int) (w : World) (E : Errs a w) (h : RepM p o m w) (h64 : MD64 m) (n1 : m.W.length ≤ 1000) (n2 : m.R.length ≤ 100) (n3 : m.K.length ≤ 100) (n4 : m.I.length ≤ 100) (n5 : m.C.length ≤ 1000) (v0 : 0 ≤ v) (v1 : v < 18446744073709551616) (vs : List Nat) (hS : m.Shape vs) (hC : m.cardsB = true) (f j : Nat) (hf : f ∈ vs) (hj : j < szN (m.F f)) (hx : x = ((f : Int) + 1) * 4) (hfld : fld = (j : Int)) (hk : ¬ m.F f / 4 % 256 < 8) (hv : fieldB m.W.length (fun i => decide (i ∈ vs)) v = true) : Calls Tryd.prog 5 #[.pointer (some ⟨p, o, none⟩), .int .u64 x, .int .i64 fld, .int .u64 v] w fun ev w' => ev = .returned (.bool true) ∧ Below w.heap.size w w' := by
  obtain ⟨kd, hkd⟩ : ∃ kd, kd = m.F f / 4 % 256 := ⟨_, rfl⟩
  obtain ⟨y, hy⟩ : ∃ y : Nat, y = f + 1 + j := ⟨_, rfl⟩
  have hff := hS.fine f hf
  have hyl : y < m.W.length := by omega
  obtain ⟨xw, hxw⟩ : ∃ xw, xw = m.F y := ⟨_, rfl⟩
  have HS := toHid hS
  have HC := toHid hC
  have HF := toHid hf
  have HJ := toHid hj
  have HKD := toHid hkd
  have HYY := toHid hy
  have HXW := toHid hxw
  have HX := toHid hx
  have hFA : atP m f (j : Int) = .tuple #[.int .i64 (y : Int), .int .i64 kd, .int .i64 0] := by
    unfold atP
    rw [if_pos ⟨by omega, by omega⟩, ← hkd, hy]
    congr 3
  have HFA := toHid hFA
  have hY : (y : Int) < (m.W.length : Int) := by omega
  have hY0 : (0 : Int) ≤ (y : Int) := by omega
  have hfl : fld = (j : Int) := hfld
  subst hfl
  have HK := toHid hk
  have HV := toHid hv
  rw [← hkd] at hk
  have HPR : Hid ((m.put y v).Shape vs ∧ (m.put y v).cardsB = true) := by rw [hy]; exact put_right hS hC hf hj hv
  have hcp : 0 < m.C.length := hS.len.2.2
  clear hS hC hf hj hkd hy hxw hFA hff hfld hx hv
  have HE := toHid E
  have HR := toHid h
  have H64 := toHid h64
  clear E h h64
  go_enter Tryd.func5, Tryd.ntmps5
  go_wp2_with fail
  refine (fresh_any w).mono ?_
  rintro ev w1 ⟨rfl, hb1⟩
  go_wp2_with fail
  refine (near_yes p o m w1 (HR.out.below hb1) n1 n2 n3 n4 n5).mono ?_
  rintro ev w2 ⟨rfl, hq⟩
  rw [hq]
  clear hq w2
  go_wp2_with fail
  refine (checkOf_right p o m vs HS.out HC.out H64.out (by omega) (by omega) (by omega) w1 (HR.out.below hb1)).mono ?_
  rintro ev w2 ⟨rfl, hb2⟩
  have hb02 := hb1.trans (hb2.mono hb1.size)
  clear hb1 hb2
  go_wp2_with fail
  have kfa := fieldAt_at p o m vs HS.out H64.out f HF.out (j : Int) w2 (HR.out.below hb02)
  rw [HFA.out, ← HX.out] at kfa
  refine kfa.mono ?_
  rintro ev w3 ⟨rfl, hb3⟩
  have hb03 := hb02.trans (hb3.mono hb02.size)
  clear kfa hb3 hb02
  go_wp2_with fail
  refine (memOf_own p o m w3 (HR.out.below hb03) (by omega) (by omega) (by omega) (by omega) (by omega)).mono ?_
  rintro ev w4 ⟨bx, rfl, O4, hb4⟩
  have hb04 := hb03.trans (hb4.mono hb03.size)
  go_wp2_with fail
  have kg := get_ok a w3.heap.size bx m vs HS.out HC.out H64.out (by omega) (by omega) (by omega) f j HF.out HJ.out w4 (HE.out.below hb04).me.three O4
  rw [← HX.out, ← HYY.out, ← HXW.out] at kg
  refine kg.mono ?_
  rintro ev w5 ⟨rfl, hb5⟩
  have hb05 := hb04.trans (hb5.mono hb04.size)
  have O5 := O4.below hb5
  clear kg O4
  go_wp2_with fail
  have HB03 := toHid hb03
  have hb35 := hb4.trans (hb5.mono hb4.size)
  have kp := put_ok a w3 bx m vs HS.out HC.out H64.out (by omega) (by omega) (by omega) f j HF.out HJ.out (by have := HK.out; omega) v v0 v1 HV.out w5 (HE.out.below hb03).me.three hb35 O5
  rw [← HX.out, ← HYY.out] at kp
  refine kp.mono ?_
  rintro ev w6 ⟨rfl, O6, hb36, _⟩
  have hb06 := HB03.out.trans (hb36.mono HB03.out.size)
  clear kp O5 hb36 hb35 hb04 hb05 hb4 hb5 hb03
  obtain ⟨_, _, _, _, _, hpl, M6, ⟨aW, cW, rfl, hcW, fW⟩, _, _, _, _⟩ := HR.out.below hb06
  obtain ⟨b, ob, rfl, lb, gW⟩ := fW (by omega)
  have c3 := M6.c3
  have cy : w6.cell? ⟨b, ob + y, none⟩ = some (.int .u64 xw) := by
    rw [HXW.out]
    exact gW y _ (words_at (by unfold MD.F; rw [List.getD_eq_getElem?_getD, List.getElem?_eq_getElem hyl]; rfl))
  have hne : (xw != xw) = false := by rw [bne_self_eq_false]
  clear M6 fW gW
  have hU : U64 [v] := fun z hz => by
    obtain rfl := List.mem_singleton.1 hz
    exact ⟨v0, v1⟩
  have hba : Below w6.heap.size w6 (w6.alloc (.cells #[.int .u64 v] 40)) := (Below.refl _ _).alloc (Nat.le_refl _) _
  have hRow : RowV (w6.alloc (.cells #[.int .u64 v] 40)) (.slice (some ⟨w6.heap.size, 0, none⟩) 1 1) [v].length (wordsV [v]) := ⟨_, _, rfl, Nat.le_refl _, fun _ => ⟨w6.heap.size, 0, rfl, by simp, fun i u hi => by
    rw [Nat.zero_add, cell_of_row _ _ _ _ _ _ (heap_alloc_new w6 _)]
    cases i with
    | zero => simpa [wordsV] using hi
    | succ i => simp [wordsV] at hi⟩⟩
  have hb06a := hb06.trans (hba.mono hb06.size)
  have kf := fieldsOK_right p o m vs HS.out H64.out [v] (some ⟨w6.heap.size, 0, none⟩) 1 (by simp) hU _ (HR.out.below hb06a) hRow
  have hv1 : [v].all (fieldB m.W.length (fun i => decide (i ∈ vs))) = true := by rw [List.all_cons, HV.out]; rfl
  rw [hv1] at kf
  have O6a := O6.below hba
  clear hv1 hRow hU
  go_wp2_with fail
  refine kf.mono ?_
  rintro ev w7 ⟨rfl, hb7⟩
  have hb07 := hb06a.trans (hb7.mono hb06a.size)
  have O7 := O6a.below hb7
  clear kf O6 O6a hba hb06a c3 cy hb06 hb7
  go_wp2_with fail
  refine (memBack_own bx (m.put y v) w7 O7.repP.rep (by rw [(put_len m y v).2]; omega) (by rw [put_eq]; show m.R.length ≤ 300000; omega) (by rw [put_eq]; show m.K.length ≤ 300000; omega) (by rw [put_eq]; show m.I.length ≤ 300000; omega) (by rw [(put_len m y v).1]; omega)).mono ?_
  rintro ev w8 ⟨bz, rfl, ⟨uW, uR, uK, uI, uC, K8⟩, hb8⟩
  have hb08 := hb07.trans (hb8.mono hb07.size)
  have HB07 := toHid hb07
  have HK8 := toHid K8
  clear O7 K8
  go_wp2_with fail
  refine (checkOf_right bz 0 (m.put y v) vs HPR.out.1 HPR.out.2 (put64 H64.out v0 v1) (by rw [put_eq]; show m.R.length ≤ 300000; omega) (by rw [put_eq]; show m.K.length ≤ 300000; omega) (by rw [put_eq]; show m.I.length ≤ 300000; omega) w8 HK8.out.rep).mono ?_
  rintro ev w9 ⟨rfl, hb9⟩
  have K9 := HK8.out.below hb9
  have hb79 := hb8.trans (hb9.mono hb8.size)
  have hb09 := HB07.out.trans (hb79.mono HB07.out.size)
  obtain ⟨gw, cw, rfl, hcw, hBw, hgw, hgx, hww, hfw, _⟩ := K9.rowW (by rw [(put_len m y v).2]; omega)
  obtain ⟨gc, cc, rfl, hcc, hBc, hgc, _, _, _, _⟩ := K9.rowC (by rw [(put_len m y v).1]; omega)
  have d3 := K9.mem.c3
  have dy := hww y (by rw [(put_len m y v).2]; exact hyl)
  rw [put_at hyl] at dy
  have df := hfw y
  have HLW : Hid ((m.put y v).W.length = m.W.length) := (put_len m y v).2
  have HLC : Hid ((m.put y v).C.length = m.C.length) := (put_len m y v).1
  have HK9 : Hid (OwnK w7.heap.size bz (m.put y v) (.slice (some ⟨gw, 0, none⟩) m.W.length cw) uR uK uI (.slice (some ⟨gc, 0, none⟩) m.C.length cc) w9) := by rw [← HLW.out, ← HLC.out]; exact K9
  rw [HLW.out] at d3
  have hvv : (v != v) = false := by rw [bne_self_eq_false]
  obtain ⟨_, _, _, _, _, hpl, M9, ⟨aW', cW', rfl, hcW', fW⟩, _, _, _, ⟨aC, cC, rfl, hcC, fC⟩⟩ := HR.out.below hb09
  obtain ⟨b', ob', rfl, lb', gW⟩ := fW (by omega)
  obtain ⟨bc, obc, rfl, lbc, gC⟩ := fC hcp
  have c3 := M9.c3
  have cy : w9.cell? ⟨b', ob' + y, none⟩ = some (.int .u64 xw) := by
    rw [HXW.out]
    exact gW y _ (words_at (by unfold MD.F; rw [List.getD_eq_getElem?_getD, List.getElem?_eq_getElem hyl]; rfl))
  have HM9 := toHid M9
  have HGC : Hid (∀ j u, (boolsV m.C)[j]? = some u → w9.cell? ⟨bc, obc + j, none⟩ = some u) := gC
  have HBW := toHid hBw
  have HBC := toHid hBc
  have HZ9 : Hid (Below w7.heap.size w7 w9) := hb79
  have HWB : Hid (Below w.heap.size w w9) := hb09
  clear K9 hww hfw M9 fW gW fC gC hb79 hb09 hb08 hb8 hb9 hBw hBc hgx
  go_upto_region 21 with fail
  go_cut [] from 128 to 140 (fun wx => Hid (OwnK w7.heap.size bz ((m.put y v).setW y xw) (.slice (some ⟨gw, 0, none⟩) m.W.length cw) uR uK uI (.slice (some ⟨gc, 0, none⟩) m.C.length cc) wx) ∧ Hid (Below w7.heap.size w7 wx))
  case first =>
    go_region
    all_goals go_wp2_with fail
    all_goals go_meet
    all_goals (
      have Ka := HK9.out.setW y xw
      have ha : Below w7.heap.size w7 (w9.setCell ⟨gw, y, none⟩ (.int .u64 xw)) := HZ9.out.setCell HBW.out _
      exact ⟨by first | exact Ka | exact Ka.below (Below.refl _ _).drew | exact Ka.below (below_drewN (q := 2) (Below.refl _ _)), by first | exact ha | exact ha.drew | exact below_drewN ha⟩)
  case rest =>
    obtain ⟨HKa, HZa⟩ := hcut
    obtain ⟨D, hD⟩ : ∃ D, D = (m.put y v).C := ⟨_, rfl⟩
    have HPB : Hid ((m.put y v).setW y xw = m.withC D) := by show _ = _; rw [HXW.out, hD]; exact put_back hyl v
    have HDL : Hid (D.length = m.C.length) := by show _ = _; rw [hD]; exact (put_len m y v).1
    have HUP : Hid (∀ i, m.C[i]? = some true → D[i]? = some true) := fun i hi => by rw [hD]; exact put_up m y v i hi
    have HKb : Hid (OwnK w7.heap.size bz (m.withC D) (.slice (some ⟨gw, 0, none⟩) m.W.length cw) uR uK uI (.slice (some ⟨gc, 0, none⟩) m.C.length cc) wc) := by rw [← HPB.out]; exact HKa
    clear d3 dy df HK9 HZ9 c3 cy HM9 HGC HWB HKa hD HPB
    go_wp2_with fail
    go_loopg [18] (m.C.length + 1) (fun gi v18 wr => ∃ i : Nat, gi = m.C.length + 1 - i ∧ i ≤ m.C.length ∧ v18 = .int .i64 (i : Int) ∧ Hid (OwnK w7.heap.size bz (m.withC (m.C.take i ++ D.drop i)) (.slice (some ⟨gw, 0, none⟩) m.W.length cw) uR uK uI (.slice (some ⟨gc, 0, none⟩) m.C.length cc) wr) ∧ Hid (Below w7.heap.size w7 wr))
    case atStart => exact ⟨0, rfl, Nat.zero_le _, rfl, by rw [List.take_zero, List.drop_zero, List.nil_append]; exact HKb, HZa⟩
    case round =>
      obtain ⟨i, hgi, hi, hv18, HKi, HZi⟩ := hrel
      subst hv18
      have HG := toHid hgi
      clear hgi HKb HZa
      have hbi := HB07.out.trans (HZi.out.mono HB07.out.size)
      obtain ⟨_, _, _, _, _, hpl, Mi, _, _, _, _, ⟨aD, cD, rfl, hcD, fD⟩⟩ := HR.out.below hbi
      have c10 := Mi.c10
      by_cases hil : i < m.C.length
      · have hI : (i : Int) < (m.C.length : Int) := by omega
        have hI0 : (0 : Int) ≤ (i : Int) := by omega
        obtain ⟨bd, obd, rfl, lbd, gD⟩ := fD hcp
        obtain ⟨ci, hci⟩ : ∃ c, m.C[i]? = some c := ⟨_, List.getElem?_eq_getElem hil⟩
        have xc := gD i _ (bools_at hci)
        obtain ⟨di, hdi⟩ : ∃ c, D[i]? = some c := ⟨_, List.getElem?_eq_getElem (by rw [HDL.out]; exact hil)⟩
        have hln : (m.withC (m.C.take i ++ D.drop i)).C.length = m.C.length := by
          show (m.C.take i ++ D.drop i).length = _
          rw [List.length_append, List.length_take, List.length_drop, HDL.out]
          omega
        obtain ⟨g', c', ee, _, _, _, _, hwd, hfd, _⟩ := HKi.out.rowC (by rw [hln]; omega)
        rw [hln] at ee
        cases ee
        have e10 := HKi.out.mem.c10
        have xd : wr.cell? ⟨gc, i, none⟩ = some (.bool di) := by
          have k := hwd i (by rw [hln]; exact hil)
          have e : (m.withC (m.C.take i ++ D.drop i)).Cf i = di := by
            unfold MD.Cf MD.withC
            show (m.C.take i ++ D.drop i).getD i false = di
            rw [List.getD_eq_getElem?_getD, cards_at hi, hdi]
            rfl
          rw [e] at k
          exact k
        have xfz := hfd i
        have HST : Hid ((m.withC (m.C.take i ++ D.drop i)).setC i ci = m.withC (m.C.take (i + 1) ++ D.drop (i + 1))) := by
          show ({ m with C := (m.C.take i ++ D.drop i).set i ci } : MD) = { m with C := _ }
          rw [cards_step HDL.out hci]
        have hup : ci = true → di = true := fun h => by
          rw [h] at hci
          have := HUP.out i hci
          rw [hdi] at this
          cases this
          rfl
        clear hwd hfd gD fD hci hdi hln Mi hbi
        cases ci with
        | true =>
          obtain rfl := hup rfl
          clear hup
          go_wp2_with fail
          go_region
          all_goals go_wp2_with fail
          all_goals go_roundg (m.C.length + 1 - (i + 1))
          all_goals (first
            | (have := HG.out; omega)
            | (have Ka := HKi.out.setC i true
               rw [HST.out] at Ka
               have ha : Below w7.heap.size w7 (wr.setCell ⟨gc, i, none⟩ (.bool true)) := HZi.out.setCell HBC.out _
               exact ⟨i + 1, rfl, by omega, by go_num, by first | exact Ka | exact Ka.below (Below.refl _ _).drew | exact Ka.below (below_drewN (q := 2) (Below.refl _ _)), by first | exact ha | exact ha.drew | exact below_drewN ha⟩))
        | false =>
          clear hup
          go_wp2_with fail
          go_region
          all_goals go_wp2_with fail
          all_goals go_roundg (m.C.length + 1 - (i + 1))
          all_goals (first
            | (have := HG.out; omega)
            | (have Ka := HKi.out.setC i false
               rw [HST.out] at Ka
               have ha : Below w7.heap.size w7 (wr.setCell ⟨gc, i, none⟩ (.bool false)) := HZi.out.setCell HBC.out _
               exact ⟨i + 1, rfl, by omega, by go_num, by first | exact Ka | exact Ka.below (Below.refl _ _).drew | exact Ka.below (below_drewN (q := 2) (Below.refl _ _)), by first | exact ha | exact ha.drew | exact below_drewN ha⟩))
      · obtain rfl : i = m.C.length := by omega
        have HEQ : Hid (m.withC (m.C.take m.C.length ++ D.drop m.C.length) = m) := by
          show ({ m with C := _ } : MD) = m
          rw [List.take_length, List.drop_eq_nil_of_le (by rw [HDL.out]; exact Nat.le_refl _), List.append_nil]
        have Kf := HKi.out
        rw [HEQ.out] at Kf
        have HKF := toHid Kf
        have HBI := toHid hbi
        clear Kf Mi fD hbi
        go_wp2_with fail
        refine (sameMemory_eq bz 0 p o m wr HKF.out.rep (HR.out.below HBI.out) (by omega) (by omega) (by omega) (by omega) (by omega)).mono ?_
        rintro ev wz ⟨rfl, hbz⟩
        go_wp2_with fail
        go_ret
        exact ⟨rfl, HBI.out.trans (hbz.mono HBI.out.size)⟩
end Go.Proofs.YtbkmgempejckeaaDoor

/- The law MemFields by a walk: every memory. -/
namespace Go.Proofs.YtbkmgempejckeaaDoor
open Go.RowKit

theorem mfNear_nil (w : World) : Calls Tryd.prog 14 #[.pointer none] w fun ev w' => ev = .returned (.bool true) ∧ w' = w := by
  go_enter Tryd.func14, Tryd.ntmps14
  go_wp2
  go_ret
  exact ⟨rfl, rfl⟩
set_option maxRecDepth 100000 in
theorem memFields_nil (a : Nat → Addr) (x fld v : Int) (w : World) (E : Errs a w) : Calls Tryd.prog 5 #[.pointer none, .int .u64 x, .int .i64 fld, .int .u64 v] w fun ev w' => ev = .returned (.bool true) ∧ Below w.heap.size w w' := by
  have HE := toHid E
  clear E
  go_enter Tryd.func5, Tryd.ntmps5
  go_wp2_with fail
  refine (fresh_any w).mono ?_
  rintro ev w1 ⟨rfl, hb1⟩
  go_wp2_with fail
  refine (mfNear_nil w1).mono ?_
  rintro ev w2 ⟨rfl, hq⟩
  rw [hq]
  clear hq w2
  go_wp2_with fail
  refine (checkOf_nil w1).mono ?_
  rintro ev w2 ⟨rfl, hb2⟩
  have hb02 := hb1.trans (hb2.mono hb1.size)
  clear hb1 hb2
  go_wp2_with fail
  refine (memOf_nil w2).mono ?_
  rintro ev w3 ⟨rfl, hq⟩
  rw [hq]
  clear hq w3
  go_wp2_with fail
  refine (get_nil a x fld w2 (HE.out.below hb02).me.three).mono ?_
  rintro ev w5 ⟨rfl, hb5⟩
  have hb05 := hb02.trans (hb5.mono hb02.size)
  go_wp2_with fail
  refine (put_nil a x fld v w5 (HE.out.below hb05).me.three).mono ?_
  rintro ev w6 ⟨rfl, hb6⟩
  have hb06 := hb05.trans (hb6.mono hb05.size)
  go_wp2_with fail
  refine (coded_any a 2 (by decide) w6 (HE.out.below hb06)).mono ?_
  rintro ev w7 ⟨rfl, hb7⟩
  have hb07 := hb06.trans (hb7.mono hb06.size)
  go_wp2_with fail
  refine (coded_any a 2 (by decide) w7 (HE.out.below hb07)).mono ?_
  rintro ev w8 ⟨rfl, hb8⟩
  go_wp2_with fail
  go_ret
  exact ⟨rfl, hb07.trans (hb8.mono hb07.size)⟩
set_option maxRecDepth 100000 in
theorem memFields_far (p o : Nat) (m : MD) (x fld v : Int) (w : World) (h : RepM p o m w) (hn : ¬ (m.W.length ≤ 1000 ∧ m.R.length ≤ 100 ∧ m.K.length ≤ 100 ∧ m.I.length ≤ 100 ∧ m.C.length ≤ 1000)) : Calls Tryd.prog 5 #[.pointer (some ⟨p, o, none⟩), .int .u64 x, .int .i64 fld, .int .u64 v] w fun ev w' => ev = .returned (.bool true) ∧ Below w.heap.size w w' := by
  go_enter Tryd.func5, Tryd.ntmps5
  go_wp2_with fail
  refine (fresh_any w).mono ?_
  rintro ev w1 ⟨rfl, hb⟩
  go_wp2_with fail
  refine (near_no p o m w1 (h.below hb) hn).mono ?_
  rintro ev w2 ⟨rfl, hq⟩
  rw [hq]
  clear hq w2
  go_wp2_with fail
  go_ret
  exact ⟨rfl, hb⟩
theorem ptr_obj {nW : Nat} {vs : List Nat} {x : Int} (h : ptrB nW (fun i => decide (i ∈ vs)) x = true) : ∃ f : Nat, f ∈ vs ∧ x = ((f : Int) + 1) * 4 := by
  unfold ptrB at h
  simp only [Bool.and_eq_true, decide_eq_true_eq] at h
  exact ⟨(x / 4 - 1).toNat, h.2.2, by omega⟩
theorem memFields_any (a : Nat → Addr) (p o : Nat) (m : MD) (x fld v : Int) (x0 : 0 ≤ x) (x1 : x < 18446744073709551616) (v0 : 0 ≤ v) (v1 : v < 18446744073709551616) (w : World) (E : Errs a w) (h : RepM p o m w) (h64 : MD64 m) : Calls Tryd.prog 5 #[.pointer (some ⟨p, o, none⟩), .int .u64 x, .int .i64 fld, .int .u64 v] w fun ev w' => ev = .returned (.bool true) ∧ Below w.heap.size w w' := by
  by_cases hn : m.W.length ≤ 1000 ∧ m.R.length ≤ 100 ∧ m.K.length ≤ 100 ∧ m.I.length ≤ 100 ∧ m.C.length ≤ 1000
  · obtain ⟨n1, n2, n3, n4, n5⟩ := hn
    by_cases hs : ∃ vs, m.Shape vs
    · obtain ⟨vs, hS⟩ := hs
      cases hC : m.cardsB with
      | false => exact memFields_wrong a p o m x fld v w E h h64 n1 n2 n3 n4 n5 4 (.inl ⟨vs, hS, hC, rfl⟩)
      | true =>
        cases hp : ptrB m.W.length (fun i => decide (i ∈ vs)) x with
        | false => exact memFields_off a p o m x fld v w E h h64 n1 n2 n3 n4 n5 x0 x1 vs hS hC 4 (.inl ⟨hp, rfl⟩)
        | true =>
          obtain ⟨f, hf, hx⟩ := ptr_obj hp
          by_cases hk : 0 ≤ fld ∧ fld < (szN (m.F f) : Int)
          · have hj : fld.toNat < szN (m.F f) := by omega
            have hfl : fld = ((fld.toNat : Nat) : Int) := by omega
            by_cases hb : m.F f / 4 % 256 < 8
            · exact memFields_bad a p o m x fld v w E h h64 n1 n2 n3 n4 n5 v0 v1 vs hS hC f fld.toNat hf hj hx hfl (.inl hb)
            · cases hv : fieldB m.W.length (fun i => decide (i ∈ vs)) v with
              | false => exact memFields_bad a p o m x fld v w E h h64 n1 n2 n3 n4 n5 v0 v1 vs hS hC f fld.toNat hf hj hx hfl (.inr hv)
              | true => exact memFields_good a p o m x fld v w E h h64 n1 n2 n3 n4 n5 v0 v1 vs hS hC f fld.toNat hf hj hx hfl hb hv
          · exact memFields_off a p o m x fld v w E h h64 n1 n2 n3 n4 n5 x0 x1 vs hS hC 1 (.inr ⟨f, hf, hx, hk, rfl⟩)
    · exact memFields_wrong a p o m x fld v w E h h64 n1 n2 n3 n4 n5 2 (.inr ⟨fun vs h => hs ⟨vs, h⟩, rfl⟩)
  · exact memFields_far p o m x fld v w h hn
end Go.Proofs.YtbkmgempejckeaaDoor
