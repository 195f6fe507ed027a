/- Package mem: cards; objects of the nursery and of the old space, by contracts. -/
import Derived.Test.YtlkcbdinlfeoiabGreatDoorMemM
namespace Go.Proofs.YtlkcbdinlfeoiabGreatDoor
open Go.RowKit

def youngB (h x : Int) : Bool := decide (x % 4 = 0 ∧ 4 ≤ x ∧ x / 4 - 1 < 2 * h)
theorem ofAddr_noQ (a : Nat → Addr) (n : Int) (h0 : -9223372036854775808 ≤ n) (h1 : n < 9223372036854775808) (hn : n < 0 ∨ 1099511627776 < n) (w : World) (E : WErr a w) :
    Calls Tryz.prog 48 #[.int .i64 n] w fun ev w' => ev = .returned (.tuple #[.int .u64 0, errV a 1]) ∧ ∃ q, w' = w.drewN q := by
  have k1 := E.c1
  rcases hn with c | c
  · go_enter Tryz.func48, Tryz.ntmps48
    go_wp2
    go_quiet (fail)
    go_wp2
    go_ret2
    exact ⟨rfl, _, rfl⟩
  · have c1 : ¬ n < 0 := by omega
    have e := wrap64_small n h0 h1
    go_enter Tryz.func48, Tryz.ntmps48
    go_wp2
    go_quiet (fail)
    go_wp2
    go_ret2
    exact ⟨rfl, _, rfl⟩
theorem ofAddr_okQ (n : Int) (c1 : 0 ≤ n) (c2 : n ≤ 1099511627776) (w : World) :
    Calls Tryz.prog 48 #[.int .i64 n] w fun ev w' => ev = .returned (.tuple #[.int .u64 ((n + 1) * 4), .nilIface]) ∧ ∃ q, w' = w.drewN q := by
  have e := or_low ((n + 1) * 4) 0 (by omega) (by omega) (by omega) (by omega) (by omega)
  rw [Int.add_zero] at e
  go_enter Tryz.func48, Tryz.ntmps48
  go_wp2
  go_ret2
  rw [← e]
  exact ⟨rfl, 0, rfl⟩
theorem comesI_okQ (n x : Int) (c1 : 0 ≤ n) (c2 : n ≤ 1099511627776) (w : World) :
    Calls Tryz.prog 124 #[.int .i64 n, .int .u64 x, .func (.func 48) #[] #[]] w fun ev w' => ev = .returned (.bool ((n + 1) * 4 == x)) ∧ ∃ q, w' = w.drewN q := by
  have h := ofAddr_okQ n c1 c2 w
  go_enter Tryz.func124, Tryz.ntmps124
  go_wp2_with fail
  refine h.mono ?_
  rintro ev w1 ⟨rfl, q, hq⟩
  have HQ := toHid hq
  clear hq
  go_wp2
  go_ret
  exact ⟨rfl, q, HQ.out⟩
theorem comesI_noQ (a : Nat → Addr) (n x : Int) (h0 : -9223372036854775808 ≤ n) (h1 : n < 9223372036854775808) (hn : n < 0 ∨ 1099511627776 < n) (w : World) (E : WErr a w) :
    Calls Tryz.prog 124 #[.int .i64 n, .int .u64 x, .func (.func 48) #[] #[]] w fun ev w' => ev = .returned (.bool false) ∧ ∃ q, w' = w.drewN q := by
  have h := ofAddr_noQ a n h0 h1 hn w E
  go_enter Tryz.func124, Tryz.ntmps124
  go_wp2_with fail
  refine h.mono ?_
  rintro ev w1 ⟨rfl, q, hq⟩
  have HQ := toHid hq
  clear hq
  unfold errV
  go_wp2
  go_ret
  exact ⟨rfl, q, HQ.out⟩
theorem toAddr_okQ (x : Int) (hx : x % 4 = 0) (h4 : 4 ≤ x) (h5 : x / 4 - 1 ≤ 1099511627776) (w : World) :
    Calls Tryz.prog 85 #[.int .u64 x] w fun ev w' => ev = .returned (.tuple #[.int .i64 (x / 4 - 1), .nilIface]) ∧ ∃ q, w' = w.drewN q := by
  have h := comesI_okQ (x / 4 - 1) x (by omega) (by omega) w
  have hm : ((x / 4 - 1 + 1) * 4 == x) = true := by
    rw [beq_iff_eq]
    omega
  rw [hm] at h
  clear hm
  go_enter Tryz.func85, Tryz.ntmps85
  go_wp2_with fail
  refine h.mono ?_
  rintro ev w1 ⟨rfl, q, hq⟩
  have HQ := toHid hq
  clear hq
  go_wp2
  go_ret2
  exact ⟨rfl, q, HQ.out⟩
theorem toAddr_noQ (a : Nat → Addr) (x : Int) (h0 : 0 ≤ x) (h1 : x < 18446744073709551616) (hx : ¬ (x % 4 = 0 ∧ 4 ≤ x ∧ x / 4 - 1 ≤ 1099511627776)) (w : World) (E : WErr a w) :
    Calls Tryz.prog 85 #[.int .u64 x] w fun ev w' => ev = .returned (.tuple #[.int .i64 0, errV a 2]) ∧ ∃ q, w' = w.drewN q := by
  have h : Calls Tryz.prog 124 #[.int .i64 (x / 4 - 1), .int .u64 x, .func (.func 48) #[] #[]] w fun ev w' => ev = .returned (.bool false) ∧ ∃ q, w' = w.drewN q := by
    by_cases c : x / 4 - 1 < 0 ∨ 1099511627776 < x / 4 - 1
    · exact comesI_noQ a (x / 4 - 1) x (by omega) (by omega) c w E
    · have h := comesI_okQ (x / 4 - 1) x (by omega) (by omega) w
      have hm : ((x / 4 - 1 + 1) * 4 == x) = false := by
        rw [beq_eq_false_iff_ne]
        omega
      rw [hm] at h
      exact h
  clear hx
  go_enter Tryz.func85, Tryz.ntmps85
  go_wp2_with fail
  refine h.mono ?_
  rintro ev w1 ⟨rfl, q, hq⟩
  have k2 : w1.cell? ⟨2, 0, none⟩ = some (.iface 260 (.pointer (some (a 2)))) := by rw [hq]; exact E.c2
  have HQ := toHid hq
  clear hq
  go_wp2
  go_quiet (fail)
  go_wp2
  go_ret2
  exact ⟨rfl, by rw [HQ.out]; exact drew_ex2⟩
theorem young_any (a : Nat → Addr) (p : Nat) (h x : Int) (h0 : 0 ≤ h) (h1 : h ≤ 65536) (x0 : 0 ≤ x) (x1 : x < 18446744073709551616) (w : World) (E : WErr a w) (c0 : w.cell? ⟨p, 0, none⟩ = some (.int .i64 h)) :
    Calls Tryz.prog 55 #[.pointer (some ⟨p, 0, none⟩), .int .u64 x] w fun ev w' => ev = .returned (.bool (youngB h x)) ∧ ∃ q, w' = w.drewN q := by
  by_cases hx : x % 4 = 0 ∧ 4 ≤ x ∧ x / 4 - 1 ≤ 1099511627776
  · have ht := toAddr_okQ x hx.1 hx.2.1 hx.2.2 w
    have e : youngB h x = decide (x / 4 - 1 < 2 * h) := by
      unfold youngB
      by_cases hy : x / 4 - 1 < 2 * h
      · rw [decide_eq_true hy, decide_eq_true ⟨hx.1, hx.2.1, hy⟩]
      · rw [decide_eq_false hy, decide_eq_false (fun h => hy h.2.2)]
    rw [e]
    clear hx e
    go_enter Tryz.func55, Tryz.ntmps55
    go_wp2_with fail
    refine ht.mono ?_
    rintro ev w1 ⟨rfl, q, hq⟩
    have c1 : w1.cell? ⟨p, 0, none⟩ = some (.int .i64 h) := by rw [hq]; exact c0
    have HQ := toHid hq
    clear hq
    go_wp2_with fail
    refine (oldFrom_any p h h0 h1 w1 c1).mono ?_
    rintro ev w2 ⟨rfl, hq⟩
    rw [hq]
    clear hq w2
    go_wp2_with fail
    go_ret
    exact ⟨rfl, q, HQ.out⟩
  · have ht := toAddr_noQ a x x0 x1 hx w E
    unfold errV at ht
    have e : youngB h x = false := by
      unfold youngB
      rw [decide_eq_false_iff_not]
      omega
    rw [e]
    clear hx e
    go_enter Tryz.func55, Tryz.ntmps55
    go_wp2_with fail
    refine ht.mono ?_
    rintro ev w1 ⟨rfl, q, hq⟩
    have HQ := toHid hq
    clear hq
    go_wp2_with fail
    go_ret
    exact ⟨rfl, q, HQ.out⟩
theorem cardOf_any (p : Nat) (h c : Int) (i d j : Nat) (h0 : 0 ≤ h) (h1 : h ≤ 65536) (k0 : 1 ≤ c) (hi : i ≤ 300000) (hd : (i : Int) - 2 * h = (d : Int)) (hj : (d : Int) / c = (j : Int)) (w : World) (c0 : w.cell? ⟨p, 0, none⟩ = some (.int .i64 h)) (c2 : w.cell? ⟨p, 2, none⟩ = some (.int .i64 c)) :
    Calls Tryz.prog 56 #[.pointer (some ⟨p, 0, none⟩), .int .i64 (i : Int)] w fun ev w' => ev = .returned (.int .i64 (j : Int)) ∧ ∃ q, w' = w.drewN q := by
  have ko : Hid (∀ q, Calls Tryz.prog 43 #[.pointer (some ⟨p, 0, none⟩)] (w.drewN q) fun ev w' => ev = .returned (.int .i64 (2 * h)) ∧ w' = w.drewN q) := fun q => oldFrom_any p h h0 h1 (w.drewN q) c0
  have e1 : IntKind.i64.wrap ((i : Int) - 2 * h) = (d : Int) := by rw [wrapI _ (by omega) (by omega)]; exact hd
  have e2 : wrap64 ((d : Int) / c) = (j : Int) := by
    have : (d : Int) / c ≤ d := Int.ediv_le_self _ (by omega)
    rw [hj]
    exact wrap64_small _ (by omega) (by omega)
  have e3 : (c == 0) = false := by rw [beq_eq_false_iff_ne]; omega
  clear hd hj c0
  go_enter Tryz.func56, Tryz.ntmps56
  go_wp2_with fail
  go_quiet ((go_at_call 43; exact Calls.quiet_of_same (ko.out _)))
  go_wp2_with fail
  go_ret
  rw [e2]
  exact ⟨rfl, _, rfl⟩

/-- How carded stands: memory as it was, and the captured variable. -/
structure CH (w0 : World) (p q2 : Nat) (w : World) : Prop where
  below : Below w0.heap.size w0 w
  c2 : w.cell? ⟨q2, 0, none⟩ = some (.pointer (some ⟨p, 0, none⟩))
theorem CH.keep {w0 : World} {p q2 : Nat} {w w' : World} (H : CH w0 p q2 w) (hb : Below w.heap.size w w') : CH w0 p q2 w' :=
  ⟨H.below.trans (hb.mono H.below.size), (hb.cell (p := ⟨q2, 0, none⟩) (lt_of_cell H.c2)).trans H.c2⟩
/-- The card of a word of the old space. -/
def cardN (h c : Int) (i : Nat) : Nat := (((i : Int) - 2 * h) / c).toNat
/-- Is a field's card as it must be? -/
def cardB (F : Nat → Int) (C : Nat → Bool) (h c : Int) (i : Nat) : Bool := !(youngB h (F i) && !C (cardN h c i))
/-- What carded asks of an object. -/
def G3 (F : Nat → Int) (C : Nat → Bool) (h c : Int) (f : Nat) : Bool := decide (F f / 4 % 256 < 8) || (List.range (szN (F f))).all fun j => cardB F C h c (f + 1 + j)
theorem range_all_step {g : Nat → Bool} {k : Nat} (h : (List.range k).all g = true) (hg : g k = true) : (List.range (k + 1)).all g = true := by
  rw [List.range_succ, List.all_append, h]
  simp [hg]
theorem range_all_no {g : Nat → Bool} {k s : Nat} (hk : k < s) (hg : g k = false) : (List.range s).all g = false := by
  rw [List.all_eq_false]
  exact ⟨k, List.mem_range.2 hk, by rw [hg]; decide⟩
/-- A word of the old space has a card. -/
theorem Looked.card {p b bc nW nC cW cC : Nat} {h ol c u t ot : Int} {vR vK vI : Value} {F : Nat → Int} {C : Nat → Bool} {w : World} (L : Looked p b bc nW nC cW cC h ol c u t ot vR vK vI F C w) (i : Nat) (h1 : 2 * h ≤ (i : Int)) (h2 : i < nW) : ∃ d j : Nat, (i : Int) - 2 * h = (d : Int) ∧ (d : Int) / c = (j : Int) ∧ j < nC ∧ cardN h c i = j := by
  have hw := L.fits.w
  have hc := L.fits.c
  have hnum := L.fits.nums
  unfold numsOK at hnum
  have g0 : 0 ≤ ((i : Int) - 2 * h) / c := Int.ediv_nonneg (by omega) (by omega)
  refine ⟨((i : Int) - 2 * h).toNat, (((i : Int) - 2 * h) / c).toNat, by omega, ?_, ?_, rfl⟩
  · rw [show ((((i : Int) - 2 * h).toNat : Nat) : Int) = (i : Int) - 2 * h by omega]
    omega
  · have : ((i : Int) - 2 * h) / c < (ol + c - 1) / c := by
      have e : (ol + c - 1) = (ol - 1) + 1 * c := by omega
      rw [e, Int.add_mul_ediv_right _ _ (by omega)]
      have := Int.ediv_le_ediv (c := c) (by omega) (show (i : Int) - 2 * h ≤ ol - 1 by omega)
      omega
    omega
set_option maxHeartbeats 4000000 in
/-- What carded asks of a field. -/
theorem carded_do (a : Nat → Addr) (w0 : World) (p b bc q2 nW nC cW cC i : Nat) (h ol c u t ot : Int) (vR vK vI : Value) (F : Nat → Int) (C : Nat → Bool) (L : Looked p b bc nW nC cW cC h ol c u t ot vR vK vI F C w0) (E : WErr a w0) (hlo : 2 * h ≤ (i : Int)) (hi : i < nW) (w : World) (H : CH w0 p q2 w) :
    Calls Tryz.prog 131 #[.int .i64 (i : Int), .pointer (some ⟨q2, 0, none⟩)] w fun ev w' => ev = .returned (.bool (cardB F C h c i)) ∧ Below w.heap.size w w' := by
  have L4 := L.below H.below
  have E4 := E.below H.below
  obtain ⟨d, j, hd, hj, hjn, hcn⟩ := L4.card i hlo hi
  have hnum := L4.fits.nums
  unfold numsOK at hnum
  have hw := L4.fits.w
  have hn : nW ≤ 300000 := by omega
  obtain ⟨x, hxe⟩ : ∃ x, x = F i := ⟨_, rfl⟩
  have r1 : w.cell? ⟨b, i, none⟩ = some (.int .u64 x) := by rw [hxe]; exact L4.words i hi
  have hxr : 0 ≤ x ∧ x < 18446744073709551616 := by rw [hxe]; exact L4.range i hi
  have r2 := L4.cards j hjn
  obtain ⟨cv, hcv⟩ : ∃ cv, cv = C j := ⟨_, rfl⟩
  rw [← hcv] at r2
  have HCB : Hid (cardB F C h c i = !(youngB h x && !cv)) := by show _ = _; unfold cardB; rw [← hxe, hcn, ← hcv]
  have y2 := H.c2
  have z3 := L4.mem.c3
  have z10 := L4.mem.c10
  have hj0 : (0 : Int) ≤ (j : Int) := by omega
  have hj1 : (j : Int) < (nC : Int) := by omega
  have hi0 : (0 : Int) ≤ (i : Int) := by omega
  have hi1 : (i : Int) < (nW : Int) := by omega
  have ky : Hid (∀ q, Calls Tryz.prog 55 #[.pointer (some ⟨p, 0, none⟩), .int .u64 x] (w.drewN q) fun ev w' => ev = .returned (.bool (youngB h x)) ∧ ∃ n, w' = (w.drewN q).drewN n) := fun q => young_any a p h x (by omega) (by omega) hxr.1 hxr.2 (w.drewN q) (E4.below (below_drewN (Below.refl _ _))) L4.mem.c0
  have kc : Hid (∀ q, Calls Tryz.prog 56 #[.pointer (some ⟨p, 0, none⟩), .int .i64 (i : Int)] (w.drewN q) fun ev w' => ev = .returned (.int .i64 (j : Int)) ∧ ∃ n, w' = (w.drewN q).drewN n) := fun q => cardOf_any p h c i d j (by omega) (by omega) (by omega) (by omega) hd hj (w.drewN q) L4.mem.c0 L4.mem.c2
  rw [HCB.out]
  clear hxe hd hj hcn hcv hxr HCB L4 E4 L E H hw hnum hlo hjn hi hn
  generalize youngB h x = yb at *
  cases yb with
  | false =>
    go_enter Tryz.func131, Tryz.ntmps131
    go_wp2_with fail
    go_quiet (first | (go_at_call 55; exact Calls.quiet_of (ky.out _)) | (go_at_call 56; exact Calls.quiet_of (kc.out _)))
    go_wp2_with fail
    go_ret
    exact ⟨rfl, below_drewN (Below.refl _ _)⟩
  | true =>
    cases cv with
    | false =>
      go_enter Tryz.func131, Tryz.ntmps131
      go_wp2_with fail
      go_quiet (first | (go_at_call 55; exact Calls.quiet_of (ky.out _)) | (go_at_call 56; exact Calls.quiet_of (kc.out _)))
      go_wp2_with fail
      go_ret
      exact ⟨rfl, below_drewN (Below.refl _ _)⟩
    | true =>
      go_enter Tryz.func131, Tryz.ntmps131
      go_wp2_with fail
      go_quiet (first | (go_at_call 55; exact Calls.quiet_of (ky.out _)) | (go_at_call 56; exact Calls.quiet_of (kc.out _)))
      go_wp2_with fail
      go_ret
      exact ⟨rfl, below_drewN (Below.refl _ _)⟩
/-- How eachOldField stands for carded: memory as it was, and the captured variables. -/
structure CF (w0 : World) (p q2 q3 : Nat) (w : World) : Prop where
  ch : CH w0 p q2 w
  c3 : w.cell? ⟨q3, 0, none⟩ = some (.func (.func 131) #[] #[.pointer (some ⟨q2, 0, none⟩)])
theorem CF.keep {w0 : World} {p q2 q3 : Nat} {w w' : World} (H : CF w0 p q2 q3 w) (hb : Below w.heap.size w w') : CF w0 p q2 q3 w' :=
  ⟨H.ch.keep hb, (hb.cell (p := ⟨q3, 0, none⟩) (lt_of_cell H.c3)).trans H.c3⟩
set_option maxHeartbeats 4000000 in
theorem eachOldField_one (a : Nat → Addr) (w0 : World) (p b bc q2 q3 nW nC cW cC f : Nat) (h ol c u t ot : Int) (vR vK vI : Value) (F : Nat → Int) (C : Nat → Bool) (L : Looked p b bc nW nC cW cC h ol c u t ot vR vK vI F C w0) (E : WErr a w0) (hh : headB (F f) = true) (hlo : 2 * h ≤ (f : Int)) (hf : f + 1 + szN (F f) ≤ nW) (w : World) (H : CF w0 p q2 q3 w) :
    Calls Tryz.prog 162 (#[.int .i64 (f : Int), headV (F f)] ++ #[.pointer (some ⟨q3, 0, none⟩)]) w fun ev w' => ev = .returned (.bool (G3 F C h c f)) ∧ CF w0 p q2 q3 w' := by
  have hnum := L.fits.nums
  unfold numsOK at hnum
  have hn : nW ≤ 300000 := by have := L.fits.w; omega
  have hd2 : F f / 65536 ≤ 4096 := by unfold headB at hh; have := of_decide_eq_true hh; exact this.2.2
  have hx := L.range f (by omega)
  obtain ⟨s, hs⟩ : ∃ s : Nat, (s : Int) = F f / 65536 := ⟨(F f / 65536).toNat, by omega⟩
  have HS : Hid (szN (F f) = s) := by show _ = _; unfold szN; omega
  show Calls Tryz.prog 162 #[.int .i64 (f : Int), .agg #[.int .i64 (F f / 4 % 256), .int .i64 (F f / 1024 % 16), .int .i64 (F f / 16384 % 2), .int .i64 (F f / 65536)], .pointer (some ⟨q3, 0, none⟩)] w _
  rw [← hs]
  have hG : G3 F C h c f = (decide (F f / 4 % 256 < 8) || (List.range s).all fun j => cardB F C h c (f + 1 + j)) := by unfold G3; rw [HS.out]
  rw [hG]
  clear hG
  have hs1 : s ≤ 4096 := by omega
  have hfs : f + 1 + s ≤ nW := by rw [← HS.out]; exact hf
  clear hs hd2 hx
  generalize F f / 1024 % 16 = ag
  generalize F f / 16384 % 2 = mk
  generalize hgk : F f / 4 % 256 = kd
  have hkd0 : 0 ≤ kd := by rw [← hgk]; exact Int.emod_nonneg _ (by decide)
  clear hgk
  have k3 := H.c3
  have l3 := lt_of_cell k3
  have HH := toHid H
  have HL := toHid L
  have HE := toHid E
  clear hf hh H L E
  by_cases hr : kd < 8
  · rw [decide_eq_true hr, Bool.true_or]
    have kr := raw_any kd hkd0 (w.alloc (.cells #[.int .i64 kd, .int .i64 ag, .int .i64 mk, .int .i64 (s : Int)] 99))
    rw [decide_eq_true hr] at kr
    go_enter Tryz.func162, Tryz.ntmps162
    go_wp2_with fail
    refine kr.mono ?_
    rintro ev w1 ⟨rfl, hq⟩
    rw [hq]
    clear hq w1
    go_wp2_with fail
    go_ret
    exact ⟨rfl, HH.out.keep ((Below.refl _ _).alloc (Nat.le_refl _) _)⟩
  · rw [decide_eq_false hr, Bool.false_or]
    have kr := raw_any kd hkd0 (w.alloc (.cells #[.int .i64 kd, .int .i64 ag, .int .i64 mk, .int .i64 (s : Int)] 99))
    rw [decide_eq_false hr] at kr
    go_enter Tryz.func162, Tryz.ntmps162
    go_wp2_with fail
    refine kr.mono ?_
    rintro ev w1 ⟨rfl, hq⟩
    have hb1 : Below w.heap.size w w1 := by rw [hq]; exact (Below.refl _ _).alloc (Nat.le_refl _) _
    obtain ⟨r0, r1, r2, r3, _⟩ := head_block (w := w1) (b := w.heap.size) (by rw [hq]; exact heap_alloc_new w _)
    clear hq kr
    go_wp2_with fail
    clear r0 r1 r2 r3
    go_loopg [12] (s + 1) (fun gk v12 wr => ∃ k : Nat, gk = s + 1 - k ∧ k ≤ s ∧ v12 = .int .i64 (k : Int) ∧ Below w.heap.size w wr ∧ Hid ((List.range k).all (fun j => cardB F C h c (f + 1 + j)) = true))
    case atStart => exact ⟨0, rfl, Nat.zero_le _, rfl, hb1, rfl⟩
    case round =>
      obtain ⟨k, hgk, hk, hv12, hb4, hal⟩ := hrel
      subst hv12
      have HG := toHid hgk
      clear hgk
      have H4 := HH.out.keep hb4
      have y3 := H4.c3
      by_cases hlt : k < s
      · have hI : (k : Int) < (s : Int) := by omega
        have hI0 : (0 : Int) ≤ (k : Int) := by omega
        have e1 : IntKind.i64.wrap ((f : Int) + 1) = (f : Int) + 1 := wrapI _ (by omega) (by omega)
        have e2 : IntKind.i64.wrap ((f : Int) + 1 + (k : Int)) = (((f + 1 + k : Nat)) : Int) := by rw [wrapI _ (by omega) (by omega)]; omega
        have ko := carded_do a w0 p b bc q2 nW nC cW cC (f + 1 + k) h ol c u t ot vR vK vI F C HL.out HE.out (by omega) (by omega) wr H4.ch
        clear H4
        cases hcb : cardB F C h c (f + 1 + k) with
        | true =>
          rw [hcb] at ko
          have HT := toHid (range_all_step (g := fun j => cardB F C h c (f + 1 + j)) hal.out hcb)
          clear hcb hal
          go_wp2_with fail
          refine ko.mono ?_
          rintro ev w5 ⟨rfl, hb5⟩
          go_wp2_with fail
          go_roundg (s + 1 - (k + 1))
          case measure => have := HG.out; omega
          case rel => exact ⟨k + 1, rfl, by omega, by go_num, hb4.trans (hb5.mono hb4.size), HT⟩
        | false =>
          rw [hcb] at ko
          have HT := toHid (range_all_no (g := fun j => cardB F C h c (f + 1 + j)) hlt hcb)
          clear hcb hal
          go_wp2_with fail
          refine ko.mono ?_
          rintro ev w5 ⟨rfl, hb5⟩
          go_wp2_with fail
          go_ret
          rw [HT.out]
          exact ⟨rfl, HH.out.keep (hb4.trans (hb5.mono hb4.size))⟩
      · obtain rfl : k = s := by omega
        clear H4
        go_wp2_with fail
        go_ret
        rw [hal.out]
        exact ⟨rfl, HH.out.keep hb4⟩
end Go.Proofs.YtlkcbdinlfeoiabGreatDoor
