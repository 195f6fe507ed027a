/- Package mem: cards; objects of the nursery and of the old space, by contracts. -/
import Derived.Test.YtnkkklbbcbcmcaaDoorMemM
namespace Go.Proofs.YtnkkklbbcbcmcaaDoor
open Go.RowKit

def youngB (h x : Int) : Bool := decide (x % 4 = 0 ∧ 4 ≤ x ∧ x / 4 - 1 < 2 * h)
theorem ofAddr_noQ (a : Nat → Addr) (n : Int) (h0 : -9223372036854775808 ≤ n) (h1 : n < 9223372036854775808) (hn : n < 0 ∨ 1099511627776 < n) (w : World) (E : WErr a w) :
    Calls Tryd.prog 42 #[.int .i64 n] w fun ev w' => ev = .returned (.tuple #[.int .u64 0, errV a 1]) ∧ ∃ q, w' = w.drewN q := by
  have k1 := E.c1
  rcases hn with c | c
  · go_enter Tryd.func42, Tryd.ntmps42
    go_wp2
    go_quiet (fail)
    go_wp2
    go_ret2
    exact ⟨rfl, _, rfl⟩
  · have c1 : ¬ n < 0 := by omega
    have e := wrap64_small n h0 h1
    go_enter Tryd.func42, Tryd.ntmps42
    go_wp2
    go_quiet (fail)
    go_wp2
    go_ret2
    exact ⟨rfl, _, rfl⟩
theorem ofAddr_okQ (n : Int) (c1 : 0 ≤ n) (c2 : n ≤ 1099511627776) (w : World) :
    Calls Tryd.prog 42 #[.int .i64 n] w fun ev w' => ev = .returned (.tuple #[.int .u64 ((n + 1) * 4), .nilIface]) ∧ ∃ q, w' = w.drewN q := by
  have e := or_low ((n + 1) * 4) 0 (by omega) (by omega) (by omega) (by omega) (by omega)
  rw [Int.add_zero] at e
  go_enter Tryd.func42, Tryd.ntmps42
  go_wp2
  go_ret2
  rw [← e]
  exact ⟨rfl, 0, rfl⟩
theorem comesI_okQ (n x : Int) (c1 : 0 ≤ n) (c2 : n ≤ 1099511627776) (w : World) :
    Calls Tryd.prog 81 #[.int .i64 n, .int .u64 x, .func (.func 42) #[] #[]] w fun ev w' => ev = .returned (.bool ((n + 1) * 4 == x)) ∧ ∃ q, w' = w.drewN q := by
  have h := ofAddr_okQ n c1 c2 w
  go_enter Tryd.func81, Tryd.ntmps81
  go_wp2_with fail
  refine h.mono ?_
  rintro ev w1 ⟨rfl, q, hq⟩
  have HQ := toHid hq
  clear hq
  go_wp2
  go_ret
  exact ⟨rfl, q, HQ.out⟩
theorem comesI_noQ (a : Nat → Addr) (n x : Int) (h0 : -9223372036854775808 ≤ n) (h1 : n < 9223372036854775808) (hn : n < 0 ∨ 1099511627776 < n) (w : World) (E : WErr a w) :
    Calls Tryd.prog 81 #[.int .i64 n, .int .u64 x, .func (.func 42) #[] #[]] w fun ev w' => ev = .returned (.bool false) ∧ ∃ q, w' = w.drewN q := by
  have h := ofAddr_noQ a n h0 h1 hn w E
  go_enter Tryd.func81, Tryd.ntmps81
  go_wp2_with fail
  refine h.mono ?_
  rintro ev w1 ⟨rfl, q, hq⟩
  have HQ := toHid hq
  clear hq
  unfold errV
  go_wp2
  go_ret
  exact ⟨rfl, q, HQ.out⟩
theorem toAddr_okQ (x : Int) (hx : x % 4 = 0) (h4 : 4 ≤ x) (h5 : x / 4 - 1 ≤ 1099511627776) (w : World) :
    Calls Tryd.prog 65 #[.int .u64 x] w fun ev w' => ev = .returned (.tuple #[.int .i64 (x / 4 - 1), .nilIface]) ∧ ∃ q, w' = w.drewN q := by
  have h := comesI_okQ (x / 4 - 1) x (by omega) (by omega) w
  have hm : ((x / 4 - 1 + 1) * 4 == x) = true := by
    rw [beq_iff_eq]
    omega
  rw [hm] at h
  clear hm
  go_enter Tryd.func65, Tryd.ntmps65
  go_wp2_with fail
  refine h.mono ?_
  rintro ev w1 ⟨rfl, q, hq⟩
  have HQ := toHid hq
  clear hq
  go_wp2
  go_ret2
  exact ⟨rfl, q, HQ.out⟩
theorem toAddr_noQ (a : Nat → Addr) (x : Int) (h0 : 0 ≤ x) (h1 : x < 18446744073709551616) (hx : ¬ (x % 4 = 0 ∧ 4 ≤ x ∧ x / 4 - 1 ≤ 1099511627776)) (w : World) (E : WErr a w) :
    Calls Tryd.prog 65 #[.int .u64 x] w fun ev w' => ev = .returned (.tuple #[.int .i64 0, errV a 2]) ∧ ∃ q, w' = w.drewN q := by
  have h : Calls Tryd.prog 81 #[.int .i64 (x / 4 - 1), .int .u64 x, .func (.func 42) #[] #[]] w fun ev w' => ev = .returned (.bool false) ∧ ∃ q, w' = w.drewN q := by
    by_cases c : x / 4 - 1 < 0 ∨ 1099511627776 < x / 4 - 1
    · exact comesI_noQ a (x / 4 - 1) x (by omega) (by omega) c w E
    · have h := comesI_okQ (x / 4 - 1) x (by omega) (by omega) w
      have hm : ((x / 4 - 1 + 1) * 4 == x) = false := by
        rw [beq_eq_false_iff_ne]
        omega
      rw [hm] at h
      exact h
  clear hx
  go_enter Tryd.func65, Tryd.ntmps65
  go_wp2_with fail
  refine h.mono ?_
  rintro ev w1 ⟨rfl, q, hq⟩
  have k2 : w1.cell? ⟨1, 0, none⟩ = some (.iface 149 (.pointer (some (a 2)))) := by rw [hq]; exact E.c2
  have HQ := toHid hq
  clear hq
  go_wp2
  go_quiet (fail)
  go_wp2
  go_ret2
  exact ⟨rfl, by rw [HQ.out]; exact drew_ex2⟩
theorem young_any (a : Nat → Addr) (p : Nat) (h x : Int) (h0 : 0 ≤ h) (h1 : h ≤ 65536) (x0 : 0 ≤ x) (x1 : x < 18446744073709551616) (w : World) (E : WErr a w) (c0 : w.cell? ⟨p, 0, none⟩ = some (.int .i64 h)) :
    Calls Tryd.prog 45 #[.pointer (some ⟨p, 0, none⟩), .int .u64 x] w fun ev w' => ev = .returned (.bool (youngB h x)) ∧ ∃ q, w' = w.drewN q := by
  by_cases hx : x % 4 = 0 ∧ 4 ≤ x ∧ x / 4 - 1 ≤ 1099511627776
  · have ht := toAddr_okQ x hx.1 hx.2.1 hx.2.2 w
    have e : youngB h x = decide (x / 4 - 1 < 2 * h) := by
      unfold youngB
      by_cases hy : x / 4 - 1 < 2 * h
      · rw [decide_eq_true hy, decide_eq_true ⟨hx.1, hx.2.1, hy⟩]
      · rw [decide_eq_false hy, decide_eq_false (fun h => hy h.2.2)]
    rw [e]
    clear hx e
    go_enter Tryd.func45, Tryd.ntmps45
    go_wp2_with fail
    refine ht.mono ?_
    rintro ev w1 ⟨rfl, q, hq⟩
    have c1 : w1.cell? ⟨p, 0, none⟩ = some (.int .i64 h) := by rw [hq]; exact c0
    have HQ := toHid hq
    clear hq
    go_wp2_with fail
    refine (oldFrom_any p h h0 h1 w1 c1).mono ?_
    rintro ev w2 ⟨rfl, hq⟩
    rw [hq]
    clear hq w2
    go_wp2_with fail
    go_ret
    exact ⟨rfl, q, HQ.out⟩
  · have ht := toAddr_noQ a x x0 x1 hx w E
    unfold errV at ht
    have e : youngB h x = false := by
      unfold youngB
      rw [decide_eq_false_iff_not]
      omega
    rw [e]
    clear hx e
    go_enter Tryd.func45, Tryd.ntmps45
    go_wp2_with fail
    refine ht.mono ?_
    rintro ev w1 ⟨rfl, q, hq⟩
    have HQ := toHid hq
    clear hq
    go_wp2_with fail
    go_ret
    exact ⟨rfl, q, HQ.out⟩
theorem cardOf_any (p : Nat) (h c : Int) (i d j : Nat) (h0 : 0 ≤ h) (h1 : h ≤ 65536) (k0 : 1 ≤ c) (hi : i ≤ 300000) (hd : (i : Int) - 2 * h = (d : Int)) (hj : (d : Int) / c = (j : Int)) (w : World) (c0 : w.cell? ⟨p, 0, none⟩ = some (.int .i64 h)) (c2 : w.cell? ⟨p, 2, none⟩ = some (.int .i64 c)) :
    Calls Tryd.prog 46 #[.pointer (some ⟨p, 0, none⟩), .int .i64 (i : Int)] w fun ev w' => ev = .returned (.int .i64 (j : Int)) ∧ ∃ q, w' = w.drewN q := by
  have ko : Hid (∀ q, Calls Tryd.prog 30 #[.pointer (some ⟨p, 0, none⟩)] (w.drewN q) fun ev w' => ev = .returned (.int .i64 (2 * h)) ∧ w' = w.drewN q) := fun q => oldFrom_any p h h0 h1 (w.drewN q) c0
  have e1 : IntKind.i64.wrap ((i : Int) - 2 * h) = (d : Int) := by rw [wrapI _ (by omega) (by omega)]; exact hd
  have e2 : wrap64 ((d : Int) / c) = (j : Int) := by
    have : (d : Int) / c ≤ d := Int.ediv_le_self _ (by omega)
    rw [hj]
    exact wrap64_small _ (by omega) (by omega)
  have e3 : (c == 0) = false := by rw [beq_eq_false_iff_ne]; omega
  clear hd hj c0
  go_enter Tryd.func46, Tryd.ntmps46
  go_wp2_with fail
  go_quiet ((go_at_call 30; exact Calls.quiet_of_same (ko.out _)))
  go_wp2_with fail
  go_ret
  rw [e2]
  exact ⟨rfl, _, rfl⟩

/-- How carded stands: memory as it was, and the captured variable. -/
structure CH (w0 : World) (p q2 : Nat) (w : World) : Prop where
  below : Below w0.heap.size w0 w
  c2 : w.cell? ⟨q2, 0, none⟩ = some (.pointer (some ⟨p, 0, none⟩))
theorem CH.keep {w0 : World} {p q2 : Nat} {w w' : World} (H : CH w0 p q2 w) (hb : Below w.heap.size w w') : CH w0 p q2 w' :=
  ⟨H.below.trans (hb.mono H.below.size), (hb.cell (p := ⟨q2, 0, none⟩) (lt_of_cell H.c2)).trans H.c2⟩
/-- The card of a word of the old space. -/
def cardN (h c : Int) (i : Nat) : Nat := (((i : Int) - 2 * h) / c).toNat
/-- Is a field's card as it must be? -/
def cardB (F : Nat → Int) (C : Nat → Bool) (h c : Int) (i : Nat) : Bool := !(youngB h (F i) && !C (cardN h c i))
/-- What carded asks of an object. -/
def G3 (F : Nat → Int) (C : Nat → Bool) (h c : Int) (f : Nat) : Bool := decide (F f / 4 % 256 < 8) || (List.range (szN (F f))).all fun j => cardB F C h c (f + 1 + j)
theorem range_all_step {g : Nat → Bool} {k : Nat} (h : (List.range k).all g = true) (hg : g k = true) : (List.range (k + 1)).all g = true := by
  rw [List.range_succ, List.all_append, h]
  simp [hg]
theorem range_all_no {g : Nat → Bool} {k s : Nat} (hk : k < s) (hg : g k = false) : (List.range s).all g = false := by
  rw [List.all_eq_false]
  exact ⟨k, List.mem_range.2 hk, by rw [hg]; decide⟩
set_option maxHeartbeats 4000000 in
theorem carded_one (a : Nat → Addr) (w0 : World) (p b bc q2 nW nC cW cC f : Nat) (h ol c u t ot : Int) (vR vK vI : Value) (F : Nat → Int) (C : Nat → Bool) (L : Looked p b bc nW nC cW cC h ol c u t ot vR vK vI F C w0) (E : WErr a w0) (hh : headB (F f) = true) (hlo : 2 * h ≤ (f : Int)) (hf : f + 1 + szN (F f) ≤ nW) (w : World) (H : CH w0 p q2 w) :
    Calls Tryd.prog 78 (#[.int .i64 (f : Int), headV (F f)] ++ #[.pointer (some ⟨q2, 0, none⟩)]) w fun ev w' => ev = .returned (.bool (G3 F C h c f)) ∧ CH w0 p q2 w' := by
  have hnum := L.fits.nums
  unfold numsOK at hnum
  have hn : nW ≤ 300000 := by have := L.fits.w; omega
  have hd2 : F f / 65536 ≤ 4096 := by unfold headB at hh; have := of_decide_eq_true hh; exact this.2.2
  have hx := L.range f (by omega)
  obtain ⟨s, hs⟩ : ∃ s : Nat, (s : Int) = F f / 65536 := ⟨(F f / 65536).toNat, by omega⟩
  have HS : Hid (szN (F f) = s) := by show _ = _; unfold szN; omega
  show Calls Tryd.prog 78 #[.int .i64 (f : Int), .agg #[.int .i64 (F f / 4 % 256), .int .i64 (F f / 1024 % 16), .int .i64 (F f / 16384 % 2), .int .i64 (F f / 65536)], .pointer (some ⟨q2, 0, none⟩)] w _
  rw [← hs]
  have hG : G3 F C h c f = (decide (F f / 4 % 256 < 8) || (List.range s).all fun j => cardB F C h c (f + 1 + j)) := by unfold G3; rw [HS.out]
  rw [hG]
  clear hG
  have hs1 : s ≤ 4096 := by omega
  have hfs : f + 1 + s ≤ nW := by rw [← HS.out]; exact hf
  clear hs hd2 hx
  generalize F f / 1024 % 16 = ag
  generalize F f / 16384 % 2 = mk
  generalize F f / 4 % 256 = kd
  have k2 := H.c2
  have l2 := lt_of_cell k2
  have HH := toHid H
  have HL := toHid L
  have HE := toHid E
  clear hf hh
  by_cases hr : kd < 8
  · rw [decide_eq_true hr, Bool.true_or]
    have kr := raw_any kd (w.alloc (.cells #[.int .i64 kd, .int .i64 ag, .int .i64 mk, .int .i64 (s : Int)] 79))
    rw [decide_eq_true hr] at kr
    go_enter Tryd.func78, Tryd.ntmps78
    go_wp2_with fail
    refine kr.mono ?_
    rintro ev w1 ⟨rfl, hq⟩
    rw [hq]
    clear hq w1
    go_wp2_with fail
    go_ret
    exact ⟨rfl, HH.out.keep ((Below.refl _ _).alloc (Nat.le_refl _) _)⟩
  · rw [decide_eq_false hr, Bool.false_or]
    have kr := raw_any kd (w.alloc (.cells #[.int .i64 kd, .int .i64 ag, .int .i64 mk, .int .i64 (s : Int)] 79))
    rw [decide_eq_false hr] at kr
    have HC : Hid (∀ i, f + 1 ≤ i → i < nW → ∃ d j : Nat, (i : Int) - 2 * h = (d : Int) ∧ (d : Int) / c = (j : Int) ∧ j < nC ∧ cardN h c i = j) := fun i h1 h2 => by
      have hw := HL.out.fits.w
      have hc := HL.out.fits.c
      have g0 : 0 ≤ ((i : Int) - 2 * h) / c := Int.ediv_nonneg (by omega) (by omega)
      refine ⟨((i : Int) - 2 * h).toNat, (((i : Int) - 2 * h) / c).toNat, by omega, ?_, ?_, rfl⟩
      · rw [show ((((i : Int) - 2 * h).toNat : Nat) : Int) = (i : Int) - 2 * h by omega]
        omega
      · have : ((i : Int) - 2 * h) / c < (ol + c - 1) / c := by
          have e : (ol + c - 1) = (ol - 1) + 1 * c := by omega
          rw [e, Int.add_mul_ediv_right _ _ (by omega)]
          have := Int.ediv_le_ediv (c := c) (by omega) (show (i : Int) - 2 * h ≤ ol - 1 by omega)
          omega
        omega
    go_enter Tryd.func78, Tryd.ntmps78
    go_wp2_with fail
    refine kr.mono ?_
    rintro ev w1 ⟨rfl, hq⟩
    have hb1 : Below w.heap.size w w1 := by rw [hq]; exact (Below.refl _ _).alloc (Nat.le_refl _) _
    obtain ⟨r0, r1, r2, r3, _⟩ := head_block (w := w1) (b := w.heap.size) (by rw [hq]; exact heap_alloc_new w _)
    have x2 := (hb1.cell (p := ⟨q2, 0, none⟩) l2).trans k2
    clear hq k2 kr
    have H1 := HH.out.keep hb1
    have kf := fields_any p b nW cW f s kd ag mk h ol c u t ot vR vK vI _ hs1 hn hfs HL.out.cap w1 (HL.out.below H1.below).mem
    clear H1
    go_wp2_with fail
    refine kf.mono ?_
    rintro ev w2 ⟨ao, cap, rfl, hcap, hao, hb2⟩
    have hb3 := hb1.trans (hb2.mono hb1.size)
    clear hb2 kf x2 r0 r1 r2 r3
    go_wp2_with fail
    go_loopg [16] (s + 1) (fun gk v16 wr => ∃ k : Nat, gk = s + 1 - k ∧ k ≤ s ∧ v16 = .int .i64 (k : Int) ∧ Below w.heap.size w wr ∧ Hid ((List.range k).all (fun j => cardB F C h c (f + 1 + j)) = true))
    case atStart => exact ⟨0, rfl, Nat.zero_le _, rfl, hb3, rfl⟩
    case round =>
      obtain ⟨k, hgk, hk, hv16, hb4, hal⟩ := hrel
      subst hv16
      have HG := toHid hgk
      clear hgk
      have H4 := HH.out.keep hb4
      have L4 := HL.out.below H4.below
      have HL4 := toHid L4
      have HE4 := toHid (HE.out.below H4.below)
      have y2 := H4.c2
      have z10 := L4.mem.c10
      clear L4 H4
      by_cases hlt : k < s
      · have hI : (k : Int) < (s : Int) := by omega
        have hI0 : (0 : Int) ≤ (k : Int) := by omega
        obtain rfl := hao (by omega)
        obtain ⟨x, hxe⟩ : ∃ x, x = F (f + 1 + k) := ⟨_, rfl⟩
        have r1 : wr.cell? ⟨b, f + 1 + k, none⟩ = some (.int .u64 x) := by rw [hxe]; exact HL4.out.words _ (by omega)
        have hxr : 0 ≤ x ∧ x < 18446744073709551616 := by rw [hxe]; exact HL4.out.range _ (by omega)
        obtain ⟨d, j, hd, hj, hjn, hcn⟩ := HC.out (f + 1 + k) (by omega) (by omega)
        have r2 := HL4.out.cards j hjn
        obtain ⟨cv, hcv⟩ : ∃ cv, cv = C j := ⟨_, rfl⟩
        rw [← hcv] at r2
        have HCB : Hid (cardB F C h c (f + 1 + k) = !(youngB h x && !cv)) := by show _ = _; unfold cardB; rw [← hxe, hcn, ← hcv]
        have hj0 : (0 : Int) ≤ (j : Int) := by omega
        have hj1 : (j : Int) < (nC : Int) := by omega
        have e1 : IntKind.i64.wrap ((f : Int) + 1) = (f : Int) + 1 := wrapI _ (by omega) (by omega)
        have e2 : IntKind.i64.wrap ((f : Int) + 1 + (k : Int)) = (((f + 1 + k : Nat)) : Int) := by rw [wrapI _ (by omega) (by omega)]; omega
        have ky : Hid (∀ q, Calls Tryd.prog 45 #[.pointer (some ⟨p, 0, none⟩), .int .u64 x] (wr.drewN q) fun ev w' => ev = .returned (.bool (youngB h x)) ∧ ∃ n, w' = (wr.drewN q).drewN n) := fun q => young_any a p h x (by omega) (by omega) hxr.1 hxr.2 (wr.drewN q) (HE4.out.below (below_drewN (Below.refl _ _))) HL4.out.mem.c0
        have kc : Hid (∀ q, Calls Tryd.prog 46 #[.pointer (some ⟨p, 0, none⟩), .int .i64 ((f + 1 + k : Nat) : Int)] (wr.drewN q) fun ev w' => ev = .returned (.int .i64 (j : Int)) ∧ ∃ n, w' = (wr.drewN q).drewN n) := fun q => cardOf_any p h c (f + 1 + k) d j (by omega) (by omega) (by omega) (by omega) hd hj (wr.drewN q) HL4.out.mem.c0 HL4.out.mem.c2
        clear hxe hd hj hcn hcv hxr
        cases hyb : youngB h x with
        | false =>
          rw [hyb] at ky HCB
          have HT := toHid (range_all_step (g := fun j => cardB F C h c (f + 1 + j)) hal.out HCB.out)
          clear hyb HCB hal
          go_wp2_with fail
          go_quiet (first | (go_at_call 45; exact Calls.quiet_of (ky.out _)) | (go_at_call 46; exact Calls.quiet_of (kc.out _)))
          go_wp2_with fail
          go_roundg (s + 1 - (k + 1))
          case measure => have := HG.out; omega
          case rel => exact ⟨k + 1, rfl, by omega, by go_num, below_drewN hb4, HT⟩
        | true =>
          rw [hyb] at ky HCB
          cases cv with
          | true =>
            have HT := toHid (range_all_step (g := fun j => cardB F C h c (f + 1 + j)) hal.out HCB.out)
            clear hyb HCB hal
            go_wp2_with fail
            go_quiet (first | (go_at_call 45; exact Calls.quiet_of (ky.out _)) | (go_at_call 46; exact Calls.quiet_of (kc.out _)))
            go_wp2_with fail
            go_roundg (s + 1 - (k + 1))
            case measure => have := HG.out; omega
            case rel => exact ⟨k + 1, rfl, by omega, by go_num, below_drewN hb4, HT⟩
          | false =>
            have HT := toHid (range_all_no (g := fun j => cardB F C h c (f + 1 + j)) hlt HCB.out)
            clear hyb HCB hal
            go_wp2_with fail
            go_quiet (first | (go_at_call 45; exact Calls.quiet_of (ky.out _)) | (go_at_call 46; exact Calls.quiet_of (kc.out _)))
            go_wp2_with fail
            go_ret
            rw [HT.out]
            exact ⟨rfl, HH.out.keep (below_drewN hb4)⟩
      · obtain rfl : k = s := by omega
        go_wp2_with fail
        go_ret
        rw [hal.out]
        exact ⟨rfl, HH.out.keep hb4⟩
end Go.Proofs.YtnkkklbbcbcmcaaDoor
