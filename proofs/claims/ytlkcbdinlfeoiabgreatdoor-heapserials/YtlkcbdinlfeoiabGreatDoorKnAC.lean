/- Package mem: objects one by one (eachOf), by a contract. -/
import Derived.Test.YtlkcbdinlfeoiabGreatDoorMemK
namespace Go.Proofs.YtlkcbdinlfeoiabGreatDoor
open Go.RowKit

def headB (x : Int) : Bool := decide (x % 4 = 3 ∧ x / 32768 % 2 = 0 ∧ x / 65536 ≤ 4096)
def szN (x : Int) : Nat := (x / 65536).toNat
/-- A header's word as a header. -/
def headV (x : Int) : Value := .agg #[.int .i64 (x / 4 % 256), .int .i64 (x / 1024 % 16), .int .i64 (x / 16384 % 2), .int .i64 (x / 65536)]
/-- Where objects begin, from f on, if they just fill what is ahead of t, and each passes G. -/
def walkP (F : Nat → Int) (G : Nat → Bool) : Nat → Nat → Nat → Option (List Nat)
  | 0, _, _ => some []
  | n + 1, f, t => if f < t then (if headB (F f) && (decide (f + 1 + szN (F f) ≤ t) && G f) then (walkP F G n (f + 1 + szN (F f)) t).map (f :: ·) else none) else some []
theorem walkP_done {F : Nat → Int} {G : Nat → Bool} {n f t : Nat} (h : ¬ f < t) : walkP F G n f t = some [] := by
  cases n with
  | zero => rfl
  | succ n => unfold walkP; rw [if_neg h]
theorem walkP_fail {F : Nat → Int} {G : Nat → Bool} {n f t : Nat} (hn : t - f ≤ n) (h : f < t) (hb : (headB (F f) && (decide (f + 1 + szN (F f) ≤ t) && G f)) = false) : walkP F G n f t = none := by
  cases n with
  | zero => omega
  | succ n => unfold walkP; rw [if_pos h, hb]; rfl
theorem walkP_next {F : Nat → Int} {G : Nat → Bool} {n f t : Nat} (hn : t - f ≤ n) (h : f < t) (hb : (headB (F f) && (decide (f + 1 + szN (F f) ≤ t) && G f)) = true) : ∃ n', t - (f + 1 + szN (F f)) ≤ n' ∧ walkP F G n f t = (walkP F G n' (f + 1 + szN (F f)) t).map (f :: ·) := by
  cases n with
  | zero => omega
  | succ n => refine ⟨n, by omega, ?_⟩; rw [walkP, if_pos h, hb]; rfl

set_option maxHeartbeats 4000000 in
theorem eachOf_any (a : Nat → Addr) (K : FuncId) (caps : Array Value) (hE : ∀ args w, (callFunc K args).run Tryz.prog w = .ok (.enter K args) w) (F : Nat → Int) (G : Nat → Bool) (Inv : List Nat → World → Prop) (b t cap : Nat) (ht : t ≤ 300000) (hF : ∀ i, i < t → 0 ≤ F i ∧ F i < 18446744073709551616)
    (hcell : ∀ vs w, Inv vs w → WErr a w ∧ ∀ i, i < t → w.cell? ⟨b, i, none⟩ = some (.int .u64 (F i))) (hkeep : ∀ vs w w', Inv vs w → Below w.heap.size w w' → Inv vs w')
    (f0 : Nat) (hK : ∀ vs f w, Inv vs w → f0 ≤ f → f < t → headB (F f) = true → f + 1 + szN (F f) ≤ t → Calls Tryz.prog K (#[.int .i64 (f : Int), headV (F f)] ++ caps) w fun ev w' => ev = .returned (.bool (G f)) ∧ Inv (vs ++ [f]) w')
    (vs0 : List Nat) (w : World) (h0 : Inv vs0 w) :
    Calls Tryz.prog 191 #[.slice (some ⟨b, 0, none⟩) t cap, .int .i64 (f0 : Int), .func (.func K) #[] caps] w fun ev w' => ev = .returned (.bool (walkP F G (t - f0) f0 t).isSome) ∧ ∃ vs, Inv vs w' ∧ ∀ l, walkP F G (t - f0) f0 t = some l → vs = vs0 ++ l := by
  have HK := toHid hK
  have HC := toHid hcell
  have HP := toHid hkeep
  have HF := toHid hF
  have H0 := toHid h0
  clear hK hcell hkeep hF h0
  go_enter Tryz.func191, Tryz.ntmps191
  go_wp2_with fail
  go_loopg [1] (t + 1) (fun gk v1 wr => ∃ (f n : Nat) (vs : List Nat), gk = t + f0 + 1 - f ∧ v1 = .int .i64 (f : Int) ∧ (f = f0 ∨ f ≤ t) ∧ Hid (f0 ≤ f) ∧ Hid (t - f ≤ n) ∧ Hid (Inv (vs0 ++ vs) wr) ∧ Hid (walkP F G (t - f0) f0 t = (walkP F G n f t).map (vs ++ ·)))
  case atStart => exact ⟨f0, t - f0, [], by omega, rfl, .inl rfl, Nat.le_refl _, Nat.le_refl _, by rw [List.append_nil]; exact H0, by show _ = _; simp⟩
  case round =>
    obtain ⟨f, n, vs, hgk, hv1, hft, hfl, hn, hI, hW⟩ := hrel
    subst hv1
    have HG := toHid hgk
    clear hgk
    by_cases hlt : f < t
    · have hI1 : (f : Int) < (t : Int) := by omega
      have hI0 : (0 : Int) ≤ (f : Int) := by omega
      obtain ⟨E, hc⟩ := HC.out _ _ hI.out
      obtain ⟨x, hxe⟩ : ∃ x, x = F f := ⟨_, rfl⟩
      have c0 := hc f hlt
      have hx := HF.out f hlt
      rw [← hxe] at c0 hx
      have HX := toHid hxe
      clear hc hxe
      cases hh : headB x with
      | false =>
        have HN : Hid (walkP F G (t - f0) f0 t = none) := by show _ = _; rw [hW.out, walkP_fail hn.out hlt (by rw [← HX.out, hh]; rfl)]; rfl
        have kt := toHead_no a x hx.1 hx.2 (by unfold headB at hh; simpa using hh) wr E
        unfold errV at kt
        clear hh
        go_wp2_with fail
        refine kt.mono ?_
        rintro ev w1 ⟨rfl, hb1⟩
        go_wp2_with fail
        refine (words_any 0 0 0 0 (by omega) (by omega) _).mono ?_
        rintro ev w2 ⟨rfl, hb2⟩
        have hb3 : Below wr.heap.size wr w2 := (hb1.alloc hb1.size _).trans (hb2.mono (by have := hb1.size; simp; omega))
        clear hb1 hb2
        go_wp2_with fail
        go_ret
        exact ⟨by rw [HN.out]; rfl, vs0 ++ vs, HP.out _ _ _ hI.out hb3, fun l hl => by rw [HN.out] at hl; cases hl⟩
      | true =>
        obtain ⟨hd0, hd1, hd2⟩ : x % 4 = 3 ∧ x / 32768 % 2 = 0 ∧ x / 65536 ≤ 4096 := by unfold headB at hh; simpa using hh
        have kt := toHead_ok x hx.1 hx.2 hd0 hd1 hd2 wr
        obtain ⟨s, hs⟩ : ∃ s : Nat, (s : Int) = x / 65536 := ⟨(x / 65536).toNat, by omega⟩
        have HS : Hid (szN (F f) = s) := by show _ = _; rw [← HX.out]; unfold szN; omega
        have HV : Hid (headV (F f) = .agg #[.int .i64 (x / 4 % 256), .int .i64 (x / 1024 % 16), .int .i64 (x / 16384 % 2), .int .i64 (s : Int)]) := by show _ = _; rw [← HX.out, hs]; rfl
        rw [← hs] at kt
        have hs1 : s ≤ 4096 := by omega
        have HH : Hid (headB (F f) = true) := by show _ = _; rw [← HX.out]; exact hh
        clear hs hd0 hd1 hd2 hh
        generalize x / 4 % 256 = k1 at *
        generalize x / 1024 % 16 = k2 at *
        generalize x / 16384 % 2 = k3 at *
        go_wp2_with fail
        refine kt.mono ?_
        rintro ev w1 ⟨rfl, hb1⟩
        go_wp2_with fail
        have hb1' : Below wr.heap.size wr (w1.alloc (.cells #[.int .i64 k1, .int .i64 k2, .int .i64 k3, .int .i64 (s : Int)] 99)) := hb1.alloc hb1.size _
        refine (words_any k1 k2 k3 (s : Int) (by omega) (by omega) _).mono ?_
        rintro ev w2 ⟨rfl, hb2⟩
        obtain ⟨r0, r1, r2, r3, _⟩ := head_block ((hb2.block w1.heap.size (by simp)).trans (heap_alloc_new w1 _))
        have hb3 : Below wr.heap.size wr w2 := hb1'.trans (hb2.mono (by have := hb1.size; simp; omega))
        clear hb1 hb1' hb2 kt
        by_cases hend : f + 1 + s ≤ t
        · have hend1 : ¬ (f : Int) + (1 + (s : Int)) > (t : Int) := by omega
          have kk := HK.out (vs0 ++ vs) f w2 (HP.out _ _ _ hI.out hb3) hfl.out hlt HH.out (by rw [HS.out]; exact hend)
          rw [HV.out] at kk
          cases hg : G f with
          | true =>
            rw [hg] at kk
            obtain ⟨n', hn', hw'⟩ := walkP_next (G := G) hn.out hlt (by rw [HH.out, HS.out, decide_eq_true hend, hg]; rfl)
            rw [HS.out] at hn' hw'
            have HN' := toHid hn'
            have HW' : Hid (walkP F G (t - f0) f0 t = (walkP F G n' (f + 1 + s) t).map ((vs ++ [f]) ++ ·)) := by
              show _ = _
              rw [hW.out, hw', Option.map_map]
              congr 1
              funext l
              simp
            clear hg hn' hw'
            go_wp2_with fail
            refine kk.mono ?_
            rintro ev w3 ⟨rfl, hI3⟩
            have HI3 := toHid hI3
            clear hI3
            go_wp2_with fail
            go_roundg (t + f0 + 1 - (f + 1 + s))
            case measure => have := HG.out; omega
            case rel => exact ⟨f + 1 + s, n', vs ++ [f], rfl, by go_num, .inr hend, Nat.le_trans hfl.out (by omega), HN'.out, by rw [← List.append_assoc]; exact HI3, HW'⟩
          | false =>
            rw [hg] at kk
            have HN : Hid (walkP F G (t - f0) f0 t = none) := by show _ = _; rw [hW.out, walkP_fail hn.out hlt (by rw [hg, Bool.and_false, Bool.and_false])]; rfl
            clear hg
            go_wp2_with fail
            refine kk.mono ?_
            rintro ev w3 ⟨rfl, hI3⟩
            go_wp2_with fail
            go_ret
            exact ⟨by rw [HN.out]; rfl, _, hI3, fun l hl => by rw [HN.out] at hl; cases hl⟩
        · have hend1 : (f : Int) + (1 + (s : Int)) > (t : Int) := by omega
          have HN : Hid (walkP F G (t - f0) f0 t = none) := by show _ = _; rw [hW.out, walkP_fail hn.out hlt (by rw [HS.out, decide_eq_false hend, Bool.false_and, Bool.and_false])]; rfl
          go_wp2_with fail
          go_ret
          exact ⟨by rw [HN.out]; rfl, vs0 ++ vs, HP.out _ _ _ hI.out hb3, fun l hl => by rw [HN.out] at hl; cases hl⟩
    · have hI1 : ¬ (f : Int) < (t : Int) := by omega
      have HN : Hid (walkP F G (t - f0) f0 t = some vs) := by show _ = _; rw [hW.out, walkP_done hlt]; simp
      go_wp2_with fail
      go_ret
      exact ⟨by rw [HN.out]; rfl, vs0 ++ vs, hI.out, fun l hl => by rw [HN.out] at hl; cases hl; rfl⟩
end Go.Proofs.YtlkcbdinlfeoiabGreatDoor
