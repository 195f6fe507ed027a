/- Decimal of the document's answer, by a contract: what Itoa tells. -/
import Derived.Test.YtgpfjlejmcdpmaaDoorCodS
namespace Go.Proofs.YtgpfjlejmcdpmaaDoor
open Go.RowKit

theorem dec_step {u : Nat} (h : ¬ u < 10) : Lib.decDigits u = Lib.decDigits (u / 10) ++ [UInt8.ofNat (48 + u % 10)] := by
  rw [Lib.decDigits, dif_neg h]
theorem nums_dig (d : Nat) (h : d < 10) : strOfNums [((48 + d : Nat) : Int)] = ⟨#[UInt8.ofNat (48 + d)]⟩ := by
  iterate 10 (rcases d with _ | d; · rfl)
  omega
theorem byte_dig (d : Nat) (h : d < 10) (w : World) :
    Calls Tryd.prog 35 #[.int .i64 (48 + (d : Int))] w fun ev w' => ev = .returned (.string ⟨#[UInt8.ofNat (48 + d)]⟩) ∧ Below w.heap.size w w' := by
  rw [← nums_dig d h]
  have := byte_any (48 + d) (by omega) w
  rw [show ((48 + d : Nat) : Int) = 48 + (d : Int) by omega] at this
  exact this
theorem tdiv_neg_nat (u : Nat) : Int.tdiv (-(u : Int)) 10 = -((u / 10 : Nat) : Int) := by
  rw [Int.neg_tdiv]
  rfl
theorem tmod_neg_nat (u : Nat) : Int.tmod (-(u : Int)) 10 = -((u % 10 : Nat) : Int) := by
  rw [Int.neg_tmod]
  rfl
theorem decDigits_few (u : Nat) (h : u ≤ 9223372036854775808) : (Lib.decDigits u).length ≤ 20 := by
  rw [Lib.decDigits_length]
  exact nDigits_le 19 u (by omega)
set_option maxHeartbeats 1000000 in
theorem below_any : ∀ (u : Nat), u ≤ 9223372036854775808 → ∀ w : World,
    Calls Tryd.prog 34 #[.int .i64 (-(u : Int))] w fun ev w' => ev = .returned (.string ⟨(Lib.decDigits u).toArray⟩) ∧ Below w.heap.size w w' := by
  intro u
  induction u using Nat.strongRecOn with
  | _ u ih =>
  intro hu w
  by_cases h : u < 10
  · have hI : (-10 : Int) < -(u : Int) := by omega
    have kx := byte_dig u h w
    have e : Lib.decDigits u = [UInt8.ofNat (48 + u)] := Lib.decDigits_one h
    rw [e]
    clear ih
    go_enter Tryd.func34, Tryd.ntmps34
    go_wp2_with fail
    refine kx.mono ?_
    rintro ev w' ⟨rfl, hb⟩
    go_wp2_with fail
    go_ret
    exact ⟨by simp, hb⟩
  · have hI : ¬ (-10 : Int) < -(u : Int) := by omega
    have hd := tdiv_neg_nat u
    have hm := tmod_neg_nat u
    have kx := ih (u / 10) (by omega) (by omega) w
    rw [show ((u / 10 : Nat) : Int) = (u : Int) / 10 by omega] at kx
    have HX := toHid kx
    have HB : Hid (∀ w, Calls Tryd.prog 35 #[.int .i64 (48 + (u : Int) % 10)] w fun ev w' => ev = .returned (.string ⟨#[UInt8.ofNat (48 + u % 10)]⟩) ∧ Below w.heap.size w w') := fun w => by
      have := byte_dig (u % 10) (by omega) w
      rw [show ((u % 10 : Nat) : Int) = (u : Int) % 10 by omega] at this
      exact this
    have hl := decDigits_few (u / 10) (by omega)
    have a1 := fun wx => run_string_add_sum (P := Tryd.prog) (w := wx) ⟨(Lib.decDigits (u / 10)).toArray⟩ ⟨#[UInt8.ofNat (48 + u % 10)]⟩ (by show (Lib.decDigits (u / 10)).toArray.size + 1 ≤ _; rw [List.size_toArray]; omega)
    clear ih kx
    go_enter Tryd.func34, Tryd.ntmps34
    go_wp2_with fail
    refine HX.out.mono ?_
    rintro ev w1 ⟨rfl, hb⟩
    go_wp2_with fail
    refine (HB.out _).mono ?_
    rintro ev w2 ⟨rfl, hb2⟩
    go_wp2_with fail
    go_ret
    refine ⟨?_, hb.trans (hb2.mono hb.size)⟩
    rw [dec_step h]
    refine ret_str ?_
    apply ByteArray.ext
    simp
set_option maxHeartbeats 1000000 in
/-- DECIMAL OF ANY INT. -/
theorem decimal_any (n : Int) (h0 : -9223372036854775808 ≤ n) (h1 : n ≤ 9223372036854775807) (w : World) :
    Calls Tryd.prog 22 #[.int .i64 n] w fun ev w' => ev = .returned (.string (decB n)) ∧ Below w.heap.size w w' := by
  by_cases hn : n < 0
  · obtain ⟨u, rfl⟩ : ∃ u : Nat, n = -(u : Int) := ⟨n.natAbs, by omega⟩
    have HX := toHid (below_any u (by omega) w)
    have e : decB (-(u : Int)) = ⟨#[45]⟩ ++ ⟨(Lib.decDigits u).toArray⟩ := by
      unfold decB
      rw [Lib.itoa_neg u (by omega)]
      apply ByteArray.ext
      simp
    have hl := decDigits_few u (by omega)
    have a1 := fun wx => run_string_add_sum (P := Tryd.prog) (w := wx) ⟨#[45]⟩ ⟨(Lib.decDigits u).toArray⟩ (by show 1 + (Lib.decDigits u).toArray.size ≤ _; rw [List.size_toArray]; omega)
    go_enter Tryd.func22, Tryd.ntmps22
    go_wp2_with fail
    refine HX.out.mono ?_
    rintro ev w1 ⟨rfl, hb⟩
    go_wp2_with fail
    go_ret
    exact ⟨ret_str e.symm, hb⟩
  · obtain ⟨u, rfl⟩ : ∃ u : Nat, n = (u : Int) := ⟨n.toNat, by omega⟩
    have HX := toHid (below_any u (by omega) w)
    have e : decB (u : Int) = ⟨(Lib.decDigits u).toArray⟩ := by
      unfold decB
      rw [Lib.itoa_nonneg u]
    rw [e]
    go_enter Tryd.func22, Tryd.ntmps22
    go_wp2_with fail
    refine HX.out.mono ?_
    rintro ev w1 ⟨rfl, hb⟩
    go_wp2_with fail
    go_ret
    exact ⟨rfl, hb⟩
end Go.Proofs.YtgpfjlejmcdpmaaDoor
