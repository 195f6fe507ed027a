/- The document's answer for package lex, plain: digits, hex digits, a line's tokens byte by byte. -/
import Derived.Test.YtpflpbfnifpchaaGreatDoorFineP
namespace Go.Proofs.YtpflpbfnifpchaaGreatDoor
open Go.RowKit

/-- Digits, as the document's answer has them: none where the number is too great. -/
def intOfL : Nat → List UInt8 → Option Nat
  | acc, [] => some acc
  | acc, c :: r => if 9223372036854775807 < acc * 10 + (c.toNat - 48) then none else intOfL (acc * 10 + (c.toNat - 48)) r

theorem parseUintM_le (M : Nat) : ∀ (l : List UInt8) (acc v : Nat), Lib.parseUintM M acc l = .ok v → acc ≤ v
  | [], acc, v, h => by simp [Lib.parseUintM] at h; omega
  | c :: r, acc, v, h => by
    unfold Lib.parseUintM at h
    split at h
    · split at h
      · cases h
      · split at h
        · cases h
        · have := parseUintM_le M r _ v h
          omega
    · cases h
theorem intOfL_same : ∀ (l : List UInt8) (acc : Nat), acc ≤ 9223372036854775807 → (∀ c ∈ l, 48 ≤ c.toNat ∧ c.toNat ≤ 57) → (∃ v, intOfL acc l = some v) = (∃ v, Lib.parseUintM (2 ^ 64 - 1) acc l = .ok v ∧ v ≤ 9223372036854775807)
  | [], acc, h, _ => by simp [intOfL, Lib.parseUintM, h]
  | c :: r, acc, h, hd => by
    have hc := hd c (by simp)
    unfold intOfL Lib.parseUintM
    rw [if_pos hc]
    by_cases hb : 9223372036854775807 < acc * 10 + (c.toNat - 48)
    · rw [if_pos hb]
      simp only [reduceCtorEq, exists_const, eq_iff_iff, false_iff]
      rintro ⟨v, hv, hle⟩
      split at hv
      · cases hv
      · split at hv
        · cases hv
        · have := parseUintM_le _ r _ v hv
          omega
    · rw [if_neg hb, if_neg (by omega), if_neg (by omega)]
      exact intOfL_same r _ (by omega) (fun x hx => hd x (by simp [hx]))
theorem int_same (l : List UInt8) (hl : l ≠ []) (hd : ∀ c ∈ l, 48 ≤ c.toNat ∧ c.toNat ≤ 57) : (∃ v, intOfL 0 l = some v) ↔ ∃ v, Lib.parseIntB 64 l = .ok v := by
  rw [intOfL_same l 0 (by omega) hd]
  cases l with
  | nil => exact absurd rfl hl
  | cons c r =>
    have hc := hd c (by simp)
    have e1 : ¬ c.toNat = 43 := by omega
    have e2 : ¬ c.toNat = 45 := by omega
    simp only [Lib.parseIntB, e1, e2, or_self, not_false_eq_true, true_and, false_and, if_false, Lib.parseUintB]
    rw [if_neg hl]
    cases hu : Lib.parseUintM (2 ^ 64 - 1) 0 (c :: r) with
    | ok u =>
      simp only
      constructor
      · rintro ⟨v, hv, hle⟩
        simp only [Lib.NumEnd.ok.injEq] at hv
        subst hv
        rw [if_neg (by omega)]
        exact ⟨_, rfl⟩
      · rintro ⟨v, hv⟩
        split at hv
        · cases hv
        · exact ⟨u, rfl, by omega⟩
    | _ => simp
theorem intOfL_bd : ∀ (l : List UInt8) (acc v : Nat), acc ≤ 9223372036854775807 → intOfL acc l = some v → v ≤ 9223372036854775807
  | [], acc, v, h, he => by simp [intOfL] at he; omega
  | c :: r, acc, v, h, he => by
    unfold intOfL at he
    split at he
    · cases he
    · exact intOfL_bd r _ v (by omega) he

/-- A digit of 16, as the document's answer has it. -/
def hexR (c : UInt8) : Int := if digitB (c.toNat : Int) then (c.toNat : Int) - 48 else if 97 ≤ c.toNat ∧ c.toNat ≤ 102 then (c.toNat : Int) - 97 + 10 else -1
theorem hex_all : (List.range 256).all (fun n => hexR (UInt8.ofNat n) == hexVal (UInt8.ofNat n)) = true := by kernel_rfl
theorem hex_same (c : UInt8) : hexR c = hexVal c := by
  have h := List.all_eq_true.mp hex_all c.toNat (by simp; exact c.toNat_lt)
  simpa using h

theorem blanksL_cons (L : List UInt8) : blanksL (32 :: L) = blanksL L + 1 := by
  unfold blanksL
  have : (List.takeWhile (fun c : UInt8 => blankB (c.toNat : Int)) (32 :: L)) = 32 :: List.takeWhile (fun c : UInt8 => blankB (c.toNat : Int)) L := rfl
  rw [this]
  rfl
theorem blanksL_other {c : UInt8} (h : c ≠ 32) (L : List UInt8) : blanksL (c :: L) = 0 := by
  unfold blanksL
  have : blankB (c.toNat : Int) = false := by
    have : c.toNat ≠ 32 := fun e => h (UInt8.toNat_inj.mp e)
    simp [blankB]
    omega
  simp [List.takeWhile, this]
theorem skipL_cons (L : List UInt8) : skipL (32 :: L) = skipL L + 1 := by
  unfold skipL
  rw [blanksL_cons]
  simp only [List.drop_succ_cons, List.length_cons]
  cases L.drop (blanksL L) with
  | nil => rfl
  | cons c r => simp only; split <;> rfl
theorem skipL_hash (L : List UInt8) : skipL (35 :: L) = (35 :: L).length := by
  unfold skipL
  rw [blanksL_other (by decide)]
  rfl
theorem skipL_other {c : UInt8} (h : c ≠ 32) (h2 : c ≠ 35) (L : List UInt8) : skipL (c :: L) = 0 := by
  unfold skipL
  rw [blanksL_other h]
  simp only [List.drop_zero]
  rw [if_neg]
  have : c.toNat ≠ 35 := fun e => h2 (UInt8.toNat_inj.mp e)
  simp
  omega

/-- Enough rounds give the same. -/
theorem restL_fuel : ∀ (f g : Nat) (L : List UInt8) (o : Nat), L.length < f → L.length < g → restL f L o = restL g L o
  | 0, _, _, _, h, _ => absurd h (Nat.not_lt_zero _)
  | _, 0, _, _, _, h => absurd h (Nat.not_lt_zero _)
  | f + 1, g + 1, L, o, hf, hg => by
    have hle := skipL_le L
    unfold restL
    split
    · rfl
    · cases hk : tokL (L.drop (skipL L)) with
      | none => rfl
      | some y =>
        obtain ⟨k, t, m⟩ := y
        have hm := tokL_bd hk
        simp at hm
        simp only
        rw [restL_fuel f g (L.drop (skipL L + m)) _ (by simp; omega) (by simp; omega)]
/-- A line's rest, from o on. -/
def restAt (L : List UInt8) (o : Nat) : Except Nat (List (ByteArray × ByteArray × Nat)) := restL (L.length + 1) L o

theorem restAt_nil (o : Nat) : restAt [] o = .ok [] := rfl
theorem restAt_hash (L : List UInt8) (o : Nat) : restAt (35 :: L) o = .ok [] := by
  unfold restAt restL
  rw [if_pos (skipL_hash L)]
theorem restAt_blank (L : List UInt8) (o : Nat) : restAt (32 :: L) o = restAt L (o + 1) := by
  unfold restAt
  rw [restL_fuel (L.length + 1) ((32 :: L).length + 1) L (o + 1) (by omega) (by simp; omega)]
  have hs := skipL_cons L
  unfold restL
  rw [hs]
  simp only [List.length_cons, Nat.add_right_cancel_iff]
  split
  · rfl
  · rw [show List.drop (skipL L + 1) (32 :: L) = L.drop (skipL L) from rfl]
    cases hk : tokL (L.drop (skipL L)) with
    | none => simp only; congr 1; omega
    | some y =>
      obtain ⟨k, t, m⟩ := y
      simp only
      rw [show List.drop (skipL L + 1 + m) (32 :: L) = L.drop (skipL L + m) by rw [show skipL L + 1 + m = (skipL L + m) + 1 by omega]; rfl]
      rw [show o + (skipL L + 1 + m) = o + 1 + (skipL L + m) by omega, show o + (skipL L + 1) = o + 1 + skipL L by omega]
theorem restAt_tok {c : UInt8} (h : c ≠ 32) (h2 : c ≠ 35) (L : List UInt8) (o : Nat) : restAt (c :: L) o = match tokL (c :: L) with
    | none => .error o
    | some (k, t, m) => match restAt ((c :: L).drop m) (o + m) with
      | .ok l => .ok ((k, t, o) :: l)
      | .error e => .error e := by
  have hs := skipL_other h h2 L
  unfold restAt restL
  rw [hs, if_neg (by simp)]
  simp only [List.drop_zero, Nat.zero_add, Nat.add_zero]
  cases hk : tokL (c :: L) with
  | none => rfl
  | some y =>
    obtain ⟨k, t, m⟩ := y
    have hm := tokL_bd hk
    simp at hm
    simp only
    rw [restL_fuel (c :: L).length (((c :: L).drop m).length + 1) ((c :: L).drop m) (o + m) (by simp; omega) (by omega)]
    rfl
end Go.Proofs.YtpflpbfnifpchaaGreatDoor
