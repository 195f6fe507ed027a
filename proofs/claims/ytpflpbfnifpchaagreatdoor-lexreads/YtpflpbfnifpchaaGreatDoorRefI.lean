/- The document's answer for package lex: LexOf, a line's bounds (plain), and its walk. -/
import Derived.Test.YtpflpbfnifpchaaGreatDoorRefH
namespace Go.Proofs.YtpflpbfnifpchaaGreatDoor
open Go.RowKit

/-- The bytes of a line from at on: up to its end, and what stands behind. -/
structure LineAt (s : ByteArray) (at_ : Nat) (L S : List UInt8) : Prop where
  data : s.data.toList = s.data.toList.take at_ ++ (L ++ S)
  len : (s.data.toList.take at_).length = at_
  noEnd : noEnd L
  lineEnd : lineEnd S
  le : at_ + L.length ≤ s.size

theorem line_at (s : ByteArray) (at_ : Nat) (h : at_ ≤ s.size) : ∃ L S, LineAt s at_ L S := by
  obtain ⟨L, S, e, hL, hS⟩ := split_line (s.data.toList.drop at_)
  have hl : (s.data.toList.take at_).length = at_ := by simp; omega
  have hd : s.data.toList = s.data.toList.take at_ ++ (L ++ S) := by rw [← e, List.take_append_drop]
  refine ⟨L, S, hd, hl, hL, hS, ?_⟩
  have hz := data_size hd
  rw [List.length_append, hl, List.length_append] at hz
  omega

theorem LineAt.get {s : ByteArray} {at_ : Nat} {L S : List UInt8} (h : LineAt s at_ L S) (k : Nat) (hk : k < L.length) : ∃ hl : at_ + k < s.size, s[at_ + k] = L[k] := by
  have hsp : L = L.take k ++ L[k] :: L.drop (k + 1) := by rw [← List.drop_eq_getElem_cons hk, List.take_append_drop]
  have hd : s.data.toList = (s.data.toList.take at_ ++ L.take k) ++ L[k] :: (L.drop (k + 1) ++ S) := by
    have h1 := h.data
    have h2 : L ++ S = L.take k ++ L[k] :: (L.drop (k + 1) ++ S) := by
      have h3 : L.take k ++ L[k] :: (L.drop (k + 1) ++ S) = (L.take k ++ L[k] :: L.drop (k + 1)) ++ S := by simp only [List.append_assoc, List.cons_append]
      rw [h3, ← hsp]
    rw [h2] at h1
    rw [List.append_assoc]
    exact h1
  obtain ⟨hlt, e⟩ := get_at hd
  have hl : (s.data.toList.take at_ ++ L.take k).length = at_ + k := by rw [List.length_append, h.len]; simp; omega
  refine ⟨by rw [← hl]; exact hlt, ?_⟩
  simp only [hl] at e
  exact e
theorem LineAt.mid {s : ByteArray} {at_ : Nat} {L S : List UInt8} (h : LineAt s at_ L S) (e : Nat) (h1 : at_ ≤ e) (h2 : e < at_ + L.length) : ∃ hl : e < s.size, s[e].toNat ≠ 10 := by
  obtain ⟨k, rfl⟩ : ∃ k, e = at_ + k := ⟨e - at_, by omega⟩
  obtain ⟨hl, e⟩ := h.get k (by omega)
  refine ⟨hl, ?_⟩
  rw [e]
  intro h10
  exact h.noEnd L[k] (List.getElem_mem _) (UInt8.toNat_inj.mp h10)
theorem LineAt.stop {s : ByteArray} {at_ : Nat} {L S : List UInt8} (h : LineAt s at_ L S) (hl : at_ + L.length < s.size) : s[at_ + L.length].toNat = 10 := by
  rcases h.lineEnd with rfl | ⟨R, rfl⟩
  · have hz := data_size h.data
    rw [List.length_append, h.len, List.append_nil] at hz
    omega
  · have hd : s.data.toList = (s.data.toList.take at_ ++ L) ++ 10 :: R := by
      have h1 := h.data
      simpa using h1
    obtain ⟨hlt, e⟩ := get_at hd
    have hl2 : (s.data.toList.take at_ ++ L).length = at_ + L.length := by rw [List.length_append, h.len]
    simp only [hl2] at e
    rw [e]
    rfl
theorem blanksL_get : ∀ (L : List UInt8) (k : Nat) (hk : k < L.length), k < blanksL L → L[k] = 32
  | [], k, hk, h => by simp at hk
  | c :: L, k, hk, h => by
    by_cases hc : c = 32
    · subst hc
      rw [blanksL_cons] at h
      cases k with
      | zero => rfl
      | succ k => exact blanksL_get L k (by simpa using hk) (by omega)
    · rw [blanksL_other hc] at h
      omega
theorem blanksL_stop : ∀ (L : List UInt8) (hk : blanksL L < L.length), L[blanksL L] ≠ 32
  | [], hk => by simp at hk
  | c :: L, hk => by
    by_cases hc : c = 32
    · subst hc
      have e := blanksL_cons L
      have ih := blanksL_stop L (by rw [e] at hk; simp at hk; exact hk)
      intro h
      apply ih
      simp only [e] at h
      exact h
    · have e := blanksL_other hc L
      simp only [e]
      exact hc
theorem LineAt.blank {s : ByteArray} {at_ : Nat} {L S : List UInt8} (h : LineAt s at_ L S) (e : Nat) (h1 : at_ ≤ e) (h2 : e < at_ + blanksL L) : ∃ hl : e < s.size, s[e].toNat = 32 := by
  have hb := blanksL_le L
  obtain ⟨k, rfl⟩ : ∃ k, e = at_ + k := ⟨e - at_, by omega⟩
  obtain ⟨hl, e⟩ := h.get k (by omega)
  refine ⟨hl, ?_⟩
  rw [e, blanksL_get L k (by omega) (by omega)]
  rfl
theorem LineAt.first {s : ByteArray} {at_ : Nat} {L S : List UInt8} (h : LineAt s at_ L S) (h2 : blanksL L < L.length) : ∃ hl : at_ + blanksL L < s.size, s[at_ + blanksL L].toNat ≠ 32 ∧ (skipL L = if s[at_ + blanksL L].toNat = 35 then L.length else blanksL L) := by
  obtain ⟨hl, e⟩ := h.get _ h2
  refine ⟨hl, ?_, ?_⟩
  · rw [e]
    intro h32
    exact blanksL_stop L h2 (UInt8.toNat_inj.mp h32)
  · rw [e]
    unfold skipL
    rw [List.drop_eq_getElem_cons h2]
    simp only
    by_cases h35 : (L[blanksL L]).toNat = 35
    · rw [if_pos h35, if_pos (by simp [h35])]
    · rw [if_neg h35, if_neg (by simp; omega)]

/-- What is left to settle: dedents, and whether the indentation is open. -/
def settleRest (b : Int) (i : Nat) (st : List Int) (n : Nat) (tk : List Value) : Option (List Int × Nat × List Value) :=
  if (popTo b st).2.head? = some b then some ((popTo b st).2, n + (popTo b st).1, tk ++ dedents i (popTo b st).1) else none
theorem settle_push {x b : Int} {xs : List Int} (h : x < b) (i n : Nat) (tk : List Value) : settleRest b i (b :: x :: xs) (n + 1) (tk ++ tokCells kIndent ⟨#[]⟩ i) = settleP (x :: xs) b i n tk := by
  unfold settleRest settleP
  have hp : popTo b (b :: x :: xs) = (0, b :: x :: xs) := by simp [popTo]
  rw [hp]
  simp only [List.head?_cons, if_true, if_pos h, dedents, List.append_nil, Nat.add_zero]
theorem settle_stay {x b : Int} {xs : List Int} (h : ¬ x < b) (i n : Nat) (tk : List Value) : settleRest b i (x :: xs) n tk = settleP (x :: xs) b i n tk := by
  unfold settleRest settleP
  simp only
  rw [if_neg h]
theorem dedents_front (i : Nat) : ∀ k, tokCells kDedent ⟨#[]⟩ i ++ dedents i k = dedents i (k + 1)
  | 0 => by simp [dedents, kDedent]
  | k + 1 => by
    have ih := dedents_front i k
    show tokCells kDedent ⟨#[]⟩ i ++ (dedents i k ++ tokCells ⟨#[100, 101, 100, 101, 110, 116]⟩ ⟨#[]⟩ i) = dedents i (k + 1) ++ tokCells ⟨#[100, 101, 100, 101, 110, 116]⟩ ⟨#[]⟩ i
    rw [← List.append_assoc, ih]
theorem settle_pop {y b : Int} {ys : List Int} (h : b < y) (i n : Nat) (tk : List Value) : settleRest b i (y :: ys) n tk = settleRest b i ys (n + 1) (tk ++ tokCells kDedent ⟨#[]⟩ i) := by
  unfold settleRest
  have hp : popTo b (y :: ys) = ((popTo b ys).1 + 1, (popTo b ys).2) := by simp [popTo, h]
  rw [hp]
  simp only
  rw [List.append_assoc, dedents_front]
  split
  · simp only [Option.some.injEq, Prod.mk.injEq, true_and]
    first | exact ⟨by omega, trivial⟩ | exact ⟨by omega, rfl⟩ | omega
  · rfl
theorem settle_done {b : Int} {ys : List Int} (i n : Nat) (tk : List Value) : settleRest b i (b :: ys) n tk = some (b :: ys, n, tk) := by
  unfold settleRest
  have hp : popTo b (b :: ys) = (0, b :: ys) := by simp [popTo]
  rw [hp]
  simp [dedents]
theorem settle_not {y b : Int} {ys : List Int} (h : ¬ b < y) (hne : b ≠ y) (i n : Nat) (tk : List Value) : settleRest b i (y :: ys) n tk = none := by
  unfold settleRest
  have hp : popTo b (y :: ys) = (0, y :: ys) := by simp [popTo, h]
  rw [hp]
  refine if_neg ?_
  intro e
  simp at e
  exact hne e.symm

/-- A byte of a line's rest. -/
theorem line_byte {s : ByteArray} {at_ o : Nat} {L S : List UInt8} (h : LineAt s at_ L S) (h1 : at_ ≤ o) (h2 : o < at_ + L.length) (hol : o < s.size) : ∃ c R, L.drop (o - at_) = c :: R ∧ s[o] = c := by
  obtain ⟨k, rfl⟩ : ∃ k, o = at_ + k := ⟨o - at_, by omega⟩
  obtain ⟨_, e⟩ := h.get k (by omega)
  rw [Nat.add_sub_cancel_left]
  exact ⟨L[k], L.drop (k + 1), List.drop_eq_getElem_cons (by omega), e⟩

/-- Blanks ahead change nothing. -/
theorem restAt_skip : ∀ (L : List UInt8) (o : Nat), restAt L o = restAt (L.drop (blanksL L)) (o + blanksL L)
  | [], o => rfl
  | c :: L, o => by
    by_cases hc : c = 32
    · subst hc
      rw [blanksL_cons, restAt_blank, restAt_skip L (o + 1), List.drop_succ_cons]
      congr 1
      omega
    · rw [blanksL_other hc]
      rfl

/-- The tokens so far, and those of the rest: all of a line's. -/
def restFrom (done : List (ByteArray × ByteArray × Nat)) (L : List UInt8) (o : Nat) : Except Nat (List (ByteArray × ByteArray × Nat)) :=
  match restAt L o with
  | .ok l => .ok (done ++ l)
  | .error e => .error e
theorem restFrom_nil (done : List (ByteArray × ByteArray × Nat)) (o : Nat) : restFrom done [] o = .ok done := by
  unfold restFrom
  rw [restAt_nil]
  simp
theorem restFrom_hash (done : List (ByteArray × ByteArray × Nat)) (L : List UInt8) (o : Nat) : restFrom done (35 :: L) o = .ok done := by
  unfold restFrom
  rw [restAt_hash]
  simp
theorem restFrom_blank (done : List (ByteArray × ByteArray × Nat)) (L : List UInt8) (o : Nat) : restFrom done (32 :: L) o = restFrom done L (o + 1) := by
  unfold restFrom
  rw [restAt_blank]
theorem restFrom_none {done : List (ByteArray × ByteArray × Nat)} {c : UInt8} {L : List UInt8} {o : Nat} (h : c ≠ 32) (h2 : c ≠ 35) (ht : tokL (c :: L) = none) : restFrom done (c :: L) o = .error o := by
  unfold restFrom
  rw [restAt_tok h h2, ht]
theorem restFrom_tok {done : List (ByteArray × ByteArray × Nat)} {c : UInt8} {L : List UInt8} {o m : Nat} {k t : ByteArray} (h : c ≠ 32) (h2 : c ≠ 35) (ht : tokL (c :: L) = some (k, t, m)) : restFrom done (c :: L) o = restFrom (done ++ [(k, t, o)]) ((c :: L).drop m) (o + m) := by
  unfold restFrom
  rw [restAt_tok h h2, ht]
  simp only
  cases restAt ((c :: L).drop m) (o + m) with
  | error e => rfl
  | ok l => simp
end Go.Proofs.YtpflpbfnifpchaaGreatDoor
