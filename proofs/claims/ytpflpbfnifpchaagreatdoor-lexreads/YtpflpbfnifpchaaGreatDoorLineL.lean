/- Package lex: what Lex comes to, with a blank, a comment or an empty line put in. -/
import Derived.Test.YtpflpbfnifpchaaGreatDoorLexZ
namespace Go.Proofs.YtpflpbfnifpchaaGreatDoor
open Go.RowKit

/-- A line, by its bytes alone. -/
theorem lineStep_list (s : ByteArray) (S L pre : List UInt8) (hS : lineEnd S) (hL : noEnd L) (h : s.data.toList = pre ++ (L ++ S)) (st : List Int) (n : Nat) (tk : List Value) :
    lineStep s ⟨pre.length, st, n, tk⟩ =
      if skipL L = L.length then .ok ⟨afterLine s (pre.length + L.length), st, n, tk⟩
      else match settleP st (blanksL L : Nat) (pre.length + skipL L) n tk with
        | none => .error (pre.length + skipL L)
        | some (st', n', tk') => match restL (L.length + 1) L pre.length with
          | .error e => .error e
          | .ok l => .ok ⟨afterLine s (pre.length + L.length), st', n' + l.length + 1, tk' ++ cellsOf l ++ tokCells kNewline ⟨#[]⟩ (pre.length + L.length)⟩ := by
  have hz := data_size h
  simp at hz
  have hsk := skipTo_list s S L pre hS hL h
  have hen := endsB_list s S L pre hS hL h (skipL L) (skipL_le L)
  have hle := skipL_le L
  have hbl := blanksTo_list s S L pre hS h
  by_cases hc : skipL L = L.length
  · rw [if_pos hc]
    rw [decide_eq_true hc] at hen
    rw [lineStep_blank (by simp only; rw [hsk]; exact hen)]
    simp only [hsk, hc]
  · rw [if_neg hc]
    rw [decide_eq_false hc] at hen
    have hd : ((pre.length + blanksL L : Nat) : Int) - (pre.length : Int) = (blanksL L : Nat) := by omega
    have hr := fun tk' n' => restToks_list s S hS (L.length + 1) L pre tk' n' (by omega) hL h
    have hsp : L.take (skipL L) ++ L.drop (skipL L) = L := List.take_append_drop _ L
    have hl : (pre ++ L.take (skipL L)).length = pre.length + skipL L := by simp; omega
    have h' : s.data.toList = (pre ++ L.take (skipL L)) ++ (L.drop (skipL L) ++ S) := by
      rw [h]
      simp only [List.append_assoc, ← List.append_assoc (L.take (skipL L)), hsp]
    have hdd : dead s ((pre ++ L.take (skipL L)).length + (L.drop (skipL L)).length) := by
      have := dead_end (s := s) (S := S) (pre := pre ++ L) hS (by simpa using h)
      have e : (pre ++ L.take (skipL L)).length + (L.drop (skipL L)).length = (pre ++ L).length := by simp; omega
      rw [e]; exact this
    have ht := tokAt_list s S (L.drop (skipL L)) (pre ++ L.take (skipL L)) hS.halts h' hdd (by intro e; have := congrArg List.length e; simp at this; omega)
    rw [hl, ← hsk] at ht
    cases hst : settleP st (blanksL L : Nat) (pre.length + skipL L) n tk with
    | none =>
      rw [lineStep_settle (by simp only; rw [hsk]; exact hen) (by simp only; rw [hbl, hd, hsk]; exact hst)]
      simp only [hsk]
    | some x =>
      obtain ⟨st', n', tk'⟩ := x
      have hg := hr tk' n'
      cases hk : tokL (L.drop (skipL L)) with
      | none =>
        rw [hk] at ht
        rw [lineStep_tok (by simp only; rw [hsk]; exact hen) (by simp only; rw [hbl, hd, hsk]; exact hst) ht]
        rw [restToks_none (by omega) (by rw [hsk]; exact hen) ht] at hg
        simp only
        cases hrl : restL (L.length + 1) L pre.length with
        | error e =>
          rw [hrl] at hg
          simp only [Except.error.injEq] at hg
          simp only [hg]
        | ok l => rw [hrl] at hg; cases hg
      | some y =>
        obtain ⟨k, t, m⟩ := y
        rw [hk] at ht
        simp only [Option.map_some] at ht
        rw [restToks_go (by omega) (by rw [hsk]; exact hen) ht] at hg
        simp only
        cases hrl : restL (L.length + 1) L pre.length with
        | error e =>
          rw [hrl] at hg
          rw [lineStep_rest (by simp only; rw [hsk]; exact hen) (by simp only; rw [hbl, hd, hsk]; exact hst) ht hg]
        | ok l =>
          rw [hrl] at hg
          rw [lineStep_ok (by simp only; rw [hsk]; exact hen) (by simp only; rw [hbl, hd, hsk]; exact hst) ht hg]

/-- The same kinds and texts. -/
def Alike (a b : List Value) : Prop := ∃ l m : List (ByteArray × ByteArray × Nat), a = cellsOf l ∧ b = cellsOf m ∧ l.map (fun x => (x.1, x.2.1)) = m.map (fun x => (x.1, x.2.1))
theorem Alike.nil : Alike [] [] := ⟨[], [], rfl, rfl, rfl⟩
theorem Alike.tok {a b : List Value} (h : Alike a b) (k t : ByteArray) (i j : Nat) : Alike (a ++ tokCells k t i) (b ++ tokCells k t j) := by
  obtain ⟨l, m, rfl, rfl, e⟩ := h
  exact ⟨l ++ [(k, t, i)], m ++ [(k, t, j)], by simp [cellsOf], by simp [cellsOf], by simp [e]⟩

theorem Alike.refl_dedents {a b : List Value} (h : Alike a b) (i j : Nat) : ∀ k, Alike (a ++ dedents i k) (b ++ dedents j k)
  | 0 => by simpa [dedents] using h
  | k + 1 => by
    have ih := Alike.refl_dedents h i j k
    simp only [dedents, ← List.append_assoc]
    exact ih.tok _ _ _ _
theorem Alike.cells : ∀ (l l' : List (ByteArray × ByteArray × Nat)), l.map (fun x => (x.1, x.2.1)) = l'.map (fun x => (x.1, x.2.1)) → ∀ {a b : List Value}, Alike a b → Alike (a ++ cellsOf l) (b ++ cellsOf l')
  | [], [], _, a, b, h => by simpa [cellsOf] using h
  | [], y :: l', he, _, _, _ => by simp at he
  | x :: l, [], he, _, _, _ => by simp at he
  | (k, t, i) :: l, (k', t', j) :: l', he, a, b, h => by
    simp only [List.map_cons, List.cons.injEq, Prod.mk.injEq] at he
    obtain ⟨⟨rfl, rfl⟩, he⟩ := he
    have := Alike.cells l l' he (h.tok k t i j)
    simpa [cellsOf] using this

theorem settle_alike (st : List Int) (ind : Int) (i j n : Nat) {a b : List Value} (h : Alike a b) :
    (settleP st ind i n a = none ∧ settleP st ind j n b = none) ∨ ∃ st' n' a' b', settleP st ind i n a = some (st', n', a') ∧ settleP st ind j n b = some (st', n', b') ∧ Alike a' b' := by
  unfold settleP
  cases st with
  | nil => exact .inl ⟨rfl, rfl⟩
  | cons x xs =>
    simp only
    split
    · exact .inr ⟨_, _, _, _, rfl, rfl, h.tok _ _ _ _⟩
    · split
      · exact .inr ⟨_, _, _, _, rfl, rfl, h.refl_dedents _ _ _⟩
      · exact .inl ⟨rfl, rfl⟩

/-- Wherever a line stands, and whatever blanks and comment stand at its end: the same kinds and texts. -/
def sameL (x y : Except Nat (List (ByteArray × ByteArray × Nat))) : Prop :=
  match x, y with
  | .ok l, .ok l' => l.map (fun x => (x.1, x.2.1)) = l'.map (fun x => (x.1, x.2.1))
  | .error _, .error _ => True
  | _, _ => False

/-- What may be put in at a line's end. -/
structure Gap (X : List UInt8) : Prop where
  skip : skipL X = X.length
  halts : halts X
  calm : harmless X
  noEnd : noEnd X

theorem gap_nil : Gap [] := ⟨rfl, fun c hc => by simp at hc, fun c hc => by simp at hc, fun c hc => by simp at hc⟩
theorem gap_blanks : Gap [32, 32] := ⟨by decide, by unfold halts; decide, by unfold harmless; decide, by unfold Go.Proofs.YtpflpbfnifpchaaGreatDoor.noEnd; decide⟩

theorem tokL_gap {X L : List UInt8} (hX : Gap X) (hL : L ≠ []) : tokL (L ++ X) = tokL L := by
  have h1 := tokAt_list ⟨(L ++ X).toArray⟩ X L [] hX.halts (by simp) (by
    have := dead_run ⟨(L ++ X).toArray⟩ [] (.inl rfl) X L hX.calm (by simp)
    simpa using this) hL
  have h2 := tokAt_list ⟨(L ++ X).toArray⟩ [] (L ++ X) [] (fun c hc => by simp at hc) (by simp) (by
    have := dead_end (s := ⟨(L ++ X).toArray⟩) (S := []) (pre := L ++ X) (.inl rfl) (by simp)
    simpa using this) (by simp [hL])
  rw [h1] at h2
  simp only [List.length_nil, Nat.zero_add] at h2
  have hid : ∀ o : Option (ByteArray × ByteArray × Nat), (o.map fun x => (x.1, x.2.1, x.2.2)) = o := fun o => by cases o <;> rfl
  rw [hid, hid] at h2
  exact h2.symm

theorem blanksL_all {L X : List UInt8} (h : blanksL L = L.length) : blanksL (L ++ X) = L.length + blanksL X := by
  induction L with
  | nil => simp
  | cons c L ih =>
    unfold blanksL at h ih ⊢
    simp only [List.cons_append]
    cases hc : blankB (c.toNat : Int)
    · simp [List.takeWhile, hc] at h
    · simp [List.takeWhile, hc] at h ⊢
      rw [ih h]
      omega
theorem blanksL_part {L X : List UInt8} (h : blanksL L ≠ L.length) : blanksL (L ++ X) = blanksL L := by
  induction L with
  | nil => simp [blanksL] at h
  | cons c L ih =>
    unfold blanksL at h ih ⊢
    simp only [List.cons_append]
    cases hc : blankB (c.toNat : Int)
    · simp [List.takeWhile, hc]
    · simp [List.takeWhile, hc] at h ⊢
      exact ih h

/-- All is passed over. -/
theorem skipL_all {L X : List UInt8} (hX : Gap X) (h : skipL L = L.length) : skipL (L ++ X) = (L ++ X).length := by
  by_cases hb : blanksL L = L.length
  · have hx := hX.skip
    unfold skipL at hx ⊢
    rw [blanksL_all hb]
    have e : (L ++ X).drop (L.length + blanksL X) = X.drop (blanksL X) := by rw [List.drop_append]; simp
    rw [e]
    have hl : (L ++ X).length = L.length + X.length := by simp
    cases hd : X.drop (blanksL X) with
    | nil => rw [hd] at hx; simp only at hx ⊢; omega
    | cons c r =>
      rw [hd] at hx
      simp only at hx ⊢
      split
      · rfl
      · rename_i h35
        rw [if_neg h35] at hx
        omega
  · unfold skipL at h ⊢
    rw [blanksL_part hb]
    have hle := blanksL_le L
    rw [List.drop_append_of_le_length hle]
    cases hd : L.drop (blanksL L) with
    | nil => rw [hd] at h; simp only at h; exact absurd h hb
    | cons c r =>
      rw [hd] at h
      simp only [List.cons_append] at h ⊢
      split
      · rfl
      · rename_i h35
        rw [if_neg h35] at h
        exact absurd h hb
theorem skipL_part {L X : List UInt8} (h : skipL L ≠ L.length) : skipL (L ++ X) = skipL L ∧ blanksL (L ++ X) = blanksL L := by
  have hle := blanksL_le L
  have hb : blanksL L ≠ L.length := by
    intro hb
    apply h
    unfold skipL
    rw [hb]
    simp
  refine ⟨?_, blanksL_part hb⟩
  unfold skipL at h ⊢
  rw [blanksL_part hb, List.drop_append_of_le_length hle]
  cases hd : L.drop (blanksL L) with
  | nil => have := congrArg List.length hd; simp at this; omega
  | cons c r =>
    rw [hd] at h
    simp only [List.cons_append] at h ⊢
    split
    · rename_i h35
      rw [if_pos h35] at h
      exact absurd rfl h
    · rfl

theorem restL_same {X : List UInt8} (hX : Gap X) : ∀ (f g : Nat) (L : List UInt8) (o o' : Nat), L.length < f → (L ++ X).length < g → sameL (restL f L o) (restL g (L ++ X) o')
  | 0, _, _, _, _, h, _ => absurd h (Nat.not_lt_zero _)
  | _, 0, _, _, _, _, h => absurd h (Nat.not_lt_zero _)
  | f + 1, g + 1, L, o, o', hf, hg => by
    unfold restL
    have hle := skipL_le L
    by_cases hc : skipL L = L.length
    · rw [if_pos hc, if_pos (skipL_all hX hc)]
      rfl
    · have hp := skipL_part (X := X) hc
      rw [if_neg hc, if_neg (by rw [hp.1]; simp; omega), hp.1, List.drop_append_of_le_length hle, tokL_gap hX (by intro e; have := congrArg List.length e; simp at this; omega)]
      cases hk : tokL (L.drop (skipL L)) with
      | none => trivial
      | some y =>
        obtain ⟨k, t, m⟩ := y
        have hm := tokL_bd hk
        simp at hm
        have ih := restL_same hX f g (L.drop (skipL L + m)) (o + (skipL L + m)) (o' + (skipL L + m)) (by simp; omega) (by simp at hg ⊢; omega)
        simp only
        rw [List.drop_append_of_le_length (by omega)]
        cases h1 : restL f (L.drop (skipL L + m)) (o + (skipL L + m)) with
        | error e =>
          cases h2 : restL g (L.drop (skipL L + m) ++ X) (o' + (skipL L + m)) with
          | error e' => trivial
          | ok l' => rw [h1, h2] at ih; exact ih
        | ok l =>
          cases h2 : restL g (L.drop (skipL L + m) ++ X) (o' + (skipL L + m)) with
          | error e' => rw [h1, h2] at ih; exact ih
          | ok l' =>
            rw [h1, h2] at ih
            simp only [sameL, List.map_cons] at ih ⊢
            rw [ih]
end Go.Proofs.YtpflpbfnifpchaaGreatDoor
