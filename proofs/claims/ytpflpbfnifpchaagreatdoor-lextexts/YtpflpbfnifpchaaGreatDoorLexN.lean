/- Package lex: a line, what it comes to. -/
import Derived.Test.YtpflpbfnifpchaaGreatDoorLexM
namespace Go.Proofs.YtpflpbfnifpchaaGreatDoor
open Go.RowKit

def kNewline : ByteArray := ⟨#[110, 101, 119, 108, 105, 110, 101]⟩
def kIndent : ByteArray := ⟨#[105, 110, 100, 101, 110, 116]⟩

/-- Where the blanks and a comment from i on end. -/
def skipTo (s : ByteArray) (i : Nat) : Nat := commentTo s (blanksTo s i)

/-- The rest of a line's tokens, behind the one that ends at i: place, cells, how many; or where there is none. -/
def restToks (s : ByteArray) : Nat → Nat → List Value → Nat → Except Nat (Nat × List Value × Nat)
  | 0, i, _, _ => .error i
  | f + 1, i, tk, n =>
    if endsB s (skipTo s i) then .ok (skipTo s i, tk, n)
    else match tokAt s (skipTo s i) with
      | some (k, t, j) => restToks s f j (tk ++ tokCells k t (skipTo s i)) (n + 1)
      | none => .error (skipTo s i)

theorem skipTo_le (s : ByteArray) (i : Nat) (h : i ≤ s.size) : i ≤ skipTo s i ∧ skipTo s i ≤ s.size := by
  have h1 := blanksTo_le s i h
  have h2 := commentTo_le s (blanksTo s i) h1.2
  exact ⟨Nat.le_trans h1.1 h2.1, h2.2⟩

theorem endsB_end {s : ByteArray} {i : Nat} (h : ¬ i < s.size) : endsB s i = true := by simp [endsB, h]

/-- A comment ends where a line does. -/
theorem comment_ends {s : ByteArray} {i : Nat} (h : endsB s (commentTo s i) = false) : commentTo s i = i := by
  unfold commentTo at h ⊢
  split
  · rename_i hlt
    split
    · rename_i h35
      rw [dif_pos hlt, if_pos h35] at h
      exfalso
      have key : ∀ n k, s.size - k ≤ n → k ≤ s.size → endsB s (passTo lineB s n k) = true := by
        intro n
        induction n with
        | zero =>
          intro k hk hks
          have : k = s.size := by omega
          subst this
          simp [passTo, endsB]
        | succ n ih =>
          intro k hk hks
          unfold passTo
          split
          · rename_i hkl
            split
            · exact ih (k + 1) (by omega) (by omega)
            · rename_i hP
              simp [endsB, hkl]
              simp [lineB] at hP
              exact hP
          · rename_i hkl
            exact endsB_end hkl
      rw [key _ i (Nat.le_refl _) (by omega)] at h
      cases h
    · rfl
  · rfl

theorem strFrom_bd (s : ByteArray) : ∀ n i acc l j, strFrom s n i acc = some (l, j) → j ≤ s.size
  | 0, _, _, _, _, h => by simp [strFrom] at h
  | n + 1, i, acc, l, j, h => by
    unfold strFrom at h
    split at h
    · split at h
      · simp at h; omega
      · split at h
        · cases h
        · split at h
          · cases h
          · split at h
            · cases he : escAt s (i + 1) with
              | none => rw [he] at h; cases h
              | some x =>
                obtain ⟨v, k⟩ := x
                rw [he] at h
                exact strFrom_bd s n k _ l j h
            · exact strFrom_bd s n (i + 1) _ l j h
    · cases h
theorem opFrom_bd (s : ByteArray) (i : Nat) (hi : i ≤ s.size) : ∀ n k t j, opFrom s i n k = some (t, j) → j ≤ s.size
  | 0, _, _, _, h => by simp [opFrom] at h
  | n + 1, k, t, j, h => by
    unfold opFrom at h
    split at h
    · rename_i hp
      have h1 := prefixB_size hp
      have h2 : (s.extract i s.size).size = s.size - i := by simp
      simp at h
      omega
    · exact opFrom_bd s i hi n (k + 1) t j h
theorem tokAt_bd {s : ByteArray} {i j : Nat} {k t : ByteArray} (h : tokAt s i = some (k, t, j)) : j ≤ s.size := by
  unfold tokAt at h
  split at h
  · rename_i hlt
    split at h
    · cases hn : nameAt s i with
      | none => rw [hn] at h; cases h
      | some x =>
        rw [hn] at h
        simp at h
        have hx : x.2.2 = nameTo s i := by
          unfold nameAt at hn
          rw [dif_pos hlt] at hn
          split at hn
          · simp at hn; rw [← hn]
          · split at hn
            · cases hn
            · split at hn
              · cases hn
              · simp at hn; rw [← hn]
        have := (passTo_le nameB s (s.size - (i + 1)) (i + 1)).2 (by omega)
        unfold nameTo at hx
        omega
    · split at h
      · cases hn : intAt s i with
        | none => rw [hn] at h; cases h
        | some x =>
          rw [hn] at h
          simp at h
          have hx : x.2 = digitsTo s i := by
            unfold intAt at hn
            rw [dif_pos hlt] at hn
            split at hn
            · cases hn
            · split at hn
              · simp at hn; rw [← hn]
              · cases hn
          have : digitsTo s i ≤ s.size := (passTo_le digitB s _ i).2 (by omega)
          omega
      · split at h
        · cases hn : strAt s i with
          | none => rw [hn] at h; cases h
          | some x =>
            obtain ⟨l, j'⟩ := x
            rw [hn] at h
            simp at h
            have := strFrom_bd s _ _ _ _ _ hn
            omega
        · cases hn : opTok s i with
          | none => rw [hn] at h; cases h
          | some x =>
            obtain ⟨t', j'⟩ := x
            rw [hn] at h
            simp at h
            have := opFrom_bd s i (by omega) 21 0 _ _ hn
            omega
  · cases h

theorem tokAt_le {s : ByteArray} {i : Nat} (h : endsB s i = false) : i < s.size := by
  by_cases hlt : i < s.size
  · exact hlt
  · rw [endsB_end hlt] at h; cases h

/-- The place behind a line's end. -/
def afterLine (s : ByteArray) (i : Nat) : Nat := if i < s.size then i + 1 else i

/-- A reader's state: its place, the open indentations (the innermost ahead), how many tokens, their cells. -/
structure LexSt where
  at_ : Nat
  st : List Int
  n : Nat
  tk : List Value

/-- What an indentation does to the open ones. -/
def settleP (st : List Int) (ind : Int) (i n : Nat) (tk : List Value) : Option (List Int × Nat × List Value) :=
  match st with
  | [] => none
  | x :: xs =>
    if x < ind then some (ind :: x :: xs, n + 1, tk ++ tokCells kIndent ⟨#[]⟩ i)
    else if (popTo ind (x :: xs)).2.head? = some ind then some ((popTo ind (x :: xs)).2, n + (popTo ind (x :: xs)).1, tk ++ dedents i (popTo ind (x :: xs)).1)
    else none

/-- One line. -/
def lineStep (s : ByteArray) (σ : LexSt) : Except Nat LexSt :=
  if endsB s (skipTo s σ.at_) then .ok { σ with at_ := afterLine s (skipTo s σ.at_) }
  else match settleP σ.st ((blanksTo s σ.at_ : Nat) - (σ.at_ : Int)) (skipTo s σ.at_) σ.n σ.tk with
    | none => .error (skipTo s σ.at_)
    | some (st', n', tk') =>
      match tokAt s (skipTo s σ.at_) with
      | none => .error (skipTo s σ.at_)
      | some (k, t, j) =>
        match restToks s (s.size + 1 - j) j (tk' ++ tokCells k t (skipTo s σ.at_)) (n' + 1) with
        | .error e => .error e
        | .ok (e, tk2, n2) => .ok ⟨afterLine s e, st', n2 + 1, tk2 ++ tokCells kNewline ⟨#[]⟩ e⟩

theorem restToks_fuel (s : ByteArray) : ∀ f g i tk n, i ≤ s.size → s.size + 1 - i ≤ f → s.size + 1 - i ≤ g → restToks s f i tk n = restToks s g i tk n
  | 0, _, i, _, _, h, hf, _ => by omega
  | _, 0, i, _, _, h, _, hg => by omega
  | f + 1, g + 1, i, tk, n, h, hf, hg => by
    unfold restToks
    split
    · rfl
    · rename_i he
      cases ht : tokAt s (skipTo s i) with
      | none => rfl
      | some x =>
        obtain ⟨k, t, j⟩ := x
        have h1 := tokAt_lt ht
        have h2 := skipTo_le s i h
        exact restToks_fuel s f g j _ _ (tokAt_bd ht) (by omega) (by omega)

theorem restToks_go {s : ByteArray} {i j : Nat} {k t : ByteArray} {tk : List Value} {n : Nat} (hi : i ≤ s.size) (he : endsB s (skipTo s i) = false) (ht : tokAt s (skipTo s i) = some (k, t, j)) :
    restToks s (s.size + 1 - i) i tk n = restToks s (s.size + 1 - j) j (tk ++ tokCells k t (skipTo s i)) (n + 1) := by
  obtain ⟨f, hf⟩ : ∃ f, s.size + 1 - i = f + 1 := ⟨s.size - i, by omega⟩
  have h1 := tokAt_lt ht
  have h2 := skipTo_le s i hi
  rw [hf]
  have e : restToks s (f + 1) i tk n = restToks s f j (tk ++ tokCells k t (skipTo s i)) (n + 1) := by
    simp only [restToks, he, Bool.false_eq_true, if_false, ht]
  rw [e]
  exact restToks_fuel s _ _ _ _ _ (tokAt_bd ht) (by omega) (Nat.le_refl _)
theorem restToks_stop {s : ByteArray} {i : Nat} {tk : List Value} {n : Nat} (hi : i ≤ s.size) (he : endsB s (skipTo s i) = true) : restToks s (s.size + 1 - i) i tk n = .ok (skipTo s i, tk, n) := by
  obtain ⟨f, hf⟩ : ∃ f, s.size + 1 - i = f + 1 := ⟨s.size - i, by omega⟩
  rw [hf]
  simp only [restToks, he, if_true]
theorem restToks_none {s : ByteArray} {i : Nat} {tk : List Value} {n : Nat} (hi : i ≤ s.size) (he : endsB s (skipTo s i) = false) (ht : tokAt s (skipTo s i) = none) : restToks s (s.size + 1 - i) i tk n = .error (skipTo s i) := by
  obtain ⟨f, hf⟩ : ∃ f, s.size + 1 - i = f + 1 := ⟨s.size - i, by omega⟩
  rw [hf]
  simp only [restToks, he, Bool.false_eq_true, if_false, ht]

theorem skip_eq {s : ByteArray} {i : Nat} (h : endsB s (skipTo s i) = false) : skipTo s i = blanksTo s i := comment_ends h
end Go.Proofs.YtpflpbfnifpchaaGreatDoor
