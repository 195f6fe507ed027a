/- Package lex: a line, by its bytes alone. -/
import Derived.Test.YtpidanllncneaaaGreatDoorLexWToLexY
namespace Go.Proofs.YtpidanllncneaaaGreatDoor
open Go.RowKit

/-- What may stand behind a line: nothing, or its end. -/
def lineEnd (S : List UInt8) : Prop := S = [] ∨ ∃ R, S = 10 :: R
def noEnd (L : List UInt8) : Prop := ∀ c ∈ L, c ≠ 10

theorem lineEnd.halts {S : List UInt8} (h : lineEnd S) : halts S := by
  rcases h with rfl | ⟨R, rfl⟩
  · intro c hc; simp at hc
  · intro c hc; simp at hc; exact .inl hc.symm

theorem dead_end {s : ByteArray} {S pre : List UInt8} (hS : lineEnd S) (h : s.data.toList = pre ++ S) : dead s pre.length := by
  intro f acc
  cases f with
  | zero => rfl
  | succ f =>
    unfold strFrom
    rcases hS with rfl | ⟨R, rfl⟩
    · rw [dif_neg (no_get (by simpa using h))]
    · obtain ⟨hlt, e⟩ := get_at (q := s) (pre := pre) (rest := R) (x := 10) h
      rw [dif_pos hlt, e]
      rfl

/-- Bytes that may stand in a str, as they are. -/
def harmless (X : List UInt8) : Prop := ∀ c ∈ X, 32 ≤ c.toNat ∧ c.toNat ≤ 126 ∧ c.toNat ≠ 34 ∧ c.toNat ≠ 92

theorem dead_run (s : ByteArray) (S : List UInt8) (hS : lineEnd S) : ∀ (X pre : List UInt8), harmless X → s.data.toList = pre ++ (X ++ S) → dead s pre.length
  | [], pre, _, h => dead_end hS (by simpa using h)
  | c :: X, pre, hX, h => by
    intro f acc
    cases f with
    | zero => rfl
    | succ f =>
      obtain ⟨hlt, e⟩ := get_at (q := s) (pre := pre) (rest := X ++ S) (x := c) (by simpa using h)
      have ih := dead_run s S hS X (pre ++ [c]) (fun x hx => hX x (by simp [hx])) (by simpa using h)
      obtain ⟨c1, c2, c3, c4⟩ := hX c (by simp)
      unfold strFrom
      rw [dif_pos hlt, e]
      simp only [List.length_append, List.length_cons, List.length_nil, Nat.zero_add] at ih
      rw [if_neg (by simp; omega), if_neg (by omega), if_neg (by omega), if_neg (by simp; omega)]
      exact ih f _

/-- How many bytes of a line's rest are passed over: blanks, and a comment. -/
def blanksL (L : List UInt8) : Nat := (L.takeWhile fun c => blankB (c.toNat : Int)).length
def skipL (L : List UInt8) : Nat := match L.drop (blanksL L) with
  | [] => blanksL L
  | c :: _ => if (c.toNat : Int) == 35 then L.length else blanksL L

theorem blanksL_le (L : List UInt8) : blanksL L ≤ L.length := takeWhile_len _ _
theorem skipL_le (L : List UInt8) : skipL L ≤ L.length := by
  unfold skipL
  have := blanksL_le L
  split
  · exact this
  · split
    · exact Nat.le_refl _
    · exact this

theorem lineB_ne {c : UInt8} (h : c ≠ 10) : lineB (c.toNat : Int) = true := by
  have : c.toNat ≠ 10 := fun e => h (UInt8.toNat_inj.mp e)
  simp [lineB]
  omega
theorem takeWhile_line : ∀ L : List UInt8, noEnd L → (L.takeWhile fun c => lineB (c.toNat : Int)) = L
  | [], _ => rfl
  | c :: L, h => by
    have := takeWhile_line L (fun x hx => h x (by simp [hx]))
    simp [List.takeWhile, lineB_ne (h c (by simp)), this]

theorem blanksTo_list (s : ByteArray) (S L pre : List UInt8) (hS : lineEnd S) (h : s.data.toList = pre ++ (L ++ S)) : blanksTo s pre.length = pre.length + blanksL L :=
  passTo_list blankB s S (fun c hc => by
    rcases hS with rfl | ⟨R, rfl⟩
    · simp at hc
    · simp at hc; subst hc; rfl) L pre h

theorem skipTo_list (s : ByteArray) (S L pre : List UInt8) (hS : lineEnd S) (hL : noEnd L) (h : s.data.toList = pre ++ (L ++ S)) : skipTo s pre.length = pre.length + skipL L := by
  have hb := blanksTo_list s S L pre hS h
  have hle := blanksL_le L
  unfold skipTo skipL
  rw [hb]
  have hsp : L.take (blanksL L) ++ L.drop (blanksL L) = L := List.take_append_drop _ L
  have hl : (pre ++ L.take (blanksL L)).length = pre.length + blanksL L := by simp; omega
  have h' : s.data.toList = (pre ++ L.take (blanksL L)) ++ (L.drop (blanksL L) ++ S) := by
    rw [h]
    simp only [List.append_assoc, ← List.append_assoc (L.take (blanksL L)), hsp]
  rw [← hl]
  cases hd : L.drop (blanksL L) with
  | nil =>
    rw [hd] at h'
    simp only
    unfold commentTo
    rcases hS with rfl | ⟨R, rfl⟩
    · rw [dif_neg (no_get (by simpa using h'))]
      exact hl
    · obtain ⟨hlt, e⟩ := get_at (q := s) (pre := pre ++ L.take (blanksL L)) (rest := R) (x := 10) (by simpa using h')
      rw [dif_pos hlt, e]
      exact hl
  | cons c L' =>
    rw [hd] at h'
    simp only
    obtain ⟨hlt, e⟩ := get_at (q := s) (pre := pre ++ L.take (blanksL L)) (rest := L' ++ S) (x := c) (by simpa using h')
    unfold commentTo
    rw [dif_pos hlt, e]
    split
    · have hp := passTo_list lineB s S (fun c hc => by
        rcases hS with rfl | ⟨R, rfl⟩
        · simp at hc
        · simp at hc; subst hc; rfl) (c :: L') (pre ++ L.take (blanksL L)) h'
      rw [takeWhile_line _ (fun x hx => hL x (by rw [← hsp, hd]; simp at hx ⊢; exact .inr hx))] at hp
      rw [hp]
      have := congrArg List.length hd
      simp at this ⊢
      omega
    · exact hl

theorem endsB_list (s : ByteArray) (S L pre : List UInt8) (hS : lineEnd S) (hL : noEnd L) (h : s.data.toList = pre ++ (L ++ S)) (m : Nat) (hm : m ≤ L.length) : endsB s (pre.length + m) = decide (m = L.length) := by
  have hsp : L.take m ++ L.drop m = L := List.take_append_drop _ L
  have hl : (pre ++ L.take m).length = pre.length + m := by simp; omega
  have h' : s.data.toList = (pre ++ L.take m) ++ (L.drop m ++ S) := by
    rw [h]
    simp only [List.append_assoc, ← List.append_assoc (L.take m), hsp]
  rw [← hl]
  unfold endsB
  cases hd : L.drop m with
  | nil =>
    rw [hd] at h'
    have hml : m = L.length := by have := congrArg List.length hd; simp at this; omega
    rw [decide_eq_true hml]
    rcases hS with rfl | ⟨R, rfl⟩
    · rw [dif_neg (no_get (by simpa using h'))]
    · obtain ⟨hlt, e⟩ := get_at (q := s) (pre := pre ++ L.take m) (rest := R) (x := 10) (by simpa using h')
      rw [dif_pos hlt, e]
      rfl
  | cons c L' =>
    rw [hd] at h'
    have hml : ¬ m = L.length := by have := congrArg List.length hd; simp at this; omega
    rw [decide_eq_false hml]
    obtain ⟨hlt, e⟩ := get_at (q := s) (pre := pre ++ L.take m) (rest := L' ++ S) (x := c) (by simpa using h')
    rw [dif_pos hlt, e]
    have hc := hL c (by rw [← hsp, hd]; simp)
    have : c.toNat ≠ 10 := fun e => hc (UInt8.toNat_inj.mp e)
    simp
    omega

theorem nameL_bd {c : UInt8} {L : List UInt8} {x : Bool × ByteArray × Nat} (h : nameL c L = some x) : 0 < x.2.2 ∧ x.2.2 ≤ L.length + 1 := by
  have := takeWhile_len (fun c => nameB (c.toNat : Int)) L
  unfold nameL at h
  simp only at h
  split at h
  · simp at h; subst h; simp; omega
  · split at h
    · cases h
    · split at h
      · cases h
      · simp at h; subst h; simp; omega
theorem intL_bd {c : UInt8} {L : List UInt8} {x : ByteArray × Nat} (hc : digitB (c.toNat : Int) = true) (h : intL c L = some x) : 0 < x.2 ∧ x.2 ≤ L.length + 1 := by
  have h1 := takeWhile_len (fun c => digitB (c.toNat : Int)) (c :: L)
  have h2 : 0 < ((c :: L).takeWhile fun c => digitB (c.toNat : Int)).length := by simp [List.takeWhile, hc]
  unfold intL at h
  simp only at h
  split at h
  · cases h
  · split at h
    · simp at h; subst h; simp at h1 h2 ⊢; omega
    · cases h
theorem strL_bd : ∀ (n : Nat) (L : List UInt8) (acc : List Int) (x : List Int × Nat), strL n L acc = some x → 0 < x.2 ∧ x.2 ≤ L.length
  | 0, _, _, _, h => by simp [strL] at h
  | n + 1, [], _, _, h => by simp [strL] at h
  | n + 1, c :: L, acc, x, h => by
    unfold strL at h
    split at h
    · simp at h; subst h; simp
    · split at h
      · cases h
      · split at h
        · cases h
        · split at h
          · cases he : escL L with
            | none => rw [he] at h; cases h
            | some y =>
              obtain ⟨v, k⟩ := y
              rw [he] at h
              have hk := escL_bd he
              simp only [Option.map_eq_some_iff] at h
              obtain ⟨z, hz, rfl⟩ := h
              have := strL_bd n (L.drop k) _ z hz
              simp at this ⊢
              omega
          · simp only [Option.map_eq_some_iff] at h
            obtain ⟨z, hz, rfl⟩ := h
            have := strL_bd n L _ z hz
            simp
            omega
theorem opAt_pos (k : Nat) (h : k < 21) : 0 < (opAt k).size := by
  iterate 21 (rcases k with _ | k; · decide)
  omega
theorem opL_bd (L : List UInt8) : ∀ (n k : Nat) (x : ByteArray × Nat), k + n = 21 → opL L n k = some x → 0 < x.2 ∧ x.2 ≤ L.length
  | 0, _, _, _, h => by simp [opL] at h
  | n + 1, k, x, hk, h => by
    unfold opL at h
    split at h
    · rename_i hp
      simp at h
      subst h
      rw [List.isPrefixOf_iff_prefix] at hp
      have := hp.length_le
      simp at this
      exact ⟨opAt_pos k (by omega), this⟩
    · exact opL_bd L n (k + 1) x (by omega) h
theorem tokL_bd {L : List UInt8} {k t : ByteArray} {m : Nat} (h : tokL L = some (k, t, m)) : 0 < m ∧ m ≤ L.length := by
  cases L with
  | nil => simp [tokL] at h
  | cons c L =>
    have hr : tokL (c :: L) = if smallB (c.toNat : Int) || capitalB (c.toNat : Int) then (nameL c L).map fun x => (if x.1 then kWord else kName, x.2.1, x.2.2)
      else if digitB (c.toNat : Int) then (intL c L).map fun x => (kInt, x.1, x.2)
      else if (c.toNat : Int) == 34 then (strL (L.length + 1) L []).map fun x => (kStr, strOfNums x.1, x.2 + 1)
      else (opL (c :: L) 21 0).map fun x => (kOp, x.1, x.2) := rfl
    rw [hr] at h
    split at h
    · simp only [Option.map_eq_some_iff] at h
      obtain ⟨z, hz, he⟩ := h
      have := nameL_bd hz
      simp at he ⊢
      omega
    · split at h
      · rename_i hd
        simp only [Option.map_eq_some_iff] at h
        obtain ⟨z, hz, he⟩ := h
        have := intL_bd hd hz
        simp at he ⊢
        omega
      · split at h
        · simp only [Option.map_eq_some_iff] at h
          obtain ⟨z, hz, he⟩ := h
          have := strL_bd _ _ _ z hz
          simp at he ⊢
          omega
        · simp only [Option.map_eq_some_iff] at h
          obtain ⟨z, hz, he⟩ := h
          have := opL_bd _ 21 0 z rfl hz
          simp at he this ⊢
          omega

/-- The tokens of a line's rest that begins at o: kind, text, place; or where there is none. -/
def restL : Nat → List UInt8 → Nat → Except Nat (List (ByteArray × ByteArray × Nat))
  | 0, _, o => .error o
  | f + 1, L, o =>
    if skipL L = L.length then .ok []
    else match tokL (L.drop (skipL L)) with
      | none => .error (o + skipL L)
      | some (k, t, m) => match restL f (L.drop (skipL L + m)) (o + (skipL L + m)) with
        | .ok l => .ok ((k, t, o + skipL L) :: l)
        | .error e => .error e

def cellsOf (l : List (ByteArray × ByteArray × Nat)) : List Value := l.flatMap fun x => tokCells x.1 x.2.1 x.2.2

theorem drop_noEnd {L : List UInt8} (h : noEnd L) (m : Nat) : noEnd (L.drop m) := fun c hc => h c (List.mem_of_mem_drop hc)

theorem restToks_list (s : ByteArray) (S : List UInt8) (hS : lineEnd S) : ∀ (f : Nat) (L pre : List UInt8) (tk : List Value) (n : Nat), L.length < f → noEnd L → s.data.toList = pre ++ (L ++ S) →
    restToks s (s.size + 1 - pre.length) pre.length tk n = match restL f L pre.length with
      | .ok l => .ok (pre.length + L.length, tk ++ cellsOf l, n + l.length)
      | .error e => .error e
  | 0, _, _, _, _, h, _, _ => absurd h (Nat.not_lt_zero _)
  | f + 1, L, pre, tk, n, hf, hL, h => by
    have hz := data_size h
    simp at hz
    have hsk := skipTo_list s S L pre hS hL h
    have hen := endsB_list s S L pre hS hL h (skipL L) (skipL_le L)
    have hle := skipL_le L
    unfold restL
    by_cases hc : skipL L = L.length
    · rw [if_pos hc]
      rw [decide_eq_true hc] at hen
      rw [restToks_stop (by omega) (by rw [hsk]; exact hen), hsk, hc]
      simp [cellsOf]
    · rw [if_neg hc]
      rw [decide_eq_false hc] at hen
      have hsp : L.take (skipL L) ++ L.drop (skipL L) = L := List.take_append_drop _ L
      have hl : (pre ++ L.take (skipL L)).length = pre.length + skipL L := by simp; omega
      have h' : s.data.toList = (pre ++ L.take (skipL L)) ++ (L.drop (skipL L) ++ S) := by
        rw [h]
        simp only [List.append_assoc, ← List.append_assoc (L.take (skipL L)), hsp]
      have hd : dead s ((pre ++ L.take (skipL L)).length + (L.drop (skipL L)).length) := by
        have := dead_end (s := s) (S := S) (pre := pre ++ L) hS (by simpa using h)
        have e : (pre ++ L.take (skipL L)).length + (L.drop (skipL L)).length = (pre ++ L).length := by simp; omega
        rw [e]; exact this
      have ht := tokAt_list s S (L.drop (skipL L)) (pre ++ L.take (skipL L)) hS.halts h' hd (by intro e; have := congrArg List.length e; simp at this; omega)
      rw [hl, ← hsk] at ht
      cases hk : tokL (L.drop (skipL L)) with
      | none =>
        rw [hk] at ht
        rw [restToks_none (by omega) (by rw [hsk]; exact hen) ht, hsk]
      | some x =>
        obtain ⟨k, t, m⟩ := x
        rw [hk] at ht
        simp only [Option.map_some] at ht
        have hm := tokL_bd hk
        simp at hm
        rw [restToks_go (by omega) (by rw [hsk]; exact hen) ht]
        have hsp2 : L.take (skipL L + m) ++ L.drop (skipL L + m) = L := List.take_append_drop _ L
        have hl2 : (pre ++ L.take (skipL L + m)).length = pre.length + (skipL L + m) := by simp; omega
        have ih := restToks_list s S hS f (L.drop (skipL L + m)) (pre ++ L.take (skipL L + m)) (tk ++ tokCells k t (skipTo s pre.length)) (n + 1) (by simp; omega) (drop_noEnd hL _) (by
          rw [h]
          simp only [List.append_assoc, ← List.append_assoc (L.take (skipL L + m)), hsp2])
        rw [hl2] at ih
        rw [hsk] at ih ⊢
        rw [show pre.length + skipL L + m = pre.length + (skipL L + m) by omega, ih]
        simp only
        cases restL f (L.drop (skipL L + m)) (pre.length + (skipL L + m)) with
        | error e => rfl
        | ok l =>
          simp [cellsOf]
          omega
end Go.Proofs.YtpidanllncneaaaGreatDoor

/- Package lex: what Lex comes to, with a blank, a comment or an empty line put in. -/
namespace Go.Proofs.YtpidanllncneaaaGreatDoor
open Go.RowKit

/-- A line, by its bytes alone. -/
theorem lineStep_list (s : ByteArray) (S L pre : List UInt8) (hS : lineEnd S) (hL : noEnd L) (h : s.data.toList = pre ++ (L ++ S)) (st : List Int) (n : Nat) (tk : List Value) :
    lineStep s ⟨pre.length, st, n, tk⟩ =
      if skipL L = L.length then .ok ⟨afterLine s (pre.length + L.length), st, n, tk⟩
      else match settleP st (blanksL L : Nat) (pre.length + skipL L) n tk with
        | none => .error (pre.length + skipL L)
        | some (st', n', tk') => match restL (L.length + 1) L pre.length with
          | .error e => .error e
          | .ok l => .ok ⟨afterLine s (pre.length + L.length), st', n' + l.length + 1, tk' ++ cellsOf l ++ tokCells kNewline ⟨#[]⟩ (pre.length + L.length)⟩ := by
  have hz := data_size h
  simp at hz
  have hsk := skipTo_list s S L pre hS hL h
  have hen := endsB_list s S L pre hS hL h (skipL L) (skipL_le L)
  have hle := skipL_le L
  have hbl := blanksTo_list s S L pre hS h
  by_cases hc : skipL L = L.length
  · rw [if_pos hc]
    rw [decide_eq_true hc] at hen
    rw [lineStep_blank (by simp only; rw [hsk]; exact hen)]
    simp only [hsk, hc]
  · rw [if_neg hc]
    rw [decide_eq_false hc] at hen
    have hd : ((pre.length + blanksL L : Nat) : Int) - (pre.length : Int) = (blanksL L : Nat) := by omega
    have hr := fun tk' n' => restToks_list s S hS (L.length + 1) L pre tk' n' (by omega) hL h
    have hsp : L.take (skipL L) ++ L.drop (skipL L) = L := List.take_append_drop _ L
    have hl : (pre ++ L.take (skipL L)).length = pre.length + skipL L := by simp; omega
    have h' : s.data.toList = (pre ++ L.take (skipL L)) ++ (L.drop (skipL L) ++ S) := by
      rw [h]
      simp only [List.append_assoc, ← List.append_assoc (L.take (skipL L)), hsp]
    have hdd : dead s ((pre ++ L.take (skipL L)).length + (L.drop (skipL L)).length) := by
      have := dead_end (s := s) (S := S) (pre := pre ++ L) hS (by simpa using h)
      have e : (pre ++ L.take (skipL L)).length + (L.drop (skipL L)).length = (pre ++ L).length := by simp; omega
      rw [e]; exact this
    have ht := tokAt_list s S (L.drop (skipL L)) (pre ++ L.take (skipL L)) hS.halts h' hdd (by intro e; have := congrArg List.length e; simp at this; omega)
    rw [hl, ← hsk] at ht
    cases hst : settleP st (blanksL L : Nat) (pre.length + skipL L) n tk with
    | none =>
      rw [lineStep_settle (by simp only; rw [hsk]; exact hen) (by simp only; rw [hbl, hd, hsk]; exact hst)]
      simp only [hsk]
    | some x =>
      obtain ⟨st', n', tk'⟩ := x
      have hg := hr tk' n'
      cases hk : tokL (L.drop (skipL L)) with
      | none =>
        rw [hk] at ht
        rw [lineStep_tok (by simp only; rw [hsk]; exact hen) (by simp only; rw [hbl, hd, hsk]; exact hst) ht]
        rw [restToks_none (by omega) (by rw [hsk]; exact hen) ht] at hg
        simp only
        cases hrl : restL (L.length + 1) L pre.length with
        | error e =>
          rw [hrl] at hg
          simp only [Except.error.injEq] at hg
          simp only [hg]
        | ok l => rw [hrl] at hg; cases hg
      | some y =>
        obtain ⟨k, t, m⟩ := y
        rw [hk] at ht
        simp only [Option.map_some] at ht
        rw [restToks_go (by omega) (by rw [hsk]; exact hen) ht] at hg
        simp only
        cases hrl : restL (L.length + 1) L pre.length with
        | error e =>
          rw [hrl] at hg
          rw [lineStep_rest (by simp only; rw [hsk]; exact hen) (by simp only; rw [hbl, hd, hsk]; exact hst) ht hg]
        | ok l =>
          rw [hrl] at hg
          rw [lineStep_ok (by simp only; rw [hsk]; exact hen) (by simp only; rw [hbl, hd, hsk]; exact hst) ht hg]

/-- The same kinds and texts. -/
def Alike (a b : List Value) : Prop := ∃ l m : List (ByteArray × ByteArray × Nat), a = cellsOf l ∧ b = cellsOf m ∧ l.map (fun x => (x.1, x.2.1)) = m.map (fun x => (x.1, x.2.1))
theorem Alike.nil : Alike [] [] := ⟨[], [], rfl, rfl, rfl⟩
theorem Alike.tok {a b : List Value} (h : Alike a b) (k t : ByteArray) (i j : Nat) : Alike (a ++ tokCells k t i) (b ++ tokCells k t j) := by
  obtain ⟨l, m, rfl, rfl, e⟩ := h
  exact ⟨l ++ [(k, t, i)], m ++ [(k, t, j)], by simp [cellsOf], by simp [cellsOf], by simp [e]⟩

theorem Alike.refl_dedents {a b : List Value} (h : Alike a b) (i j : Nat) : ∀ k, Alike (a ++ dedents i k) (b ++ dedents j k)
  | 0 => by simpa [dedents] using h
  | k + 1 => by
    have ih := Alike.refl_dedents h i j k
    simp only [dedents, ← List.append_assoc]
    exact ih.tok _ _ _ _
theorem Alike.cells : ∀ (l l' : List (ByteArray × ByteArray × Nat)), l.map (fun x => (x.1, x.2.1)) = l'.map (fun x => (x.1, x.2.1)) → ∀ {a b : List Value}, Alike a b → Alike (a ++ cellsOf l) (b ++ cellsOf l')
  | [], [], _, a, b, h => by simpa [cellsOf] using h
  | [], y :: l', he, _, _, _ => by simp at he
  | x :: l, [], he, _, _, _ => by simp at he
  | (k, t, i) :: l, (k', t', j) :: l', he, a, b, h => by
    simp only [List.map_cons, List.cons.injEq, Prod.mk.injEq] at he
    obtain ⟨⟨rfl, rfl⟩, he⟩ := he
    have := Alike.cells l l' he (h.tok k t i j)
    simpa [cellsOf] using this

theorem settle_alike (st : List Int) (ind : Int) (i j n : Nat) {a b : List Value} (h : Alike a b) :
    (settleP st ind i n a = none ∧ settleP st ind j n b = none) ∨ ∃ st' n' a' b', settleP st ind i n a = some (st', n', a') ∧ settleP st ind j n b = some (st', n', b') ∧ Alike a' b' := by
  unfold settleP
  cases st with
  | nil => exact .inl ⟨rfl, rfl⟩
  | cons x xs =>
    simp only
    split
    · exact .inr ⟨_, _, _, _, rfl, rfl, h.tok _ _ _ _⟩
    · split
      · exact .inr ⟨_, _, _, _, rfl, rfl, h.refl_dedents _ _ _⟩
      · exact .inl ⟨rfl, rfl⟩

/-- Wherever a line stands, and whatever blanks and comment stand at its end: the same kinds and texts. -/
def sameL (x y : Except Nat (List (ByteArray × ByteArray × Nat))) : Prop :=
  match x, y with
  | .ok l, .ok l' => l.map (fun x => (x.1, x.2.1)) = l'.map (fun x => (x.1, x.2.1))
  | .error _, .error _ => True
  | _, _ => False

/-- What may be put in at a line's end. -/
structure Gap (X : List UInt8) : Prop where
  skip : skipL X = X.length
  halts : halts X
  calm : harmless X
  noEnd : noEnd X

theorem gap_nil : Gap [] := ⟨rfl, fun c hc => by simp at hc, fun c hc => by simp at hc, fun c hc => by simp at hc⟩
theorem gap_blanks : Gap [32, 32] := ⟨by decide, by unfold halts; decide, by unfold harmless; decide, by unfold Go.Proofs.YtpidanllncneaaaGreatDoor.noEnd; decide⟩

theorem tokL_gap {X L : List UInt8} (hX : Gap X) (hL : L ≠ []) : tokL (L ++ X) = tokL L := by
  have h1 := tokAt_list ⟨(L ++ X).toArray⟩ X L [] hX.halts (by simp) (by
    have := dead_run ⟨(L ++ X).toArray⟩ [] (.inl rfl) X L hX.calm (by simp)
    simpa using this) hL
  have h2 := tokAt_list ⟨(L ++ X).toArray⟩ [] (L ++ X) [] (fun c hc => by simp at hc) (by simp) (by
    have := dead_end (s := ⟨(L ++ X).toArray⟩) (S := []) (pre := L ++ X) (.inl rfl) (by simp)
    simpa using this) (by simp [hL])
  rw [h1] at h2
  simp only [List.length_nil, Nat.zero_add] at h2
  have hid : ∀ o : Option (ByteArray × ByteArray × Nat), (o.map fun x => (x.1, x.2.1, x.2.2)) = o := fun o => by cases o <;> rfl
  rw [hid, hid] at h2
  exact h2.symm

theorem blanksL_all {L X : List UInt8} (h : blanksL L = L.length) : blanksL (L ++ X) = L.length + blanksL X := by
  induction L with
  | nil => simp
  | cons c L ih =>
    unfold blanksL at h ih ⊢
    simp only [List.cons_append]
    cases hc : blankB (c.toNat : Int)
    · simp [List.takeWhile, hc] at h
    · simp [List.takeWhile, hc] at h ⊢
      rw [ih h]
      omega
theorem blanksL_part {L X : List UInt8} (h : blanksL L ≠ L.length) : blanksL (L ++ X) = blanksL L := by
  induction L with
  | nil => simp [blanksL] at h
  | cons c L ih =>
    unfold blanksL at h ih ⊢
    simp only [List.cons_append]
    cases hc : blankB (c.toNat : Int)
    · simp [List.takeWhile, hc]
    · simp [List.takeWhile, hc] at h ⊢
      exact ih h

/-- All is passed over. -/
theorem skipL_all {L X : List UInt8} (hX : Gap X) (h : skipL L = L.length) : skipL (L ++ X) = (L ++ X).length := by
  by_cases hb : blanksL L = L.length
  · have hx := hX.skip
    unfold skipL at hx ⊢
    rw [blanksL_all hb]
    have e : (L ++ X).drop (L.length + blanksL X) = X.drop (blanksL X) := by rw [List.drop_append]; simp
    rw [e]
    have hl : (L ++ X).length = L.length + X.length := by simp
    cases hd : X.drop (blanksL X) with
    | nil => rw [hd] at hx; simp only at hx ⊢; omega
    | cons c r =>
      rw [hd] at hx
      simp only at hx ⊢
      split
      · rfl
      · rename_i h35
        rw [if_neg h35] at hx
        omega
  · unfold skipL at h ⊢
    rw [blanksL_part hb]
    have hle := blanksL_le L
    rw [List.drop_append_of_le_length hle]
    cases hd : L.drop (blanksL L) with
    | nil => rw [hd] at h; simp only at h; exact absurd h hb
    | cons c r =>
      rw [hd] at h
      simp only [List.cons_append] at h ⊢
      split
      · rfl
      · rename_i h35
        rw [if_neg h35] at h
        exact absurd h hb
theorem skipL_part {L X : List UInt8} (h : skipL L ≠ L.length) : skipL (L ++ X) = skipL L ∧ blanksL (L ++ X) = blanksL L := by
  have hle := blanksL_le L
  have hb : blanksL L ≠ L.length := by
    intro hb
    apply h
    unfold skipL
    rw [hb]
    simp
  refine ⟨?_, blanksL_part hb⟩
  unfold skipL at h ⊢
  rw [blanksL_part hb, List.drop_append_of_le_length hle]
  cases hd : L.drop (blanksL L) with
  | nil => have := congrArg List.length hd; simp at this; omega
  | cons c r =>
    rw [hd] at h
    simp only [List.cons_append] at h ⊢
    split
    · rename_i h35
      rw [if_pos h35] at h
      exact absurd rfl h
    · rfl

theorem restL_same {X : List UInt8} (hX : Gap X) : ∀ (f g : Nat) (L : List UInt8) (o o' : Nat), L.length < f → (L ++ X).length < g → sameL (restL f L o) (restL g (L ++ X) o')
  | 0, _, _, _, _, h, _ => absurd h (Nat.not_lt_zero _)
  | _, 0, _, _, _, _, h => absurd h (Nat.not_lt_zero _)
  | f + 1, g + 1, L, o, o', hf, hg => by
    unfold restL
    have hle := skipL_le L
    by_cases hc : skipL L = L.length
    · rw [if_pos hc, if_pos (skipL_all hX hc)]
      rfl
    · have hp := skipL_part (X := X) hc
      rw [if_neg hc, if_neg (by rw [hp.1]; simp; omega), hp.1, List.drop_append_of_le_length hle, tokL_gap hX (by intro e; have := congrArg List.length e; simp at this; omega)]
      cases hk : tokL (L.drop (skipL L)) with
      | none => trivial
      | some y =>
        obtain ⟨k, t, m⟩ := y
        have hm := tokL_bd hk
        simp at hm
        have ih := restL_same hX f g (L.drop (skipL L + m)) (o + (skipL L + m)) (o' + (skipL L + m)) (by simp; omega) (by simp at hg ⊢; omega)
        simp only
        rw [List.drop_append_of_le_length (by omega)]
        cases h1 : restL f (L.drop (skipL L + m)) (o + (skipL L + m)) with
        | error e =>
          cases h2 : restL g (L.drop (skipL L + m) ++ X) (o' + (skipL L + m)) with
          | error e' => trivial
          | ok l' => rw [h1, h2] at ih; exact ih
        | ok l =>
          cases h2 : restL g (L.drop (skipL L + m) ++ X) (o' + (skipL L + m)) with
          | error e' => rw [h1, h2] at ih; exact ih
          | ok l' =>
            rw [h1, h2] at ih
            simp only [sameL, List.map_cons] at ih ⊢
            rw [ih]
end Go.Proofs.YtpidanllncneaaaGreatDoor
