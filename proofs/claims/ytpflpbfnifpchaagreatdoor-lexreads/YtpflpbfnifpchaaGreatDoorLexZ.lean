/- Package lex: a line, by its bytes alone. -/
import Derived.Test.YtpflpbfnifpchaaGreatDoorLexY
namespace Go.Proofs.YtpflpbfnifpchaaGreatDoor
open Go.RowKit

/-- What may stand behind a line: nothing, or its end. -/
def lineEnd (S : List UInt8) : Prop := S = [] ∨ ∃ R, S = 10 :: R
def noEnd (L : List UInt8) : Prop := ∀ c ∈ L, c ≠ 10

theorem lineEnd.halts {S : List UInt8} (h : lineEnd S) : halts S := by
  rcases h with rfl | ⟨R, rfl⟩
  · intro c hc; simp at hc
  · intro c hc; simp at hc; exact .inl hc.symm

theorem dead_end {s : ByteArray} {S pre : List UInt8} (hS : lineEnd S) (h : s.data.toList = pre ++ S) : dead s pre.length := by
  intro f acc
  cases f with
  | zero => rfl
  | succ f =>
    unfold strFrom
    rcases hS with rfl | ⟨R, rfl⟩
    · rw [dif_neg (no_get (by simpa using h))]
    · obtain ⟨hlt, e⟩ := get_at (q := s) (pre := pre) (rest := R) (x := 10) h
      rw [dif_pos hlt, e]
      rfl

/-- Bytes that may stand in a str, as they are. -/
def harmless (X : List UInt8) : Prop := ∀ c ∈ X, 32 ≤ c.toNat ∧ c.toNat ≤ 126 ∧ c.toNat ≠ 34 ∧ c.toNat ≠ 92

theorem dead_run (s : ByteArray) (S : List UInt8) (hS : lineEnd S) : ∀ (X pre : List UInt8), harmless X → s.data.toList = pre ++ (X ++ S) → dead s pre.length
  | [], pre, _, h => dead_end hS (by simpa using h)
  | c :: X, pre, hX, h => by
    intro f acc
    cases f with
    | zero => rfl
    | succ f =>
      obtain ⟨hlt, e⟩ := get_at (q := s) (pre := pre) (rest := X ++ S) (x := c) (by simpa using h)
      have ih := dead_run s S hS X (pre ++ [c]) (fun x hx => hX x (by simp [hx])) (by simpa using h)
      obtain ⟨c1, c2, c3, c4⟩ := hX c (by simp)
      unfold strFrom
      rw [dif_pos hlt, e]
      simp only [List.length_append, List.length_cons, List.length_nil, Nat.zero_add] at ih
      rw [if_neg (by simp; omega), if_neg (by omega), if_neg (by omega), if_neg (by simp; omega)]
      exact ih f _

/-- How many bytes of a line's rest are passed over: blanks, and a comment. -/
def blanksL (L : List UInt8) : Nat := (L.takeWhile fun c => blankB (c.toNat : Int)).length
def skipL (L : List UInt8) : Nat := match L.drop (blanksL L) with
  | [] => blanksL L
  | c :: _ => if (c.toNat : Int) == 35 then L.length else blanksL L

theorem blanksL_le (L : List UInt8) : blanksL L ≤ L.length := takeWhile_len _ _
theorem skipL_le (L : List UInt8) : skipL L ≤ L.length := by
  unfold skipL
  have := blanksL_le L
  split
  · exact this
  · split
    · exact Nat.le_refl _
    · exact this

theorem lineB_ne {c : UInt8} (h : c ≠ 10) : lineB (c.toNat : Int) = true := by
  have : c.toNat ≠ 10 := fun e => h (UInt8.toNat_inj.mp e)
  simp [lineB]
  omega
theorem takeWhile_line : ∀ L : List UInt8, noEnd L → (L.takeWhile fun c => lineB (c.toNat : Int)) = L
  | [], _ => rfl
  | c :: L, h => by
    have := takeWhile_line L (fun x hx => h x (by simp [hx]))
    simp [List.takeWhile, lineB_ne (h c (by simp)), this]

theorem blanksTo_list (s : ByteArray) (S L pre : List UInt8) (hS : lineEnd S) (h : s.data.toList = pre ++ (L ++ S)) : blanksTo s pre.length = pre.length + blanksL L :=
  passTo_list blankB s S (fun c hc => by
    rcases hS with rfl | ⟨R, rfl⟩
    · simp at hc
    · simp at hc; subst hc; rfl) L pre h

theorem skipTo_list (s : ByteArray) (S L pre : List UInt8) (hS : lineEnd S) (hL : noEnd L) (h : s.data.toList = pre ++ (L ++ S)) : skipTo s pre.length = pre.length + skipL L := by
  have hb := blanksTo_list s S L pre hS h
  have hle := blanksL_le L
  unfold skipTo skipL
  rw [hb]
  have hsp : L.take (blanksL L) ++ L.drop (blanksL L) = L := List.take_append_drop _ L
  have hl : (pre ++ L.take (blanksL L)).length = pre.length + blanksL L := by simp; omega
  have h' : s.data.toList = (pre ++ L.take (blanksL L)) ++ (L.drop (blanksL L) ++ S) := by
    rw [h]
    simp only [List.append_assoc, ← List.append_assoc (L.take (blanksL L)), hsp]
  rw [← hl]
  cases hd : L.drop (blanksL L) with
  | nil =>
    rw [hd] at h'
    simp only
    unfold commentTo
    rcases hS with rfl | ⟨R, rfl⟩
    · rw [dif_neg (no_get (by simpa using h'))]
      exact hl
    · obtain ⟨hlt, e⟩ := get_at (q := s) (pre := pre ++ L.take (blanksL L)) (rest := R) (x := 10) (by simpa using h')
      rw [dif_pos hlt, e]
      exact hl
  | cons c L' =>
    rw [hd] at h'
    simp only
    obtain ⟨hlt, e⟩ := get_at (q := s) (pre := pre ++ L.take (blanksL L)) (rest := L' ++ S) (x := c) (by simpa using h')
    unfold commentTo
    rw [dif_pos hlt, e]
    split
    · have hp := passTo_list lineB s S (fun c hc => by
        rcases hS with rfl | ⟨R, rfl⟩
        · simp at hc
        · simp at hc; subst hc; rfl) (c :: L') (pre ++ L.take (blanksL L)) h'
      rw [takeWhile_line _ (fun x hx => hL x (by rw [← hsp, hd]; simp at hx ⊢; exact .inr hx))] at hp
      rw [hp]
      have := congrArg List.length hd
      simp at this ⊢
      omega
    · exact hl

theorem endsB_list (s : ByteArray) (S L pre : List UInt8) (hS : lineEnd S) (hL : noEnd L) (h : s.data.toList = pre ++ (L ++ S)) (m : Nat) (hm : m ≤ L.length) : endsB s (pre.length + m) = decide (m = L.length) := by
  have hsp : L.take m ++ L.drop m = L := List.take_append_drop _ L
  have hl : (pre ++ L.take m).length = pre.length + m := by simp; omega
  have h' : s.data.toList = (pre ++ L.take m) ++ (L.drop m ++ S) := by
    rw [h]
    simp only [List.append_assoc, ← List.append_assoc (L.take m), hsp]
  rw [← hl]
  unfold endsB
  cases hd : L.drop m with
  | nil =>
    rw [hd] at h'
    have hml : m = L.length := by have := congrArg List.length hd; simp at this; omega
    rw [decide_eq_true hml]
    rcases hS with rfl | ⟨R, rfl⟩
    · rw [dif_neg (no_get (by simpa using h'))]
    · obtain ⟨hlt, e⟩ := get_at (q := s) (pre := pre ++ L.take m) (rest := R) (x := 10) (by simpa using h')
      rw [dif_pos hlt, e]
      rfl
  | cons c L' =>
    rw [hd] at h'
    have hml : ¬ m = L.length := by have := congrArg List.length hd; simp at this; omega
    rw [decide_eq_false hml]
    obtain ⟨hlt, e⟩ := get_at (q := s) (pre := pre ++ L.take m) (rest := L' ++ S) (x := c) (by simpa using h')
    rw [dif_pos hlt, e]
    have hc := hL c (by rw [← hsp, hd]; simp)
    have : c.toNat ≠ 10 := fun e => hc (UInt8.toNat_inj.mp e)
    simp
    omega

theorem nameL_bd {c : UInt8} {L : List UInt8} {x : Bool × ByteArray × Nat} (h : nameL c L = some x) : 0 < x.2.2 ∧ x.2.2 ≤ L.length + 1 := by
  have := takeWhile_len (fun c => nameB (c.toNat : Int)) L
  unfold nameL at h
  simp only at h
  split at h
  · simp at h; subst h; simp; omega
  · split at h
    · cases h
    · split at h
      · cases h
      · simp at h; subst h; simp; omega
theorem intL_bd {c : UInt8} {L : List UInt8} {x : ByteArray × Nat} (hc : digitB (c.toNat : Int) = true) (h : intL c L = some x) : 0 < x.2 ∧ x.2 ≤ L.length + 1 := by
  have h1 := takeWhile_len (fun c => digitB (c.toNat : Int)) (c :: L)
  have h2 : 0 < ((c :: L).takeWhile fun c => digitB (c.toNat : Int)).length := by simp [List.takeWhile, hc]
  unfold intL at h
  simp only at h
  split at h
  · cases h
  · split at h
    · simp at h; subst h; simp at h1 h2 ⊢; omega
    · cases h
theorem strL_bd : ∀ (n : Nat) (L : List UInt8) (acc : List Int) (x : List Int × Nat), strL n L acc = some x → 0 < x.2 ∧ x.2 ≤ L.length
  | 0, _, _, _, h => by simp [strL] at h
  | n + 1, [], _, _, h => by simp [strL] at h
  | n + 1, c :: L, acc, x, h => by
    unfold strL at h
    split at h
    · simp at h; subst h; simp
    · split at h
      · cases h
      · split at h
        · cases h
        · split at h
          · cases he : escL L with
            | none => rw [he] at h; cases h
            | some y =>
              obtain ⟨v, k⟩ := y
              rw [he] at h
              have hk := escL_bd he
              simp only [Option.map_eq_some_iff] at h
              obtain ⟨z, hz, rfl⟩ := h
              have := strL_bd n (L.drop k) _ z hz
              simp at this ⊢
              omega
          · simp only [Option.map_eq_some_iff] at h
            obtain ⟨z, hz, rfl⟩ := h
            have := strL_bd n L _ z hz
            simp
            omega
theorem opAt_pos (k : Nat) (h : k < 21) : 0 < (opAt k).size := by
  iterate 21 (rcases k with _ | k; · decide)
  omega
theorem opL_bd (L : List UInt8) : ∀ (n k : Nat) (x : ByteArray × Nat), k + n = 21 → opL L n k = some x → 0 < x.2 ∧ x.2 ≤ L.length
  | 0, _, _, _, h => by simp [opL] at h
  | n + 1, k, x, hk, h => by
    unfold opL at h
    split at h
    · rename_i hp
      simp at h
      subst h
      rw [List.isPrefixOf_iff_prefix] at hp
      have := hp.length_le
      simp at this
      exact ⟨opAt_pos k (by omega), this⟩
    · exact opL_bd L n (k + 1) x (by omega) h
theorem tokL_bd {L : List UInt8} {k t : ByteArray} {m : Nat} (h : tokL L = some (k, t, m)) : 0 < m ∧ m ≤ L.length := by
  cases L with
  | nil => simp [tokL] at h
  | cons c L =>
    have hr : tokL (c :: L) = if smallB (c.toNat : Int) || capitalB (c.toNat : Int) then (nameL c L).map fun x => (if x.1 then kWord else kName, x.2.1, x.2.2)
      else if digitB (c.toNat : Int) then (intL c L).map fun x => (kInt, x.1, x.2)
      else if (c.toNat : Int) == 34 then (strL (L.length + 1) L []).map fun x => (kStr, strOfNums x.1, x.2 + 1)
      else (opL (c :: L) 21 0).map fun x => (kOp, x.1, x.2) := rfl
    rw [hr] at h
    split at h
    · simp only [Option.map_eq_some_iff] at h
      obtain ⟨z, hz, he⟩ := h
      have := nameL_bd hz
      simp at he ⊢
      omega
    · split at h
      · rename_i hd
        simp only [Option.map_eq_some_iff] at h
        obtain ⟨z, hz, he⟩ := h
        have := intL_bd hd hz
        simp at he ⊢
        omega
      · split at h
        · simp only [Option.map_eq_some_iff] at h
          obtain ⟨z, hz, he⟩ := h
          have := strL_bd _ _ _ z hz
          simp at he ⊢
          omega
        · simp only [Option.map_eq_some_iff] at h
          obtain ⟨z, hz, he⟩ := h
          have := opL_bd _ 21 0 z rfl hz
          simp at he this ⊢
          omega

/-- The tokens of a line's rest that begins at o: kind, text, place; or where there is none. -/
def restL : Nat → List UInt8 → Nat → Except Nat (List (ByteArray × ByteArray × Nat))
  | 0, _, o => .error o
  | f + 1, L, o =>
    if skipL L = L.length then .ok []
    else match tokL (L.drop (skipL L)) with
      | none => .error (o + skipL L)
      | some (k, t, m) => match restL f (L.drop (skipL L + m)) (o + (skipL L + m)) with
        | .ok l => .ok ((k, t, o + skipL L) :: l)
        | .error e => .error e

def cellsOf (l : List (ByteArray × ByteArray × Nat)) : List Value := l.flatMap fun x => tokCells x.1 x.2.1 x.2.2

theorem drop_noEnd {L : List UInt8} (h : noEnd L) (m : Nat) : noEnd (L.drop m) := fun c hc => h c (List.mem_of_mem_drop hc)

theorem restToks_list (s : ByteArray) (S : List UInt8) (hS : lineEnd S) : ∀ (f : Nat) (L pre : List UInt8) (tk : List Value) (n : Nat), L.length < f → noEnd L → s.data.toList = pre ++ (L ++ S) →
    restToks s (s.size + 1 - pre.length) pre.length tk n = match restL f L pre.length with
      | .ok l => .ok (pre.length + L.length, tk ++ cellsOf l, n + l.length)
      | .error e => .error e
  | 0, _, _, _, _, h, _, _ => absurd h (Nat.not_lt_zero _)
  | f + 1, L, pre, tk, n, hf, hL, h => by
    have hz := data_size h
    simp at hz
    have hsk := skipTo_list s S L pre hS hL h
    have hen := endsB_list s S L pre hS hL h (skipL L) (skipL_le L)
    have hle := skipL_le L
    unfold restL
    by_cases hc : skipL L = L.length
    · rw [if_pos hc]
      rw [decide_eq_true hc] at hen
      rw [restToks_stop (by omega) (by rw [hsk]; exact hen), hsk, hc]
      simp [cellsOf]
    · rw [if_neg hc]
      rw [decide_eq_false hc] at hen
      have hsp : L.take (skipL L) ++ L.drop (skipL L) = L := List.take_append_drop _ L
      have hl : (pre ++ L.take (skipL L)).length = pre.length + skipL L := by simp; omega
      have h' : s.data.toList = (pre ++ L.take (skipL L)) ++ (L.drop (skipL L) ++ S) := by
        rw [h]
        simp only [List.append_assoc, ← List.append_assoc (L.take (skipL L)), hsp]
      have hd : dead s ((pre ++ L.take (skipL L)).length + (L.drop (skipL L)).length) := by
        have := dead_end (s := s) (S := S) (pre := pre ++ L) hS (by simpa using h)
        have e : (pre ++ L.take (skipL L)).length + (L.drop (skipL L)).length = (pre ++ L).length := by simp; omega
        rw [e]; exact this
      have ht := tokAt_list s S (L.drop (skipL L)) (pre ++ L.take (skipL L)) hS.halts h' hd (by intro e; have := congrArg List.length e; simp at this; omega)
      rw [hl, ← hsk] at ht
      cases hk : tokL (L.drop (skipL L)) with
      | none =>
        rw [hk] at ht
        rw [restToks_none (by omega) (by rw [hsk]; exact hen) ht, hsk]
      | some x =>
        obtain ⟨k, t, m⟩ := x
        rw [hk] at ht
        simp only [Option.map_some] at ht
        have hm := tokL_bd hk
        simp at hm
        rw [restToks_go (by omega) (by rw [hsk]; exact hen) ht]
        have hsp2 : L.take (skipL L + m) ++ L.drop (skipL L + m) = L := List.take_append_drop _ L
        have hl2 : (pre ++ L.take (skipL L + m)).length = pre.length + (skipL L + m) := by simp; omega
        have ih := restToks_list s S hS f (L.drop (skipL L + m)) (pre ++ L.take (skipL L + m)) (tk ++ tokCells k t (skipTo s pre.length)) (n + 1) (by simp; omega) (drop_noEnd hL _) (by
          rw [h]
          simp only [List.append_assoc, ← List.append_assoc (L.take (skipL L + m)), hsp2])
        rw [hl2] at ih
        rw [hsk] at ih ⊢
        rw [show pre.length + skipL L + m = pre.length + (skipL L + m) by omega, ih]
        simp only
        cases restL f (L.drop (skipL L + m)) (pre.length + (skipL L + m)) with
        | error e => rfl
        | ok l =>
          simp [cellsOf]
          omega
end Go.Proofs.YtpflpbfnifpchaaGreatDoor
