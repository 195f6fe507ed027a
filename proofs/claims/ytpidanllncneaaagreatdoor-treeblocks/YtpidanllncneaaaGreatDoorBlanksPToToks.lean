/- Package lex: what Lex comes to, with a blank, a comment or an empty line put in. -/
import Derived.Test.YtpidanllncneaaaGreatDoorLexZToLineL
namespace Go.Proofs.YtpidanllncneaaaGreatDoor
open Go.RowKit

def SameRun (x y : Except Nat LexSt) : Prop :=
  match x, y with
  | .ok a, .ok b => a.st = b.st ∧ a.n = b.n ∧ Alike a.tk b.tk
  | .error _, .error _ => True
  | _, _ => False

theorem after_list (s : ByteArray) (S p : List UInt8) (hS : lineEnd S) (h : s.data.toList = p ++ S) : afterLine s p.length = (p ++ S.take 1).length := by
  have hz := data_size h
  unfold afterLine
  rcases hS with rfl | ⟨R, rfl⟩
  · simp at hz
    rw [if_neg (by omega)]
    simp
  · simp at hz
    rw [if_pos (by omega)]
    simp

theorem run_end (s : ByteArray) (p : Nat) (st : List Int) (n : Nat) (a : List Value) (h : ¬ p < s.size) : runLines s (s.size - p) ⟨p, st, n, a⟩ = .ok ⟨p, st, n, a⟩ := runLines_end (s := s) (σ := ⟨p, st, n, a⟩) h

theorem line_same (s t : ByteArray) (S T L X pre pre' : List UInt8) (hS : lineEnd S) (hT : lineEnd T) (hL : noEnd L) (hX : Gap X) (h : s.data.toList = pre ++ (L ++ S)) (h' : t.data.toList = pre' ++ ((L ++ X) ++ T)) (st : List Int) (n : Nat) {a b : List Value} (hA : Alike a b) :
    (∃ e e', lineStep s ⟨pre.length, st, n, a⟩ = .error e ∧ lineStep t ⟨pre'.length, st, n, b⟩ = .error e') ∨
    ∃ st' n' a' b', lineStep s ⟨pre.length, st, n, a⟩ = .ok ⟨(pre ++ L ++ S.take 1).length, st', n', a'⟩ ∧ lineStep t ⟨pre'.length, st, n, b⟩ = .ok ⟨(pre' ++ (L ++ X) ++ T.take 1).length, st', n', b'⟩ ∧ Alike a' b' := by
  have hLX : noEnd (L ++ X) := fun c hc => by
    simp at hc
    rcases hc with hc | hc
    · exact hL c hc
    · exact hX.noEnd c hc
  have e1 := after_list s S (pre ++ L) hS (by simpa using h)
  have e2 := after_list t T (pre' ++ (L ++ X)) hT (by simpa using h')
  rw [@List.length_append _ pre] at e1
  rw [@List.length_append _ pre'] at e2
  rw [lineStep_list s S L pre hS hL h, lineStep_list t T (L ++ X) pre' hT hLX h', e1, e2]
  by_cases hc : skipL L = L.length
  · rw [if_pos hc, if_pos (skipL_all hX hc)]
    exact .inr ⟨_, _, _, _, rfl, rfl, hA⟩
  · have hle := skipL_le L
    have hp := skipL_part (X := X) hc
    rw [if_neg hc, if_neg (by rw [hp.1]; simp; omega), hp.1, hp.2]
    rcases settle_alike st (blanksL L : Nat) (pre.length + skipL L) (pre'.length + skipL L) n hA with ⟨h1, h2⟩ | ⟨st', n', a', b', h1, h2, hA'⟩
    · rw [h1, h2]
      exact .inl ⟨_, _, rfl, rfl⟩
    · rw [h1, h2]
      simp only
      have hr := restL_same hX (L.length + 1) ((L ++ X).length + 1) L pre.length pre'.length (by omega) (by omega)
      cases r1 : restL (L.length + 1) L pre.length with
      | error e =>
        cases r2 : restL ((L ++ X).length + 1) (L ++ X) pre'.length with
        | error e' => exact .inl ⟨_, _, rfl, rfl⟩
        | ok l' => rw [r1, r2] at hr; exact hr.elim
      | ok l =>
        cases r2 : restL ((L ++ X).length + 1) (L ++ X) pre'.length with
        | error e' => rw [r1, r2] at hr; exact hr.elim
        | ok l' =>
          rw [r1, r2] at hr
          have hl : l.length = l'.length := by simpa using congrArg List.length hr
          simp only [hl]
          exact .inr ⟨_, _, _, _, rfl, rfl, (Alike.cells l l' hr hA').tok _ _ _ _⟩

theorem split_line : ∀ R : List UInt8, ∃ L S, R = L ++ S ∧ noEnd L ∧ lineEnd S
  | [] => ⟨[], [], rfl, fun c hc => by simp at hc, .inl rfl⟩
  | c :: R => by
    by_cases hc : c = 10
    · exact ⟨[], c :: R, rfl, fun c hc => by simp at hc, .inr ⟨R, by rw [hc]⟩⟩
    · obtain ⟨L, S, rfl, hL, hS⟩ := split_line R
      exact ⟨c :: L, S, rfl, fun x hx => by
        simp at hx
        rcases hx with rfl | hx
        · exact hc
        · exact hL x hx, hS⟩

theorem same_run (s t : ByteArray) : ∀ (N : Nat) (R pre pre' : List UInt8) (st : List Int) (n : Nat) (a b : List Value), R.length ≤ N → s.data.toList = pre ++ R → t.data.toList = pre' ++ R → Inv s ⟨pre.length, st, n, a⟩ → Inv t ⟨pre'.length, st, n, b⟩ → Alike a b →
    SameRun (runLines s (s.size - pre.length) ⟨pre.length, st, n, a⟩) (runLines t (t.size - pre'.length) ⟨pre'.length, st, n, b⟩)
  | N, [], pre, pre', st, n, a, b, _, h, h', I, I', hA => by
    have hz := data_size h
    have hz' := data_size h'
    rw [runLines_end (s := s) (σ := ⟨pre.length, st, n, a⟩) (by simp at hz ⊢; omega), runLines_end (s := t) (σ := ⟨pre'.length, st, n, b⟩) (by simp at hz' ⊢; omega)]
    exact ⟨rfl, rfl, hA⟩
  | 0, c :: R, _, _, _, _, _, _, hN, _, _, _, _, _ => by simp at hN
  | N + 1, c :: R, pre, pre', st, n, a, b, hN, h, h', I, I', hA => by
    have hz := data_size h
    have hz' := data_size h'
    simp at hz hz'
    obtain ⟨L, S, e, hL, hS⟩ := split_line (c :: R)
    have h1 : s.data.toList = pre ++ (L ++ S) := by rw [h, e]
    have h2 : t.data.toList = pre' ++ ((L ++ []) ++ S) := by rw [h', e]; simp
    have hlt : pre.length < s.size := by omega
    have hlt' : pre'.length < t.size := by omega
    rcases line_same s t S S L [] pre pre' hS hS hL gap_nil h1 h2 st n hA with ⟨x, y, e1, e2⟩ | ⟨st', n', a', b', e1, e2, hA'⟩
    · rw [runLines_err hlt e1, runLines_err hlt' e2]
      trivial
    · rw [runLines_go I hlt e1, runLines_go I' hlt' e2]
      have I1 := (lineStep_inv I hlt e1).1
      have I2 := (lineStep_inv I' hlt' e2).1
      have hlen := congrArg List.length e
      simp at hlen
      refine same_run s t N (S.drop 1) _ _ st' n' a' b' ?_ ?_ ?_ I1 I2 hA'
      · simp at hN ⊢
        cases S with
        | nil => simp
        | cons d S => simp at hlen ⊢; omega
      · rw [h1]
        simp only [List.append_assoc, List.take_append_drop]
      · rw [h2]
        simp only [List.append_assoc, List.take_append_drop]

theorem blank_run (t : ByteArray) (T Y p : List UInt8) (hT : lineEnd T) (hY : noEnd Y) (hs : skipL Y = Y.length) (h : t.data.toList = p ++ (Y ++ T)) (hne : Y ++ T ≠ []) (st : List Int) (n : Nat) (b : List Value) (I : Inv t ⟨p.length, st, n, b⟩) :
    runLines t (t.size - p.length) ⟨p.length, st, n, b⟩ = runLines t (t.size - (p ++ Y ++ T.take 1).length) ⟨(p ++ Y ++ T.take 1).length, st, n, b⟩ ∧ Inv t ⟨(p ++ Y ++ T.take 1).length, st, n, b⟩ := by
  have hz := data_size h
  have hlt : p.length < t.size := by
    have : 0 < (Y ++ T).length := List.length_pos_iff.mpr hne
    rw [List.length_append] at hz
    omega
  have e := after_list t T (p ++ Y) hT (by simpa using h)
  rw [@List.length_append _ p] at e
  have hl := lineStep_list t T Y p hT hY h st n b
  rw [if_pos hs, e] at hl
  exact ⟨runLines_go I hlt hl, (lineStep_inv I hlt hl).1⟩

/-- Something put in at a line's end, lines ahead of it. -/
theorem ins_run (s t : ByteArray) (B x : List UInt8)
    (last : ∀ (L pre pre' : List UInt8) (st : List Int) (n : Nat) (a b : List Value), noEnd L → s.data.toList = pre ++ (L ++ B) → t.data.toList = pre' ++ (L ++ x ++ B) → Inv s ⟨pre.length, st, n, a⟩ → Inv t ⟨pre'.length, st, n, b⟩ → Alike a b →
      SameRun (runLines s (s.size - pre.length) ⟨pre.length, st, n, a⟩) (runLines t (t.size - pre'.length) ⟨pre'.length, st, n, b⟩)) :
    ∀ (N : Nat) (A pre pre' : List UInt8) (st : List Int) (n : Nat) (a b : List Value), A.length ≤ N → s.data.toList = pre ++ (A ++ B) → t.data.toList = pre' ++ (A ++ x ++ B) → Inv s ⟨pre.length, st, n, a⟩ → Inv t ⟨pre'.length, st, n, b⟩ → Alike a b →
      SameRun (runLines s (s.size - pre.length) ⟨pre.length, st, n, a⟩) (runLines t (t.size - pre'.length) ⟨pre'.length, st, n, b⟩)
  | N, A, pre, pre', st, n, a, b, hN, h, h', I, I', hA => by
    obtain ⟨L, S, e, hL, hS⟩ := split_line A
    subst e
    rcases hS with rfl | ⟨A2, rfl⟩
    · simp only [List.append_nil] at h h'
      exact last L pre pre' st n a b hL h h' I I' hA
    · have hz := data_size h
      have hz' := data_size h'
      simp at hz hz'
      have h1 : s.data.toList = pre ++ (L ++ (10 :: (A2 ++ B))) := by rw [h]; simp
      have h2 : t.data.toList = pre' ++ ((L ++ []) ++ (10 :: (A2 ++ x ++ B))) := by rw [h']; simp
      have hlt : pre.length < s.size := by omega
      have hlt' : pre'.length < t.size := by omega
      rcases line_same s t _ _ L [] pre pre' (.inr ⟨_, rfl⟩) (.inr ⟨_, rfl⟩) hL gap_nil h1 h2 st n hA with ⟨x, y, e1, e2⟩ | ⟨st', n', a', b', e1, e2, hA'⟩
      · rw [runLines_err hlt e1, runLines_err hlt' e2]
        trivial
      · rw [runLines_go I hlt e1, runLines_go I' hlt' e2]
        have I1 := (lineStep_inv I hlt e1).1
        have I2 := (lineStep_inv I' hlt' e2).1
        cases N with
        | zero => simp at hN
        | succ N =>
          refine ins_run s t B x last N A2 _ _ st' n' a' b' ?_ ?_ ?_ I1 I2 hA'
          · simp at hN; omega
          · rw [h1]; simp
          · rw [h2]; simp

/-- At the line itself: blanks, a comment. -/
theorem last_gap (s t : ByteArray) (B X : List UInt8) (hB : lineEnd B) (hX : Gap X) (hne : X ≠ []) (L pre pre' : List UInt8) (st : List Int) (n : Nat) (a b : List Value) (hL : noEnd L) (h : s.data.toList = pre ++ (L ++ B)) (h' : t.data.toList = pre' ++ (L ++ X ++ B)) (I : Inv s ⟨pre.length, st, n, a⟩) (I' : Inv t ⟨pre'.length, st, n, b⟩) (hA : Alike a b) :
    SameRun (runLines s (s.size - pre.length) ⟨pre.length, st, n, a⟩) (runLines t (t.size - pre'.length) ⟨pre'.length, st, n, b⟩) := by
  have hz := data_size h
  have hz' := data_size h'
  simp at hz hz'
  by_cases he : L = [] ∧ B = []
  · obtain ⟨rfl, rfl⟩ := he
    have hb := blank_run t [] X pre' (.inl rfl) hX.noEnd hX.skip (by simpa using h') (by simpa using hne) st n b I'
    rw [hb.1, run_end s _ _ _ _ (by simp at hz ⊢; omega), run_end t _ _ _ _ (by simp at hz' ⊢; omega)]
    exact ⟨rfl, rfl, hA⟩
  · have hpos : 0 < L.length + B.length := by
      rcases Nat.eq_zero_or_pos (L.length + B.length) with h0 | h0
      · exact absurd ⟨List.length_eq_zero_iff.mp (by omega), List.length_eq_zero_iff.mp (by omega)⟩ he
      · exact h0
    have hlt : pre.length < s.size := by omega
    have hlt' : pre'.length < t.size := by omega
    rcases line_same s t B B L X pre pre' hB hB hL hX h h' st n hA with ⟨x, y, e1, e2⟩ | ⟨st', n', a', b', e1, e2, hA'⟩
    · rw [runLines_err hlt e1, runLines_err hlt' e2]
      trivial
    · rw [runLines_go I hlt e1, runLines_go I' hlt' e2]
      have I1 := (lineStep_inv I hlt e1).1
      have I2 := (lineStep_inv I' hlt' e2).1
      refine same_run s t (B.drop 1).length (B.drop 1) _ _ st' n' a' b' (Nat.le_refl _) ?_ ?_ I1 I2 hA'
      · rw [h]
        simp only [List.append_assoc, List.take_append_drop]
      · rw [h']
        simp only [List.append_assoc, List.take_append_drop]

/-- At the line itself: its end, and lines without tokens. -/
theorem last_lines (s t : ByteArray) (B Z : List UInt8) (hB : lineEnd B)
    (hZ : ∀ (p : List UInt8) (st : List Int) (n : Nat) (b : List Value), t.data.toList = p ++ (Z ++ B) → Inv t ⟨p.length, st, n, b⟩ →
      runLines t (t.size - p.length) ⟨p.length, st, n, b⟩ = runLines t (t.size - (p ++ Z ++ B.take 1).length) ⟨(p ++ Z ++ B.take 1).length, st, n, b⟩ ∧ Inv t ⟨(p ++ Z ++ B.take 1).length, st, n, b⟩)
    (L pre pre' : List UInt8) (st : List Int) (n : Nat) (a b : List Value) (hL : noEnd L) (h : s.data.toList = pre ++ (L ++ B)) (h' : t.data.toList = pre' ++ (L ++ (10 :: Z) ++ B)) (I : Inv s ⟨pre.length, st, n, a⟩) (I' : Inv t ⟨pre'.length, st, n, b⟩) (hA : Alike a b) :
    SameRun (runLines s (s.size - pre.length) ⟨pre.length, st, n, a⟩) (runLines t (t.size - pre'.length) ⟨pre'.length, st, n, b⟩) := by
  have hz := data_size h
  have hz' := data_size h'
  simp at hz hz'
  by_cases he : L = [] ∧ B = []
  · obtain ⟨rfl, rfl⟩ := he
    have hb := blank_run t (10 :: Z) [] pre' (.inr ⟨_, rfl⟩) gap_nil.noEnd rfl (by simpa using h') (by simp) st n b I'
    have hc := hZ (pre' ++ [] ++ List.take 1 (10 :: Z)) st n b (by rw [h']; simp) hb.2
    rw [hb.1, hc.1, run_end s _ _ _ _ (by simp at hz ⊢; omega), run_end t _ _ _ _ (by simp at hz' ⊢; omega)]
    exact ⟨rfl, rfl, hA⟩
  · have hpos : 0 < L.length + B.length := by
      rcases Nat.eq_zero_or_pos (L.length + B.length) with h0 | h0
      · exact absurd ⟨List.length_eq_zero_iff.mp (by omega), List.length_eq_zero_iff.mp (by omega)⟩ he
      · exact h0
    have hlt : pre.length < s.size := by omega
    have hlt' : pre'.length < t.size := by omega
    have h2 : t.data.toList = pre' ++ ((L ++ []) ++ (10 :: (Z ++ B))) := by rw [h']; simp
    rcases line_same s t B _ L [] pre pre' hB (.inr ⟨_, rfl⟩) hL gap_nil h h2 st n hA with ⟨x, y, e1, e2⟩ | ⟨st', n', a', b', e1, e2, hA'⟩
    · rw [runLines_err hlt e1, runLines_err hlt' e2]
      trivial
    · rw [runLines_go I hlt e1, runLines_go I' hlt' e2]
      have I1 := (lineStep_inv I hlt e1).1
      have I2 := (lineStep_inv I' hlt' e2).1
      have hc := hZ _ st' n' b' (by rw [h2]; simp) I2
      rw [hc.1]
      refine same_run s t (B.drop 1).length (B.drop 1) _ _ st' n' a' b' (Nat.le_refl _) ?_ ?_ I1 hc.2 hA'
      · rw [h]
        simp only [List.append_assoc, List.take_append_drop]
      · rw [h2, List.append_assoc _ (List.take 1 B), List.take_append_drop]
        simp

/-- A line without tokens, put in. -/
theorem lines_one (t : ByteArray) (B Z : List UInt8) (hB : lineEnd B) (hZ : noEnd Z) (hs : skipL Z = Z.length) (hne : Z ≠ []) (p : List UInt8) (st : List Int) (n : Nat) (b : List Value) (h : t.data.toList = p ++ (Z ++ B)) (I : Inv t ⟨p.length, st, n, b⟩) :
    runLines t (t.size - p.length) ⟨p.length, st, n, b⟩ = runLines t (t.size - (p ++ Z ++ B.take 1).length) ⟨(p ++ Z ++ B.take 1).length, st, n, b⟩ ∧ Inv t ⟨(p ++ Z ++ B.take 1).length, st, n, b⟩ :=
  blank_run t B Z p hB hZ hs h (by simp [hne]) st n b I
theorem lines_two (t : ByteArray) (B : List UInt8) (hB : lineEnd B) (p : List UInt8) (st : List Int) (n : Nat) (b : List Value) (h : t.data.toList = p ++ ([10] ++ B)) (I : Inv t ⟨p.length, st, n, b⟩) :
    runLines t (t.size - p.length) ⟨p.length, st, n, b⟩ = runLines t (t.size - (p ++ [10] ++ B.take 1).length) ⟨(p ++ [10] ++ B.take 1).length, st, n, b⟩ ∧ Inv t ⟨(p ++ [10] ++ B.take 1).length, st, n, b⟩ := by
  have h1 := blank_run t (10 :: B) [] p (.inr ⟨_, rfl⟩) gap_nil.noEnd rfl (by simpa using h) (by simp) st n b I
  have e : p ++ [] ++ List.take 1 (10 :: B) = p ++ [10] := by simp
  rw [e] at h1
  rcases hB with rfl | ⟨R, rfl⟩
  · simpa using h1
  · have h2 := blank_run t (10 :: R) [] (p ++ [10]) (.inr ⟨_, rfl⟩) gap_nil.noEnd rfl (by simpa using h) (by simp) st n b h1.2
    have e2 : p ++ [10] ++ [] ++ List.take 1 (10 :: R) = p ++ [10] ++ List.take 1 (10 :: R) := by simp
    rw [e2] at h2
    exact ⟨h1.1.trans h2.1, h2.2⟩

def SameLex (x y : Except Nat (Nat × List Value)) : Prop :=
  match x, y with
  | .ok a, .ok b => a.1 = b.1 ∧ Alike a.2 b.2
  | .error _, .error _ => True
  | _, _ => False

theorem same_lex {s t : ByteArray} (h : SameRun (runLines s (s.size - ([] : List UInt8).length) ⟨([] : List UInt8).length, [0], 0, []⟩) (runLines t (t.size - ([] : List UInt8).length) ⟨([] : List UInt8).length, [0], 0, []⟩)) : SameLex (lexP s) (lexP t) := by
  simp only [List.length_nil, Nat.sub_zero] at h
  unfold lexP
  cases h1 : runLines s s.size ⟨0, [0], 0, []⟩ with
  | error e =>
    cases h2 : runLines t t.size ⟨0, [0], 0, []⟩ with
    | error e' => trivial
    | ok b => rw [h1, h2] at h; exact h.elim
  | ok a =>
    cases h2 : runLines t t.size ⟨0, [0], 0, []⟩ with
    | error e' => rw [h1, h2] at h; exact h.elim
    | ok b =>
      rw [h1, h2] at h
      obtain ⟨e1, e2, hA⟩ := h
      simp only
      rw [← e1, ← e2]
      rcases settle_alike a.st 0 a.at_ b.at_ a.n hA with ⟨g1, g2⟩ | ⟨st', n', a', b', g1, g2, hA'⟩
      · rw [g1, g2]
        trivial
      · rw [g1, g2]
        exact ⟨rfl, hA'.tok _ _ _ _⟩

/-- What LexBlanks puts in. -/
def moreAt (k : Nat) : List UInt8 := ([[32, 32], [32, 35, 32, 97, 32, 99, 111, 109, 109, 101, 110, 116], [10, 32, 32, 32], [10, 35, 32, 34], [10, 10]] : List (List UInt8)).getD k []

theorem gap_comment : Gap [32, 35, 32, 97, 32, 99, 111, 109, 109, 101, 110, 116] := ⟨by decide, by unfold halts; decide, by unfold harmless; decide, by unfold Go.Proofs.YtpidanllncneaaaGreatDoor.noEnd; decide⟩

theorem lexP_blanks (s t : ByteArray) (A B : List UInt8) (k : Nat) (hk : k < 5) (hB : lineEnd B) (h : s.data.toList = A ++ B) (h' : t.data.toList = A ++ moreAt k ++ B) : SameLex (lexP s) (lexP t) := by
  apply same_lex
  refine ins_run s t B (moreAt k) ?_ A.length A [] [] [0] 0 [] [] (Nat.le_refl _) (by simpa using h) (by simpa using h') (inv0 s) (inv0 t) .nil
  rcases k with _ | _ | _ | _ | _ | k
  · exact last_gap s t B _ hB gap_blanks (by decide)
  · exact last_gap s t B _ hB gap_comment (by decide)
  · exact last_lines s t B [32, 32, 32] hB (lines_one t B _ hB (by unfold noEnd; decide) (by decide) (by decide))
  · exact last_lines s t B [35, 32, 34] hB (lines_one t B _ hB (by unfold noEnd; decide) (by decide) (by decide))
  · exact last_lines s t B [10] hB (lines_two t B hB)
  · omega
end Go.Proofs.YtpidanllncneaaaGreatDoor

/- Package lex: tokens lie one behind the other, and each dedent has its indent. -/
namespace Go.Proofs.YtpidanllncneaaaGreatDoor
open Go.RowKit

def kDedent : ByteArray := ⟨#[100, 101, 100, 101, 110, 116]⟩
def indB (k : ByteArray) : Bool := k.toList == [105, 110, 100, 101, 110, 116]
def dedB (k : ByteArray) : Bool := k.toList == [100, 101, 100, 101, 110, 116]
theorem ind_ded {k : ByteArray} (h : indB k = true) : dedB k = false := by
  unfold indB at h
  unfold dedB
  rw [beq_iff_eq] at h
  rw [h]
  decide

/-- How deep tokens lead, from d on; none: a dedent has no indent. -/
def depthFrom : Nat → List (ByteArray × ByteArray × Nat) → Option Nat
  | d, [] => some d
  | d, x :: l => if indB x.1 then depthFrom (d + 1) l else if dedB x.1 then (if d = 0 then none else depthFrom (d - 1) l) else depthFrom d l

theorem depthFrom_append : ∀ (l m : List (ByteArray × ByteArray × Nat)) (d e : Nat), depthFrom d l = some e → depthFrom d (l ++ m) = depthFrom e m
  | [], m, d, e, h => by simp [depthFrom] at h; subst h; rfl
  | x :: l, m, d, e, h => by
    simp only [List.cons_append, depthFrom] at h ⊢
    split
    · rename_i h1
      rw [if_pos h1] at h
      exact depthFrom_append l m _ e h
    · rename_i h1
      rw [if_neg h1] at h
      split
      · rename_i h2
        rw [if_pos h2] at h
        split
        · rename_i h3; rw [if_pos h3] at h; cases h
        · rename_i h3; rw [if_neg h3] at h; exact depthFrom_append l m _ e h
      · rename_i h2
        rw [if_neg h2] at h
        exact depthFrom_append l m _ e h
theorem depthFrom_plain : ∀ (l : List (ByteArray × ByteArray × Nat)) (d : Nat), (∀ x ∈ l, indB x.1 = false ∧ dedB x.1 = false) → depthFrom d l = some d
  | [], d, _ => rfl
  | x :: l, d, h => by
    have h1 := h x (by simp)
    simp only [depthFrom, h1.1, h1.2, Bool.false_eq_true, if_false]
    exact depthFrom_plain l d (fun y hy => h y (by simp [hy]))

/-- Tokens up to the place e, d deep. -/
structure Fine (l : List (ByteArray × ByteArray × Nat)) (d e : Nat) : Prop where
  mono : l.Pairwise fun x y => x.2.2 ≤ y.2.2
  le : ∀ x ∈ l, x.2.2 ≤ e
  short : ∀ x ∈ l, x.2.1.size ≤ e
  deep : depthFrom 0 l = some d

theorem Fine.append {l m : List (ByteArray × ByteArray × Nat)} {d e d' e' : Nat} (h : Fine l d e) (h1 : m.Pairwise fun x y => x.2.2 ≤ y.2.2) (h2 : ∀ x ∈ m, e ≤ x.2.2 ∧ x.2.2 ≤ e') (he : e ≤ e') (h4 : ∀ x ∈ m, x.2.1.size ≤ e') (h3 : depthFrom d m = some d') : Fine (l ++ m) d' e' where
  mono := List.pairwise_append.mpr ⟨h.mono, h1, fun x hx y hy => Nat.le_trans (h.le x hx) (h2 y hy).1⟩
  le := fun x hx => by
    simp at hx
    rcases hx with hx | hx
    · exact Nat.le_trans (h.le x hx) he
    · exact (h2 x hx).2
  short := fun x hx => by
    simp at hx
    rcases hx with hx | hx
    · exact Nat.le_trans (h.short x hx) he
    · exact h4 x hx
  deep := (depthFrom_append l m 0 d h.deep).trans h3
theorem Fine.up {l : List (ByteArray × ByteArray × Nat)} {d e e' : Nat} (h : Fine l d e) (he : e ≤ e') : Fine l d e' := ⟨h.mono, fun x hx => Nat.le_trans (h.le x hx) he, fun x hx => Nat.le_trans (h.short x hx) he, h.deep⟩

theorem cells_append (l m : List (ByteArray × ByteArray × Nat)) : cellsOf (l ++ m) = cellsOf l ++ cellsOf m := by simp [cellsOf]

def dedentsL (i k : Nat) : List (ByteArray × ByteArray × Nat) := List.replicate k (kDedent, ⟨#[]⟩, i)
theorem dedents_cells (i : Nat) : ∀ k, dedents i k = cellsOf (dedentsL i k)
  | 0 => rfl
  | k + 1 => by
    simp only [dedents, dedents_cells i k, dedentsL, List.replicate_succ', cells_append]
    simp [cellsOf, kDedent]
theorem ded_ded : indB kDedent = false ∧ dedB kDedent = true := ⟨by kernel_rfl, by kernel_rfl⟩
theorem ind_ind : indB kIndent = true := by kernel_rfl
theorem plain_newline : indB kNewline = false ∧ dedB kNewline = false := ⟨by kernel_rfl, by kernel_rfl⟩
theorem plain_end : indB kEnd = false ∧ dedB kEnd = false := ⟨by kernel_rfl, by kernel_rfl⟩
theorem plain_kinds (k : ByteArray) (h : k = kWord ∨ k = kName ∨ k = kInt ∨ k = kStr ∨ k = kOp) : indB k = false ∧ dedB k = false := by
  rcases h with rfl | rfl | rfl | rfl | rfl <;> exact ⟨by kernel_rfl, by kernel_rfl⟩
theorem dedents_deep (i : Nat) : ∀ k d, k ≤ d → depthFrom d (dedentsL i k) = some (d - k)
  | 0, d, _ => rfl
  | k + 1, d, h => by
    have ih := dedents_deep i k (d - 1) (by omega)
    simp only [dedentsL, List.replicate_succ, depthFrom, ded_ded.1, ded_ded.2, Bool.false_eq_true, if_false, if_true] at ih ⊢
    rw [if_neg (by omega), ih]
    congr 1
    omega

theorem tokL_kind {L : List UInt8} {k t : ByteArray} {m : Nat} (h : tokL L = some (k, t, m)) : k = kWord ∨ k = kName ∨ k = kInt ∨ k = kStr ∨ k = kOp := by
  cases L with
  | nil => simp [tokL] at h
  | cons c L =>
    have hr : tokL (c :: L) = if smallB (c.toNat : Int) || capitalB (c.toNat : Int) then (nameL c L).map fun x => (if x.1 then kWord else kName, x.2.1, x.2.2)
      else if digitB (c.toNat : Int) then (intL c L).map fun x => (kInt, x.1, x.2)
      else if (c.toNat : Int) == 34 then (strL (L.length + 1) L []).map fun x => (kStr, strOfNums x.1, x.2 + 1)
      else (opL (c :: L) 21 0).map fun x => (kOp, x.1, x.2) := rfl
    rw [hr] at h
    split at h
    · simp only [Option.map_eq_some_iff] at h
      obtain ⟨z, hz, he⟩ := h
      simp only [Prod.mk.injEq] at he
      rw [← he.1]
      split
      · exact .inl rfl
      · exact .inr (.inl rfl)
    · split at h
      · simp only [Option.map_eq_some_iff, Prod.mk.injEq] at h
        obtain ⟨z, hz, he, _⟩ := h
        exact .inr (.inr (.inl he.symm))
      · split at h
        · simp only [Option.map_eq_some_iff, Prod.mk.injEq] at h
          obtain ⟨z, hz, he, _⟩ := h
          exact .inr (.inr (.inr (.inl he.symm)))
        · simp only [Option.map_eq_some_iff, Prod.mk.injEq] at h
          obtain ⟨z, hz, he, _⟩ := h
          exact .inr (.inr (.inr (.inr he.symm)))

theorem nums_size (l : List Int) : (strOfNums l).size = l.length := by simp [strOfNums, ByteArray.size]
theorem take_size (l : List UInt8) (m : Nat) : (⟨(l.take m).toArray⟩ : ByteArray).size ≤ m := by
  simp [ByteArray.size]
  omega
theorem strL_size : ∀ (n : Nat) (L : List UInt8) (acc : List Int) (x : List Int × Nat), strL n L acc = some x → x.1.length ≤ acc.length + x.2
  | 0, _, _, _, h => by simp [strL] at h
  | n + 1, [], _, _, h => by simp [strL] at h
  | n + 1, c :: L, acc, x, h => by
    unfold strL at h
    split at h
    · simp at h; subst h; simp
    · split at h
      · cases h
      · split at h
        · cases h
        · split at h
          · cases he : escL L with
            | none => rw [he] at h; cases h
            | some y =>
              obtain ⟨v, k⟩ := y
              rw [he] at h
              simp only [Option.map_eq_some_iff] at h
              obtain ⟨z, hz, rfl⟩ := h
              have := strL_size n (L.drop k) _ z hz
              simp at this ⊢
              omega
          · simp only [Option.map_eq_some_iff] at h
            obtain ⟨z, hz, rfl⟩ := h
            have := strL_size n L _ z hz
            simp at this ⊢
            omega
theorem opL_size (L : List UInt8) : ∀ (n k : Nat) (x : ByteArray × Nat), opL L n k = some x → x.1.size = x.2
  | 0, _, _, h => by simp [opL] at h
  | n + 1, k, x, h => by
    unfold opL at h
    split at h
    · simp at h; subst h; rfl
    · exact opL_size L n (k + 1) x h
theorem tokL_size {L : List UInt8} {k t : ByteArray} {m : Nat} (h : tokL L = some (k, t, m)) : t.size ≤ m := by
  cases L with
  | nil => simp [tokL] at h
  | cons c L =>
    have hr : tokL (c :: L) = if smallB (c.toNat : Int) || capitalB (c.toNat : Int) then (nameL c L).map fun x => (if x.1 then kWord else kName, x.2.1, x.2.2)
      else if digitB (c.toNat : Int) then (intL c L).map fun x => (kInt, x.1, x.2)
      else if (c.toNat : Int) == 34 then (strL (L.length + 1) L []).map fun x => (kStr, strOfNums x.1, x.2 + 1)
      else (opL (c :: L) 21 0).map fun x => (kOp, x.1, x.2) := rfl
    rw [hr] at h
    split at h
    · simp only [Option.map_eq_some_iff, Prod.mk.injEq] at h
      obtain ⟨z, hz, _, rfl, rfl⟩ := h
      unfold nameL at hz
      simp only at hz
      split at hz
      · simp at hz; subst hz; exact take_size _ _
      · split at hz
        · cases hz
        · split at hz
          · cases hz
          · simp at hz; subst hz; exact take_size _ _
    · split at h
      · simp only [Option.map_eq_some_iff, Prod.mk.injEq] at h
        obtain ⟨z, hz, _, rfl, rfl⟩ := h
        unfold intL at hz
        simp only at hz
        split at hz
        · cases hz
        · split at hz
          · simp at hz; subst hz; exact take_size _ _
          · cases hz
      · split at h
        · simp only [Option.map_eq_some_iff, Prod.mk.injEq] at h
          obtain ⟨z, hz, _, rfl, rfl⟩ := h
          have := strL_size _ _ _ z hz
          rw [nums_size]
          simp at this ⊢
          omega
        · simp only [Option.map_eq_some_iff, Prod.mk.injEq] at h
          obtain ⟨z, hz, _, rfl, rfl⟩ := h
          have := opL_size _ _ _ z hz
          omega

theorem restL_fine : ∀ (f : Nat) (L : List UInt8) (o : Nat) (l : List (ByteArray × ByteArray × Nat)), restL f L o = .ok l → (l.Pairwise fun x y => x.2.2 ≤ y.2.2) ∧ (∀ x ∈ l, o + skipL L ≤ x.2.2 ∧ x.2.2 ≤ o + L.length) ∧ (∀ x ∈ l, indB x.1 = false ∧ dedB x.1 = false) ∧ ∀ x ∈ l, x.2.1.size ≤ o + L.length
  | 0, _, _, _, h => by cases h
  | f + 1, L, o, l, h => by
    have hle := skipL_le L
    unfold restL at h
    split at h
    · simp only [Except.ok.injEq] at h
      subst h
      refine ⟨List.Pairwise.nil, fun x hx => by simp at hx, fun x hx => by simp at hx, fun x hx => by simp at hx⟩
    · cases hk : tokL (L.drop (skipL L)) with
      | none => rw [hk] at h; cases h
      | some y =>
        obtain ⟨k, t, m⟩ := y
        rw [hk] at h
        have hm := tokL_bd hk
        simp at hm
        simp only at h
        cases hr : restL f (L.drop (skipL L + m)) (o + (skipL L + m)) with
        | error e => rw [hr] at h; cases h
        | ok l' =>
          rw [hr] at h
          simp only [Except.ok.injEq] at h
          subst h
          obtain ⟨i1, i2, i3, i4⟩ := restL_fine f _ _ l' hr
          refine ⟨List.pairwise_cons.mpr ⟨fun y hy => ?_, i1⟩, fun x hx => ?_, fun x hx => ?_, fun x hx => ?_⟩
          · have := (i2 y hy).1
            simp only
            omega
          · simp at hx
            rcases hx with rfl | hx
            · simp only; omega
            · have := i2 x hx
              simp at this
              omega
          · simp at hx
            rcases hx with rfl | hx
            · exact plain_kinds k (tokL_kind hk)
            · exact i3 x hx
          · simp at hx
            rcases hx with rfl | hx
            · have := tokL_size hk
              simp only
              omega
            · have := i4 x hx
              simp at this
              omega

theorem popTo_falls' (ind : Int) : ∀ st : List Int, falls st → falls (popTo ind st).2
  | [], _ => by simp [popTo, falls]
  | x :: xs, h => by
    unfold popTo
    split
    · exact popTo_falls' ind xs (falls_tail h)
    · exact h

/-- What an indentation does: indents and dedents, at its place. -/
theorem settle_fine {st st' : List Int} {ind : Int} {i n n' : Nat} {tk tk' : List Value} (h : settleP st ind i n tk = some (st', n', tk')) (hl : st.getLast? = some 0) (hf : falls st) :
    falls st' ∧ ∃ m, tk' = tk ++ cellsOf m ∧ n' = n + m.length ∧ (∀ x ∈ m, x.2.2 = i ∧ x.2.1.size = 0) ∧ depthFrom (st.length - 1) m = some (st'.length - 1) := by
  have hi := settleP_inv h hl
  unfold settleP at h
  cases st with
  | nil => cases h
  | cons x xs =>
    simp only at h
    split at h
    · rename_i hlt
      simp only [Option.some.injEq, Prod.mk.injEq] at h
      obtain ⟨rfl, rfl, rfl⟩ := h
      refine ⟨⟨hlt, hf⟩, [(kIndent, ⟨#[]⟩, i)], by simp [cellsOf], rfl, fun x hx => by simp at hx; rw [hx]; exact ⟨rfl, rfl⟩, ?_⟩
      simp only [depthFrom, ind_ind, if_true]
      simp
    · split at h
      · simp only [Option.some.injEq, Prod.mk.injEq] at h
        obtain ⟨rfl, rfl, rfl⟩ := h
        have hlen := popTo_len ind (x :: xs)
        have hne : (popTo ind (x :: xs)).2 ≠ [] := by
          intro e
          rw [e] at hi
          simp at hi
        have hpos : 0 < (popTo ind (x :: xs)).2.length := List.length_pos_iff.mpr hne
        refine ⟨popTo_falls' ind _ hf, dedentsL i (popTo ind (x :: xs)).1, by rw [dedents_cells], by simp [dedentsL], fun y hy => by simp [dedentsL] at hy; rw [hy.2]; exact ⟨rfl, rfl⟩, ?_⟩
        rw [dedents_deep i _ _ (by omega)]
        congr 1
        omega
      · cases h

structure FineSt (σ : LexSt) : Prop where
  falls : falls σ.st
  ex : ∃ l, σ.tk = cellsOf l ∧ σ.n = l.length ∧ Fine l (σ.st.length - 1) σ.at_

theorem line_fine (s : ByteArray) (S L pre : List UInt8) (hS : lineEnd S) (hL : noEnd L) (h : s.data.toList = pre ++ (L ++ S)) {st : List Int} {n : Nat} {tk : List Value} (hl : st.getLast? = some 0) (hF : FineSt ⟨pre.length, st, n, tk⟩) {σ : LexSt} (hs : lineStep s ⟨pre.length, st, n, tk⟩ = .ok σ) : FineSt σ ∧ σ.at_ = (pre ++ L ++ S.take 1).length := by
  have e1 := after_list s S (pre ++ L) hS (by simpa using h)
  rw [@List.length_append _ pre] at e1
  have hle := skipL_le L
  have hat : pre.length + L.length ≤ (pre ++ L ++ S.take 1).length := by simp
  rw [lineStep_list s S L pre hS hL h] at hs
  obtain ⟨l, h1, h2, h3⟩ := hF.ex
  simp only at h1 h2 h3
  split at hs
  · simp only [Except.ok.injEq] at hs
    subst hs
    exact ⟨⟨hF.falls, l, h1, h2, h3.up (by simp only; omega)⟩, e1⟩
  · cases hst : settleP st (blanksL L : Nat) (pre.length + skipL L) n tk with
    | none => rw [hst] at hs; cases hs
    | some x =>
      obtain ⟨st', n', tk'⟩ := x
      rw [hst] at hs
      simp only at hs
      obtain ⟨g1, m, rfl, rfl, g4, g5⟩ := settle_fine hst hl hF.falls
      cases hr : restL (L.length + 1) L pre.length with
      | error e => rw [hr] at hs; cases hs
      | ok r =>
        rw [hr] at hs
        simp only [Except.ok.injEq] at hs
        subst hs
        obtain ⟨i1, i2, i3, i4⟩ := restL_fine _ _ _ r hr
        refine ⟨⟨g1, l ++ m ++ r ++ [(kNewline, ⟨#[]⟩, pre.length + L.length)], ?_, ?_, ?_⟩, e1⟩
        · simp only [h1, cells_append]
          simp [cellsOf]
        · simp only [h2]
          simp
          omega
        · have f1 : Fine (l ++ m) (st'.length - 1) (pre.length + skipL L) := h3.append (m := m) (List.pairwise_of_forall_mem_list fun x hx y hy => by rw [(g4 x hx).1, (g4 y hy).1]; exact Nat.le_refl _) (fun x hx => by rw [(g4 x hx).1]; omega) (by omega) (fun x hx => by rw [(g4 x hx).2]; omega) g5
          have f2 : Fine (l ++ m ++ r) (st'.length - 1) (pre.length + L.length) := f1.append i1 (fun x hx => i2 x hx) (by omega) i4 (depthFrom_plain r _ i3)
          have f3 := f2.append (m := [(kNewline, ⟨#[]⟩, pre.length + L.length)]) (e' := (pre ++ L ++ S.take 1).length) (by simp) (fun x hx => by simp only [List.mem_singleton] at hx; subst hx; exact ⟨Nat.le_refl _, hat⟩) hat (fun x hx => by simp only [List.mem_singleton] at hx; subst hx; exact Nat.zero_le _) (depthFrom_plain _ _ (fun x hx => by simp only [List.mem_singleton] at hx; subst hx; exact plain_newline))
          rw [e1]
          exact f3

theorem run_fine (s : ByteArray) : ∀ (N : Nat) (R pre : List UInt8) (st : List Int) (n : Nat) (tk : List Value), R.length ≤ N → s.data.toList = pre ++ R → Inv s ⟨pre.length, st, n, tk⟩ → FineSt ⟨pre.length, st, n, tk⟩ → ∀ σ, runLines s (s.size - pre.length) ⟨pre.length, st, n, tk⟩ = .ok σ → FineSt σ ∧ σ.st.getLast? = some 0 ∧ σ.at_ ≤ s.size
  | N, [], pre, st, n, tk, _, h, I, hF, σ, hr => by
    have hz := data_size h
    rw [run_end s _ _ _ _ (by simp at hz ⊢; omega)] at hr
    simp only [Except.ok.injEq] at hr
    subst hr
    exact ⟨hF, I.last, I.hat⟩
  | 0, c :: R, _, _, _, _, hN, _, _, _, _, _ => by simp at hN
  | N + 1, c :: R, pre, st, n, tk, hN, h, I, hF, σ, hr => by
    have hz := data_size h
    simp at hz
    obtain ⟨L, S, e, hL, hS⟩ := split_line (c :: R)
    have h1 : s.data.toList = pre ++ (L ++ S) := by rw [h, e]
    have hlt : pre.length < s.size := by omega
    cases hs : lineStep s ⟨pre.length, st, n, tk⟩ with
    | error x => rw [runLines_err hlt hs] at hr; cases hr
    | ok τ =>
      rw [runLines_go I hlt hs] at hr
      have I1 := (lineStep_inv I hlt hs).1
      obtain ⟨hF1, hat⟩ := line_fine s S L pre hS hL h1 I.last hF hs
      have hlen := congrArg List.length e
      simp at hlen
      obtain ⟨at1, st1, n1, tk1⟩ := τ
      simp only at hat
      subst hat
      refine run_fine s N (S.drop 1) _ st1 n1 tk1 ?_ ?_ I1 hF1 σ hr
      · simp at hN ⊢
        cases S with
        | nil => simp
        | cons d S => simp at hlen ⊢; omega
      · rw [h1]
        simp only [List.append_assoc, List.take_append_drop]

theorem falls_one : ∀ st : List Int, falls st → st.head? = some 0 → st.getLast? = some 0 → st.length = 1
  | [], _, h, _ => by simp at h
  | [x], _, _, _ => rfl
  | x :: y :: r, hf, h, hl => by
    exfalso
    simp at h
    subst h
    have hg : (y :: r)[(y :: r).length - 1]? = some 0 := by
      rw [← List.getLast?_eq_getElem?]
      simpa using hl
    have := falls_lt (y :: r) 0 _ 0 hf hg
    omega

/-- What Lex comes to: tokens one behind the other, each dedent with its indent. -/
theorem lexP_fine {s : ByteArray} {n : Nat} {tk : List Value} (h : lexP s = .ok (n, tk)) : ∃ l, tk = cellsOf l ∧ n = l.length ∧ (l.Pairwise fun x y => x.2.2 ≤ y.2.2) ∧ depthFrom 0 l = some 0 ∧ ∀ x ∈ l, x.2.1.size ≤ s.size := by
  unfold lexP at h
  cases hr : runLines s s.size ⟨0, [0], 0, []⟩ with
  | error e => rw [hr] at h; cases h
  | ok σ =>
    rw [hr] at h
    simp only at h
    have hr' : runLines s (s.size - ([] : List UInt8).length) ⟨([] : List UInt8).length, [0], 0, []⟩ = .ok σ := by simpa using hr
    obtain ⟨hF, hl, hsz⟩ := run_fine s s.size s.data.toList [] [0] 0 [] (by simp) (by simp) (inv0 s) ⟨trivial, [], rfl, rfl, ⟨List.Pairwise.nil, fun x hx => by simp at hx, fun x hx => by simp at hx, rfl⟩⟩ σ hr'
    cases hst : settleP σ.st 0 σ.at_ σ.n σ.tk with
    | none => rw [hst] at h; cases h
    | some x =>
      obtain ⟨st', n', tk'⟩ := x
      rw [hst] at h
      simp only [Except.ok.injEq, Prod.mk.injEq] at h
      obtain ⟨g1, m, rfl, rfl, g4, g5⟩ := settle_fine hst hl hF.falls
      obtain ⟨l, h1, h2, h3⟩ := hF.ex
      have hi := settleP_inv hst hl
      have hd : st'.head? = some 0 := by
        unfold settleP at hst
        cases hσ : σ.st with
        | nil => rw [hσ] at hst; cases hst
        | cons x xs =>
          rw [hσ] at hst
          simp only at hst
          split at hst
          · rename_i hlt
            exfalso
            have hgl : (x :: xs)[(x :: xs).length - 1]? = some 0 := by rw [← List.getLast?_eq_getElem?, ← hσ]; exact hl
            have hff := hF.falls
            rw [hσ] at hff
            cases xs with
            | nil => simp at hgl; omega
            | cons y r =>
              have := falls_lt (y :: r) x ((y :: r).length - 1) 0 hff (by simpa using hgl)
              omega
          · split at hst
            · rename_i hh
              simp only [Option.some.injEq, Prod.mk.injEq] at hst
              rw [← hst.1]
              exact hh
            · cases hst
      have hone := falls_one st' g1 hd hi.1
      rw [hone] at g5
      have f1 : Fine (l ++ m) 0 σ.at_ := h3.append (m := m) (List.pairwise_of_forall_mem_list fun x hx y hy => by rw [(g4 x hx).1, (g4 y hy).1]; exact Nat.le_refl _) (fun x hx => by rw [(g4 x hx).1]; omega) (Nat.le_refl _) (fun x hx => by rw [(g4 x hx).2]; omega) g5
      have f2 := f1.append (m := [(kEnd, ⟨#[]⟩, σ.at_)]) (e' := σ.at_) (by simp) (fun x hx => by simp only [List.mem_singleton] at hx; subst hx; exact ⟨Nat.le_refl _, Nat.le_refl _⟩) (Nat.le_refl _) (fun x hx => by simp only [List.mem_singleton] at hx; subst hx; exact Nat.zero_le _) (depthFrom_plain _ _ (fun x hx => by simp only [List.mem_singleton] at hx; subst hx; exact plain_end))
      refine ⟨l ++ m ++ [(kEnd, ⟨#[]⟩, σ.at_)], ?_, ?_, f2.mono, f2.deep, fun x hx => Nat.le_trans (f2.short x hx) hsz⟩
      · rw [← h.2, h1]
        simp [cellsOf]
      · rw [← h.1, h2]
        simp
        omega
end Go.Proofs.YtpidanllncneaaaGreatDoor

/- Package lex: what Lex tells, as cells; once and for all. -/
namespace Go.Proofs.YtpidanllncneaaaGreatDoor
open Go.RowKit

/-- What Lex has told: tokens, as cells of a row; or a fault. -/
def Told (s : ByteArray) (B : Nat) (v5 v6 : Value) (w : World) : Prop :=
  match lexP s with
  | .ok (n, tk) => ∃ g cap, v5 = .slice (some ⟨g, 0, none⟩) n cap ∧ v6 = .nilIface ∧ B ≤ g ∧ g < w.heap.size ∧ (∀ k v, tk[k]? = some v → w.cell? ⟨g, k, none⟩ = some v)
  | .error _ => v5 = .slice none 0 0 ∧ ∃ b, v6 = .iface 39 (.pointer (some ⟨b, 0, none⟩))

theorem Told.below {s : ByteArray} {B : Nat} {v5 v6 : Value} {w w' : World} (h : Told s B v5 v6 w) (hb : Below w.heap.size w w') : Told s B v5 v6 w' := by
  unfold Told at h ⊢
  cases hl : lexP s with
  | error e => rw [hl] at h; exact h
  | ok x =>
    obtain ⟨n, tk⟩ := x
    rw [hl] at h
    obtain ⟨g, cap, h1, h2, h3, h4, h5⟩ := h
    exact ⟨g, cap, h1, h2, h3, Nat.lt_of_lt_of_le h4 hb.size, fun k v hk => (hb.cell (p := ⟨g, k, none⟩) h4).trans (h5 k v hk)⟩

theorem lexP_pos {s : ByteArray} {n : Nat} {tk : List Value} (h : lexP s = .ok (n, tk)) : 0 < n := by
  obtain ⟨l, _, rfl, _, hd, _⟩ := lexP_fine h
  cases l with
  | nil =>
    exfalso
    unfold lexP at h
    split at h
    · cases h
    · split at h
      · cases h
      · simp at h
  | cons _ _ => simp
theorem cells_len : ∀ l : List (ByteArray × ByteArray × Nat), (cellsOf l).length = 3 * l.length
  | [] => rfl
  | x :: l => by
    have ih := cells_len l
    have e : cellsOf (x :: l) = tokCells x.1 x.2.1 x.2.2 ++ cellsOf l := rfl
    rw [e, List.length_append, ih]
    simp [tokCells]
    omega
theorem lexP_len {s : ByteArray} {n : Nat} {tk : List Value} (h : lexP s = .ok (n, tk)) : tk.length = 3 * n := by
  obtain ⟨l, rfl, rfl, _, _⟩ := lexP_fine h
  clear h
  exact cells_len l

/-- Lex, of a program that is not too long, once and for all. -/
theorem lex_told (s : ByteArray) (a0 a1 : Addr) (w : World) (E : LEnv w.heap.size a0 a1 w) (hs : s.size ≤ 6000) :
    Calls Tryz.prog 8 #[.string s] w fun ev w' => ∃ v5 v6, ev = .returned (.tuple #[v5, v6]) ∧ Told s w.heap.size v5 v6 w' ∧ Below w.heap.size w w' := by
  refine (lex_any s a0 a1 w E).mono ?_
  rintro ev w' ⟨hb, hx⟩
  rw [if_neg (by omega)] at hx
  unfold Told
  cases hl : lexP s with
  | error e =>
    rw [hl] at hx
    obtain ⟨b, rfl, _, _⟩ := hx
    exact ⟨_, _, rfl, ⟨rfl, b, rfl⟩, hb⟩
  | ok x =>
    obtain ⟨n, tk⟩ := x
    rw [hl] at hx
    obtain ⟨vt, rfl, ho⟩ := hx
    have hn := lexP_pos hl
    rcases ho.2 with ⟨_, h0⟩ | ⟨g, cap, cur, rfl, hB, hg, _, _, hsz, htk⟩
    · omega
    · refine ⟨_, _, rfl, ⟨g, cap, rfl, rfl, hB, lt_of_heap hg, fun k v hk => ?_⟩, hb⟩
      rw [cell_of_row w' g k cur 61 (0, 0) hg, ← Array.getElem?_toList]
      have hlt : k < tk.length := by
        rcases Nat.lt_or_ge k tk.length with h1 | h1
        · exact h1
        · rw [List.getElem?_eq_none h1] at hk; cases hk
      have e : (cur.toList.take (n * 3))[k]? = tk[k]? := by rw [htk]
      rw [List.getElem?_take, if_pos (by have := ho.1; omega)] at e
      rw [e]
      exact hk

theorem run_inv (s : ByteArray) : ∀ {f : Nat} {σ τ : LexSt}, Inv s σ → runLines s f σ = .ok τ → Inv s τ
  | 0, σ, τ, I, h => by simp [runLines] at h; subst h; exact I
  | f + 1, σ, τ, I, h => by
    unfold runLines at h
    split at h
    · rename_i hlt
      cases hs : lineStep s σ with
      | error e => rw [hs] at h; cases h
      | ok σ' =>
        rw [hs] at h
        exact run_inv s (lineStep_inv I hlt hs).1 h
    · simp at h; subst h; exact I
theorem lexP_bd {s : ByteArray} {n : Nat} {tk : List Value} (h : lexP s = .ok (n, tk)) : n ≤ 4 * s.size + 4 := by
  unfold lexP at h
  cases hr : runLines s s.size ⟨0, [0], 0, []⟩ with
  | error e => rw [hr] at h; cases h
  | ok σ =>
    rw [hr] at h
    simp only at h
    have hI := run_inv s (f := s.size) (inv0 s) hr
    cases hst : settleP σ.st 0 σ.at_ σ.n σ.tk with
    | none => rw [hst] at h; cases h
    | some x =>
      obtain ⟨st', n', tk'⟩ := x
      rw [hst] at h
      simp only [Except.ok.injEq, Prod.mk.injEq] at h
      have h1 := settleP_inv hst hI.last
      have h2 := hI.cnt
      have h3 := hI.hat
      omega

theorem cells_get : ∀ (l : List (ByteArray × ByteArray × Nat)) (j : Nat) (x : ByteArray × ByteArray × Nat), l[j]? = some x → (cellsOf l)[j * 3]? = some (.string x.1) ∧ (cellsOf l)[j * 3 + 1]? = some (.string x.2.1) ∧ (cellsOf l)[j * 3 + 2]? = some (.int .i64 x.2.2)
  | [], j, x, h => by simp at h
  | y :: l, 0, x, h => by
    simp at h
    subst h
    exact ⟨rfl, rfl, rfl⟩
  | y :: l, j + 1, x, h => by
    have ih := cells_get l j x (by simpa using h)
    have e : cellsOf (y :: l) = tokCells y.1 y.2.1 y.2.2 ++ cellsOf l := rfl
    have hl : (tokCells y.1 y.2.1 y.2.2).length = 3 := rfl
    rw [e, List.getElem?_append_right (by omega), List.getElem?_append_right (by omega), List.getElem?_append_right (by omega), hl]
    rw [show (j + 1) * 3 - 3 = j * 3 by omega, show (j + 1) * 3 + 1 - 3 = j * 3 + 1 by omega, show (j + 1) * 3 + 2 - 3 = j * 3 + 2 by omega]
    exact ih

end Go.Proofs.YtpidanllncneaaaGreatDoor
