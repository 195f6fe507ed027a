/- Package lex: what Lex comes to, with a blank, a comment or an empty line put in. -/
import Derived.Test.YtpflpbfnifpchaaGreatDoorLineL
namespace Go.Proofs.YtpflpbfnifpchaaGreatDoor
open Go.RowKit

def SameRun (x y : Except Nat LexSt) : Prop :=
  match x, y with
  | .ok a, .ok b => a.st = b.st ∧ a.n = b.n ∧ Alike a.tk b.tk
  | .error _, .error _ => True
  | _, _ => False

theorem after_list (s : ByteArray) (S p : List UInt8) (hS : lineEnd S) (h : s.data.toList = p ++ S) : afterLine s p.length = (p ++ S.take 1).length := by
  have hz := data_size h
  unfold afterLine
  rcases hS with rfl | ⟨R, rfl⟩
  · simp at hz
    rw [if_neg (by omega)]
    simp
  · simp at hz
    rw [if_pos (by omega)]
    simp

theorem run_end (s : ByteArray) (p : Nat) (st : List Int) (n : Nat) (a : List Value) (h : ¬ p < s.size) : runLines s (s.size - p) ⟨p, st, n, a⟩ = .ok ⟨p, st, n, a⟩ := runLines_end (s := s) (σ := ⟨p, st, n, a⟩) h

theorem line_same (s t : ByteArray) (S T L X pre pre' : List UInt8) (hS : lineEnd S) (hT : lineEnd T) (hL : noEnd L) (hX : Gap X) (h : s.data.toList = pre ++ (L ++ S)) (h' : t.data.toList = pre' ++ ((L ++ X) ++ T)) (st : List Int) (n : Nat) {a b : List Value} (hA : Alike a b) :
    (∃ e e', lineStep s ⟨pre.length, st, n, a⟩ = .error e ∧ lineStep t ⟨pre'.length, st, n, b⟩ = .error e') ∨
    ∃ st' n' a' b', lineStep s ⟨pre.length, st, n, a⟩ = .ok ⟨(pre ++ L ++ S.take 1).length, st', n', a'⟩ ∧ lineStep t ⟨pre'.length, st, n, b⟩ = .ok ⟨(pre' ++ (L ++ X) ++ T.take 1).length, st', n', b'⟩ ∧ Alike a' b' := by
  have hLX : noEnd (L ++ X) := fun c hc => by
    simp at hc
    rcases hc with hc | hc
    · exact hL c hc
    · exact hX.noEnd c hc
  have e1 := after_list s S (pre ++ L) hS (by simpa using h)
  have e2 := after_list t T (pre' ++ (L ++ X)) hT (by simpa using h')
  rw [@List.length_append _ pre] at e1
  rw [@List.length_append _ pre'] at e2
  rw [lineStep_list s S L pre hS hL h, lineStep_list t T (L ++ X) pre' hT hLX h', e1, e2]
  by_cases hc : skipL L = L.length
  · rw [if_pos hc, if_pos (skipL_all hX hc)]
    exact .inr ⟨_, _, _, _, rfl, rfl, hA⟩
  · have hle := skipL_le L
    have hp := skipL_part (X := X) hc
    rw [if_neg hc, if_neg (by rw [hp.1]; simp; omega), hp.1, hp.2]
    rcases settle_alike st (blanksL L : Nat) (pre.length + skipL L) (pre'.length + skipL L) n hA with ⟨h1, h2⟩ | ⟨st', n', a', b', h1, h2, hA'⟩
    · rw [h1, h2]
      exact .inl ⟨_, _, rfl, rfl⟩
    · rw [h1, h2]
      simp only
      have hr := restL_same hX (L.length + 1) ((L ++ X).length + 1) L pre.length pre'.length (by omega) (by omega)
      cases r1 : restL (L.length + 1) L pre.length with
      | error e =>
        cases r2 : restL ((L ++ X).length + 1) (L ++ X) pre'.length with
        | error e' => exact .inl ⟨_, _, rfl, rfl⟩
        | ok l' => rw [r1, r2] at hr; exact hr.elim
      | ok l =>
        cases r2 : restL ((L ++ X).length + 1) (L ++ X) pre'.length with
        | error e' => rw [r1, r2] at hr; exact hr.elim
        | ok l' =>
          rw [r1, r2] at hr
          have hl : l.length = l'.length := by simpa using congrArg List.length hr
          simp only [hl]
          exact .inr ⟨_, _, _, _, rfl, rfl, (Alike.cells l l' hr hA').tok _ _ _ _⟩

theorem split_line : ∀ R : List UInt8, ∃ L S, R = L ++ S ∧ noEnd L ∧ lineEnd S
  | [] => ⟨[], [], rfl, fun c hc => by simp at hc, .inl rfl⟩
  | c :: R => by
    by_cases hc : c = 10
    · exact ⟨[], c :: R, rfl, fun c hc => by simp at hc, .inr ⟨R, by rw [hc]⟩⟩
    · obtain ⟨L, S, rfl, hL, hS⟩ := split_line R
      exact ⟨c :: L, S, rfl, fun x hx => by
        simp at hx
        rcases hx with rfl | hx
        · exact hc
        · exact hL x hx, hS⟩

theorem same_run (s t : ByteArray) : ∀ (N : Nat) (R pre pre' : List UInt8) (st : List Int) (n : Nat) (a b : List Value), R.length ≤ N → s.data.toList = pre ++ R → t.data.toList = pre' ++ R → Inv s ⟨pre.length, st, n, a⟩ → Inv t ⟨pre'.length, st, n, b⟩ → Alike a b →
    SameRun (runLines s (s.size - pre.length) ⟨pre.length, st, n, a⟩) (runLines t (t.size - pre'.length) ⟨pre'.length, st, n, b⟩)
  | N, [], pre, pre', st, n, a, b, _, h, h', I, I', hA => by
    have hz := data_size h
    have hz' := data_size h'
    rw [runLines_end (s := s) (σ := ⟨pre.length, st, n, a⟩) (by simp at hz ⊢; omega), runLines_end (s := t) (σ := ⟨pre'.length, st, n, b⟩) (by simp at hz' ⊢; omega)]
    exact ⟨rfl, rfl, hA⟩
  | 0, c :: R, _, _, _, _, _, _, hN, _, _, _, _, _ => by simp at hN
  | N + 1, c :: R, pre, pre', st, n, a, b, hN, h, h', I, I', hA => by
    have hz := data_size h
    have hz' := data_size h'
    simp at hz hz'
    obtain ⟨L, S, e, hL, hS⟩ := split_line (c :: R)
    have h1 : s.data.toList = pre ++ (L ++ S) := by rw [h, e]
    have h2 : t.data.toList = pre' ++ ((L ++ []) ++ S) := by rw [h', e]; simp
    have hlt : pre.length < s.size := by omega
    have hlt' : pre'.length < t.size := by omega
    rcases line_same s t S S L [] pre pre' hS hS hL gap_nil h1 h2 st n hA with ⟨x, y, e1, e2⟩ | ⟨st', n', a', b', e1, e2, hA'⟩
    · rw [runLines_err hlt e1, runLines_err hlt' e2]
      trivial
    · rw [runLines_go I hlt e1, runLines_go I' hlt' e2]
      have I1 := (lineStep_inv I hlt e1).1
      have I2 := (lineStep_inv I' hlt' e2).1
      have hlen := congrArg List.length e
      simp at hlen
      refine same_run s t N (S.drop 1) _ _ st' n' a' b' ?_ ?_ ?_ I1 I2 hA'
      · simp at hN ⊢
        cases S with
        | nil => simp
        | cons d S => simp at hlen ⊢; omega
      · rw [h1]
        simp only [List.append_assoc, List.take_append_drop]
      · rw [h2]
        simp only [List.append_assoc, List.take_append_drop]

theorem blank_run (t : ByteArray) (T Y p : List UInt8) (hT : lineEnd T) (hY : noEnd Y) (hs : skipL Y = Y.length) (h : t.data.toList = p ++ (Y ++ T)) (hne : Y ++ T ≠ []) (st : List Int) (n : Nat) (b : List Value) (I : Inv t ⟨p.length, st, n, b⟩) :
    runLines t (t.size - p.length) ⟨p.length, st, n, b⟩ = runLines t (t.size - (p ++ Y ++ T.take 1).length) ⟨(p ++ Y ++ T.take 1).length, st, n, b⟩ ∧ Inv t ⟨(p ++ Y ++ T.take 1).length, st, n, b⟩ := by
  have hz := data_size h
  have hlt : p.length < t.size := by
    have : 0 < (Y ++ T).length := List.length_pos_iff.mpr hne
    rw [List.length_append] at hz
    omega
  have e := after_list t T (p ++ Y) hT (by simpa using h)
  rw [@List.length_append _ p] at e
  have hl := lineStep_list t T Y p hT hY h st n b
  rw [if_pos hs, e] at hl
  exact ⟨runLines_go I hlt hl, (lineStep_inv I hlt hl).1⟩

/-- Something put in at a line's end, lines ahead of it. -/
theorem ins_run (s t : ByteArray) (B x : List UInt8)
    (last : ∀ (L pre pre' : List UInt8) (st : List Int) (n : Nat) (a b : List Value), noEnd L → s.data.toList = pre ++ (L ++ B) → t.data.toList = pre' ++ (L ++ x ++ B) → Inv s ⟨pre.length, st, n, a⟩ → Inv t ⟨pre'.length, st, n, b⟩ → Alike a b →
      SameRun (runLines s (s.size - pre.length) ⟨pre.length, st, n, a⟩) (runLines t (t.size - pre'.length) ⟨pre'.length, st, n, b⟩)) :
    ∀ (N : Nat) (A pre pre' : List UInt8) (st : List Int) (n : Nat) (a b : List Value), A.length ≤ N → s.data.toList = pre ++ (A ++ B) → t.data.toList = pre' ++ (A ++ x ++ B) → Inv s ⟨pre.length, st, n, a⟩ → Inv t ⟨pre'.length, st, n, b⟩ → Alike a b →
      SameRun (runLines s (s.size - pre.length) ⟨pre.length, st, n, a⟩) (runLines t (t.size - pre'.length) ⟨pre'.length, st, n, b⟩)
  | N, A, pre, pre', st, n, a, b, hN, h, h', I, I', hA => by
    obtain ⟨L, S, e, hL, hS⟩ := split_line A
    subst e
    rcases hS with rfl | ⟨A2, rfl⟩
    · simp only [List.append_nil] at h h'
      exact last L pre pre' st n a b hL h h' I I' hA
    · have hz := data_size h
      have hz' := data_size h'
      simp at hz hz'
      have h1 : s.data.toList = pre ++ (L ++ (10 :: (A2 ++ B))) := by rw [h]; simp
      have h2 : t.data.toList = pre' ++ ((L ++ []) ++ (10 :: (A2 ++ x ++ B))) := by rw [h']; simp
      have hlt : pre.length < s.size := by omega
      have hlt' : pre'.length < t.size := by omega
      rcases line_same s t _ _ L [] pre pre' (.inr ⟨_, rfl⟩) (.inr ⟨_, rfl⟩) hL gap_nil h1 h2 st n hA with ⟨x, y, e1, e2⟩ | ⟨st', n', a', b', e1, e2, hA'⟩
      · rw [runLines_err hlt e1, runLines_err hlt' e2]
        trivial
      · rw [runLines_go I hlt e1, runLines_go I' hlt' e2]
        have I1 := (lineStep_inv I hlt e1).1
        have I2 := (lineStep_inv I' hlt' e2).1
        cases N with
        | zero => simp at hN
        | succ N =>
          refine ins_run s t B x last N A2 _ _ st' n' a' b' ?_ ?_ ?_ I1 I2 hA'
          · simp at hN; omega
          · rw [h1]; simp
          · rw [h2]; simp

/-- At the line itself: blanks, a comment. -/
theorem last_gap (s t : ByteArray) (B X : List UInt8) (hB : lineEnd B) (hX : Gap X) (hne : X ≠ []) (L pre pre' : List UInt8) (st : List Int) (n : Nat) (a b : List Value) (hL : noEnd L) (h : s.data.toList = pre ++ (L ++ B)) (h' : t.data.toList = pre' ++ (L ++ X ++ B)) (I : Inv s ⟨pre.length, st, n, a⟩) (I' : Inv t ⟨pre'.length, st, n, b⟩) (hA : Alike a b) :
    SameRun (runLines s (s.size - pre.length) ⟨pre.length, st, n, a⟩) (runLines t (t.size - pre'.length) ⟨pre'.length, st, n, b⟩) := by
  have hz := data_size h
  have hz' := data_size h'
  simp at hz hz'
  by_cases he : L = [] ∧ B = []
  · obtain ⟨rfl, rfl⟩ := he
    have hb := blank_run t [] X pre' (.inl rfl) hX.noEnd hX.skip (by simpa using h') (by simpa using hne) st n b I'
    rw [hb.1, run_end s _ _ _ _ (by simp at hz ⊢; omega), run_end t _ _ _ _ (by simp at hz' ⊢; omega)]
    exact ⟨rfl, rfl, hA⟩
  · have hpos : 0 < L.length + B.length := by
      rcases Nat.eq_zero_or_pos (L.length + B.length) with h0 | h0
      · exact absurd ⟨List.length_eq_zero_iff.mp (by omega), List.length_eq_zero_iff.mp (by omega)⟩ he
      · exact h0
    have hlt : pre.length < s.size := by omega
    have hlt' : pre'.length < t.size := by omega
    rcases line_same s t B B L X pre pre' hB hB hL hX h h' st n hA with ⟨x, y, e1, e2⟩ | ⟨st', n', a', b', e1, e2, hA'⟩
    · rw [runLines_err hlt e1, runLines_err hlt' e2]
      trivial
    · rw [runLines_go I hlt e1, runLines_go I' hlt' e2]
      have I1 := (lineStep_inv I hlt e1).1
      have I2 := (lineStep_inv I' hlt' e2).1
      refine same_run s t (B.drop 1).length (B.drop 1) _ _ st' n' a' b' (Nat.le_refl _) ?_ ?_ I1 I2 hA'
      · rw [h]
        simp only [List.append_assoc, List.take_append_drop]
      · rw [h']
        simp only [List.append_assoc, List.take_append_drop]

/-- At the line itself: its end, and lines without tokens. -/
theorem last_lines (s t : ByteArray) (B Z : List UInt8) (hB : lineEnd B)
    (hZ : ∀ (p : List UInt8) (st : List Int) (n : Nat) (b : List Value), t.data.toList = p ++ (Z ++ B) → Inv t ⟨p.length, st, n, b⟩ →
      runLines t (t.size - p.length) ⟨p.length, st, n, b⟩ = runLines t (t.size - (p ++ Z ++ B.take 1).length) ⟨(p ++ Z ++ B.take 1).length, st, n, b⟩ ∧ Inv t ⟨(p ++ Z ++ B.take 1).length, st, n, b⟩)
    (L pre pre' : List UInt8) (st : List Int) (n : Nat) (a b : List Value) (hL : noEnd L) (h : s.data.toList = pre ++ (L ++ B)) (h' : t.data.toList = pre' ++ (L ++ (10 :: Z) ++ B)) (I : Inv s ⟨pre.length, st, n, a⟩) (I' : Inv t ⟨pre'.length, st, n, b⟩) (hA : Alike a b) :
    SameRun (runLines s (s.size - pre.length) ⟨pre.length, st, n, a⟩) (runLines t (t.size - pre'.length) ⟨pre'.length, st, n, b⟩) := by
  have hz := data_size h
  have hz' := data_size h'
  simp at hz hz'
  by_cases he : L = [] ∧ B = []
  · obtain ⟨rfl, rfl⟩ := he
    have hb := blank_run t (10 :: Z) [] pre' (.inr ⟨_, rfl⟩) gap_nil.noEnd rfl (by simpa using h') (by simp) st n b I'
    have hc := hZ (pre' ++ [] ++ List.take 1 (10 :: Z)) st n b (by rw [h']; simp) hb.2
    rw [hb.1, hc.1, run_end s _ _ _ _ (by simp at hz ⊢; omega), run_end t _ _ _ _ (by simp at hz' ⊢; omega)]
    exact ⟨rfl, rfl, hA⟩
  · have hpos : 0 < L.length + B.length := by
      rcases Nat.eq_zero_or_pos (L.length + B.length) with h0 | h0
      · exact absurd ⟨List.length_eq_zero_iff.mp (by omega), List.length_eq_zero_iff.mp (by omega)⟩ he
      · exact h0
    have hlt : pre.length < s.size := by omega
    have hlt' : pre'.length < t.size := by omega
    have h2 : t.data.toList = pre' ++ ((L ++ []) ++ (10 :: (Z ++ B))) := by rw [h']; simp
    rcases line_same s t B _ L [] pre pre' hB (.inr ⟨_, rfl⟩) hL gap_nil h h2 st n hA with ⟨x, y, e1, e2⟩ | ⟨st', n', a', b', e1, e2, hA'⟩
    · rw [runLines_err hlt e1, runLines_err hlt' e2]
      trivial
    · rw [runLines_go I hlt e1, runLines_go I' hlt' e2]
      have I1 := (lineStep_inv I hlt e1).1
      have I2 := (lineStep_inv I' hlt' e2).1
      have hc := hZ _ st' n' b' (by rw [h2]; simp) I2
      rw [hc.1]
      refine same_run s t (B.drop 1).length (B.drop 1) _ _ st' n' a' b' (Nat.le_refl _) ?_ ?_ I1 hc.2 hA'
      · rw [h]
        simp only [List.append_assoc, List.take_append_drop]
      · rw [h2, List.append_assoc _ (List.take 1 B), List.take_append_drop]
        simp

/-- A line without tokens, put in. -/
theorem lines_one (t : ByteArray) (B Z : List UInt8) (hB : lineEnd B) (hZ : noEnd Z) (hs : skipL Z = Z.length) (hne : Z ≠ []) (p : List UInt8) (st : List Int) (n : Nat) (b : List Value) (h : t.data.toList = p ++ (Z ++ B)) (I : Inv t ⟨p.length, st, n, b⟩) :
    runLines t (t.size - p.length) ⟨p.length, st, n, b⟩ = runLines t (t.size - (p ++ Z ++ B.take 1).length) ⟨(p ++ Z ++ B.take 1).length, st, n, b⟩ ∧ Inv t ⟨(p ++ Z ++ B.take 1).length, st, n, b⟩ :=
  blank_run t B Z p hB hZ hs h (by simp [hne]) st n b I
theorem lines_two (t : ByteArray) (B : List UInt8) (hB : lineEnd B) (p : List UInt8) (st : List Int) (n : Nat) (b : List Value) (h : t.data.toList = p ++ ([10] ++ B)) (I : Inv t ⟨p.length, st, n, b⟩) :
    runLines t (t.size - p.length) ⟨p.length, st, n, b⟩ = runLines t (t.size - (p ++ [10] ++ B.take 1).length) ⟨(p ++ [10] ++ B.take 1).length, st, n, b⟩ ∧ Inv t ⟨(p ++ [10] ++ B.take 1).length, st, n, b⟩ := by
  have h1 := blank_run t (10 :: B) [] p (.inr ⟨_, rfl⟩) gap_nil.noEnd rfl (by simpa using h) (by simp) st n b I
  have e : p ++ [] ++ List.take 1 (10 :: B) = p ++ [10] := by simp
  rw [e] at h1
  rcases hB with rfl | ⟨R, rfl⟩
  · simpa using h1
  · have h2 := blank_run t (10 :: R) [] (p ++ [10]) (.inr ⟨_, rfl⟩) gap_nil.noEnd rfl (by simpa using h) (by simp) st n b h1.2
    have e2 : p ++ [10] ++ [] ++ List.take 1 (10 :: R) = p ++ [10] ++ List.take 1 (10 :: R) := by simp
    rw [e2] at h2
    exact ⟨h1.1.trans h2.1, h2.2⟩

def SameLex (x y : Except Nat (Nat × List Value)) : Prop :=
  match x, y with
  | .ok a, .ok b => a.1 = b.1 ∧ Alike a.2 b.2
  | .error _, .error _ => True
  | _, _ => False

theorem same_lex {s t : ByteArray} (h : SameRun (runLines s (s.size - ([] : List UInt8).length) ⟨([] : List UInt8).length, [0], 0, []⟩) (runLines t (t.size - ([] : List UInt8).length) ⟨([] : List UInt8).length, [0], 0, []⟩)) : SameLex (lexP s) (lexP t) := by
  simp only [List.length_nil, Nat.sub_zero] at h
  unfold lexP
  cases h1 : runLines s s.size ⟨0, [0], 0, []⟩ with
  | error e =>
    cases h2 : runLines t t.size ⟨0, [0], 0, []⟩ with
    | error e' => trivial
    | ok b => rw [h1, h2] at h; exact h.elim
  | ok a =>
    cases h2 : runLines t t.size ⟨0, [0], 0, []⟩ with
    | error e' => rw [h1, h2] at h; exact h.elim
    | ok b =>
      rw [h1, h2] at h
      obtain ⟨e1, e2, hA⟩ := h
      simp only
      rw [← e1, ← e2]
      rcases settle_alike a.st 0 a.at_ b.at_ a.n hA with ⟨g1, g2⟩ | ⟨st', n', a', b', g1, g2, hA'⟩
      · rw [g1, g2]
        trivial
      · rw [g1, g2]
        exact ⟨rfl, hA'.tok _ _ _ _⟩

/-- What LexBlanks puts in. -/
def moreAt (k : Nat) : List UInt8 := ([[32, 32], [32, 35, 32, 97, 32, 99, 111, 109, 109, 101, 110, 116], [10, 32, 32, 32], [10, 35, 32, 34], [10, 10]] : List (List UInt8)).getD k []

theorem gap_comment : Gap [32, 35, 32, 97, 32, 99, 111, 109, 109, 101, 110, 116] := ⟨by decide, by unfold halts; decide, by unfold harmless; decide, by unfold Go.Proofs.YtpflpbfnifpchaaGreatDoor.noEnd; decide⟩

theorem lexP_blanks (s t : ByteArray) (A B : List UInt8) (k : Nat) (hk : k < 5) (hB : lineEnd B) (h : s.data.toList = A ++ B) (h' : t.data.toList = A ++ moreAt k ++ B) : SameLex (lexP s) (lexP t) := by
  apply same_lex
  refine ins_run s t B (moreAt k) ?_ A.length A [] [] [0] 0 [] [] (Nat.le_refl _) (by simpa using h) (by simpa using h') (inv0 s) (inv0 t) .nil
  rcases k with _ | _ | _ | _ | _ | k
  · exact last_gap s t B _ hB gap_blanks (by decide)
  · exact last_gap s t B _ hB gap_comment (by decide)
  · exact last_lines s t B [32, 32, 32] hB (lines_one t B _ hB (by unfold noEnd; decide) (by decide) (by decide))
  · exact last_lines s t B [35, 32, 34] hB (lines_one t B _ hB (by unfold noEnd; decide) (by decide) (by decide))
  · exact last_lines s t B [10] hB (lines_two t B hB)
  · omega
end Go.Proofs.YtpflpbfnifpchaaGreatDoor
