/- Package lex: tokens lie one behind the other, and each dedent has its indent. -/
import Derived.Test.YtpflpbfnifpchaaGreatDoorMD
namespace Go.Proofs.YtpflpbfnifpchaaGreatDoor
open Go.RowKit

def kDedent : ByteArray := ⟨#[100, 101, 100, 101, 110, 116]⟩
def indB (k : ByteArray) : Bool := k.toList == [105, 110, 100, 101, 110, 116]
def dedB (k : ByteArray) : Bool := k.toList == [100, 101, 100, 101, 110, 116]
theorem ind_ded {k : ByteArray} (h : indB k = true) : dedB k = false := by
  unfold indB at h
  unfold dedB
  rw [beq_iff_eq] at h
  rw [h]
  decide

/-- How deep tokens lead, from d on; none: a dedent has no indent. -/
def depthFrom : Nat → List (ByteArray × ByteArray × Nat) → Option Nat
  | d, [] => some d
  | d, x :: l => if indB x.1 then depthFrom (d + 1) l else if dedB x.1 then (if d = 0 then none else depthFrom (d - 1) l) else depthFrom d l

theorem depthFrom_append : ∀ (l m : List (ByteArray × ByteArray × Nat)) (d e : Nat), depthFrom d l = some e → depthFrom d (l ++ m) = depthFrom e m
  | [], m, d, e, h => by simp [depthFrom] at h; subst h; rfl
  | x :: l, m, d, e, h => by
    simp only [List.cons_append, depthFrom] at h ⊢
    split
    · rename_i h1
      rw [if_pos h1] at h
      exact depthFrom_append l m _ e h
    · rename_i h1
      rw [if_neg h1] at h
      split
      · rename_i h2
        rw [if_pos h2] at h
        split
        · rename_i h3; rw [if_pos h3] at h; cases h
        · rename_i h3; rw [if_neg h3] at h; exact depthFrom_append l m _ e h
      · rename_i h2
        rw [if_neg h2] at h
        exact depthFrom_append l m _ e h
theorem depthFrom_plain : ∀ (l : List (ByteArray × ByteArray × Nat)) (d : Nat), (∀ x ∈ l, indB x.1 = false ∧ dedB x.1 = false) → depthFrom d l = some d
  | [], d, _ => rfl
  | x :: l, d, h => by
    have h1 := h x (by simp)
    simp only [depthFrom, h1.1, h1.2, Bool.false_eq_true, if_false]
    exact depthFrom_plain l d (fun y hy => h y (by simp [hy]))

/-- Tokens up to the place e, d deep. -/
structure Fine (l : List (ByteArray × ByteArray × Nat)) (d e : Nat) : Prop where
  mono : l.Pairwise fun x y => x.2.2 ≤ y.2.2
  le : ∀ x ∈ l, x.2.2 ≤ e
  short : ∀ x ∈ l, x.2.1.size ≤ e
  deep : depthFrom 0 l = some d

theorem Fine.append {l m : List (ByteArray × ByteArray × Nat)} {d e d' e' : Nat} (h : Fine l d e) (h1 : m.Pairwise fun x y => x.2.2 ≤ y.2.2) (h2 : ∀ x ∈ m, e ≤ x.2.2 ∧ x.2.2 ≤ e') (he : e ≤ e') (h4 : ∀ x ∈ m, x.2.1.size ≤ e') (h3 : depthFrom d m = some d') : Fine (l ++ m) d' e' where
  mono := List.pairwise_append.mpr ⟨h.mono, h1, fun x hx y hy => Nat.le_trans (h.le x hx) (h2 y hy).1⟩
  le := fun x hx => by
    simp at hx
    rcases hx with hx | hx
    · exact Nat.le_trans (h.le x hx) he
    · exact (h2 x hx).2
  short := fun x hx => by
    simp at hx
    rcases hx with hx | hx
    · exact Nat.le_trans (h.short x hx) he
    · exact h4 x hx
  deep := (depthFrom_append l m 0 d h.deep).trans h3
theorem Fine.up {l : List (ByteArray × ByteArray × Nat)} {d e e' : Nat} (h : Fine l d e) (he : e ≤ e') : Fine l d e' := ⟨h.mono, fun x hx => Nat.le_trans (h.le x hx) he, fun x hx => Nat.le_trans (h.short x hx) he, h.deep⟩

theorem cells_append (l m : List (ByteArray × ByteArray × Nat)) : cellsOf (l ++ m) = cellsOf l ++ cellsOf m := by simp [cellsOf]

def dedentsL (i k : Nat) : List (ByteArray × ByteArray × Nat) := List.replicate k (kDedent, ⟨#[]⟩, i)
theorem dedents_cells (i : Nat) : ∀ k, dedents i k = cellsOf (dedentsL i k)
  | 0 => rfl
  | k + 1 => by
    simp only [dedents, dedents_cells i k, dedentsL, List.replicate_succ', cells_append]
    simp [cellsOf, kDedent]
theorem ded_ded : indB kDedent = false ∧ dedB kDedent = true := ⟨by kernel_rfl, by kernel_rfl⟩
theorem ind_ind : indB kIndent = true := by kernel_rfl
theorem plain_newline : indB kNewline = false ∧ dedB kNewline = false := ⟨by kernel_rfl, by kernel_rfl⟩
theorem plain_end : indB kEnd = false ∧ dedB kEnd = false := ⟨by kernel_rfl, by kernel_rfl⟩
theorem plain_kinds (k : ByteArray) (h : k = kWord ∨ k = kName ∨ k = kInt ∨ k = kStr ∨ k = kOp) : indB k = false ∧ dedB k = false := by
  rcases h with rfl | rfl | rfl | rfl | rfl <;> exact ⟨by kernel_rfl, by kernel_rfl⟩
theorem dedents_deep (i : Nat) : ∀ k d, k ≤ d → depthFrom d (dedentsL i k) = some (d - k)
  | 0, d, _ => rfl
  | k + 1, d, h => by
    have ih := dedents_deep i k (d - 1) (by omega)
    simp only [dedentsL, List.replicate_succ, depthFrom, ded_ded.1, ded_ded.2, Bool.false_eq_true, if_false, if_true] at ih ⊢
    rw [if_neg (by omega), ih]
    congr 1
    omega

theorem tokL_kind {L : List UInt8} {k t : ByteArray} {m : Nat} (h : tokL L = some (k, t, m)) : k = kWord ∨ k = kName ∨ k = kInt ∨ k = kStr ∨ k = kOp := by
  cases L with
  | nil => simp [tokL] at h
  | cons c L =>
    have hr : tokL (c :: L) = if smallB (c.toNat : Int) || capitalB (c.toNat : Int) then (nameL c L).map fun x => (if x.1 then kWord else kName, x.2.1, x.2.2)
      else if digitB (c.toNat : Int) then (intL c L).map fun x => (kInt, x.1, x.2)
      else if (c.toNat : Int) == 34 then (strL (L.length + 1) L []).map fun x => (kStr, strOfNums x.1, x.2 + 1)
      else (opL (c :: L) 21 0).map fun x => (kOp, x.1, x.2) := rfl
    rw [hr] at h
    split at h
    · simp only [Option.map_eq_some_iff] at h
      obtain ⟨z, hz, he⟩ := h
      simp only [Prod.mk.injEq] at he
      rw [← he.1]
      split
      · exact .inl rfl
      · exact .inr (.inl rfl)
    · split at h
      · simp only [Option.map_eq_some_iff, Prod.mk.injEq] at h
        obtain ⟨z, hz, he, _⟩ := h
        exact .inr (.inr (.inl he.symm))
      · split at h
        · simp only [Option.map_eq_some_iff, Prod.mk.injEq] at h
          obtain ⟨z, hz, he, _⟩ := h
          exact .inr (.inr (.inr (.inl he.symm)))
        · simp only [Option.map_eq_some_iff, Prod.mk.injEq] at h
          obtain ⟨z, hz, he, _⟩ := h
          exact .inr (.inr (.inr (.inr he.symm)))

theorem nums_size (l : List Int) : (strOfNums l).size = l.length := by simp [strOfNums, ByteArray.size]
theorem take_size (l : List UInt8) (m : Nat) : (⟨(l.take m).toArray⟩ : ByteArray).size ≤ m := by
  simp [ByteArray.size]
  omega
theorem strL_size : ∀ (n : Nat) (L : List UInt8) (acc : List Int) (x : List Int × Nat), strL n L acc = some x → x.1.length ≤ acc.length + x.2
  | 0, _, _, _, h => by simp [strL] at h
  | n + 1, [], _, _, h => by simp [strL] at h
  | n + 1, c :: L, acc, x, h => by
    unfold strL at h
    split at h
    · simp at h; subst h; simp
    · split at h
      · cases h
      · split at h
        · cases h
        · split at h
          · cases he : escL L with
            | none => rw [he] at h; cases h
            | some y =>
              obtain ⟨v, k⟩ := y
              rw [he] at h
              simp only [Option.map_eq_some_iff] at h
              obtain ⟨z, hz, rfl⟩ := h
              have := strL_size n (L.drop k) _ z hz
              simp at this ⊢
              omega
          · simp only [Option.map_eq_some_iff] at h
            obtain ⟨z, hz, rfl⟩ := h
            have := strL_size n L _ z hz
            simp at this ⊢
            omega
theorem opL_size (L : List UInt8) : ∀ (n k : Nat) (x : ByteArray × Nat), opL L n k = some x → x.1.size = x.2
  | 0, _, _, h => by simp [opL] at h
  | n + 1, k, x, h => by
    unfold opL at h
    split at h
    · simp at h; subst h; rfl
    · exact opL_size L n (k + 1) x h
theorem tokL_size {L : List UInt8} {k t : ByteArray} {m : Nat} (h : tokL L = some (k, t, m)) : t.size ≤ m := by
  cases L with
  | nil => simp [tokL] at h
  | cons c L =>
    have hr : tokL (c :: L) = if smallB (c.toNat : Int) || capitalB (c.toNat : Int) then (nameL c L).map fun x => (if x.1 then kWord else kName, x.2.1, x.2.2)
      else if digitB (c.toNat : Int) then (intL c L).map fun x => (kInt, x.1, x.2)
      else if (c.toNat : Int) == 34 then (strL (L.length + 1) L []).map fun x => (kStr, strOfNums x.1, x.2 + 1)
      else (opL (c :: L) 21 0).map fun x => (kOp, x.1, x.2) := rfl
    rw [hr] at h
    split at h
    · simp only [Option.map_eq_some_iff, Prod.mk.injEq] at h
      obtain ⟨z, hz, _, rfl, rfl⟩ := h
      unfold nameL at hz
      simp only at hz
      split at hz
      · simp at hz; subst hz; exact take_size _ _
      · split at hz
        · cases hz
        · split at hz
          · cases hz
          · simp at hz; subst hz; exact take_size _ _
    · split at h
      · simp only [Option.map_eq_some_iff, Prod.mk.injEq] at h
        obtain ⟨z, hz, _, rfl, rfl⟩ := h
        unfold intL at hz
        simp only at hz
        split at hz
        · cases hz
        · split at hz
          · simp at hz; subst hz; exact take_size _ _
          · cases hz
      · split at h
        · simp only [Option.map_eq_some_iff, Prod.mk.injEq] at h
          obtain ⟨z, hz, _, rfl, rfl⟩ := h
          have := strL_size _ _ _ z hz
          rw [nums_size]
          simp at this ⊢
          omega
        · simp only [Option.map_eq_some_iff, Prod.mk.injEq] at h
          obtain ⟨z, hz, _, rfl, rfl⟩ := h
          have := opL_size _ _ _ z hz
          omega

theorem restL_fine : ∀ (f : Nat) (L : List UInt8) (o : Nat) (l : List (ByteArray × ByteArray × Nat)), restL f L o = .ok l → (l.Pairwise fun x y => x.2.2 ≤ y.2.2) ∧ (∀ x ∈ l, o + skipL L ≤ x.2.2 ∧ x.2.2 ≤ o + L.length) ∧ (∀ x ∈ l, indB x.1 = false ∧ dedB x.1 = false) ∧ ∀ x ∈ l, x.2.1.size ≤ o + L.length
  | 0, _, _, _, h => by cases h
  | f + 1, L, o, l, h => by
    have hle := skipL_le L
    unfold restL at h
    split at h
    · simp only [Except.ok.injEq] at h
      subst h
      refine ⟨List.Pairwise.nil, fun x hx => by simp at hx, fun x hx => by simp at hx, fun x hx => by simp at hx⟩
    · cases hk : tokL (L.drop (skipL L)) with
      | none => rw [hk] at h; cases h
      | some y =>
        obtain ⟨k, t, m⟩ := y
        rw [hk] at h
        have hm := tokL_bd hk
        simp at hm
        simp only at h
        cases hr : restL f (L.drop (skipL L + m)) (o + (skipL L + m)) with
        | error e => rw [hr] at h; cases h
        | ok l' =>
          rw [hr] at h
          simp only [Except.ok.injEq] at h
          subst h
          obtain ⟨i1, i2, i3, i4⟩ := restL_fine f _ _ l' hr
          refine ⟨List.pairwise_cons.mpr ⟨fun y hy => ?_, i1⟩, fun x hx => ?_, fun x hx => ?_, fun x hx => ?_⟩
          · have := (i2 y hy).1
            simp only
            omega
          · simp at hx
            rcases hx with rfl | hx
            · simp only; omega
            · have := i2 x hx
              simp at this
              omega
          · simp at hx
            rcases hx with rfl | hx
            · exact plain_kinds k (tokL_kind hk)
            · exact i3 x hx
          · simp at hx
            rcases hx with rfl | hx
            · have := tokL_size hk
              simp only
              omega
            · have := i4 x hx
              simp at this
              omega

theorem popTo_falls' (ind : Int) : ∀ st : List Int, falls st → falls (popTo ind st).2
  | [], _ => by simp [popTo, falls]
  | x :: xs, h => by
    unfold popTo
    split
    · exact popTo_falls' ind xs (falls_tail h)
    · exact h

/-- What an indentation does: indents and dedents, at its place. -/
theorem settle_fine {st st' : List Int} {ind : Int} {i n n' : Nat} {tk tk' : List Value} (h : settleP st ind i n tk = some (st', n', tk')) (hl : st.getLast? = some 0) (hf : falls st) :
    falls st' ∧ ∃ m, tk' = tk ++ cellsOf m ∧ n' = n + m.length ∧ (∀ x ∈ m, x.2.2 = i ∧ x.2.1.size = 0) ∧ depthFrom (st.length - 1) m = some (st'.length - 1) := by
  have hi := settleP_inv h hl
  unfold settleP at h
  cases st with
  | nil => cases h
  | cons x xs =>
    simp only at h
    split at h
    · rename_i hlt
      simp only [Option.some.injEq, Prod.mk.injEq] at h
      obtain ⟨rfl, rfl, rfl⟩ := h
      refine ⟨⟨hlt, hf⟩, [(kIndent, ⟨#[]⟩, i)], by simp [cellsOf], rfl, fun x hx => by simp at hx; rw [hx]; exact ⟨rfl, rfl⟩, ?_⟩
      simp only [depthFrom, ind_ind, if_true]
      simp
    · split at h
      · simp only [Option.some.injEq, Prod.mk.injEq] at h
        obtain ⟨rfl, rfl, rfl⟩ := h
        have hlen := popTo_len ind (x :: xs)
        have hne : (popTo ind (x :: xs)).2 ≠ [] := by
          intro e
          rw [e] at hi
          simp at hi
        have hpos : 0 < (popTo ind (x :: xs)).2.length := List.length_pos_iff.mpr hne
        refine ⟨popTo_falls' ind _ hf, dedentsL i (popTo ind (x :: xs)).1, by rw [dedents_cells], by simp [dedentsL], fun y hy => by simp [dedentsL] at hy; rw [hy.2]; exact ⟨rfl, rfl⟩, ?_⟩
        rw [dedents_deep i _ _ (by omega)]
        congr 1
        omega
      · cases h

structure FineSt (σ : LexSt) : Prop where
  falls : falls σ.st
  ex : ∃ l, σ.tk = cellsOf l ∧ σ.n = l.length ∧ Fine l (σ.st.length - 1) σ.at_

theorem line_fine (s : ByteArray) (S L pre : List UInt8) (hS : lineEnd S) (hL : noEnd L) (h : s.data.toList = pre ++ (L ++ S)) {st : List Int} {n : Nat} {tk : List Value} (hl : st.getLast? = some 0) (hF : FineSt ⟨pre.length, st, n, tk⟩) {σ : LexSt} (hs : lineStep s ⟨pre.length, st, n, tk⟩ = .ok σ) : FineSt σ ∧ σ.at_ = (pre ++ L ++ S.take 1).length := by
  have e1 := after_list s S (pre ++ L) hS (by simpa using h)
  rw [@List.length_append _ pre] at e1
  have hle := skipL_le L
  have hat : pre.length + L.length ≤ (pre ++ L ++ S.take 1).length := by simp
  rw [lineStep_list s S L pre hS hL h] at hs
  obtain ⟨l, h1, h2, h3⟩ := hF.ex
  simp only at h1 h2 h3
  split at hs
  · simp only [Except.ok.injEq] at hs
    subst hs
    exact ⟨⟨hF.falls, l, h1, h2, h3.up (by simp only; omega)⟩, e1⟩
  · cases hst : settleP st (blanksL L : Nat) (pre.length + skipL L) n tk with
    | none => rw [hst] at hs; cases hs
    | some x =>
      obtain ⟨st', n', tk'⟩ := x
      rw [hst] at hs
      simp only at hs
      obtain ⟨g1, m, rfl, rfl, g4, g5⟩ := settle_fine hst hl hF.falls
      cases hr : restL (L.length + 1) L pre.length with
      | error e => rw [hr] at hs; cases hs
      | ok r =>
        rw [hr] at hs
        simp only [Except.ok.injEq] at hs
        subst hs
        obtain ⟨i1, i2, i3, i4⟩ := restL_fine _ _ _ r hr
        refine ⟨⟨g1, l ++ m ++ r ++ [(kNewline, ⟨#[]⟩, pre.length + L.length)], ?_, ?_, ?_⟩, e1⟩
        · simp only [h1, cells_append]
          simp [cellsOf]
        · simp only [h2]
          simp
          omega
        · have f1 : Fine (l ++ m) (st'.length - 1) (pre.length + skipL L) := h3.append (m := m) (List.pairwise_of_forall_mem_list fun x hx y hy => by rw [(g4 x hx).1, (g4 y hy).1]; exact Nat.le_refl _) (fun x hx => by rw [(g4 x hx).1]; omega) (by omega) (fun x hx => by rw [(g4 x hx).2]; omega) g5
          have f2 : Fine (l ++ m ++ r) (st'.length - 1) (pre.length + L.length) := f1.append i1 (fun x hx => i2 x hx) (by omega) i4 (depthFrom_plain r _ i3)
          have f3 := f2.append (m := [(kNewline, ⟨#[]⟩, pre.length + L.length)]) (e' := (pre ++ L ++ S.take 1).length) (by simp) (fun x hx => by simp only [List.mem_singleton] at hx; subst hx; exact ⟨Nat.le_refl _, hat⟩) hat (fun x hx => by simp only [List.mem_singleton] at hx; subst hx; exact Nat.zero_le _) (depthFrom_plain _ _ (fun x hx => by simp only [List.mem_singleton] at hx; subst hx; exact plain_newline))
          rw [e1]
          exact f3

theorem run_fine (s : ByteArray) : ∀ (N : Nat) (R pre : List UInt8) (st : List Int) (n : Nat) (tk : List Value), R.length ≤ N → s.data.toList = pre ++ R → Inv s ⟨pre.length, st, n, tk⟩ → FineSt ⟨pre.length, st, n, tk⟩ → ∀ σ, runLines s (s.size - pre.length) ⟨pre.length, st, n, tk⟩ = .ok σ → FineSt σ ∧ σ.st.getLast? = some 0 ∧ σ.at_ ≤ s.size
  | N, [], pre, st, n, tk, _, h, I, hF, σ, hr => by
    have hz := data_size h
    rw [run_end s _ _ _ _ (by simp at hz ⊢; omega)] at hr
    simp only [Except.ok.injEq] at hr
    subst hr
    exact ⟨hF, I.last, I.hat⟩
  | 0, c :: R, _, _, _, _, hN, _, _, _, _, _ => by simp at hN
  | N + 1, c :: R, pre, st, n, tk, hN, h, I, hF, σ, hr => by
    have hz := data_size h
    simp at hz
    obtain ⟨L, S, e, hL, hS⟩ := split_line (c :: R)
    have h1 : s.data.toList = pre ++ (L ++ S) := by rw [h, e]
    have hlt : pre.length < s.size := by omega
    cases hs : lineStep s ⟨pre.length, st, n, tk⟩ with
    | error x => rw [runLines_err hlt hs] at hr; cases hr
    | ok τ =>
      rw [runLines_go I hlt hs] at hr
      have I1 := (lineStep_inv I hlt hs).1
      obtain ⟨hF1, hat⟩ := line_fine s S L pre hS hL h1 I.last hF hs
      have hlen := congrArg List.length e
      simp at hlen
      obtain ⟨at1, st1, n1, tk1⟩ := τ
      simp only at hat
      subst hat
      refine run_fine s N (S.drop 1) _ st1 n1 tk1 ?_ ?_ I1 hF1 σ hr
      · simp at hN ⊢
        cases S with
        | nil => simp
        | cons d S => simp at hlen ⊢; omega
      · rw [h1]
        simp only [List.append_assoc, List.take_append_drop]

theorem falls_one : ∀ st : List Int, falls st → st.head? = some 0 → st.getLast? = some 0 → st.length = 1
  | [], _, h, _ => by simp at h
  | [x], _, _, _ => rfl
  | x :: y :: r, hf, h, hl => by
    exfalso
    simp at h
    subst h
    have hg : (y :: r)[(y :: r).length - 1]? = some 0 := by
      rw [← List.getLast?_eq_getElem?]
      simpa using hl
    have := falls_lt (y :: r) 0 _ 0 hf hg
    omega

/-- What Lex comes to: tokens one behind the other, each dedent with its indent. -/
theorem lexP_fine {s : ByteArray} {n : Nat} {tk : List Value} (h : lexP s = .ok (n, tk)) : ∃ l, tk = cellsOf l ∧ n = l.length ∧ (l.Pairwise fun x y => x.2.2 ≤ y.2.2) ∧ depthFrom 0 l = some 0 ∧ ∀ x ∈ l, x.2.1.size ≤ s.size := by
  unfold lexP at h
  cases hr : runLines s s.size ⟨0, [0], 0, []⟩ with
  | error e => rw [hr] at h; cases h
  | ok σ =>
    rw [hr] at h
    simp only at h
    have hr' : runLines s (s.size - ([] : List UInt8).length) ⟨([] : List UInt8).length, [0], 0, []⟩ = .ok σ := by simpa using hr
    obtain ⟨hF, hl, hsz⟩ := run_fine s s.size s.data.toList [] [0] 0 [] (by simp) (by simp) (inv0 s) ⟨trivial, [], rfl, rfl, ⟨List.Pairwise.nil, fun x hx => by simp at hx, fun x hx => by simp at hx, rfl⟩⟩ σ hr'
    cases hst : settleP σ.st 0 σ.at_ σ.n σ.tk with
    | none => rw [hst] at h; cases h
    | some x =>
      obtain ⟨st', n', tk'⟩ := x
      rw [hst] at h
      simp only [Except.ok.injEq, Prod.mk.injEq] at h
      obtain ⟨g1, m, rfl, rfl, g4, g5⟩ := settle_fine hst hl hF.falls
      obtain ⟨l, h1, h2, h3⟩ := hF.ex
      have hi := settleP_inv hst hl
      have hd : st'.head? = some 0 := by
        unfold settleP at hst
        cases hσ : σ.st with
        | nil => rw [hσ] at hst; cases hst
        | cons x xs =>
          rw [hσ] at hst
          simp only at hst
          split at hst
          · rename_i hlt
            exfalso
            have hgl : (x :: xs)[(x :: xs).length - 1]? = some 0 := by rw [← List.getLast?_eq_getElem?, ← hσ]; exact hl
            have hff := hF.falls
            rw [hσ] at hff
            cases xs with
            | nil => simp at hgl; omega
            | cons y r =>
              have := falls_lt (y :: r) x ((y :: r).length - 1) 0 hff (by simpa using hgl)
              omega
          · split at hst
            · rename_i hh
              simp only [Option.some.injEq, Prod.mk.injEq] at hst
              rw [← hst.1]
              exact hh
            · cases hst
      have hone := falls_one st' g1 hd hi.1
      rw [hone] at g5
      have f1 : Fine (l ++ m) 0 σ.at_ := h3.append (m := m) (List.pairwise_of_forall_mem_list fun x hx y hy => by rw [(g4 x hx).1, (g4 y hy).1]; exact Nat.le_refl _) (fun x hx => by rw [(g4 x hx).1]; omega) (Nat.le_refl _) (fun x hx => by rw [(g4 x hx).2]; omega) g5
      have f2 := f1.append (m := [(kEnd, ⟨#[]⟩, σ.at_)]) (e' := σ.at_) (by simp) (fun x hx => by simp only [List.mem_singleton] at hx; subst hx; exact ⟨Nat.le_refl _, Nat.le_refl _⟩) (Nat.le_refl _) (fun x hx => by simp only [List.mem_singleton] at hx; subst hx; exact Nat.zero_le _) (depthFrom_plain _ _ (fun x hx => by simp only [List.mem_singleton] at hx; subst hx; exact plain_end))
      refine ⟨l ++ m ++ [(kEnd, ⟨#[]⟩, σ.at_)], ?_, ?_, f2.mono, f2.deep, fun x hx => Nat.le_trans (f2.short x hx) hsz⟩
      · rw [← h.2, h1]
        simp [cellsOf]
      · rw [← h.1, h2]
        simp
        omega
end Go.Proofs.YtpflpbfnifpchaaGreatDoor
