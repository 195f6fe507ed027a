/- Package tree: every statement. -/
import Derived.Test.YtcpalppfhohbnaaGreatDoorStmtCToStmtE
import Derived.Test.YtcpalppfhohbnaaGreatDoorStmtIToStmtN
import Derived.Test.YtcpalppfhohbnaaGreatDoorStmtO
import Derived.Test.YtcpalppfhohbnaaGreatDoorStmtP
import Derived.Test.YtcpalppfhohbnaaGreatDoorStmtQ
import Derived.Test.YtcpalppfhohbnaaGreatDoorTextC
namespace Go.Proofs.YtcpalppfhohbnaaGreatDoor
open Go.RowKit

def dedentB : ByteArray := ⟨#[100, 101, 100, 101, 110, 116]⟩
def endB : ByteArray := ⟨#[101, 110, 100]⟩
def pOneAt (l : List (ByteArray × ByteArray × Nat)) (k : Nat) : Out (List (DataW Unit)) := pOne (pTerm l k)
/-- A statement in bl blocks, out of what a statement within is. -/
def pStmtIn (l : List (ByteArray × ByteArray × Nat)) (blk : Nat → Out (List (DataW Unit))) (k : Nat) : Out (DataW Unit) :=
  pStatement l (fun k => pChoice l (pOneAt l) blk l.length k) (pWhile (pOneAt l) blk) (pEach l (pOneAt l) blk) (pFunc l blk) (pAttempt l blk) (pLine l (pTerm l) (pOneAt l) (pTermSet l (pTerm l))) k
def pStmtAt (l : List (ByteArray × ByteArray × Nat)) : Nat → Nat → Out (DataW Unit)
  | 0, k => .error (k, false)
  | d + 1, k => pStmtIn l (pBlockOf l (12 - d) (fun k' => pStmts l dedentB.toList (pStmtAt l d) (l.length + 1) [] k')) k
theorem statementAt {p g cap : Nat} {rk : Value} {l : List (ByteArray × ByteArray × Nat)} {a0 a1 : Addr} (T : TokS l) : ∀ (d bl k : Nat), bl + d = 12 → k < l.length → ReadsS 28 #[.pointer (some ⟨p, 0, none⟩)] p g cap rk l k bl 0 a0 a1 (pStmtAt l (d + 1) k) := by
  intro d
  induction d with
  | zero =>
    intro bl k hbl hk
    have hb : bl = 12 - 0 := by omega
    unfold pStmtAt pStmtIn
    have H1 : ∀ k', k < k' → k' < l.length → ReadsL 48 #[.pointer (some ⟨p, 0, none⟩)] p g cap rk l k' bl 0 a0 a1 (pOneAt l k') := fun k' _ h => oneAt T.ok h
    have H2 : ∀ k', k < k' → k' < l.length → ReadsSL 49 #[.pointer (some ⟨p, 0, none⟩)] p g cap rk l k' bl 0 a0 a1 (pBlockOf l (12 - 0) (fun k' => pStmts l dedentB.toList (pStmtAt l 0) (l.length + 1) [] k') k') := fun k' _ h => by
      rw [← hb]
      exact blockOf_any T h (by omega) _ (fun k'' _ _ h3 => by omega)
    exact statement_any T hk _ _ _ _ _ _ _ H1 H2 (fun k' h1 h2 => choice_any (lo := k + 1) T _ _ (fun k' h => H1 k' h) (fun k' h => H2 k' h) l.length k' h1 h2 (by omega)) (fun k' h1 h2 => each_any T h2 _ _ (fun k2 h => H1 k2 (by omega)) (fun k2 h => H2 k2 (by omega))) (fun k' h1 h2 => function_any T h2 _ (fun k2 h => H2 k2 (by omega))) (fun k' h1 h2 => attempt_any T h2 _ (fun k2 h => H2 k2 (by omega))) (tline_any T hk _ _ _ (fun k' _ h => termAt T.ok h) H1 (termOrSet_any T hk _ (term_ix l) (fun k' _ h => termAt T.ok h)))
  | succ d IH =>
    intro bl k hbl hk
    have hb : bl = 12 - (d + 1) := by omega
    unfold pStmtAt pStmtIn
    have H1 : ∀ k', k < k' → k' < l.length → ReadsL 48 #[.pointer (some ⟨p, 0, none⟩)] p g cap rk l k' bl 0 a0 a1 (pOneAt l k') := fun k' _ h => oneAt T.ok h
    have H2 : ∀ k', k < k' → k' < l.length → ReadsSL 49 #[.pointer (some ⟨p, 0, none⟩)] p g cap rk l k' bl 0 a0 a1 (pBlockOf l (12 - (d + 1)) (fun k' => pStmts l dedentB.toList (pStmtAt l (d + 1)) (l.length + 1) [] k') k') := fun k' _ h => by
      rw [← hb]
      exact blockOf_any T h (by omega) _ (fun k'' _ h2 _ => statements_any dedentB T h2 _ (fun k3 _ h4 => IH (bl + 1) k3 (by omega) h4))
    exact statement_any T hk _ _ _ _ _ _ _ H1 H2 (fun k' h1 h2 => choice_any (lo := k + 1) T _ _ (fun k' h => H1 k' h) (fun k' h => H2 k' h) l.length k' h1 h2 (by omega)) (fun k' h1 h2 => each_any T h2 _ _ (fun k2 h => H1 k2 (by omega)) (fun k2 h => H2 k2 (by omega))) (fun k' h1 h2 => function_any T h2 _ (fun k2 h => H2 k2 (by omega))) (fun k' h1 h2 => attempt_any T h2 _ (fun k2 h => H2 k2 (by omega))) (tline_any T hk _ _ _ (fun k' _ h => termAt T.ok h) H1 (termOrSet_any T hk _ (term_ix l) (fun k' _ h => termAt T.ok h)))
/-- A program. -/
def pRead (l : List (ByteArray × ByteArray × Nat)) : Out (List (DataW Unit)) := pStmts l endB.toList (pStmtAt l 12) (l.length + 1) [] 0
theorem programAt {p g cap : Nat} {rk : Value} {l : List (ByteArray × ByteArray × Nat)} {a0 a1 : Addr} (T : TokS l) (hl : 0 < l.length) : ReadsSL 14 #[.pointer (some ⟨p, 0, none⟩), .string endB] p g cap rk l 0 1 0 a0 a1 (pRead l) :=
  statements_any endB T hl _ (fun k _ h => statementAt T 11 1 k rfl h)
end Go.Proofs.YtcpalppfhohbnaaGreatDoor

/- Package lex: kinds of what Lex comes to; what package tree's reader asks of its tokens. -/
namespace Go.Proofs.YtcpalppfhohbnaaGreatDoor
open Go.RowKit

def isEndB (k : ByteArray) : Bool := k.toList == [101, 110, 100]
/-- A token that is no end; an int's text is one. -/
def KTok (x : ByteArray × ByteArray × Nat) : Prop := isEndB x.1 = false ∧ (isIntB x = true → ∃ v, Lib.parseIntB 64 x.2.1.data.toList = .ok v)
theorem ktok_plain {k : ByteArray} (h1 : isEndB k = false) (h2 : (k.toList == [105, 110, 116]) = false) (t : ByteArray) (o : Nat) : KTok (k, t, o) := ⟨h1, fun h => by
  have h3 : (k.toList == [105, 110, 116]) = true := h
  rw [h2] at h3
  cases h3⟩
theorem tokL_kt {L : List UInt8} {k t : ByteArray} {m : Nat} (h : tokL L = some (k, t, m)) (o : Nat) : KTok (k, t, o) := by
  cases L with
  | nil => simp [tokL] at h
  | cons c L =>
    have hr : tokL (c :: L) = if smallB (c.toNat : Int) || capitalB (c.toNat : Int) then (nameL c L).map fun x => (if x.1 then kWord else kName, x.2.1, x.2.2)
      else if digitB (c.toNat : Int) then (intL c L).map fun x => (kInt, x.1, x.2)
      else if (c.toNat : Int) == 34 then (strL (L.length + 1) L []).map fun x => (kStr, strOfNums x.1, x.2 + 1)
      else (opL (c :: L) 21 0).map fun x => (kOp, x.1, x.2) := rfl
    rw [hr] at h
    split at h
    · simp only [Option.map_eq_some_iff] at h
      obtain ⟨z, hz, he⟩ := h
      simp only [Prod.mk.injEq] at he
      rw [← he.1]
      split
      · exact ktok_plain (by kernel_rfl) (by kernel_rfl) _ _
      · exact ktok_plain (by kernel_rfl) (by kernel_rfl) _ _
    · split at h
      · simp only [Option.map_eq_some_iff, Prod.mk.injEq] at h
        obtain ⟨z, hz, he, ht, _⟩ := h
        refine ⟨by rw [← he]; kernel_rfl, fun _ => ?_⟩
        unfold intL at hz
        simp only at hz
        split at hz
        · cases hz
        · split at hz
          next v hv =>
            simp only [Option.some.injEq] at hz
            rw [← hz] at ht
            simp only at ht
            rw [← ht]
            exact ⟨v, hv⟩
          next => cases hz
      · split at h
        · simp only [Option.map_eq_some_iff, Prod.mk.injEq] at h
          obtain ⟨z, hz, he, _⟩ := h
          rw [← he]
          exact ktok_plain (by kernel_rfl) (by kernel_rfl) _ _
        · simp only [Option.map_eq_some_iff, Prod.mk.injEq] at h
          obtain ⟨z, hz, he, _⟩ := h
          rw [← he]
          exact ktok_plain (by kernel_rfl) (by kernel_rfl) _ _
theorem restL_kt : ∀ (f : Nat) (L : List UInt8) (o : Nat) (l : List (ByteArray × ByteArray × Nat)), restL f L o = .ok l → ∀ x ∈ l, KTok x
  | 0, _, _, _, h => by cases h
  | f + 1, L, o, l, h => by
    unfold restL at h
    split at h
    · simp only [Except.ok.injEq] at h
      subst h
      intro x hx
      simp at hx
    · cases hk : tokL (L.drop (skipL L)) with
      | none => rw [hk] at h; cases h
      | some y =>
        obtain ⟨k, t, m⟩ := y
        rw [hk] at h
        simp only at h
        cases hr : restL f (L.drop (skipL L + m)) (o + (skipL L + m)) with
        | error e => rw [hr] at h; cases h
        | ok l' =>
          rw [hr] at h
          simp only [Except.ok.injEq] at h
          subst h
          intro x hx
          simp at hx
          rcases hx with rfl | hx
          · exact tokL_kt hk _
          · exact restL_kt f _ _ l' hr x hx
theorem settle_kt {st st' : List Int} {ind : Int} {i n n' : Nat} {tk tk' : List Value} (h : settleP st ind i n tk = some (st', n', tk')) : ∃ m, tk' = tk ++ cellsOf m ∧ n' = n + m.length ∧ ∀ x ∈ m, KTok x := by
  unfold settleP at h
  cases st with
  | nil => cases h
  | cons x xs =>
    simp only at h
    split at h
    · simp only [Option.some.injEq, Prod.mk.injEq] at h
      obtain ⟨rfl, rfl, rfl⟩ := h
      refine ⟨[(kIndent, ⟨#[]⟩, i)], by simp [cellsOf], rfl, fun x hx => ?_⟩
      simp at hx
      rw [hx]
      exact ktok_plain (by kernel_rfl) (by kernel_rfl) _ _
    · split at h
      · simp only [Option.some.injEq, Prod.mk.injEq] at h
        obtain ⟨rfl, rfl, rfl⟩ := h
        refine ⟨dedentsL i (popTo ind (x :: xs)).1, by rw [dedents_cells], by simp [dedentsL], fun y hy => ?_⟩
        simp [dedentsL] at hy
        rw [hy.2]
        exact ktok_plain (by kernel_rfl) (by kernel_rfl) _ _
      · cases h
def KSt (σ : LexSt) : Prop := ∃ l, σ.tk = cellsOf l ∧ σ.n = l.length ∧ ∀ x ∈ l, KTok x
theorem line_kt (s : ByteArray) (S L pre : List UInt8) (hS : lineEnd S) (hL : noEnd L) (h : s.data.toList = pre ++ (L ++ S)) {st : List Int} {n : Nat} {tk : List Value} (hF : KSt ⟨pre.length, st, n, tk⟩) {σ : LexSt} (hs : lineStep s ⟨pre.length, st, n, tk⟩ = .ok σ) : KSt σ ∧ σ.at_ = (pre ++ L ++ S.take 1).length := by
  have e1 := after_list s S (pre ++ L) hS (by simpa using h)
  rw [@List.length_append _ pre] at e1
  rw [lineStep_list s S L pre hS hL h] at hs
  obtain ⟨l, h1, h2, h3⟩ := hF
  simp only at h1 h2 h3
  split at hs
  · simp only [Except.ok.injEq] at hs
    subst hs
    exact ⟨⟨l, h1, h2, h3⟩, e1⟩
  · cases hst : settleP st (blanksL L : Nat) (pre.length + skipL L) n tk with
    | none => rw [hst] at hs; cases hs
    | some x =>
      obtain ⟨st', n', tk'⟩ := x
      rw [hst] at hs
      simp only at hs
      obtain ⟨m, rfl, rfl, g4⟩ := settle_kt hst
      cases hr : restL (L.length + 1) L pre.length with
      | error e => rw [hr] at hs; cases hs
      | ok r =>
        rw [hr] at hs
        simp only [Except.ok.injEq] at hs
        subst hs
        have i1 := restL_kt _ _ _ r hr
        refine ⟨⟨l ++ m ++ r ++ [(kNewline, ⟨#[]⟩, pre.length + L.length)], ?_, ?_, ?_⟩, e1⟩
        · simp only [h1, cells_append]
          simp [cellsOf]
        · simp only [h2]
          simp
          omega
        · intro x hx
          simp only [List.mem_append, List.mem_singleton] at hx
          rcases hx with ((hx | hx) | hx) | hx
          · exact h3 x hx
          · exact g4 x hx
          · exact i1 x hx
          · rw [hx]
            exact ktok_plain (by kernel_rfl) (by kernel_rfl) _ _
theorem run_kt (s : ByteArray) : ∀ (N : Nat) (R pre : List UInt8) (st : List Int) (n : Nat) (tk : List Value), R.length ≤ N → s.data.toList = pre ++ R → Inv s ⟨pre.length, st, n, tk⟩ → KSt ⟨pre.length, st, n, tk⟩ → ∀ σ, runLines s (s.size - pre.length) ⟨pre.length, st, n, tk⟩ = .ok σ → KSt σ
  | N, [], pre, st, n, tk, _, h, I, hF, σ, hr => by
    have hz := data_size h
    rw [run_end s _ _ _ _ (by simp at hz ⊢; omega)] at hr
    simp only [Except.ok.injEq] at hr
    subst hr
    exact hF
  | 0, c :: R, _, _, _, _, hN, _, _, _, _, _ => by simp at hN
  | N + 1, c :: R, pre, st, n, tk, hN, h, I, hF, σ, hr => by
    have hz := data_size h
    simp at hz
    obtain ⟨L, S, e, hL, hS⟩ := split_line (c :: R)
    have h1 : s.data.toList = pre ++ (L ++ S) := by rw [h, e]
    have hlt : pre.length < s.size := by omega
    cases hs : lineStep s ⟨pre.length, st, n, tk⟩ with
    | error x => rw [runLines_err hlt hs] at hr; cases hr
    | ok τ =>
      rw [runLines_go I hlt hs] at hr
      have I1 := (lineStep_inv I hlt hs).1
      obtain ⟨hF1, hat⟩ := line_kt s S L pre hS hL h1 hF hs
      have hlen := congrArg List.length e
      simp at hlen
      obtain ⟨at1, st1, n1, tk1⟩ := τ
      simp only at hat
      subst hat
      refine run_kt s N (S.drop 1) _ st1 n1 tk1 ?_ ?_ I1 hF1 σ hr
      · simp at hN ⊢
        cases S with
        | nil => simp
        | cons d S => simp at hlen ⊢; omega
      · rw [h1]
        simp only [List.append_assoc, List.take_append_drop]
theorem lexP_kinds {s : ByteArray} {n : Nat} {tk : List Value} (h : lexP s = .ok (n, tk)) : ∃ l a, tk = cellsOf (l ++ [(kEnd, ⟨#[]⟩, a)]) ∧ n = (l ++ [(kEnd, (⟨#[]⟩ : ByteArray), a)]).length ∧ ∀ x ∈ l, KTok x := by
  unfold lexP at h
  cases hr : runLines s s.size ⟨0, [0], 0, []⟩ with
  | error e => rw [hr] at h; cases h
  | ok σ =>
    rw [hr] at h
    simp only at h
    have hr' : runLines s (s.size - ([] : List UInt8).length) ⟨([] : List UInt8).length, [0], 0, []⟩ = .ok σ := by simpa using hr
    obtain ⟨l, h1, h2, h3⟩ := run_kt s s.size s.data.toList [] [0] 0 [] (by simp) (by simp) (inv0 s) ⟨[], rfl, rfl, fun x hx => by simp at hx⟩ σ hr'
    cases hst : settleP σ.st 0 σ.at_ σ.n σ.tk with
    | none => rw [hst] at h; cases h
    | some x =>
      obtain ⟨st', n', tk'⟩ := x
      rw [hst] at h
      simp only [Except.ok.injEq, Prod.mk.injEq] at h
      obtain ⟨m, rfl, rfl, g4⟩ := settle_kt hst
      refine ⟨l ++ m, σ.at_, ?_, ?_, ?_⟩
      · rw [← h.2, h1]
        simp [cellsOf]
      · rw [← h.1, h2]
        simp
        omega
      · intro x hx
        simp only [List.mem_append] at hx
        rcases hx with hx | hx
        · exact h3 x hx
        · exact g4 x hx
theorem end_end : isEndB kEnd = true := by kernel_rfl
/-- What Lex hands to the reader. -/
theorem lexP_tokS {s : ByteArray} {m : List (ByteArray × ByteArray × Nat)} (h : lexP s = .ok (m.length, cellsOf m)) (hm : m.length ≤ 100000) (hs : s.size ≤ 6000) : TokS m := by
  obtain ⟨l, a, e1, _, hk⟩ := lexP_kinds h
  obtain ⟨l', e2, _, _, _, hz⟩ := lexP_fine h
  have e3 := cells_inj _ _ e2
  subst e3
  have e4 := cells_inj _ _ e1
  subst e4
  have hget : ∀ (k : Nat) (x : ByteArray × ByteArray × Nat), (l ++ [(kEnd, (⟨#[]⟩ : ByteArray), a)])[k]? = some x → (k < l.length ∧ KTok x) ∨ (k = l.length ∧ x = (kEnd, ⟨#[]⟩, a)) := fun k x hx => by
    rcases Nat.lt_or_ge k l.length with h1 | h1
    · rw [List.getElem?_append_left h1] at hx
      exact .inl ⟨h1, hk x (List.mem_of_getElem? hx)⟩
    · have hlt := (List.getElem?_eq_some_iff.1 hx).1
      simp at hlt
      have hke : k = l.length := by omega
      subst hke
      simp at hx
      exact .inr ⟨rfl, hx.symm⟩
  have hfin : ∀ (k : Nat) (x : ByteArray × ByteArray × Nat), (l ++ [(kEnd, (⟨#[]⟩ : ByteArray), a)])[k]? = some x → (x.1.toList == [101, 110, 100]) = false → k + 1 < (l ++ [(kEnd, (⟨#[]⟩ : ByteArray), a)]).length := fun k x hx hn => by
    rcases hget k x hx with ⟨h1, _⟩ | ⟨_, rfl⟩
    · simp
      omega
    · have h2 : isEndB kEnd = false := hn
      rw [end_end] at h2
      cases h2
  refine ⟨⟨hm, ⟨(kEnd, ⟨#[]⟩, a), by simp, fun ts => ?_⟩, fun k x hx hb => ?_, fun k x hx hi => ?_⟩, hfin⟩
  · unfold markB
    have h1 : (kEnd.toList == [111, 112]) = false := by kernel_rfl
    have h2 : (kEnd.toList == [119, 111, 114, 100]) = false := by kernel_rfl
    simp only [h1, h2, Bool.or_self, Bool.false_and]
  · refine hfin k x hx ?_
    rcases hget k x hx with ⟨_, h1⟩ | ⟨_, rfl⟩
    · exact h1.1
    · exfalso
      have h1 : isIntB (kEnd, (⟨#[]⟩ : ByteArray), a) = false := by kernel_rfl
      have h2 : isStrB (kEnd, (⟨#[]⟩ : ByteArray), a) = false := by kernel_rfl
      have h3 : isNameB (kEnd, (⟨#[]⟩ : ByteArray), a) = false := by kernel_rfl
      rw [h1, h2, h3] at hb
      cases hb
  · rcases hget k x hx with ⟨_, h1⟩ | ⟨_, rfl⟩
    · exact ⟨by have := hz x (List.mem_of_getElem? hx); omega, h1.2 hi⟩
    · exfalso
      have h1 : isIntB (kEnd, (⟨#[]⟩ : ByteArray), a) = false := by kernel_rfl
      rw [h1] at hi
      cases hi
end Go.Proofs.YtcpalppfhohbnaaGreatDoor

/- Package tree: what is read hangs on the tokens' kinds and texts alone. -/
namespace Go.Proofs.YtcpalppfhohbnaaGreatDoor
open Go.RowKit

/-- Tokens of the same kinds and texts. -/
structure Al (l m : List (ByteArray × ByteArray × Nat)) : Prop where
  len : l.length = m.length
  get : ∀ k : Nat, (l[k]? = none ∧ m[k]? = none) ∨ ∃ (kd tx : ByteArray) (a b : Nat), l[k]? = some (kd, tx, a) ∧ m[k]? = some (kd, tx, b)
theorem bytes_inj {a b : ByteArray} (h : a.toList = b.toList) : a = b := by
  rw [toList_data, toList_data] at h
  have h4 : a.data = b.data := Array.toList_inj.1 h
  cases a
  cases b
  exact congrArg ByteArray.mk h4
theorem al_of {l m : List (ByteArray × ByteArray × Nat)} (h : ktOf l = ktOf m) : Al l m := by
  have hlen : l.length = m.length := by
    have := congrArg List.length h
    simpa [ktOf] using this
  refine ⟨hlen, fun k => ?_⟩
  rcases Nat.lt_or_ge k l.length with h1 | h1
  · right
    have h2 : k < m.length := by omega
    have e : (ktOf l)[k]? = (ktOf m)[k]? := by rw [h]
    simp [ktOf, h1, h2] at e
    refine ⟨l[k].1, l[k].2.1, l[k].2.2, m[k].2.2, by simp [h1], ?_⟩
    rw [bytes_inj e.1, bytes_inj e.2]
    simp [h2]
  · exact .inl ⟨List.getElem?_eq_none h1, List.getElem?_eq_none (by omega)⟩
variable {l m : List (ByteArray × ByteArray × Nat)}
theorem Al.mark (h : Al l m) : markAt l = markAt m := by
  funext k ts
  unfold markAt
  rcases h.get k with ⟨h1, h2⟩ | ⟨kd, tx, a, b, h1, h2⟩ <;> rw [h1, h2] <;> rfl
theorem Al.kind (h : Al l m) : isKind l = isKind m := by
  funext k kd
  unfold isKind
  rcases h.get k with ⟨h1, h2⟩ | ⟨kd, tx, a, b, h1, h2⟩ <;> rw [h1, h2]
theorem Al.txt (h : Al l m) : txtAt l = txtAt m := by
  funext k
  unfold txtAt
  rcases h.get k with ⟨h1, h2⟩ | ⟨kd, tx, a, b, h1, h2⟩ <;> rw [h1, h2]
theorem Al.name (h : Al l m) : pName l = pName m := by
  funext s k
  unfold pName
  rcases h.get k with ⟨h1, h2⟩ | ⟨kd, tx, a, b, h1, h2⟩ <;> rw [h1, h2] <;> rfl
theorem Al.more (h : Al l m) {σ : Type} (step : σ → Nat → Out σ) : ∀ (f : Nat) (s : σ) (k : Nat), pMore l step f s k = pMore m step f s k
  | 0, s, k => rfl
  | f + 1, s, k => by
    unfold pMore
    rw [h.mark]
    cases hm : markAt m k [comma] with
    | false => rfl
    | true =>
      simp only [cond_true]
      cases step s (k + 1) with
      | error y => rfl
      | ok y => exact h.more step f y.1 y.2
theorem Al.several (h : Al l m) {σ : Type} (step : σ → Nat → Out σ) : pSeveral l step = pSeveral m step := by
  funext f s k
  unfold pSeveral
  cases step s k with
  | error y => rfl
  | ok y => exact h.more step f y.1 y.2
theorem Al.upTo (h : Al l m) {σ : Type} (step : σ → Nat → Out σ) : pUpTo l step = pUpTo m step := by
  funext c f s k
  unfold pUpTo
  rw [h.mark, h.several]
theorem Al.closed (h : Al l m) : pClosed l = pClosed m := by
  funext c o
  unfold pClosed
  rw [h.mark]
theorem Al.ahead (h : Al l m) : pAhead l = pAhead m := by
  funext c k dp o1 o2
  unfold pAhead
  rw [h.mark]
theorem Al.sidesOn (h : Al l m) (rank : Nat) (sub : Nat → Out (DataW Unit)) : ∀ (f : Nat) (e : DataW Unit) (k : Nat), pSidesOn l rank sub f e k = pSidesOn m rank sub f e k
  | 0, e, k => rfl
  | f + 1, e, k => by
    unfold pSidesOn
    rcases h.get k with ⟨h1, h2⟩ | ⟨kd, tx, a, b, h1, h2⟩
    · rw [h1, h2]
    · rw [h1, h2]
      simp only
      have e1 : markB (kd, tx, a) (rankOps rank) = markB (kd, tx, b) (rankOps rank) := rfl
      rw [e1]
      cases markB (kd, tx, b) (rankOps rank) with
      | false => rfl
      | true =>
        simp only [cond_true]
        cases sub (k + 1) with
        | error y => rfl
        | ok y =>
          obtain ⟨e2, k2⟩ := y
          simp only
          rw [h.sidesOn rank sub f]
theorem Al.sides (h : Al l m) (rank : Nat) : pSides l rank = pSides m rank := by
  funext sub k
  unfold pSides
  cases sub k with
  | error y => rfl
  | ok y =>
    obtain ⟨e, k1⟩ := y
    simp only
    rw [h.sidesOn, h.len]
theorem Al.postOn (h : Al l m) (dp : Nat) (term : Nat → Out (DataW Unit)) : ∀ (f : Nat) (e : DataW Unit) (k : Nat), pPostOn l dp term f e k = pPostOn m dp term f e k
  | 0, e, k => rfl
  | f + 1, e, k => by
    unfold pPostOn
    rw [h.mark, h.upTo, h.closed, h.len]
    cases markAt m k [lpar] with
    | true =>
      simp only [cond_true]
      cases pDeep dp k (pList kCall (pUpTo m (pTermStep term) rpar m.length [e] (k + 1))) with
      | error y => rfl
      | ok y => exact h.postOn dp term f y.1 y.2
    | false =>
      simp only [cond_false]
      cases markAt m k [lbrk] with
      | false => rfl
      | true =>
        simp only [cond_true]
        cases pDeep dp k (pIndex e (pClosed m rbrk (term (k + 1)))) with
        | error y => rfl
        | ok y => exact h.postOn dp term f y.1 y.2
theorem Al.post (h : Al l m) (dp : Nat) : pPost l dp = pPost m dp := by
  funext term o
  unfold pPost
  cases o with
  | error y => rfl
  | ok y =>
    obtain ⟨e, k1⟩ := y
    simp only
    rw [h.postOn, h.len]
theorem Al.atom (h : Al l m) : pAtom l = pAtom m := by
  funext dp term terms pairs k
  unfold pAtom
  rcases h.get k with ⟨h1, h2⟩ | ⟨kd, tx, a, b, h1, h2⟩
  · rw [h1, h2]
  · rw [h1, h2, h.closed]
    rfl
theorem Al.pairStep (h : Al l m) : pPairStep l = pPairStep m := by
  funext term es k
  unfold pPairStep
  rw [h.closed]
theorem Al.lambda (h : Al l m) : pLambda l = pLambda m := by
  funext one k
  unfold pLambda
  rw [h.name, h.upTo, h.len]
theorem Al.ranked (h : Al l m) : ∀ (f dp rank k : Nat), pRanked l f dp rank k = pRanked m f dp rank k
  | 0, _, _, _ => rfl
  | f + 1, dp, rank, k => by
    have ih : pRanked l f = pRanked m f := by
      funext dp rank k
      exact h.ranked f dp rank k
    unfold pRanked
    rw [ih, h.ahead, h.lambda, h.post, h.atom, h.upTo, h.pairStep, h.upTo, h.sides, h.len]
theorem Al.term (h : Al l m) : pTerm l = pTerm m := by
  funext k
  unfold pTerm fuelE
  rw [h.ranked, h.len]
theorem Al.block (h : Al l m) : pBlock l = pBlock m := by
  funext bl inner k
  unfold pBlock
  rw [h.kind]
theorem Al.blockOf (h : Al l m) : pBlockOf l = pBlockOf m := by
  funext bl inner k
  unfold pBlockOf
  rw [h.mark, h.block]
theorem Al.each (h : Al l m) : pEach l = pEach m := by
  funext one blk k
  unfold pEach
  rw [h.kind, h.mark, h.txt]
theorem Al.attempt (h : Al l m) : pAttempt l = pAttempt m := by
  funext blk k
  unfold pAttempt
  rw [h.kind, h.mark, h.txt]
theorem Al.choice (h : Al l m) (one blk : Nat → Out (List (DataW Unit))) : ∀ (f k : Nat), pChoice l one blk f k = pChoice m one blk f k
  | 0, k => rfl
  | f + 1, k => by
    have ih : pChoice l one blk f = pChoice m one blk f := by
      funext k
      exact h.choice one blk f k
    unfold pChoice
    rw [h.mark, ih]
theorem Al.func (h : Al l m) : pFunc l = pFunc m := by
  funext blk k
  unfold pFunc
  rw [h.kind, h.mark, h.txt, h.name, h.upTo, h.len]
theorem Al.termSet (h : Al l m) : pTermSet l = pTermSet m := by
  funext term k
  unfold pTermSet
  rw [h.kind, h.mark, h.txt]
theorem Al.line (h : Al l m) : pLine l = pLine m := by
  funext term one tset k
  unfold pLine
  rw [h.kind, h.mark, h.txt, h.name, h.several, h.len]
theorem Al.statement (h : Al l m) : pStatement l = pStatement m := by
  funext a b c d e f k
  unfold pStatement
  rw [h.kind, h.mark]
theorem Al.stmts (h : Al l m) (cb : List UInt8) (stmt : Nat → Out (DataW Unit)) : ∀ (f : Nat) (ss : List (DataW Unit)) (k : Nat), pStmts l cb stmt f ss k = pStmts m cb stmt f ss k
  | 0, _, _ => rfl
  | f + 1, ss, k => by
    unfold pStmts
    rw [h.kind]
    cases isKind m k cb with
    | true => rfl
    | false =>
      simp only [cond_false]
      cases stmt k with
      | error y => rfl
      | ok y => exact h.stmts cb stmt f _ _
theorem Al.stmtAt (h : Al l m) : ∀ (d k : Nat), pStmtAt l d k = pStmtAt m d k
  | 0, _ => rfl
  | d + 1, k => by
    have ih : pStmtAt l d = pStmtAt m d := by
      funext k
      exact h.stmtAt d k
    have hi : (fun k' => pStmts l dedentB.toList (pStmtAt m d) (l.length + 1) [] k') = (fun k' => pStmts m dedentB.toList (pStmtAt m d) (m.length + 1) [] k') := by
      funext k'
      rw [h.stmts, h.len]
    have ho : pOneAt l = pOneAt m := by
      funext k
      unfold pOneAt
      rw [h.term]
    unfold pStmtAt pStmtIn
    rw [ih, hi, h.blockOf, ho, h.term, h.termSet, h.line, h.attempt, h.func, h.each, h.statement]
    have hc : (fun k => pChoice l (pOneAt m) (pBlockOf m (12 - d) (fun k' => pStmts m dedentB.toList (pStmtAt m d) (m.length + 1) [] k')) l.length k) = (fun k => pChoice m (pOneAt m) (pBlockOf m (12 - d) (fun k' => pStmts m dedentB.toList (pStmtAt m d) (m.length + 1) [] k')) m.length k) := by
      funext k
      rw [h.choice, h.len]
    rw [hc]
theorem read_al (h : Al l m) : pRead l = pRead m := by
  unfold pRead
  have ih : pStmtAt l 12 = pStmtAt m 12 := by
    funext k
    exact h.stmtAt 12 k
  rw [ih, h.stmts, h.len]
end Go.Proofs.YtcpalppfhohbnaaGreatDoor
