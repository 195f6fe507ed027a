/- Package tree: every statement. -/
import Derived.Test.YtpidanllncneaaaGreatDoorStmtEToStmtM
import Derived.Test.YtpidanllncneaaaGreatDoorStmtO
import Derived.Test.YtpidanllncneaaaGreatDoorStmtP
import Derived.Test.YtpidanllncneaaaGreatDoorStmtFToStmtQ
import Derived.Test.YtpidanllncneaaaGreatDoorBlanksPToToks
namespace Go.Proofs.YtpidanllncneaaaGreatDoor
open Go.RowKit

def dedentB : ByteArray := ⟨#[100, 101, 100, 101, 110, 116]⟩
def endB : ByteArray := ⟨#[101, 110, 100]⟩
def pOneAt (l : List (ByteArray × ByteArray × Nat)) (k : Nat) : Out (List (DataW Unit)) := pOne (pTerm l k)
/-- A statement in bl blocks, out of what a statement within is. -/
def pStmtIn (l : List (ByteArray × ByteArray × Nat)) (blk : Nat → Out (List (DataW Unit))) (k : Nat) : Out (DataW Unit) :=
  pStatement l (fun k => pChoice l (pOneAt l) blk l.length k) (pWhile (pOneAt l) blk) (pEach l (pOneAt l) blk) (pFunc l blk) (pAttempt l blk) (pLine l (pTerm l) (pOneAt l) (pTermSet l (pTerm l))) k
def pStmtAt (l : List (ByteArray × ByteArray × Nat)) : Nat → Nat → Out (DataW Unit)
  | 0, k => .error (k, false)
  | d + 1, k => pStmtIn l (pBlockOf l (12 - d) (fun k' => pStmts l dedentB.toList (pStmtAt l d) (l.length + 1) [] k')) k
theorem statementAt {p g cap : Nat} {rk : Value} {l : List (ByteArray × ByteArray × Nat)} {a0 a1 : Addr} (T : TokS l) : ∀ (d bl k : Nat), bl + d = 12 → k < l.length → ReadsS 21 #[.pointer (some ⟨p, 0, none⟩)] p g cap rk l k bl 0 a0 a1 (pStmtAt l (d + 1) k) := by
  intro d
  induction d with
  | zero =>
    intro bl k hbl hk
    have hb : bl = 12 - 0 := by omega
    unfold pStmtAt pStmtIn
    have H1 : ∀ k', k < k' → k' < l.length → ReadsL 36 #[.pointer (some ⟨p, 0, none⟩)] p g cap rk l k' bl 0 a0 a1 (pOneAt l k') := fun k' _ h => oneAt T.ok h
    have H2 : ∀ k', k < k' → k' < l.length → ReadsSL 37 #[.pointer (some ⟨p, 0, none⟩)] p g cap rk l k' bl 0 a0 a1 (pBlockOf l (12 - 0) (fun k' => pStmts l dedentB.toList (pStmtAt l 0) (l.length + 1) [] k') k') := fun k' _ h => by
      rw [← hb]
      exact blockOf_any T h (by omega) _ (fun k'' _ _ h3 => by omega)
    exact statement_any T hk _ _ _ _ _ _ _ H1 H2 (fun k' h1 h2 => choice_any (lo := k + 1) T _ _ (fun k' h => H1 k' h) (fun k' h => H2 k' h) l.length k' h1 h2 (by omega)) (fun k' h1 h2 => each_any T h2 _ _ (fun k2 h => H1 k2 (by omega)) (fun k2 h => H2 k2 (by omega))) (fun k' h1 h2 => function_any T h2 _ (fun k2 h => H2 k2 (by omega))) (fun k' h1 h2 => attempt_any T h2 _ (fun k2 h => H2 k2 (by omega))) (tline_any T hk _ _ _ (fun k' _ h => termAt T.ok h) H1 (termOrSet_any T hk _ (term_ix l) (fun k' _ h => termAt T.ok h)))
  | succ d IH =>
    intro bl k hbl hk
    have hb : bl = 12 - (d + 1) := by omega
    unfold pStmtAt pStmtIn
    have H1 : ∀ k', k < k' → k' < l.length → ReadsL 36 #[.pointer (some ⟨p, 0, none⟩)] p g cap rk l k' bl 0 a0 a1 (pOneAt l k') := fun k' _ h => oneAt T.ok h
    have H2 : ∀ k', k < k' → k' < l.length → ReadsSL 37 #[.pointer (some ⟨p, 0, none⟩)] p g cap rk l k' bl 0 a0 a1 (pBlockOf l (12 - (d + 1)) (fun k' => pStmts l dedentB.toList (pStmtAt l (d + 1)) (l.length + 1) [] k') k') := fun k' _ h => by
      rw [← hb]
      exact blockOf_any T h (by omega) _ (fun k'' _ h2 _ => statements_any dedentB T h2 _ (fun k3 _ h4 => IH (bl + 1) k3 (by omega) h4))
    exact statement_any T hk _ _ _ _ _ _ _ H1 H2 (fun k' h1 h2 => choice_any (lo := k + 1) T _ _ (fun k' h => H1 k' h) (fun k' h => H2 k' h) l.length k' h1 h2 (by omega)) (fun k' h1 h2 => each_any T h2 _ _ (fun k2 h => H1 k2 (by omega)) (fun k2 h => H2 k2 (by omega))) (fun k' h1 h2 => function_any T h2 _ (fun k2 h => H2 k2 (by omega))) (fun k' h1 h2 => attempt_any T h2 _ (fun k2 h => H2 k2 (by omega))) (tline_any T hk _ _ _ (fun k' _ h => termAt T.ok h) H1 (termOrSet_any T hk _ (term_ix l) (fun k' _ h => termAt T.ok h)))
/-- A program. -/
def pRead (l : List (ByteArray × ByteArray × Nat)) : Out (List (DataW Unit)) := pStmts l endB.toList (pStmtAt l 12) (l.length + 1) [] 0
theorem programAt {p g cap : Nat} {rk : Value} {l : List (ByteArray × ByteArray × Nat)} {a0 a1 : Addr} (T : TokS l) (hl : 0 < l.length) : ReadsSL 11 #[.pointer (some ⟨p, 0, none⟩), .string endB] p g cap rk l 0 1 0 a0 a1 (pRead l) :=
  statements_any endB T hl _ (fun k _ h => statementAt T 11 1 k rfl h)
end Go.Proofs.YtpidanllncneaaaGreatDoor

/- The law TreeBlocks, plain: what Read comes to at blocks, and brackets, in each other. -/
namespace Go.Proofs.YtpidanllncneaaaGreatDoor
open Go.RowKit

/-! Tokens. -/
def tokIf (i : Nat) : ByteArray × ByteArray × Nat := (kWord, kIf, i)
def tokA (i : Nat) : ByteArray × ByteArray × Nat := (kName, ⟨#[97]⟩, i)
def tokC (i : Nat) : ByteArray × ByteArray × Nat := (kOp, colon, i)
def tokN (i : Nat) : ByteArray × ByteArray × Nat := (kNewline, ⟨#[]⟩, i)
def tokI (i : Nat) : ByteArray × ByteArray × Nat := (kIndent, ⟨#[]⟩, i)
def tokD (i : Nat) : ByteArray × ByteArray × Nat := (kDedent, ⟨#[]⟩, i)
def tokE (i : Nat) : ByteArray × ByteArray × Nat := (kEnd, ⟨#[]⟩, i)
def tokL1 (i : Nat) : ByteArray × ByteArray × Nat := (kOp, lbrk, i)
def tokR1 (i : Nat) : ByteArray × ByteArray × Nat := (kOp, rbrk, i)
theorem mark_of {l : List (ByteArray × ByteArray × Nat)} {k : Nat} {x : ByteArray × ByteArray × Nat} {ts : List ByteArray} {b : Bool} (h : l[k]? = some x) (hb : markB x ts = b) : markAt l k ts = b := by
  unfold markAt
  rw [h]
  exact hb
theorem kind_of {l : List (ByteArray × ByteArray × Nat)} {k : Nat} {x : ByteArray × ByteArray × Nat} {ts : List UInt8} {b : Bool} (h : l[k]? = some x) (hb : (x.1.toList == ts) = b) : isKind l k ts = b := by
  unfold isKind
  rw [h]
  exact hb
/-- A term may begin here: no lambda, no not, no minus. -/
def Starts (l : List (ByteArray × ByteArray × Nat)) (k : Nat) : Prop := markAt l k [kLambda] = false ∧ markAt l k [kNot] = false ∧ markAt l k [kMinus] = false
/-- A term ends here. -/
def Stops (l : List (ByteArray × ByteArray × Nat)) (k : Nat) : Prop := (∀ r ∈ [1, 2, 4, 5, 6], markAt l k (rankOps r) = false) ∧ markAt l k [lpar] = false ∧ markAt l k [lbrk] = false
theorem bsidesOn_stop {l : List (ByteArray × ByteArray × Nat)} {r : Nat} {sub : Nat → Out (DataW Unit)} {f : Nat} {e : DataW Unit} {k : Nat} (h : markAt l k (rankOps r) = false) : pSidesOn l r sub (f + 1) e k = .ok (e, k) := by
  unfold pSidesOn
  unfold markAt at h
  cases hx : l[k]? with
  | none => rfl
  | some x =>
    rw [hx] at h
    simp only at h ⊢
    rw [h]
    rfl
theorem bsides_stop {l : List (ByteArray × ByteArray × Nat)} {r : Nat} {sub : Nat → Out (DataW Unit)} {k : Nat} {o : Out (DataW Unit)} (h : sub k = o) (hq : ∀ e k1, o = .ok (e, k1) → markAt l k1 (rankOps r) = false) : pSides l r sub k = o := by
  unfold pSides
  rw [h]
  cases o with
  | error y => rfl
  | ok z =>
    obtain ⟨e, k1⟩ := z
    exact bsidesOn_stop (hq e k1 rfl)
/-- Down to the last rank. -/
theorem ranked_down {l : List (ByteArray × ByteArray × Nat)} {f dp k : Nat} {o : Out (DataW Unit)} (hs : Starts l k) (h8 : pRanked l f dp 8 k = o) (hq : ∀ e k1, o = .ok (e, k1) → Stops l k1) : pRanked l (f + 8) dp 0 k = o := by
  have q := fun r (hr : r ∈ [1, 2, 4, 5, 6]) e k1 (he : o = .ok (e, k1)) => (hq e k1 he).1 r hr
  have r7 : pRanked l (f + 1) dp 7 k = o := by
    unfold pRanked
    rw [if_neg (by decide), if_neg (by decide), if_pos rfl]
    unfold pAhead
    rw [hs.2.2]
    exact h8
  have r6 : pRanked l (f + 2) dp 6 k = o := by
    unfold pRanked
    rw [if_neg (by decide), if_neg (by decide), if_neg (by decide), if_neg (by decide)]
    exact bsides_stop r7 (q 6 (by decide))
  have r5 : pRanked l (f + 3) dp 5 k = o := by
    unfold pRanked
    rw [if_neg (by decide), if_neg (by decide), if_neg (by decide), if_neg (by decide)]
    exact bsides_stop r6 (q 5 (by decide))
  have r4 : pRanked l (f + 4) dp 4 k = o := by
    unfold pRanked
    rw [if_neg (by decide), if_neg (by decide), if_neg (by decide), if_neg (by decide)]
    exact bsides_stop r5 (q 4 (by decide))
  have r3 : pRanked l (f + 5) dp 3 k = o := by
    unfold pRanked
    rw [if_neg (by decide), if_pos rfl]
    unfold pAhead
    rw [hs.2.1]
    exact r4
  have r2 : pRanked l (f + 6) dp 2 k = o := by
    unfold pRanked
    rw [if_neg (by decide), if_neg (by decide), if_neg (by decide), if_neg (by decide)]
    exact bsides_stop r3 (q 2 (by decide))
  have r1 : pRanked l (f + 7) dp 1 k = o := by
    unfold pRanked
    rw [if_neg (by decide), if_neg (by decide), if_neg (by decide), if_neg (by decide)]
    exact bsides_stop r2 (q 1 (by decide))
  unfold pRanked
  rw [if_pos rfl]
  unfold pAhead
  rw [hs.1]
  exact r1
theorem bpost_stop {l : List (ByteArray × ByteArray × Nat)} {dp : Nat} {term : Nat → Out (DataW Unit)} {o : Out (DataW Unit)} (hq : ∀ e k1, o = .ok (e, k1) → Stops l k1) : pPost l dp term o = o := by
  unfold pPost
  cases o with
  | error y => rfl
  | ok z =>
    obtain ⟨e, k1⟩ := z
    have h := hq e k1 rfl
    show pPostOn l dp term (l.length + 1) e k1 = _
    unfold pPostOn
    rw [h.2.1, h.2.2]
    rfl
/-- Tokens from k on: so many opening brackets, and as many closing ones; behind them a term ends. -/
structure Nest (l : List (ByteArray × ByteArray × Nat)) (k n : Nat) : Prop where
  op : ∀ j, j < n → ∃ i, l[k + j]? = some (tokL1 i)
  cl : ∀ j, j < n → ∃ i, l[k + n + j]? = some (tokR1 i)
  stop : Stops l (k + 2 * n)
theorem starts_op {l : List (ByteArray × ByteArray × Nat)} {k i : Nat} (h : l[k]? = some (tokL1 i)) : Starts l k := ⟨mark_of h (by kernel_rfl), mark_of h (by kernel_rfl), mark_of h (by kernel_rfl)⟩
theorem stops_cl {l : List (ByteArray × ByteArray × Nat)} {k i : Nat} (h : l[k]? = some (tokR1 i)) : Stops l k := by
  refine ⟨fun r hr => ?_, mark_of h (by kernel_rfl), mark_of h (by kernel_rfl)⟩
  simp only [List.mem_cons, List.not_mem_nil, or_false] at hr
  rcases hr with rfl | rfl | rfl | rfl | rfl <;> exact mark_of h (by kernel_rfl)
theorem atom_op {l : List (ByteArray × ByteArray × Nat)} {dp k i : Nat} {term : Nat → Out (DataW Unit)} {terms pairs : Nat → Out (List (DataW Unit))} (h : l[k]? = some (tokL1 i)) : pAtom l dp term terms pairs k = pDeep dp k (pList kList (terms (k + 1))) := by
  unfold pAtom
  rw [h]
  show (bif isIntB (tokL1 i) then _ else _) = _
  rw [show isIntB (tokL1 i) = false by kernel_rfl, show (isStrB (tokL1 i) || isNameB (tokL1 i)) = false by kernel_rfl, show markB (tokL1 i) [kNone, kTrue, kFalse] = false by kernel_rfl, show markB (tokL1 i) [lpar] = false by kernel_rfl, show markB (tokL1 i) [lbrk] = true by kernel_rfl]
  rfl
theorem rank8_op {l : List (ByteArray × ByteArray × Nat)} {f dp k i : Nat} (h : l[k]? = some (tokL1 i)) : pRanked l (f + 1) dp 8 k = pPost l dp (pRanked l f (dp + 1) 0) (pDeep dp k (pList kList (pUpTo l (pTermStep (pRanked l f (dp + 1) 0)) rbrk l.length [] (k + 1)))) := by
  unfold pRanked
  rw [if_neg (by decide), if_neg (by decide), if_neg (by decide), if_pos rfl, atom_op h]
theorem len_pos {l : List (ByteArray × ByteArray × Nat)} {k : Nat} {x : ByteArray × ByteArray × Nat} (h : l[k]? = some x) : ∃ m, l.length = m + 1 := by
  have := (List.getElem?_eq_some_iff.1 h).1
  exact ⟨l.length - 1, by omega⟩
theorem Nest.inner {l : List (ByteArray × ByteArray × Nat)} {k n : Nat} (h : Nest l k (n + 2)) : Nest l (k + 1) (n + 1) := by
  refine ⟨fun j hj => ?_, fun j hj => ?_, ?_⟩
  · obtain ⟨i, hi⟩ := h.op (j + 1) (by omega)
    exact ⟨i, by rw [show k + 1 + j = k + (j + 1) by omega]; exact hi⟩
  · obtain ⟨i, hi⟩ := h.cl j (by omega)
    exact ⟨i, by rw [show k + 1 + (n + 1) + j = k + (n + 2) + j by omega]; exact hi⟩
  · obtain ⟨i, hi⟩ := h.cl (n + 1) (by omega)
    rw [show k + 1 + 2 * (n + 1) = k + (n + 2) + (n + 1) by omega]
    exact stops_cl hi
/-- Brackets that are not too deep are read. -/
theorem nest_ok (l : List (ByteArray × ByteArray × Nat)) : ∀ (n f dp k : Nat), Nest l k (n + 1) → 9 * (n + 1) ≤ f → dp + (n + 1) ≤ 12 → ∃ e, pRanked l f dp 0 k = .ok (e, k + 2 * (n + 1))
  | 0, f, dp, k, h, hf, hd => by
    obtain ⟨i, hi⟩ := h.op 0 (by omega)
    rw [Nat.add_zero] at hi
    obtain ⟨i', hi'⟩ := h.cl 0 (by omega)
    obtain ⟨g, rfl⟩ : ∃ g, f = g + 1 + 8 := ⟨f - 9, by omega⟩
    refine ⟨mkE kList 0 ⟨#[]⟩ [] [], ranked_down (starts_op hi) ?_ (fun e k1 he => ?_)⟩
    · rw [rank8_op hi]
      unfold pUpTo
      rw [mark_of (l := l) (k := k + 1) (x := tokR1 i') (by simpa using hi') (show markB (tokR1 i') [rbrk] = true by kernel_rfl)]
      show pPost l dp _ (pDeep dp k (.ok (mkE kList 0 ⟨#[]⟩ [] [], k + 1 + 1))) = _
      unfold pDeep
      rw [if_neg (by omega)]
      refine bpost_stop (fun e k1 he => ?_)
      cases he
      exact h.stop
    · cases he
      exact h.stop
  | n + 1, f, dp, k, h, hf, hd => by
    obtain ⟨i, hi⟩ := h.op 0 (by omega)
    rw [Nat.add_zero] at hi
    obtain ⟨i1, hi1⟩ := h.op 1 (by omega)
    obtain ⟨i', hi'⟩ := h.cl (n + 1) (by omega)
    obtain ⟨g, rfl⟩ : ∃ g, f = g + 1 + 8 := ⟨f - 9, by omega⟩
    obtain ⟨e, he⟩ := nest_ok l n g (dp + 1) (k + 1) h.inner (by omega) (by omega)
    obtain ⟨m, hm⟩ := len_pos hi
    have hc : l[k + 1 + 2 * (n + 1)]? = some (tokR1 i') := by rw [show k + 1 + 2 * (n + 1) = k + (n + 2) + (n + 1) by omega]; exact hi'
    refine ⟨mkE kList 0 ⟨#[]⟩ [] [e], ranked_down (starts_op hi) ?_ (fun e k1 he => ?_)⟩
    · rw [rank8_op hi]
      have hu : pUpTo l (pTermStep (pRanked l g (dp + 1) 0)) rbrk l.length [] (k + 1) = .ok ([e], k + 1 + 2 * (n + 1) + 1) := by
        have hmo : ∀ step : List (DataW Unit) → Nat → Out (List (DataW Unit)), pMore l step l.length [e] (k + 1 + 2 * (n + 1)) = .ok ([e], k + 1 + 2 * (n + 1)) := fun step => by
          rw [hm]
          unfold pMore
          rw [mark_of hc (show markB (tokR1 i') [comma] = false by kernel_rfl)]
          rfl
        have hst : pTermStep (pRanked l g (dp + 1) 0) [] (k + 1) = .ok ([e], k + 1 + 2 * (n + 1)) := by
          unfold pTermStep
          rw [he]
          rfl
        unfold pUpTo pSeveral
        rw [mark_of hi1 (show markB (tokL1 i1) [rbrk] = false by kernel_rfl)]
        simp only [cond_false, hst, hmo, mark_of hc (show markB (tokR1 i') [rbrk] = true by kernel_rfl), cond_true]
      rw [hu]
      show pPost l dp _ (pDeep dp k (.ok (mkE kList 0 ⟨#[]⟩ [] [e], k + 1 + 2 * (n + 1) + 1))) = _
      unfold pDeep
      rw [if_neg (by omega), show k + 1 + 2 * (n + 1) + 1 = k + 2 * (n + 1 + 1) by omega]
      refine bpost_stop (fun e k1 he => ?_)
      cases he
      exact h.stop
    · cases he
      exact h.stop
/-- Brackets that are too deep are not. -/
theorem nest_deep (l : List (ByteArray × ByteArray × Nat)) : ∀ (n f dp k : Nat), Nest l k (n + 1) → 9 * (n + 1) ≤ f → dp ≤ 12 → 12 < dp + (n + 1) → ∃ y, pRanked l f dp 0 k = .error (y, true)
  | 0, f, dp, k, h, hf, hd, ht => by
    obtain ⟨i, hi⟩ := h.op 0 (by omega)
    rw [Nat.add_zero] at hi
    obtain ⟨g, rfl⟩ : ∃ g, f = g + 1 + 8 := ⟨f - 9, by omega⟩
    refine ⟨k, ranked_down (starts_op hi) ?_ (fun e k1 he => by cases he)⟩
    rw [rank8_op hi]
    unfold pDeep
    rw [if_pos (by omega)]
    rfl
  | n + 1, f, dp, k, h, hf, hd, ht => by
    obtain ⟨i, hi⟩ := h.op 0 (by omega)
    rw [Nat.add_zero] at hi
    obtain ⟨i1, hi1⟩ := h.op 1 (by omega)
    obtain ⟨g, rfl⟩ : ∃ g, f = g + 1 + 8 := ⟨f - 9, by omega⟩
    by_cases e12 : dp = 12
    · refine ⟨k, ranked_down (starts_op hi) ?_ (fun e k1 he => by cases he)⟩
      rw [rank8_op hi]
      unfold pDeep
      rw [if_pos e12]
      rfl
    · obtain ⟨y, hy⟩ := nest_deep l n g (dp + 1) (k + 1) h.inner (by omega) (by omega) (by omega)
      refine ⟨y, ranked_down (starts_op hi) ?_ (fun e k1 he => by cases he)⟩
      rw [rank8_op hi]
      have hu : pUpTo l (pTermStep (pRanked l g (dp + 1) 0)) rbrk l.length [] (k + 1) = .error (y, true) := by
        unfold pUpTo pSeveral pTermStep
        rw [mark_of hi1 (show markB (tokL1 i1) [rbrk] = false by kernel_rfl), hy]
        rfl
      rw [hu]
      show pPost l dp _ (pDeep dp k (.error (y, true))) = _
      unfold pDeep
      rw [if_neg e12]
      rfl
theorem starts_a {l : List (ByteArray × ByteArray × Nat)} {k i : Nat} (h : l[k]? = some (tokA i)) : Starts l k := ⟨mark_of h (by kernel_rfl), mark_of h (by kernel_rfl), mark_of h (by kernel_rfl)⟩
theorem stops_n {l : List (ByteArray × ByteArray × Nat)} {k i : Nat} (h : l[k]? = some (tokN i)) : Stops l k := by
  refine ⟨fun r hr => ?_, mark_of h (by kernel_rfl), mark_of h (by kernel_rfl)⟩
  simp only [List.mem_cons, List.not_mem_nil, or_false] at hr
  rcases hr with rfl | rfl | rfl | rfl | rfl <;> exact mark_of h (by kernel_rfl)
theorem stops_c {l : List (ByteArray × ByteArray × Nat)} {k i : Nat} (h : l[k]? = some (tokC i)) : Stops l k := by
  refine ⟨fun r hr => ?_, mark_of h (by kernel_rfl), mark_of h (by kernel_rfl)⟩
  simp only [List.mem_cons, List.not_mem_nil, or_false] at hr
  rcases hr with rfl | rfl | rfl | rfl | rfl <;> exact mark_of h (by kernel_rfl)
/-- The name a is read. -/
theorem bname_ok {l : List (ByteArray × ByteArray × Nat)} {k i : Nat} (h : l[k]? = some (tokA i)) (hs : Stops l (k + 1)) : ∃ e, pTerm l k = .ok (e, k + 1) := by
  refine ⟨mkE kName 0 ⟨#[97]⟩ [] [], ?_⟩
  unfold pTerm fuelE
  refine ranked_down (f := l.length * 10 + 2) (starts_a h) ?_ (fun e k1 he => by cases he; exact hs)
  unfold pRanked
  rw [if_neg (by decide), if_neg (by decide), if_neg (by decide), if_pos rfl]
  have ha : ∀ (term : Nat → Out (DataW Unit)) (terms pairs : Nat → Out (List (DataW Unit))), pAtom l 0 term terms pairs k = .ok (mkE kName 0 ⟨#[97]⟩ [] [], k + 1) := fun term terms pairs => by
    unfold pAtom
    rw [h]
    show (bif isIntB (tokA i) then _ else _) = _
    rw [show isIntB (tokA i) = false by kernel_rfl, show (isStrB (tokA i) || isNameB (tokA i)) = true by kernel_rfl]
    rfl
  rw [ha]
  exact bpost_stop (fun e k1 he => by cases he; exact hs)
/-- The innermost line: its term and its end. -/
structure Leaf (l : List (ByteArray × ByteArray × Nat)) (k m : Nat) : Prop where
  none1 : markAt l k [kIf] = false ∧ markAt l k [kWhile] = false ∧ markAt l k [kFor] = false ∧ markAt l k [kDef] = false ∧ markAt l k [kTry] = false
  none2 : markAt l k [kBreak, kContinue, kPass] = false ∧ markAt l k [kGlobal, kNonlocal] = false ∧ markAt l k [kReturn] = false ∧ markAt l k [kRaise] = false ∧ markAt l k [kDel] = false
  noded : isKind l k dedentB.toList = false ∧ isKind l k endB.toList = false
  nl : ∃ i, l[k + m]? = some (tokN i)
theorem leaf_eq {l : List (ByteArray × ByteArray × Nat)} {k m d : Nat} (h : Leaf l k m) : pStmtAt l (d + 1) k = (match pTermSet l (pTerm l) k with
    | .error y => .error y
    | .ok (s, k1) => bif isKind l k1 [110, 101, 119, 108, 105, 110, 101] then .ok (s, k1 + 1) else .error (k1, false)) := by
  obtain ⟨⟨a1, a2, a3, a4, a5⟩, ⟨b1, b2, b3, b4, b5⟩, _, _⟩ := h
  unfold pStmtAt pStmtIn pStatement
  rw [a1, a2, a3, a4, a5]
  unfold pLine
  rw [b1, b2, b3, b4, b5]
  rfl
theorem leaf_ok {l : List (ByteArray × ByteArray × Nat)} {k m d : Nat} (h : Leaf l k m) {e : DataW Unit} (ht : pTerm l k = .ok (e, k + m)) : ∃ s, pStmtAt l (d + 1) k = .ok (s, k + m + 1) := by
  obtain ⟨i, hn⟩ := h.nl
  have q : markAt l (k + m) [kEq] = false := mark_of hn (by kernel_rfl)
  have hts : pTermSet l (pTerm l) k = .ok (mkS kExpr ⟨#[]⟩ [] [e] [] [], k + m) := by
    unfold pTermSet
    rw [ht]
    simp only [q, Bool.and_false, cond_false]
  refine ⟨mkS kExpr ⟨#[]⟩ [] [e] [] [], ?_⟩
  rw [leaf_eq h, hts]
  simp only [kind_of hn (show ((tokN i).1.toList == [110, 101, 119, 108, 105, 110, 101]) = true by kernel_rfl), cond_true]
theorem leaf_err {l : List (ByteArray × ByteArray × Nat)} {k m d : Nat} (h : Leaf l k m) {y : Nat × Bool} (ht : pTerm l k = .error y) : pStmtAt l (d + 1) k = .error y := by
  rw [leaf_eq h]
  unfold pTermSet
  rw [ht]
/-- Blocks in each other, from k on: b of them; the innermost line has m tokens and its end. -/
structure Blocks (l : List (ByteArray × ByteArray × Nat)) (k b m : Nat) : Prop where
  head : ∀ j, j < b → (∃ i, l[k + 5 * j]? = some (tokIf i)) ∧ (∃ i, l[k + 5 * j + 1]? = some (tokA i)) ∧ (∃ i, l[k + 5 * j + 2]? = some (tokC i)) ∧ (∃ i, l[k + 5 * j + 3]? = some (tokN i)) ∧ (∃ i, l[k + 5 * j + 4]? = some (tokI i))
  leaf : Leaf l (k + 5 * b) m
  ded : ∀ j, j < b → ∃ i, l[k + 5 * b + m + 1 + j]? = some (tokD i)
  more : markAt l (k + 5 * b + m + 1 + b) [kElif] = false ∧ markAt l (k + 5 * b + m + 1 + b) [kElse] = false
theorem Blocks.inner {l : List (ByteArray × ByteArray × Nat)} {k b m : Nat} (h : Blocks l k (b + 1) m) : Blocks l (k + 5) b m := by
  refine ⟨fun j hj => ?_, ?_, fun j hj => ?_, ?_⟩
  · have := h.head (j + 1) (by omega)
    rw [show k + 5 * (j + 1) = k + 5 + 5 * j by omega] at this
    exact this
  · have := h.leaf
    rw [show k + 5 * (b + 1) = k + 5 + 5 * b by omega] at this
    exact this
  · obtain ⟨i, hi⟩ := h.ded j (by omega)
    exact ⟨i, by rw [show k + 5 + 5 * b + m + 1 + j = k + 5 * (b + 1) + m + 1 + j by omega]; exact hi⟩
  · obtain ⟨i, hi⟩ := h.ded b (by omega)
    rw [show k + 5 + 5 * b + m + 1 + b = k + 5 * (b + 1) + m + 1 + b by omega]
    exact ⟨mark_of hi (by kernel_rfl), mark_of hi (by kernel_rfl)⟩
theorem Blocks.first {l : List (ByteArray × ByteArray × Nat)} {k b m : Nat} (h : Blocks l k b m) : isKind l k dedentB.toList = false ∧ isKind l k endB.toList = false := by
  cases b with
  | zero => exact h.leaf.noded
  | succ b =>
    obtain ⟨⟨i, hi⟩, _⟩ := h.head 0 (by omega)
    rw [Nat.mul_zero, Nat.add_zero] at hi
    exact ⟨kind_of hi (by kernel_rfl), kind_of hi (by kernel_rfl)⟩
/-- An if whose block is read, and behind which nothing of it follows. -/
theorem if_ok {l : List (ByteArray × ByteArray × Nat)} {k b m d : Nat} (h : Blocks l k (b + 1) m) {ss : List (DataW Unit)} {k2 : Nat} (hb : pBlockOf l (12 - d) (fun k' => pStmts l dedentB.toList (pStmtAt l d) (l.length + 1) [] k') (k + 2) = .ok (ss, k2)) (h1 : markAt l k2 [kElif] = false) (h2 : markAt l k2 [kElse] = false) : ∃ s, pStmtAt l (d + 1) k = .ok (s, k2) := by
  obtain ⟨⟨i, hi⟩, ⟨i1, q1⟩, ⟨i2, q2⟩, _, _⟩ := h.head 0 (by omega)
  rw [Nat.mul_zero, Nat.add_zero] at hi q1 q2
  obtain ⟨e, he⟩ := bname_ok q1 (stops_c q2)
  obtain ⟨n, hn⟩ := len_pos hi
  refine ⟨mkS kIf ⟨#[]⟩ [] [e] ss [], ?_⟩
  unfold pStmtAt pStmtIn pStatement
  rw [mark_of hi (show markB (tokIf i) [kIf] = true by kernel_rfl)]
  show pChoice l _ _ l.length (k + 1) = _
  have hc : ∀ f, pChoice l (pOneAt l) (pBlockOf l (12 - d) (fun k' => pStmts l dedentB.toList (pStmtAt l d) (l.length + 1) [] k')) (f + 1) (k + 1) = .ok (mkS kIf ⟨#[]⟩ [] [e] ss [], k2) := fun f => by
    unfold pChoice pOneAt pOne
    rw [he]
    simp only [hb, h1, h2, cond_false]
  rw [hn]
  exact hn ▸ hc n
theorem if_err {l : List (ByteArray × ByteArray × Nat)} {k b m d : Nat} (h : Blocks l k (b + 1) m) {y : Nat × Bool} (hb : pBlockOf l (12 - d) (fun k' => pStmts l dedentB.toList (pStmtAt l d) (l.length + 1) [] k') (k + 2) = .error y) : pStmtAt l (d + 1) k = .error y := by
  obtain ⟨⟨i, hi⟩, ⟨i1, q1⟩, ⟨i2, q2⟩, _, _⟩ := h.head 0 (by omega)
  rw [Nat.mul_zero, Nat.add_zero] at hi q1 q2
  obtain ⟨e, he⟩ := bname_ok q1 (stops_c q2)
  obtain ⟨n, hn⟩ := len_pos hi
  unfold pStmtAt pStmtIn pStatement
  rw [mark_of hi (show markB (tokIf i) [kIf] = true by kernel_rfl)]
  show pChoice l _ _ l.length (k + 1) = _
  have hc : ∀ f, pChoice l (pOneAt l) (pBlockOf l (12 - d) (fun k' => pStmts l dedentB.toList (pStmtAt l d) (l.length + 1) [] k')) (f + 1) (k + 1) = .error y := fun f => by
    unfold pChoice pOneAt pOne
    rw [he]
    simp only [hb]
  rw [hn]
  exact hn ▸ hc n
theorem block_eq {l : List (ByteArray × ByteArray × Nat)} {k b m bl : Nat} (h : Blocks l k (b + 1) m) (inner : Nat → Out (List (DataW Unit))) : pBlockOf l bl inner (k + 2) = if bl = 12 then .error (k + 4, true) else match inner (k + 5) with
    | .error x => .error x
    | .ok (ss, k') => bif isKind l k' [100, 101, 100, 101, 110, 116] then .ok (ss, k' + 1) else .error (k', false) := by
  obtain ⟨_, _, ⟨i2, h2⟩, ⟨i3, h3⟩, ⟨i4, h4⟩⟩ := h.head 0 (by omega)
  rw [Nat.mul_zero, Nat.add_zero] at h2 h3 h4
  unfold pBlockOf
  rw [mark_of h2 (show markB (tokC i2) [colon] = true by kernel_rfl)]
  show pBlock l bl inner (k + 3) = _
  unfold pBlock
  rw [kind_of h3 (show ((tokN i3).1.toList == [110, 101, 119, 108, 105, 110, 101]) = true by kernel_rfl), show k + 3 + 1 = k + 4 by omega, kind_of h4 (show ((tokI i4).1.toList == [105, 110, 100, 101, 110, 116]) = true by kernel_rfl)]
  rfl
theorem stmts_two {l : List (ByteArray × ByteArray × Nat)} {cb : List UInt8} {stmt : Nat → Out (DataW Unit)} {s : DataW Unit} {k k' f : Nat} (h0 : isKind l k cb = false) (hs : stmt k = .ok (s, k')) (h1 : isKind l k' cb = true) : pStmts l cb stmt (f + 2) [] k = .ok ([s], k') := by
  unfold pStmts
  rw [h0]
  simp only [hs, cond_false]
  unfold pStmts
  rw [h1]
  rfl
theorem stmts_err {l : List (ByteArray × ByteArray × Nat)} {cb : List UInt8} {stmt : Nat → Out (DataW Unit)} {y : Nat × Bool} {k f : Nat} (h0 : isKind l k cb = false) (hs : stmt k = .error y) : pStmts l cb stmt (f + 1) [] k = .error y := by
  unfold pStmts
  rw [h0]
  simp only [hs, cond_false]
theorem dedent_bytes : dedentB.toList = [100, 101, 100, 101, 110, 116] := by kernel_rfl
/-- Blocks that are not too deep are read, if the innermost line is. -/
theorem blocks_ok (l : List (ByteArray × ByteArray × Nat)) (m : Nat) : ∀ (b d k : Nat), Blocks l k b m → b ≤ d → d ≤ 11 → (∃ e, pTerm l (k + 5 * b) = .ok (e, k + 5 * b + m)) → ∃ s, pStmtAt l (d + 1) k = .ok (s, k + 5 * b + m + 1 + b)
  | 0, d, k, h, _, _, ht => by
    obtain ⟨e, he⟩ := ht
    exact leaf_ok h.leaf he
  | b + 1, 0, k, h, hb, _, _ => by omega
  | b + 1, d + 1, k, h, hb, hd, ht => by
    obtain ⟨s, hs⟩ := blocks_ok l m b d (k + 5) h.inner (by omega) (by omega) (by rw [show k + 5 + 5 * b = k + 5 * (b + 1) by omega]; exact ht)
    obtain ⟨i, hi⟩ := h.ded b (by omega)
    rw [show k + 5 * (b + 1) + m + 1 + b = k + 5 + 5 * b + m + 1 + b by omega] at hi
    obtain ⟨n, hn⟩ := len_pos hi
    have hkd : isKind l (k + 5 + 5 * b + m + 1 + b) dedentB.toList = true := kind_of hi (by kernel_rfl)
    have hin : pStmts l dedentB.toList (pStmtAt l (d + 1)) (l.length + 1) [] (k + 5) = .ok ([s], k + 5 + 5 * b + m + 1 + b) := by
      have := stmts_two (f := n) h.inner.first.1 hs hkd
      rw [hn]
      exact this
    have hbl : pBlockOf l (12 - (d + 1)) (fun k' => pStmts l dedentB.toList (pStmtAt l (d + 1)) (l.length + 1) [] k') (k + 2) = .ok ([s], k + 5 + 5 * b + m + 1 + b + 1) := by
      rw [block_eq h, if_neg (by omega)]
      simp only [hin]
      rw [← dedent_bytes, hkd]
      rfl
    have he : k + 5 + 5 * b + m + 1 + b + 1 = k + 5 * (b + 1) + m + 1 + (b + 1) := by omega
    rw [he] at hbl
    exact if_ok h hbl h.more.1 h.more.2
/-- Blocks that are too deep, or in which the innermost line is not read. -/
theorem blocks_deep (l : List (ByteArray × ByteArray × Nat)) (m : Nat) : ∀ (b d k : Nat), Blocks l k b m → d ≤ 11 → (d < b ∨ ∃ y, pTerm l (k + 5 * b) = .error (y, true)) → ∃ y, pStmtAt l (d + 1) k = .error (y, true)
  | 0, d, k, h, _, ht => by
    rcases ht with ht | ⟨y, hy⟩
    · omega
    · exact ⟨y, leaf_err h.leaf hy⟩
  | b + 1, 0, k, h, _, _ => by
    refine ⟨k + 4, if_err h ?_⟩
    rw [block_eq h, if_pos rfl]
  | b + 1, d + 1, k, h, hd, ht => by
    obtain ⟨y, hs⟩ := blocks_deep l m b d (k + 5) h.inner (by omega) (ht.imp (fun h => by omega) (fun h => by rw [show k + 5 + 5 * b = k + 5 * (b + 1) by omega]; exact h))
    refine ⟨y, if_err h ?_⟩
    rw [block_eq h, if_neg (by omega)]
    simp only [stmts_err h.inner.first.1 hs]
/-- The whole program: read, or not. -/
theorem read_ok {l : List (ByteArray × ByteArray × Nat)} {b m i : Nat} (h : Blocks l 0 b m) (hb : b ≤ 11) (he : l[5 * b + m + 1 + b]? = some (tokE i)) (ht : ∃ e, pTerm l (5 * b) = .ok (e, 5 * b + m)) : ∃ ss k, pRead l = .ok (ss, k) := by
  obtain ⟨s, hs⟩ := blocks_ok l m b 11 0 h hb (Nat.le_refl _) (by rw [Nat.zero_add]; exact ht)
  rw [Nat.zero_add] at hs
  obtain ⟨n, hn⟩ := len_pos he
  refine ⟨[s], 5 * b + m + 1 + b, ?_⟩
  unfold pRead
  rw [hn]
  exact stmts_two h.first.2 hs (kind_of he (by kernel_rfl))
theorem read_deep {l : List (ByteArray × ByteArray × Nat)} {b m : Nat} (h : Blocks l 0 b m) (ht : 11 < b ∨ ∃ y, pTerm l (5 * b) = .error (y, true)) : ∃ y, pRead l = .error (y, true) := by
  obtain ⟨y, hs⟩ := blocks_deep l m b 11 0 h (Nat.le_refl _) (by rw [Nat.zero_add]; exact ht)
  exact ⟨y, stmts_err h.first.2 hs⟩
end Go.Proofs.YtpidanllncneaaaGreatDoor
