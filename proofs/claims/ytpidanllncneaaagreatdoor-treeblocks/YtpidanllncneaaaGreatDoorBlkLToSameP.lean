/- The law TreeBlocks, plain: the tokens of blocks, and brackets, in each other. -/
import Derived.Test.YtpidanllncneaaaGreatDoorStmtRToBlkP
import Derived.Test.YtpidanllncneaaaGreatDoorLexZToLineL
import Derived.Test.YtpidanllncneaaaGreatDoorLexWToLexY
import Derived.Test.YtpidanllncneaaaGreatDoorBlanksPToToks
namespace Go.Proofs.YtpidanllncneaaaGreatDoor
open Go.RowKit

/-- A line's bytes that begin with no blank, hold no end, and are no comment. -/
structure Bytes (C : List UInt8) : Prop where
  first : ∃ c r, C = c :: r ∧ c ≠ 32 ∧ c ≠ 35
  noend : noEnd C
theorem blanks_rep (m : Nat) {C : List UInt8} (h : Bytes C) : blanksL (List.replicate m 32 ++ C) = m := by
  obtain ⟨c, r, rfl, h1, _⟩ := h.first
  have hc : blankB (c.toNat : Int) = false := by
    have : c.toNat ≠ 32 := fun e => h1 (UInt8.toNat_inj.mp e)
    simp [blankB]
    omega
  unfold blanksL
  induction m with
  | zero => simp [hc]
  | succ m ih =>
    rw [List.replicate_succ, List.cons_append, List.takeWhile]
    have : blankB (((32 : UInt8).toNat : Nat) : Int) = true := by decide
    simp only [this, List.length_cons, ih]
theorem skip_rep (m : Nat) {C : List UInt8} (h : Bytes C) : skipL (List.replicate m 32 ++ C) = m := by
  have hb := blanks_rep m h
  obtain ⟨c, r, rfl, _, h2⟩ := h.first
  unfold skipL
  rw [hb, List.drop_left' (by simp)]
  have : c.toNat ≠ 35 := fun e => h2 (UInt8.toNat_inj.mp e)
  simp only
  rw [if_neg (by simp; omega)]
theorem restL_rep (m f o : Nat) {C : List UInt8} (h : Bytes C) : restL (f + 1) (List.replicate m 32 ++ C) o = restL (f + 1) C (o + m) := by
  have h1 := skip_rep m h
  have h0 : skipL C = 0 := by simpa using skip_rep 0 h
  obtain ⟨c, r, hC, _, _⟩ := h.first
  have hne : ¬ m = (List.replicate m (32 : UInt8) ++ C).length := by rw [hC]; simp
  have hne0 : ¬ 0 = C.length := by rw [hC]; simp
  unfold restL
  rw [h1, h0, if_neg hne, if_neg hne0, List.drop_left' (by simp), List.drop_zero]
  cases tokL C with
  | none => simp
  | some x =>
    obtain ⟨k, t, j⟩ := x
    simp only [Nat.zero_add, Nat.add_zero]
    rw [← List.drop_drop, List.drop_left' (by simp), show o + (m + j) = o + m + j by omega]
/-- A line of so many blanks and such bytes. -/
theorem line_of (s : ByteArray) (C rest : List UInt8) (m : Nat) (pre : List UInt8) (h : s.data.toList = pre ++ (List.replicate m 32 ++ C ++ 10 :: rest)) (hC : Bytes C) (ts : List (ByteArray × ByteArray × Nat)) (hr : restL (m + C.length + 1) C (pre.length + m) = .ok ts)
    (st : List Int) (n : Nat) (tk : List Value) (st' : List Int) (n' : Nat) (tk' : List Value) (hst : settleP st m (pre.length + m) n tk = some (st', n', tk')) :
    lineStep s ⟨pre.length, st, n, tk⟩ = .ok ⟨pre.length + m + C.length + 1, st', n' + ts.length + 1, tk' ++ cellsOf ts ++ tokCells kNewline ⟨#[]⟩ (pre.length + m + C.length)⟩ := by
  have hz := data_size h
  simp at hz
  have hn : noEnd (List.replicate m 32 ++ C) := fun c hc => by
    rcases List.mem_append.1 hc with h1 | h1
    · rw [List.eq_of_mem_replicate h1]
      decide
    · exact hC.noend c h1
  have hl := lineStep_list s (10 :: rest) (List.replicate m 32 ++ C) pre (.inr ⟨rest, rfl⟩) hn h st n tk
  have hsk := skip_rep m hC
  have hb := blanks_rep m hC
  obtain ⟨c, r, hc, _, _⟩ := id hC.first
  rw [hl, hsk, hb, if_neg (by rw [hc]; simp), hst]
  have e : restL ((List.replicate m (32 : UInt8) ++ C).length + 1) (List.replicate m 32 ++ C) pre.length = .ok ts := by
    rw [restL_rep m _ _ hC]
    simpa using hr
  simp only [e]
  have e2 : (List.replicate m (32 : UInt8) ++ C).length = m + C.length := by simp
  rw [e2]
  unfold afterLine
  rw [if_pos (by omega), ← Nat.add_assoc]
theorem restL_more (f : Nat) {C : List UInt8} {o : Nat} {k t : ByteArray} {j : Nat} (h0 : skipL C = 0) (hne : C ≠ []) (ht : tokL C = some (k, t, j)) {ts : List (ByteArray × ByteArray × Nat)} (hr : restL f (C.drop j) (o + j) = .ok ts) : restL (f + 1) C o = .ok ((k, t, o) :: ts) := by
  have hl : ¬ 0 = C.length := fun e => hne (List.eq_nil_of_length_eq_zero e.symm)
  unfold restL
  rw [h0, if_neg hl, List.drop_zero, ht]
  simp only [Nat.zero_add, hr, Nat.add_zero]
theorem restL_nil (f o : Nat) : restL (f + 1) [] o = .ok [] := by
  unfold restL
  rw [if_pos (by rfl)]
def lineC : List UInt8 := [105, 102, 32, 97, 58]
theorem bytes_lineC : Bytes lineC := ⟨⟨105, [102, 32, 97, 58], rfl, by decide, by decide⟩, fun c hc => by
  simp only [lineC, List.mem_cons, List.not_mem_nil, or_false] at hc
  rcases hc with rfl | rfl | rfl | rfl | rfl <;> decide⟩
theorem rest_lineC (f o : Nat) (hf : 5 < f) : restL f lineC o = .ok [tokIf o, tokA (o + 3), tokC (o + 4)] := by
  obtain ⟨g, rfl⟩ : ∃ g, f = g + 1 + 1 + 1 + 1 := ⟨f - 4, by omega⟩
  have e3 : restL (g + 1 + 1) [58] (o + 2 + 1 + 1) = .ok [tokC (o + 2 + 1 + 1)] := restL_more (g + 1) (by kernel_rfl) (by decide) (show tokL [58] = some (kOp, colon, 1) by kernel_rfl) (restL_nil g _)
  have e2 : restL (g + 1 + 1 + 1) [97, 58] (o + 2 + 1) = .ok [tokA (o + 2 + 1), tokC (o + 2 + 1 + 1)] := restL_more (g + 1 + 1) (by kernel_rfl) (by decide) (show tokL [97, 58] = some (kName, ⟨#[97]⟩, 1) by kernel_rfl) e3
  have e1 : restL (g + 1 + 1 + 1) [32, 97, 58] (o + 2) = .ok [tokA (o + 2 + 1), tokC (o + 2 + 1 + 1)] := by
    have := restL_rep 1 (g + 1 + 1) (o + 2) (C := [97, 58]) ⟨⟨97, [58], rfl, by decide, by decide⟩, fun c hc => by
      simp only [List.mem_cons, List.not_mem_nil, or_false] at hc
      rcases hc with rfl | rfl <;> decide⟩
    exact this.trans e2
  exact restL_more (g + 1 + 1 + 1) (by kernel_rfl) (by decide) (show tokL lineC = some (kWord, kIf, 2) by kernel_rfl) e1
/-- The bytes of blocks in each other, from the indentation m on. -/
def blkText : Nat → Nat → List UInt8
  | _, 0 => []
  | m, b + 1 => (List.replicate m 32 ++ lineC ++ [10]) ++ blkText (m + 1) b
def pfx (i m : Nat) : List (ByteArray × ByteArray × Nat) := if m = 0 then [] else [tokI i]
def lineTs : Nat → Nat → Nat → List (ByteArray × ByteArray × Nat)
  | _, _, 0 => []
  | o, m, b + 1 => pfx (o + m) m ++ [tokIf (o + m), tokA (o + m + 3), tokC (o + m + 4), tokN (o + m + 5)] ++ lineTs (o + m + 6) (m + 1) b
/-- The indentations that are open. -/
def desc : Nat → List Int
  | 0 => [0]
  | m + 1 => ((m + 1 : Nat) : Int) :: desc m
def ahead : Nat → List Int
  | 0 => [0]
  | m + 1 => desc m
theorem desc_head (m : Nat) : ∃ r, desc m = (m : Int) :: r := by
  cases m with
  | zero => exact ⟨[], rfl⟩
  | succ m => exact ⟨desc m, rfl⟩
theorem desc_falls : ∀ m, falls (desc m)
  | 0 => trivial
  | m + 1 => by
    obtain ⟨r, hr⟩ := desc_head m
    have := desc_falls m
    unfold desc
    rw [hr] at this ⊢
    exact ⟨by omega, this⟩
theorem desc_last : ∀ m, (desc m)[m]? = some 0
  | 0 => rfl
  | m + 1 => by
    unfold desc
    simpa using desc_last m
theorem settle_ahead (m i n : Nat) (tk : List Value) : settleP (ahead m) (m : Int) i n tk = some (desc m, n + (pfx i m).length, tk ++ cellsOf (pfx i m)) := by
  cases m with
  | zero => simp [settleP, ahead, desc, pfx, popTo, dedents, cellsOf]
  | succ m =>
    obtain ⟨r, hr⟩ := desc_head m
    show settleP (desc m) _ i n tk = some (((m + 1 : Nat) : Int) :: desc m, _, _)
    rw [hr]
    unfold settleP
    simp only
    rw [if_pos (by omega)]
    simp [pfx, cellsOf, tokI]
theorem run_blk (s : ByteArray) (rest : List UInt8) : ∀ (b m : Nat) (pre : List UInt8) (n : Nat) (tk : List Value), s.data.toList = pre ++ blkText m b ++ rest → Inv s ⟨pre.length, ahead m, n, tk⟩ →
    runLines s (s.size - pre.length) ⟨pre.length, ahead m, n, tk⟩ = runLines s (s.size - (pre ++ blkText m b).length) ⟨(pre ++ blkText m b).length, ahead (m + b), n + (lineTs pre.length m b).length, tk ++ cellsOf (lineTs pre.length m b)⟩ ∧
    Inv s ⟨(pre ++ blkText m b).length, ahead (m + b), n + (lineTs pre.length m b).length, tk ++ cellsOf (lineTs pre.length m b)⟩
  | 0, m, pre, n, tk, h, I => by
    simpa [blkText, lineTs, cellsOf] using I
  | b + 1, m, pre, n, tk, h, I => by
    have hl := line_of s lineC (blkText (m + 1) b ++ rest) m pre (by simpa [blkText] using h) bytes_lineC _ (rest_lineC _ _ (by show 5 < m + 5 + 1; omega)) _ n tk _ _ _ (settle_ahead m (pre.length + m) n tk)
    have hz := data_size h
    simp [blkText, lineC] at hz
    have hlt : pre.length < s.size := by omega
    have hI := lineStep_inv I hlt hl
    have hg := runLines_go I hlt hl
    have hp : (pre ++ (List.replicate m 32 ++ lineC ++ [10])).length = pre.length + m + lineC.length + 1 := by simp; omega
    have h6 : pre.length + m + lineC.length + 1 = pre.length + m + 6 := rfl
    have ih := run_blk s rest b (m + 1) (pre ++ (List.replicate m 32 ++ lineC ++ [10])) (n + (pfx (pre.length + m) m).length + [tokIf (pre.length + m), tokA (pre.length + m + 3), tokC (pre.length + m + 4)].length + 1) (tk ++ cellsOf (pfx (pre.length + m) m) ++ cellsOf [tokIf (pre.length + m), tokA (pre.length + m + 3), tokC (pre.length + m + 4)] ++ tokCells kNewline ⟨#[]⟩ (pre.length + m + lineC.length)) (by simpa [blkText] using h) (by rw [hp]; exact hI.1)
    have e1 : (pre ++ (List.replicate m 32 ++ lineC ++ [10])) ++ blkText (m + 1) b = pre ++ blkText m (b + 1) := by simp [blkText]
    rw [e1, hp] at ih
    have e2 : n + (pfx (pre.length + m) m).length + [tokIf (pre.length + m), tokA (pre.length + m + 3), tokC (pre.length + m + 4)].length + 1 + (lineTs (pre.length + m + lineC.length + 1) (m + 1) b).length = n + (lineTs pre.length m (b + 1)).length := by
      rw [h6]
      simp [lineTs]
      omega
    have e3 : tk ++ cellsOf (pfx (pre.length + m) m) ++ cellsOf [tokIf (pre.length + m), tokA (pre.length + m + 3), tokC (pre.length + m + 4)] ++ tokCells kNewline ⟨#[]⟩ (pre.length + m + lineC.length) ++ cellsOf (lineTs (pre.length + m + lineC.length + 1) (m + 1) b) = tk ++ cellsOf (lineTs pre.length m (b + 1)) := by
      rw [h6]
      simp only [lineTs, cells_append]
      simp [cellsOf, tokN, lineC]
    have e4 : m + 1 + b = m + (b + 1) := by omega
    rw [e2, e3, e4] at ih
    refine ⟨?_, ih.2⟩
    rw [hg]
    exact ih.1
/-- The same tokens, an if's five together. -/
def grp : Nat → Nat → Nat → List (ByteArray × ByteArray × Nat)
  | _, _, 0 => []
  | o, m, b + 1 => [tokIf (o + m), tokA (o + m + 3), tokC (o + m + 4), tokN (o + m + 5), tokI (o + m + 6 + (m + 1))] ++ grp (o + m + 6) (m + 1) b
theorem blkText_len : ∀ (b m o : Nat), o + (blkText m (b + 1)).length = o + m + 6 + (blkText (m + 1) b).length := fun b m o => by simp [blkText, lineC]; omega
theorem regroup (X : List (ByteArray × ByteArray × Nat)) : ∀ (b o m : Nat), lineTs o m b ++ (pfx (o + (blkText m b).length + (m + b)) (m + b) ++ X) = pfx (o + m) m ++ (grp o m b ++ X)
  | 0, o, m => by simp [lineTs, grp, blkText]
  | b + 1, o, m => by
    have ih := regroup X b (o + m + 6) (m + 1)
    have e : o + (blkText m (b + 1)).length + (m + (b + 1)) = o + m + 6 + (blkText (m + 1) b).length + (m + 1 + b) := by rw [blkText_len]; omega
    rw [e, show m + (b + 1) = m + 1 + b by omega]
    unfold lineTs grp
    rw [List.append_assoc, ih]
    simp [pfx]
theorem grp_len : ∀ (b o m : Nat), (grp o m b).length = 5 * b
  | 0, _, _ => rfl
  | b + 1, o, m => by
    unfold grp
    rw [List.length_append, grp_len b]
    simp
    omega
theorem grp_at : ∀ (b o m j : Nat), j < b → (∃ i, (grp o m b)[5 * j]? = some (tokIf i)) ∧ (∃ i, (grp o m b)[5 * j + 1]? = some (tokA i)) ∧ (∃ i, (grp o m b)[5 * j + 2]? = some (tokC i)) ∧ (∃ i, (grp o m b)[5 * j + 3]? = some (tokN i)) ∧ (∃ i, (grp o m b)[5 * j + 4]? = some (tokI i))
  | b + 1, o, m, 0, _ => ⟨⟨_, rfl⟩, ⟨_, rfl⟩, ⟨_, rfl⟩, ⟨_, rfl⟩, ⟨_, rfl⟩⟩
  | b + 1, o, m, j + 1, h => by
    have ih := grp_at b (o + m + 6) (m + 1) j (by omega)
    unfold grp
    have e : ∀ c, ([tokIf (o + m), tokA (o + m + 3), tokC (o + m + 4), tokN (o + m + 5), tokI (o + m + 6 + (m + 1))] ++ grp (o + m + 6) (m + 1) b)[5 * (j + 1) + c]? = (grp (o + m + 6) (m + 1) b)[5 * j + c]? := fun c => by
      rw [List.getElem?_append_right (by simp; omega)]
      congr 1
      simp
      omega
    have e0 := e 0
    simp only [Nat.add_zero] at e0
    rw [e0, e 1, e 2, e 3, e 4]
    exact ih
/-- What Lex tells of the program: blocks, and a line in the innermost one. -/
theorem lexP_blk (s : ByteArray) (b : Nat) (C : List UInt8) (ts : Nat → List (ByteArray × ByteArray × Nat)) (hC : Bytes C) (hr : ∀ o f, C.length < f → restL f C o = .ok (ts o)) (h : s.data.toList = blkText 0 b ++ (List.replicate b 32 ++ C ++ [10])) :
    ∃ o i j, lexP s = .ok ((grp 0 0 b ++ (ts o ++ [tokN i] ++ dedentsL j b ++ [tokE j])).length, cellsOf (grp 0 0 b ++ (ts o ++ [tokN i] ++ dedentsL j b ++ [tokE j]))) := by
  have hz := data_size h
  simp at hz
  have d := run_blk s (List.replicate b 32 ++ C ++ [10]) b 0 [] 0 [] (by simpa using h) (inv0 s)
  rw [Nat.zero_add, List.nil_append, Nat.zero_add, List.nil_append] at d
  have l1 := line_of s C [] b (blkText 0 b) h hC (ts ((blkText 0 b).length + b)) (hr _ _ (by omega)) _ (lineTs ([] : List UInt8).length 0 b).length (cellsOf (lineTs ([] : List UInt8).length 0 b)) _ _ _ (settle_ahead b ((blkText 0 b).length + b) _ _)
  have h1 : (blkText 0 b).length < s.size := by omega
  have g1 := runLines_go d.2 h1 l1
  have hs2 := fun i n tk => settle_falls b (desc b) 0 i n tk (desc_falls b) (desc_last b)
  refine ⟨(blkText 0 b).length + b, (blkText 0 b).length + b + C.length, (blkText 0 b).length + b + C.length + 1, ?_⟩
  unfold lexP
  have e := d.1.trans (g1.trans (runLines_end (by simp only; omega)))
  simp only [List.length_nil, Nat.sub_zero] at e
  rw [show ([0] : List Int) = ahead 0 from rfl, e]
  simp only [hs2]
  have rg := regroup (ts ((blkText 0 b).length + b) ++ [tokN ((blkText 0 b).length + b + C.length)] ++ dedentsL ((blkText 0 b).length + b + C.length + 1) b ++ [tokE ((blkText 0 b).length + b + C.length + 1)]) b 0 0
  rw [Nat.zero_add, Nat.zero_add] at rg
  have rg' : grp 0 0 b ++ (ts ((blkText 0 b).length + b) ++ [tokN ((blkText 0 b).length + b + C.length)] ++ dedentsL ((blkText 0 b).length + b + C.length + 1) b ++ [tokE ((blkText 0 b).length + b + C.length + 1)]) = lineTs 0 0 b ++ (pfx ((blkText 0 b).length + b) b ++ (ts ((blkText 0 b).length + b) ++ [tokN ((blkText 0 b).length + b + C.length)] ++ dedentsL ((blkText 0 b).length + b + C.length + 1) b ++ [tokE ((blkText 0 b).length + b + C.length + 1)])) := by
    rw [rg]
    rfl
  rw [rg']
  congr 2
  · simp [dedentsL]
    omega
  · simp only [cells_append, dedents_cells]
    simp [cellsOf, tokN, tokE]
end Go.Proofs.YtpidanllncneaaaGreatDoor

/- The law TreeBlocks, plain: the program's bytes, and what Read comes to. -/
namespace Go.Proofs.YtpidanllncneaaaGreatDoor
open Go.RowKit

/-- Opening brackets, from o on. -/
def opsT : Nat → Nat → List (ByteArray × ByteArray × Nat)
  | _, 0 => []
  | o, n + 1 => tokL1 o :: opsT (o + 1) n
def clsT : Nat → Nat → List (ByteArray × ByteArray × Nat)
  | _, 0 => []
  | o, n + 1 => tokR1 o :: clsT (o + 1) n
theorem opsT_len : ∀ n o, (opsT o n).length = n
  | 0, _ => rfl
  | n + 1, o => by simp [opsT, opsT_len n]
theorem clsT_len : ∀ n o, (clsT o n).length = n
  | 0, _ => rfl
  | n + 1, o => by simp [clsT, clsT_len n]
theorem opsT_at : ∀ n o j, j < n → ∃ i, (opsT o n)[j]? = some (tokL1 i)
  | n + 1, o, 0, _ => ⟨o, rfl⟩
  | n + 1, o, j + 1, h => by
    obtain ⟨i, hi⟩ := opsT_at n (o + 1) j (by omega)
    exact ⟨i, by simpa [opsT] using hi⟩
theorem clsT_at : ∀ n o j, j < n → ∃ i, (clsT o n)[j]? = some (tokR1 i)
  | n + 1, o, 0, _ => ⟨o, rfl⟩
  | n + 1, o, j + 1, h => by
    obtain ⟨i, hi⟩ := clsT_at n (o + 1) j (by omega)
    exact ⟨i, by simpa [clsT] using hi⟩
theorem tokL_op (R : List UInt8) : tokL (91 :: R) = some (kOp, lbrk, 1) := by kernel_rfl
theorem tokL_cl (R : List UInt8) : tokL (93 :: R) = some (kOp, rbrk, 1) := by kernel_rfl
theorem skip_op (R : List UInt8) : skipL (91 :: R) = 0 := by kernel_rfl
theorem skip_cl (R : List UInt8) : skipL (93 :: R) = 0 := by kernel_rfl
theorem rest_cls : ∀ (n f o : Nat), n < f → restL f (List.replicate n 93) o = .ok (clsT o n)
  | 0, f, o, h => by
    obtain ⟨g, rfl⟩ : ∃ g, f = g + 1 := ⟨f - 1, by omega⟩
    exact restL_nil g o
  | n + 1, f, o, h => by
    obtain ⟨g, rfl⟩ : ∃ g, f = g + 1 := ⟨f - 1, by omega⟩
    rw [List.replicate_succ]
    exact restL_more g (skip_cl _) (by simp) (tokL_cl _) (rest_cls n g (o + 1) (by omega))
theorem rest_ops : ∀ (n m f o : Nat), n + m < f → restL f (List.replicate n 91 ++ List.replicate m 93) o = .ok (opsT o n ++ clsT (o + n) m)
  | 0, m, f, o, h => by simpa [opsT] using rest_cls m f o (by omega)
  | n + 1, m, f, o, h => by
    obtain ⟨g, rfl⟩ : ∃ g, f = g + 1 := ⟨f - 1, by omega⟩
    rw [List.replicate_succ, List.cons_append]
    have ih := rest_ops n m g (o + 1) (by omega)
    rw [show o + 1 + n = o + (n + 1) by omega] at ih
    exact restL_more g (skip_op _) (by simp) (tokL_op _) ih
/-- The innermost line's bytes. -/
def leafC (n : Nat) : List UInt8 := if n = 0 then [97] else List.replicate n 91 ++ List.replicate n 93
def leafT (n o : Nat) : List (ByteArray × ByteArray × Nat) := if n = 0 then [tokA o] else opsT o n ++ clsT (o + n) n
def leafM (n : Nat) : Nat := if n = 0 then 1 else 2 * n
theorem leafT_len (n o : Nat) : (leafT n o).length = leafM n := by
  unfold leafT leafM
  split
  · rfl
  · rw [List.length_append, opsT_len, clsT_len]
    omega
theorem bytes_leaf (n : Nat) : Bytes (leafC n) := by
  unfold leafC
  split
  · refine ⟨⟨97, [], rfl, by decide, by decide⟩, fun c hc => ?_⟩
    obtain rfl := List.mem_singleton.1 hc
    decide
  · rename_i h
    obtain ⟨m, rfl⟩ : ∃ m, n = m + 1 := ⟨n - 1, by omega⟩
    refine ⟨⟨91, _, by rw [List.replicate_succ, List.cons_append], by decide, by decide⟩, fun c hc => ?_⟩
    rcases List.mem_append.1 hc with h1 | h1
    · rw [List.eq_of_mem_replicate h1]
      decide
    · rw [List.eq_of_mem_replicate h1]
      decide
theorem rest_leaf (n o f : Nat) (h : (leafC n).length < f) : restL f (leafC n) o = .ok (leafT n o) := by
  unfold leafC leafT at *
  by_cases h0 : n = 0
  · rw [if_pos h0] at h ⊢
    rw [if_pos h0]
    obtain ⟨g, rfl⟩ : ∃ g, f = g + 1 + 1 := ⟨f - 2, by simp at h; omega⟩
    exact restL_more (g + 1) (by kernel_rfl) (by decide) (show tokL [97] = some (kName, ⟨#[97]⟩, 1) by kernel_rfl) (restL_nil g _)
  · rw [if_neg h0] at h ⊢
    rw [if_neg h0]
    exact rest_ops n n f o (by simpa using h)
section
variable {l : List (ByteArray × ByteArray × Nat)} {b n o i j : Nat} (hl : l = grp 0 0 b ++ (leafT n o ++ [tokN i] ++ dedentsL j b ++ [tokE j]))
include hl
theorem blk_leaf (c : Nat) (hc : c < leafM n) : l[5 * b + c]? = (leafT n o)[c]? := by
  rw [hl, List.getElem?_append_right (by rw [grp_len]; omega), grp_len, Nat.add_sub_cancel_left, List.append_assoc, List.append_assoc, List.getElem?_append_left (by rw [leafT_len]; exact hc)]
theorem blk_nl : l[5 * b + leafM n]? = some (tokN i) := by
  rw [hl, List.getElem?_append_right (by rw [grp_len]; omega), grp_len, Nat.add_sub_cancel_left, List.append_assoc, List.append_assoc, List.getElem?_append_right (by rw [leafT_len]; omega), leafT_len, Nat.sub_self]
  rfl
theorem blk_ded (c : Nat) (hc : c < b) : l[5 * b + leafM n + 1 + c]? = some (tokD j) := by
  rw [hl, List.getElem?_append_right (by rw [grp_len]; omega), grp_len, List.append_assoc, List.append_assoc, List.getElem?_append_right (by rw [leafT_len]; omega), leafT_len, List.getElem?_append_right (by simp; omega), List.getElem?_append_left (by simp [dedentsL]; omega)]
  unfold dedentsL
  rw [List.getElem?_replicate, if_pos (by simp; omega)]
  rfl
theorem blk_end : l[5 * b + leafM n + 1 + b]? = some (tokE j) := by
  rw [hl, List.getElem?_append_right (by rw [grp_len]; omega), grp_len, List.append_assoc, List.append_assoc, List.getElem?_append_right (by rw [leafT_len]; omega), leafT_len, List.getElem?_append_right (by simp; omega), List.getElem?_append_right (by simp [dedentsL]; omega)]
  have : 5 * b + leafM n + 1 + b - 5 * b - leafM n - [tokN i].length - (dedentsL j b).length = 0 := by simp [dedentsL]; omega
  rw [this]
  rfl
theorem blk_blocks : Blocks l 0 b (leafM n) := by
  have hm : 0 < leafM n := by unfold leafM; split <;> omega
  have h0 := blk_leaf hl 0 hm
  have hleaf : Leaf l (5 * b) (leafM n) := by
    by_cases hn : n = 0
    · have e : l[5 * b]? = some (tokA o) := by
        rw [Nat.add_zero] at h0
        rw [h0]
        unfold leafT
        rw [if_pos hn]
        rfl
      exact ⟨⟨mark_of e (by kernel_rfl), mark_of e (by kernel_rfl), mark_of e (by kernel_rfl), mark_of e (by kernel_rfl), mark_of e (by kernel_rfl)⟩, ⟨mark_of e (by kernel_rfl), mark_of e (by kernel_rfl), mark_of e (by kernel_rfl), mark_of e (by kernel_rfl), mark_of e (by kernel_rfl)⟩, ⟨kind_of e (by kernel_rfl), kind_of e (by kernel_rfl)⟩, i, blk_nl hl⟩
    · obtain ⟨i1, hi1⟩ := opsT_at n o 0 (by omega)
      have e : l[5 * b]? = some (tokL1 i1) := by
        rw [Nat.add_zero] at h0
        rw [h0]
        unfold leafT
        rw [if_neg hn, List.getElem?_append_left (by rw [opsT_len]; omega)]
        exact hi1
      exact ⟨⟨mark_of e (by kernel_rfl), mark_of e (by kernel_rfl), mark_of e (by kernel_rfl), mark_of e (by kernel_rfl), mark_of e (by kernel_rfl)⟩, ⟨mark_of e (by kernel_rfl), mark_of e (by kernel_rfl), mark_of e (by kernel_rfl), mark_of e (by kernel_rfl), mark_of e (by kernel_rfl)⟩, ⟨kind_of e (by kernel_rfl), kind_of e (by kernel_rfl)⟩, i, blk_nl hl⟩
  refine ⟨fun c hc => ?_, by rw [Nat.zero_add]; exact hleaf, fun c hc => ⟨j, ?_⟩, ?_⟩
  · have hg := grp_at b 0 0 c hc
    have e : ∀ d, d < 5 → l[0 + 5 * c + d]? = (grp 0 0 b)[5 * c + d]? := fun d hd => by
      rw [hl, Nat.zero_add, List.getElem?_append_left (by rw [grp_len]; omega)]
    have e0 := e 0 (by omega)
    simp only [Nat.add_zero] at e0
    rw [e0, e 1 (by omega), e 2 (by omega), e 3 (by omega), e 4 (by omega)]
    exact hg
  · rw [Nat.zero_add]
    exact blk_ded hl c hc
  · rw [Nat.zero_add]
    have e := blk_end hl
    exact ⟨mark_of e (by kernel_rfl), mark_of e (by kernel_rfl)⟩
theorem blk_nest (hn : 0 < n) : Nest l (5 * b) n := by
  have hm : leafM n = 2 * n := by unfold leafM; rw [if_neg (by omega)]
  have ht : leafT n o = opsT o n ++ clsT (o + n) n := by unfold leafT; rw [if_neg (by omega)]
  refine ⟨fun c hc => ?_, fun c hc => ?_, ?_⟩
  · obtain ⟨i1, hi1⟩ := opsT_at n o c hc
    refine ⟨i1, ?_⟩
    rw [blk_leaf hl c (by omega), ht, List.getElem?_append_left (by rw [opsT_len]; exact hc)]
    exact hi1
  · obtain ⟨i1, hi1⟩ := clsT_at n (o + n) c hc
    refine ⟨i1, ?_⟩
    rw [Nat.add_assoc, blk_leaf hl (n + c) (by omega), ht, List.getElem?_append_right (by rw [opsT_len]; omega), opsT_len, Nat.add_sub_cancel_left]
    exact hi1
  · have := blk_nl hl
    rw [hm] at this
    exact stops_n this
/-- The innermost line's term. -/
theorem blk_term : (n ≤ 12 → ∃ e, pTerm l (5 * b) = .ok (e, 5 * b + leafM n)) ∧ (12 < n → ∃ y, pTerm l (5 * b) = .error (y, true)) := by
  have hlen : 5 * b + leafM n + 1 + b < l.length := (List.getElem?_eq_some_iff.1 (blk_end hl)).1
  by_cases hn : n = 0
  · have hm : leafM n = 1 := by unfold leafM; rw [if_pos hn]
    have h0 := blk_leaf hl 0 (by omega)
    have e : l[5 * b]? = some (tokA o) := by
      rw [Nat.add_zero] at h0
      rw [h0]
      unfold leafT
      rw [if_pos hn]
      rfl
    have hnl := blk_nl hl
    rw [hm] at hnl ⊢
    exact ⟨fun _ => bname_ok e (stops_n hnl), fun h => by omega⟩
  · have hm : leafM n = 2 * n := by unfold leafM; rw [if_neg hn]
    rw [hm] at hlen ⊢
    obtain ⟨m, rfl⟩ : ∃ m, n = m + 1 := ⟨n - 1, by omega⟩
    have N := blk_nest hl (by omega)
    refine ⟨fun h => ?_, fun h => ?_⟩
    · exact nest_ok l m (fuelE l) 0 (5 * b) N (by unfold fuelE; omega) (by omega)
    · exact nest_deep l m (fuelE l) 0 (5 * b) N (by unfold fuelE; omega) (by omega) (by omega)
theorem blk_read : (b ≤ 11 ∧ n ≤ 12 → ∃ ss k, pRead l = .ok (ss, k)) ∧ (¬ (b ≤ 11 ∧ n ≤ 12) → ∃ y, pRead l = .error (y, true)) := by
  have B := blk_blocks hl
  have T := blk_term hl
  refine ⟨fun h => read_ok B h.1 (blk_end hl) (T.1 h.2), fun h => read_deep B ?_⟩
  by_cases hb : b ≤ 11
  · exact .inr (T.2 (by omega))
  · exact .inl (by omega)
end
/-- The program's bytes. -/
def blkAll (b n : Nat) : List UInt8 := blkText 0 b ++ (List.replicate b 32 ++ leafC n ++ [10])
theorem lex_read (s : ByteArray) (b n : Nat) (h : s.data.toList = blkAll b n) : ∃ l, lexP s = .ok (l.length, cellsOf l) ∧ (b ≤ 11 ∧ n ≤ 12 → ∃ ss k, pRead l = .ok (ss, k)) ∧ (¬ (b ≤ 11 ∧ n ≤ 12) → ∃ y, pRead l = .error (y, true)) := by
  obtain ⟨o, i, j, hx⟩ := lexP_blk s b (leafC n) (leafT n) (bytes_leaf n) (fun o f hf => rest_leaf n o f hf) h
  exact ⟨_, hx, blk_read rfl⟩
theorem blkText_snoc : ∀ (b m : Nat), blkText m (b + 1) = blkText m b ++ (List.replicate (m + b) 32 ++ lineC ++ [10])
  | 0, m => by simp [blkText]
  | b + 1, m => by
    have ih := blkText_snoc b (m + 1)
    rw [blkText, ih, show m + 1 + b = m + (b + 1) by omega]
    conv => rhs; rw [blkText]
    simp
theorem blkText_few : ∀ (b m : Nat), (blkText m b).length ≤ b * (m + b + 6)
  | 0, _ => by simp [blkText]
  | b + 1, m => by
    have ih := blkText_few b (m + 1)
    have e : b * (m + 1 + b + 6) = b * (m + (b + 1) + 6) := by rw [show m + 1 + b = m + (b + 1) by omega]
    have e2 : (b + 1) * (m + (b + 1) + 6) = b * (m + (b + 1) + 6) + (m + (b + 1) + 6) := by rw [Nat.add_mul, Nat.one_mul]
    simp only [blkText, List.length_append, List.length_replicate, lineC, List.length_cons, List.length_nil]
    omega
end Go.Proofs.YtpidanllncneaaaGreatDoor

/- Package lex: kinds of what Lex comes to; what package tree's reader asks of its tokens. -/
namespace Go.Proofs.YtpidanllncneaaaGreatDoor
open Go.RowKit

def ktOf (l : List (ByteArray × ByteArray × Nat)) : List (List UInt8 × List UInt8) := l.map fun x => (x.1.toList, x.2.1.toList)
theorem cells_inj : ∀ l m : List (ByteArray × ByteArray × Nat), cellsOf l = cellsOf m → l = m
  | [], [], _ => rfl
  | [], y :: m, h => by simp [cellsOf, tokCells] at h
  | x :: l, [], h => by simp [cellsOf, tokCells] at h
  | (k, t, o) :: l, (k', t', o') :: m, h => by
    have h2 : tokCells k t o ++ cellsOf l = tokCells k' t' o' ++ cellsOf m := h
    simp [tokCells] at h2
    obtain ⟨rfl, rfl, h3, h4⟩ := h2
    have : o = o' := by omega
    subst this
    rw [cells_inj l m h4]
def isEndB (k : ByteArray) : Bool := k.toList == [101, 110, 100]
/-- A token that is no end; an int's text is one. -/
def KTok (x : ByteArray × ByteArray × Nat) : Prop := isEndB x.1 = false ∧ (isIntB x = true → ∃ v, Lib.parseIntB 64 x.2.1.data.toList = .ok v)
theorem ktok_plain {k : ByteArray} (h1 : isEndB k = false) (h2 : (k.toList == [105, 110, 116]) = false) (t : ByteArray) (o : Nat) : KTok (k, t, o) := ⟨h1, fun h => by
  have h3 : (k.toList == [105, 110, 116]) = true := h
  rw [h2] at h3
  cases h3⟩
theorem tokL_kt {L : List UInt8} {k t : ByteArray} {m : Nat} (h : tokL L = some (k, t, m)) (o : Nat) : KTok (k, t, o) := by
  cases L with
  | nil => simp [tokL] at h
  | cons c L =>
    have hr : tokL (c :: L) = if smallB (c.toNat : Int) || capitalB (c.toNat : Int) then (nameL c L).map fun x => (if x.1 then kWord else kName, x.2.1, x.2.2)
      else if digitB (c.toNat : Int) then (intL c L).map fun x => (kInt, x.1, x.2)
      else if (c.toNat : Int) == 34 then (strL (L.length + 1) L []).map fun x => (kStr, strOfNums x.1, x.2 + 1)
      else (opL (c :: L) 21 0).map fun x => (kOp, x.1, x.2) := rfl
    rw [hr] at h
    split at h
    · simp only [Option.map_eq_some_iff] at h
      obtain ⟨z, hz, he⟩ := h
      simp only [Prod.mk.injEq] at he
      rw [← he.1]
      split
      · exact ktok_plain (by kernel_rfl) (by kernel_rfl) _ _
      · exact ktok_plain (by kernel_rfl) (by kernel_rfl) _ _
    · split at h
      · simp only [Option.map_eq_some_iff, Prod.mk.injEq] at h
        obtain ⟨z, hz, he, ht, _⟩ := h
        refine ⟨by rw [← he]; kernel_rfl, fun _ => ?_⟩
        unfold intL at hz
        simp only at hz
        split at hz
        · cases hz
        · split at hz
          next v hv =>
            simp only [Option.some.injEq] at hz
            rw [← hz] at ht
            simp only at ht
            rw [← ht]
            exact ⟨v, hv⟩
          next => cases hz
      · split at h
        · simp only [Option.map_eq_some_iff, Prod.mk.injEq] at h
          obtain ⟨z, hz, he, _⟩ := h
          rw [← he]
          exact ktok_plain (by kernel_rfl) (by kernel_rfl) _ _
        · simp only [Option.map_eq_some_iff, Prod.mk.injEq] at h
          obtain ⟨z, hz, he, _⟩ := h
          rw [← he]
          exact ktok_plain (by kernel_rfl) (by kernel_rfl) _ _
theorem restL_kt : ∀ (f : Nat) (L : List UInt8) (o : Nat) (l : List (ByteArray × ByteArray × Nat)), restL f L o = .ok l → ∀ x ∈ l, KTok x
  | 0, _, _, _, h => by cases h
  | f + 1, L, o, l, h => by
    unfold restL at h
    split at h
    · simp only [Except.ok.injEq] at h
      subst h
      intro x hx
      simp at hx
    · cases hk : tokL (L.drop (skipL L)) with
      | none => rw [hk] at h; cases h
      | some y =>
        obtain ⟨k, t, m⟩ := y
        rw [hk] at h
        simp only at h
        cases hr : restL f (L.drop (skipL L + m)) (o + (skipL L + m)) with
        | error e => rw [hr] at h; cases h
        | ok l' =>
          rw [hr] at h
          simp only [Except.ok.injEq] at h
          subst h
          intro x hx
          simp at hx
          rcases hx with rfl | hx
          · exact tokL_kt hk _
          · exact restL_kt f _ _ l' hr x hx
theorem settle_kt {st st' : List Int} {ind : Int} {i n n' : Nat} {tk tk' : List Value} (h : settleP st ind i n tk = some (st', n', tk')) : ∃ m, tk' = tk ++ cellsOf m ∧ n' = n + m.length ∧ ∀ x ∈ m, KTok x := by
  unfold settleP at h
  cases st with
  | nil => cases h
  | cons x xs =>
    simp only at h
    split at h
    · simp only [Option.some.injEq, Prod.mk.injEq] at h
      obtain ⟨rfl, rfl, rfl⟩ := h
      refine ⟨[(kIndent, ⟨#[]⟩, i)], by simp [cellsOf], rfl, fun x hx => ?_⟩
      simp at hx
      rw [hx]
      exact ktok_plain (by kernel_rfl) (by kernel_rfl) _ _
    · split at h
      · simp only [Option.some.injEq, Prod.mk.injEq] at h
        obtain ⟨rfl, rfl, rfl⟩ := h
        refine ⟨dedentsL i (popTo ind (x :: xs)).1, by rw [dedents_cells], by simp [dedentsL], fun y hy => ?_⟩
        simp [dedentsL] at hy
        rw [hy.2]
        exact ktok_plain (by kernel_rfl) (by kernel_rfl) _ _
      · cases h
def KSt (σ : LexSt) : Prop := ∃ l, σ.tk = cellsOf l ∧ σ.n = l.length ∧ ∀ x ∈ l, KTok x
theorem line_kt (s : ByteArray) (S L pre : List UInt8) (hS : lineEnd S) (hL : noEnd L) (h : s.data.toList = pre ++ (L ++ S)) {st : List Int} {n : Nat} {tk : List Value} (hF : KSt ⟨pre.length, st, n, tk⟩) {σ : LexSt} (hs : lineStep s ⟨pre.length, st, n, tk⟩ = .ok σ) : KSt σ ∧ σ.at_ = (pre ++ L ++ S.take 1).length := by
  have e1 := after_list s S (pre ++ L) hS (by simpa using h)
  rw [@List.length_append _ pre] at e1
  rw [lineStep_list s S L pre hS hL h] at hs
  obtain ⟨l, h1, h2, h3⟩ := hF
  simp only at h1 h2 h3
  split at hs
  · simp only [Except.ok.injEq] at hs
    subst hs
    exact ⟨⟨l, h1, h2, h3⟩, e1⟩
  · cases hst : settleP st (blanksL L : Nat) (pre.length + skipL L) n tk with
    | none => rw [hst] at hs; cases hs
    | some x =>
      obtain ⟨st', n', tk'⟩ := x
      rw [hst] at hs
      simp only at hs
      obtain ⟨m, rfl, rfl, g4⟩ := settle_kt hst
      cases hr : restL (L.length + 1) L pre.length with
      | error e => rw [hr] at hs; cases hs
      | ok r =>
        rw [hr] at hs
        simp only [Except.ok.injEq] at hs
        subst hs
        have i1 := restL_kt _ _ _ r hr
        refine ⟨⟨l ++ m ++ r ++ [(kNewline, ⟨#[]⟩, pre.length + L.length)], ?_, ?_, ?_⟩, e1⟩
        · simp only [h1, cells_append]
          simp [cellsOf]
        · simp only [h2]
          simp
          omega
        · intro x hx
          simp only [List.mem_append, List.mem_singleton] at hx
          rcases hx with ((hx | hx) | hx) | hx
          · exact h3 x hx
          · exact g4 x hx
          · exact i1 x hx
          · rw [hx]
            exact ktok_plain (by kernel_rfl) (by kernel_rfl) _ _
theorem run_kt (s : ByteArray) : ∀ (N : Nat) (R pre : List UInt8) (st : List Int) (n : Nat) (tk : List Value), R.length ≤ N → s.data.toList = pre ++ R → Inv s ⟨pre.length, st, n, tk⟩ → KSt ⟨pre.length, st, n, tk⟩ → ∀ σ, runLines s (s.size - pre.length) ⟨pre.length, st, n, tk⟩ = .ok σ → KSt σ
  | N, [], pre, st, n, tk, _, h, I, hF, σ, hr => by
    have hz := data_size h
    rw [run_end s _ _ _ _ (by simp at hz ⊢; omega)] at hr
    simp only [Except.ok.injEq] at hr
    subst hr
    exact hF
  | 0, c :: R, _, _, _, _, hN, _, _, _, _, _ => by simp at hN
  | N + 1, c :: R, pre, st, n, tk, hN, h, I, hF, σ, hr => by
    have hz := data_size h
    simp at hz
    obtain ⟨L, S, e, hL, hS⟩ := split_line (c :: R)
    have h1 : s.data.toList = pre ++ (L ++ S) := by rw [h, e]
    have hlt : pre.length < s.size := by omega
    cases hs : lineStep s ⟨pre.length, st, n, tk⟩ with
    | error x => rw [runLines_err hlt hs] at hr; cases hr
    | ok τ =>
      rw [runLines_go I hlt hs] at hr
      have I1 := (lineStep_inv I hlt hs).1
      obtain ⟨hF1, hat⟩ := line_kt s S L pre hS hL h1 hF hs
      have hlen := congrArg List.length e
      simp at hlen
      obtain ⟨at1, st1, n1, tk1⟩ := τ
      simp only at hat
      subst hat
      refine run_kt s N (S.drop 1) _ st1 n1 tk1 ?_ ?_ I1 hF1 σ hr
      · simp at hN ⊢
        cases S with
        | nil => simp
        | cons d S => simp at hlen ⊢; omega
      · rw [h1]
        simp only [List.append_assoc, List.take_append_drop]
theorem lexP_kinds {s : ByteArray} {n : Nat} {tk : List Value} (h : lexP s = .ok (n, tk)) : ∃ l a, tk = cellsOf (l ++ [(kEnd, ⟨#[]⟩, a)]) ∧ n = (l ++ [(kEnd, (⟨#[]⟩ : ByteArray), a)]).length ∧ ∀ x ∈ l, KTok x := by
  unfold lexP at h
  cases hr : runLines s s.size ⟨0, [0], 0, []⟩ with
  | error e => rw [hr] at h; cases h
  | ok σ =>
    rw [hr] at h
    simp only at h
    have hr' : runLines s (s.size - ([] : List UInt8).length) ⟨([] : List UInt8).length, [0], 0, []⟩ = .ok σ := by simpa using hr
    obtain ⟨l, h1, h2, h3⟩ := run_kt s s.size s.data.toList [] [0] 0 [] (by simp) (by simp) (inv0 s) ⟨[], rfl, rfl, fun x hx => by simp at hx⟩ σ hr'
    cases hst : settleP σ.st 0 σ.at_ σ.n σ.tk with
    | none => rw [hst] at h; cases h
    | some x =>
      obtain ⟨st', n', tk'⟩ := x
      rw [hst] at h
      simp only [Except.ok.injEq, Prod.mk.injEq] at h
      obtain ⟨m, rfl, rfl, g4⟩ := settle_kt hst
      refine ⟨l ++ m, σ.at_, ?_, ?_, ?_⟩
      · rw [← h.2, h1]
        simp [cellsOf]
      · rw [← h.1, h2]
        simp
        omega
      · intro x hx
        simp only [List.mem_append] at hx
        rcases hx with hx | hx
        · exact h3 x hx
        · exact g4 x hx
theorem end_end : isEndB kEnd = true := by kernel_rfl
/-- What Lex hands to the reader. -/
theorem lexP_tokS {s : ByteArray} {m : List (ByteArray × ByteArray × Nat)} (h : lexP s = .ok (m.length, cellsOf m)) (hm : m.length ≤ 100000) (hs : s.size ≤ 6000) : TokS m := by
  obtain ⟨l, a, e1, _, hk⟩ := lexP_kinds h
  obtain ⟨l', e2, _, _, _, hz⟩ := lexP_fine h
  have e3 := cells_inj _ _ e2
  subst e3
  have e4 := cells_inj _ _ e1
  subst e4
  have hget : ∀ (k : Nat) (x : ByteArray × ByteArray × Nat), (l ++ [(kEnd, (⟨#[]⟩ : ByteArray), a)])[k]? = some x → (k < l.length ∧ KTok x) ∨ (k = l.length ∧ x = (kEnd, ⟨#[]⟩, a)) := fun k x hx => by
    rcases Nat.lt_or_ge k l.length with h1 | h1
    · rw [List.getElem?_append_left h1] at hx
      exact .inl ⟨h1, hk x (List.mem_of_getElem? hx)⟩
    · have hlt := (List.getElem?_eq_some_iff.1 hx).1
      simp at hlt
      have hke : k = l.length := by omega
      subst hke
      simp at hx
      exact .inr ⟨rfl, hx.symm⟩
  have hfin : ∀ (k : Nat) (x : ByteArray × ByteArray × Nat), (l ++ [(kEnd, (⟨#[]⟩ : ByteArray), a)])[k]? = some x → (x.1.toList == [101, 110, 100]) = false → k + 1 < (l ++ [(kEnd, (⟨#[]⟩ : ByteArray), a)]).length := fun k x hx hn => by
    rcases hget k x hx with ⟨h1, _⟩ | ⟨_, rfl⟩
    · simp
      omega
    · have h2 : isEndB kEnd = false := hn
      rw [end_end] at h2
      cases h2
  refine ⟨⟨hm, ⟨(kEnd, ⟨#[]⟩, a), by simp, fun ts => ?_⟩, fun k x hx hb => ?_, fun k x hx hi => ?_⟩, hfin⟩
  · unfold markB
    have h1 : (kEnd.toList == [111, 112]) = false := by kernel_rfl
    have h2 : (kEnd.toList == [119, 111, 114, 100]) = false := by kernel_rfl
    simp only [h1, h2, Bool.or_self, Bool.false_and]
  · refine hfin k x hx ?_
    rcases hget k x hx with ⟨_, h1⟩ | ⟨_, rfl⟩
    · exact h1.1
    · exfalso
      have h1 : isIntB (kEnd, (⟨#[]⟩ : ByteArray), a) = false := by kernel_rfl
      have h2 : isStrB (kEnd, (⟨#[]⟩ : ByteArray), a) = false := by kernel_rfl
      have h3 : isNameB (kEnd, (⟨#[]⟩ : ByteArray), a) = false := by kernel_rfl
      rw [h1, h2, h3] at hb
      cases hb
  · rcases hget k x hx with ⟨_, h1⟩ | ⟨_, rfl⟩
    · exact ⟨by have := hz x (List.mem_of_getElem? hx); omega, h1.2 hi⟩
    · exfalso
      have h1 : isIntB (kEnd, (⟨#[]⟩ : ByteArray), a) = false := by kernel_rfl
      rw [h1] at hi
      cases hi
end Go.Proofs.YtpidanllncneaaaGreatDoor

/- Package tree: what is read hangs on the tokens' kinds and texts alone. -/
namespace Go.Proofs.YtpidanllncneaaaGreatDoor
open Go.RowKit

/-- Tokens of the same kinds and texts. -/
structure Al (l m : List (ByteArray × ByteArray × Nat)) : Prop where
  len : l.length = m.length
  get : ∀ k : Nat, (l[k]? = none ∧ m[k]? = none) ∨ ∃ (kd tx : ByteArray) (a b : Nat), l[k]? = some (kd, tx, a) ∧ m[k]? = some (kd, tx, b)
theorem bytes_inj {a b : ByteArray} (h : a.toList = b.toList) : a = b := by
  rw [toList_data, toList_data] at h
  have h4 : a.data = b.data := Array.toList_inj.1 h
  cases a
  cases b
  exact congrArg ByteArray.mk h4
theorem al_of {l m : List (ByteArray × ByteArray × Nat)} (h : ktOf l = ktOf m) : Al l m := by
  have hlen : l.length = m.length := by
    have := congrArg List.length h
    simpa [ktOf] using this
  refine ⟨hlen, fun k => ?_⟩
  rcases Nat.lt_or_ge k l.length with h1 | h1
  · right
    have h2 : k < m.length := by omega
    have e : (ktOf l)[k]? = (ktOf m)[k]? := by rw [h]
    simp [ktOf, h1, h2] at e
    refine ⟨l[k].1, l[k].2.1, l[k].2.2, m[k].2.2, by simp [h1], ?_⟩
    rw [bytes_inj e.1, bytes_inj e.2]
    simp [h2]
  · exact .inl ⟨List.getElem?_eq_none h1, List.getElem?_eq_none (by omega)⟩
variable {l m : List (ByteArray × ByteArray × Nat)}
theorem Al.mark (h : Al l m) : markAt l = markAt m := by
  funext k ts
  unfold markAt
  rcases h.get k with ⟨h1, h2⟩ | ⟨kd, tx, a, b, h1, h2⟩ <;> rw [h1, h2] <;> rfl
theorem Al.kind (h : Al l m) : isKind l = isKind m := by
  funext k kd
  unfold isKind
  rcases h.get k with ⟨h1, h2⟩ | ⟨kd, tx, a, b, h1, h2⟩ <;> rw [h1, h2]
theorem Al.txt (h : Al l m) : txtAt l = txtAt m := by
  funext k
  unfold txtAt
  rcases h.get k with ⟨h1, h2⟩ | ⟨kd, tx, a, b, h1, h2⟩ <;> rw [h1, h2]
theorem Al.name (h : Al l m) : pName l = pName m := by
  funext s k
  unfold pName
  rcases h.get k with ⟨h1, h2⟩ | ⟨kd, tx, a, b, h1, h2⟩ <;> rw [h1, h2] <;> rfl
theorem Al.more (h : Al l m) {σ : Type} (step : σ → Nat → Out σ) : ∀ (f : Nat) (s : σ) (k : Nat), pMore l step f s k = pMore m step f s k
  | 0, s, k => rfl
  | f + 1, s, k => by
    unfold pMore
    rw [h.mark]
    cases hm : markAt m k [comma] with
    | false => rfl
    | true =>
      simp only [cond_true]
      cases step s (k + 1) with
      | error y => rfl
      | ok y => exact h.more step f y.1 y.2
theorem Al.several (h : Al l m) {σ : Type} (step : σ → Nat → Out σ) : pSeveral l step = pSeveral m step := by
  funext f s k
  unfold pSeveral
  cases step s k with
  | error y => rfl
  | ok y => exact h.more step f y.1 y.2
theorem Al.upTo (h : Al l m) {σ : Type} (step : σ → Nat → Out σ) : pUpTo l step = pUpTo m step := by
  funext c f s k
  unfold pUpTo
  rw [h.mark, h.several]
theorem Al.closed (h : Al l m) : pClosed l = pClosed m := by
  funext c o
  unfold pClosed
  rw [h.mark]
theorem Al.ahead (h : Al l m) : pAhead l = pAhead m := by
  funext c k dp o1 o2
  unfold pAhead
  rw [h.mark]
theorem Al.sidesOn (h : Al l m) (rank : Nat) (sub : Nat → Out (DataW Unit)) : ∀ (f : Nat) (e : DataW Unit) (k : Nat), pSidesOn l rank sub f e k = pSidesOn m rank sub f e k
  | 0, e, k => rfl
  | f + 1, e, k => by
    unfold pSidesOn
    rcases h.get k with ⟨h1, h2⟩ | ⟨kd, tx, a, b, h1, h2⟩
    · rw [h1, h2]
    · rw [h1, h2]
      simp only
      have e1 : markB (kd, tx, a) (rankOps rank) = markB (kd, tx, b) (rankOps rank) := rfl
      rw [e1]
      cases markB (kd, tx, b) (rankOps rank) with
      | false => rfl
      | true =>
        simp only [cond_true]
        cases sub (k + 1) with
        | error y => rfl
        | ok y =>
          obtain ⟨e2, k2⟩ := y
          simp only
          rw [h.sidesOn rank sub f]
theorem Al.sides (h : Al l m) (rank : Nat) : pSides l rank = pSides m rank := by
  funext sub k
  unfold pSides
  cases sub k with
  | error y => rfl
  | ok y =>
    obtain ⟨e, k1⟩ := y
    simp only
    rw [h.sidesOn, h.len]
theorem Al.postOn (h : Al l m) (dp : Nat) (term : Nat → Out (DataW Unit)) : ∀ (f : Nat) (e : DataW Unit) (k : Nat), pPostOn l dp term f e k = pPostOn m dp term f e k
  | 0, e, k => rfl
  | f + 1, e, k => by
    unfold pPostOn
    rw [h.mark, h.upTo, h.closed, h.len]
    cases markAt m k [lpar] with
    | true =>
      simp only [cond_true]
      cases pDeep dp k (pList kCall (pUpTo m (pTermStep term) rpar m.length [e] (k + 1))) with
      | error y => rfl
      | ok y => exact h.postOn dp term f y.1 y.2
    | false =>
      simp only [cond_false]
      cases markAt m k [lbrk] with
      | false => rfl
      | true =>
        simp only [cond_true]
        cases pDeep dp k (pIndex e (pClosed m rbrk (term (k + 1)))) with
        | error y => rfl
        | ok y => exact h.postOn dp term f y.1 y.2
theorem Al.post (h : Al l m) (dp : Nat) : pPost l dp = pPost m dp := by
  funext term o
  unfold pPost
  cases o with
  | error y => rfl
  | ok y =>
    obtain ⟨e, k1⟩ := y
    simp only
    rw [h.postOn, h.len]
theorem Al.atom (h : Al l m) : pAtom l = pAtom m := by
  funext dp term terms pairs k
  unfold pAtom
  rcases h.get k with ⟨h1, h2⟩ | ⟨kd, tx, a, b, h1, h2⟩
  · rw [h1, h2]
  · rw [h1, h2, h.closed]
    rfl
theorem Al.pairStep (h : Al l m) : pPairStep l = pPairStep m := by
  funext term es k
  unfold pPairStep
  rw [h.closed]
theorem Al.lambda (h : Al l m) : pLambda l = pLambda m := by
  funext one k
  unfold pLambda
  rw [h.name, h.upTo, h.len]
theorem Al.ranked (h : Al l m) : ∀ (f dp rank k : Nat), pRanked l f dp rank k = pRanked m f dp rank k
  | 0, _, _, _ => rfl
  | f + 1, dp, rank, k => by
    have ih : pRanked l f = pRanked m f := by
      funext dp rank k
      exact h.ranked f dp rank k
    unfold pRanked
    rw [ih, h.ahead, h.lambda, h.post, h.atom, h.upTo, h.pairStep, h.upTo, h.sides, h.len]
theorem Al.term (h : Al l m) : pTerm l = pTerm m := by
  funext k
  unfold pTerm fuelE
  rw [h.ranked, h.len]
theorem Al.block (h : Al l m) : pBlock l = pBlock m := by
  funext bl inner k
  unfold pBlock
  rw [h.kind]
theorem Al.blockOf (h : Al l m) : pBlockOf l = pBlockOf m := by
  funext bl inner k
  unfold pBlockOf
  rw [h.mark, h.block]
theorem Al.each (h : Al l m) : pEach l = pEach m := by
  funext one blk k
  unfold pEach
  rw [h.kind, h.mark, h.txt]
theorem Al.attempt (h : Al l m) : pAttempt l = pAttempt m := by
  funext blk k
  unfold pAttempt
  rw [h.kind, h.mark, h.txt]
theorem Al.choice (h : Al l m) (one blk : Nat → Out (List (DataW Unit))) : ∀ (f k : Nat), pChoice l one blk f k = pChoice m one blk f k
  | 0, k => rfl
  | f + 1, k => by
    have ih : pChoice l one blk f = pChoice m one blk f := by
      funext k
      exact h.choice one blk f k
    unfold pChoice
    rw [h.mark, ih]
theorem Al.func (h : Al l m) : pFunc l = pFunc m := by
  funext blk k
  unfold pFunc
  rw [h.kind, h.mark, h.txt, h.name, h.upTo, h.len]
theorem Al.termSet (h : Al l m) : pTermSet l = pTermSet m := by
  funext term k
  unfold pTermSet
  rw [h.kind, h.mark, h.txt]
theorem Al.line (h : Al l m) : pLine l = pLine m := by
  funext term one tset k
  unfold pLine
  rw [h.kind, h.mark, h.txt, h.name, h.several, h.len]
theorem Al.statement (h : Al l m) : pStatement l = pStatement m := by
  funext a b c d e f k
  unfold pStatement
  rw [h.kind, h.mark]
theorem Al.stmts (h : Al l m) (cb : List UInt8) (stmt : Nat → Out (DataW Unit)) : ∀ (f : Nat) (ss : List (DataW Unit)) (k : Nat), pStmts l cb stmt f ss k = pStmts m cb stmt f ss k
  | 0, _, _ => rfl
  | f + 1, ss, k => by
    unfold pStmts
    rw [h.kind]
    cases isKind m k cb with
    | true => rfl
    | false =>
      simp only [cond_false]
      cases stmt k with
      | error y => rfl
      | ok y => exact h.stmts cb stmt f _ _
theorem Al.stmtAt (h : Al l m) : ∀ (d k : Nat), pStmtAt l d k = pStmtAt m d k
  | 0, _ => rfl
  | d + 1, k => by
    have ih : pStmtAt l d = pStmtAt m d := by
      funext k
      exact h.stmtAt d k
    have hi : (fun k' => pStmts l dedentB.toList (pStmtAt m d) (l.length + 1) [] k') = (fun k' => pStmts m dedentB.toList (pStmtAt m d) (m.length + 1) [] k') := by
      funext k'
      rw [h.stmts, h.len]
    have ho : pOneAt l = pOneAt m := by
      funext k
      unfold pOneAt
      rw [h.term]
    unfold pStmtAt pStmtIn
    rw [ih, hi, h.blockOf, ho, h.term, h.termSet, h.line, h.attempt, h.func, h.each, h.statement]
    have hc : (fun k => pChoice l (pOneAt m) (pBlockOf m (12 - d) (fun k' => pStmts m dedentB.toList (pStmtAt m d) (m.length + 1) [] k')) l.length k) = (fun k => pChoice m (pOneAt m) (pBlockOf m (12 - d) (fun k' => pStmts m dedentB.toList (pStmtAt m d) (m.length + 1) [] k')) m.length k) := by
      funext k
      rw [h.choice, h.len]
    rw [hc]
theorem read_al (h : Al l m) : pRead l = pRead m := by
  unfold pRead
  have ih : pStmtAt l 12 = pStmtAt m 12 := by
    funext k
    exact h.stmtAt 12 k
  rw [ih, h.stmts, h.len]
end Go.Proofs.YtpidanllncneaaaGreatDoor
