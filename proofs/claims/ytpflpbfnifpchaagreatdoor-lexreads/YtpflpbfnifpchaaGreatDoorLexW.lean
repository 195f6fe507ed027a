/- Package lex: a line of blanks and one letter. -/
import Derived.Test.YtpflpbfnifpchaaGreatDoorLexV
namespace Go.Proofs.YtpflpbfnifpchaaGreatDoor
open Go.RowKit

/-- The blanks of a line, all of them. -/
theorem blanks_run (s : ByteArray) (x : UInt8) (rest : List UInt8) (hx : x ≠ 32) : ∀ (m : Nat) (pre : List UInt8), s.data.toList = pre ++ List.replicate m 32 ++ x :: rest → blanksTo s pre.length = pre.length + m
  | 0, pre, h => by
    obtain ⟨hlt, e⟩ := get_at (q := s) (pre := pre) (rest := rest) (x := x) (by simpa using h)
    refine passTo_stop hlt ?_
    rw [e]
    have : x.toNat ≠ 32 := fun h => hx (UInt8.toNat_inj.mp h)
    simp [blankB]
    omega
  | m + 1, pre, h => by
    obtain ⟨hlt, e⟩ := get_at (q := s) (pre := pre) (rest := List.replicate m 32 ++ x :: rest) (x := 32) (by simpa [List.replicate_succ] using h)
    have ih := blanks_run s x rest hx m (pre ++ [32]) (by simpa [List.replicate_succ] using h)
    unfold blanksTo at ih ⊢
    rw [passTo_go hlt (by rw [e]; rfl)]
    simp only [List.length_append, List.length_cons, List.length_nil] at ih
    rw [ih]
    omega

/-- A line of blanks and the letter a, b or c. -/
theorem line_letter (s : ByteArray) (c : UInt8) (hc : c = 97 ∨ c = 98 ∨ c = 99) (rest : List UInt8) (m : Nat) (pre : List UInt8) (h : s.data.toList = pre ++ List.replicate m 32 ++ c :: 10 :: rest) (st : List Int) (n : Nat) (tk : List Value) (st' : List Int) (n' : Nat) (tk' : List Value) (hst : settleP st m (pre.length + m) n tk = some (st', n', tk')) :
    lineStep s ⟨pre.length, st, n, tk⟩ = .ok ⟨pre.length + m + 2, st', n' + 2, tk' ++ tokCells kName ⟨#[c]⟩ (pre.length + m) ++ tokCells kNewline ⟨#[]⟩ (pre.length + m + 1)⟩ := by
  have hz := data_size h
  simp at hz
  have hb := blanks_run s c (10 :: rest) (by rcases hc with rfl | rfl | rfl <;> decide) m pre h
  obtain ⟨l0, e0⟩ := get_at (q := s) (pre := pre ++ List.replicate m 32) (rest := 10 :: rest) (x := c) (by simpa using h)
  obtain ⟨l1, e1⟩ := get_at (q := s) (pre := pre ++ List.replicate m 32 ++ [c]) (rest := rest) (x := 10) (by simpa using h)
  simp only [List.length_append, List.length_cons, List.length_nil, List.length_replicate] at l0 e0 l1 e1
  have hcom : commentTo s (pre.length + m) = pre.length + m := by
    unfold commentTo
    rw [dif_pos (by omega)]
    simp only [e0]
    rcases hc with rfl | rfl | rfl <;> rfl
  have hsk : skipTo s pre.length = pre.length + m := by unfold skipTo; rw [hb, hcom]
  have hen : endsB s (pre.length + m) = false := by
    unfold endsB
    rw [dif_pos (by omega)]
    simp only [e0]
    rcases hc with rfl | rfl | rfl <;> rfl
  have hnt : nameTo s (pre.length + m) = pre.length + m + 1 := by
    unfold nameTo
    refine passTo_stop (by omega) ?_
    have : s[pre.length + m + 1] = 10 := e1
    rw [this]; rfl
  have hex : s.extract (pre.length + m) (pre.length + m + 1) = ⟨#[c]⟩ := by
    apply ByteArray.ext
    apply Array.ext'
    rw [ByteArray.data_extract, Array.toList_extract, h]
    simp [List.extract, List.drop_append, List.take_append]
  have hn : nameAt s (pre.length + m) = some (false, ⟨#[c]⟩, pre.length + m + 1) := by
    unfold nameAt
    rw [dif_pos (by omega), hnt, hex]
    simp only [e0]
    have hw : wordB ⟨#[c]⟩ = false := by rcases hc with rfl | rfl | rfl <;> kernel_rfl
    rw [if_neg (by rw [hw]; decide), if_neg (by rcases hc with rfl | rfl | rfl <;> decide), if_neg (by omega)]
  have ht : tokAt s (pre.length + m) = some (kName, ⟨#[c]⟩, pre.length + m + 1) := by
    unfold tokAt
    rw [dif_pos (by omega)]
    simp only [e0]
    rw [if_pos (by rcases hc with rfl | rfl | rfl <;> decide), hn]
    rfl
  have hb1 : blanksTo s (pre.length + m + 1) = pre.length + m + 1 := by
    refine passTo_stop (by omega) ?_
    have : s[pre.length + m + 1] = 10 := e1
    rw [this]; rfl
  have hcom1 : commentTo s (pre.length + m + 1) = pre.length + m + 1 := by
    unfold commentTo
    rw [dif_pos (by omega)]
    have : s[pre.length + m + 1] = 10 := e1
    simp only [this]
    rfl
  have hsk1 : skipTo s (pre.length + m + 1) = pre.length + m + 1 := by unfold skipTo; rw [hb1, hcom1]
  have hen1 : endsB s (pre.length + m + 1) = true := by
    unfold endsB
    rw [dif_pos (by omega)]
    have : s[pre.length + m + 1] = 10 := e1
    simp only [this]
    rfl
  have hr := fun tk n => restToks_stop (s := s) (i := pre.length + m + 1) (tk := tk) (n := n) (by omega) (by rw [hsk1]; exact hen1)
  unfold lineStep
  simp only [hsk, hen, hb]
  rw [if_neg (by decide)]
  have hd : ((pre.length + m : Nat) : Int) - (pre.length : Int) = m := by omega
  rw [hd, hst]
  simp only [ht, hr, hsk1]
  simp only [afterLine]
  rw [if_pos (by omega)]

/-- Lines that stand deeper and deeper, from the indentation m on. -/
def deepLines : Nat → List Nat → List UInt8
  | _, [] => []
  | m, k :: ks => List.replicate (m + k) 32 ++ [98, 10] ++ deepLines (m + k) ks
/-- The indentations that they leave open. -/
def opens (st : List Int) : Nat → List Nat → List Int
  | m, [] => (m : Int) :: st
  | m, k :: ks => opens ((m : Int) :: st) (m + k) ks
/-- Their tokens. -/
def deepToks : Nat → Nat → List Nat → List Value
  | _, _, [] => []
  | i, m, k :: ks => tokCells kIndent ⟨#[]⟩ (i + (m + k)) ++ tokCells kName ⟨#[98]⟩ (i + (m + k)) ++ tokCells kNewline ⟨#[]⟩ (i + (m + k) + 1) ++ deepToks (i + (m + k) + 2) (m + k) ks

theorem run_deep (s : ByteArray) (rest : List UInt8) : ∀ (ks : List Nat) (m : Nat) (pre : List UInt8) (st : List Int) (n : Nat) (tk : List Value), (∀ k ∈ ks, 1 ≤ k) → s.data.toList = pre ++ deepLines m ks ++ rest → Inv s ⟨pre.length, (m : Int) :: st, n, tk⟩ →
    runLines s (s.size - pre.length) ⟨pre.length, (m : Int) :: st, n, tk⟩ = runLines s (s.size - (pre ++ deepLines m ks).length) ⟨(pre ++ deepLines m ks).length, opens st m ks, n + 3 * ks.length, tk ++ deepToks pre.length m ks⟩ ∧
    Inv s ⟨(pre ++ deepLines m ks).length, opens st m ks, n + 3 * ks.length, tk ++ deepToks pre.length m ks⟩
  | [], m, pre, st, n, tk, hk, h, I => by
    simpa [deepLines, opens, deepToks] using I
  | k :: ks, m, pre, st, n, tk, hk, h, I => by
    have hk1 := hk k (by simp)
    have hset : settleP ((m : Int) :: st) ((m + k : Nat) : Int) (pre.length + (m + k)) n tk = some (((m + k : Nat) : Int) :: (m : Int) :: st, n + 1, tk ++ tokCells kIndent ⟨#[]⟩ (pre.length + (m + k))) := by
      unfold settleP
      simp only
      rw [if_pos (by omega)]
    have hl := line_letter s 98 (by simp) (deepLines (m + k) ks ++ rest) (m + k) pre (by simpa [deepLines] using h) _ n tk _ _ _ hset
    have hz := data_size h
    simp [deepLines] at hz
    have hlt : pre.length < s.size := by omega
    have hI := lineStep_inv I hlt hl
    have hg := runLines_go I hlt hl
    have hp : (pre ++ (List.replicate (m + k) 32 ++ [98, 10])).length = pre.length + (m + k) + 2 := by simp; omega
    have ih := run_deep s rest ks (m + k) (pre ++ (List.replicate (m + k) 32 ++ [98, 10])) ((m : Int) :: st) (n + 1 + 2) (tk ++ tokCells kIndent ⟨#[]⟩ (pre.length + (m + k)) ++ tokCells kName ⟨#[98]⟩ (pre.length + (m + k)) ++ tokCells kNewline ⟨#[]⟩ (pre.length + (m + k) + 1)) (fun x hx => hk x (by simp [hx])) (by simpa [deepLines] using h) (by rw [hp]; exact hI.1)
    have e1 : (pre ++ (List.replicate (m + k) 32 ++ [98, 10])) ++ deepLines (m + k) ks = pre ++ deepLines m (k :: ks) := by simp [deepLines]
    rw [e1, hp] at ih
    have e2 : n + 1 + 2 + 3 * ks.length = n + 3 * (k :: ks).length := by simp; omega
    have e3 : tk ++ tokCells kIndent ⟨#[]⟩ (pre.length + (m + k)) ++ tokCells kName ⟨#[98]⟩ (pre.length + (m + k)) ++ tokCells kNewline ⟨#[]⟩ (pre.length + (m + k) + 1) ++ deepToks (pre.length + (m + k) + 2) (m + k) ks = tk ++ deepToks pre.length m (k :: ks) := by simp [deepToks]
    rw [e2, e3] at ih
    refine ⟨?_, ih.2⟩
    rw [hg]
    exact ih.1
end Go.Proofs.YtpflpbfnifpchaaGreatDoor
