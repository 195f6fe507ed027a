/- The law LexDeep, plain: how many tokens of which kind; the program as it grows. -/
import Derived.Test.YtngiehnokhcifaaDoorBlanks
namespace Go.Proofs.YtngiehnokhcifaaDoor
open Go.RowKit

def namB (k : ByteArray) : Bool := k.toList == [110, 97, 109, 101]
def cB (t : ByteArray) : Bool := t.toList == [99]

/-- What LexDeep counts: indents, dedents, dedents ahead of c. -/
def stepC (a : Nat × Nat × Nat) (x : ByteArray × ByteArray × Nat) : Nat × Nat × Nat :=
  if indB x.1 then (a.1 + 1, a.2.1, a.2.2) else if dedB x.1 then (a.1, a.2.1 + 1, a.2.2) else if namB x.1 then (if cB x.2.1 then (a.1, a.2.1, a.2.1) else a) else a

def deepL : Nat → Nat → List Nat → List (ByteArray × ByteArray × Nat)
  | _, _, [] => []
  | i, m, k :: ks => [(kIndent, ⟨#[]⟩, i + (m + k)), (kName, ⟨#[98]⟩, i + (m + k)), (kNewline, ⟨#[]⟩, i + (m + k) + 1)] ++ deepL (i + (m + k) + 2) (m + k) ks

theorem deep_cells : ∀ (ks : List Nat) (i m : Nat), deepToks i m ks = cellsOf (deepL i m ks)
  | [], _, _ => rfl
  | k :: ks, i, m => by
    simp only [deepToks, deepL, cells_append, deep_cells ks]
    simp [cellsOf]

theorem step_indent (a : Nat × Nat × Nat) (t : ByteArray) (i : Nat) : stepC a (kIndent, t, i) = (a.1 + 1, a.2.1, a.2.2) := by
  unfold stepC
  rw [if_pos ind_ind]
theorem step_dedent (a : Nat × Nat × Nat) (t : ByteArray) (i : Nat) : stepC a (kDedent, t, i) = (a.1, a.2.1 + 1, a.2.2) := by
  unfold stepC
  rw [if_neg (by rw [ded_ded.1]; decide), if_pos ded_ded.2]
theorem step_newline (a : Nat × Nat × Nat) (t : ByteArray) (i : Nat) : stepC a (kNewline, t, i) = a := by
  unfold stepC
  have : namB kNewline = false := by kernel_rfl
  rw [if_neg (by rw [plain_newline.1]; decide), if_neg (by rw [plain_newline.2]; decide), if_neg (by rw [this]; decide)]
theorem step_end (a : Nat × Nat × Nat) (t : ByteArray) (i : Nat) : stepC a (kEnd, t, i) = a := by
  unfold stepC
  have : namB kEnd = false := by kernel_rfl
  rw [if_neg (by rw [plain_end.1]; decide), if_neg (by rw [plain_end.2]; decide), if_neg (by rw [this]; decide)]
theorem step_name (a : Nat × Nat × Nat) (t : ByteArray) (i : Nat) : stepC a (kName, t, i) = if cB t then (a.1, a.2.1, a.2.1) else a := by
  unfold stepC
  have h := plain_kinds kName (.inr (.inl rfl))
  have : namB kName = true := by kernel_rfl
  rw [if_neg (by rw [h.1]; decide), if_neg (by rw [h.2]; decide), if_pos this]

theorem fold_deep : ∀ (ks : List Nat) (i m : Nat) (a : Nat × Nat × Nat), (deepL i m ks).foldl stepC a = (a.1 + ks.length, a.2.1, a.2.2)
  | [], _, _, a => rfl
  | k :: ks, i, m, a => by
    have hb : cB ⟨#[98]⟩ = false := by kernel_rfl
    simp only [deepL, List.cons_append, List.nil_append, List.foldl_cons, step_indent, step_name, step_newline, hb, Bool.false_eq_true, if_false]
    rw [fold_deep ks]
    simp
    omega
theorem fold_dedents (i : Nat) : ∀ (k : Nat) (a : Nat × Nat × Nat), (dedentsL i k).foldl stepC a = (a.1, a.2.1 + k, a.2.2)
  | 0, a => rfl
  | k + 1, a => by
    have ih := fold_dedents i k (a.1, a.2.1 + 1, a.2.2)
    unfold dedentsL at ih ⊢
    rw [List.replicate_succ, List.foldl_cons, step_dedent, ih]
    simp
    omega

/-- All tokens of LexDeep's program, and what is counted of them. -/
def deepAll (ks : List Nat) (back i j : Nat) : List (ByteArray × ByteArray × Nat) :=
  [(kName, ⟨#[97]⟩, 0), (kNewline, ⟨#[]⟩, 1)] ++ deepL 2 0 ks ++ dedentsL i back ++ [(kName, ⟨#[99]⟩, i), (kNewline, ⟨#[]⟩, i + 1)] ++ dedentsL j (ks.length - back) ++ [(kEnd, ⟨#[]⟩, j)]

theorem deepAll_cells (ks : List Nat) (back i j : Nat) : tokCells kName ⟨#[97]⟩ 0 ++ tokCells kNewline ⟨#[]⟩ 1 ++ deepToks 2 0 ks ++ dedents i back ++ tokCells kName ⟨#[99]⟩ i ++ tokCells kNewline ⟨#[]⟩ (i + 1) ++ dedents j (ks.length - back) ++ tokCells kEnd ⟨#[]⟩ j = cellsOf (deepAll ks back i j) := by
  simp only [deepAll, cells_append, deep_cells, dedents_cells]
  simp [cellsOf]
theorem deepL_len : ∀ (ks : List Nat) (i m : Nat), (deepL i m ks).length = 3 * ks.length
  | [], _, _ => rfl
  | k :: ks, i, m => by
    simp only [deepL, List.length_append, deepL_len ks, List.length_cons, List.length_nil]
    omega
theorem deepAll_len (ks : List Nat) (back i j : Nat) : (deepAll ks back i j).length = 2 + 3 * ks.length + back + 2 + (ks.length - back) + 1 := by
  simp only [deepAll, List.length_append, deepL_len, dedentsL, List.length_replicate, List.length_cons, List.length_nil]
theorem deepAll_fold (ks : List Nat) (back i j : Nat) (hb : back ≤ ks.length) : (deepAll ks back i j).foldl stepC (0, 0, 0) = (ks.length, ks.length, back) := by
  have h97 : cB ⟨#[97]⟩ = false := by kernel_rfl
  have h99 : cB ⟨#[99]⟩ = true := by kernel_rfl
  simp only [deepAll, List.foldl_append, List.foldl_cons, List.foldl_nil, step_name, step_newline, step_end, fold_deep, fold_dedents, h97, h99, Bool.false_eq_true, if_false, if_true]
  simp
  omega

def kOf (z : Int) : Nat := 1 + pk z
def blanksB (m : Nat) : ByteArray := ⟨(List.replicate m 32).toArray⟩
def progB (ks : List Nat) : ByteArray := ⟨([97, 10] ++ deepLines 0 ks).toArray⟩

theorem blanksB_size (m : Nat) : (blanksB m).size = m := by simp [blanksB, ByteArray.size]
theorem blanksB_more (m : Nat) : blanksB m ++ ⟨#[32]⟩ = blanksB (m + 1) := by
  apply ByteArray.ext
  apply Array.ext'
  simp [blanksB, List.replicate_succ']
theorem deepLines_snoc : ∀ (ks : List Nat) (m k : Nat), deepLines m (ks ++ [k]) = deepLines m ks ++ (List.replicate (m + ks.sum + k) 32 ++ [98, 10])
  | [], m, k => by simp [deepLines]
  | x :: ks, m, k => by
    have ih := deepLines_snoc ks (m + x) k
    simp only [List.cons_append, deepLines, ih, List.sum_cons]
    rw [show m + x + ks.sum + k = m + (x + ks.sum) + k by omega]
    simp
theorem progB_snoc (ks : List Nat) (k : Nat) : progB (ks ++ [k]) = progB ks ++ blanksB (ks.sum + k) ++ ⟨#[98, 10]⟩ := by
  apply ByteArray.ext
  simp [progB, blanksB, deepLines_snoc]
theorem deepLines_len : ∀ (ks : List Nat) (m : Nat), (∀ k ∈ ks, k ≤ 5) → (deepLines m ks).length ≤ ks.length * (m + 5 * ks.length + 2)
  | [], _, _ => by simp [deepLines]
  | k :: ks, m, h => by
    have hk := h k (by simp)
    have ih := deepLines_len ks (m + k) (fun x hx => h x (by simp [hx]))
    have e : ks.length * (m + k + 5 * ks.length + 2) ≤ ks.length * (m + 5 * (ks.length + 1) + 2) := Nat.mul_le_mul_left _ (by omega)
    simp only [deepLines, List.length_append, List.length_replicate, List.length_cons, List.length_nil]
    have e2 : (ks.length + 1) * (m + 5 * (ks.length + 1) + 2) = ks.length * (m + 5 * (ks.length + 1) + 2) + (m + 5 * (ks.length + 1) + 2) := by rw [Nat.add_mul, Nat.one_mul]
    omega
theorem sum_le : ∀ (ks : List Nat), (∀ k ∈ ks, k ≤ 5) → ks.sum ≤ 5 * ks.length
  | [], _ => by simp
  | k :: ks, h => by
    have hk := h k (by simp)
    have ih := sum_le ks (fun x hx => h x (by simp [hx]))
    simp
    omega
theorem progB_size (ks : List Nat) (h : ∀ k ∈ ks, k ≤ 5) (hl : ks.length ≤ 30) : (progB ks).size ≤ 4562 := by
  have h1 := deepLines_len ks 0 h
  have h2 : ks.length * (0 + 5 * ks.length + 2) ≤ 30 * 152 := Nat.mul_le_mul hl (by omega)
  have : (progB ks).size = 2 + (deepLines 0 ks).length := by simp [progB, ByteArray.size]; omega
  omega

theorem opens_tail : ∀ (ks : List Nat) (m : Nat) (st : List Int) (j : Nat), (opens st m ks)[ks.length + 1 + j]? = st[j]?
  | [], m, st, j => by simp [opens, Nat.add_comm]
  | k :: ks, m, st, j => by
    have := opens_tail ks (m + k) ((m : Int) :: st) (j + 1)
    simp only [opens, List.length_cons]
    rw [show ks.length + 1 + 1 + j = ks.length + 1 + (j + 1) by omega, this]
    simp
theorem opens_get : ∀ (ks : List Nat) (m : Nat) (st : List Int) (b : Nat), b ≤ ks.length → (opens st m ks)[b]? = some ((m + (ks.take (ks.length - b)).sum : Nat) : Int)
  | [], m, st, b, h => by
    simp at h
    subst h
    simp [opens]
  | k :: ks, m, st, b, h => by
    simp only [opens]
    by_cases hb : b ≤ ks.length
    · rw [opens_get ks (m + k) _ b hb]
      simp only [List.length_cons]
      rw [show ks.length + 1 - b = (ks.length - b) + 1 by omega]
      simp
      omega
    · simp at h
      obtain rfl : b = ks.length + 1 := by omega
      have := opens_tail ks (m + k) ((m : Int) :: st) 0
      simp only [Nat.add_zero] at this
      rw [this]
      simp
end Go.Proofs.YtngiehnokhcifaaDoor
