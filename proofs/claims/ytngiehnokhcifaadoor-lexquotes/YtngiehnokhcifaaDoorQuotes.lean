/- The law LexQuotes: its tokens, and its walk. -/
import Derived.Test.YtngiehnokhcifaaDoorLexV
namespace Go.Proofs.YtngiehnokhcifaaDoor
open Go.RowKit

theorem quotedB_data (l : List UInt8) : (quotedB l).data.toList = [34] ++ l.flatMap escB ++ [34] := rfl
theorem quotedB_size (l : List UInt8) : (quotedB l).size = (l.flatMap escB).length + 2 := by
  have := data_size (quotedB_data l)
  rw [this]
  simp only [List.length_append, List.length_cons, List.length_nil]
  omega

theorem strAt_quoted (l : List UInt8) : strAt (quotedB l) 0 = some (l.map (fun c => (c.toNat : Int)), (quotedB l).size) := by
  have h := strFrom_flat (quotedB l) l [34] [] ((quotedB l).size + 1 - (0 + 1)) (quotedB_data l) (by simp)
  simpa [strAt] using h

/-- The tokens of a str alone. -/
theorem lexP_quoted (l : List UInt8) : lexP (quotedB l) = .ok (3, tokCells kStr (strOfNums (l.map fun c => (c.toNat : Int))) 0 ++ tokCells kNewline ⟨#[]⟩ (quotedB l).size ++ tokCells kEnd ⟨#[]⟩ (quotedB l).size) := by
  have hz := quotedB_size l
  obtain ⟨l0, e0⟩ := get_at (q := quotedB l) (pre := []) (x := 34) (rest := l.flatMap escB ++ [34]) (by rw [quotedB_data]; simp)
  simp only [List.length_nil] at l0 e0
  have hst := strAt_quoted l
  generalize quotedB l = q at hz l0 e0 hst ⊢
  have hbl : blanksTo q 0 = 0 := by
    unfold blanksTo
    exact passTo_stop l0 (by rw [e0]; rfl)
  have hsk : skipTo q 0 = 0 := by
    unfold skipTo
    rw [hbl]
    simp [commentTo, l0, e0]
  have hen : endsB q 0 = false := by simp [endsB, l0, e0]
  have htok : tokAt q 0 = some (kStr, strOfNums (l.map fun c => (c.toNat : Int)), q.size) := by
    unfold tokAt
    rw [dif_pos l0]
    simp only [e0]
    rw [hst]
    rfl
  have hbe : blanksTo q q.size = q.size := by unfold blanksTo; exact passTo_end rfl
  have hske : skipTo q q.size = q.size := by
    unfold skipTo
    rw [hbe]
    simp [commentTo]
  have hene : endsB q q.size = true := endsB_end (by omega)
  have hset : settleP [0] ((blanksTo q 0 : Nat) - ((0 : Nat) : Int)) 0 0 [] = some ([0], 0, []) := by
    rw [hbl]
    rfl
  have hrest : restToks q (q.size + 1 - q.size) q.size ([] ++ tokCells kStr (strOfNums (l.map fun c => (c.toNat : Int))) 0) (0 + 1) = .ok (q.size, [] ++ tokCells kStr (strOfNums (l.map fun c => (c.toNat : Int))) 0, 0 + 1) := by
    have := restToks_stop (s := q) (i := q.size) (tk := [] ++ tokCells kStr (strOfNums (l.map fun c => (c.toNat : Int))) 0) (n := 0 + 1) (Nat.le_refl _) (by rw [hske]; exact hene)
    rw [hske] at this
    exact this
  have hline : lineStep q ⟨0, [0], 0, []⟩ = .ok ⟨q.size, [0], 2, tokCells kStr (strOfNums (l.map fun c => (c.toNat : Int))) 0 ++ tokCells kNewline ⟨#[]⟩ q.size⟩ := by
    have h1 := lineStep_ok (s := q) (σ := ⟨0, [0], 0, []⟩) (st' := [0]) (n' := 0) (tk' := []) (k := kStr) (t := strOfNums (l.map fun c => (c.toNat : Int))) (j := q.size) (e := q.size) (tk2 := [] ++ tokCells kStr (strOfNums (l.map fun c => (c.toNat : Int))) 0) (n2 := 0 + 1) (by rw [hsk]; exact hen) (by rw [hsk]; exact hset) (by rw [hsk]; exact htok) (by rw [hsk]; exact hrest)
    rw [h1]
    simp [afterLine]
  have hrun : runLines q q.size ⟨0, [0], 0, []⟩ = .ok ⟨q.size, [0], 2, tokCells kStr (strOfNums (l.map fun c => (c.toNat : Int))) 0 ++ tokCells kNewline ⟨#[]⟩ q.size⟩ := by
    have h1 := runLines_go (inv0 q) l0 hline
    simp only [Nat.sub_zero] at h1
    rw [h1]
    exact runLines_end (s := q) (σ := ⟨q.size, [0], 2, _⟩) (by simp)
  unfold lexP
  rw [hrun]
  rfl

theorem isStr : (kStr.toList == [115, 116, 114]) = true := by kernel_rfl
theorem nums_back (s : ByteArray) : strOfNums (s.data.toList.map fun c => (c.toNat : Int)) = s := by
  apply ByteArray.ext
  simp [strOfNums, Function.comp_def]

set_option maxHeartbeats 1000000 in
theorem lexQuotes_any (s : ByteArray) (a0 a1 : Addr) (w : World) (E : LEnv w.heap.size a0 a1 w) :
    Calls Tryd.prog 6 #[.string s] w fun ev w' => ev = .returned (.bool true) ∧ Below w.heap.size w w' := by
  by_cases hs : 1000 < s.size
  · have hI : (1000 : Int) < (s.size : Int) := by omega
    go_enter Tryd.func6, Tryd.ntmps6
    go_wp2_with fail
    refine (one_any a0 a1 w E).mono ?_
    rintro ev w1 ⟨rfl, hb1⟩
    go_wp2_with fail
    go_ret
    exact ⟨rfl, hb1⟩
  · have hI : ¬ (1000 : Int) < (s.size : Int) := by omega
    have hqz : (quotedB s.data.toList).size ≤ 6000 := by
      rw [quotedB_size]
      have := flat_len s.data.toList
      have hl : s.data.toList.length = s.size := by simp
      omega
    go_enter Tryd.func6, Tryd.ntmps6
    go_wp2_with fail
    refine (one_any a0 a1 w E).mono ?_
    rintro ev w1 ⟨rfl, hb1⟩
    go_wp2_with fail
    refine (quoted_fn s (by omega) w1).mono ?_
    rintro ev w2 ⟨rfl, hb2⟩
    have hb2w : Below w.heap.size w w2 := hb1.trans (hb2.mono hb1.size)
    have E2 : LEnv w2.heap.size a0 a1 w2 := (E.below hb2w).up hb2w.size
    go_wp2_with fail
    refine (lex_known _ 2 _ a0 a1 w2 E2 hqz (lexP_quoted _)).mono ?_
    rintro ev w3 ⟨g, cap, rfl, hc, hb3⟩
    have hb3w : Below w.heap.size w w3 := hb2w.trans (hb3.mono hb2w.size)
    rw [nums_back] at hc
    have c0 := hc 0 (.string kStr) rfl
    have c1 := hc 1 (.string s) rfl
    clear hc
    have i1 := isStr
    go_wp2
    go_ret
    exact ⟨rfl, hb3w⟩
end Go.Proofs.YtngiehnokhcifaaDoor
