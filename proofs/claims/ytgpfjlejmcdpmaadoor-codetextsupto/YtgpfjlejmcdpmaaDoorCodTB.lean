/- The law CodeTexts, by a walk. -/
import Derived.Test.YtgpfjlejmcdpmaaDoorCodX
import Derived.Test.YtgpfjlejmcdpmaaDoorCodZ
import Derived.Test.YtgpfjlejmcdpmaaDoorCodTA
import Derived.Test.YtgpfjlejmcdpmaaDoorCodR
import Derived.Test.YtgpfjlejmcdpmaaDoorCodO
namespace Go.Proofs.YtgpfjlejmcdpmaaDoor
open Go.RowKit

/-- Code that is no greater than what comes in: each count, each string. -/
structure CD.Few (d : CD) : Prop where
  nF : d.nF ≤ 1048576
  nI : d.nI ≤ 1048576
  nS : d.nS ≤ 1048576
  nN : d.nN ≤ 1048576
  ops : ∀ i, i < d.nF → (d.fs i).n ≤ 1048576 ∧ (d.fs i).name.size ≤ 1048576
  nums : ∀ i, i < d.nF → I64 (d.fs i).p ∧ I64 (d.fs i).l ∧ I64 (d.fs i).c ∧ I64 (d.fs i).f
  args : ∀ i, i < d.nF → ∀ j, j < (d.fs i).n → I64 ((d.fs i).ar j) ∧ ((d.fs i).nm j).size ≤ 1048576
  ints : ∀ i, i < d.nI → I64 (d.xs i)
  strs : ∀ i, i < d.nS → (d.ss i).size ≤ 1048576
  names : ∀ i, i < d.nN → (d.ns i).size ≤ 1048576
theorem CD.Few.fits {d : CD} (h : d.Few) : d.Fits where
  nF := by have := h.nF; omega
  nI := by have := h.nI; omega
  nS := by have := h.nS; omega
  nN := by have := h.nN; omega
  ops i hi := by have := (h.ops i hi).1; omega
  nums := h.nums
  args i hi j hj := (h.args i hi j hj).1
  ints := h.ints
  fname i hi := by have := (h.ops i hi).2; omega
  oname i hi j hj := by have := (h.args i hi j hj).2; omega
  names i hi := by have := h.names i hi; omega
theorem upto_few {f : Nat → List UInt8} {m : Nat} : ∀ {n : Nat}, (∀ i, i < n → (f i).length ≤ m) → (upto f n).length ≤ n * m
  | 0, _ => by simp [upto]
  | n + 1, h => by
    have := upto_few (n := n) fun i hi => h i (by omega)
    have := h n (by omega)
    rw [upto, List.length_append, Nat.add_mul]
    omega
theorem dash_few (s : ByteArray) (h : s.size ≤ 1048576) : (dashB s).data.toList.length ≤ 1048576 := by
  rw [len_size]
  unfold dashB
  split
  · decide
  · exact h
theorem dec_len {n : Int} (h : I64 n) : (decB n).data.toList.length ≤ 100 := by rw [len_size]; exact dec_few h
theorem code_len {d : CD} (h : d.Few) (t : d.nF ≤ 100 ∧ d.nI ≤ 300 ∧ d.nS ≤ 300 ∧ d.nN ≤ 300 ∧ ∀ i, i < d.nF → (d.fs i).n ≤ 2000) : (codeB (fun s => quotedB s.data.toList) d).length ≤ 10000000000000 := by
  obtain ⟨t1, t2, t3, t4, t5⟩ := t
  have nat : ∀ i : Nat, i ≤ 1048576 → (decB (i : Int)).data.toList.length ≤ 100 := fun i hi => dec_len ⟨by omega, by omega⟩
  have hF : (partF d).length ≤ d.nF * 2200000000 := by
    refine upto_few fun i hi => ?_
    have n1 := nat i (by have := h.nF; omega)
    obtain ⟨p1, p2, p3, p4⟩ := h.nums i hi
    have q1 := dec_len p1
    have q2 := dec_len p2
    have q3 := dec_len p3
    have q4 := dec_len p4
    have q5 := dash_few _ (h.ops i hi).2
    have ops : (upto (fun k => opB k ((d.fs i).nm k) ((d.fs i).ar k)) (d.fs i).n).length ≤ (d.fs i).n * 1050000 := by
      refine upto_few fun j hj => ?_
      have m1 := nat j (by have := (h.ops i hi).1; omega)
      have m2 := dec_len (h.args i hi j hj).1
      have m3 := (h.args i hi j hj).2
      have m4 := len_size ((d.fs i).nm j)
      unfold opB
      cases hasA ((d.fs i).nm j) <;> simp [spaced] at * <;> omega
    have t6 := t5 i hi
    have o2 : (d.fs i).n * 1050000 ≤ 2000 * 1050000 := Nat.mul_le_mul_right _ t6
    unfold funcB headB
    simp [spaced] at *
    omega
  have hI : (partI d).length ≤ d.nI * 1000 := by
    refine upto_few fun i hi => ?_
    have n1 := nat i (by omega)
    have n2 := dec_len (h.ints i hi)
    unfold intB
    simp [spaced] at *
    omega
  have hS : (partS (fun s => quotedB s.data.toList) d).length ≤ d.nS * 5000000 := by
    refine upto_few fun i hi => ?_
    have n1 := nat i (by omega)
    have n2 := quoted_few (d.ss i) (h.strs i hi)
    have n3 := len_size (quotedB (d.ss i).data.toList)
    unfold strB
    simp [spaced] at *
    omega
  have hN : (partN d).length ≤ d.nN * 1100000 := by
    refine upto_few fun i hi => ?_
    have n1 := nat i (by omega)
    have n2 := dash_few _ (h.names i hi)
    unfold nameB
    simp [spaced] at *
    omega
  have e1 : d.nF * 2200000000 ≤ 100 * 2200000000 := Nat.mul_le_mul_right _ t1
  have e2 : d.nI * 1000 ≤ 300 * 1000 := Nat.mul_le_mul_right _ t2
  have e3 : d.nS * 5000000 ≤ 300 * 5000000 := Nat.mul_le_mul_right _ t3
  have e4 : d.nN * 1100000 ≤ 300 * 1100000 := Nat.mul_le_mul_right _ t4
  unfold codeB
  rw [List.length_append, List.length_append, List.length_append]
  omega
end Go.Proofs.YtgpfjlejmcdpmaaDoor
