/- The law LexQuotes: what is written as a str is read as that str. -/
import Derived.Test.YtpflpbfnifpchaaGreatDoorLexU
namespace Go.Proofs.YtpflpbfnifpchaaGreatDoor
open Go.RowKit

theorem get_at {q : ByteArray} {pre rest : List UInt8} {x : UInt8} (h : q.data.toList = pre ++ x :: rest) : ∃ hlt : pre.length < q.size, q[pre.length] = x := by
  have hl : pre.length < q.data.toList.length := by rw [h]; simp
  have hlt : pre.length < q.size := by simpa using hl
  refine ⟨hlt, ?_⟩
  have e : q.data.toList[pre.length] = x := by simp [h]
  have e2 : q.data[pre.length] = x := by simpa using e
  exact e2

theorem hexVal_dig (n : Nat) (h : n ≤ 15) : hexVal (hexDig n) = n := by
  iterate 16 (rcases n with _ | n; · decide)
  omega

theorem data_size {q : ByteArray} {l : List UInt8} (h : q.data.toList = l) : q.size = l.length := by
  have := congrArg List.length h
  simpa using this

theorem escB_cases (c : UInt8) : (c.toNat = 10 ∧ escB c = [92, 110]) ∨ (c.toNat = 34 ∧ escB c = [92, 34]) ∨ (c.toNat = 92 ∧ escB c = [92, 92]) ∨ escB c = [92, 120, hexDig (c.toNat / 16), hexDig (c.toNat % 16)] ∨ (escB c = [c] ∧ c.toNat ≠ 34 ∧ c.toNat ≠ 92 ∧ 32 ≤ c.toNat ∧ c.toNat ≤ 126) := by
  unfold escB
  split
  · exact .inl ⟨by assumption, rfl⟩
  · split
    · exact .inr (.inl ⟨by assumption, rfl⟩)
    · split
      · exact .inr (.inr (.inl ⟨by assumption, rfl⟩))
      · split
        · exact .inr (.inr (.inr (.inl rfl)))
        · exact .inr (.inr (.inr (.inr ⟨rfl, by assumption, by assumption, by omega, by omega⟩)))

/-- The bytes of a str, read. -/
theorem strFrom_flat (q : ByteArray) : ∀ (l pre : List UInt8) (acc : List Int) (n : Nat), q.data.toList = pre ++ l.flatMap escB ++ [34] → q.size + 1 - pre.length ≤ n → strFrom q n pre.length acc = some (acc ++ l.map (fun c => (c.toNat : Int)), q.size)
  | [], pre, acc, n, h, hn => by
    have hz := data_size h
    simp at hz
    simp at h
    obtain ⟨hlt, e⟩ := get_at (rest := []) h
    obtain ⟨m, rfl⟩ : ∃ m, n = m + 1 := ⟨n - 1, by omega⟩
    simp [strFrom, hlt, e]
    omega
  | c :: r, pre, acc, n, h, hn => by
    have hz := data_size h
    rw [List.flatMap_cons] at h
    have step : ∀ (es : List UInt8) (v : Int) (m : Nat), escB c = es → v = (c.toNat : Int) → q.size + 1 - (pre ++ es).length ≤ m → strFrom q m (pre ++ es).length (acc ++ [v]) = some (acc ++ (c :: r).map (fun c => (c.toNat : Int)), q.size) := by
      intro es v m he hv hm
      have := strFrom_flat q r (pre ++ es) (acc ++ [v]) m (by rw [h, he]; simp) hm
      rw [this, hv]
      simp
    rcases escB_cases c with ⟨hc, he⟩ | ⟨hc, he⟩ | ⟨hc, he⟩ | he | ⟨he, h34, h92, h32, h126⟩
    all_goals rw [he] at h
    · obtain ⟨l0, e0⟩ := get_at (rest := 110 :: (r.flatMap escB ++ [34])) (by simpa using h)
      obtain ⟨l1, e1⟩ := get_at (pre := pre ++ [92]) (rest := r.flatMap escB ++ [34]) (by simpa using h)
      simp only [List.length_append, List.length_cons, List.length_nil] at l1 e1
      obtain ⟨m, rfl⟩ : ∃ m, n = m + 1 := ⟨n - 1, by omega⟩
      have hs := step [92, 110] 10 m he (by omega) (by simp; omega)
      simp only [List.length_append, List.length_cons, List.length_nil] at hs
      simp [strFrom, l0, e0, escAt, l1, e1]
      exact hs
    · obtain ⟨l0, e0⟩ := get_at (rest := 34 :: (r.flatMap escB ++ [34])) (by simpa using h)
      obtain ⟨l1, e1⟩ := get_at (pre := pre ++ [92]) (rest := r.flatMap escB ++ [34]) (by simpa using h)
      simp only [List.length_append, List.length_cons, List.length_nil] at l1 e1
      obtain ⟨m, rfl⟩ : ∃ m, n = m + 1 := ⟨n - 1, by omega⟩
      have hs := step [92, 34] 34 m he (by omega) (by simp; omega)
      simp only [List.length_append, List.length_cons, List.length_nil] at hs
      simp [strFrom, l0, e0, escAt, l1, e1]
      exact hs
    · obtain ⟨l0, e0⟩ := get_at (rest := 92 :: (r.flatMap escB ++ [34])) (by simpa using h)
      obtain ⟨l1, e1⟩ := get_at (pre := pre ++ [92]) (rest := r.flatMap escB ++ [34]) (by simpa using h)
      simp only [List.length_append, List.length_cons, List.length_nil] at l1 e1
      obtain ⟨m, rfl⟩ : ∃ m, n = m + 1 := ⟨n - 1, by omega⟩
      have hs := step [92, 92] 92 m he (by omega) (by simp; omega)
      simp only [List.length_append, List.length_cons, List.length_nil] at hs
      simp [strFrom, l0, e0, escAt, l1, e1]
      exact hs
    · have hc : c.toNat < 256 := c.toNat_lt
      obtain ⟨l0, e0⟩ := get_at (rest := 120 :: hexDig (c.toNat / 16) :: hexDig (c.toNat % 16) :: (r.flatMap escB ++ [34])) (by simpa using h)
      obtain ⟨l1, e1⟩ := get_at (pre := pre ++ [92]) (rest := hexDig (c.toNat / 16) :: hexDig (c.toNat % 16) :: (r.flatMap escB ++ [34])) (by simpa using h)
      obtain ⟨l2, e2⟩ := get_at (pre := pre ++ [92, 120]) (rest := hexDig (c.toNat % 16) :: (r.flatMap escB ++ [34])) (by simpa using h)
      obtain ⟨l3, e3⟩ := get_at (pre := pre ++ [92, 120, hexDig (c.toNat / 16)]) (rest := r.flatMap escB ++ [34]) (by simpa using h)
      simp only [List.length_append, List.length_cons, List.length_nil] at l1 e1 l2 e2 l3 e3
      obtain ⟨m, rfl⟩ : ∃ m, n = m + 1 := ⟨n - 1, by omega⟩
      have v1 := hexVal_dig (c.toNat / 16) (by omega)
      have v2 := hexVal_dig (c.toNat % 16) (by omega)
      have hs := step [92, 120, hexDig (c.toNat / 16), hexDig (c.toNat % 16)] (hexVal (hexDig (c.toNat / 16)) * 16 + hexVal (hexDig (c.toNat % 16))) m he (by rw [v1, v2]; omega) (by simp; omega)
      simp only [List.length_append, List.length_cons, List.length_nil] at hs
      have hea : escAt q (pre.length + 1) = some (hexVal (hexDig (c.toNat / 16)) * 16 + hexVal (hexDig (c.toNat % 16)), pre.length + 1 + 3) := by
        unfold escAt
        rw [dif_pos l1]
        simp only [e1]
        rw [dif_pos (show pre.length + 1 + 2 < q.size by omega)]
        have f2 : q[pre.length + 1 + 1] = hexDig (c.toNat / 16) := e2
        have f3 : q[pre.length + 1 + 2] = hexDig (c.toNat % 16) := e3
        rw [f2, f3, if_pos (show 0 ≤ hexVal (hexDig (c.toNat / 16)) ∧ 0 ≤ hexVal (hexDig (c.toNat % 16)) by rw [v1, v2]; omega)]
        rfl
      simp [strFrom, l0, e0, hea]
      exact hs
    · obtain ⟨l0, e0⟩ := get_at (rest := r.flatMap escB ++ [34]) (by simpa using h)
      obtain ⟨m, rfl⟩ : ∃ m, n = m + 1 := ⟨n - 1, by omega⟩
      have hs := step [c] (c.toNat : Int) m he rfl (by simp; omega)
      simp only [List.length_append, List.length_cons, List.length_nil] at hs
      have i34 : ((c.toNat : Int) == 34) = false := by simp; omega
      have i92 : ((c.toNat : Int) == 92) = false := by simp; omega
      have l32 : ¬ (c.toNat : Int) < 32 := by omega
      have g126 : ¬ 126 < (c.toNat : Int) := by omega
      simp only [strFrom, l0, dif_pos, e0, i34, i92, l32, g126, Bool.false_eq_true, if_false]
      exact hs
end Go.Proofs.YtpflpbfnifpchaaGreatDoor
