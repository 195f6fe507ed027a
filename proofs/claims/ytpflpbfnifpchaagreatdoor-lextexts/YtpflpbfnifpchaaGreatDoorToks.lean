/- Package lex: what Lex tells, as cells; once and for all. -/
import Derived.Test.YtpflpbfnifpchaaGreatDoorFineP
namespace Go.Proofs.YtpflpbfnifpchaaGreatDoor
open Go.RowKit

/-- What Lex has told: tokens, as cells of a row; or a fault. -/
def Told (s : ByteArray) (B : Nat) (v5 v6 : Value) (w : World) : Prop :=
  match lexP s with
  | .ok (n, tk) => ∃ g cap, v5 = .slice (some ⟨g, 0, none⟩) n cap ∧ v6 = .nilIface ∧ B ≤ g ∧ g < w.heap.size ∧ (∀ k v, tk[k]? = some v → w.cell? ⟨g, k, none⟩ = some v)
  | .error _ => v5 = .slice none 0 0 ∧ ∃ b, v6 = .iface 45 (.pointer (some ⟨b, 0, none⟩))

theorem Told.below {s : ByteArray} {B : Nat} {v5 v6 : Value} {w w' : World} (h : Told s B v5 v6 w) (hb : Below w.heap.size w w') : Told s B v5 v6 w' := by
  unfold Told at h ⊢
  cases hl : lexP s with
  | error e => rw [hl] at h; exact h
  | ok x =>
    obtain ⟨n, tk⟩ := x
    rw [hl] at h
    obtain ⟨g, cap, h1, h2, h3, h4, h5⟩ := h
    exact ⟨g, cap, h1, h2, h3, Nat.lt_of_lt_of_le h4 hb.size, fun k v hk => (hb.cell (p := ⟨g, k, none⟩) h4).trans (h5 k v hk)⟩

theorem lexP_pos {s : ByteArray} {n : Nat} {tk : List Value} (h : lexP s = .ok (n, tk)) : 0 < n := by
  obtain ⟨l, _, rfl, _, hd, _⟩ := lexP_fine h
  cases l with
  | nil =>
    exfalso
    unfold lexP at h
    split at h
    · cases h
    · split at h
      · cases h
      · simp at h
  | cons _ _ => simp
theorem cells_len : ∀ l : List (ByteArray × ByteArray × Nat), (cellsOf l).length = 3 * l.length
  | [] => rfl
  | x :: l => by
    have ih := cells_len l
    have e : cellsOf (x :: l) = tokCells x.1 x.2.1 x.2.2 ++ cellsOf l := rfl
    rw [e, List.length_append, ih]
    simp [tokCells]
    omega
theorem lexP_len {s : ByteArray} {n : Nat} {tk : List Value} (h : lexP s = .ok (n, tk)) : tk.length = 3 * n := by
  obtain ⟨l, rfl, rfl, _, _⟩ := lexP_fine h
  clear h
  exact cells_len l

/-- Lex, of a program that is not too long, once and for all. -/
theorem lex_told (s : ByteArray) (a0 a1 : Addr) (w : World) (E : LEnv w.heap.size a0 a1 w) (hs : s.size ≤ 6000) :
    Calls Tryz.prog 6 #[.string s] w fun ev w' => ∃ v5 v6, ev = .returned (.tuple #[v5, v6]) ∧ Told s w.heap.size v5 v6 w' ∧ Below w.heap.size w w' := by
  refine (lex_any s a0 a1 w E).mono ?_
  rintro ev w' ⟨hb, hx⟩
  rw [if_neg (by omega)] at hx
  unfold Told
  cases hl : lexP s with
  | error e =>
    rw [hl] at hx
    obtain ⟨b, rfl, _, _⟩ := hx
    exact ⟨_, _, rfl, ⟨rfl, b, rfl⟩, hb⟩
  | ok x =>
    obtain ⟨n, tk⟩ := x
    rw [hl] at hx
    obtain ⟨vt, rfl, ho⟩ := hx
    have hn := lexP_pos hl
    rcases ho.2 with ⟨_, h0⟩ | ⟨g, cap, cur, rfl, hB, hg, _, _, hsz, htk⟩
    · omega
    · refine ⟨_, _, rfl, ⟨g, cap, rfl, rfl, hB, lt_of_heap hg, fun k v hk => ?_⟩, hb⟩
      rw [cell_of_row w' g k cur 44 (0, 0) hg, ← Array.getElem?_toList]
      have hlt : k < tk.length := by
        rcases Nat.lt_or_ge k tk.length with h1 | h1
        · exact h1
        · rw [List.getElem?_eq_none h1] at hk; cases hk
      have e : (cur.toList.take (n * 3))[k]? = tk[k]? := by rw [htk]
      rw [List.getElem?_take, if_pos (by have := ho.1; omega)] at e
      rw [e]
      exact hk

theorem run_inv (s : ByteArray) : ∀ {f : Nat} {σ τ : LexSt}, Inv s σ → runLines s f σ = .ok τ → Inv s τ
  | 0, σ, τ, I, h => by simp [runLines] at h; subst h; exact I
  | f + 1, σ, τ, I, h => by
    unfold runLines at h
    split at h
    · rename_i hlt
      cases hs : lineStep s σ with
      | error e => rw [hs] at h; cases h
      | ok σ' =>
        rw [hs] at h
        exact run_inv s (lineStep_inv I hlt hs).1 h
    · simp at h; subst h; exact I
theorem lexP_bd {s : ByteArray} {n : Nat} {tk : List Value} (h : lexP s = .ok (n, tk)) : n ≤ 4 * s.size + 4 := by
  unfold lexP at h
  cases hr : runLines s s.size ⟨0, [0], 0, []⟩ with
  | error e => rw [hr] at h; cases h
  | ok σ =>
    rw [hr] at h
    simp only at h
    have hI := run_inv s (f := s.size) (inv0 s) hr
    cases hst : settleP σ.st 0 σ.at_ σ.n σ.tk with
    | none => rw [hst] at h; cases h
    | some x =>
      obtain ⟨st', n', tk'⟩ := x
      rw [hst] at h
      simp only [Except.ok.injEq, Prod.mk.injEq] at h
      have h1 := settleP_inv hst hI.last
      have h2 := hI.cnt
      have h3 := hI.hat
      omega

theorem cells_get : ∀ (l : List (ByteArray × ByteArray × Nat)) (j : Nat) (x : ByteArray × ByteArray × Nat), l[j]? = some x → (cellsOf l)[j * 3]? = some (.string x.1) ∧ (cellsOf l)[j * 3 + 1]? = some (.string x.2.1) ∧ (cellsOf l)[j * 3 + 2]? = some (.int .i64 x.2.2)
  | [], j, x, h => by simp at h
  | y :: l, 0, x, h => by
    simp at h
    subst h
    exact ⟨rfl, rfl, rfl⟩
  | y :: l, j + 1, x, h => by
    have ih := cells_get l j x (by simpa using h)
    have e : cellsOf (y :: l) = tokCells y.1 y.2.1 y.2.2 ++ cellsOf l := rfl
    have hl : (tokCells y.1 y.2.1 y.2.2).length = 3 := rfl
    rw [e, List.getElem?_append_right (by omega), List.getElem?_append_right (by omega), List.getElem?_append_right (by omega), hl]
    rw [show (j + 1) * 3 - 3 = j * 3 by omega, show (j + 1) * 3 + 1 - 3 = j * 3 + 1 by omega, show (j + 1) * 3 + 2 - 3 = j * 3 + 2 by omega]
    exact ih

end Go.Proofs.YtpflpbfnifpchaaGreatDoor
