/- Package lex: the walk of a line. -/
import Derived.Test.YtpflpbfnifpchaaGreatDoorLexN
namespace Go.Proofs.YtpflpbfnifpchaaGreatDoor
open Go.RowKit

/-- What settle comes to. -/
def StPost (B p : Nat) (s : ByteArray) (i : Nat) (st : List Int) (ind : Int) (n : Nat) (tk : List Value) (a0 : Addr) (w : World) (ev : Ending) (w' : World) : Prop :=
  match settleP st ind i n tk with
  | some (st', n', tk') => ev = .returned (.tuple #[]) ∧ RS B p s i st'.reverse n' tk' w' ∧ Below B w w'
  | none => Thrown B w i a0 ev w'

theorem settle_any (B p : Nat) (s : ByteArray) (i : Nat) (st : List Int) (ind : Int) (n : Nat) (tk : List Value) (a0 : Addr) (w : World) (h : RS B p s i st.reverse n tk w) (E : Env B a0 w) (hst : st.getLast? = some 0) (hl : st.length ≤ 30000) (hn : n ≤ 40000) (h0 : 0 ≤ ind) :
    Calls Tryz.prog 17 #[.pointer (some ⟨p, 0, none⟩), .int .i64 ind] w fun ev w' => StPost B p s i st ind n tk a0 w ev w' := by
  cases st with
  | nil => cases hst
  | cons x xs =>
    by_cases hx : x < ind
    · rw [List.reverse_cons] at h
      refine (settle_in B p s i xs.reverse x ind n tk w h (by simp at hl ⊢; omega) (by omega) hx).mono ?_
      rintro ev w' ⟨h1, h2, h3⟩
      unfold StPost
      simp only [settleP, hx, if_true]
      refine ⟨h1, ?_, h3⟩
      simpa [List.reverse_cons, kIndent] using h2
    · refine (settle_out B p s i x xs ind n tk a0 w h (by simp at hl; omega) (by omega) hx h0 hst E.bg E.hg).mono ?_
      intro ev w' hq
      unfold SPost at hq
      unfold StPost
      simp only [settleP, hx, if_false]
      split at hq
      · rename_i he
        rw [if_pos he]
        exact hq
      · rename_i he
        rw [if_neg he]
        exact hq

theorem popTo_last (ind : Int) : ∀ st : List Int, (popTo ind st).2 ≠ [] → st.getLast? = some 0 → (popTo ind st).2.getLast? = some 0
  | [], h, _ => by simp [popTo] at h
  | x :: xs, h, hl => by
    unfold popTo at h ⊢
    split
    · rename_i hlt
      rw [if_pos hlt] at h
      simp only at h ⊢
      cases xs with
      | nil => simp [popTo] at h
      | cons y ys => exact popTo_last ind (y :: ys) h (by simpa using hl)
    · exact hl
theorem popTo_len (ind : Int) : ∀ st : List Int, (popTo ind st).1 + (popTo ind st).2.length = st.length
  | [] => rfl
  | x :: xs => by
    unfold popTo
    split
    · have := popTo_len ind xs
      simp only [List.length_cons]
      omega
    · simp
theorem settleP_inv {st st' : List Int} {ind : Int} {i n n' : Nat} {tk tk' : List Value} (h : settleP st ind i n tk = some (st', n', tk')) (hl : st.getLast? = some 0) : st'.getLast? = some 0 ∧ n' + st'.length ≤ n + st.length + 2 := by
  cases st with
  | nil => cases hl
  | cons x xs =>
    unfold settleP at h
    simp only at h
    split at h
    · simp at h
      obtain ⟨rfl, rfl, rfl⟩ := h
      refine ⟨by simpa using hl, by simp; omega⟩
    · split at h
      · rename_i he
        simp at h
        obtain ⟨rfl, rfl, rfl⟩ := h
        refine ⟨popTo_last ind _ (fun e => by rw [e] at he; cases he) hl, ?_⟩
        have := popTo_len ind (x :: xs)
        omega
      · cases h

/-- What a line comes to. -/
def LPost (B p : Nat) (s : ByteArray) (σ : LexSt) (a0 : Addr) (w : World) (ev : Ending) (w' : World) : Prop :=
  match lineStep s σ with
  | .ok σ' => ev = .returned (.tuple #[]) ∧ RS B p s σ'.at_ σ'.st.reverse σ'.n σ'.tk w' ∧ Below B w w'
  | .error e => Thrown B w e a0 ev w'

theorem LPost.ok {B p : Nat} {s : ByteArray} {σ σ' : LexSt} {a0 : Addr} {w w' : World} (h : lineStep s σ = .ok σ') (h1 : RS B p s σ'.at_ σ'.st.reverse σ'.n σ'.tk w') (h2 : Below B w w') : LPost B p s σ a0 w (.returned (.tuple #[])) w' := by
  unfold LPost
  rw [h]
  exact ⟨rfl, h1, h2⟩
theorem LPost.err {B p : Nat} {s : ByteArray} {σ : LexSt} {e : Nat} {a0 : Addr} {w w' : World} {ev : Ending} (h : lineStep s σ = .error e) (h1 : Thrown B w e a0 ev w') : LPost B p s σ a0 w ev w' := by
  unfold LPost
  rw [h]
  exact h1
theorem lineStep_blank {s : ByteArray} {σ : LexSt} (h : endsB s (skipTo s σ.at_) = true) : lineStep s σ = .ok { σ with at_ := afterLine s (skipTo s σ.at_) } := by
  simp only [lineStep, h, if_true]

/-- The invariant of a reader's state. -/
structure Inv (s : ByteArray) (σ : LexSt) : Prop where
  hat : σ.at_ ≤ s.size
  last : σ.st.getLast? = some 0
  cnt : σ.n + σ.st.length ≤ 4 * σ.at_ + 1

set_option maxHeartbeats 1000000 in
/-- A line without tokens. -/
theorem line_blank (B p : Nat) (s : ByteArray) (σ : LexSt) (a0 : Addr) (w : World) (h : RS B p s σ.at_ σ.st.reverse σ.n σ.tk w) (he : endsB s (skipTo s σ.at_) = true) :
    Calls Tryz.prog 16 #[.pointer (some ⟨p, 0, none⟩)] w fun ev w' => LPost B p s σ a0 w ev w' := by
  have hb := blanksTo_le s σ.at_ h.hA.hat
  have hsk := skipTo_le s σ.at_ h.hA.hat
  have HE : Hid (endsB s (skipTo s σ.at_) = true) := he
  clear he
  have hB : B ≤ w.heap.size := by have := h.hp; have := h.hpl; omega
  go_enter Tryz.func16, Tryz.ntmps16
  go_wp2_with fail
  refine (passBlanks_any p s σ.at_ w h.hA).mono ?_
  rintro ev w1 ⟨rfl, hm1⟩
  have h1 := h.went hm1.went hb.2
  go_wp2_with fail
  refine (lineEnds_any p s _ w1 h1.hA).mono ?_
  rintro ev w2 ⟨rfl, hm2⟩
  rw [show endsB s (commentTo s (blanksTo s σ.at_)) = true from HE.out]
  have h2 := h1.went hm2.went hsk.2
  have hm := hm1.trans hm2
  have hsz := h2.hA.hs
  generalize hsx : commentTo s (blanksTo s σ.at_) = e at hm2 hm h2
  have HSX : Hid (skipTo s σ.at_ = e) := hsx
  clear hsx hm1 hm2 h1
  have hle : e ≤ s.size := by have := HSX.out; omega
  obtain ⟨hs, _, c0, c1, f1⟩ := h2.hA
  by_cases hlt : e < s.size
  · have hI : (e : Int) < (s.size : Int) := by omega
    go_wp2_with fail
    go_quiet (fail)
    go_wp2_with fail
    go_end0
    have hm3 := (hm.drewN nq).trans (Moved.set (hm.drewN nq).at_ (e + 1))
    have ea : afterLine s (skipTo s σ.at_) = e + 1 := by rw [HSX.out]; simp [afterLine, hlt]
    refine LPost.ok (lineStep_blank HE.out) ?_ (hm3.below h.hp)
    rw [ea]
    exact h.went hm3.went (show e + 1 ≤ s.size by omega)
  · have hd : decide ((e : Int) < (s.size : Int)) = false := by simp; omega
    go_wp2_with fail
    go_quiet (fail)
    go_wp2_with fail
    go_end0
    have ea : afterLine s (skipTo s σ.at_) = e := by rw [HSX.out]; simp [afterLine, hlt]
    refine LPost.ok (lineStep_blank HE.out) ?_ ((hm.drewN _).below h.hp)
    rw [ea]
    exact h.went (hm.drewN _).went hle
end Go.Proofs.YtpflpbfnifpchaaGreatDoor
