/- The law LexDeep, plain: what Lex comes to at lines that stand deeper and deeper, and one that goes back. -/
import Derived.Test.YtpflpbfnifpchaaGreatDoorLexW
namespace Go.Proofs.YtpflpbfnifpchaaGreatDoor
open Go.RowKit

theorem opens_len : ∀ (ks : List Nat) (m : Nat) (st : List Int), (opens st m ks).length = st.length + 1 + ks.length
  | [], m, st => by simp [opens]
  | k :: ks, m, st => by simp [opens, opens_len ks]; omega

/-- Falling, strictly. -/
def falls : List Int → Prop
  | [] => True
  | [_] => True
  | x :: y :: r => y < x ∧ falls (y :: r)

theorem opens_falls : ∀ (ks : List Nat) (m : Nat) (st : List Int), (∀ k ∈ ks, 1 ≤ k) → falls ((m : Int) :: st) → falls (opens st m ks)
  | [], m, st, _, h => h
  | k :: ks, m, st, hk, h => by
    have h1 := hk k (by simp)
    exact opens_falls ks (m + k) ((m : Int) :: st) (fun x hx => hk x (by simp [hx])) ⟨by omega, h⟩

theorem falls_lt : ∀ (l : List Int) (x : Int) (b : Nat) (y : Int), falls (x :: l) → l[b]? = some y → y < x
  | [], x, b, y, h, hy => by simp at hy
  | z :: r, x, 0, y, h, hy => by simp at hy; have := h.1; omega
  | z :: r, x, b + 1, y, h, hy => by
    have := falls_lt r z b y h.2 (by simpa using hy)
    have := h.1
    omega
theorem falls_tail {x : Int} {l : List Int} (h : falls (x :: l)) : falls l := by
  cases l with
  | nil => trivial
  | cons y r => exact h.2

/-- Back to the one that stands at b: b are closed. -/
theorem popTo_falls : ∀ (b : Nat) (l : List Int) (y : Int), falls l → l[b]? = some y → popTo y l = (b, l.drop b)
  | 0, [], y, h, hy => by simp at hy
  | 0, x :: l, y, h, hy => by
    simp at hy
    subst hy
    simp [popTo]
  | b + 1, [], y, h, hy => by simp at hy
  | b + 1, x :: l, y, h, hy => by
    have hl : l[b]? = some y := by simpa using hy
    have h1 := falls_lt l x b y h hl
    have ih := popTo_falls b l y (falls_tail h) hl
    simp [popTo, h1, ih]

theorem settle_falls (b : Nat) (l : List Int) (y : Int) (i n : Nat) (tk : List Value) (h : falls l) (hy : l[b]? = some y) : settleP l y i n tk = some (l.drop b, n + b, tk ++ dedents i b) := by
  have hp := popTo_falls b l y h hy
  cases l with
  | nil => simp at hy
  | cons x r =>
    have hx : ¬ x < y := by
      cases b with
      | zero => simp at hy; omega
      | succ b => have := falls_lt r x b y h (by simpa using hy); omega
    have hd : ((x :: r).drop b).head? = some y := by rw [List.head?_drop]; exact hy
    unfold settleP
    simp only
    rw [if_neg hx, hp]
    simp only
    rw [if_pos hd]

theorem falls_drop : ∀ (b : Nat) (l : List Int), falls l → falls (l.drop b)
  | 0, l, h => by simpa using h
  | b + 1, [], h => by simp [falls]
  | b + 1, x :: l, h => by simpa using falls_drop b l (falls_tail h)

theorem opens_last : ∀ (ks : List Nat) (m : Nat) (st : List Int) (z : Int), ((m : Int) :: st)[st.length]? = some z → (opens st m ks)[st.length + ks.length]? = some z
  | [], m, st, z, h => by simpa [opens] using h
  | k :: ks, m, st, z, h => by
    have := opens_last ks (m + k) ((m : Int) :: st) z (by simpa using h)
    simp only [List.length_cons] at this ⊢
    rw [show st.length + (ks.length + 1) = st.length + 1 + ks.length by omega]
    exact this

/-- The whole program: a, the lines, and c at the indentation that stands at back. -/
theorem lexP_deep (s : ByteArray) (ks : List Nat) (back m : Nat) (hk : ∀ k ∈ ks, 1 ≤ k) (hb : back ≤ ks.length) (hm : (opens [] 0 ks)[back]? = some (m : Int))
    (h : s.data.toList = [97, 10] ++ deepLines 0 ks ++ (List.replicate m 32 ++ [99, 10])) :
    ∃ i j, lexP s = .ok (2 + 3 * ks.length + back + 2 + (ks.length - back) + 1, tokCells kName ⟨#[97]⟩ 0 ++ tokCells kNewline ⟨#[]⟩ 1 ++ deepToks 2 0 ks ++ dedents i back ++ tokCells kName ⟨#[99]⟩ i ++ tokCells kNewline ⟨#[]⟩ (i + 1) ++ dedents j (ks.length - back) ++ tokCells kEnd ⟨#[]⟩ j) := by
  have hz := data_size h
  simp at hz
  have l0 := line_letter s 97 (by simp) (deepLines 0 ks ++ (List.replicate m 32 ++ [99, 10])) 0 [] (by simpa using h) [0] 0 [] [0] 0 [] rfl
  have h0 : (0 : Nat) < s.size := by omega
  have I1 := lineStep_inv (inv0 s) h0 l0
  have g0 := runLines_go (inv0 s) h0 l0
  have d := run_deep s (List.replicate m 32 ++ [99, 10]) ks 0 [97, 10] [] 2 (tokCells kName ⟨#[97]⟩ 0 ++ tokCells kNewline ⟨#[]⟩ 1) hk h I1.1
  have hf := opens_falls ks 0 [] hk trivial
  have hst := settle_falls back (opens [] 0 ks) m (([97, 10] ++ deepLines 0 ks).length + m) (2 + 3 * ks.length) (tokCells kName ⟨#[97]⟩ 0 ++ tokCells kNewline ⟨#[]⟩ 1 ++ deepToks 2 0 ks) hf hm
  have l1 := line_letter s 99 (by simp) [] m ([97, 10] ++ deepLines 0 ks) (by simpa using h) _ _ _ _ _ _ hst
  have hp : ([97, 10] ++ deepLines 0 ks).length + m + 2 = s.size := by simp; omega
  have h1 : ([97, 10] ++ deepLines 0 ks).length < s.size := by omega
  have g1 := runLines_go d.2 h1 l1
  refine ⟨([97, 10] ++ deepLines 0 ks).length + m, ([97, 10] ++ deepLines 0 ks).length + m + 2, ?_⟩
  have hl : (opens [] 0 ks).length = 1 + ks.length := by simpa using opens_len ks 0 []
  have h00 : (opens [] 0 ks)[ks.length]? = some 0 := by simpa using opens_last ks 0 [] 0 rfl
  have hd0 : ((opens [] 0 ks).drop back)[ks.length - back]? = some 0 := by rw [List.getElem?_drop, show back + (ks.length - back) = ks.length by omega]; exact h00
  have hs2 := fun i n tk => settle_falls (ks.length - back) ((opens [] 0 ks).drop back) 0 i n tk (falls_drop back _ hf) hd0
  unfold lexP
  have e := (g0.trans d.1).trans (g1.trans (runLines_end (by simp only; omega)))
  simp only [Nat.sub_zero] at e
  rw [e]
  simp only [hs2]
end Go.Proofs.YtpflpbfnifpchaaGreatDoor
