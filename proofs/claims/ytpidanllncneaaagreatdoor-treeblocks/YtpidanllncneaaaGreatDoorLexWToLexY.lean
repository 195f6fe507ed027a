/- Package lex: a line of blanks and one letter. -/
import Derived.Test.YtpidanllncneaaaGreatDoorLexSToLexV
import Derived.Laws.Strings
namespace Go.Proofs.YtpidanllncneaaaGreatDoor
open Go.RowKit

/-- The blanks of a line, all of them. -/
theorem blanks_run (s : ByteArray) (x : UInt8) (rest : List UInt8) (hx : x ≠ 32) : ∀ (m : Nat) (pre : List UInt8), s.data.toList = pre ++ List.replicate m 32 ++ x :: rest → blanksTo s pre.length = pre.length + m
  | 0, pre, h => by
    obtain ⟨hlt, e⟩ := get_at (q := s) (pre := pre) (rest := rest) (x := x) (by simpa using h)
    refine passTo_stop hlt ?_
    rw [e]
    have : x.toNat ≠ 32 := fun h => hx (UInt8.toNat_inj.mp h)
    simp [blankB]
    omega
  | m + 1, pre, h => by
    obtain ⟨hlt, e⟩ := get_at (q := s) (pre := pre) (rest := List.replicate m 32 ++ x :: rest) (x := 32) (by simpa [List.replicate_succ] using h)
    have ih := blanks_run s x rest hx m (pre ++ [32]) (by simpa [List.replicate_succ] using h)
    unfold blanksTo at ih ⊢
    rw [passTo_go hlt (by rw [e]; rfl)]
    simp only [List.length_append, List.length_cons, List.length_nil] at ih
    rw [ih]
    omega

/-- A line of blanks and the letter a, b or c. -/
theorem line_letter (s : ByteArray) (c : UInt8) (hc : c = 97 ∨ c = 98 ∨ c = 99) (rest : List UInt8) (m : Nat) (pre : List UInt8) (h : s.data.toList = pre ++ List.replicate m 32 ++ c :: 10 :: rest) (st : List Int) (n : Nat) (tk : List Value) (st' : List Int) (n' : Nat) (tk' : List Value) (hst : settleP st m (pre.length + m) n tk = some (st', n', tk')) :
    lineStep s ⟨pre.length, st, n, tk⟩ = .ok ⟨pre.length + m + 2, st', n' + 2, tk' ++ tokCells kName ⟨#[c]⟩ (pre.length + m) ++ tokCells kNewline ⟨#[]⟩ (pre.length + m + 1)⟩ := by
  have hz := data_size h
  simp at hz
  have hb := blanks_run s c (10 :: rest) (by rcases hc with rfl | rfl | rfl <;> decide) m pre h
  obtain ⟨l0, e0⟩ := get_at (q := s) (pre := pre ++ List.replicate m 32) (rest := 10 :: rest) (x := c) (by simpa using h)
  obtain ⟨l1, e1⟩ := get_at (q := s) (pre := pre ++ List.replicate m 32 ++ [c]) (rest := rest) (x := 10) (by simpa using h)
  simp only [List.length_append, List.length_cons, List.length_nil, List.length_replicate] at l0 e0 l1 e1
  have hcom : commentTo s (pre.length + m) = pre.length + m := by
    unfold commentTo
    rw [dif_pos (by omega)]
    simp only [e0]
    rcases hc with rfl | rfl | rfl <;> rfl
  have hsk : skipTo s pre.length = pre.length + m := by unfold skipTo; rw [hb, hcom]
  have hen : endsB s (pre.length + m) = false := by
    unfold endsB
    rw [dif_pos (by omega)]
    simp only [e0]
    rcases hc with rfl | rfl | rfl <;> rfl
  have hnt : nameTo s (pre.length + m) = pre.length + m + 1 := by
    unfold nameTo
    refine passTo_stop (by omega) ?_
    have : s[pre.length + m + 1] = 10 := e1
    rw [this]; rfl
  have hex : s.extract (pre.length + m) (pre.length + m + 1) = ⟨#[c]⟩ := by
    apply ByteArray.ext
    apply Array.ext'
    rw [ByteArray.data_extract, Array.toList_extract, h]
    simp [List.extract, List.drop_append, List.take_append]
  have hn : nameAt s (pre.length + m) = some (false, ⟨#[c]⟩, pre.length + m + 1) := by
    unfold nameAt
    rw [dif_pos (by omega), hnt, hex]
    simp only [e0]
    have hw : wordB ⟨#[c]⟩ = false := by rcases hc with rfl | rfl | rfl <;> kernel_rfl
    rw [if_neg (by rw [hw]; decide), if_neg (by rcases hc with rfl | rfl | rfl <;> decide), if_neg (by omega)]
  have ht : tokAt s (pre.length + m) = some (kName, ⟨#[c]⟩, pre.length + m + 1) := by
    unfold tokAt
    rw [dif_pos (by omega)]
    simp only [e0]
    rw [if_pos (by rcases hc with rfl | rfl | rfl <;> decide), hn]
    rfl
  have hb1 : blanksTo s (pre.length + m + 1) = pre.length + m + 1 := by
    refine passTo_stop (by omega) ?_
    have : s[pre.length + m + 1] = 10 := e1
    rw [this]; rfl
  have hcom1 : commentTo s (pre.length + m + 1) = pre.length + m + 1 := by
    unfold commentTo
    rw [dif_pos (by omega)]
    have : s[pre.length + m + 1] = 10 := e1
    simp only [this]
    rfl
  have hsk1 : skipTo s (pre.length + m + 1) = pre.length + m + 1 := by unfold skipTo; rw [hb1, hcom1]
  have hen1 : endsB s (pre.length + m + 1) = true := by
    unfold endsB
    rw [dif_pos (by omega)]
    have : s[pre.length + m + 1] = 10 := e1
    simp only [this]
    rfl
  have hr := fun tk n => restToks_stop (s := s) (i := pre.length + m + 1) (tk := tk) (n := n) (by omega) (by rw [hsk1]; exact hen1)
  unfold lineStep
  simp only [hsk, hen, hb]
  rw [if_neg (by decide)]
  have hd : ((pre.length + m : Nat) : Int) - (pre.length : Int) = m := by omega
  rw [hd, hst]
  simp only [ht, hr, hsk1]
  simp only [afterLine]
  rw [if_pos (by omega)]

/-- Lines that stand deeper and deeper, from the indentation m on. -/
def deepLines : Nat → List Nat → List UInt8
  | _, [] => []
  | m, k :: ks => List.replicate (m + k) 32 ++ [98, 10] ++ deepLines (m + k) ks
/-- The indentations that they leave open. -/
def opens (st : List Int) : Nat → List Nat → List Int
  | m, [] => (m : Int) :: st
  | m, k :: ks => opens ((m : Int) :: st) (m + k) ks
/-- Their tokens. -/
def deepToks : Nat → Nat → List Nat → List Value
  | _, _, [] => []
  | i, m, k :: ks => tokCells kIndent ⟨#[]⟩ (i + (m + k)) ++ tokCells kName ⟨#[98]⟩ (i + (m + k)) ++ tokCells kNewline ⟨#[]⟩ (i + (m + k) + 1) ++ deepToks (i + (m + k) + 2) (m + k) ks

theorem run_deep (s : ByteArray) (rest : List UInt8) : ∀ (ks : List Nat) (m : Nat) (pre : List UInt8) (st : List Int) (n : Nat) (tk : List Value), (∀ k ∈ ks, 1 ≤ k) → s.data.toList = pre ++ deepLines m ks ++ rest → Inv s ⟨pre.length, (m : Int) :: st, n, tk⟩ →
    runLines s (s.size - pre.length) ⟨pre.length, (m : Int) :: st, n, tk⟩ = runLines s (s.size - (pre ++ deepLines m ks).length) ⟨(pre ++ deepLines m ks).length, opens st m ks, n + 3 * ks.length, tk ++ deepToks pre.length m ks⟩ ∧
    Inv s ⟨(pre ++ deepLines m ks).length, opens st m ks, n + 3 * ks.length, tk ++ deepToks pre.length m ks⟩
  | [], m, pre, st, n, tk, hk, h, I => by
    simpa [deepLines, opens, deepToks] using I
  | k :: ks, m, pre, st, n, tk, hk, h, I => by
    have hk1 := hk k (by simp)
    have hset : settleP ((m : Int) :: st) ((m + k : Nat) : Int) (pre.length + (m + k)) n tk = some (((m + k : Nat) : Int) :: (m : Int) :: st, n + 1, tk ++ tokCells kIndent ⟨#[]⟩ (pre.length + (m + k))) := by
      unfold settleP
      simp only
      rw [if_pos (by omega)]
    have hl := line_letter s 98 (by simp) (deepLines (m + k) ks ++ rest) (m + k) pre (by simpa [deepLines] using h) _ n tk _ _ _ hset
    have hz := data_size h
    simp [deepLines] at hz
    have hlt : pre.length < s.size := by omega
    have hI := lineStep_inv I hlt hl
    have hg := runLines_go I hlt hl
    have hp : (pre ++ (List.replicate (m + k) 32 ++ [98, 10])).length = pre.length + (m + k) + 2 := by simp; omega
    have ih := run_deep s rest ks (m + k) (pre ++ (List.replicate (m + k) 32 ++ [98, 10])) ((m : Int) :: st) (n + 1 + 2) (tk ++ tokCells kIndent ⟨#[]⟩ (pre.length + (m + k)) ++ tokCells kName ⟨#[98]⟩ (pre.length + (m + k)) ++ tokCells kNewline ⟨#[]⟩ (pre.length + (m + k) + 1)) (fun x hx => hk x (by simp [hx])) (by simpa [deepLines] using h) (by rw [hp]; exact hI.1)
    have e1 : (pre ++ (List.replicate (m + k) 32 ++ [98, 10])) ++ deepLines (m + k) ks = pre ++ deepLines m (k :: ks) := by simp [deepLines]
    rw [e1, hp] at ih
    have e2 : n + 1 + 2 + 3 * ks.length = n + 3 * (k :: ks).length := by simp; omega
    have e3 : tk ++ tokCells kIndent ⟨#[]⟩ (pre.length + (m + k)) ++ tokCells kName ⟨#[98]⟩ (pre.length + (m + k)) ++ tokCells kNewline ⟨#[]⟩ (pre.length + (m + k) + 1) ++ deepToks (pre.length + (m + k) + 2) (m + k) ks = tk ++ deepToks pre.length m (k :: ks) := by simp [deepToks]
    rw [e2, e3] at ih
    refine ⟨?_, ih.2⟩
    rw [hg]
    exact ih.1
end Go.Proofs.YtpidanllncneaaaGreatDoor

/- The law LexDeep, plain: what Lex comes to at lines that stand deeper and deeper, and one that goes back. -/
namespace Go.Proofs.YtpidanllncneaaaGreatDoor
open Go.RowKit

theorem opens_len : ∀ (ks : List Nat) (m : Nat) (st : List Int), (opens st m ks).length = st.length + 1 + ks.length
  | [], m, st => by simp [opens]
  | k :: ks, m, st => by simp [opens, opens_len ks]; omega

/-- Falling, strictly. -/
def falls : List Int → Prop
  | [] => True
  | [_] => True
  | x :: y :: r => y < x ∧ falls (y :: r)

theorem opens_falls : ∀ (ks : List Nat) (m : Nat) (st : List Int), (∀ k ∈ ks, 1 ≤ k) → falls ((m : Int) :: st) → falls (opens st m ks)
  | [], m, st, _, h => h
  | k :: ks, m, st, hk, h => by
    have h1 := hk k (by simp)
    exact opens_falls ks (m + k) ((m : Int) :: st) (fun x hx => hk x (by simp [hx])) ⟨by omega, h⟩

theorem falls_lt : ∀ (l : List Int) (x : Int) (b : Nat) (y : Int), falls (x :: l) → l[b]? = some y → y < x
  | [], x, b, y, h, hy => by simp at hy
  | z :: r, x, 0, y, h, hy => by simp at hy; have := h.1; omega
  | z :: r, x, b + 1, y, h, hy => by
    have := falls_lt r z b y h.2 (by simpa using hy)
    have := h.1
    omega
theorem falls_tail {x : Int} {l : List Int} (h : falls (x :: l)) : falls l := by
  cases l with
  | nil => trivial
  | cons y r => exact h.2

/-- Back to the one that stands at b: b are closed. -/
theorem popTo_falls : ∀ (b : Nat) (l : List Int) (y : Int), falls l → l[b]? = some y → popTo y l = (b, l.drop b)
  | 0, [], y, h, hy => by simp at hy
  | 0, x :: l, y, h, hy => by
    simp at hy
    subst hy
    simp [popTo]
  | b + 1, [], y, h, hy => by simp at hy
  | b + 1, x :: l, y, h, hy => by
    have hl : l[b]? = some y := by simpa using hy
    have h1 := falls_lt l x b y h hl
    have ih := popTo_falls b l y (falls_tail h) hl
    simp [popTo, h1, ih]

theorem settle_falls (b : Nat) (l : List Int) (y : Int) (i n : Nat) (tk : List Value) (h : falls l) (hy : l[b]? = some y) : settleP l y i n tk = some (l.drop b, n + b, tk ++ dedents i b) := by
  have hp := popTo_falls b l y h hy
  cases l with
  | nil => simp at hy
  | cons x r =>
    have hx : ¬ x < y := by
      cases b with
      | zero => simp at hy; omega
      | succ b => have := falls_lt r x b y h (by simpa using hy); omega
    have hd : ((x :: r).drop b).head? = some y := by rw [List.head?_drop]; exact hy
    unfold settleP
    simp only
    rw [if_neg hx, hp]
    simp only
    rw [if_pos hd]

theorem falls_drop : ∀ (b : Nat) (l : List Int), falls l → falls (l.drop b)
  | 0, l, h => by simpa using h
  | b + 1, [], h => by simp [falls]
  | b + 1, x :: l, h => by simpa using falls_drop b l (falls_tail h)

theorem opens_last : ∀ (ks : List Nat) (m : Nat) (st : List Int) (z : Int), ((m : Int) :: st)[st.length]? = some z → (opens st m ks)[st.length + ks.length]? = some z
  | [], m, st, z, h => by simpa [opens] using h
  | k :: ks, m, st, z, h => by
    have := opens_last ks (m + k) ((m : Int) :: st) z (by simpa using h)
    simp only [List.length_cons] at this ⊢
    rw [show st.length + (ks.length + 1) = st.length + 1 + ks.length by omega]
    exact this

/-- The whole program: a, the lines, and c at the indentation that stands at back. -/
theorem lexP_deep (s : ByteArray) (ks : List Nat) (back m : Nat) (hk : ∀ k ∈ ks, 1 ≤ k) (hb : back ≤ ks.length) (hm : (opens [] 0 ks)[back]? = some (m : Int))
    (h : s.data.toList = [97, 10] ++ deepLines 0 ks ++ (List.replicate m 32 ++ [99, 10])) :
    ∃ i j, lexP s = .ok (2 + 3 * ks.length + back + 2 + (ks.length - back) + 1, tokCells kName ⟨#[97]⟩ 0 ++ tokCells kNewline ⟨#[]⟩ 1 ++ deepToks 2 0 ks ++ dedents i back ++ tokCells kName ⟨#[99]⟩ i ++ tokCells kNewline ⟨#[]⟩ (i + 1) ++ dedents j (ks.length - back) ++ tokCells kEnd ⟨#[]⟩ j) := by
  have hz := data_size h
  simp at hz
  have l0 := line_letter s 97 (by simp) (deepLines 0 ks ++ (List.replicate m 32 ++ [99, 10])) 0 [] (by simpa using h) [0] 0 [] [0] 0 [] rfl
  have h0 : (0 : Nat) < s.size := by omega
  have I1 := lineStep_inv (inv0 s) h0 l0
  have g0 := runLines_go (inv0 s) h0 l0
  have d := run_deep s (List.replicate m 32 ++ [99, 10]) ks 0 [97, 10] [] 2 (tokCells kName ⟨#[97]⟩ 0 ++ tokCells kNewline ⟨#[]⟩ 1) hk h I1.1
  have hf := opens_falls ks 0 [] hk trivial
  have hst := settle_falls back (opens [] 0 ks) m (([97, 10] ++ deepLines 0 ks).length + m) (2 + 3 * ks.length) (tokCells kName ⟨#[97]⟩ 0 ++ tokCells kNewline ⟨#[]⟩ 1 ++ deepToks 2 0 ks) hf hm
  have l1 := line_letter s 99 (by simp) [] m ([97, 10] ++ deepLines 0 ks) (by simpa using h) _ _ _ _ _ _ hst
  have hp : ([97, 10] ++ deepLines 0 ks).length + m + 2 = s.size := by simp; omega
  have h1 : ([97, 10] ++ deepLines 0 ks).length < s.size := by omega
  have g1 := runLines_go d.2 h1 l1
  refine ⟨([97, 10] ++ deepLines 0 ks).length + m, ([97, 10] ++ deepLines 0 ks).length + m + 2, ?_⟩
  have hl : (opens [] 0 ks).length = 1 + ks.length := by simpa using opens_len ks 0 []
  have h00 : (opens [] 0 ks)[ks.length]? = some 0 := by simpa using opens_last ks 0 [] 0 rfl
  have hd0 : ((opens [] 0 ks).drop back)[ks.length - back]? = some 0 := by rw [List.getElem?_drop, show back + (ks.length - back) = ks.length by omega]; exact h00
  have hs2 := fun i n tk => settle_falls (ks.length - back) ((opens [] 0 ks).drop back) 0 i n tk (falls_drop back _ hf) hd0
  unfold lexP
  have e := (g0.trans d.1).trans (g1.trans (runLines_end (by simp only; omega)))
  simp only [Nat.sub_zero] at e
  rw [e]
  simp only [hs2]
end Go.Proofs.YtpidanllncneaaaGreatDoor

/- Package lex: a token depends on no more than the bytes up to where it must end. -/
namespace Go.Proofs.YtpidanllncneaaaGreatDoor
open Go.RowKit

/-- Behind these bytes no token goes on: nothing, a blank or a line's end. -/
def halts (S : List UInt8) : Prop := ∀ c ∈ S.head?, c = 10 ∨ c = 32

theorem no_get {q : ByteArray} {pre : List UInt8} (h : q.data.toList = pre) : ¬ pre.length < q.size := by
  have := data_size h; omega

/-- A pass ends where its bytes end. -/
theorem passTo_list (P : Int → Bool) (s : ByteArray) (S : List UInt8) (hS : ∀ c ∈ S.head?, P (c.toNat : Int) = false) : ∀ (L pre : List UInt8), s.data.toList = pre ++ (L ++ S) → passTo P s (s.size - pre.length) pre.length = pre.length + (L.takeWhile fun c => P (c.toNat : Int)).length
  | [], pre, h => by
    cases S with
    | nil =>
      simp only [List.append_nil] at h
      have := data_size h
      simpa using passTo_end (P := P) this.symm
    | cons c S =>
      obtain ⟨hlt, e⟩ := get_at (q := s) (pre := pre) (rest := S) (x := c) (by simpa using h)
      simpa using passTo_stop (P := P) hlt (by rw [e]; exact hS c (by simp))
  | c :: L, pre, h => by
    obtain ⟨hlt, e⟩ := get_at (q := s) (pre := pre) (rest := L ++ S) (x := c) (by simpa using h)
    cases hP : P (c.toNat : Int)
    · simpa [List.takeWhile, hP] using passTo_stop (P := P) hlt (by rw [e]; exact hP)
    · have ih := passTo_list P s S hS L (pre ++ [c]) (by simpa using h)
      rw [passTo_go hlt (by rw [e]; exact hP)]
      simp only [List.length_append, List.length_cons, List.length_nil] at ih
      rw [ih]
      simp [List.takeWhile, hP]
      omega

theorem cut_list (s : ByteArray) (S L pre : List UInt8) (h : s.data.toList = pre ++ (L ++ S)) (m : Nat) (hm : m ≤ L.length) : s.extract pre.length (pre.length + m) = ⟨(L.take m).toArray⟩ := by
  apply ByteArray.ext
  apply Array.ext'
  rw [ByteArray.data_extract, Array.toList_extract, h]
  simp [List.extract, List.take_append_of_le_length hm]

theorem takeWhile_len (p : UInt8 → Bool) (L : List UInt8) : (L.takeWhile p).length ≤ L.length := by
  induction L with
  | nil => simp
  | cons c L ih => simp only [List.takeWhile]; split <;> simp; exact ih

theorem halts_byte {S : List UInt8} (h : halts S) (P : Int → Bool) (h1 : P 10 = false) (h2 : P 32 = false) : ∀ c ∈ S.head?, P (c.toNat : Int) = false := fun c hc => by
  rcases h c hc with rfl | rfl
  · exact h1
  · exact h2

/-- Names, by their bytes alone. -/
def nameL (c : UInt8) (L : List UInt8) : Option (Bool × ByteArray × Nat) :=
  let m := 1 + (L.takeWhile fun c => nameB (c.toNat : Int)).length
  if wordB ⟨((c :: L).take m).toArray⟩ then some (true, ⟨((c :: L).take m).toArray⟩, m)
  else if capitalB (c.toNat : Int) then none
  else if 16 < m then none
  else some (false, ⟨((c :: L).take m).toArray⟩, m)

theorem nameAt_list (s : ByteArray) (c : UInt8) (S L pre : List UInt8) (hS : halts S) (h : s.data.toList = pre ++ (c :: L ++ S)) : nameAt s pre.length = (nameL c L).map fun x => (x.1, x.2.1, pre.length + x.2.2) := by
  obtain ⟨hlt, e⟩ := get_at (q := s) (pre := pre) (rest := L ++ S) (x := c) (by simpa using h)
  have hp := passTo_list nameB s S (halts_byte hS nameB rfl rfl) L (pre ++ [c]) (by simpa using h)
  have hn : nameTo s pre.length = pre.length + (1 + (L.takeWhile fun c => nameB (c.toNat : Int)).length) := by
    unfold nameTo
    simp only [List.length_append, List.length_cons, List.length_nil, Nat.zero_add] at hp
    omega
  have hc := cut_list s S (c :: L) pre h (1 + (L.takeWhile fun c => nameB (c.toNat : Int)).length) (by have := takeWhile_len (fun c => nameB (c.toNat : Int)) L; simp; omega)
  unfold nameAt nameL
  rw [dif_pos hlt, hn, hc, e]
  simp only [Nat.add_sub_cancel_left]
  split
  · rfl
  · split
    · rfl
    · split <;> rfl

def intL (c : UInt8) (L : List UInt8) : Option (ByteArray × Nat) :=
  let m := ((c :: L).takeWhile fun c => digitB (c.toNat : Int)).length
  if (c.toNat : Int) == 48 && decide (1 < m) then none
  else match Lib.parseIntB 64 ((c :: L).take m) with
    | .ok _ => some (⟨((c :: L).take m).toArray⟩, m)
    | _ => none

theorem intAt_list (s : ByteArray) (c : UInt8) (S L pre : List UInt8) (hS : halts S) (h : s.data.toList = pre ++ (c :: L ++ S)) : intAt s pre.length = (intL c L).map fun x => (x.1, pre.length + x.2) := by
  obtain ⟨hlt, e⟩ := get_at (q := s) (pre := pre) (rest := L ++ S) (x := c) (by simpa using h)
  have hp := passTo_list digitB s S (halts_byte hS digitB rfl rfl) (c :: L) pre h
  have hn : digitsTo s pre.length = pre.length + ((c :: L).takeWhile fun c => digitB (c.toNat : Int)).length := hp
  have hc := cut_list s S (c :: L) pre h ((c :: L).takeWhile fun c => digitB (c.toNat : Int)).length (takeWhile_len _ _)
  unfold intAt intL
  rw [dif_pos hlt, hn, hc, e]
  simp only [Nat.add_sub_cancel_left]
  split
  · rfl
  · cases Lib.parseIntB 64 ((c :: L).take ((c :: L).takeWhile fun c => digitB (c.toNat : Int)).length) <;> rfl

/-- The first op of the table, from the k-th on, with which the bytes begin. -/
def opL (L : List UInt8) : Nat → Nat → Option (ByteArray × Nat)
  | 0, _ => none
  | n + 1, k => if (opAt k).data.toList.isPrefixOf L then some (opAt k, (opAt k).size) else opL L n (k + 1)

theorem toList_data (b : ByteArray) : b.toList = b.data.toList := ByteArray.toList_eq b

theorem prefix_halts : ∀ (b L S : List UInt8), halts S → (∀ c ∈ b, c ≠ 10 ∧ c ≠ 32) → b.isPrefixOf (L ++ S) = b.isPrefixOf L
  | [], L, S, hS, hb => by simp
  | c :: b, [], S, hS, hb => by
    cases S with
    | nil => rfl
    | cons d S =>
      have h1 := hb c (by simp)
      have : (c == d) = false := by
        rcases hS d (by simp) with rfl | rfl
        · simpa using h1.1
        · simpa using h1.2
      simp [List.isPrefixOf, this]
  | c :: b, d :: L, S, hS, hb => by
    have ih := prefix_halts b L S hS (fun x hx => hb x (by simp [hx]))
    simp [List.isPrefixOf, ih]

theorem prefixB_list (a b : ByteArray) : prefixB a b = b.data.toList.isPrefixOf a.data.toList := by
  unfold prefixB
  rw [toList_data, toList_data]
  split
  · rename_i hle
    rw [ByteArray.data_extract, Array.toList_extract]
    rw [Bool.eq_iff_iff]
    simp only [List.extract, Nat.sub_zero, List.drop_zero, beq_iff_eq, List.isPrefixOf_iff_prefix]
    constructor
    · intro h
      rw [← h]
      exact List.take_prefix _ _
    · intro h
      have := List.prefix_iff_eq_take.1 h
      simpa using this.symm
  · rename_i hle
    symm
    rw [Bool.eq_false_iff]
    intro h
    rw [List.isPrefixOf_iff_prefix] at h
    have := h.length_le
    simp at this
    exact hle this

theorem opAt_bytes (k : Nat) : ∀ c ∈ (opAt k).data.toList, c ≠ 10 ∧ c ≠ 32 := by
  iterate 21 (rcases k with _ | k; · decide)
  have : opAt (k + 1 + 1 + 1 + 1 + 1 + 1 + 1 + 1 + 1 + 1 + 1 + 1 + 1 + 1 + 1 + 1 + 1 + 1 + 1 + 1 + 1) = ⟨#[]⟩ := rfl
  rw [this]
  simp

theorem opFrom_list (s : ByteArray) (S L pre : List UInt8) (hS : halts S) (h : s.data.toList = pre ++ (L ++ S)) : ∀ n k, opFrom s pre.length n k = (opL L n k).map fun x => (x.1, pre.length + x.2)
  | 0, k => rfl
  | n + 1, k => by
    have hx : (s.extract pre.length s.size).data.toList = L ++ S := by
      have hz := data_size h
      rw [ByteArray.data_extract, Array.toList_extract, h]
      simp [List.extract]
      rw [List.take_of_length_le]
      simp at hz ⊢
      omega
    have hp : prefixB (s.extract pre.length s.size) (opAt k) = (opAt k).data.toList.isPrefixOf L := by
      rw [prefixB_list, hx]
      exact prefix_halts _ _ _ hS (opAt_bytes k)
    unfold opFrom opL
    rw [hp]
    split
    · rfl
    · exact opFrom_list s S L pre hS h n (k + 1)

/-- A str cannot end behind these bytes. -/
def dead (s : ByteArray) (e : Nat) : Prop := ∀ f acc, strFrom s f e acc = none

/-- Two digits of 16. -/
def escX : List UInt8 → Option (Int × Nat)
  | a :: b :: _ => if 0 ≤ hexVal a ∧ 0 ≤ hexVal b then some (hexVal a * 16 + hexVal b, 3) else none
  | _ => none
/-- Behind a backslash: by the bytes up to where a token must end. -/
def escL : List UInt8 → Option (Int × Nat)
  | [] => none
  | c :: L => if (c.toNat : Int) == 110 then some (10, 1) else if (c.toNat : Int) == 34 then some (34, 1) else if (c.toNat : Int) == 92 then some (92, 1) else if (c.toNat : Int) == 120 then escX L else none

theorem hexVal_10 : ¬ 0 ≤ hexVal 10 := by decide
theorem hexVal_32 : ¬ 0 ≤ hexVal 32 := by decide

theorem escAt_end {s : ByteArray} {pre : List UInt8} (h : s.data.toList = pre) : escAt s pre.length = none := by
  unfold escAt
  rw [dif_neg (no_get h)]

theorem escAt_list (s : ByteArray) (S L pre : List UInt8) (hS : halts S) (h : s.data.toList = pre ++ (L ++ S)) : escAt s pre.length = (escL L).map fun x => (x.1, pre.length + x.2) := by
  cases L with
  | nil =>
    cases S with
    | nil =>
      simp only [List.append_nil] at h
      rw [escAt_end h]
      rfl
    | cons d S =>
      obtain ⟨hlt, e⟩ := get_at (q := s) (pre := pre) (rest := S) (x := d) (by simpa using h)
      unfold escAt
      rw [dif_pos hlt, e]
      rcases hS d (by simp) with rfl | rfl <;> rfl
  | cons c L =>
    obtain ⟨hlt, e⟩ := get_at (q := s) (pre := pre) (rest := L ++ S) (x := c) (by simpa using h)
    unfold escAt
    rw [dif_pos hlt, e]
    have hr : escL (c :: L) = if (c.toNat : Int) == 110 then some (10, 1) else if (c.toNat : Int) == 34 then some (34, 1) else if (c.toNat : Int) == 92 then some (92, 1) else if (c.toNat : Int) == 120 then escX L else none := rfl
    rw [hr]
    split
    · rfl
    · split
      · rfl
      · split
        · rfl
        · split
          · have hz := data_size h
            match L, h, hz with
            | a :: b :: L', h, hz =>
              simp at hz
              obtain ⟨l1, e1⟩ := get_at (q := s) (pre := pre ++ [c]) (rest := b :: L' ++ S) (x := a) (by simpa using h)
              obtain ⟨l2, e2⟩ := get_at (q := s) (pre := pre ++ [c, a]) (rest := L' ++ S) (x := b) (by simpa using h)
              simp only [List.length_append, List.length_cons, List.length_nil] at l1 e1 l2 e2
              rw [dif_pos (by omega)]
              have e1' : s[pre.length + 1] = a := e1
              have e2' : s[pre.length + 2] = b := e2
              rw [e1', e2']
              have hx : escX (a :: b :: L') = if 0 ≤ hexVal a ∧ 0 ≤ hexVal b then some (hexVal a * 16 + hexVal b, 3) else none := rfl
              rw [hx]
              split <;> rfl
            | [a], h, hz =>
              have hx : escX [a] = none := rfl
              rw [hx, Option.map_none]
              split
              · rename_i h2
                refine if_neg ?_
                rintro ⟨_, hb⟩
                cases S with
                | nil => simp at hz; omega
                | cons d S =>
                  obtain ⟨l2, e2⟩ := get_at (q := s) (pre := pre ++ [c, a]) (rest := S) (x := d) (by simpa using h)
                  simp only [List.length_append, List.length_cons, List.length_nil] at l2 e2
                  have e2' : s[pre.length + 2] = d := e2
                  rw [e2'] at hb
                  rcases hS d (by simp) with rfl | rfl
                  · exact hexVal_10 hb
                  · exact hexVal_32 hb
              · rfl
            | [], h, hz =>
              have hx : escX [] = none := rfl
              rw [hx, Option.map_none]
              split
              · rename_i h2
                refine if_neg ?_
                rintro ⟨ha, _⟩
                cases S with
                | nil => simp at hz; omega
                | cons d S =>
                  obtain ⟨l2, e2⟩ := get_at (q := s) (pre := pre ++ [c]) (rest := S) (x := d) (by simpa using h)
                  simp only [List.length_append, List.length_cons, List.length_nil] at l2 e2
                  have e2' : s[pre.length + 1] = d := e2
                  rw [e2'] at ha
                  rcases hS d (by simp) with rfl | rfl
                  · exact hexVal_10 ha
                  · exact hexVal_32 ha
              · rfl
          · rfl

theorem escX_bd {L : List UInt8} {v : Int} {k : Nat} (h : escX L = some (v, k)) : 0 < k ∧ k ≤ L.length + 1 := by
  unfold escX at h
  split at h
  · split at h
    · simp at h; simp; omega
    · cases h
  · cases h
theorem escL_bd {L : List UInt8} {v : Int} {k : Nat} (h : escL L = some (v, k)) : 0 < k ∧ k ≤ L.length := by
  unfold escL at h
  split at h
  · cases h
  · split at h
    · simp at h; simp; omega
    · split at h
      · simp at h; simp; omega
      · split at h
        · simp at h; simp; omega
        · split at h
          · have := escX_bd h; simp; omega
          · cases h

/-- A str, by its bytes up to where it must end. -/
def strL : Nat → List UInt8 → List Int → Option (List Int × Nat)
  | 0, _, _ => none
  | _ + 1, [], _ => none
  | n + 1, c :: L, acc =>
    if (c.toNat : Int) == 34 then some (acc, 1)
    else if (c.toNat : Int) < 32 then none
    else if 126 < (c.toNat : Int) then none
    else if (c.toNat : Int) == 92 then
      match escL L with
      | some (v, k) => (strL n (L.drop k) (acc ++ [v])).map fun x => (x.1, x.2 + (k + 1))
      | none => none
    else (strL n L (acc ++ [(c.toNat : Int)])).map fun x => (x.1, x.2 + 1)

theorem strFrom_list (s : ByteArray) (S : List UInt8) (hS : halts S) : ∀ (n f : Nat) (L pre : List UInt8) (acc : List Int), s.data.toList = pre ++ (L ++ S) → dead s (pre.length + L.length) → L.length < n → s.size + 1 - pre.length ≤ f → strFrom s f pre.length acc = (strL n L acc).map fun x => (x.1, pre.length + x.2)
  | 0, _, _, _, _, _, _, h, _ => absurd h (Nat.not_lt_zero _)
  | n + 1, f, [], pre, acc, h, hd, _, _ => by
    rw [show pre.length = pre.length + ([] : List UInt8).length by simp, hd f acc]
    rfl
  | n + 1, f, c :: L, pre, acc, h, hd, hn, hf => by
    obtain ⟨hlt, e⟩ := get_at (q := s) (pre := pre) (rest := L ++ S) (x := c) (by simpa using h)
    obtain ⟨g, rfl⟩ : ∃ g, f = g + 1 := ⟨f - 1, by omega⟩
    have hz := data_size h
    have hr : strL (n + 1) (c :: L) acc = if (c.toNat : Int) == 34 then some (acc, 1)
      else if (c.toNat : Int) < 32 then none
      else if 126 < (c.toNat : Int) then none
      else if (c.toNat : Int) == 92 then
        match escL L with
        | some (v, k) => (strL n (L.drop k) (acc ++ [v])).map fun x => (x.1, x.2 + (k + 1))
        | none => none
      else (strL n L (acc ++ [(c.toNat : Int)])).map fun x => (x.1, x.2 + 1) := rfl
    unfold strFrom
    rw [dif_pos hlt, e, hr]
    split
    · rfl
    · split
      · rfl
      · split
        · rfl
        · split
          · have he := escAt_list s S L (pre ++ [c]) hS (by simpa using h)
            simp only [List.length_append, List.length_cons, List.length_nil, Nat.zero_add] at he
            rw [he]
            cases hv : escL L with
            | none => rfl
            | some x =>
              obtain ⟨v, k⟩ := x
              have hk := escL_bd hv
              have hsp : L.take k ++ L.drop k = L := List.take_append_drop k L
              have ih := strFrom_list s S hS n g (L.drop k) (pre ++ (c :: L.take k)) (acc ++ [v]) (by
                rw [h]
                simp only [List.append_assoc, List.cons_append, ← List.append_assoc (L.take k), hsp]) (by
                have : (pre ++ (c :: L.take k)).length + (L.drop k).length = pre.length + (c :: L).length := by simp; omega
                rw [this]; exact hd) (by simp at hn ⊢; omega) (by simp; omega)
              have hp : (pre ++ (c :: L.take k)).length = pre.length + 1 + k := by simp; omega
              rw [hp] at ih
              simp only [Option.map_some]
              rw [ih]
              cases strL n (L.drop k) (acc ++ [v]) with
              | none => rfl
              | some y => simp; omega
          · have ih := strFrom_list s S hS n g L (pre ++ [c]) (acc ++ [(c.toNat : Int)]) (by simpa using h) (by
              have : (pre ++ [c]).length + L.length = pre.length + (c :: L).length := by simp; omega
              rw [this]; exact hd) (by simp at hn; omega) (by simp; omega)
            simp only [List.length_append, List.length_cons, List.length_nil, Nat.zero_add] at ih
            rw [ih]
            cases strL n L (acc ++ [(c.toNat : Int)]) with
            | none => rfl
            | some y => simp; omega

/-- A token, by its bytes up to where it must end: its kind, its text, how many bytes it has. -/
def tokL : List UInt8 → Option (ByteArray × ByteArray × Nat)
  | [] => none
  | c :: L =>
    if smallB (c.toNat : Int) || capitalB (c.toNat : Int) then (nameL c L).map fun x => (if x.1 then kWord else kName, x.2.1, x.2.2)
    else if digitB (c.toNat : Int) then (intL c L).map fun x => (kInt, x.1, x.2)
    else if (c.toNat : Int) == 34 then (strL (L.length + 1) L []).map fun x => (kStr, strOfNums x.1, x.2 + 1)
    else (opL (c :: L) 21 0).map fun x => (kOp, x.1, x.2)

theorem tokAt_list (s : ByteArray) (S L pre : List UInt8) (hS : halts S) (h : s.data.toList = pre ++ (L ++ S)) (hd : dead s (pre.length + L.length)) (hL : L ≠ []) : tokAt s pre.length = (tokL L).map fun x => (x.1, x.2.1, pre.length + x.2.2) := by
  cases L with
  | nil => exact absurd rfl hL
  | cons c L =>
    obtain ⟨hlt, e⟩ := get_at (q := s) (pre := pre) (rest := L ++ S) (x := c) (by simpa using h)
    have hr : tokL (c :: L) = if smallB (c.toNat : Int) || capitalB (c.toNat : Int) then (nameL c L).map fun x => (if x.1 then kWord else kName, x.2.1, x.2.2)
      else if digitB (c.toNat : Int) then (intL c L).map fun x => (kInt, x.1, x.2)
      else if (c.toNat : Int) == 34 then (strL (L.length + 1) L []).map fun x => (kStr, strOfNums x.1, x.2 + 1)
      else (opL (c :: L) 21 0).map fun x => (kOp, x.1, x.2) := rfl
    unfold tokAt
    rw [dif_pos hlt, e, hr]
    split
    · rw [nameAt_list s c S L pre hS h]
      cases nameL c L <;> rfl
    · split
      · rw [intAt_list s c S L pre hS h]
        cases intL c L <;> rfl
      · split
        · have hs := strFrom_list s S hS (L.length + 1) (s.size + 1 - (pre.length + 1)) L (pre ++ [c]) [] (by simpa using h) (by
            have : (pre ++ [c]).length + L.length = pre.length + (c :: L).length := by simp; omega
            rw [this]; exact hd) (by omega) (by simp)
          simp only [List.length_append, List.length_cons, List.length_nil, Nat.zero_add] at hs
          unfold strAt
          rw [hs]
          cases strL (L.length + 1) L [] with
          | none => rfl
          | some y => simp; omega
        · unfold opTok
          rw [opFrom_list s S (c :: L) pre hS h 21 0]
          cases opL (c :: L) 21 0 <;> rfl
end Go.Proofs.YtpidanllncneaaaGreatDoor
