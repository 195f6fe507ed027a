/- The document's answer for package lex: tokenOf, for whatever bytes. -/
import Derived.Test.YtpflpbfnifpchaaGreatDoorRefD
import Derived.Test.YtpflpbfnifpchaaGreatDoorRefE
import Derived.Test.YtpflpbfnifpchaaGreatDoorRefF
namespace Go.Proofs.YtpflpbfnifpchaaGreatDoor
open Go.RowKit

theorem tokenOf_any (q : ByteArray) (hq : q.size ≤ 6000) (hq0 : 0 < q.size) (w : World) :
    Calls Tryz.prog 20 #[.string q] w fun ev w' => TPostR q ev ∧ Below w.heap.size w w' := by
  cases hs : smallB (q[0].toNat : Int)
  · cases hc : capitalB (q[0].toNat : Int)
    · cases hd : digitB (q[0].toNat : Int)
      · cases h34 : ((q[0].toNat : Int) == 34)
        · exact tokenOf_op q hq hq0 hs hc hd h34 w
        · exact tokenOf_str q hq hq0 hs hc hd h34 w
      · exact tokenOf_int q hq hq0 hs hc hd w
    · exact tokenOf_name q hq hq0 (by rw [hs, hc]; rfl) w
  · exact tokenOf_name q hq hq0 (by rw [hs]; rfl) w

/-- A token of a line's rest, as the document's answer reads it: by its bytes alone. -/
theorem tokAt_rest (s : ByteArray) (pre c L : List UInt8) (S : List UInt8) (h : s.data.toList = pre ++ (c ++ L ++ S)) : s.extract (pre.length + c.length) (pre.length + (c ++ L).length) = ⟨L.toArray⟩ := by
  have e := cut_list s S L (pre ++ c) (by rw [h]; simp) L.length (Nat.le_refl _)
  simp only [List.length_append, List.take_length] at e ⊢
  rw [← Nat.add_assoc]
  exact e
theorem tokAt_own (L : List UInt8) (hL : L ≠ []) : tokAt ⟨L.toArray⟩ 0 = tokL L := by
  have h := tokAt_list ⟨L.toArray⟩ [] L [] (fun c hc => by simp at hc) (by simp) (by
    have := dead_end (s := ⟨L.toArray⟩) (S := []) (pre := L) (.inl rfl) (by simp)
    simpa using this) hL
  simp only [List.length_nil, Nat.zero_add] at h
  have hid : ∀ o : Option (ByteArray × ByteArray × Nat), (o.map fun x => (x.1, x.2.1, x.2.2)) = o := fun o => by cases o <;> rfl
  rw [hid] at h
  exact h
end Go.Proofs.YtpflpbfnifpchaaGreatDoor

/- The document's answer for package lex: what LexOf holds in memory. -/
namespace Go.Proofs.YtpflpbfnifpchaaGreatDoor
open Go.RowKit

theorem own_lt2 {w : World} {base e size n : Nat} {v : Value} {xs : List Value} (h : w.ownsRow base e size v n xs) : ∀ k, v.ownBlock = some k → k < w.heap.size := by
  intro k hk
  rcases h.2 with ⟨rfl, _⟩ | ⟨g, cap, cur, rfl, _, hg, _⟩
  · simp [Value.ownBlock] at hk
  · simp [Value.ownBlock] at hk
    subst hk
    exact lt_of_heap hg

/-- LexOf's memory: the fault that it may tell, its tokens, its open indentations (the innermost ahead in st). -/
structure RO (w : World) (st : List Int) (n : Nat) (tk : List Value) (v4 v5 : Value) (wr : World) : Prop where
  fault : wr.heap[w.heap.size]? = some (.cells #[.int .i64 0, .int .i64 0] 30)
  out : wr.ownsRow (w.heap.size + 1) 53 3 v4 n tk
  op : ∃ g cap, v5 = .slice (some ⟨g, 0, none⟩) st.length cap ∧ wr.ownsRow (w.heap.size + 1) 3 1 (.slice (some ⟨g, 0, none⟩) st.length cap) st.length (st.reverse.map (Value.int .i64)) ∧ v4.ownBlock ≠ some g
  below : Below w.heap.size w wr

theorem ro_init (w : World) : RO w [0] 0 [] (.slice none 0 0) (.slice (some ⟨w.heap.size + 1, 0, none⟩) 1 1) ((w.alloc (.cells #[.int .i64 0, .int .i64 0] 30)).alloc (.cells #[.int .i64 0] 3)) := by
  have hz : (w.alloc (.cells #[.int .i64 0, .int .i64 0] 30)).heap.size = w.heap.size + 1 := by simp
  refine ⟨?_, World.ownsRow_nil _ _ _ _, ⟨w.heap.size + 1, 1, rfl, ⟨rfl, .inr ⟨w.heap.size + 1, 1, #[.int .i64 0], rfl, Nat.le_refl _, ?_, Nat.le_refl _, by unfold maxLen; omega, rfl, rfl⟩⟩, by simp [Value.ownBlock]⟩, ((Below.refl _ _).alloc (Nat.le_refl _) _).alloc (by simp) _⟩
  · rw [Below.heap_alloc _ _ _ (by rw [hz]; omega)]
    exact heap_alloc_new _ _
  · rw [← hz]
    exact heap_alloc_new _ _

theorem RO.drewN {w : World} {st : List Int} {n : Nat} {tk : List Value} {v4 v5 : Value} {wr : World} (h : RO w st n tk v4 v5 wr) (q : Nat) : RO w st n tk v4 v5 (wr.drewN q) := ⟨h.fault, h.out, h.op, below_drewN h.below q⟩
theorem RO.drew {w : World} {st : List Int} {n : Nat} {tk : List Value} {v4 v5 : Value} {wr : World} (h : RO w st n tk v4 v5 wr) : RO w st n tk v4 v5 wr.drew := ⟨h.fault, h.out, h.op, h.below.drew⟩

/-- New blocks alone. -/
theorem RO.more {w : World} {st : List Int} {n : Nat} {tk : List Value} {v4 v5 : Value} {wr w1 : World} (h : RO w st n tk v4 v5 wr) (hb : Below wr.heap.size wr w1) : RO w st n tk v4 v5 w1 := by
  obtain ⟨g, cap, e, o, ne⟩ := h.op
  exact ⟨(hb.block _ (lt_of_heap h.fault)).trans h.fault, ownsRow_far' h.out (fun k hk => hb.block k (own_lt2 h.out k hk)), ⟨g, cap, e, ownsRow_far' o (fun k hk => hb.block k (own_lt2 o k hk)), ne⟩, h.below.trans (hb.mono h.below.size)⟩

theorem ro_add {w : World} {st : List Int} {n : Nat} {tk news : List Value} {v4 v5 : Value} {wr w1 : World} {gn capn : Nat} {o : Obj} (h : RO w st n tk v4 v5 wr) (hown1 : w1.ownsRow (w.heap.size + 1) 53 3 (.slice (some ⟨gn, 0, none⟩) (n + 1) capn) (n + 1) (tk ++ news)) (hgrow : (wr.alloc o).grownBy w1 v4.ownBlock) (hat : v4.ownBlock = some gn ∨ gn = wr.heap.size + 1) :
    RO w st (n + 1) (tk ++ news) (.slice (some ⟨gn, 0, none⟩) (n + 1) capn) v5 w1 := by
  obtain ⟨g, cap, e, o2, ne⟩ := h.op
  have blk : ∀ k, k < wr.heap.size → v4.ownBlock ≠ some k → w1.heap[k]? = wr.heap[k]? := fun k hk hne =>
    (hgrow.block k (by simp; omega) (fun e => hne e.symm)).trans (Below.heap_alloc _ _ _ hk)
  have hg : g < wr.heap.size := own_lt2 o2 g rfl
  have hf := lt_of_heap h.fault
  have nf : v4.ownBlock ≠ some w.heap.size := fun e => by have := own_ge h.out _ e; omega
  refine ⟨(blk _ hf nf).trans h.fault, hown1, ⟨g, cap, e, ownsRow_far' o2 (fun k hk => ?_), ?_⟩, ?_⟩
  · have : k = g := by simpa [Value.ownBlock] using hk.symm
    rw [this]
    exact blk g hg ne
  · simp only [Value.ownBlock]
    intro h2
    have h3 : gn = g := by simpa using h2
    rcases hat with h4 | h4
    · exact ne (by rw [h4, h3])
    · omega
  · exact h.below.trans (Below.grown ((Below.refl _ _).alloc h.below.size _) hgrow (by have := h.below.size; simp; omega) (fun k hk => by have := own_ge h.out k hk; omega))

theorem ro_push {w : World} {st : List Int} {ind : Int} {n : Nat} {tk : List Value} {v4 : Value} {wr w1 : World} {g cap gn capn : Nat} {o : Obj} (h : RO w st n tk v4 (.slice (some ⟨g, 0, none⟩) st.length cap) wr)
    (hown1 : w1.ownsRow (w.heap.size + 1) 3 1 (.slice (some ⟨gn, 0, none⟩) (st.length + 1) capn) (st.length + 1) (st.reverse.map (Value.int .i64) ++ [.int .i64 ind])) (hgrow : (wr.alloc o).grownBy w1 (some g)) (hat : g = gn ∨ gn = wr.heap.size + 1) :
    RO w (ind :: st) n tk v4 (.slice (some ⟨gn, 0, none⟩) (st.length + 1) capn) w1 := by
  obtain ⟨g', cap', e, o2, ne⟩ := h.op
  have hgg : g' = g := by simp at e; exact e.1.symm
  subst hgg
  have blk : ∀ k, k < wr.heap.size → g' ≠ k → w1.heap[k]? = wr.heap[k]? := fun k hk hne =>
    (hgrow.block k (by simp; omega) (fun e => hne (by simpa using e.symm))).trans (Below.heap_alloc _ _ _ hk)
  have hg : g' < wr.heap.size := own_lt2 o2 g' rfl
  have hgB := own_ge o2 g' rfl
  have hf := lt_of_heap h.fault
  refine ⟨(blk _ hf (by omega)).trans h.fault, ownsRow_far' h.out (fun k hk => blk k (own_lt2 h.out k hk) (fun e => ne (by rw [hk, e]))), ⟨gn, capn, by simp, ?_, ?_⟩, ?_⟩
  · simpa using hown1
  · rcases hat with h4 | h4
    · rw [← h4]; exact ne
    · intro h5
      have := own_lt2 h.out gn h5
      omega
  · exact h.below.trans (Below.grown ((Below.refl _ _).alloc h.below.size _) hgrow (by have := h.below.size; simp; omega) (fun k hk => by simp at hk; omega))

theorem ro_pop {w : World} {st : List Int} {x : Int} {n : Nat} {tk : List Value} {v4 : Value} {wr : World} {g cap : Nat} (h : RO w (x :: st) n tk v4 (.slice (some ⟨g, 0, none⟩) (st.length + 1) cap) wr) :
    RO w st n tk v4 (.slice (some ⟨g, 0, none⟩) st.length cap) wr := by
  obtain ⟨g', cap', e, o2, ne⟩ := h.op
  simp at e
  obtain ⟨rfl, rfl⟩ := e
  refine ⟨h.fault, h.out, ⟨g, cap, rfl, ⟨by simp, ?_⟩, ne⟩, h.below⟩
  rcases o2.2 with ⟨he, _⟩ | ⟨g', cap', cur, he, hB, hg, hle, hmax, hsz, htk⟩
  · cases he
  · simp at he
    obtain ⟨rfl, rfl⟩ := he
    refine .inr ⟨g, cap, cur, rfl, hB, hg, by simp at hle; omega, hmax, hsz, ?_⟩
    have e2 : (cur.toList.take ((st.length + 1) * 1)) = (x :: st).reverse.map (Value.int .i64) := by simpa using htk
    have e3 := congrArg (fun l => l.take st.length) e2
    simp only [List.take_take] at e3
    rw [Nat.min_eq_left (by omega)] at e3
    rw [Nat.mul_one, e3]
    simp
end Go.Proofs.YtpflpbfnifpchaaGreatDoor

/- The document's answer for package lex: LexOf, a line's bounds (plain), and its walk. -/
namespace Go.Proofs.YtpflpbfnifpchaaGreatDoor
open Go.RowKit

/-- The bytes of a line from at on: up to its end, and what stands behind. -/
structure LineAt (s : ByteArray) (at_ : Nat) (L S : List UInt8) : Prop where
  data : s.data.toList = s.data.toList.take at_ ++ (L ++ S)
  len : (s.data.toList.take at_).length = at_
  noEnd : noEnd L
  lineEnd : lineEnd S
  le : at_ + L.length ≤ s.size

theorem line_at (s : ByteArray) (at_ : Nat) (h : at_ ≤ s.size) : ∃ L S, LineAt s at_ L S := by
  obtain ⟨L, S, e, hL, hS⟩ := split_line (s.data.toList.drop at_)
  have hl : (s.data.toList.take at_).length = at_ := by simp; omega
  have hd : s.data.toList = s.data.toList.take at_ ++ (L ++ S) := by rw [← e, List.take_append_drop]
  refine ⟨L, S, hd, hl, hL, hS, ?_⟩
  have hz := data_size hd
  rw [List.length_append, hl, List.length_append] at hz
  omega

theorem LineAt.get {s : ByteArray} {at_ : Nat} {L S : List UInt8} (h : LineAt s at_ L S) (k : Nat) (hk : k < L.length) : ∃ hl : at_ + k < s.size, s[at_ + k] = L[k] := by
  have hsp : L = L.take k ++ L[k] :: L.drop (k + 1) := by rw [← List.drop_eq_getElem_cons hk, List.take_append_drop]
  have hd : s.data.toList = (s.data.toList.take at_ ++ L.take k) ++ L[k] :: (L.drop (k + 1) ++ S) := by
    have h1 := h.data
    have h2 : L ++ S = L.take k ++ L[k] :: (L.drop (k + 1) ++ S) := by
      have h3 : L.take k ++ L[k] :: (L.drop (k + 1) ++ S) = (L.take k ++ L[k] :: L.drop (k + 1)) ++ S := by simp only [List.append_assoc, List.cons_append]
      rw [h3, ← hsp]
    rw [h2] at h1
    rw [List.append_assoc]
    exact h1
  obtain ⟨hlt, e⟩ := get_at hd
  have hl : (s.data.toList.take at_ ++ L.take k).length = at_ + k := by rw [List.length_append, h.len]; simp; omega
  refine ⟨by rw [← hl]; exact hlt, ?_⟩
  simp only [hl] at e
  exact e
theorem LineAt.mid {s : ByteArray} {at_ : Nat} {L S : List UInt8} (h : LineAt s at_ L S) (e : Nat) (h1 : at_ ≤ e) (h2 : e < at_ + L.length) : ∃ hl : e < s.size, s[e].toNat ≠ 10 := by
  obtain ⟨k, rfl⟩ : ∃ k, e = at_ + k := ⟨e - at_, by omega⟩
  obtain ⟨hl, e⟩ := h.get k (by omega)
  refine ⟨hl, ?_⟩
  rw [e]
  intro h10
  exact h.noEnd L[k] (List.getElem_mem _) (UInt8.toNat_inj.mp h10)
theorem LineAt.stop {s : ByteArray} {at_ : Nat} {L S : List UInt8} (h : LineAt s at_ L S) (hl : at_ + L.length < s.size) : s[at_ + L.length].toNat = 10 := by
  rcases h.lineEnd with rfl | ⟨R, rfl⟩
  · have hz := data_size h.data
    rw [List.length_append, h.len, List.append_nil] at hz
    omega
  · have hd : s.data.toList = (s.data.toList.take at_ ++ L) ++ 10 :: R := by
      have h1 := h.data
      simpa using h1
    obtain ⟨hlt, e⟩ := get_at hd
    have hl2 : (s.data.toList.take at_ ++ L).length = at_ + L.length := by rw [List.length_append, h.len]
    simp only [hl2] at e
    rw [e]
    rfl
theorem blanksL_get : ∀ (L : List UInt8) (k : Nat) (hk : k < L.length), k < blanksL L → L[k] = 32
  | [], k, hk, h => by simp at hk
  | c :: L, k, hk, h => by
    by_cases hc : c = 32
    · subst hc
      rw [blanksL_cons] at h
      cases k with
      | zero => rfl
      | succ k => exact blanksL_get L k (by simpa using hk) (by omega)
    · rw [blanksL_other hc] at h
      omega
theorem blanksL_stop : ∀ (L : List UInt8) (hk : blanksL L < L.length), L[blanksL L] ≠ 32
  | [], hk => by simp at hk
  | c :: L, hk => by
    by_cases hc : c = 32
    · subst hc
      have e := blanksL_cons L
      have ih := blanksL_stop L (by rw [e] at hk; simp at hk; exact hk)
      intro h
      apply ih
      simp only [e] at h
      exact h
    · have e := blanksL_other hc L
      simp only [e]
      exact hc
theorem LineAt.blank {s : ByteArray} {at_ : Nat} {L S : List UInt8} (h : LineAt s at_ L S) (e : Nat) (h1 : at_ ≤ e) (h2 : e < at_ + blanksL L) : ∃ hl : e < s.size, s[e].toNat = 32 := by
  have hb := blanksL_le L
  obtain ⟨k, rfl⟩ : ∃ k, e = at_ + k := ⟨e - at_, by omega⟩
  obtain ⟨hl, e⟩ := h.get k (by omega)
  refine ⟨hl, ?_⟩
  rw [e, blanksL_get L k (by omega) (by omega)]
  rfl
theorem LineAt.first {s : ByteArray} {at_ : Nat} {L S : List UInt8} (h : LineAt s at_ L S) (h2 : blanksL L < L.length) : ∃ hl : at_ + blanksL L < s.size, s[at_ + blanksL L].toNat ≠ 32 ∧ (skipL L = if s[at_ + blanksL L].toNat = 35 then L.length else blanksL L) := by
  obtain ⟨hl, e⟩ := h.get _ h2
  refine ⟨hl, ?_, ?_⟩
  · rw [e]
    intro h32
    exact blanksL_stop L h2 (UInt8.toNat_inj.mp h32)
  · rw [e]
    unfold skipL
    rw [List.drop_eq_getElem_cons h2]
    simp only
    by_cases h35 : (L[blanksL L]).toNat = 35
    · rw [if_pos h35, if_pos (by simp [h35])]
    · rw [if_neg h35, if_neg (by simp; omega)]

/-- What is left to settle: dedents, and whether the indentation is open. -/
def settleRest (b : Int) (i : Nat) (st : List Int) (n : Nat) (tk : List Value) : Option (List Int × Nat × List Value) :=
  if (popTo b st).2.head? = some b then some ((popTo b st).2, n + (popTo b st).1, tk ++ dedents i (popTo b st).1) else none
theorem settle_push {x b : Int} {xs : List Int} (h : x < b) (i n : Nat) (tk : List Value) : settleRest b i (b :: x :: xs) (n + 1) (tk ++ tokCells kIndent ⟨#[]⟩ i) = settleP (x :: xs) b i n tk := by
  unfold settleRest settleP
  have hp : popTo b (b :: x :: xs) = (0, b :: x :: xs) := by simp [popTo]
  rw [hp]
  simp only [List.head?_cons, if_true, if_pos h, dedents, List.append_nil, Nat.add_zero]
theorem settle_stay {x b : Int} {xs : List Int} (h : ¬ x < b) (i n : Nat) (tk : List Value) : settleRest b i (x :: xs) n tk = settleP (x :: xs) b i n tk := by
  unfold settleRest settleP
  simp only
  rw [if_neg h]
theorem dedents_front (i : Nat) : ∀ k, tokCells kDedent ⟨#[]⟩ i ++ dedents i k = dedents i (k + 1)
  | 0 => by simp [dedents, kDedent]
  | k + 1 => by
    have ih := dedents_front i k
    show tokCells kDedent ⟨#[]⟩ i ++ (dedents i k ++ tokCells ⟨#[100, 101, 100, 101, 110, 116]⟩ ⟨#[]⟩ i) = dedents i (k + 1) ++ tokCells ⟨#[100, 101, 100, 101, 110, 116]⟩ ⟨#[]⟩ i
    rw [← List.append_assoc, ih]
theorem settle_pop {y b : Int} {ys : List Int} (h : b < y) (i n : Nat) (tk : List Value) : settleRest b i (y :: ys) n tk = settleRest b i ys (n + 1) (tk ++ tokCells kDedent ⟨#[]⟩ i) := by
  unfold settleRest
  have hp : popTo b (y :: ys) = ((popTo b ys).1 + 1, (popTo b ys).2) := by simp [popTo, h]
  rw [hp]
  simp only
  rw [List.append_assoc, dedents_front]
  split
  · simp only [Option.some.injEq, Prod.mk.injEq, true_and]
    first | exact ⟨by omega, trivial⟩ | exact ⟨by omega, rfl⟩ | omega
  · rfl
theorem settle_done {b : Int} {ys : List Int} (i n : Nat) (tk : List Value) : settleRest b i (b :: ys) n tk = some (b :: ys, n, tk) := by
  unfold settleRest
  have hp : popTo b (b :: ys) = (0, b :: ys) := by simp [popTo]
  rw [hp]
  simp [dedents]
theorem settle_not {y b : Int} {ys : List Int} (h : ¬ b < y) (hne : b ≠ y) (i n : Nat) (tk : List Value) : settleRest b i (y :: ys) n tk = none := by
  unfold settleRest
  have hp : popTo b (y :: ys) = (0, y :: ys) := by simp [popTo, h]
  rw [hp]
  refine if_neg ?_
  intro e
  simp at e
  exact hne e.symm

/-- A byte of a line's rest. -/
theorem line_byte {s : ByteArray} {at_ o : Nat} {L S : List UInt8} (h : LineAt s at_ L S) (h1 : at_ ≤ o) (h2 : o < at_ + L.length) (hol : o < s.size) : ∃ c R, L.drop (o - at_) = c :: R ∧ s[o] = c := by
  obtain ⟨k, rfl⟩ : ∃ k, o = at_ + k := ⟨o - at_, by omega⟩
  obtain ⟨_, e⟩ := h.get k (by omega)
  rw [Nat.add_sub_cancel_left]
  exact ⟨L[k], L.drop (k + 1), List.drop_eq_getElem_cons (by omega), e⟩

/-- Blanks ahead change nothing. -/
theorem restAt_skip : ∀ (L : List UInt8) (o : Nat), restAt L o = restAt (L.drop (blanksL L)) (o + blanksL L)
  | [], o => rfl
  | c :: L, o => by
    by_cases hc : c = 32
    · subst hc
      rw [blanksL_cons, restAt_blank, restAt_skip L (o + 1), List.drop_succ_cons]
      congr 1
      omega
    · rw [blanksL_other hc]
      rfl

/-- The tokens so far, and those of the rest: all of a line's. -/
def restFrom (done : List (ByteArray × ByteArray × Nat)) (L : List UInt8) (o : Nat) : Except Nat (List (ByteArray × ByteArray × Nat)) :=
  match restAt L o with
  | .ok l => .ok (done ++ l)
  | .error e => .error e
theorem restFrom_nil (done : List (ByteArray × ByteArray × Nat)) (o : Nat) : restFrom done [] o = .ok done := by
  unfold restFrom
  rw [restAt_nil]
  simp
theorem restFrom_hash (done : List (ByteArray × ByteArray × Nat)) (L : List UInt8) (o : Nat) : restFrom done (35 :: L) o = .ok done := by
  unfold restFrom
  rw [restAt_hash]
  simp
theorem restFrom_blank (done : List (ByteArray × ByteArray × Nat)) (L : List UInt8) (o : Nat) : restFrom done (32 :: L) o = restFrom done L (o + 1) := by
  unfold restFrom
  rw [restAt_blank]
theorem restFrom_none {done : List (ByteArray × ByteArray × Nat)} {c : UInt8} {L : List UInt8} {o : Nat} (h : c ≠ 32) (h2 : c ≠ 35) (ht : tokL (c :: L) = none) : restFrom done (c :: L) o = .error o := by
  unfold restFrom
  rw [restAt_tok h h2, ht]
theorem restFrom_tok {done : List (ByteArray × ByteArray × Nat)} {c : UInt8} {L : List UInt8} {o m : Nat} {k t : ByteArray} (h : c ≠ 32) (h2 : c ≠ 35) (ht : tokL (c :: L) = some (k, t, m)) : restFrom done (c :: L) o = restFrom (done ++ [(k, t, o)]) ((c :: L).drop m) (o + m) := by
  unfold restFrom
  rw [restAt_tok h h2, ht]
  simp only
  cases restAt ((c :: L).drop m) (o + m) with
  | error e => rfl
  | ok l => simp
end Go.Proofs.YtpflpbfnifpchaaGreatDoor
