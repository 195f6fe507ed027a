/- A memory's data, and how it stands in memory; near, sameWords, by contracts. -/
import Derived.Test.YtnenggkgfhgcnaaGreatDoorJoC
namespace Go.Proofs.YtnenggkgfhgcnaaGreatDoor
open Go.RowKit

/-- A memory's data. -/
structure MD where
  half : Int
  old : Int
  card : Int
  used : Int
  top : Int
  oldTop : Int
  W : List Int
  R : List Int
  K : List Int
  I : List (Int × Int)
  C : List Bool
def wordsV (l : List Int) : List Value := l.map (Value.int .u64)
def idsV (l : List (Int × Int)) : List Value := l.flatMap fun p => [.int .u64 p.1, .int .i64 p.2]
def boolsV (l : List Bool) : List Value := l.map Value.bool
/-- A row in memory: a slice of n elements whose cells are these. -/
def RowV (w : World) (v : Value) (n : Nat) (xs : List Value) : Prop := ∃ ao cap, v = .slice ao n cap ∧ n ≤ cap ∧ (0 < n → ∃ b o, ao = some ⟨b, o, none⟩ ∧ b < w.heap.size ∧ ∀ j u, xs[j]? = some u → w.cell? ⟨b, o + j, none⟩ = some u)
theorem RowV.below {w w' : World} {v : Value} {n : Nat} {xs : List Value} (h : RowV w v n xs) (hb : Below w.heap.size w w') : RowV w' v n xs := by
  obtain ⟨ao, cap, e, hc, h⟩ := h
  refine ⟨ao, cap, e, hc, fun hn => ?_⟩
  obtain ⟨b, o, e1, e2, e3⟩ := h hn
  exact ⟨b, o, e1, Nat.lt_of_lt_of_le e2 hb.size, fun j u hj => (hb.cell (p := ⟨b, o + j, none⟩) e2).trans (e3 j u hj)⟩
/-- The same, told of an address. -/
theorem RowV.src {w : World} {ao : Option Addr} {n cap : Nat} {xs : List Value} (h : RowV w (.slice ao n cap) n xs) : 0 < n → ∃ ad : Addr, ao = some ad ∧ ad.block < w.heap.size ∧ ∀ j v, xs[j]? = some v → w.cell? (ad.add j) = some v := fun hn => by
  obtain ⟨ao', cap', e, _, h⟩ := h
  cases e
  obtain ⟨b, o, e1, e2, e3⟩ := h hn
  refine ⟨⟨b, o, none⟩, e1, e2, fun j v hj => ?_⟩
  have e : (⟨b, o, none⟩ : Addr).add j = ⟨b, o + j, none⟩ := by unfold Addr.add; split <;> simp_all
  rw [e]
  exact e3 j v hj
theorem rowV_own {w : World} {base e size n : Nat} {v : Value} {xs : List Value} (h : w.ownsRow base e size v n xs) : RowV w v n xs := by
  obtain ⟨h1, h2⟩ := h
  rcases h2 with ⟨rfl, rfl⟩ | ⟨g, cap, cur, rfl, hb, hg, hc, _, hs, ht⟩
  · exact ⟨none, 0, rfl, Nat.le_refl _, fun h => absurd h (by omega)⟩
  · refine ⟨_, _, rfl, hc, fun _ => ⟨g, 0, rfl, lt_of_heap hg, fun j u hj => ?_⟩⟩
    have hj' := hj
    rw [← ht, List.getElem?_take] at hj
    split at hj
    · rw [Nat.zero_add, cell_of_row _ _ _ _ _ _ hg, ← Array.getElem?_toList]
      exact hj
    · cases hj
/-- A memory stands at p, from o on. -/
def RepM (p o : Nat) (m : MD) (w : World) : Prop := ∃ vW vR vK vI vC, p < w.heap.size ∧ MemO p o m.half m.old m.card vW m.used m.top m.oldTop vR vK vI vC w ∧
  RowV w vW m.W.length (wordsV m.W) ∧ RowV w vR m.R.length (wordsV m.R) ∧ RowV w vK m.K.length (wordsV m.K) ∧ RowV w vI m.I.length (idsV m.I) ∧ RowV w vC m.C.length (boolsV m.C)
theorem RepM.below {p o : Nat} {m : MD} {w w' : World} (h : RepM p o m w) (hb : Below w.heap.size w w') : RepM p o m w' := by
  obtain ⟨vW, vR, vK, vI, vC, hp, M, h1, h2, h3, h4, h5⟩ := h
  exact ⟨vW, vR, vK, vI, vC, Nat.lt_of_lt_of_le hp hb.size, M.below hb hp, h1.below hb, h2.below hb, h3.below hb, h4.below hb, h5.below hb⟩
def nearB (m : MD) : Bool := decide (m.W.length ≤ 1000) && (decide (m.R.length ≤ 100) && (decide (m.K.length ≤ 100) && (decide (m.I.length ≤ 100) && decide (m.C.length ≤ 1000))))
theorem lenV (l : List Int) : (wordsV l).length = l.length := by simp [wordsV]
theorem lenB (l : List Bool) : (boolsV l).length = l.length := by simp [boolsV]
theorem lenI (l : List (Int × Int)) : (idsV l).length = l.length * 2 := by
  induction l with
  | nil => rfl
  | cons p l ih => simp [idsV] at *; omega
theorem one_words (l : List Int) : ∀ v ∈ wordsV l, v.oneCell' = true := fun v hv => by
  obtain ⟨x, _, rfl⟩ := List.mem_map.1 hv
  rfl
theorem one_bools (l : List Bool) : ∀ v ∈ boolsV l, v.oneCell' = true := fun v hv => by
  obtain ⟨x, _, rfl⟩ := List.mem_map.1 hv
  rfl
theorem one_ids (l : List (Int × Int)) : ∀ v ∈ idsV l, v.oneCell' = true := fun v hv => by
  obtain ⟨x, _, h⟩ := List.mem_flatMap.1 hv
  simp at h
  rcases h with rfl | rfl <;> rfl
theorem words_at {l : List Int} {j : Nat} {x : Int} (h : l[j]? = some x) : (wordsV l)[j]? = some (.int .u64 x) := by simp [wordsV, h]
theorem bools_at {l : List Bool} {j : Nat} {x : Bool} (h : l[j]? = some x) : (boolsV l)[j]? = some (.bool x) := by simp [boolsV, h]
theorem ids_at {l : List (Int × Int)} : ∀ {j : Nat} {x : Int × Int}, l[j]? = some x → (idsV l)[j * 2]? = some (.int .u64 x.1) ∧ (idsV l)[j * 2 + 1]? = some (.int .i64 x.2) := by
  induction l with
  | nil => intro j x h; cases h
  | cons p l ih =>
    intro j x h
    have e : idsV (p :: l) = .int .u64 p.1 :: .int .i64 p.2 :: idsV l := rfl
    rw [e]
    cases j with
    | zero => cases h; exact ⟨rfl, rfl⟩
    | succ j =>
      have := ih (j := j) (x := x) (by simpa using h)
      rw [show (j + 1) * 2 = j * 2 + 2 by omega, show j * 2 + 2 + 1 = j * 2 + 1 + 2 by omega]
      exact this

set_option maxHeartbeats 2000000 in
theorem sameWords_eq (l : List Int) (a1 a2 : Option Addr) (c1 c2 : Nat) (hn : l.length ≤ 300000) (w : World) (h1 : RowV w (.slice a1 l.length c1) l.length (wordsV l)) (h2 : RowV w (.slice a2 l.length c2) l.length (wordsV l)) :
    Calls Tryz.prog 33 #[.slice a1 l.length c1, .slice a2 l.length c2] w fun ev w' => ev = .returned (.bool true) ∧ ∃ q, w' = w.drewN q := by
  have H1 := toHid h1
  have H2 := toHid h2
  clear h1 h2
  go_enter Tryz.func33, Tryz.ntmps33
  go_wp2_with fail
  go_loopg [5] (l.length + 1) (fun gk v5 wr => ∃ k : Nat, gk = l.length + 1 - k ∧ k ≤ l.length ∧ v5 = .int .i64 (k : Int) ∧ Hid (∃ q, wr = w.drewN q))
  case atStart => exact ⟨0, rfl, Nat.zero_le _, rfl, 0, rfl⟩
  case round =>
    obtain ⟨k, hgk, hk, hv5, hq⟩ := hrel
    subst hv5
    have HG := toHid hgk
    clear hgk
    by_cases hlt : k < l.length
    · have hI : (k : Int) < (l.length : Int) := by omega
      have hI0 : (0 : Int) ≤ (k : Int) := by omega
      obtain ⟨x, hx⟩ : ∃ x, l[k]? = some x := ⟨_, List.getElem?_eq_getElem hlt⟩
      obtain ⟨_, _, e, _, f1⟩ := H1.out
      cases e
      obtain ⟨b1, o1, rfl, _, g1⟩ := f1 (by omega)
      obtain ⟨_, _, e, _, f2⟩ := H2.out
      cases e
      obtain ⟨b2, o2, rfl, _, g2⟩ := f2 (by omega)
      have r1 : wr.cell? ⟨b1, o1 + k, none⟩ = some (.int .u64 x) := by obtain ⟨q, hq⟩ := hq.out; rw [hq]; exact g1 k _ (words_at hx)
      have r2 : wr.cell? ⟨b2, o2 + k, none⟩ = some (.int .u64 x) := by obtain ⟨q, hq⟩ := hq.out; rw [hq]; exact g2 k _ (words_at hx)
      clear f1 f2 g1 g2 hx
      go_wp2_with fail
      go_quiet (fail)
      go_wp2_with fail
      go_roundg (l.length + 1 - (k + 1))
      case measure => have := HG.out; omega
      case rel => exact ⟨k + 1, rfl, by omega, by go_num, by obtain ⟨q, hq⟩ := hq.out; exact ⟨_, by rw [hq, drew2]⟩⟩
    · obtain rfl : k = l.length := by omega
      go_wp2_with fail
      go_ret
      exact ⟨rfl, hq.out⟩
end Go.Proofs.YtnenggkgfhgcnaaGreatDoor

/- Package mem: words that point to objects, by contracts. -/
namespace Go.Proofs.YtnenggkgfhgcnaaGreatDoor
open Go.RowKit

theorem raw_any (k : Int) (h0 : 0 ≤ k) (w : World) : Calls Tryz.prog 47 #[.int .i64 k] w fun ev w' => ev = .returned (.bool (decide (k < 8))) ∧ w' = w := by
  have hm := mwithin_any k 0 7 w
  have e : (decide (0 ≤ k) && decide (k ≤ 7)) = decide (k < 8) := by
    rw [decide_eq_true h0, Bool.true_and]
    exact decide_eq_decide.2 (by omega)
  rw [e] at hm
  generalize decide (k < 8) = b at *
  clear e
  go_enter Tryz.func47, Tryz.ntmps47
  go_wp2_with fail
  refine hm.mono ?_
  rintro ev w1 ⟨rfl, hq⟩
  rw [hq]
  go_wp2_with fail
  go_ret
  exact ⟨rfl, rfl⟩
theorem words_any (k g m s : Int) (h0 : 0 ≤ s) (h1 : s ≤ 4096) (w : World) : Calls Tryz.prog 49 #[.agg #[.int .i64 k, .int .i64 g, .int .i64 m, .int .i64 s]] w fun ev w' => ev = .returned (.int .i64 (1 + s)) ∧ Below w.heap.size w w' := by
  go_enter Tryz.func49, Tryz.ntmps49
  go_wp2
  go_ret
  exact ⟨rfl, (Below.refl _ _).alloc (Nat.le_refl _) _⟩

/-- Of each word whether an object begins there. -/
def HeadsAt (w : World) (bh nH : Nat) (hb : Nat → Bool) : Prop := ∀ i, i < nH → w.cell? ⟨bh, i, none⟩ = some (.bool (hb i))
theorem HeadsAt.below {w w' : World} {bh nH B : Nat} {hb : Nat → Bool} (h : HeadsAt w bh nH hb) (hw : Below B w w') (hB : bh < B) : HeadsAt w' bh nH hb := fun i hi => (hw.cell (p := ⟨bh, i, none⟩) hB).trans (h i hi)
theorem begins_any (bh nH : Nat) (hb : Nat → Bool) (n : Nat) (w : World) (H : HeadsAt w bh nH hb) :
    Calls Tryz.prog 112 #[.slice (some ⟨bh, 0, none⟩) nH nH, .int .i64 (n : Int)] w fun ev w' => ev = .returned (.bool (decide (n < nH) && hb n)) ∧ w' = w := by
  by_cases hn : n < nH
  · have c := H n hn
    have hI : (n : Int) < (nH : Int) := by omega
    have hI0 : (0 : Int) ≤ (n : Int) := by omega
    rw [decide_eq_true hn, Bool.true_and]
    generalize hb n = b at *
    go_enter Tryz.func112, Tryz.ntmps112
    go_wp2
    go_ret
    exact ⟨rfl, rfl⟩
  · have hI : ¬ (n : Int) < (nH : Int) := by omega
    rw [decide_eq_false hn, Bool.false_and]
    go_enter Tryz.func112, Tryz.ntmps112
    go_wp2
    go_ret
    exact ⟨rfl, rfl⟩

theorem comesC_ok (n x : Int) (c1 : 0 ≤ n) (c2 : n ≤ 2) (w : World) :
    Calls Tryz.prog 125 #[.int .i64 n, .int .u64 x, .func (.func 126) #[] #[]] w fun ev w' => ev = .returned (.bool (n * 4 + 2 == x)) ∧ Below w.heap.size w w' := by
  have h := ofConst_ok n c1 c2 w
  go_enter Tryz.func125, Tryz.ntmps125
  go_wp2_with fail
  refine h.mono ?_
  rintro ev w1 ⟨rfl, hb⟩
  go_wp2
  go_ret
  exact ⟨rfl, hb⟩
theorem comesC_no (a : Nat → Addr) (n x : Int) (hn : n < 0 ∨ 2 < n) (w : World) (E : WErr a w) :
    Calls Tryz.prog 125 #[.int .i64 n, .int .u64 x, .func (.func 126) #[] #[]] w fun ev w' => ev = .returned (.bool false) ∧ Below w.heap.size w w' := by
  have h := ofConst_no a n hn w E
  go_enter Tryz.func125, Tryz.ntmps125
  go_wp2_with fail
  refine h.mono ?_
  rintro ev w1 ⟨rfl, hb⟩
  unfold errV
  go_wp2
  go_ret
  exact ⟨rfl, hb⟩
theorem toConst_ok (x : Int) (hx : x % 4 = 2) (h0 : 0 ≤ x) (h1 : x / 4 ≤ 2) (w : World) :
    Calls Tryz.prog 110 #[.int .u64 x] w fun ev w' => ev = .returned (.tuple #[.int .i64 (x / 4), .nilIface]) ∧ Below w.heap.size w w' := by
  have h := comesC_ok (x / 4) x (by omega) h1 w
  have hm : (x / 4 * 4 + 2 == x) = true := by
    rw [beq_iff_eq]
    omega
  rw [hm] at h
  clear hm
  go_enter Tryz.func110, Tryz.ntmps110
  go_wp2_with fail
  refine h.mono ?_
  rintro ev w1 ⟨rfl, hb⟩
  go_wp2
  go_ret2
  exact ⟨rfl, hb⟩
theorem toConst_no (a : Nat → Addr) (x : Int) (h0 : 0 ≤ x) (h1 : x < 18446744073709551616) (h2 : 2 < x / 4) (w : World) (E : WErr a w) :
    Calls Tryz.prog 110 #[.int .u64 x] w fun ev w' => ev = .returned (.tuple #[.int .i64 0, errV a 2]) ∧ Below w.heap.size w w' := by
  have h := comesC_no a (x / 4) x (.inr h2) w E
  go_enter Tryz.func110, Tryz.ntmps110
  go_wp2_with fail
  refine h.mono ?_
  rintro ev w1 ⟨rfl, hb⟩
  have k2 := (E.below hb).c2
  go_wp2
  go_quiet (fail)
  go_wp2
  go_ret2
  exact ⟨rfl, below_drewN hb⟩

/-- Does a word point to an object? -/
def ptrB (nH : Nat) (hb : Nat → Bool) (x : Int) : Bool := decide (x % 4 = 0 ∧ 4 ≤ x) && (decide ((x / 4 - 1).toNat < nH) && hb (x / 4 - 1).toNat)
theorem pointed_any (a : Nat → Addr) (bh nH : Nat) (hb : Nat → Bool) (hn : nH ≤ 300000) (x : Int) (h0 : 0 ≤ x) (h1 : x < 18446744073709551616) (w : World) (E : WErr a w) (H : HeadsAt w bh nH hb) (hbl : bh < w.heap.size) :
    Calls Tryz.prog 106 #[.slice (some ⟨bh, 0, none⟩) nH nH, .int .u64 x] w fun ev w' => ev = .returned (.bool (ptrB nH hb x)) ∧ Below w.heap.size w w' := by
  by_cases hx : x % 4 = 0 ∧ 4 ≤ x ∧ x / 4 - 1 ≤ 1099511627776
  · obtain ⟨d0, d1, d2⟩ := hx
    obtain ⟨n, hnn⟩ : ∃ n : Nat, (n : Int) = x / 4 - 1 := ⟨(x / 4 - 1).toNat, by omega⟩
    have e : ptrB nH hb x = (decide (n < nH) && hb n) := by
      unfold ptrB
      rw [decide_eq_true (And.intro d0 d1), Bool.true_and, ← hnn]
      rfl
    rw [e]
    have ht := toAddr_ok x d0 d1 d2 w
    rw [← hnn] at ht
    clear hnn d0 d1 d2 e
    go_enter Tryz.func106, Tryz.ntmps106
    go_wp2_with fail
    refine ht.mono ?_
    rintro ev w1 ⟨rfl, hw1⟩
    go_wp2_with fail
    refine (begins_any bh nH hb n w1 (H.below hw1 hbl)).mono ?_
    rintro ev w2 ⟨rfl, hq⟩
    rw [hq]
    clear hq w2
    go_wp2_with fail
    go_ret
    exact ⟨rfl, hw1⟩
  · have e : ptrB nH hb x = false := by
      unfold ptrB
      rw [Bool.and_eq_false_iff, Bool.and_eq_false_iff, decide_eq_false_iff_not, decide_eq_false_iff_not]
      omega
    rw [e]
    have ht := toAddr_no a x h0 h1 hx w E
    unfold errV at ht
    go_enter Tryz.func106, Tryz.ntmps106
    go_wp2_with fail
    refine ht.mono ?_
    rintro ev w1 ⟨rfl, hw1⟩
    go_wp2_with fail
    go_ret
    exact ⟨rfl, hw1⟩
/-- May a word stand in a root? -/
def fieldB (nH : Nat) (hb : Nat → Bool) (x : Int) : Bool := if x % 4 = 1 then true else if x % 4 = 2 then decide (x / 4 ≤ 2) else (x == 0) || ptrB nH hb x
theorem holds_any (a : Nat → Addr) (bh nH : Nat) (hb : Nat → Bool) (hn : nH ≤ 300000) (x : Int) (h0 : 0 ≤ x) (h1 : x < 18446744073709551616) (w : World) (E : WErr a w) (H : HeadsAt w bh nH hb) (hbl : bh < w.heap.size) :
    Calls Tryz.prog 79 #[.slice (some ⟨bh, 0, none⟩) nH nH, .int .u64 x] w fun ev w' => ev = .returned (.bool (fieldB nH hb x)) ∧ Below w.heap.size w w' := by
  have kk := kind_any x h0 h1 w
  by_cases x1 : x % 4 = 1
  · have e : fieldB nH hb x = true := by unfold fieldB; rw [if_pos x1]
    rw [e]
    go_enter Tryz.func79, Tryz.ntmps79
    go_wp2_with fail
    refine kk.mono ?_
    rintro ev w1 ⟨rfl, hq⟩
    rw [hq, x1]
    clear hq w1
    go_wp2_with fail
    go_ret
    exact ⟨rfl, Below.refl _ _⟩
  · by_cases x2 : x % 4 = 2
    · by_cases x3 : x / 4 ≤ 2
      · have e : fieldB nH hb x = true := by unfold fieldB; rw [if_neg x1, if_pos x2, decide_eq_true x3]
        rw [e]
        have kt := toConst_ok x x2 h0 x3 w
        go_enter Tryz.func79, Tryz.ntmps79
        go_wp2_with fail
        refine kk.mono ?_
        rintro ev w1 ⟨rfl, hq⟩
        rw [hq, x2]
        clear hq w1
        go_wp2_with fail
        refine kt.mono ?_
        rintro ev w1 ⟨rfl, hb1⟩
        go_wp2_with fail
        go_ret
        exact ⟨rfl, hb1⟩
      · have e : fieldB nH hb x = false := by unfold fieldB; rw [if_neg x1, if_pos x2, decide_eq_false x3]
        rw [e]
        have kt := toConst_no a x h0 h1 (by omega) w E
        unfold errV at kt
        go_enter Tryz.func79, Tryz.ntmps79
        go_wp2_with fail
        refine kk.mono ?_
        rintro ev w1 ⟨rfl, hq⟩
        rw [hq, x2]
        clear hq w1
        go_wp2_with fail
        refine kt.mono ?_
        rintro ev w1 ⟨rfl, hb1⟩
        go_wp2_with fail
        go_ret
        exact ⟨rfl, hb1⟩
    · have e : fieldB nH hb x = ((x == 0) || ptrB nH hb x) := by unfold fieldB; rw [if_neg x1, if_neg x2]
      rw [e]
      by_cases x3 : x = 0
      · subst x3
        go_enter Tryz.func79, Tryz.ntmps79
        go_wp2_with fail
        refine kk.mono ?_
        rintro ev w1 ⟨rfl, hq⟩
        rw [hq]
        clear hq w1
        go_wp2_with fail
        go_ret
        exact ⟨rfl, Below.refl _ _⟩
      · have hz : (x == 0) = false := by rw [beq_eq_false_iff_ne]; exact x3
        have kp := pointed_any a bh nH hb hn x h0 h1 w E H hbl
        have z1 : (x % 4 == 1) = false := by rw [beq_eq_false_iff_ne]; exact x1
        have z2 : (x % 4 == 2) = false := by rw [beq_eq_false_iff_ne]; exact x2
        rw [hz, Bool.false_or]
        generalize ptrB nH hb x = pb at *
        go_enter Tryz.func79, Tryz.ntmps79
        go_wp2_with fail
        refine kk.mono ?_
        rintro ev w1 ⟨rfl, hq⟩
        rw [hq]
        clear hq w1
        go_wp2_with fail
        refine kp.mono ?_
        rintro ev w1 ⟨rfl, hb1⟩
        go_wp2_with fail
        go_ret
        exact ⟨rfl, hb1⟩
/-- Words that fit 64 bits. -/
def U64 (l : List Int) : Prop := ∀ x ∈ l, 0 ≤ x ∧ x < 18446744073709551616
set_option maxHeartbeats 2000000 in
theorem holdAll_any (a : Nat → Addr) (bh nH : Nat) (hb : Nat → Bool) (hn : nH ≤ 300000) (l : List Int) (hl : l.length ≤ 300000) (hu : U64 l) (ao : Option Addr) (cap : Nat) (w : World) (E : WErr a w) (H : HeadsAt w bh nH hb) (hbl : bh < w.heap.size) (hR : RowV w (.slice ao l.length cap) l.length (wordsV l)) :
    Calls Tryz.prog 48 #[.slice (some ⟨bh, 0, none⟩) nH nH, .slice ao l.length cap] w fun ev w' => ev = .returned (.bool (l.all (fieldB nH hb))) ∧ Below w.heap.size w w' := by
  have HR := toHid hR
  have HU := toHid hu
  have HH := toHid H
  have HE := toHid E
  clear hR hu H E
  go_enter Tryz.func48, Tryz.ntmps48
  go_wp2_with fail
  go_loopg [9] (l.length + 1) (fun gk v9 wr => ∃ k : Nat, gk = l.length + 1 - k ∧ k ≤ l.length ∧ v9 = .int .i64 (k : Int) ∧ Below w.heap.size w wr ∧ Hid ((l.take k).all (fieldB nH hb) = true))
  case atStart => exact ⟨0, rfl, Nat.zero_le _, rfl, Below.refl _ _, rfl⟩
  case round =>
    obtain ⟨k, hgk, hk, hv9, hb1, hal⟩ := hrel
    subst hv9
    have HG := toHid hgk
    clear hgk
    by_cases hlt : k < l.length
    · have hI : (k : Int) < (l.length : Int) := by omega
      have hI0 : (0 : Int) ≤ (k : Int) := by omega
      obtain ⟨x, hx⟩ : ∃ x, l[k]? = some x := ⟨_, List.getElem?_eq_getElem hlt⟩
      obtain ⟨_, _, e, _, f1⟩ := HR.out
      cases e
      obtain ⟨p1, o1, rfl, l1, g1⟩ := f1 (by omega)
      have r1 : wr.cell? ⟨p1, o1 + k, none⟩ = some (.int .u64 x) := (hb1.cell (p := ⟨p1, o1 + k, none⟩) l1).trans (g1 k _ (words_at hx))
      have hxu := HU.out x (List.mem_of_getElem? hx)
      have kh := holds_any a bh nH hb hn x hxu.1 hxu.2 wr (HE.out.below hb1) (HH.out.below hb1 hbl) (Nat.lt_of_lt_of_le hbl hb1.size)
      have HT : Hid ((l.take (k + 1)).all (fieldB nH hb) = fieldB nH hb x) := by
        show _ = _
        rw [List.take_add_one, hx, List.all_append, hal.out, Bool.true_and]
        simp
      have HF : Hid (fieldB nH hb x = false → l.all (fieldB nH hb) = false) := fun hf => by
        rw [List.all_eq_false]
        exact ⟨x, List.mem_of_getElem? hx, by rw [hf]; decide⟩
      clear f1 g1 hx hxu hal
      cases hfb : fieldB nH hb x with
      | true =>
        rw [hfb] at kh
        have HT2 : Hid ((l.take (k + 1)).all (fieldB nH hb) = true) := HT.out.trans hfb
        clear HT HF hfb
        go_wp2_with fail
        refine kh.mono ?_
        rintro ev w1 ⟨rfl, hb2⟩
        go_wp2_with fail
        go_roundg (l.length + 1 - (k + 1))
        case measure => have := HG.out; omega
        case rel => exact ⟨k + 1, rfl, by omega, by go_num, hb1.trans (hb2.mono hb1.size), HT2⟩
      | false =>
        rw [hfb] at kh
        have HF2 := HF.out hfb
        clear HT HF hfb
        go_wp2_with fail
        refine kh.mono ?_
        rintro ev w1 ⟨rfl, hb2⟩
        go_wp2_with fail
        go_ret
        rw [HF2]
        exact ⟨rfl, hb1.trans (hb2.mono hb1.size)⟩
    · obtain rfl : k = l.length := by omega
      go_wp2_with fail
      go_ret
      rw [List.take_length] at hal
      rw [hal.out]
      exact ⟨rfl, hb1⟩
end Go.Proofs.YtnenggkgfhgcnaaGreatDoor

/- Package mem: objects one by one (eachOf), by a contract. -/
namespace Go.Proofs.YtnenggkgfhgcnaaGreatDoor
open Go.RowKit

def headB (x : Int) : Bool := decide (x % 4 = 3 ∧ x / 32768 % 2 = 0 ∧ x / 65536 ≤ 4096)
def szN (x : Int) : Nat := (x / 65536).toNat
/-- A header's word as a header. -/
def headV (x : Int) : Value := .agg #[.int .i64 (x / 4 % 256), .int .i64 (x / 1024 % 16), .int .i64 (x / 16384 % 2), .int .i64 (x / 65536)]
/-- Where objects begin, from f on, if they just fill what is ahead of t, and each passes G. -/
def walkP (F : Nat → Int) (G : Nat → Bool) : Nat → Nat → Nat → Option (List Nat)
  | 0, _, _ => some []
  | n + 1, f, t => if f < t then (if headB (F f) && (decide (f + 1 + szN (F f) ≤ t) && G f) then (walkP F G n (f + 1 + szN (F f)) t).map (f :: ·) else none) else some []
theorem walkP_done {F : Nat → Int} {G : Nat → Bool} {n f t : Nat} (h : ¬ f < t) : walkP F G n f t = some [] := by
  cases n with
  | zero => rfl
  | succ n => unfold walkP; rw [if_neg h]
theorem walkP_fail {F : Nat → Int} {G : Nat → Bool} {n f t : Nat} (hn : t - f ≤ n) (h : f < t) (hb : (headB (F f) && (decide (f + 1 + szN (F f) ≤ t) && G f)) = false) : walkP F G n f t = none := by
  cases n with
  | zero => omega
  | succ n => unfold walkP; rw [if_pos h, hb]; rfl
theorem walkP_next {F : Nat → Int} {G : Nat → Bool} {n f t : Nat} (hn : t - f ≤ n) (h : f < t) (hb : (headB (F f) && (decide (f + 1 + szN (F f) ≤ t) && G f)) = true) : ∃ n', t - (f + 1 + szN (F f)) ≤ n' ∧ walkP F G n f t = (walkP F G n' (f + 1 + szN (F f)) t).map (f :: ·) := by
  cases n with
  | zero => omega
  | succ n => refine ⟨n, by omega, ?_⟩; rw [walkP, if_pos h, hb]; rfl

set_option maxHeartbeats 4000000 in
theorem eachOf_any (a : Nat → Addr) (K : FuncId) (caps : Array Value) (hE : ∀ args w, (callFunc K args).run Tryz.prog w = .ok (.enter K args) w) (F : Nat → Int) (G : Nat → Bool) (Inv : List Nat → World → Prop) (b t cap : Nat) (ht : t ≤ 300000) (hF : ∀ i, i < t → 0 ≤ F i ∧ F i < 18446744073709551616)
    (hcell : ∀ vs w, Inv vs w → WErr a w ∧ ∀ i, i < t → w.cell? ⟨b, i, none⟩ = some (.int .u64 (F i))) (hkeep : ∀ vs w w', Inv vs w → Below w.heap.size w w' → Inv vs w')
    (f0 : Nat) (hK : ∀ vs f w, Inv vs w → f0 ≤ f → f < t → headB (F f) = true → f + 1 + szN (F f) ≤ t → Calls Tryz.prog K (#[.int .i64 (f : Int), headV (F f)] ++ caps) w fun ev w' => ev = .returned (.bool (G f)) ∧ Inv (vs ++ [f]) w')
    (vs0 : List Nat) (w : World) (h0 : Inv vs0 w) :
    Calls Tryz.prog 138 #[.slice (some ⟨b, 0, none⟩) t cap, .int .i64 (f0 : Int), .func (.func K) #[] caps] w fun ev w' => ev = .returned (.bool (walkP F G (t - f0) f0 t).isSome) ∧ ∃ vs, Inv vs w' ∧ ∀ l, walkP F G (t - f0) f0 t = some l → vs = vs0 ++ l := by
  have HK := toHid hK
  have HC := toHid hcell
  have HP := toHid hkeep
  have HF := toHid hF
  have H0 := toHid h0
  clear hK hcell hkeep hF h0
  go_enter Tryz.func138, Tryz.ntmps138
  go_wp2_with fail
  go_loopg [1] (t + 1) (fun gk v1 wr => ∃ (f n : Nat) (vs : List Nat), gk = t + f0 + 1 - f ∧ v1 = .int .i64 (f : Int) ∧ (f = f0 ∨ f ≤ t) ∧ Hid (f0 ≤ f) ∧ Hid (t - f ≤ n) ∧ Hid (Inv (vs0 ++ vs) wr) ∧ Hid (walkP F G (t - f0) f0 t = (walkP F G n f t).map (vs ++ ·)))
  case atStart => exact ⟨f0, t - f0, [], by omega, rfl, .inl rfl, Nat.le_refl _, Nat.le_refl _, by rw [List.append_nil]; exact H0, by show _ = _; simp⟩
  case round =>
    obtain ⟨f, n, vs, hgk, hv1, hft, hfl, hn, hI, hW⟩ := hrel
    subst hv1
    have HG := toHid hgk
    clear hgk
    by_cases hlt : f < t
    · have hI1 : (f : Int) < (t : Int) := by omega
      have hI0 : (0 : Int) ≤ (f : Int) := by omega
      obtain ⟨E, hc⟩ := HC.out _ _ hI.out
      obtain ⟨x, hxe⟩ : ∃ x, x = F f := ⟨_, rfl⟩
      have c0 := hc f hlt
      have hx := HF.out f hlt
      rw [← hxe] at c0 hx
      have HX := toHid hxe
      clear hc hxe
      cases hh : headB x with
      | false =>
        have HN : Hid (walkP F G (t - f0) f0 t = none) := by show _ = _; rw [hW.out, walkP_fail hn.out hlt (by rw [← HX.out, hh]; rfl)]; rfl
        have kt := toHead_no a x hx.1 hx.2 (by unfold headB at hh; simpa using hh) wr E
        unfold errV at kt
        clear hh
        go_wp2_with fail
        refine kt.mono ?_
        rintro ev w1 ⟨rfl, hb1⟩
        go_wp2_with fail
        refine (words_any 0 0 0 0 (by omega) (by omega) _).mono ?_
        rintro ev w2 ⟨rfl, hb2⟩
        have hb3 : Below wr.heap.size wr w2 := (hb1.alloc hb1.size _).trans (hb2.mono (by have := hb1.size; simp; omega))
        clear hb1 hb2
        go_wp2_with fail
        go_ret
        exact ⟨by rw [HN.out]; rfl, vs0 ++ vs, HP.out _ _ _ hI.out hb3, fun l hl => by rw [HN.out] at hl; cases hl⟩
      | true =>
        obtain ⟨hd0, hd1, hd2⟩ : x % 4 = 3 ∧ x / 32768 % 2 = 0 ∧ x / 65536 ≤ 4096 := by unfold headB at hh; simpa using hh
        have kt := toHead_ok x hx.1 hx.2 hd0 hd1 hd2 wr
        obtain ⟨s, hs⟩ : ∃ s : Nat, (s : Int) = x / 65536 := ⟨(x / 65536).toNat, by omega⟩
        have HS : Hid (szN (F f) = s) := by show _ = _; rw [← HX.out]; unfold szN; omega
        have HV : Hid (headV (F f) = .agg #[.int .i64 (x / 4 % 256), .int .i64 (x / 1024 % 16), .int .i64 (x / 16384 % 2), .int .i64 (s : Int)]) := by show _ = _; rw [← HX.out, hs]; rfl
        rw [← hs] at kt
        have hs1 : s ≤ 4096 := by omega
        have HH : Hid (headB (F f) = true) := by show _ = _; rw [← HX.out]; exact hh
        clear hs hd0 hd1 hd2 hh
        generalize x / 4 % 256 = k1 at *
        generalize x / 1024 % 16 = k2 at *
        generalize x / 16384 % 2 = k3 at *
        go_wp2_with fail
        refine kt.mono ?_
        rintro ev w1 ⟨rfl, hb1⟩
        go_wp2_with fail
        have hb1' : Below wr.heap.size wr (w1.alloc (.cells #[.int .i64 k1, .int .i64 k2, .int .i64 k3, .int .i64 (s : Int)] 92)) := hb1.alloc hb1.size _
        refine (words_any k1 k2 k3 (s : Int) (by omega) (by omega) _).mono ?_
        rintro ev w2 ⟨rfl, hb2⟩
        obtain ⟨r0, r1, r2, r3, _⟩ := head_block ((hb2.block w1.heap.size (by simp)).trans (heap_alloc_new w1 _))
        have hb3 : Below wr.heap.size wr w2 := hb1'.trans (hb2.mono (by have := hb1.size; simp; omega))
        clear hb1 hb1' hb2 kt
        by_cases hend : f + 1 + s ≤ t
        · have hend1 : ¬ (f : Int) + (1 + (s : Int)) > (t : Int) := by omega
          have kk := HK.out (vs0 ++ vs) f w2 (HP.out _ _ _ hI.out hb3) hfl.out hlt HH.out (by rw [HS.out]; exact hend)
          rw [HV.out] at kk
          cases hg : G f with
          | true =>
            rw [hg] at kk
            obtain ⟨n', hn', hw'⟩ := walkP_next (G := G) hn.out hlt (by rw [HH.out, HS.out, decide_eq_true hend, hg]; rfl)
            rw [HS.out] at hn' hw'
            have HN' := toHid hn'
            have HW' : Hid (walkP F G (t - f0) f0 t = (walkP F G n' (f + 1 + s) t).map ((vs ++ [f]) ++ ·)) := by
              show _ = _
              rw [hW.out, hw', Option.map_map]
              congr 1
              funext l
              simp
            clear hg hn' hw'
            go_wp2_with fail
            refine kk.mono ?_
            rintro ev w3 ⟨rfl, hI3⟩
            have HI3 := toHid hI3
            clear hI3
            go_wp2_with fail
            go_roundg (t + f0 + 1 - (f + 1 + s))
            case measure => have := HG.out; omega
            case rel => exact ⟨f + 1 + s, n', vs ++ [f], rfl, by go_num, .inr hend, Nat.le_trans hfl.out (by omega), HN'.out, by rw [← List.append_assoc]; exact HI3, HW'⟩
          | false =>
            rw [hg] at kk
            have HN : Hid (walkP F G (t - f0) f0 t = none) := by show _ = _; rw [hW.out, walkP_fail hn.out hlt (by rw [hg, Bool.and_false, Bool.and_false])]; rfl
            clear hg
            go_wp2_with fail
            refine kk.mono ?_
            rintro ev w3 ⟨rfl, hI3⟩
            go_wp2_with fail
            go_ret
            exact ⟨by rw [HN.out]; rfl, _, hI3, fun l hl => by rw [HN.out] at hl; cases hl⟩
        · have hend1 : (f : Int) + (1 + (s : Int)) > (t : Int) := by omega
          have HN : Hid (walkP F G (t - f0) f0 t = none) := by show _ = _; rw [hW.out, walkP_fail hn.out hlt (by rw [HS.out, decide_eq_false hend, Bool.false_and, Bool.and_false])]; rfl
          go_wp2_with fail
          go_ret
          exact ⟨by rw [HN.out]; rfl, vs0 ++ vs, HP.out _ _ _ hI.out hb3, fun l hl => by rw [HN.out] at hl; cases hl⟩
    · have hI1 : ¬ (f : Int) < (t : Int) := by omega
      have HN : Hid (walkP F G (t - f0) f0 t = some vs) := by show _ = _; rw [hW.out, walkP_done hlt]; simp
      go_wp2_with fail
      go_ret
      exact ⟨by rw [HN.out]; rfl, vs0 ++ vs, hI.out, fun l hl => by rw [HN.out] at hl; cases hl; rfl⟩
end Go.Proofs.YtnenggkgfhgcnaaGreatDoor

/- Package mem: what findHeads, holdFields and carded do at each object, by contracts. -/
namespace Go.Proofs.YtnenggkgfhgcnaaGreatDoor
open Go.RowKit

/-- A memory that is looked through: its cells and rows. -/
structure Looked (p b bc nW nC cW cC : Nat) (h ol c u t ot : Int) (vR vK vI : Value) (F : Nat → Int) (C : Nat → Bool) (w : World) : Prop where
  mem : MemAt p h ol c (.slice (some ⟨b, 0, none⟩) nW cW) u t ot vR vK vI (.slice (some ⟨bc, 0, none⟩) nC cC) w
  fits : Fits h ol c nW nC u t ot
  cap : nW ≤ cW
  words : ∀ i, i < nW → w.cell? ⟨b, i, none⟩ = some (.int .u64 (F i))
  cards : ∀ i, i < nC → w.cell? ⟨bc, i, none⟩ = some (.bool (C i))
  range : ∀ i, i < nW → 0 ≤ F i ∧ F i < 18446744073709551616
theorem Looked.below {p b bc nW nC cW cC : Nat} {h ol c u t ot : Int} {vR vK vI : Value} {F : Nat → Int} {C : Nat → Bool} {w w' : World} (L : Looked p b bc nW nC cW cC h ol c u t ot vR vK vI F C w) (hb : Below w.heap.size w w') : Looked p b bc nW nC cW cC h ol c u t ot vR vK vI F C w' where
  mem := L.mem.below hb (lt_of_cell L.mem.c0)
  fits := L.fits
  cap := L.cap
  words i hi := (hb.cell (p := ⟨b, i, none⟩) (lt_of_cell (L.words i hi))).trans (L.words i hi)
  cards i hi := (hb.cell (p := ⟨bc, i, none⟩) (lt_of_cell (L.cards i hi))).trans (L.cards i hi)
  range := L.range
/-- A block of bools, of one's own: true where one of these numbers stands. -/
def MarksAt (w : World) (bh nH : Nat) (vs : List Nat) : Prop := ∃ cur : Array Value, w.heap[bh]? = some (.cells cur 4) ∧ cur.size = nH ∧ ∀ i, i < nH → cur[i]? = some (.bool (decide (i ∈ vs)))
theorem MarksAt.heads {w : World} {bh nH : Nat} {vs : List Nat} (h : MarksAt w bh nH vs) : HeadsAt w bh nH (fun i => decide (i ∈ vs)) := fun i hi => by
  obtain ⟨cur, h1, _, h3⟩ := h
  rw [cell_of_row _ _ _ _ _ _ h1]
  exact h3 i hi
theorem MarksAt.below {w w' : World} {bh nH : Nat} {vs : List Nat} (h : MarksAt w bh nH vs) (hb : Below w.heap.size w w') : MarksAt w' bh nH vs := by
  obtain ⟨cur, h1, h2⟩ := h
  exact ⟨cur, (hb.block bh (lt_of_heap h1)).trans h1, h2⟩
theorem MarksAt.lt {w : World} {bh nH : Nat} {vs : List Nat} (h : MarksAt w bh nH vs) : bh < w.heap.size := by
  obtain ⟨cur, h1, _⟩ := h
  exact lt_of_heap h1
theorem MarksAt.set {w : World} {bh nH f : Nat} {vs : List Nat} (h : MarksAt w bh nH vs) (hf : f < nH) : MarksAt (w.setCell ⟨bh, f, none⟩ (.bool true)) bh nH (vs ++ [f]) := by
  obtain ⟨cur, h1, h2, h3⟩ := h
  refine ⟨_, heap_set_same h1, by simp [h2], fun i hi => ?_⟩
  rw [Array.getElem?_setIfInBounds]
  by_cases e : f = i
  · subst e
    simp [h2, hf]
  · rw [if_neg e, h3 i hi]
    congr 2
    simp
    intro e'
    exact absurd e'.symm e
/-- How findHeads and holdFields stand: memory as it was, marks, and the two captured variables. -/
structure FH (w0 : World) (p bh q1 q2 nW : Nat) (vs : List Nat) (w : World) : Prop where
  below : Below w0.heap.size w0 w
  marks : MarksAt w bh nW vs
  lo : w0.heap.size ≤ bh
  c1 : w.cell? ⟨q1, 0, none⟩ = some (.slice (some ⟨bh, 0, none⟩) nW nW)
  c2 : w.cell? ⟨q2, 0, none⟩ = some (.pointer (some ⟨p, 0, none⟩))
  n1 : q1 ≠ bh
  n2 : q2 ≠ bh
theorem FH.keep {w0 : World} {p bh q1 q2 nW : Nat} {vs : List Nat} {w w' : World} (H : FH w0 p bh q1 q2 nW vs w) (hb : Below w.heap.size w w') : FH w0 p bh q1 q2 nW vs w' :=
  ⟨H.below.trans (hb.mono H.below.size), H.marks.below hb, H.lo, (hb.cell (p := ⟨q1, 0, none⟩) (lt_of_cell H.c1)).trans H.c1, (hb.cell (p := ⟨q2, 0, none⟩) (lt_of_cell H.c2)).trans H.c2, H.n1, H.n2⟩
theorem FH.set {w0 : World} {p bh q1 q2 nW f : Nat} {vs : List Nat} {w : World} (H : FH w0 p bh q1 q2 nW vs w) (hf : f < nW) : FH w0 p bh q1 q2 nW (vs ++ [f]) (w.setCell ⟨bh, f, none⟩ (.bool true)) :=
  ⟨H.below.setCell H.lo _, H.marks.set hf, H.lo, (World.cell?_of_block (a := ⟨q1, 0, none⟩) (heap_set _ _ _ _ _ H.n1)).trans H.c1, (World.cell?_of_block (a := ⟨q2, 0, none⟩) (heap_set _ _ _ _ _ H.n2)).trans H.c2, H.n1, H.n2⟩

/-- What findHeads asks of a header. -/
def G1 (F : Nat → Int) (h : Int) (f : Nat) : Bool := decide (F f / 16384 % 2 = 0) && (decide ((f : Int) < 2 * h) || decide (F f / 1024 % 16 = 0))
set_option maxHeartbeats 2000000 in
theorem findHeads_one (w0 : World) (p bh q1 q2 nW f : Nat) (h : Int) (h0 : 0 ≤ h) (h1 : h ≤ 65536) (hp : p < w0.heap.size) (ch : w0.cell? ⟨p, 0, none⟩ = some (.int .i64 h)) (vs : List Nat) (F : Nat → Int) (hf : f < nW) (w : World) (H : FH w0 p bh q1 q2 nW vs w) :
    Calls Tryz.prog 104 (#[.int .i64 (f : Int), headV (F f)] ++ #[.pointer (some ⟨q1, 0, none⟩), .pointer (some ⟨q2, 0, none⟩)]) w fun ev w' => ev = .returned (.bool (G1 F h f)) ∧ FH w0 p bh q1 q2 nW (vs ++ [f]) w' := by
  show Calls Tryz.prog 104 #[.int .i64 (f : Int), .agg #[.int .i64 (F f / 4 % 256), .int .i64 (F f / 1024 % 16), .int .i64 (F f / 16384 % 2), .int .i64 (F f / 65536)], .pointer (some ⟨q1, 0, none⟩), .pointer (some ⟨q2, 0, none⟩)] w _
  unfold G1
  generalize F f / 1024 % 16 = ag
  generalize F f / 16384 % 2 = mk
  generalize hgk : F f / 4 % 256 = kd
  have hkd0 : 0 ≤ kd := by rw [← hgk]; exact Int.emod_nonneg _ (by decide)
  clear hgk
  generalize F f / 65536 = sz
  have hI0 : (0 : Int) ≤ (f : Int) := by omega
  have hI1 : (f : Int) < (nW : Int) := by omega
  have HH := toHid H
  obtain ⟨cur, m1, m2, m3⟩ := H.marks
  have k0 := (cell_of_row _ _ f _ _ _ m1).trans (m3 f hf)
  have kf : w.frozen? ⟨bh, f, none⟩ = false := by simp [World.frozen?, m1]
  have k1 := H.c1
  have k2 := H.c2
  have n1 := H.n1
  have n2 := H.n2
  have n1' : bh ≠ q1 := fun e => n1 e.symm
  have n2' : bh ≠ q2 := fun e => n2 e.symm
  have l1 := lt_of_cell k1
  have l2 := lt_of_cell k2
  have l3 := lt_of_heap m1
  have HB := toHid H.below
  have hlo := H.lo
  clear m1 m2 m3 H cur
  have fh : ∀ T : TypeId, FH w0 p bh q1 q2 nW (vs ++ [f]) ((w.setCell ⟨bh, f, none⟩ (.bool true)).alloc (.cells #[.int .i64 kd, .int .i64 ag, .int .i64 mk, .int .i64 sz] T)) := fun T => (HH.out.set hf).keep ((Below.refl _ _).alloc (Nat.le_refl _) _)
  have HFH := toHid fh
  clear fh
  by_cases hm : mk = 0
  · subst hm
    have ko := oldFrom_any p h h0 h1 _ (((HFH.out 92).below.cell (p := ⟨p, 0, none⟩) hp).trans ch)
    by_cases hy : (f : Int) < 2 * h
    · rw [decide_eq_true hy]
      go_enter Tryz.func104, Tryz.ntmps104
      go_wp2_with fail
      refine ko.mono ?_
      rintro ev w1 ⟨rfl, hq⟩
      rw [hq]
      clear hq w1
      go_wp2_with fail
      go_ret
      exact ⟨rfl, HFH.out _⟩
    · rw [decide_eq_false hy, Bool.false_or]
      by_cases ha : ag = 0
      · subst ha
        go_enter Tryz.func104, Tryz.ntmps104
        go_wp2_with fail
        refine ko.mono ?_
        rintro ev w1 ⟨rfl, hq⟩
        rw [hq]
        clear hq w1
        go_wp2_with fail
        go_ret
        exact ⟨rfl, HFH.out _⟩
      · have hz : (ag == 0) = false := by rw [beq_eq_false_iff_ne]; exact ha
        rw [decide_eq_false ha]
        go_enter Tryz.func104, Tryz.ntmps104
        go_wp2_with fail
        refine ko.mono ?_
        rintro ev w1 ⟨rfl, hq⟩
        rw [hq]
        clear hq w1
        go_wp2_with fail
        go_ret
        exact ⟨by rw [show decide ((f : Int) < 2 * h) = false from decide_eq_false (by omega)]; rfl, HFH.out _⟩
  · have hz : (mk == 0) = false := by rw [beq_eq_false_iff_ne]; exact hm
    rw [decide_eq_false hm, Bool.false_and]
    go_enter Tryz.func104, Tryz.ntmps104
    go_wp2_with fail
    go_ret
    exact ⟨rfl, HFH.out _⟩

/-- The fields of the object at f. -/
def fieldsP (F : Nat → Int) (f : Nat) : List Int := (List.range (szN (F f))).map fun j => F (f + 1 + j)
set_option maxHeartbeats 2000000 in
theorem fields_any (p b nW cW f s : Nat) (kd ag mk : Int) (h ol c u t ot : Int) (vR vK vI vC : Value) (hs : s ≤ 4096) (hn : nW ≤ 300000) (hf : f + 1 + s ≤ nW) (hc : nW ≤ cW) (w : World) (M : MemAt p h ol c (.slice (some ⟨b, 0, none⟩) nW cW) u t ot vR vK vI vC w) :
    Calls Tryz.prog 83 #[.pointer (some ⟨p, 0, none⟩), .int .i64 (f : Int), .agg #[.int .i64 kd, .int .i64 ag, .int .i64 mk, .int .i64 (s : Int)]] w fun ev w' => ∃ ao cap, ev = .returned (.slice ao s cap) ∧ s ≤ cap ∧ (0 < s → ao = some ⟨b, f + 1, none⟩) ∧ Below w.heap.size w w' := by
  have c3 := M.c3
  have lp := lt_of_cell c3
  have e5 : ((f : Int) + (1 + (s : Int))).toNat - (f + 1) = s := by omega
  have s0 : (0 : Int) ≤ (f : Int) + 1 := by omega
  have s1 : (f : Int) + 1 ≤ (f : Int) + (1 + (s : Int)) := by omega
  have s2 : (f : Int) + (1 + (s : Int)) ≤ (cW : Int) := by omega
  have e1 : IntKind.i64.wrap ((f : Int) + 1) = (f : Int) + 1 := wrapI _ (by omega) (by omega)
  have e2 : IntKind.i64.wrap ((f : Int) + (1 + (s : Int))) = (f : Int) + (1 + (s : Int)) := wrapI _ (by omega) (by omega)
  have kw : Hid (∀ w, Calls Tryz.prog 49 #[.agg #[.int .i64 kd, .int .i64 ag, .int .i64 mk, .int .i64 (s : Int)]] w fun ev w' => ev = .returned (.int .i64 (1 + (s : Int))) ∧ Below w.heap.size w w') := fun w => words_any kd ag mk s (by omega) (by omega) w
  clear M
  go_enter Tryz.func83, Tryz.ntmps83
  go_wp2_with fail
  obtain ⟨w1, hw1⟩ : ∃ w1, w1 = w.alloc (.cells #[.int .i64 kd, .int .i64 ag, .int .i64 mk, .int .i64 (s : Int)] 92) := ⟨_, rfl⟩
  rw [← hw1]
  have hb1 : Below w.heap.size w w1 := by rw [hw1]; exact (Below.refl _ _).alloc (Nat.le_refl _) _
  have x3 := (hb1.cell (p := ⟨p, 3, none⟩) lp).trans c3
  obtain ⟨r0, r1, r2, r3, _⟩ := head_block (w := w1) (b := w.heap.size) (by rw [hw1]; exact heap_alloc_new w _)
  have l1 : w.heap.size < w1.heap.size := lt_of_cell r0
  clear hw1 c3
  have HF : Hid (∀ W, Below w1.heap.size w1 W → W.cell? ⟨p, 3, none⟩ = some (.slice (some ⟨b, 0, none⟩) nW cW) ∧ W.cell? ⟨w.heap.size, 0, none⟩ = some (.int .i64 kd) ∧ W.cell? ⟨w.heap.size, 1, none⟩ = some (.int .i64 ag) ∧ W.cell? ⟨w.heap.size, 2, none⟩ = some (.int .i64 mk) ∧ W.cell? ⟨w.heap.size, 3, none⟩ = some (.int .i64 (s : Int))) := fun W hW => ⟨(hW.cell (p := ⟨p, 3, none⟩) (lt_of_cell x3)).trans x3, (hW.cell (p := ⟨w.heap.size, 0, none⟩) l1).trans r0, (hW.cell (p := ⟨w.heap.size, 1, none⟩) l1).trans r1, (hW.cell (p := ⟨w.heap.size, 2, none⟩) l1).trans r2, (hW.cell (p := ⟨w.heap.size, 3, none⟩) l1).trans r3⟩
  go_region_held3 (fun W => W.cell? ⟨p, 3, none⟩ = some (.slice (some ⟨b, 0, none⟩) nW cW) ∧ W.cell? ⟨w.heap.size, 0, none⟩ = some (.int .i64 kd) ∧ W.cell? ⟨w.heap.size, 1, none⟩ = some (.int .i64 ag) ∧ W.cell? ⟨w.heap.size, 2, none⟩ = some (.int .i64 mk) ∧ W.cell? ⟨w.heap.size, 3, none⟩ = some (.int .i64 (s : Int))) (first | go_keep | with_reducible exact HF.out _ hb3) ((go_at_call 49; refine (kw.out _).mono ?_; rintro ev w2 ⟨rfl, hb2⟩; have hb3 : Below w1.heap.size w1 w2 := ((Below.refl _ _).drew).trans (hb2.mono (by simp))))
  all_goals go_wp2_with fail
  all_goals go_ret
  · exact ⟨_, _, rfl, by omega, fun h => by omega, hb1.trans (hb3.mono hb1.size)⟩
  · exact ⟨_, _, rfl, by omega, fun _ => rfl, hb1.trans (hb3.mono hb1.size)⟩

theorem fieldsP_at {F : Nat → Int} {f j : Nat} (h : j < szN (F f)) : (fieldsP F f)[j]? = some (F (f + 1 + j)) := by simp [fieldsP, h]
theorem fieldsP_len (F : Nat → Int) (f : Nat) : (fieldsP F f).length = szN (F f) := by simp [fieldsP]
theorem fieldsP_row {F : Nat → Int} {f b nW : Nat} {ao : Option Addr} {cap : Nat} {w : World} (hf : f + 1 + szN (F f) ≤ nW) (hw : ∀ i, i < nW → w.cell? ⟨b, i, none⟩ = some (.int .u64 (F i))) (hc : szN (F f) ≤ cap) (ha : 0 < szN (F f) → ao = some ⟨b, f + 1, none⟩) : RowV w (.slice ao (fieldsP F f).length cap) (fieldsP F f).length (wordsV (fieldsP F f)) := by
  rw [fieldsP_len]
  refine ⟨ao, cap, rfl, hc, fun h => ⟨b, f + 1, ha h, lt_of_cell (hw f (by omega)), fun j u hj => ?_⟩⟩
  have hl : j < szN (F f) := by
    have := (List.getElem?_eq_some_iff.1 hj).1
    rw [lenV, fieldsP_len] at this
    exact this
  have e : (wordsV (fieldsP F f))[j]? = some (.int .u64 (F (f + 1 + j))) := words_at (fieldsP_at hl)
  rw [e] at hj
  cases hj
  exact hw _ (by omega)
theorem fieldsP_u64 {F : Nat → Int} {f nW : Nat} (hf : f + 1 + szN (F f) ≤ nW) (hr : ∀ i, i < nW → 0 ≤ F i ∧ F i < 18446744073709551616) : U64 (fieldsP F f) := fun x hx => by
  obtain ⟨j, hj⟩ := List.mem_iff_getElem?.1 hx
  have hl : j < szN (F f) := by
    have := (List.getElem?_eq_some_iff.1 hj).1
    rw [fieldsP_len] at this
    exact this
  rw [fieldsP_at hl] at hj
  cases hj
  exact hr _ (by omega)
/-- What holdFields asks of an object. -/
def G2 (F : Nat → Int) (nW : Nat) (hb : Nat → Bool) (f : Nat) : Bool := decide (F f / 4 % 256 < 8) || (fieldsP F f).all (fieldB nW hb)
set_option maxHeartbeats 4000000 in
theorem holdFields_one (a : Nat → Addr) (w0 : World) (p b bc bh q1 q2 nW nC cW cC f : Nat) (h ol c u t ot : Int) (vR vK vI : Value) (F : Nat → Int) (C : Nat → Bool) (L : Looked p b bc nW nC cW cC h ol c u t ot vR vK vI F C w0) (E : WErr a w0) (vs : List Nat) (hh : headB (F f) = true) (hf : f + 1 + szN (F f) ≤ nW) (w : World) (H : FH w0 p bh q1 q2 nW vs w) :
    Calls Tryz.prog 105 (#[.int .i64 (f : Int), headV (F f)] ++ #[.pointer (some ⟨q1, 0, none⟩), .pointer (some ⟨q2, 0, none⟩)]) w fun ev w' => ev = .returned (.bool (G2 F nW (fun i => decide (i ∈ vs)) f)) ∧ FH w0 p bh q1 q2 nW vs w' := by
  have hn : nW ≤ 300000 := by have := L.fits.w; have := L.fits.nums; unfold numsOK at this; omega
  have hd2 : F f / 65536 ≤ 4096 := by unfold headB at hh; have := of_decide_eq_true hh; exact this.2.2
  have hx := L.range f (by omega)
  obtain ⟨s, hs⟩ : ∃ s : Nat, (s : Int) = F f / 65536 := ⟨(F f / 65536).toNat, by omega⟩
  have HS : Hid (szN (F f) = s) := by show _ = _; unfold szN; omega
  show Calls Tryz.prog 105 #[.int .i64 (f : Int), .agg #[.int .i64 (F f / 4 % 256), .int .i64 (F f / 1024 % 16), .int .i64 (F f / 16384 % 2), .int .i64 (F f / 65536)], .pointer (some ⟨q1, 0, none⟩), .pointer (some ⟨q2, 0, none⟩)] w _
  rw [← hs]
  have hG : G2 F nW (fun i => decide (i ∈ vs)) f = (decide (F f / 4 % 256 < 8) || (fieldsP F f).all (fieldB nW (fun i => decide (i ∈ vs)))) := rfl
  rw [hG]
  clear hG
  have hs1 : s ≤ 4096 := by omega
  clear hs hd2 hx
  generalize F f / 1024 % 16 = ag
  generalize F f / 16384 % 2 = mk
  generalize hgk : F f / 4 % 256 = kd
  have hkd0 : 0 ≤ kd := by rw [← hgk]; exact Int.emod_nonneg _ (by decide)
  clear hgk
  have k1 := H.c1
  have k2 := H.c2
  have l1 := lt_of_cell k1
  have l2 := lt_of_cell k2
  have HH := toHid H
  have HL := toHid L
  have HE := toHid E
  by_cases hr : kd < 8
  · rw [decide_eq_true hr, Bool.true_or]
    have kr : ∀ w, Calls Tryz.prog 47 #[.int .i64 kd] w fun ev w' => ev = .returned (.bool true) ∧ w' = w := fun w => by
      have h := raw_any kd hkd0 w
      rw [decide_eq_true hr] at h
      exact h
    have HR := toHid kr
    clear kr H L E
    go_enter Tryz.func105, Tryz.ntmps105
    go_wp2_with fail
    go_quiet ((go_at_call 47; exact Calls.quiet_of_same (HR.out _)))
    go_wp2_with fail
    go_ret
    exact ⟨rfl, HH.out.keep (below_drewN ((Below.refl _ _).alloc (Nat.le_refl _) _))⟩
  · rw [decide_eq_false hr, Bool.false_or]
    have kr : ∀ w, Calls Tryz.prog 47 #[.int .i64 kd] w fun ev w' => ev = .returned (.bool false) ∧ w' = w := fun w => by
      have h := raw_any kd hkd0 w
      rw [decide_eq_false hr] at h
      exact h
    have HR := toHid kr
    have kf : Hid (∀ W, Below w.heap.size w W → Calls Tryz.prog 83 #[.pointer (some ⟨p, 0, none⟩), .int .i64 (f : Int), .agg #[.int .i64 kd, .int .i64 ag, .int .i64 mk, .int .i64 (s : Int)]] W fun ev w' => ∃ ao cap, ev = .returned (.slice ao s cap) ∧ s ≤ cap ∧ (0 < s → ao = some ⟨b, f + 1, none⟩) ∧ Below W.heap.size W w') := fun W hW => fields_any p b nW cW f s kd ag mk h ol c u t ot vR vK vI _ (by omega) hn (by rw [← HS.out]; exact hf) HL.out.cap W (HL.out.mem.below (HH.out.keep hW).below (lt_of_cell HL.out.mem.c0))
    have ka : Hid (∀ W ao cap, Below w.heap.size w W → s ≤ cap → (0 < s → ao = some ⟨b, f + 1, none⟩) → Calls Tryz.prog 48 #[.slice (some ⟨bh, 0, none⟩) nW nW, .slice ao s cap] W fun ev w' => ev = .returned (.bool ((fieldsP F f).all (fieldB nW (fun i => decide (i ∈ vs))))) ∧ Below W.heap.size W w') := fun W ao cap hW hc ha => by
      have hk := HH.out.keep hW
      have e := holdAll_any a bh nW (fun i => decide (i ∈ vs)) hn (fieldsP F f) (by rw [fieldsP_len, HS.out]; omega) (fieldsP_u64 hf HL.out.range) ao cap W (HE.out.below hk.below) hk.marks.heads hk.marks.lt (fieldsP_row hf (HL.out.below hk.below).words (by rw [HS.out]; exact hc) (by rw [HS.out]; exact ha))
      rw [fieldsP_len, HS.out] at e
      exact e
    generalize (fieldsP F f).all (fieldB nW (fun i => decide (i ∈ vs))) = res at *
    clear kr H L E
    go_enter Tryz.func105, Tryz.ntmps105
    go_wp2_with fail
    obtain ⟨w1, hw1⟩ : ∃ w1, w1 = w.alloc (.cells #[.int .i64 kd, .int .i64 ag, .int .i64 mk, .int .i64 (s : Int)] 92) := ⟨_, rfl⟩
    rw [← hw1]
    have hb1 : Below w.heap.size w w1 := by rw [hw1]; exact (Below.refl _ _).alloc (Nat.le_refl _) _
    obtain ⟨r0, r1, r2, r3, _⟩ := head_block (w := w1) (b := w.heap.size) (by rw [hw1]; exact heap_alloc_new w _)
    have l4 : w.heap.size < w1.heap.size := lt_of_cell r0
    have x1 := (hb1.cell (p := ⟨q1, 0, none⟩) l1).trans k1
    have x2 := (hb1.cell (p := ⟨q2, 0, none⟩) l2).trans k2
    clear hw1 k1 k2
    have HF : Hid (∀ W, Below w1.heap.size w1 W → W.cell? ⟨q1, 0, none⟩ = some (.slice (some ⟨bh, 0, none⟩) nW nW) ∧ W.cell? ⟨q2, 0, none⟩ = some (.pointer (some ⟨p, 0, none⟩)) ∧ W.cell? ⟨w.heap.size, 0, none⟩ = some (.int .i64 kd) ∧ W.cell? ⟨w.heap.size, 1, none⟩ = some (.int .i64 ag) ∧ W.cell? ⟨w.heap.size, 2, none⟩ = some (.int .i64 mk) ∧ W.cell? ⟨w.heap.size, 3, none⟩ = some (.int .i64 (s : Int))) := fun W hW => ⟨(hW.cell (p := ⟨q1, 0, none⟩) (lt_of_cell x1)).trans x1, (hW.cell (p := ⟨q2, 0, none⟩) (lt_of_cell x2)).trans x2, (hW.cell (p := ⟨w.heap.size, 0, none⟩) l4).trans r0, (hW.cell (p := ⟨w.heap.size, 1, none⟩) l4).trans r1, (hW.cell (p := ⟨w.heap.size, 2, none⟩) l4).trans r2, (hW.cell (p := ⟨w.heap.size, 3, none⟩) l4).trans r3⟩
    go_region_held3 (fun W => W.cell? ⟨q1, 0, none⟩ = some (.slice (some ⟨bh, 0, none⟩) nW nW) ∧ W.cell? ⟨q2, 0, none⟩ = some (.pointer (some ⟨p, 0, none⟩)) ∧ W.cell? ⟨w.heap.size, 0, none⟩ = some (.int .i64 kd) ∧ W.cell? ⟨w.heap.size, 1, none⟩ = some (.int .i64 ag) ∧ W.cell? ⟨w.heap.size, 2, none⟩ = some (.int .i64 mk) ∧ W.cell? ⟨w.heap.size, 3, none⟩ = some (.int .i64 (s : Int))) (first | go_keep | with_reducible exact HF.out _ hb4 | with_reducible exact HF.out _ hb3) (first
      | (go_at_call 47; refine (HR.out _).mono ?_; rintro ev w' ⟨rfl, hq⟩; rw [hq]; clear hq w')
      | (go_at_call 83; refine (kf.out _ (hb1.drew)).mono ?_; rintro ev w2 ⟨ao, cap, rfl, hcap, hao, hb2⟩; have hb3 : Below w1.heap.size w1 w2 := ((Below.refl _ _).drew).trans (hb2.mono (by simp)))
      | (go_at_call 48; refine (ka.out _ _ _ (hb1.trans (hb3.mono hb1.size)) hcap hao).mono ?_; rintro ev w4 ⟨rfl, hb5⟩; have hb4 : Below w1.heap.size w1 w4 := hb3.trans (hb5.mono hb3.size)))
    all_goals go_wp2_with fail
    all_goals go_ret
    all_goals exact ⟨rfl, HH.out.keep (hb1.trans (hb4.mono hb1.size))⟩
end Go.Proofs.YtnenggkgfhgcnaaGreatDoor
