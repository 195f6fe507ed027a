/- Package lex: a token that is an int, a str, an op; any token. -/
import Derived.Test.YtpflpbfnifpchaaGreatDoorLexL
namespace Go.Proofs.YtpflpbfnifpchaaGreatDoor
open Go.RowKit

set_option maxHeartbeats 1000000 in
theorem token_int (B p i : Nat) (s : ByteArray) (op : List Int) (n : Nat) (tk : List Value) (a0 : Addr) (w : World) (h : RS B p s i op n tk w) (E : Env B a0 w) (hlt : i < s.size) (hn : n ≤ 100000)
    (hsm : smallB (s[i].toNat : Int) = false) (hcp : capitalB (s[i].toNat : Int) = false) (hdg : digitB (s[i].toNat : Int) = true) :
    Calls Tryz.prog 29 #[.pointer (some ⟨p, 0, none⟩)] w fun ev w' => TPost B p s i op n tk a0 w ev w' := by
  have hA := h.hA
  obtain ⟨hs, hat, c0, c1, f1⟩ := h.hA
  have hI : (i : Int) < (s.size : Int) := by omega
  have hI0 : (0 : Int) ≤ (i : Int) := by omega
  have hB : B ≤ w.heap.size := by have := h.hp; have := h.hpl; omega
  obtain ⟨tp, vp, hv⟩ := E.range
  go_enter Tryz.func29, Tryz.ntmps29
  go_wp2_with (first | (go_at_call 50; refine (small_any _ _).mono ?_; rintro e w' ⟨rfl, hww⟩; rw [hww]; clear hww) | (go_at_call 51; refine (capital_any _ _).mono ?_; rintro e w' ⟨rfl, hww⟩; rw [hww]; clear hww) | (go_at_call 53; refine (digit_any _ _).mono ?_; rintro e w' ⟨rfl, hww⟩; rw [hww]; clear hww))
  refine (digits_walk B p i s a0 w hA hlt hdg h.hpl h.hp E.bg E.hg tp vp E.br hv).mono ?_
  intro ev w1 hq
  unfold DPost at hq
  cases hna : intAt s i with
  | none =>
    rw [hna] at hq
    have HN : Hid (tokAt s i = Option.none) := show tokAt s i = Option.none by simp only [tokAt, hlt, dif_pos, hsm, hcp, Bool.or_self, Bool.false_eq_true, if_false, hdg, if_true, hna, Option.map_none]
    clear hna
    obtain ⟨b, rfl, t1, t2, t3⟩ := hq
    go_wp2
    exact ⟨rfl, TPost.none HN.out ⟨b, rfl, t1, t2, t3⟩⟩
  | some x =>
    obtain ⟨t, j⟩ := x
    rw [hna] at hq
    have HN : Hid (tokAt s i = Option.some (kInt, t, j)) := show tokAt s i = Option.some (kInt, t, j) by simp only [tokAt, hlt, dif_pos, hsm, hcp, Bool.or_self, Bool.false_eq_true, if_false, hdg, if_true, hna, Option.map_some]
    clear hna
    obtain ⟨rfl, hwt, hj⟩ := hq
    have h1 := h.went hwt hj
    have hb1 := hwt.below h.hp hB
    have hB1 : B ≤ w1.heap.size := Nat.le_trans hB hb1.size
    go_wp2_with fail
    refine (add_any B p s j op n tk _ _ _ i h1 hB1 hn).mono ?_
    rintro ev w2 ⟨rfl, h2, hb2⟩
    go_wp2_with fail
    first | go_end0 | refine bodyPost_ret (results_none rfl _ _ _) rfl ?_
    exact TPost.some HN.out h2 (hb1.trans hb2) hj

set_option maxHeartbeats 1000000 in
theorem token_str (B p i : Nat) (s : ByteArray) (op : List Int) (n : Nat) (tk : List Value) (a0 : Addr) (w : World) (h : RS B p s i op n tk w) (E : Env B a0 w) (hlt : i < s.size) (hn : n ≤ 100000)
    (hsm : smallB (s[i].toNat : Int) = false) (hcp : capitalB (s[i].toNat : Int) = false) (hdg : digitB (s[i].toNat : Int) = false) (hq34 : ((s[i].toNat : Int) == 34) = true) :
    Calls Tryz.prog 29 #[.pointer (some ⟨p, 0, none⟩)] w fun ev w' => TPost B p s i op n tk a0 w ev w' := by
  have hA := h.hA
  obtain ⟨hs, hat, c0, c1, f1⟩ := h.hA
  have hI : (i : Int) < (s.size : Int) := by omega
  have hI0 : (0 : Int) ≤ (i : Int) := by omega
  have hB : B ≤ w.heap.size := by have := h.hp; have := h.hpl; omega
  go_enter Tryz.func29, Tryz.ntmps29
  go_wp2_with (first | (go_at_call 50; refine (small_any _ _).mono ?_; rintro e w' ⟨rfl, hww⟩; rw [hww]; clear hww) | (go_at_call 51; refine (capital_any _ _).mono ?_; rintro e w' ⟨rfl, hww⟩; rw [hww]; clear hww) | (go_at_call 53; refine (digit_any _ _).mono ?_; rintro e w' ⟨rfl, hww⟩; rw [hww]; clear hww))
  refine (quoted_any B p i s a0 w hA hlt h.hpl h.hp E.bg E.hg).mono ?_
  intro ev w1 hq
  unfold QPost at hq
  cases hna : strAt s i with
  | none =>
    rw [hna] at hq
    have HN : Hid (tokAt s i = Option.none) := show tokAt s i = Option.none by simp only [tokAt, hlt, dif_pos, hsm, hcp, Bool.or_self, Bool.false_eq_true, if_false, hdg, hq34, if_true, hna, Option.map_none]
    clear hna
    obtain ⟨b, rfl, t1, t2, t3⟩ := hq
    go_wp2
    exact ⟨rfl, TPost.none HN.out ⟨b, rfl, t1, t2, t3⟩⟩
  | some x =>
    obtain ⟨t, j⟩ := x
    rw [hna] at hq
    have HN : Hid (tokAt s i = Option.some (kStr, strOfNums t, j)) := show tokAt s i = Option.some (kStr, strOfNums t, j) by simp only [tokAt, hlt, dif_pos, hsm, hcp, Bool.or_self, Bool.false_eq_true, if_false, hdg, hq34, if_true, hna, Option.map_some]
    clear hna
    obtain ⟨rfl, hwt, hj⟩ := hq
    have h1 := h.went hwt hj
    have hb1 := hwt.below h.hp hB
    have hB1 : B ≤ w1.heap.size := Nat.le_trans hB hb1.size
    go_wp2_with fail
    refine (add_any B p s j op n tk _ _ _ i h1 hB1 hn).mono ?_
    rintro ev w2 ⟨rfl, h2, hb2⟩
    go_wp2_with fail
    first | go_end0 | refine bodyPost_ret (results_none rfl _ _ _) rfl ?_
    exact TPost.some HN.out h2 (hb1.trans hb2) hj

set_option maxHeartbeats 1000000 in
theorem token_op (B p i : Nat) (s : ByteArray) (op : List Int) (n : Nat) (tk : List Value) (a0 : Addr) (w : World) (h : RS B p s i op n tk w) (E : Env B a0 w) (hlt : i < s.size) (hn : n ≤ 100000)
    (hsm : smallB (s[i].toNat : Int) = false) (hcp : capitalB (s[i].toNat : Int) = false) (hdg : digitB (s[i].toNat : Int) = false) (hq34 : ((s[i].toNat : Int) == 34) = false) :
    Calls Tryz.prog 29 #[.pointer (some ⟨p, 0, none⟩)] w fun ev w' => TPost B p s i op n tk a0 w ev w' := by
  have hA := h.hA
  obtain ⟨hs, hat, c0, c1, f1⟩ := h.hA
  have hI : (i : Int) < (s.size : Int) := by omega
  have hI0 : (0 : Int) ≤ (i : Int) := by omega
  have hB : B ≤ w.heap.size := by have := h.hp; have := h.hpl; omega
  obtain ⟨tt, fr, hw⟩ := E.ops
  go_enter Tryz.func29, Tryz.ntmps29
  go_wp2_with (first | (go_at_call 50; refine (small_any _ _).mono ?_; rintro e w' ⟨rfl, hww⟩; rw [hww]; clear hww) | (go_at_call 51; refine (capital_any _ _).mono ?_; rintro e w' ⟨rfl, hww⟩; rw [hww]; clear hww) | (go_at_call 53; refine (digit_any _ _).mono ?_; rintro e w' ⟨rfl, hww⟩; rw [hww]; clear hww))
  refine (op_walk B p i s a0 w hA hlt h.hpl h.hp E.hg tt fr hw).mono ?_
  intro ev w1 hq
  unfold OPost at hq
  cases hna : opTok s i with
  | none =>
    rw [hna] at hq
    have HN : Hid (tokAt s i = Option.none) := show tokAt s i = Option.none by simp only [tokAt, hlt, dif_pos, hsm, hcp, Bool.or_self, Bool.false_eq_true, if_false, hdg, hq34, hna, Option.map_none]
    clear hna
    obtain ⟨b, rfl, t1, t2, t3⟩ := hq
    go_wp2
    exact ⟨rfl, TPost.none HN.out ⟨b, rfl, t1, t2, t3⟩⟩
  | some x =>
    obtain ⟨t, j⟩ := x
    rw [hna] at hq
    have HN : Hid (tokAt s i = Option.some (kOp, t, j)) := show tokAt s i = Option.some (kOp, t, j) by simp only [tokAt, hlt, dif_pos, hsm, hcp, Bool.or_self, Bool.false_eq_true, if_false, hdg, hq34, hna, Option.map_some]
    clear hna
    obtain ⟨rfl, hwt, hj⟩ := hq
    have h1 := h.went hwt hj
    have hb1 := hwt.below h.hp hB
    have hB1 : B ≤ w1.heap.size := Nat.le_trans hB hb1.size
    go_wp2_with fail
    refine (add_any B p s j op n tk _ _ _ i h1 hB1 hn).mono ?_
    rintro ev w2 ⟨rfl, h2, hb2⟩
    go_wp2_with fail
    first | go_end0 | refine bodyPost_ret (results_none rfl _ _ _) rfl ?_
    exact TPost.some HN.out h2 (hb1.trans hb2) hj

theorem token_any (B p i : Nat) (s : ByteArray) (op : List Int) (n : Nat) (tk : List Value) (a0 : Addr) (w : World) (h : RS B p s i op n tk w) (E : Env B a0 w) (hlt : i < s.size) (hn : n ≤ 100000) :
    Calls Tryz.prog 29 #[.pointer (some ⟨p, 0, none⟩)] w fun ev w' => TPost B p s i op n tk a0 w ev w' := by
  cases hsm : smallB (s[i].toNat : Int)
  · cases hcp : capitalB (s[i].toNat : Int)
    · cases hdg : digitB (s[i].toNat : Int)
      · cases hq : ((s[i].toNat : Int) == 34)
        · exact token_op B p i s op n tk a0 w h E hlt hn hsm hcp hdg hq
        · exact token_str B p i s op n tk a0 w h E hlt hn hsm hcp hdg hq
      · exact token_int B p i s op n tk a0 w h E hlt hn hsm hcp hdg
    · exact token_capital B p i s op n tk a0 w h E hlt hn hsm hcp
  · exact token_small B p i s op n tk a0 w h E hlt hn hsm

theorem strFrom_lt (s : ByteArray) : ∀ n i acc l j, strFrom s n i acc = some (l, j) → i < j
  | 0, _, _, _, _, h => by simp [strFrom] at h
  | n + 1, i, acc, l, j, h => by
    unfold strFrom at h
    split at h
    · split at h
      · simp at h; omega
      · split at h
        · cases h
        · split at h
          · cases h
          · split at h
            · cases he : escAt s (i + 1) with
              | none => rw [he] at h; cases h
              | some x =>
                obtain ⟨v, k⟩ := x
                rw [he] at h
                have := escAt_le s (i + 1) k v he
                have := strFrom_lt s n k _ l j h
                omega
            · have := strFrom_lt s n (i + 1) _ l j h
              omega
    · cases h
theorem opFrom_lt (s : ByteArray) (i : Nat) : ∀ n k t j, k + n = 21 → opFrom s i n k = some (t, j) → i < j
  | 0, _, _, _, _, h => by simp [opFrom] at h
  | n + 1, k, t, j, hk, h => by
    unfold opFrom at h
    split at h
    · simp at h
      have : 1 ≤ (opAt k).size := by
        have hk' : k < 21 := by omega
        clear hk h
        iterate 21 (rcases k with _ | k; · decide)
        omega
      omega
    · exact opFrom_lt s i n (k + 1) t j (by omega) h
theorem tokAt_lt {s : ByteArray} {i j : Nat} {k t : ByteArray} (h : tokAt s i = some (k, t, j)) : i < j := by
  unfold tokAt at h
  split at h
  · rename_i hlt
    split at h
    · cases hn : nameAt s i with
      | none => rw [hn] at h; cases h
      | some x =>
        rw [hn] at h
        simp at h
        have hx : x.2.2 = nameTo s i := by
          unfold nameAt at hn
          rw [dif_pos hlt] at hn
          split at hn
          · simp at hn; rw [← hn]
          · split at hn
            · cases hn
            · split at hn
              · cases hn
              · simp at hn; rw [← hn]
        have := (passTo_le nameB s (s.size - (i + 1)) (i + 1)).1
        unfold nameTo at hx
        omega
    · split at h
      · rename_i hdg
        cases hn : intAt s i with
        | none => rw [hn] at h; cases h
        | some x =>
          rw [hn] at h
          simp at h
          have hx : x.2 = digitsTo s i := by
            unfold intAt at hn
            rw [dif_pos hlt] at hn
            split at hn
            · cases hn
            · split at hn
              · simp at hn; rw [← hn]
              · cases hn
          have : i + 1 ≤ digitsTo s i := by
            unfold digitsTo
            rw [passTo_go hlt hdg]
            exact (passTo_le digitB s _ (i + 1)).1
          omega
      · split at h
        · cases hn : strAt s i with
          | none => rw [hn] at h; cases h
          | some x =>
            obtain ⟨l, j'⟩ := x
            rw [hn] at h
            simp at h
            have := strFrom_lt s _ _ _ _ _ hn
            omega
        · cases hn : opTok s i with
          | none => rw [hn] at h; cases h
          | some x =>
            obtain ⟨t', j'⟩ := x
            rw [hn] at h
            simp at h
            have := opFrom_lt s i 21 0 _ _ rfl hn
            omega
  · cases h
end Go.Proofs.YtpflpbfnifpchaaGreatDoor
