/- The law WordBytes by a walk. -/
import Derived.Test.YtlfhjgiodoigbaaDoorWordG
namespace Go.Proofs.YtlfhjgiodoigbaaDoor
open Go.RowKit

theorem pv_end (s : ByteArray) (a t : Nat) (h : ∀ u, t ≤ u → byteAt s (8 * a + u) = 0) : ∀ r, pv s a (t + r) = pv s a t
  | 0 => rfl
  | r + 1 => by
    rw [← Nat.add_assoc]
    simp only [pv]
    rw [h (t + r) (by omega), pv_end s a t h r]
    simp
theorem wv_whole (s : ByteArray) (a : Nat) : wv s s.size a = pv s a 8 := by
  unfold wv
  by_cases h : 8 ≤ s.size - 8 * a
  · rw [Nat.min_eq_left h]
  · rw [Nat.min_eq_right (by omega)]
    have e := pv_end s a (s.size - 8 * a) (fun u hu => by
      unfold byteAt
      rw [dif_neg (by omega)]) (8 - (s.size - 8 * a))
    rw [show s.size - 8 * a + (8 - (s.size - 8 * a)) = 8 by omega] at e
    exact e.symm
theorem tb_wv (s : ByteArray) (i : Nat) : tb (wv s s.size) i = byteAt s i := by
  unfold tb
  rw [wv_whole]
  have b := fun u => byteAt_lt s (8 * (i / 8) + u)
  have b0 := b 0
  have b1 := b 1
  have b2 := b 2
  have b3 := b 3
  have b4 := b 4
  have b5 := b 5
  have b6 := b 6
  have b7 := b 7
  have e : byteAt s i = byteAt s (8 * (i / 8) + i % 8) := by
    congr 1
    omega
  rw [e]
  have hm : i % 8 < 8 := by omega
  simp only [pv]
  generalize i % 8 = m at hm ⊢
  generalize i / 8 = a at *
  obtain rfl | rfl | rfl | rfl | rfl | rfl | rfl | rfl : m = 0 ∨ m = 1 ∨ m = 2 ∨ m = 3 ∨ m = 4 ∨ m = 5 ∨ m = 6 ∨ m = 7 := by omega
  all_goals
    clear e b
    generalize byteAt s (8 * a + 0) = x0 at *
    generalize byteAt s (8 * a + 1) = x1 at *
    generalize byteAt s (8 * a + 2) = x2 at *
    generalize byteAt s (8 * a + 3) = x3 at *
    generalize byteAt s (8 * a + 4) = x4 at *
    generalize byteAt s (8 * a + 5) = x5 at *
    generalize byteAt s (8 * a + 6) = x6 at *
    generalize byteAt s (8 * a + 7) = x7 at *
    simp only [Nat.reducePow]
    omega

/-- The text of the first n bytes. -/
def textB (s : ByteArray) (n : Nat) : ByteArray := strOfNums ((List.range n).map fun i => ((tb (wv s s.size) i : Nat) : Int))
theorem textB_size (s : ByteArray) (n : Nat) : (textB s n).size = n := by
  unfold textB
  rw [strOfNums_size]
  simp
theorem textB_list (s : ByteArray) (n : Nat) : (textB s n).data.toList = (List.range n).map fun i => UInt8.ofNat (byteAt s i) := by
  unfold textB
  rw [strOfNums_data]
  simp [tb_wv]
theorem bytes_list (s : ByteArray) : s.data.toList = (List.range s.size).map fun i => UInt8.ofNat (byteAt s i) := by
  apply List.ext_getElem
  · simp
  · intro i h1 h2
    have h : i < s.size := by simpa using h1
    simp [byteAt, h]
    rfl
theorem cut_front (s : ByteArray) (i : Nat) : (s.extract 0 i).data.toList = s.data.toList.take i := by
  rw [ByteArray.data_extract]
  simp
theorem textB_short (s : ByteArray) (n : Nat) (hn : n ≤ s.size) : textB s n = s.extract 0 n := by
  apply ByteArray.ext
  rw [← Array.toList_inj, textB_list, cut_front, bytes_list, ← List.map_take, List.take_range, Nat.min_eq_left hn]
theorem textB_long (s : ByteArray) (n : Nat) (hn : s.size ≤ n) : (textB s n).extract 0 s.size = s := by
  apply ByteArray.ext
  rw [← Array.toList_inj, cut_front, textB_list, ← List.map_take, List.take_range, Nat.min_eq_left hn, ← bytes_list]
theorem byte_of (s : ByteArray) (i : Nat) (h : i < s.size) : byteAt s i = s[i].toNat := by simp [byteAt, h]
theorem byte_none (s : ByteArray) (i : Nat) (h : ¬ i < s.size) : byteAt s i = 0 := by simp [byteAt, h]

set_option maxHeartbeats 4000000 in
set_option maxRecDepth 100000 in
theorem wordBytes_any (a : Nat → Addr) (s : ByteArray) (n : Int) (w : World) (E : Errs a w) :
    Calls Tryd.prog 6 #[.string s, .int .i64 n] w fun ev w' => ev = .returned (.bool true) ∧ Below w.heap.size w w' := by
  by_cases hz : 2000 < s.size
  · have hI : (2000 : Int) < (s.size : Int) := by omega
    go_enter Tryd.func6, Tryd.ntmps6
    go_wp2_with fail
    refine (five_any w).mono ?_
    rintro ev w1 ⟨rfl, hb1⟩
    go_wp2
    go_ret
    exact ⟨rfl, hb1⟩
  have hI : ¬ (2000 : Int) < (s.size : Int) := by omega
  obtain ⟨nw, hnw⟩ : ∃ nw, nw = (s.size + 7) / 8 := ⟨_, rfl⟩
  have hbt := fun w => bytes_any s (by omega) nw hnw w
  have hlen : ((nw : Int) != ((s.size : Int) + 7) / 8) = false := by
    rw [bne_eq_false_iff_eq]
    omega
  have HN : Hid (nw = (s.size + 7) / 8) := hnw
  have hn3 : nw ≤ 251 := by omega
  clear hnw
  go_enter Tryd.func6, Tryd.ntmps6
  go_wp2_with fail
  refine (five_any w).mono ?_
  rintro ev w1 ⟨rfl, hb1⟩
  go_wp2_with fail
  refine (hbt w1).mono ?_
  rintro ev w2 ⟨rfl, hC, hb2⟩
  have hb2w : Below w.heap.size w w2 := hb1.trans (hb2.mono hb1.size)
  clear hbt
  have hCH : Hid (∀ a, a < nw → w2.cell? ⟨w1.heap.size, a, none⟩ = some (.int .u64 (wv s s.size a : Nat))) := hC
  clear hC
  go_wp2_with fail
  go_loopg [7] (8 * nw + 1) (fun gk v7 wr => ∃ k : Nat, gk = 8 * nw + 1 - k ∧ k ≤ 8 * nw ∧ v7 = .int .i64 (k : Int) ∧ wr = w2)
  case atStart => exact ⟨0, rfl, Nat.zero_le _, rfl, rfl⟩
  case round =>
    obtain ⟨k, hgk, hk, hv7, hwr⟩ := hrel
    subst hv7 hwr
    have HG : Hid (gk = 8 * nw + 1 - k) := hgk
    clear hgk
    by_cases hlt : k < 8 * nw
    · have hI8 : (k : Int) < 8 * (nw : Int) := by omega
      have hI0 : (0 : Int) ≤ (k : Int) := by omega
      obtain ⟨j, hj⟩ : ∃ j, j = k / 8 := ⟨_, rfl⟩
      have hjn : j < nw := by omega
      have hJ : (k : Int) / 8 = (j : Int) := by omega
      have c0 := hCH.out j hjn
      have hV : ((wv s s.size j : Nat) : Int) / 2 ^ (k % 8 * 8) % 256 = ((byteAt s k : Nat) : Int) := by rw [← tb_wv]; exact tb_eq _ k j hj
      have HJ : Hid (j = k / 8) := hj
      clear hj
      by_cases hks : k < s.size
      · have hks2 : (k : Int) < (s.size : Int) := by omega
        rw [byte_of s k hks] at hV
        go_wp2_with fail
        go_roundg (8 * nw + 1 - (k + 1))
        case measure => have := HG.out; omega
        case rel => exact ⟨k + 1, rfl, by omega, by go_num, rfl⟩
      · have hks2 : ¬ (k : Int) < (s.size : Int) := by omega
        rw [byte_none s k hks] at hV
        go_wp2_with fail
        go_roundg (8 * nw + 1 - (k + 1))
        case measure => have := HG.out; omega
        case rel => exact ⟨k + 1, rfl, by omega, by go_num, rfl⟩
    · obtain rfl : k = 8 * nw := by omega
      have E2 := E.below hb2w
      by_cases hn : n < 0 ∨ 8 * (nw : Int) < n
      · go_wp2_with fail
        refine (text_no a _ nw nw n (by omega) hn _ E2.we).mono ?_
        rintro ev w3 ⟨rfl, hb3⟩
        have hb3w := hb2w.trans (hb3.mono hb2w.size)
        have E3 := E.below hb3w
        by_cases c : n < 0
        · clear hn
          go_wp2_with fail
          refine (coded_any a 1 (by decide) _ E3).mono ?_
          rintro ev w4 ⟨rfl, hb4⟩
          have hb4w := hb3w.trans (hb4.mono hb3w.size)
          go_wp2
          go_ret
          exact ⟨rfl, hb4w⟩
        · have c2 : 8 * (nw : Int) < n := by omega
          clear hn
          go_wp2_with fail
          refine (coded_any a 1 (by decide) _ E3).mono ?_
          rintro ev w4 ⟨rfl, hb4⟩
          have hb4w := hb3w.trans (hb4.mono hb3w.size)
          go_wp2
          go_ret
          exact ⟨rfl, hb4w⟩
      · obtain ⟨m, rfl⟩ : ∃ m : Nat, n = (m : Int) := ⟨n.toNat, by omega⟩
        have hm : m ≤ 8 * nw := by omega
        go_wp2_with fail
        refine (text_ok (wv s s.size) w1.heap.size nw nw m (by omega) hm _ hCH.out).mono ?_
        rintro ev w3 ⟨rfl, hb3⟩
        have hb3w := hb2w.trans (hb3.mono hb2w.size)
        rw [show strOfNums ((List.range m).map fun i => ((tb (wv s s.size) i : Nat) : Int)) = textB s m from rfl]
        have hts := textB_size s m
        by_cases c : m ≤ s.size
        · have c2 : (m : Int) ≤ (s.size : Int) := by omega
          have ht := textB_short s m c
          rw [ht]
          go_wp2
          go_ret
          exact ⟨rfl, hb3w⟩
        · have c2 : ¬ (m : Int) ≤ (s.size : Int) := by omega
          have ht := textB_long s m (by omega)
          generalize textB s m = t at hts ht ⊢
          go_wp2
          go_ret
          exact ⟨rfl, hb3w⟩
end Go.Proofs.YtlfhjgiodoigbaaDoor
