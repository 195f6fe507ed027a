/- Package lex: Quote by a contract. -/
import Derived.Test.YtajkahckmhipkaaGreatDoorWrtMToCBld
import Derived.Test.YtajkahckmhipkaaGreatDoorLexYToToks
namespace Go.Proofs.YtajkahckmhipkaaGreatDoor
open Go.RowKit

theorem fresh_builder (w : World) : Lib.IsBuilderF 147 5 w.heap.size w.heap.size [] (w.alloc (.cells #[.pointer none, .slice none 0 0] 147)) :=
  Lib.IsBuilderF.of (.inl ⟨Nat.le_refl _, .slice none 0 0, heap_alloc_new _ _, World.ownsRow_nil _ _ _ _, by simp [Value.ownBlock]⟩)

theorem hex_at (n : Nat) (h : n < 16) (h' : n < (⟨#[48, 49, 50, 51, 52, 53, 54, 55, 56, 57, 97, 98, 99, 100, 101, 102]⟩ : ByteArray).size) : (⟨#[48, 49, 50, 51, 52, 53, 54, 55, 56, 57, 97, 98, 99, 100, 101, 102]⟩ : ByteArray)[n].toNat = (hexDig n).toNat := by
  iterate 16 (rcases n with _ | n; · rfl)
  omega

set_option maxHeartbeats 1000000 in
theorem quote_any (s : ByteArray) (hs : s.size ≤ 6000) (w : World) :
    Calls Tryz.prog 112 #[.string s] w fun ev w' => ev = .returned (.string (quotedB s.data.toList)) ∧ Below w.heap.size w w' := by
  have hf := fresh_builder w
  have hb0 : Below w.heap.size w (w.alloc (.cells #[.pointer none, .slice none 0 0] 147)) := (Below.refl _ _).alloc (Nat.le_refl _) _
  go_enter Tryz.func112, Tryz.ntmps112
  go_wp2_with fail
  refine (wByte w.heap.size w.heap.size [] 34 _ hf (by simp) (by simp)).mono ?_
  rintro ev w1 ⟨rfl, hB1, hb1, _⟩
  have hb1w : Below w.heap.size w w1 := hb0.trans hb1
  clear hf hb0 hb1
  go_wp2_with fail
  go_loopg [9] (s.size + 1) (fun gk v9 wr => ∃ k : Nat, gk = s.size + 1 - k ∧ k ≤ s.size ∧ v9 = .int .i64 (k : Int) ∧ Lib.IsBuilderF 147 5 w.heap.size w.heap.size (Lib.byteCells ([34] ++ (s.data.toList.take k).flatMap escB)) wr ∧ Below w.heap.size w wr)
  case atStart => exact ⟨0, rfl, Nat.zero_le _, rfl, hB1, hb1w⟩
  case round =>
    obtain ⟨k, hgk, hk, hv, hB, hb⟩ := hrel
    subst hv
    have HG : Hid (gk = s.size + 1 - k) := hgk
    clear hgk hB1 hb1w
    have hk0 : (0 : Int) ≤ (k : Int) := by omega
    have hfl := flat_len (s.data.toList.take k)
    have htl : (s.data.toList.take k).length ≤ k := List.length_take_le _ _
    have hcl : (Lib.byteCells ([34] ++ (s.data.toList.take k).flatMap escB)).length ≤ 24001 := by
      rw [Lib.byteCells_length, List.length_append]
      simp only [List.length_cons, List.length_nil]
      omega
    have hsz := hb.size
    by_cases hlt : k < s.size
    · have hI : (k : Int) < (s.size : Int) := by omega
      have hts := take_snoc s k hlt
      have HSN : Hid (Lib.byteCells ([34] ++ (s.data.toList.take (k + 1)).flatMap escB) = Lib.byteCells ([34] ++ (s.data.toList.take k).flatMap escB) ++ Lib.byteCells (escB s[k])) := by
        show _ = _
        rw [hts, ← Lib.byteCells_append]
        simp
      clear hts hfl htl
      have hc1 : s[k].toNat ≤ 255 := by have := s[k].toNat_lt; omega
      have hC1 : (s[k].toNat : Int) ≤ 255 := by omega
      have hC0 : (0 : Int) ≤ (s[k].toNat : Int) := by omega
      generalize Lib.byteCells ([34] ++ (s.data.toList.take k).flatMap escB) = bs at hB hcl HSN
      cases e10 : ((s[k].toNat : Int) == 10)
      rotate_left
      · go_wp2_with fail
        refine (wString w.heap.size w.heap.size bs ⟨#[92, 110]⟩ _ hB (by have : (⟨#[92, 110]⟩ : ByteArray).size = 2 := rfl; omega) hsz).mono ?_
        rintro ev w2 ⟨rfl, hB2, hb2, _⟩
        go_wp2_with fail
        go_roundg (s.size + 1 - (k + 1))
        case measure => have := HG.out; omega
        case rel =>
          refine ⟨k + 1, rfl, by omega, by go_num, ?_, hb.trans hb2⟩
          rw [HSN.out]
          have e : escB s[k] = [92, 110] := by simp [escB, show s[k].toNat = 10 by have := nat_of_beq e10; omega]
          rw [e]
          exact hB2
      have n10 : ¬ s[k].toNat = 10 := by have := nat_of_beqf e10; omega
      cases e34 : ((s[k].toNat : Int) == 34)
      rotate_left
      · go_wp2_with fail
        refine (wByte w.heap.size w.heap.size bs 92 _ hB (by omega) hsz).mono ?_
        rintro ev w2 ⟨rfl, hB2, hb2, _⟩
        have hsz2 := (hb.trans hb2).size
        go_wp2_with fail
        refine (wByte w.heap.size w.heap.size _ (s[k].toNat : Int) _ hB2 (by simp; omega) hsz2).mono ?_
        rintro ev w3 ⟨rfl, hB3, hb3, _⟩
        go_wp2_with fail
        go_roundg (s.size + 1 - (k + 1))
        case measure => have := HG.out; omega
        case rel =>
          refine ⟨k + 1, rfl, by omega, by go_num, ?_, (hb.trans hb2).trans hb3⟩
          rw [HSN.out]
          have e : escB s[k] = [92, s[k]] := by
            have h34 : s[k].toNat = 34 := by have := nat_of_beq e34; omega
            have h34' : s[k] = 34 := UInt8.toNat_inj.mp h34
            rw [h34']
            rfl
          rw [e]
          have e2 : bs ++ Lib.byteCells [92, s[k]] = bs ++ [.int .u8 92] ++ [.int .u8 (s[k].toNat : Int)] := by simp [Lib.byteCells]
          rw [e2]
          exact hB3
      have n34 : ¬ s[k].toNat = 34 := by have := nat_of_beqf e34; omega
      cases e92 : ((s[k].toNat : Int) == 92)
      rotate_left
      · go_wp2_with fail
        refine (wByte w.heap.size w.heap.size bs 92 _ hB (by omega) hsz).mono ?_
        rintro ev w2 ⟨rfl, hB2, hb2, _⟩
        have hsz2 := (hb.trans hb2).size
        go_wp2_with fail
        refine (wByte w.heap.size w.heap.size _ (s[k].toNat : Int) _ hB2 (by simp; omega) hsz2).mono ?_
        rintro ev w3 ⟨rfl, hB3, hb3, _⟩
        go_wp2_with fail
        go_roundg (s.size + 1 - (k + 1))
        case measure => have := HG.out; omega
        case rel =>
          refine ⟨k + 1, rfl, by omega, by go_num, ?_, (hb.trans hb2).trans hb3⟩
          rw [HSN.out]
          have e : escB s[k] = [92, s[k]] := by
            have h92 : s[k].toNat = 92 := by have := nat_of_beq e92; omega
            have h92' : s[k] = 92 := UInt8.toNat_inj.mp h92
            rw [h92']
            rfl
          rw [e]
          have e2 : bs ++ Lib.byteCells [92, s[k]] = bs ++ [.int .u8 92] ++ [.int .u8 (s[k].toNat : Int)] := by simp [Lib.byteCells]
          rw [e2]
          exact hB3
      have n92 : ¬ s[k].toNat = 92 := by have := nat_of_beqf e92; omega
      by_cases hout : s[k].toNat < 32 ∨ 126 < s[k].toNat
      · have HE : Hid (escB s[k] = [92, 120, hexDig (s[k].toNat / 16), hexDig (s[k].toNat % 16)]) := by
          show _ = _
          rcases escB_cases s[k] with h | h | h | h | h
          · omega
          · omega
          · omega
          · exact h
          · omega
        rcases hout with h32 | h126
        · have hI32 : (s[k].toNat : Int) < 32 := by omega
          go_wp2_with fail
          refine (wString w.heap.size w.heap.size bs ⟨#[92, 120]⟩ _ hB (by have : (⟨#[92, 120]⟩ : ByteArray).size = 2 := rfl; omega) hsz).mono ?_
          rintro ev w2 ⟨rfl, hB2, hb2, _⟩
          have hsz2 := (hb.trans hb2).size
          have hl2 : (bs ++ Lib.strCells ⟨#[92, 120]⟩).length ≤ 24003 := by rw [List.length_append, Lib.strCells_length]; have : (⟨#[92, 120]⟩ : ByteArray).size = 2 := rfl; omega
          go_wp2_with fail
          refine (wByte w.heap.size w.heap.size _ _ _ hB2 (by omega) hsz2).mono ?_
          rintro ev w3 ⟨rfl, hB3, hb3, _⟩
          have hb23 := hb2.trans hb3
          have hsz3 := (hb.trans hb23).size
          rw [hex_at _ (by omega)] at hB3
          go_wp2_with fail
          refine (wByte w.heap.size w.heap.size _ _ _ hB3 (by rw [List.length_append]; simp only [List.length_cons, List.length_nil]; omega) hsz3).mono ?_
          rintro ev w4 ⟨rfl, hB4, hb4, _⟩
          rw [hex_at _ (by omega)] at hB4
          go_wp2_with fail
          go_roundg (s.size + 1 - (k + 1))
          case measure => have := HG.out; omega
          case rel =>
            refine ⟨k + 1, rfl, by omega, by go_num, ?_, (hb.trans hb23).trans hb4⟩
            rw [HSN.out, HE.out]
            have e2 : bs ++ Lib.byteCells [92, 120, hexDig (s[k].toNat / 16), hexDig (s[k].toNat % 16)] = bs ++ Lib.strCells ⟨#[92, 120]⟩ ++ [.int .u8 ((hexDig (s[k].toNat / 16)).toNat : Int)] ++ [.int .u8 ((hexDig (s[k].toNat % 16)).toNat : Int)] := by simp [Lib.byteCells, Lib.strCells]
            rw [e2]
            exact hB4
        · have hI32 : ¬ (s[k].toNat : Int) < 32 := by omega
          have hI126 : 126 < (s[k].toNat : Int) := by omega
          go_wp2_with fail
          refine (wString w.heap.size w.heap.size bs ⟨#[92, 120]⟩ _ hB (by have : (⟨#[92, 120]⟩ : ByteArray).size = 2 := rfl; omega) hsz).mono ?_
          rintro ev w2 ⟨rfl, hB2, hb2, _⟩
          have hsz2 := (hb.trans hb2).size
          have hl2 : (bs ++ Lib.strCells ⟨#[92, 120]⟩).length ≤ 24003 := by rw [List.length_append, Lib.strCells_length]; have : (⟨#[92, 120]⟩ : ByteArray).size = 2 := rfl; omega
          go_wp2_with fail
          refine (wByte w.heap.size w.heap.size _ _ _ hB2 (by omega) hsz2).mono ?_
          rintro ev w3 ⟨rfl, hB3, hb3, _⟩
          have hb23 := hb2.trans hb3
          have hsz3 := (hb.trans hb23).size
          rw [hex_at _ (by omega)] at hB3
          go_wp2_with fail
          refine (wByte w.heap.size w.heap.size _ _ _ hB3 (by rw [List.length_append]; simp only [List.length_cons, List.length_nil]; omega) hsz3).mono ?_
          rintro ev w4 ⟨rfl, hB4, hb4, _⟩
          rw [hex_at _ (by omega)] at hB4
          go_wp2_with fail
          go_roundg (s.size + 1 - (k + 1))
          case measure => have := HG.out; omega
          case rel =>
            refine ⟨k + 1, rfl, by omega, by go_num, ?_, (hb.trans hb23).trans hb4⟩
            rw [HSN.out, HE.out]
            have e2 : bs ++ Lib.byteCells [92, 120, hexDig (s[k].toNat / 16), hexDig (s[k].toNat % 16)] = bs ++ Lib.strCells ⟨#[92, 120]⟩ ++ [.int .u8 ((hexDig (s[k].toNat / 16)).toNat : Int)] ++ [.int .u8 ((hexDig (s[k].toNat % 16)).toNat : Int)] := by simp [Lib.byteCells, Lib.strCells]
            rw [e2]
            exact hB4
      · have hI32 : ¬ (s[k].toNat : Int) < 32 := by omega
        have hI126 : ¬ 126 < (s[k].toNat : Int) := by omega
        have HE : Hid (escB s[k] = [s[k]]) := by
          show _ = _
          simp [escB, n10, n34, n92, hout]
        go_wp2_with fail
        refine (wByte w.heap.size w.heap.size bs (s[k].toNat : Int) _ hB (by omega) hsz).mono ?_
        rintro ev w2 ⟨rfl, hB2, hb2, _⟩
        go_wp2_with fail
        go_roundg (s.size + 1 - (k + 1))
        case measure => have := HG.out; omega
        case rel =>
          refine ⟨k + 1, rfl, by omega, by go_num, ?_, hb.trans hb2⟩
          rw [HSN.out, HE.out]
          exact hB2
    · obtain rfl : k = s.size := by omega
      have hI : ¬ ((s.size : Nat) : Int) < (s.size : Int) := by omega
      go_wp2_with fail
      refine (wByte w.heap.size w.heap.size _ 34 _ hB (by omega) hsz).mono ?_
      rintro ev w2 ⟨rfl, hB2, hb2, _⟩
      have hsz2 := (hb.trans hb2).size
      have HB : Lib.IsBuilderF 147 5 w.heap.size w.heap.size (Lib.byteCells ([34] ++ s.data.toList.flatMap escB ++ [34])) w2 := by
        rw [Lib.byteCells_append]
        rw [List.take_of_length_le (by simp)] at hB2
        exact hB2
      go_wp2_with fail
      refine (bString w.heap.size w.heap.size _ _ HB hsz2).mono ?_
      rintro ev w3 ⟨rfl, hb3⟩
      go_wp2_with fail
      go_ret
      exact ⟨rfl, (hb.trans hb2).trans hb3⟩
end Go.Proofs.YtajkahckmhipkaaGreatDoor
