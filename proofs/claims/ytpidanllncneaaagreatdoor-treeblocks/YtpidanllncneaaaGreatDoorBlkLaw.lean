/- The law TreeBlocks, by a walk. -/
import Derived.Test.YtpidanllncneaaaGreatDoorBlkLToSameP
import Derived.Test.YtpidanllncneaaaGreatDoorPassBToPassCL
import Derived.Laws.Concat
namespace Go.Proofs.YtpidanllncneaaaGreatDoor
open Go.RowKit

theorem faultedAt_fault (a : Nat → Addr) (k : Nat) (hk : k < 7) (pb po : Nat) (at_ : Int) (w : World) (E : Errs a w) (hat : w.cell? ⟨pb, po, none⟩ = some (.int .i64 at_)) (her : w.cell? ⟨pb, po + 1, none⟩ = some (.iface 177 (.pointer (some (a k))))) :
    Calls Tryz.prog 6 #[.iface 39 (.pointer (some ⟨pb, po, none⟩))] w fun ev w' => ev = .returned (.int .i64 (k + 1)) ∧ Below w.heap.size w w' := by
  have h := code_fault a k hk pb po at_ w E hat her
  go_enter Tryz.func6, Tryz.ntmps6
  go_wp2_with fail
  refine h.mono ?_
  rintro ev w1 ⟨rfl, hb⟩
  go_wp2
  go_ret
  exact ⟨rfl, hb⟩
theorem add_at (a b : ByteArray) (h : a.size + b.size ≤ 9223372036854775807) : ∃ c : ByteArray, c.data.toList = a.data.toList ++ b.data.toList ∧ c.size = a.size + b.size ∧ ∀ wx, (Op.stringOp .add a b).run Tryz.prog wx = .ok (.string c) wx :=
  ⟨a ++ b, by simp, by simp, fun wx => run_string_add_sum (P := Tryz.prog) (w := wx) a b h⟩
theorem size_list {s : ByteArray} {l : List UInt8} (h : s.data.toList = l) : s.size = l.length := by
  rw [← h, Array.length_toList]
  rfl
set_option maxHeartbeats 4000000 in
set_option maxRecDepth 100000 in
theorem treeBlocks_near (a : Nat → Addr) (b n : Nat) (hb : b ≤ 20) (hn : n ≤ 20) (w : World) (E : LEnv w.heap.size (a 0) (a 1) w) (X : Errs a w) :
    Calls Tryz.prog 3 #[.int .i64 (b : Int), .int .i64 (n : Int)] w fun ev w' => ev = .returned (.bool true) ∧ Below w.heap.size w w' := by
  have HP := toHid (lawpass_any (a 0) (a 1) w E)
  have HE := toHid E
  have HX := toHid X
  clear E X
  have b0 : ¬ (b : Int) < 0 := by omega
  have b1 : ¬ (20 : Int) < (b : Int) := by omega
  have n0 : ¬ (n : Int) < 0 := by omega
  have n1 : ¬ (20 : Int) < (n : Int) := by omega
  go_enter Tryz.func3, Tryz.ntmps3
  go_wp2_with fail
  refine HP.out.mono ?_
  rintro ev w1 ⟨rfl, hb1⟩
  have HB1 := toHid hb1
  clear hb1
  go_wp2_with fail
  go_loopg [6, 7, 8] (b + 1) (fun gk v6 v7 v8 wr => ∃ (i : Nat) (s t : ByteArray), gk = b + 1 - i ∧ i ≤ b ∧ v6 = .string s ∧ v7 = .string t ∧ v8 = .int .i64 (i : Int) ∧ s.data.toList = blkText 0 i ∧ t.data.toList = List.replicate i 32 ∧ wr = w1)
  case atStart => exact ⟨0, ⟨#[]⟩, ⟨#[]⟩, rfl, Nat.zero_le _, rfl, rfl, rfl, rfl, rfl, rfl⟩
  case round =>
    obtain ⟨i, s, t, hgk, hi, rfl, rfl, rfl, hs, ht, hw⟩ := hrel
    rw [hw]
    clear hw wr
    have HG := toHid hgk
    have HS := toHid hs
    have HT := toHid ht
    have zs : s.size ≤ 2000 := by
      rw [size_list hs]
      have h1 := blkText_few i 0
      have h2 : i * (0 + i + 6) ≤ 20 * 26 := Nat.mul_le_mul (by omega) (by omega)
      omega
    have zt : t.size ≤ 20 := by
      rw [size_list ht, List.length_replicate]
      omega
    clear hgk hs ht
    by_cases hlt : i < b
    · have hJ : (i : Int) < (b : Int) := by omega
      obtain ⟨s1, e1, y1, a1⟩ := add_at s t (by omega)
      have z2 : (⟨#[105, 102, 32, 97, 58, 10]⟩ : ByteArray).size = 6 := rfl
      obtain ⟨s2, e2, y2, a2⟩ := add_at s1 ⟨#[105, 102, 32, 97, 58, 10]⟩ (by omega)
      have z3 : (⟨#[32]⟩ : ByteArray).size = 1 := rfl
      obtain ⟨t1, e3, y3, a3⟩ := add_at t ⟨#[32]⟩ (by omega)
      have H2 : Hid (s2.data.toList = blkText 0 (i + 1)) := by
        show _ = _
        rw [e2, e1, HS.out, HT.out, blkText_snoc, Nat.zero_add]
        simp [lineC]
      have H3 : Hid (t1.data.toList = List.replicate (i + 1) 32) := by
        show _ = _
        rw [e3, HT.out, List.replicate_succ']
      clear e1 e2 e3 y1 y2 y3 z2 z3
      go_wp2_with fail
      go_roundg (b + 1 - (i + 1))
      case measure => have := HG.out; omega
      case rel => exact ⟨i + 1, _, _, rfl, by omega, rfl, rfl, by go_num, H2.out, H3.out, rfl⟩
    · obtain rfl : i = b := by omega
      obtain ⟨s1, e1, y1, a1⟩ := add_at s t (by omega)
      have H1 : Hid (s1.data.toList = blkText 0 i ++ List.replicate i 32) := by
        show _ = _
        rw [e1, HS.out, HT.out]
      have zs1 : s1.size ≤ 2020 := by omega
      clear e1 y1 HS HT zs zt HG
      go_wp2_with fail
      go_loopg [6, 9] (n + 1) (fun gk v6 v9 wr => ∃ (j : Nat) (s : ByteArray), gk = n + 1 - j ∧ j ≤ n ∧ v6 = .string s ∧ v9 = .int .i64 (j : Int) ∧ s.data.toList = blkText 0 i ++ List.replicate i 32 ++ List.replicate j 91 ∧ s.size = s1.size + j ∧ wr = w1)
      case atStart => exact ⟨0, s1, rfl, Nat.zero_le _, rfl, rfl, by rw [List.replicate_zero, List.append_nil]; exact H1.out, rfl, rfl⟩
      case round =>
        obtain ⟨j, s, hgk, hj, rfl, rfl, hs, hz, hw⟩ := hrel
        rw [hw]
        clear hw wr
        have HG := toHid hgk
        have HS := toHid hs
        have HZ := toHid hz
        clear hgk hs
        by_cases hlt : j < n
        · have hJ : (j : Int) < (n : Int) := by omega
          have z2 : (⟨#[91]⟩ : ByteArray).size = 1 := rfl
          obtain ⟨s2, e2, y2, a2⟩ := add_at s ⟨#[91]⟩ (by omega)
          have H2 : Hid (s2.data.toList = blkText 0 i ++ List.replicate i 32 ++ List.replicate (j + 1) 91 ∧ s2.size = s1.size + (j + 1)) := by
            refine ⟨?_, by omega⟩
            rw [e2, HS.out, List.replicate_succ', ← List.append_assoc]
          clear e2 y2 z2 hz
          go_wp2_with fail
          go_roundg (n + 1 - (j + 1))
          case measure => have := HG.out; omega
          case rel => exact ⟨j + 1, _, rfl, by omega, rfl, by go_num, H2.out.1, H2.out.2, rfl⟩
        · obtain rfl : j = n := by omega
          clear HG
          go_wp2_with fail
          go_loopg [6, 10] (j + 1) (fun gk v6 v10 wr => ∃ (k : Nat) (s : ByteArray), gk = j + 1 - k ∧ k ≤ j ∧ v6 = .string s ∧ v10 = .int .i64 (k : Int) ∧ s.data.toList = blkText 0 i ++ List.replicate i 32 ++ List.replicate j 91 ++ List.replicate k 93 ∧ s.size = s1.size + j + k ∧ wr = w1)
          case atStart => exact ⟨0, s, rfl, Nat.zero_le _, rfl, rfl, by rw [List.replicate_zero, List.append_nil]; exact HS.out, HZ.out, rfl⟩
          case round =>
            obtain ⟨k, s2, hgk, hk, rfl, rfl, hs2, hz2, hw⟩ := hrel
            rw [hw]
            clear hw wr
            have HG := toHid hgk
            have HS2 := toHid hs2
            clear hgk hs2
            by_cases hlt : k < j
            · have hJ : (k : Int) < (j : Int) := by omega
              have z2 : (⟨#[93]⟩ : ByteArray).size = 1 := rfl
              obtain ⟨s3, e2, y2, a2⟩ := add_at s2 ⟨#[93]⟩ (by omega)
              have H2 : Hid (s3.data.toList = blkText 0 i ++ List.replicate i 32 ++ List.replicate j 91 ++ List.replicate (k + 1) 93 ∧ s3.size = s1.size + j + (k + 1)) := by
                refine ⟨?_, by omega⟩
                rw [e2, HS2.out, List.replicate_succ', ← List.append_assoc]
              clear e2 y2 z2 hz hz2
              go_wp2_with fail
              go_roundg (j + 1 - (k + 1))
              case measure => have := HG.out; omega
              case rel => exact ⟨k + 1, _, rfl, by omega, rfl, by go_num, H2.out.1, H2.out.2, rfl⟩
            · obtain rfl : k = j := by omega
              clear HG
              by_cases h0 : k = 0
              · have hk0 : ((k : Int) == 0) = true := by rw [h0]; rfl
                have z8 : (⟨#[97]⟩ : ByteArray).size = 1 := rfl
                obtain ⟨s8, e8, y8, a8⟩ := add_at s2 ⟨#[97]⟩ (by omega)
                have z9 : (⟨#[10]⟩ : ByteArray).size = 1 := rfl
                obtain ⟨s9, e9, y9, a9⟩ := add_at s8 ⟨#[10]⟩ (by omega)
                have h9 : s9.data.toList = blkAll i k := by
                  rw [e9, e8, HS2.out]
                  unfold blkAll leafC
                  rw [if_pos h0, h0]
                  simp
                have hz9 : s9.size ≤ 6000 := by omega
                have E1 := (HE.out.below HB1.out).up HB1.out.size
                have HRT := toHid (read_told s9 (a 0) (a 1) w1 E1)
                obtain ⟨l, hlx, hok, her⟩ := lex_read s9 i k h9
                have HLX := toHid hlx
                have HOK := toHid hok
                have HER := toHid her
                clear hlx hok her E1 e9 y9 z9 h9 hz hz2
                go_wp2_with fail
                refine HRT.out.mono ?_
                rintro ev w2 ⟨hb2, ⟨m, ss, kk, ba, bc, _, h7, h8, rfl, _⟩ | ⟨m, y, pb, t, _, h7, h8, _, rfl, c0, c1⟩ | ⟨hno, t, q, rfl⟩⟩
                rotate_right
                · exact absurd HLX.out (hno l hz9)
                · rw [HLX.out] at h7
                  simp only [Except.ok.injEq, Prod.mk.injEq] at h7
                  obtain rfl := cellsOf_inj h7.2
                  have hin : i ≤ 11 ∧ k ≤ 12 := by
                    refine Classical.byContradiction fun hc => ?_
                    obtain ⟨y, hy⟩ := HER.out hc
                    rw [hy] at h8
                    cases h8
                  have q1 : ¬ (12 : Int) ≤ (i : Int) := by omega
                  have q2 : ¬ (12 : Int) < (k : Int) := by omega
                  have HBE := toHid (HB1.out.trans (hb2.mono HB1.out.size))
                  clear h7 h8 hb2
                  go_wp2_with fail
                  go_ret
                  exact ⟨rfl, HBE.out⟩
                · rw [HLX.out] at h7
                  simp only [Except.ok.injEq, Prod.mk.injEq] at h7
                  obtain rfl := cellsOf_inj h7.2
                  have hout : ¬ (i ≤ 11 ∧ k ≤ 12) := fun hc => by
                    obtain ⟨ss, kk, hy⟩ := HOK.out hc
                    rw [hy] at h8
                    cases h8
                  obtain ⟨y', hy⟩ := HER.out hout
                  rw [hy] at h8
                  cases h8
                  have HBE := toHid (HB1.out.trans (hb2.mono HB1.out.size))
                  have HFA := toHid (faultedAt_fault a 1 (by decide) pb 0 _ w2 (HX.out.below HBE.out) c0 c1)
                  clear h7 hb2 c0 c1
                  by_cases q1 : (12 : Int) ≤ (i : Int)
                  · go_wp2_with fail
                    refine HFA.out.mono ?_
                    rintro ev w3 ⟨rfl, hb3⟩
                    have HB3 := toHid (HBE.out.trans (hb3.mono HBE.out.size))
                    clear hb3
                    go_wp2_with fail
                    go_ret
                    exact ⟨rfl, HB3.out⟩
                  · exfalso
                    omega
              · have hk0 : ((k : Int) == 0) = false := by rw [beq_eq_false_iff_ne]; omega
                have z9 : (⟨#[10]⟩ : ByteArray).size = 1 := rfl
                obtain ⟨s9, e9, y9, a9⟩ := add_at s2 ⟨#[10]⟩ (by omega)
                have h9 : s9.data.toList = blkAll i k := by
                  rw [e9, HS2.out]
                  unfold blkAll leafC
                  rw [if_neg h0]
                  simp
                have hz9 : s9.size ≤ 6000 := by omega
                have E1 := (HE.out.below HB1.out).up HB1.out.size
                have HRT := toHid (read_told s9 (a 0) (a 1) w1 E1)
                obtain ⟨l, hlx, hok, her⟩ := lex_read s9 i k h9
                have HLX := toHid hlx
                have HOK := toHid hok
                have HER := toHid her
                clear hlx hok her E1 e9 y9 z9 h9 hz hz2
                go_wp2_with fail
                refine HRT.out.mono ?_
                rintro ev w2 ⟨hb2, ⟨m, ss, kk, ba, bc, _, h7, h8, rfl, _⟩ | ⟨m, y, pb, t, _, h7, h8, _, rfl, c0, c1⟩ | ⟨hno, t, q, rfl⟩⟩
                rotate_right
                · exact absurd HLX.out (hno l hz9)
                · rw [HLX.out] at h7
                  simp only [Except.ok.injEq, Prod.mk.injEq] at h7
                  obtain rfl := cellsOf_inj h7.2
                  have hin : i ≤ 11 ∧ k ≤ 12 := by
                    refine Classical.byContradiction fun hc => ?_
                    obtain ⟨y, hy⟩ := HER.out hc
                    rw [hy] at h8
                    cases h8
                  have q1 : ¬ (12 : Int) ≤ (i : Int) := by omega
                  have q2 : ¬ (12 : Int) < (k : Int) := by omega
                  have HBE := toHid (HB1.out.trans (hb2.mono HB1.out.size))
                  clear h7 h8 hb2
                  go_wp2_with fail
                  go_ret
                  exact ⟨rfl, HBE.out⟩
                · rw [HLX.out] at h7
                  simp only [Except.ok.injEq, Prod.mk.injEq] at h7
                  obtain rfl := cellsOf_inj h7.2
                  have hout : ¬ (i ≤ 11 ∧ k ≤ 12) := fun hc => by
                    obtain ⟨ss, kk, hy⟩ := HOK.out hc
                    rw [hy] at h8
                    cases h8
                  obtain ⟨y', hy⟩ := HER.out hout
                  rw [hy] at h8
                  cases h8
                  have HBE := toHid (HB1.out.trans (hb2.mono HB1.out.size))
                  have HFA := toHid (faultedAt_fault a 1 (by decide) pb 0 _ w2 (HX.out.below HBE.out) c0 c1)
                  clear h7 hb2 c0 c1
                  by_cases q1 : (12 : Int) ≤ (i : Int)
                  · go_wp2_with fail
                    refine HFA.out.mono ?_
                    rintro ev w3 ⟨rfl, hb3⟩
                    have HB3 := toHid (HBE.out.trans (hb3.mono HBE.out.size))
                    clear hb3
                    go_wp2_with fail
                    go_ret
                    exact ⟨rfl, HB3.out⟩
                  · have q2 : (12 : Int) < (k : Int) := by omega
                    go_wp2_with fail
                    refine HFA.out.mono ?_
                    rintro ev w3 ⟨rfl, hb3⟩
                    have HB3 := toHid (HBE.out.trans (hb3.mono HBE.out.size))
                    clear hb3
                    go_wp2_with fail
                    go_ret
                    exact ⟨rfl, HB3.out⟩
set_option maxHeartbeats 1000000 in
/-- THE LAW. -/
theorem treeBlocks_any (a : Nat → Addr) (b n : Int) (w : World) (E : LEnv w.heap.size (a 0) (a 1) w) (X : Errs a w) :
    Calls Tryz.prog 3 #[.int .i64 b, .int .i64 n] w fun ev w' => ev = .returned (.bool true) ∧ Below w.heap.size w w' := by
  by_cases h : (0 ≤ b ∧ b ≤ 20) ∧ 0 ≤ n ∧ n ≤ 20
  · obtain ⟨b', rfl⟩ : ∃ b' : Nat, b = b' := ⟨b.toNat, by omega⟩
    obtain ⟨n', rfl⟩ : ∃ n' : Nat, n = n' := ⟨n.toNat, by omega⟩
    exact treeBlocks_near a b' n' (by omega) (by omega) w E X
  · have HP := toHid (lawpass_any (a 0) (a 1) w E)
    clear E X
    by_cases b0 : b < 0
    · go_enter Tryz.func3, Tryz.ntmps3
      go_wp2_with fail
      refine HP.out.mono ?_
      rintro ev w1 ⟨rfl, hb1⟩
      go_wp2_with fail
      go_ret
      exact ⟨rfl, hb1⟩
    · by_cases b1 : 20 < b
      · go_enter Tryz.func3, Tryz.ntmps3
        go_wp2_with fail
        refine HP.out.mono ?_
        rintro ev w1 ⟨rfl, hb1⟩
        go_wp2_with fail
        go_ret
        exact ⟨rfl, hb1⟩
      · by_cases n0 : n < 0
        · go_enter Tryz.func3, Tryz.ntmps3
          go_wp2_with fail
          refine HP.out.mono ?_
          rintro ev w1 ⟨rfl, hb1⟩
          go_wp2_with fail
          go_ret
          exact ⟨rfl, hb1⟩
        · have n1 : 20 < n := by omega
          go_enter Tryz.func3, Tryz.ntmps3
          go_wp2_with fail
          refine HP.out.mono ?_
          rintro ev w1 ⟨rfl, hb1⟩
          go_wp2_with fail
          go_ret
          exact ⟨rfl, hb1⟩
end Go.Proofs.YtpidanllncneaaaGreatDoor
