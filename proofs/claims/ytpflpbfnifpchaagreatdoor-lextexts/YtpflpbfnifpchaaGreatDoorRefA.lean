/- The document's answer for package lex: bytes, digits, strs, words, by contracts. -/
import Derived.Test.YtpflpbfnifpchaaGreatDoorRefP
namespace Go.Proofs.YtpflpbfnifpchaaGreatDoor
open Go.RowKit

theorem low_any (b : Int) (w : World) : Calls Tryz.prog 32 #[.int .u8 b] w fun ev w' => ev = .returned (.bool (smallB b)) ∧ w' = w := by
  go_enter Tryz.func32, Tryz.ntmps32
  go_wp2
  all_goals go_ret
  all_goals refine ⟨ret_bool ?_, rfl⟩
  all_goals rw [Bool.eq_iff_iff]
  all_goals simp [smallB]
  all_goals omega
theorem high_any (b : Int) (w : World) : Calls Tryz.prog 33 #[.int .u8 b] w fun ev w' => ev = .returned (.bool (capitalB b)) ∧ w' = w := by
  go_enter Tryz.func33, Tryz.ntmps33
  go_wp2
  all_goals go_ret
  all_goals refine ⟨ret_bool ?_, rfl⟩
  all_goals rw [Bool.eq_iff_iff]
  all_goals simp [capitalB]
  all_goals omega
theorem digitR_any (b : Int) (w : World) : Calls Tryz.prog 34 #[.int .u8 b] w fun ev w' => ev = .returned (.bool (digitB b)) ∧ w' = w := by
  go_enter Tryz.func34, Tryz.ntmps34
  go_wp2
  all_goals go_ret
  all_goals refine ⟨ret_bool ?_, rfl⟩
  all_goals rw [Bool.eq_iff_iff]
  all_goals simp [digitB]
  all_goals omega

theorem hexOf_any (c : UInt8) (w : World) : Calls Tryz.prog 58 #[.int .u8 (c.toNat : Int)] w fun ev w' => ev = .returned (.int .i64 (hexVal c)) ∧ w' = w := by
  have hc := c.toNat_lt
  rw [← hex_same c]
  cases hd : digitB (c.toNat : Int)
  · by_cases ha : 97 ≤ c.toNat ∧ c.toNat ≤ 102
    · have h1 : (97 : Int) ≤ (c.toNat : Int) := by omega
      have h2 : (c.toNat : Int) ≤ 102 := by omega
      have HE : Hid (hexR c = (c.toNat : Int) - 97 + 10) := by
        show hexR c = _
        unfold hexR
        rw [hd, if_neg (by decide), if_pos ha]
      clear ha
      go_enter Tryz.func58, Tryz.ntmps58
      go_wp2_with (go_at_call 34; refine (digitR_any _ _).mono ?_; rintro e w' ⟨rfl, rfl⟩)
      go_ret
      exact ⟨ret_int HE.out.symm, rfl⟩
    · have HE : Hid (hexR c = -1) := by
        show hexR c = _
        unfold hexR
        rw [hd, if_neg (by decide), if_neg ha]
      by_cases h1 : (97 : Int) ≤ (c.toNat : Int)
      · have h2 : ¬ (c.toNat : Int) ≤ 102 := by omega
        clear ha
        go_enter Tryz.func58, Tryz.ntmps58
        go_wp2_with (go_at_call 34; refine (digitR_any _ _).mono ?_; rintro e w' ⟨rfl, rfl⟩)
        go_ret
        exact ⟨ret_int HE.out.symm, rfl⟩
      · clear ha
        go_enter Tryz.func58, Tryz.ntmps58
        go_wp2_with (go_at_call 34; refine (digitR_any _ _).mono ?_; rintro e w' ⟨rfl, rfl⟩)
        go_ret
        exact ⟨ret_int HE.out.symm, rfl⟩
  · have h1 : (48 : Int) ≤ (c.toNat : Int) ∧ (c.toNat : Int) ≤ 57 := by simpa [digitB] using hd
    have HE : Hid (hexR c = (c.toNat : Int) - 48) := by
      show hexR c = _
      unfold hexR
      rw [hd, if_pos rfl]
    obtain ⟨h2, h3⟩ := h1
    go_enter Tryz.func58, Tryz.ntmps58
    go_wp2_with (go_at_call 34; refine (digitR_any _ _).mono ?_; rintro e w' ⟨rfl, rfl⟩)
    go_ret
    exact ⟨ret_int HE.out.symm, rfl⟩

/-- What IntOf comes to at digits. -/
def intR (q : ByteArray) : Int :=
  match intOfL 0 q.data.toList with
  | none => -1
  | some v => if h : 1 < q.size then (if q[0].toNat = 48 then -1 else (v : Int)) else (v : Int)

theorem drop_at (q : ByteArray) (k : Nat) (h : k < q.size) : q.data.toList.drop k = q[k] :: q.data.toList.drop (k + 1) := by
  have hl : k < q.data.toList.length := by simpa using h
  rw [List.drop_eq_getElem_cons hl]
  rfl

set_option maxHeartbeats 1000000 in
theorem intOf_any (q : ByteArray) (hq : q.size ≤ 6000) (hd : ∀ k (h : k < q.size), 48 ≤ q[k].toNat ∧ q[k].toNat ≤ 57) (w : World) : Calls Tryz.prog 37 #[.string q] w fun ev w' => ev = .returned (.int .i64 (intR q)) ∧ w' = w := by
  have HD : Hid (∀ k (h : k < q.size), 48 ≤ q[k].toNat ∧ q[k].toNat ≤ 57) := hd
  clear hd
  go_enter Tryz.func37, Tryz.ntmps37
  go_wp2
  go_loopg [3, 4] (q.size + 1) (fun gk v3 v4 wr => ∃ k acc : Nat, gk = q.size + 1 - k ∧ k ≤ q.size ∧ v3 = .int .i64 (acc : Int) ∧ v4 = .int .i64 (k : Int) ∧ acc ≤ 9223372036854775807 ∧ intOfL acc (q.data.toList.drop k) = intOfL 0 q.data.toList ∧ wr = w)
  case atStart => exact ⟨0, 0, rfl, Nat.zero_le _, rfl, rfl, by omega, rfl, rfl⟩
  case round =>
    obtain ⟨k, acc, hgk, hk, hv3, hv4, hacc, hfo, rfl⟩ := hrel
    subst hv3 hv4
    have HG : Hid (gk = q.size + 1 - k) := hgk
    have HF : Hid (intOfL acc (q.data.toList.drop k) = intOfL 0 q.data.toList) := hfo
    clear hgk hfo
    have hk0 : (0 : Int) ≤ (k : Int) := by omega
    by_cases hlt : k < q.size
    · have hI : (k : Int) < (q.size : Int) := by omega
      obtain ⟨d1, d2⟩ := HD.out k hlt
      have e1 : (48 : Int) ≤ (q[k].toNat : Int) := by omega
      have e2 : (q[k].toNat : Int) ≤ 57 := by omega
      have HS : Hid (intOfL acc (q.data.toList.drop k) = if 9223372036854775807 < acc * 10 + (q[k].toNat - 48) then none else intOfL (acc * 10 + (q[k].toNat - 48)) (q.data.toList.drop (k + 1))) := by
        show _ = _
        rw [drop_at q k hlt]
        rfl
      by_cases hb : 9223372036854775807 < acc * 10 + (q[k].toNat - 48)
      · have hdiv : (9223372036854775807 - ((q[k].toNat : Int) - 48)) / 10 < (acc : Int) := by omega
        have HR : Hid (intR q = -1) := by
          show intR q = -1
          unfold intR
          rw [← HF.out, HS.out, if_pos hb]
        clear HS hb
        go_wp2
        go_ret
        exact ⟨ret_int HR.out.symm, rfl⟩
      · have hdiv : ¬ (9223372036854775807 - ((q[k].toNat : Int) - 48)) / 10 < (acc : Int) := by omega
        have hm : ((acc * 10 + (q[k].toNat - 48) : Nat) : Int) = (acc : Int) * 10 + ((q[k].toNat : Int) - 48) := by omega
        have hle : (acc : Int) * 10 + ((q[k].toNat : Int) - 48) ≤ 9223372036854775807 := by omega
        have HM : Hid (((acc * 10 + (q[k].toNat - 48) : Nat) : Int) = (acc : Int) * 10 + ((q[k].toNat : Int) - 48)) := hm
        have HB : Hid (¬ 9223372036854775807 < acc * 10 + (q[k].toNat - 48)) := hb
        clear hm hb
        go_wp2
        go_roundg (q.size + 1 - (k + 1))
        case measure => have := HG.out; omega
        case rel => exact ⟨k + 1, acc * 10 + (q[k].toNat - 48), rfl, by omega, by rw [HM.out], by go_num, by have := HB.out; omega, by rw [← HF.out, HS.out, if_neg HB.out], rfl⟩
    · obtain rfl : k = q.size := by omega
      have HV : Hid (intOfL 0 q.data.toList = some acc) := by
        show _ = _
        rw [← HF.out, List.drop_eq_nil_of_le (by simp)]
        rfl
      by_cases h1 : 1 < q.size
      · have hI1 : (1 : Int) < (q.size : Int) := by omega
        cases h0 : ((q[0].toNat : Int) == 48)
        · have HR : Hid (intR q = (acc : Int)) := by
            show intR q = _
            unfold intR
            rw [HV.out]
            simp only
            rw [dif_pos h1, if_neg (by have := nat_of_beqf h0; omega)]
          go_wp2
          go_ret
          exact ⟨ret_int HR.out.symm, rfl⟩
        · have HR : Hid (intR q = -1) := by
            show intR q = _
            unfold intR
            rw [HV.out]
            simp only
            rw [dif_pos h1, if_pos (by have := nat_of_beq h0; omega)]
          go_wp2
          go_ret
          exact ⟨ret_int HR.out.symm, rfl⟩
      · have hI1 : ¬ (1 : Int) < (q.size : Int) := by omega
        have HR : Hid (intR q = (acc : Int)) := by
          show intR q = _
          unfold intR
          rw [HV.out]
          simp only
          rw [dif_neg h1]
        go_wp2
        go_ret
        exact ⟨ret_int HR.out.symm, rfl⟩
end Go.Proofs.YtpflpbfnifpchaaGreatDoor
