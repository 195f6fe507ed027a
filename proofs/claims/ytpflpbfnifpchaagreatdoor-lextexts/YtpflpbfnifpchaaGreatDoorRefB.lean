/- The document's answer for package lex: strs, words, by contracts. -/
import Derived.Test.YtpflpbfnifpchaaGreatDoorRefA
import Derived.Deep.RegionHeld3
namespace Go.Proofs.YtpflpbfnifpchaaGreatDoor
open Go.RowKit

def SPostR (q : ByteArray) (ev : Ending) : Prop :=
  match strAt q 0 with
  | some (l, j) => ev = .returned (.tuple #[.string (strOfNums l), .int .i64 (j : Int)])
  | none => ev = .returned (.tuple #[.string ⟨#[]⟩, .int .i64 0])
theorem SPostR.yes {q : ByteArray} {l : List Int} {j : Nat} (h : strAt q 0 = some (l, j)) : SPostR q (.returned (.tuple #[.string (strOfNums l), .int .i64 (j : Int)])) := by
  unfold SPostR
  rw [h]
theorem SPostR.no {q : ByteArray} (h : strAt q 0 = none) : SPostR q (.returned (.tuple #[.string ⟨#[]⟩, .int .i64 0])) := by
  unfold SPostR
  rw [h]
theorem nums_snoc (l : List Int) (n : Int) : strOfNums l ++ strOfNums [n] = strOfNums (l ++ [n]) := by
  apply ByteArray.ext
  simp [strOfNums]
theorem nums_len (l : List Int) : (strOfNums l).size = l.length := by simp [strOfNums, ByteArray.size]

theorem byte_int (z : Int) (n : Nat) (hz : z = (n : Int)) (hn : n ≤ 255) (w : World) : Calls Tryz.prog 25 #[.int .i64 z] w fun ev w' => ev = .returned (.string (strOfNums [(n : Int)])) ∧ Below w.heap.size w w' := by
  subst hz
  exact byte_any n hn w

set_option maxRecDepth 100000 in
set_option maxHeartbeats 1000000 in
theorem strOf_any (q : ByteArray) (hq : q.size ≤ 6000) (hq0 : 0 < q.size) (w : World) : Calls Tryz.prog 38 #[.string q] w fun ev w' => SPostR q ev ∧ Below w.heap.size w w' := by
  go_enter Tryz.func38, Tryz.ntmps38
  go_wp2_with fail
  go_loopg [4, 5] q.size (fun gk v4 v5 wr => ∃ (k : Nat) (acc : List Int), gk = q.size + 1 - k ∧ k ≤ q.size ∧ v4 = .string (strOfNums acc) ∧ v5 = .int .i64 (k : Int) ∧ acc.length ≤ k ∧ strFrom q (q.size + 1 - k) k acc = strAt q 0 ∧ Below w.heap.size w wr)
  case atStart => exact ⟨1, [], by omega, hq0, rfl, rfl, by simp, rfl, Below.refl _ _⟩
  case round =>
    obtain ⟨k, acc, hgk, hk, hv4, hv5, hal, hstr, hb⟩ := hrel
    subst hv4 hv5
    have HG : Hid (gk = q.size + 1 - k) := hgk
    have HS : Hid (strFrom q (q.size + 1 - k) k acc = strAt q 0) := hstr
    clear hgk hstr
    have hk0 : (0 : Int) ≤ (k : Int) := by omega
    have hnl : Hid ((strOfNums acc).size ≤ 6000) := by show _ ≤ _; rw [nums_len]; omega
    have HQ0 : Hid (0 < q.size) := hq0
    clear hq0
    generalize ho : strOfNums acc = so at hnl ⊢
    have HO : Hid (strOfNums acc = so) := ho
    have hnz := hnl.out
    clear ho hnl
    by_cases hlt : k < q.size
    · have hI : (k : Int) < (q.size : Int) := by omega
      have HF : Hid (q.size + 1 - k = (q.size - k) + 1) := by show _ = _; omega
      have hc0 : (0 : Int) ≤ (q[k].toNat : Int) := by omega
      have hc1 : q[k].toNat ≤ 255 := by have := q[k].toNat_lt; omega
      have hC1 : (q[k].toNat : Int) ≤ 255 := by omega
      cases e34 : ((q[k].toNat : Int) == 34)
      rotate_left
      · have HV : Hid (strAt q 0 = some (acc, k + 1)) := HS.out.symm.trans (by rw [HF.out]; simp [strFrom, hlt, e34])
        go_wp2
        refine bodyPost_ret (results_tmp2 rfl _ _ _) rfl ?_
        exact ⟨by rw [← HO.out]; exact SPostR.yes HV.out, hb⟩
      by_cases l32 : (q[k].toNat : Int) < 32
      · have HV : Hid (strAt q 0 = none) := HS.out.symm.trans (by rw [HF.out]; simp [strFrom, hlt, e34, l32])
        go_wp2
        refine bodyPost_ret (results_tmp2 rfl _ _ _) rfl ?_
        exact ⟨SPostR.no HV.out, hb⟩
      by_cases g126 : 126 < (q[k].toNat : Int)
      · have HV : Hid (strAt q 0 = none) := HS.out.symm.trans (by rw [HF.out]; simp [strFrom, hlt, e34, l32, g126])
        go_wp2
        refine bodyPost_ret (results_tmp2 rfl _ _ _) rfl ?_
        exact ⟨SPostR.no HV.out, hb⟩
      cases e92 : ((q[k].toNat : Int) == 92)
      · have hne : ((q[k].toNat : Int) != 92) = true := by simp [bne, e92]
        have HS2 : Hid (strFrom q (q.size - k) (k + 1) (acc ++ [(q[k].toNat : Int)]) = strAt q 0) := Eq.trans (by rw [HF.out]; simp [strFrom, hlt, e34, l32, g126, e92]) HS.out
        have a1 := fun wx => run_string_add (P := Tryz.prog) wx so (strOfNums [(q[k].toNat : Int)]) (by omega) (by rw [nums_len]; simp)
        go_wp2_with fail
        refine (byte_any q[k].toNat hc1 _).mono ?_
        rintro ev w1 ⟨rfl, hb1⟩
        go_wp2_with fail
        go_roundg (q.size + 1 - (k + 1))
        case measure => have := HG.out; omega
        case rel => exact ⟨k + 1, acc ++ [(q[k].toNat : Int)], rfl, by omega, by rw [← nums_snoc, HO.out], by go_num, by simp; omega, by rw [show q.size + 1 - (k + 1) = q.size - k by omega]; exact HS2.out, hb.trans (hb1.mono hb.size)⟩
      · have hne : ((q[k].toNat : Int) != 92) = false := by simp [bne, e92]
        by_cases h2 : k + 1 < q.size
        rotate_left
        · have hdI : decide ((q.size : Int) ≤ (k : Int) + 1) = true := by simp; omega
          have HV : Hid (strAt q 0 = none) := HS.out.symm.trans (by rw [HF.out]; simp [strFrom, hlt, e34, l32, g126, e92, escAt, h2])
          clear h2
          go_wp2
          refine bodyPost_ret (results_tmp2 rfl _ _ _) rfl ?_
          exact ⟨SPostR.no HV.out, hb⟩
        · have hdI : decide ((q.size : Int) ≤ (k : Int) + 1) = false := by simp; omega
          have hI1 : (k : Int) + 1 < (q.size : Int) := by omega
          have hd1 : q[k + 1].toNat ≤ 255 := by have := q[k + 1].toNat_lt; omega
          have hD1 : (q[k + 1].toNat : Int) ≤ 255 := by omega
          have hD0 : (0 : Int) ≤ (q[k + 1].toNat : Int) := by omega
          cases d110 : ((q[k + 1].toNat : Int) == 110)
          rotate_left
          · have HX : Hid (escAt q (k + 1) = some (10, k + 1 + 1)) := by show _ = _; simp [escAt, h2, d110]
            have HS2 : Hid (strFrom q (q.size + 1 - (k + 2)) (k + 2) (acc ++ [10]) = strAt q 0) := Eq.trans ((strFrom_fuel q _ (q.size - k) _ _ (by omega) (by omega)).trans (by rw [HF.out]; simp only [strFrom, hlt, dif_pos, e34, l32, g126, e92, Bool.false_eq_true, if_false, if_true]; rw [HX.out])) HS.out
            have a1 := fun wx => run_string_add (P := Tryz.prog) wx so (strOfNums [10]) (by omega) (by rw [nums_len]; simp)
            go_wp2_with fail
            refine (byte_any 10 (by decide) _).mono ?_
            rintro ev w1 ⟨rfl, hb1⟩
            go_wp2_with fail
            go_roundg (q.size + 1 - (k + 2))
            case measure => have := HG.out; omega
            case rel => exact ⟨k + 2, acc ++ [10], rfl, by omega, by rw [← nums_snoc, HO.out], by go_num, by simp; omega, HS2.out, hb.trans (hb1.mono hb.size)⟩
          cases d34 : ((q[k + 1].toNat : Int) == 34)
          rotate_left
          · have HX : Hid (escAt q (k + 1) = some (34, k + 1 + 1)) := by show _ = _; simp [escAt, h2, d110, d34]
            have hv : (q[k + 1].toNat : Int) = 34 := nat_of_beq d34
            have HS2 : Hid (strFrom q (q.size + 1 - (k + 2)) (k + 2) (acc ++ [34]) = strAt q 0) := Eq.trans ((strFrom_fuel q _ (q.size - k) _ _ (by omega) (by omega)).trans (by rw [HF.out]; simp only [strFrom, hlt, dif_pos, e34, l32, g126, e92, Bool.false_eq_true, if_false, if_true]; rw [HX.out])) HS.out
            have a1 := fun wx => run_string_add (P := Tryz.prog) wx so (strOfNums [34]) (by omega) (by rw [nums_len]; simp)
            go_wp2_with fail
            refine (byte_any 34 (by decide) _).mono ?_
            rintro ev w1 ⟨rfl, hb1⟩
            go_wp2_with fail
            go_roundg (q.size + 1 - (k + 2))
            case measure => have := HG.out; omega
            case rel => exact ⟨k + 2, acc ++ [34], rfl, by omega, by rw [← nums_snoc, HO.out], by go_num, by simp; omega, HS2.out, hb.trans (hb1.mono hb.size)⟩
          cases d92 : ((q[k + 1].toNat : Int) == 92)
          rotate_left
          · have HX : Hid (escAt q (k + 1) = some (92, k + 1 + 1)) := by show _ = _; simp [escAt, h2, d110, d34, d92]
            have hv : (q[k + 1].toNat : Int) = 92 := nat_of_beq d92
            have HS2 : Hid (strFrom q (q.size + 1 - (k + 2)) (k + 2) (acc ++ [92]) = strAt q 0) := Eq.trans ((strFrom_fuel q _ (q.size - k) _ _ (by omega) (by omega)).trans (by rw [HF.out]; simp only [strFrom, hlt, dif_pos, e34, l32, g126, e92, Bool.false_eq_true, if_false, if_true]; rw [HX.out])) HS.out
            have a1 := fun wx => run_string_add (P := Tryz.prog) wx so (strOfNums [92]) (by omega) (by rw [nums_len]; simp)
            go_wp2_with fail
            refine (byte_any 92 (by decide) _).mono ?_
            rintro ev w1 ⟨rfl, hb1⟩
            go_wp2_with fail
            go_roundg (q.size + 1 - (k + 2))
            case measure => have := HG.out; omega
            case rel => exact ⟨k + 2, acc ++ [92], rfl, by omega, by rw [← nums_snoc, HO.out], by go_num, by simp; omega, HS2.out, hb.trans (hb1.mono hb.size)⟩
          cases d120 : ((q[k + 1].toNat : Int) == 120)
          · have HV : Hid (strAt q 0 = none) := HS.out.symm.trans (by rw [HF.out]; simp [strFrom, hlt, e34, l32, g126, e92, escAt, h2, d110, d34, d92, d120])
            go_wp2
            refine bodyPost_ret (results_tmp2 rfl _ _ _) rfl ?_
            exact ⟨SPostR.no HV.out, hb⟩
          · by_cases h4 : k + 3 < q.size
            · have hI3 : (k : Int) + 3 < (q.size : Int) := by omega
              have hI2 : (k : Int) + 2 < (q.size : Int) := by omega
              have hxb1 := hexVal_bd q[k + 2]
              have hxb2 := hexVal_bd q[k + 3]
              by_cases hx1 : 0 ≤ hexVal q[k + 2]
              · by_cases hx2 : 0 ≤ hexVal q[k + 3]
                · have HX : Hid (escAt q (k + 1) = some (hexVal q[k + 2] * 16 + hexVal q[k + 3], k + 1 + 3)) := by
                    show _ = _
                    have h4' : k + 1 + 2 < q.size := by omega
                    have hx1' : 0 ≤ hexVal q[k + 1 + 1] := hx1
                    have hx2' : 0 ≤ hexVal q[k + 1 + 2] := hx2
                    simp only [escAt, h2, dif_pos, d110, d34, d92, d120, h4', Bool.false_eq_true, if_false, if_true]
                    rw [if_pos ⟨hx1', hx2'⟩]
                  obtain ⟨n, hn⟩ : ∃ n : Nat, 16 * hexVal q[k + 2] + hexVal q[k + 3] = (n : Int) := ⟨(16 * hexVal q[k + 2] + hexVal q[k + 3]).toNat, by omega⟩
                  have hn2 : n ≤ 255 := by omega
                  have hn3 : hexVal q[k + 2] * 16 + hexVal q[k + 3] = (n : Int) := by omega
                  rw [hn3] at HX
                  have HS2 : Hid (strFrom q (q.size + 1 - (k + 4)) (k + 4) (acc ++ [(n : Int)]) = strAt q 0) := Eq.trans ((strFrom_fuel q _ (q.size - k) _ _ (by omega) (by omega)).trans (by rw [HF.out]; simp only [strFrom, hlt, dif_pos, e34, l32, g126, e92, Bool.false_eq_true, if_false, if_true]; rw [HX.out])) HS.out
                  have a1 := fun wx => run_string_add (P := Tryz.prog) wx so (strOfNums [(n : Int)]) (by omega) (by rw [nums_len]; simp)
                  clear HX
                  go_wp2_with fail
                  refine (hexOf_any _ _).mono ?_
                  rintro ev w1 ⟨rfl, rfl⟩
                  go_wp2_with fail
                  refine (hexOf_any _ _).mono ?_
                  rintro ev w1 ⟨rfl, rfl⟩
                  have hw2 : IntKind.i64.wrap ((k : Int) + 2) = (k : Int) + 2 := wrap_small _ (by omega) (by omega)
                  have hw3 : IntKind.i64.wrap ((k : Int) + 3) = (k : Int) + 3 := wrap_small _ (by omega) (by omega)
                  have hwm : IntKind.i64.wrap (16 * hexVal q[k + 2]) = 16 * hexVal q[k + 2] := wrap_small _ (by omega) (by omega)
                  have hws : IntKind.i64.wrap (16 * hexVal q[k + 2] + hexVal q[k + 3]) = (n : Int) := (wrap_small _ (by omega) (by omega)).trans hn
                  go_wp2_with fail
                  go_region_held3 (fun _ => True) (trivial) (first
                    | (go_at_call 58; refine (hexOf_any _ _).mono ?_; rintro ev w1 ⟨rfl, rfl⟩)
                    | (go_at_call 25; refine (byte_int _ n (by simp [show ((k : Int) + 2).toNat = k + 2 by omega, show ((k : Int) + 3).toNat = k + 3 by omega, hwm, hws]) hn2 _).mono ?_; rintro ev w5 ⟨rfl, hb1⟩))
                  all_goals
                    go_wp2
                    go_roundg (q.size + 1 - (k + 4))
                    case measure => have := HG.out; omega
                    case rel => exact ⟨k + 4, acc ++ [(n : Int)], rfl, by omega, by rw [← nums_snoc, HO.out], by go_num, by simp; omega, HS2.out, hb.drew.trans (hb1.mono hb.size)⟩
                · have HV : Hid (strAt q 0 = none) := HS.out.symm.trans (by
                    have hx2' : ¬ 0 ≤ hexVal q[k + 1 + 2] := hx2
                    rw [HF.out]
                    simp [strFrom, hlt, e34, l32, g126, e92, escAt, h2, d110, d34, d92, d120, hx2'])
                  go_wp2_with fail
                  refine (hexOf_any _ _).mono ?_
                  rintro ev w1 ⟨rfl, rfl⟩
                  go_wp2_with fail
                  refine (hexOf_any _ _).mono ?_
                  rintro ev w1 ⟨rfl, rfl⟩
                  go_wp2_with fail
                  refine bodyPost_ret (results_tmp2 rfl _ _ _) rfl ?_
                  exact ⟨SPostR.no HV.out, hb⟩
              · have HV : Hid (strAt q 0 = none) := HS.out.symm.trans (by
                  have hx1' : ¬ 0 ≤ hexVal q[k + 1 + 1] := hx1
                  rw [HF.out]
                  simp [strFrom, hlt, e34, l32, g126, e92, escAt, h2, d110, d34, d92, d120, hx1'])
                go_wp2_with fail
                refine (hexOf_any _ _).mono ?_
                rintro ev w1 ⟨rfl, rfl⟩
                go_wp2_with fail
                refine bodyPost_ret (results_tmp2 rfl _ _ _) rfl ?_
                exact ⟨SPostR.no HV.out, hb⟩
            · have hI3 : decide ((k : Int) + 3 < (q.size : Int)) = false := by simp; omega
              have HV : Hid (strAt q 0 = none) := HS.out.symm.trans (by
                have h4' : ¬ k + 1 + 2 < q.size := by omega
                rw [HF.out]
                simp [strFrom, hlt, e34, l32, g126, e92, escAt, h2, d110, d34, d92, d120, h4'])
              clear h4
              go_wp2_with fail
              refine bodyPost_ret (results_tmp2 rfl _ _ _) rfl ?_
              exact ⟨SPostR.no HV.out, hb⟩
    · have hke : k = q.size := by omega
      have HV : Hid (strAt q 0 = none) := HS.out.symm.trans (strFrom_end hke)
      have hI : ¬ (k : Int) < (q.size : Int) := by omega
      clear hke hlt
      go_wp2_with fail
      refine bodyPost_ret (results_tmp2 rfl _ _ _) rfl ?_
      exact ⟨SPostR.no HV.out, hb⟩
end Go.Proofs.YtpflpbfnifpchaaGreatDoor
