/- The document's answer for package lex: tokenOf at digits. -/
import Derived.Test.YtpflpbfnifpchaaGreatDoorRefC
namespace Go.Proofs.YtpflpbfnifpchaaGreatDoor
open Go.RowKit

theorem digits_first {q : ByteArray} (hq0 : 0 < q.size) (hd : digitB (q[0].toNat : Int) = true) : digitsTo q 0 = passTo digitB q (q.size - 1) 1 := by
  have h := passTo_go (P := digitB) (s := q) (i := 0) hq0 hd
  simpa [digitsTo] using h

theorem extract_get (q : ByteArray) (n k : Nat) (h : k < (q.extract 0 n).size) (h' : k < q.size) : (q.extract 0 n)[k] = q[k] := by
  show (q.extract 0 n).data[k] = q.data[k]
  simp [ByteArray.data_extract]

/-- IntOf and the program's own reading of digits: alike. -/
theorem intR_same (q : ByteArray) (n : Nat) (hn : n ≤ q.size) (hn0 : 0 < n) (hq0 : 0 < q.size) (hdig : ∀ k (_ : k < n) (h' : k < q.size), 48 ≤ q[k].toNat ∧ q[k].toNat ≤ 57) (hto : digitsTo q 0 = n) :
    (intR (q.extract 0 n) < 0 ↔ intAt q 0 = none) ∧ (¬ intR (q.extract 0 n) < 0 → intAt q 0 = some (q.extract 0 n, n)) := by
  have hxs : (q.extract 0 n).size = n := by simp; omega
  have hx0 : ∀ h : 0 < (q.extract 0 n).size, (q.extract 0 n)[0] = q[0] := fun h => by
    show (q.extract 0 n).data[0] = q.data[0]
    simp [ByteArray.data_extract]
  have hall : ∀ c ∈ (q.extract 0 n).data.toList, 48 ≤ c.toNat ∧ c.toNat ≤ 57 := extract_all (p := fun c => 48 ≤ c.toNat ∧ c.toNat ≤ 57) hn (fun k _ h2 hk => hdig k h2 hk)
  have hne : (q.extract 0 n).data.toList ≠ [] := by
    intro e
    have h1 : (q.extract 0 n).data.toList.length = (q.extract 0 n).size := by simp
    rw [e, hxs] at h1
    simp at h1
    omega
  have hsame := int_same _ hne hall
  unfold intAt
  rw [dif_pos hq0, hto]
  simp only [Nat.sub_zero]
  unfold intR
  cases hv : intOfL 0 (q.extract 0 n).data.toList with
  | none =>
    have hno : ∀ v, Lib.parseIntB 64 (q.extract 0 n).data.toList ≠ .ok v := fun v h => by
      obtain ⟨u, hu⟩ := hsame.2 ⟨v, h⟩
      rw [hv] at hu
      cases hu
    refine ⟨⟨fun _ => ?_, fun _ => by simp⟩, fun h => absurd (by simp) h⟩
    split
    · rfl
    · split
      · rename_i v h; exact absurd h (hno v)
      · rfl
  | some v =>
    obtain ⟨u, hu⟩ := hsame.1 ⟨v, hv⟩
    simp only
    by_cases h1 : 1 < n
    · rw [dif_pos (by rw [hxs]; exact h1)]
      rw [hx0 (by omega)]
      by_cases h48 : q[0].toNat = 48
      · rw [if_pos h48]
        have : ((q[0].toNat : Int) == 48 && decide (1 < n)) = true := by simp [h48, h1]
        rw [if_pos this]
        exact ⟨⟨fun _ => rfl, fun _ => by decide⟩, fun h => absurd (by decide) h⟩
      · rw [if_neg h48]
        have : ((q[0].toNat : Int) == 48 && decide (1 < n)) = false := by simp; intro h; omega
        rw [if_neg (by rw [this]; decide), hu]
        exact ⟨⟨fun h => by omega, fun h => by cases h⟩, fun _ => rfl⟩
    · rw [dif_neg (by rw [hxs]; exact h1)]
      have : ((q[0].toNat : Int) == 48 && decide (1 < n)) = false := by simp; omega
      rw [if_neg (by rw [this]; decide), hu]
      exact ⟨⟨fun h => by omega, fun h => by cases h⟩, fun _ => rfl⟩

set_option maxRecDepth 100000 in
set_option maxHeartbeats 1000000 in
theorem tokenOf_int (q : ByteArray) (hq : q.size ≤ 6000) (hq0 : 0 < q.size) (hs : smallB (q[0].toNat : Int) = false) (hc : capitalB (q[0].toNat : Int) = false) (hd : digitB (q[0].toNat : Int) = true) (w : World) :
    Calls Tryz.prog 20 #[.string q] w fun ev w' => TPostR q ev ∧ Below w.heap.size w w' := by
  have HT : Hid (tokAt q 0 = (intAt q 0).map fun x => (kInt, x.1, x.2)) := by
    show _ = _
    unfold tokAt
    rw [dif_pos hq0, hs, hc, hd]
    rfl
  have HF : Hid (digitsTo q 0 = passTo digitB q (q.size - 1) 1) := digits_first hq0 hd
  have HD0 : Hid (48 ≤ q[0].toNat ∧ q[0].toNat ≤ 57) := by
    show _ ∧ _
    have : (48 : Int) ≤ (q[0].toNat : Int) ∧ (q[0].toNat : Int) ≤ 57 := by simpa [digitB] using hd
    omega
  have hI0 : (0 : Int) < (q.size : Int) := by omega
  have HR : Hid ((w.alloc (.cells #[.string ⟨#[]⟩, .string ⟨#[]⟩, .int .i64 0] 53)).heap[w.heap.size]? = some (.cells #[.string ⟨#[]⟩, .string ⟨#[]⟩, .int .i64 0] 53)) := heap_alloc_new _ _
  have HB : Hid (Below w.heap.size w (w.alloc (.cells #[.string ⟨#[]⟩, .string ⟨#[]⟩, .int .i64 0] 53))) := (Below.refl _ _).alloc (Nat.le_refl _) _
  go_enter Tryz.func20, Tryz.ntmps20
  go_wp2_with (first | (go_at_call 32; refine (low_any _ _).mono ?_; rintro e w' ⟨rfl, rfl⟩; rw [hs]) | (go_at_call 33; refine (high_any _ _).mono ?_; rintro e w' ⟨rfl, rfl⟩; rw [hc]) | (go_at_call 34; refine (digitR_any _ _).mono ?_; rintro e w' ⟨rfl, rfl⟩; rw [hd]))
  go_loopg [4] q.size (fun gk v4 wr => ∃ n : Nat, gk = q.size + 1 - n ∧ 1 ≤ n ∧ n ≤ q.size ∧ v4 = .int .i64 (n : Int) ∧ passTo digitB q (q.size - n) n = passTo digitB q (q.size - 1) 1 ∧ (∀ k (_ : k < n) (h' : k < q.size), 48 ≤ q[k].toNat ∧ q[k].toNat ≤ 57) ∧ wr.heap[w.heap.size]? = some (.cells #[.string ⟨#[]⟩, .string ⟨#[]⟩, .int .i64 0] 53) ∧ Below w.heap.size w wr)
  case atStart =>
    refine ⟨1, by omega, Nat.le_refl _, hq0, rfl, rfl, fun k h h' => ?_, HR.out, HB.out⟩
    obtain rfl : k = 0 := by omega
    exact HD0.out
  case round =>
    obtain ⟨n, hgk, hn1, hn, hv, hpt, hdig, hR, hb⟩ := hrel
    subst hv
    have HG : Hid (gk = q.size + 1 - n) := hgk
    have HP : Hid (passTo digitB q (q.size - n) n = passTo digitB q (q.size - 1) 1) := hpt
    have HD : Hid (∀ k (_ : k < n) (h' : k < q.size), 48 ≤ q[k].toNat ∧ q[k].toNat ≤ 57) := hdig
    have HR1 : Hid (wr.heap[w.heap.size]? = some (.cells #[.string ⟨#[]⟩, .string ⟨#[]⟩, .int .i64 0] 53)) := hR
    obtain ⟨r0, r1, r2, f0, f1, f2⟩ := tok_block hR
    clear hgk hpt hdig hR
    have hn0 : (0 : Int) ≤ (n : Int) := by omega
    by_cases hmore : ∃ h : n < q.size, digitB (q[n].toNat : Int) = true
    · obtain ⟨hlt, hdn⟩ := hmore
      have hI : (n : Int) < (q.size : Int) := by omega
      have HP2 : Hid (passTo digitB q (q.size - (n + 1)) (n + 1) = passTo digitB q (q.size - 1) 1) := (passTo_go hlt hdn).symm.trans HP.out
      have HD2 : Hid (∀ k (_ : k < n + 1) (h' : k < q.size), 48 ≤ q[k].toNat ∧ q[k].toNat ≤ 57) := fun k h h' => by
        by_cases hk : k < n
        · exact HD.out k hk h'
        · obtain rfl : k = n := by omega
          have : (48 : Int) ≤ (q[k].toNat : Int) ∧ (q[k].toNat : Int) ≤ 57 := by simpa [digitB] using hdn
          omega
      go_wp2_with fail
      refine (digitR_any _ _).mono ?_
      rintro ev w9 ⟨rfl, hw9⟩
      have hw9' := hw9.symm
      clear hw9
      subst hw9'
      rw [hdn]
      go_wp2_with fail
      go_roundg (q.size + 1 - (n + 1))
      case measure => have := HG.out; omega
      case rel => exact ⟨n + 1, rfl, by omega, by omega, by go_num, HP2.out, HD2.out, HR1.out, hb⟩
    · by_cases hlt : n < q.size
      · have hI : (n : Int) < (q.size : Int) := by omega
        have hdn : digitB (q[n].toNat : Int) = false := by
          cases h : digitB (q[n].toNat : Int)
          · rfl
          · exact absurd ⟨hlt, h⟩ hmore
        have HTo : Hid (digitsTo q 0 = n) := by
          show _ = _
          rw [HF.out, ← HP.out]
          exact passTo_stop hlt hdn
        clear hmore
        go_wp2_with fail
        refine (digitR_any _ _).mono ?_
        rintro ev w9 ⟨rfl, hw9⟩
        have hw9' := hw9.symm
        clear hw9
        subst hw9'
        rw [hdn]
        have hxs : (q.extract 0 n).size = n := by simp; omega
        have hxd : ∀ k (h : k < (q.extract 0 n).size), 48 ≤ (q.extract 0 n)[k].toNat ∧ (q.extract 0 n)[k].toNat ≤ 57 := fun k h => by
          have e := extract_get q n k h (by omega)
          rw [e]
          exact HD.out k (by omega) (by omega)
        have HI := intR_same q n hn (by omega) (by omega) HD.out HTo.out
        go_wp2_with fail
        refine (intOf_any (q.extract 0 n) (by omega) hxd _).mono ?_
        rintro ev w9 ⟨rfl, hw9⟩
        have hw9' := hw9.symm
        clear hw9
        subst hw9'
        by_cases hneg : intR (q.extract 0 n) < 0
        · have HV : Hid (tokAt q 0 = none) := by
            show _ = _
            rw [HT.out, HI.1.1 hneg]
            rfl
          clear HI
          go_wp2
          obtain ⟨t0, t1, t2⟩ := tok_set (w := wr) r0 r1 r2 (.string ⟨#[]⟩) (.string ⟨#[]⟩) (.int .i64 0)
          refine bodyPost_ret (tok_results _ _ w.heap.size _ _ _ rfl t0 t1 t2) rfl ?_
          exact ⟨TPostR.no HV.out, tok_below hb (Nat.le_refl _) _ _ _⟩
        · have HV : Hid (tokAt q 0 = some (kInt, q.extract 0 n, n)) := by
            show _ = _
            rw [HT.out, HI.2 (by omega)]
            rfl
          clear HI
          go_wp2
          obtain ⟨t0, t1, t2⟩ := tok_set (w := wr) r0 r1 r2 (.string ⟨#[105, 110, 116]⟩) (.string (q.extract 0 n)) (.int .i64 0)
          refine bodyPost_ret (tok_results _ _ w.heap.size _ _ _ rfl t0 t1 t2) rfl ?_
          exact ⟨TPostR.yes HV.out, tok_below hb (Nat.le_refl _) _ _ _⟩
      · have hne : n = q.size := by omega
        have hI : ¬ (n : Int) < (q.size : Int) := by omega
        have HTo : Hid (digitsTo q 0 = n) := by
          show _ = _
          rw [HF.out, ← HP.out]
          exact passTo_end hne
        clear hmore hne
        have hxs : (q.extract 0 n).size = n := by simp; omega
        have hxd : ∀ k (h : k < (q.extract 0 n).size), 48 ≤ (q.extract 0 n)[k].toNat ∧ (q.extract 0 n)[k].toNat ≤ 57 := fun k h => by
          have e := extract_get q n k h (by omega)
          rw [e]
          exact HD.out k (by omega) (by omega)
        have HI := intR_same q n hn (by omega) (by omega) HD.out HTo.out
        go_wp2_with fail
        refine (intOf_any (q.extract 0 n) (by omega) hxd _).mono ?_
        rintro ev w9 ⟨rfl, hw9⟩
        have hw9' := hw9.symm
        clear hw9
        subst hw9'
        by_cases hneg : intR (q.extract 0 n) < 0
        · have HV : Hid (tokAt q 0 = none) := by
            show _ = _
            rw [HT.out, HI.1.1 hneg]
            rfl
          clear HI
          go_wp2
          obtain ⟨t0, t1, t2⟩ := tok_set (w := wr) r0 r1 r2 (.string ⟨#[]⟩) (.string ⟨#[]⟩) (.int .i64 0)
          refine bodyPost_ret (tok_results _ _ w.heap.size _ _ _ rfl t0 t1 t2) rfl ?_
          exact ⟨TPostR.no HV.out, tok_below hb (Nat.le_refl _) _ _ _⟩
        · have HV : Hid (tokAt q 0 = some (kInt, q.extract 0 n, n)) := by
            show _ = _
            rw [HT.out, HI.2 (by omega)]
            rfl
          clear HI
          go_wp2
          obtain ⟨t0, t1, t2⟩ := tok_set (w := wr) r0 r1 r2 (.string ⟨#[105, 110, 116]⟩) (.string (q.extract 0 n)) (.int .i64 0)
          refine bodyPost_ret (tok_results _ _ w.heap.size _ _ _ rfl t0 t1 t2) rfl ?_
          exact ⟨TPostR.yes HV.out, tok_below hb (Nat.le_refl _) _ _ _⟩
end Go.Proofs.YtpflpbfnifpchaaGreatDoor
