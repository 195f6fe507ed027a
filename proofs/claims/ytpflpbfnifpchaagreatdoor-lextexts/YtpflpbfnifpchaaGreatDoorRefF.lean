/- The document's answer for package lex: tokenOf at names and words. -/
import Derived.Test.YtpflpbfnifpchaaGreatDoorRefC
namespace Go.Proofs.YtpflpbfnifpchaaGreatDoor
open Go.RowKit

set_option maxRecDepth 100000 in
set_option maxHeartbeats 2000000 in
theorem tokenOf_name (q : ByteArray) (hq : q.size ≤ 6000) (hq0 : 0 < q.size) (hs : (smallB (q[0].toNat : Int) || capitalB (q[0].toNat : Int)) = true) (w : World) :
    Calls Tryz.prog 20 #[.string q] w fun ev w' => TPostR q ev ∧ Below w.heap.size w w' := by
  have HT : Hid (tokAt q 0 = (nameAt q 0).map fun x => (if x.1 then kWord else kName, x.2.1, x.2.2)) := by
    show _ = _
    unfold tokAt
    rw [dif_pos hq0, if_pos hs]
  have hI0 : (0 : Int) < (q.size : Int) := by omega
  have HR : Hid ((w.alloc (.cells #[.string ⟨#[]⟩, .string ⟨#[]⟩, .int .i64 0] 53)).heap[w.heap.size]? = some (.cells #[.string ⟨#[]⟩, .string ⟨#[]⟩, .int .i64 0] 53)) := heap_alloc_new _ _
  have HB : Hid (Below w.heap.size w (w.alloc (.cells #[.string ⟨#[]⟩, .string ⟨#[]⟩, .int .i64 0] 53))) := (Below.refl _ _).alloc (Nat.le_refl _) _
  cases hsm : smallB (q[0].toNat : Int)
  · have hcp : capitalB (q[0].toNat : Int) = true := by simpa [hsm] using hs
    go_enter Tryz.func20, Tryz.ntmps20
    go_wp2_with (first | (go_at_call 32; refine (low_any _ _).mono ?_; rintro e w' ⟨rfl, rfl⟩; rw [hsm]) | (go_at_call 33; refine (high_any _ _).mono ?_; rintro e w' ⟨rfl, rfl⟩; rw [hcp]))
    go_loopg [4] q.size (fun gk v4 wr => ∃ n : Nat, gk = q.size + 1 - n ∧ 1 ≤ n ∧ n ≤ q.size ∧ v4 = .int .i64 (n : Int) ∧ passTo nameB q (q.size - n) n = passTo nameB q (q.size - 1) 1 ∧ wr.heap[w.heap.size]? = some (.cells #[.string ⟨#[]⟩, .string ⟨#[]⟩, .int .i64 0] 53) ∧ Below w.heap.size w wr)
    case atStart => exact ⟨1, by omega, Nat.le_refl _, hq0, rfl, rfl, HR.out, HB.out⟩
    case round =>
      obtain ⟨n, hgk, hn1, hn, hv, hpt, hR, hb⟩ := hrel
      subst hv
      have HG : Hid (gk = q.size + 1 - n) := hgk
      have HP : Hid (passTo nameB q (q.size - n) n = passTo nameB q (q.size - 1) 1) := hpt
      have HR1 : Hid (wr.heap[w.heap.size]? = some (.cells #[.string ⟨#[]⟩, .string ⟨#[]⟩, .int .i64 0] 53)) := hR
      clear hgk hpt hR
      have hn0 : (0 : Int) ≤ (n : Int) := by omega
      by_cases hlt : n < q.size
      · have hI : (n : Int) < (q.size : Int) := by omega
        cases hn1s : smallB (q[n].toNat : Int)
        · cases hn1d : digitB (q[n].toNat : Int)
          · have hnb : nameB (q[n].toNat : Int) = false := by simp [nameB, hn1s, hn1d]
            have HTo : Hid (nameTo q 0 = n) := by
              show _ = _
              unfold nameTo
              rw [Nat.zero_add, ← HP.out]
              exact passTo_stop hlt hnb
            clear hnb
            go_wp2_with fail
            refine (low_any _ _).mono ?_
            rintro ev w9 ⟨rfl, hw9⟩
            have hw9' := hw9.symm
            clear hw9
            subst hw9'
            rw [hn1s]
            go_wp2_with fail
            refine (digitR_any _ _).mono ?_
            rintro ev w9 ⟨rfl, hw9⟩
            have hw9' := hw9.symm
            clear hw9
            subst hw9'
            rw [hn1d]
            have hxs : (q.extract 0 n).size = n := by simp; omega
            go_wp2_with fail
            go_region_held3 (fun _ => True) (trivial) (first
              | (go_at_call 36; refine (words_any _).mono ?_; rintro ev w5 ⟨rfl, rfl⟩)
              | (go_at_call 35; refine (has_any (q.extract 0 n) _ _ ?_).mono ?_; exact heap_alloc_new _ _; rintro ev w6 ⟨rfl, rfl⟩))
            have hb5 : Below wr.heap.size wr (wr.alloc (.cells wordCells 9)).drew := ((Below.refl _ _).alloc (Nat.le_refl _) _).drew
            have hlt5 := lt_of_heap HR1.out
            obtain ⟨r0, r1, r2, f0, f1, f2⟩ := tok_block ((hb5.block _ hlt5).trans HR1.out)
            have hbw5 := hb.trans (hb5.mono hb.size)
            clear hb5 hlt5
            generalize (wr.alloc (.cells wordCells 9)).drew = w5 at r0 r1 r2 f0 f1 f2 hbw5 ⊢
            cases hwd : wordB (q.extract 0 n)
            · by_cases hcap : capitalB (q[0].toNat : Int) = true
              · have HV : Hid (tokAt q 0 = none) := by
                  show _ = _
                  rw [HT.out]
                  unfold nameAt
                  rw [dif_pos hq0, HTo.out, hwd, if_neg (by decide), if_pos hcap]
                  rfl
                go_wp2_with (go_at_call 33; refine (high_any _ _).mono ?_; rintro e w' ⟨rfl, hw'⟩; have hw'' := hw'.symm; clear hw'; subst hw''; rw [hcap])
                obtain ⟨t0, t1, t2⟩ := tok_set r0 r1 r2 (.string ⟨#[]⟩) (.string ⟨#[]⟩) (.int .i64 0)
                refine bodyPost_ret (tok_results _ _ w.heap.size _ _ _ rfl t0 t1 t2) rfl ?_
                exact ⟨TPostR.no HV.out, tok_below hbw5 (Nat.le_refl _) _ _ _⟩
              · exact absurd hcp hcap
            · have HV : Hid (tokAt q 0 = some (kWord, q.extract 0 n, n)) := by
                show _ = _
                rw [HT.out]
                unfold nameAt
                rw [dif_pos hq0, HTo.out, hwd, if_pos rfl]
                rfl
              go_wp2
              obtain ⟨t0, t1, t2⟩ := tok_set r0 r1 r2 (.string ⟨#[119, 111, 114, 100]⟩) (.string (q.extract 0 n)) (.int .i64 0)
              refine bodyPost_ret (tok_results _ _ w.heap.size _ _ _ rfl t0 t1 t2) rfl ?_
              exact ⟨TPostR.yes HV.out, tok_below hbw5 (Nat.le_refl _) _ _ _⟩
          · have hnb : nameB (q[n].toNat : Int) = true := by simp [nameB, hn1d]
            have HP2 : Hid (passTo nameB q (q.size - (n + 1)) (n + 1) = passTo nameB q (q.size - 1) 1) := (passTo_go hlt hnb).symm.trans HP.out
            clear hnb
            go_wp2_with fail
            refine (low_any _ _).mono ?_
            rintro ev w9 ⟨rfl, hw9⟩
            have hw9' := hw9.symm
            clear hw9
            subst hw9'
            rw [hn1s]
            go_wp2_with fail
            refine (digitR_any _ _).mono ?_
            rintro ev w9 ⟨rfl, hw9⟩
            have hw9' := hw9.symm
            clear hw9
            subst hw9'
            rw [hn1d]
            go_wp2_with fail
            go_roundg (q.size + 1 - (n + 1))
            case measure => have := HG.out; omega
            case rel => exact ⟨n + 1, rfl, by omega, by omega, by go_num, HP2.out, HR1.out, hb⟩
        · have hnb : nameB (q[n].toNat : Int) = true := by simp [nameB, hn1s]
          have HP2 : Hid (passTo nameB q (q.size - (n + 1)) (n + 1) = passTo nameB q (q.size - 1) 1) := (passTo_go hlt hnb).symm.trans HP.out
          clear hnb
          go_wp2_with fail
          refine (low_any _ _).mono ?_
          rintro ev w9 ⟨rfl, hw9⟩
          have hw9' := hw9.symm
          clear hw9
          subst hw9'
          rw [hn1s]
          go_wp2_with fail
          go_roundg (q.size + 1 - (n + 1))
          case measure => have := HG.out; omega
          case rel => exact ⟨n + 1, rfl, by omega, by omega, by go_num, HP2.out, HR1.out, hb⟩
      · have hne : n = q.size := by omega
        have hI : ¬ (n : Int) < (q.size : Int) := by omega
        have HTo : Hid (nameTo q 0 = n) := by
          show _ = _
          unfold nameTo
          rw [Nat.zero_add, ← HP.out]
          exact passTo_end hne
        clear hne
        have hxs : (q.extract 0 n).size = n := by simp; omega
        go_wp2_with fail
        go_region_held3 (fun _ => True) (trivial) (first
          | (go_at_call 36; refine (words_any _).mono ?_; rintro ev w5 ⟨rfl, rfl⟩)
          | (go_at_call 35; refine (has_any (q.extract 0 n) _ _ ?_).mono ?_; exact heap_alloc_new _ _; rintro ev w6 ⟨rfl, rfl⟩))
        have hb5 : Below wr.heap.size wr (wr.alloc (.cells wordCells 9)).drew := ((Below.refl _ _).alloc (Nat.le_refl _) _).drew
        have hlt5 := lt_of_heap HR1.out
        obtain ⟨r0, r1, r2, f0, f1, f2⟩ := tok_block ((hb5.block _ hlt5).trans HR1.out)
        have hbw5 := hb.trans (hb5.mono hb.size)
        clear hb5 hlt5
        generalize (wr.alloc (.cells wordCells 9)).drew = w5 at r0 r1 r2 f0 f1 f2 hbw5 ⊢
        cases hwd : wordB (q.extract 0 n)
        · by_cases hcap : capitalB (q[0].toNat : Int) = true
          · have HV : Hid (tokAt q 0 = none) := by
              show _ = _
              rw [HT.out]
              unfold nameAt
              rw [dif_pos hq0, HTo.out, hwd, if_neg (by decide), if_pos hcap]
              rfl
            go_wp2_with (go_at_call 33; refine (high_any _ _).mono ?_; rintro e w' ⟨rfl, hw'⟩; have hw'' := hw'.symm; clear hw'; subst hw''; rw [hcap])
            obtain ⟨t0, t1, t2⟩ := tok_set r0 r1 r2 (.string ⟨#[]⟩) (.string ⟨#[]⟩) (.int .i64 0)
            refine bodyPost_ret (tok_results _ _ w.heap.size _ _ _ rfl t0 t1 t2) rfl ?_
            exact ⟨TPostR.no HV.out, tok_below hbw5 (Nat.le_refl _) _ _ _⟩
          · exact absurd hcp hcap
        · have HV : Hid (tokAt q 0 = some (kWord, q.extract 0 n, n)) := by
            show _ = _
            rw [HT.out]
            unfold nameAt
            rw [dif_pos hq0, HTo.out, hwd, if_pos rfl]
            rfl
          go_wp2
          obtain ⟨t0, t1, t2⟩ := tok_set r0 r1 r2 (.string ⟨#[119, 111, 114, 100]⟩) (.string (q.extract 0 n)) (.int .i64 0)
          refine bodyPost_ret (tok_results _ _ w.heap.size _ _ _ rfl t0 t1 t2) rfl ?_
          exact ⟨TPostR.yes HV.out, tok_below hbw5 (Nat.le_refl _) _ _ _⟩
  · go_enter Tryz.func20, Tryz.ntmps20
    go_wp2_with (first | (go_at_call 32; refine (low_any _ _).mono ?_; rintro e w' ⟨rfl, rfl⟩; rw [hsm]) | fail)
    go_loopg [4] q.size (fun gk v4 wr => ∃ n : Nat, gk = q.size + 1 - n ∧ 1 ≤ n ∧ n ≤ q.size ∧ v4 = .int .i64 (n : Int) ∧ passTo nameB q (q.size - n) n = passTo nameB q (q.size - 1) 1 ∧ wr.heap[w.heap.size]? = some (.cells #[.string ⟨#[]⟩, .string ⟨#[]⟩, .int .i64 0] 53) ∧ Below w.heap.size w wr)
    case atStart => exact ⟨1, by omega, Nat.le_refl _, hq0, rfl, rfl, HR.out, HB.out⟩
    case round =>
      obtain ⟨n, hgk, hn1, hn, hv, hpt, hR, hb⟩ := hrel
      subst hv
      have HG : Hid (gk = q.size + 1 - n) := hgk
      have HP : Hid (passTo nameB q (q.size - n) n = passTo nameB q (q.size - 1) 1) := hpt
      have HR1 : Hid (wr.heap[w.heap.size]? = some (.cells #[.string ⟨#[]⟩, .string ⟨#[]⟩, .int .i64 0] 53)) := hR
      clear hgk hpt hR
      have hn0 : (0 : Int) ≤ (n : Int) := by omega
      by_cases hlt : n < q.size
      · have hI : (n : Int) < (q.size : Int) := by omega
        cases hn1s : smallB (q[n].toNat : Int)
        · cases hn1d : digitB (q[n].toNat : Int)
          · have hnb : nameB (q[n].toNat : Int) = false := by simp [nameB, hn1s, hn1d]
            have HTo : Hid (nameTo q 0 = n) := by
              show _ = _
              unfold nameTo
              rw [Nat.zero_add, ← HP.out]
              exact passTo_stop hlt hnb
            clear hnb
            go_wp2_with fail
            refine (low_any _ _).mono ?_
            rintro ev w9 ⟨rfl, hw9⟩
            have hw9' := hw9.symm
            clear hw9
            subst hw9'
            rw [hn1s]
            go_wp2_with fail
            refine (digitR_any _ _).mono ?_
            rintro ev w9 ⟨rfl, hw9⟩
            have hw9' := hw9.symm
            clear hw9
            subst hw9'
            rw [hn1d]
            have hxs : (q.extract 0 n).size = n := by simp; omega
            go_wp2_with fail
            go_region_held3 (fun _ => True) (trivial) (first
              | (go_at_call 36; refine (words_any _).mono ?_; rintro ev w5 ⟨rfl, rfl⟩)
              | (go_at_call 35; refine (has_any (q.extract 0 n) _ _ ?_).mono ?_; exact heap_alloc_new _ _; rintro ev w6 ⟨rfl, rfl⟩))
            have hb5 : Below wr.heap.size wr (wr.alloc (.cells wordCells 9)).drew := ((Below.refl _ _).alloc (Nat.le_refl _) _).drew
            have hlt5 := lt_of_heap HR1.out
            obtain ⟨r0, r1, r2, f0, f1, f2⟩ := tok_block ((hb5.block _ hlt5).trans HR1.out)
            have hbw5 := hb.trans (hb5.mono hb.size)
            clear hb5 hlt5
            generalize (wr.alloc (.cells wordCells 9)).drew = w5 at r0 r1 r2 f0 f1 f2 hbw5 ⊢
            cases hwd : wordB (q.extract 0 n)
            · by_cases hcap : capitalB (q[0].toNat : Int) = true
              · have HV : Hid (tokAt q 0 = none) := by
                  show _ = _
                  rw [HT.out]
                  unfold nameAt
                  rw [dif_pos hq0, HTo.out, hwd, if_neg (by decide), if_pos hcap]
                  rfl
                go_wp2_with (go_at_call 33; refine (high_any _ _).mono ?_; rintro e w' ⟨rfl, hw'⟩; have hw'' := hw'.symm; clear hw'; subst hw''; rw [hcap])
                obtain ⟨t0, t1, t2⟩ := tok_set r0 r1 r2 (.string ⟨#[]⟩) (.string ⟨#[]⟩) (.int .i64 0)
                refine bodyPost_ret (tok_results _ _ w.heap.size _ _ _ rfl t0 t1 t2) rfl ?_
                exact ⟨TPostR.no HV.out, tok_below hbw5 (Nat.le_refl _) _ _ _⟩
              · skip
                have hcapf : capitalB (q[0].toNat : Int) = false := by simpa using hcap
                by_cases h16 : 16 < n
                · have hI16 : (16 : Int) < (n : Int) := by omega
                  have HV : Hid (tokAt q 0 = none) := by
                    show _ = _
                    rw [HT.out]
                    unfold nameAt
                    rw [dif_pos hq0, HTo.out, hwd, if_neg (by decide), if_neg hcap, if_pos (by omega)]
                    rfl
                  go_wp2_with (go_at_call 33; refine (high_any _ _).mono ?_; rintro e w' ⟨rfl, hw'⟩; have hw'' := hw'.symm; clear hw'; subst hw''; rw [hcapf])
                  obtain ⟨t0, t1, t2⟩ := tok_set r0 r1 r2 (.string ⟨#[]⟩) (.string ⟨#[]⟩) (.int .i64 0)
                  refine bodyPost_ret (tok_results _ _ w.heap.size _ _ _ rfl t0 t1 t2) rfl ?_
                  exact ⟨TPostR.no HV.out, tok_below hbw5 (Nat.le_refl _) _ _ _⟩
                · have hI16 : ¬ (16 : Int) < (n : Int) := by omega
                  have HV : Hid (tokAt q 0 = some (kName, q.extract 0 n, n)) := by
                    show _ = _
                    rw [HT.out]
                    unfold nameAt
                    rw [dif_pos hq0, HTo.out, hwd, if_neg (by decide), if_neg hcap, if_neg (by omega)]
                    rfl
                  go_wp2_with (go_at_call 33; refine (high_any _ _).mono ?_; rintro e w' ⟨rfl, hw'⟩; have hw'' := hw'.symm; clear hw'; subst hw''; rw [hcapf])
                  obtain ⟨t0, t1, t2⟩ := tok_set r0 r1 r2 (.string ⟨#[110, 97, 109, 101]⟩) (.string (q.extract 0 n)) (.int .i64 0)
                  refine bodyPost_ret (tok_results _ _ w.heap.size _ _ _ rfl t0 t1 t2) rfl ?_
                  exact ⟨TPostR.yes HV.out, tok_below hbw5 (Nat.le_refl _) _ _ _⟩
            · have HV : Hid (tokAt q 0 = some (kWord, q.extract 0 n, n)) := by
                show _ = _
                rw [HT.out]
                unfold nameAt
                rw [dif_pos hq0, HTo.out, hwd, if_pos rfl]
                rfl
              go_wp2
              obtain ⟨t0, t1, t2⟩ := tok_set r0 r1 r2 (.string ⟨#[119, 111, 114, 100]⟩) (.string (q.extract 0 n)) (.int .i64 0)
              refine bodyPost_ret (tok_results _ _ w.heap.size _ _ _ rfl t0 t1 t2) rfl ?_
              exact ⟨TPostR.yes HV.out, tok_below hbw5 (Nat.le_refl _) _ _ _⟩
          · have hnb : nameB (q[n].toNat : Int) = true := by simp [nameB, hn1d]
            have HP2 : Hid (passTo nameB q (q.size - (n + 1)) (n + 1) = passTo nameB q (q.size - 1) 1) := (passTo_go hlt hnb).symm.trans HP.out
            clear hnb
            go_wp2_with fail
            refine (low_any _ _).mono ?_
            rintro ev w9 ⟨rfl, hw9⟩
            have hw9' := hw9.symm
            clear hw9
            subst hw9'
            rw [hn1s]
            go_wp2_with fail
            refine (digitR_any _ _).mono ?_
            rintro ev w9 ⟨rfl, hw9⟩
            have hw9' := hw9.symm
            clear hw9
            subst hw9'
            rw [hn1d]
            go_wp2_with fail
            go_roundg (q.size + 1 - (n + 1))
            case measure => have := HG.out; omega
            case rel => exact ⟨n + 1, rfl, by omega, by omega, by go_num, HP2.out, HR1.out, hb⟩
        · have hnb : nameB (q[n].toNat : Int) = true := by simp [nameB, hn1s]
          have HP2 : Hid (passTo nameB q (q.size - (n + 1)) (n + 1) = passTo nameB q (q.size - 1) 1) := (passTo_go hlt hnb).symm.trans HP.out
          clear hnb
          go_wp2_with fail
          refine (low_any _ _).mono ?_
          rintro ev w9 ⟨rfl, hw9⟩
          have hw9' := hw9.symm
          clear hw9
          subst hw9'
          rw [hn1s]
          go_wp2_with fail
          go_roundg (q.size + 1 - (n + 1))
          case measure => have := HG.out; omega
          case rel => exact ⟨n + 1, rfl, by omega, by omega, by go_num, HP2.out, HR1.out, hb⟩
      · have hne : n = q.size := by omega
        have hI : ¬ (n : Int) < (q.size : Int) := by omega
        have HTo : Hid (nameTo q 0 = n) := by
          show _ = _
          unfold nameTo
          rw [Nat.zero_add, ← HP.out]
          exact passTo_end hne
        clear hne
        have hxs : (q.extract 0 n).size = n := by simp; omega
        go_wp2_with fail
        go_region_held3 (fun _ => True) (trivial) (first
          | (go_at_call 36; refine (words_any _).mono ?_; rintro ev w5 ⟨rfl, rfl⟩)
          | (go_at_call 35; refine (has_any (q.extract 0 n) _ _ ?_).mono ?_; exact heap_alloc_new _ _; rintro ev w6 ⟨rfl, rfl⟩))
        have hb5 : Below wr.heap.size wr (wr.alloc (.cells wordCells 9)).drew := ((Below.refl _ _).alloc (Nat.le_refl _) _).drew
        have hlt5 := lt_of_heap HR1.out
        obtain ⟨r0, r1, r2, f0, f1, f2⟩ := tok_block ((hb5.block _ hlt5).trans HR1.out)
        have hbw5 := hb.trans (hb5.mono hb.size)
        clear hb5 hlt5
        generalize (wr.alloc (.cells wordCells 9)).drew = w5 at r0 r1 r2 f0 f1 f2 hbw5 ⊢
        cases hwd : wordB (q.extract 0 n)
        · by_cases hcap : capitalB (q[0].toNat : Int) = true
          · have HV : Hid (tokAt q 0 = none) := by
              show _ = _
              rw [HT.out]
              unfold nameAt
              rw [dif_pos hq0, HTo.out, hwd, if_neg (by decide), if_pos hcap]
              rfl
            go_wp2_with (go_at_call 33; refine (high_any _ _).mono ?_; rintro e w' ⟨rfl, hw'⟩; have hw'' := hw'.symm; clear hw'; subst hw''; rw [hcap])
            obtain ⟨t0, t1, t2⟩ := tok_set r0 r1 r2 (.string ⟨#[]⟩) (.string ⟨#[]⟩) (.int .i64 0)
            refine bodyPost_ret (tok_results _ _ w.heap.size _ _ _ rfl t0 t1 t2) rfl ?_
            exact ⟨TPostR.no HV.out, tok_below hbw5 (Nat.le_refl _) _ _ _⟩
          · skip
            have hcapf : capitalB (q[0].toNat : Int) = false := by simpa using hcap
            by_cases h16 : 16 < n
            · have hI16 : (16 : Int) < (n : Int) := by omega
              have HV : Hid (tokAt q 0 = none) := by
                show _ = _
                rw [HT.out]
                unfold nameAt
                rw [dif_pos hq0, HTo.out, hwd, if_neg (by decide), if_neg hcap, if_pos (by omega)]
                rfl
              go_wp2_with (go_at_call 33; refine (high_any _ _).mono ?_; rintro e w' ⟨rfl, hw'⟩; have hw'' := hw'.symm; clear hw'; subst hw''; rw [hcapf])
              obtain ⟨t0, t1, t2⟩ := tok_set r0 r1 r2 (.string ⟨#[]⟩) (.string ⟨#[]⟩) (.int .i64 0)
              refine bodyPost_ret (tok_results _ _ w.heap.size _ _ _ rfl t0 t1 t2) rfl ?_
              exact ⟨TPostR.no HV.out, tok_below hbw5 (Nat.le_refl _) _ _ _⟩
            · have hI16 : ¬ (16 : Int) < (n : Int) := by omega
              have HV : Hid (tokAt q 0 = some (kName, q.extract 0 n, n)) := by
                show _ = _
                rw [HT.out]
                unfold nameAt
                rw [dif_pos hq0, HTo.out, hwd, if_neg (by decide), if_neg hcap, if_neg (by omega)]
                rfl
              go_wp2_with (go_at_call 33; refine (high_any _ _).mono ?_; rintro e w' ⟨rfl, hw'⟩; have hw'' := hw'.symm; clear hw'; subst hw''; rw [hcapf])
              obtain ⟨t0, t1, t2⟩ := tok_set r0 r1 r2 (.string ⟨#[110, 97, 109, 101]⟩) (.string (q.extract 0 n)) (.int .i64 0)
              refine bodyPost_ret (tok_results _ _ w.heap.size _ _ _ rfl t0 t1 t2) rfl ?_
              exact ⟨TPostR.yes HV.out, tok_below hbw5 (Nat.le_refl _) _ _ _⟩
        · have HV : Hid (tokAt q 0 = some (kWord, q.extract 0 n, n)) := by
            show _ = _
            rw [HT.out]
            unfold nameAt
            rw [dif_pos hq0, HTo.out, hwd, if_pos rfl]
            rfl
          go_wp2
          obtain ⟨t0, t1, t2⟩ := tok_set r0 r1 r2 (.string ⟨#[119, 111, 114, 100]⟩) (.string (q.extract 0 n)) (.int .i64 0)
          refine bodyPost_ret (tok_results _ _ w.heap.size _ _ _ rfl t0 t1 t2) rfl ?_
          exact ⟨TPostR.yes HV.out, tok_below hbw5 (Nat.le_refl _) _ _ _⟩
end Go.Proofs.YtpflpbfnifpchaaGreatDoor
