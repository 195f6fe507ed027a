/- The document's answer for package lex: tokenOf at ops. -/
import Derived.Test.YtpflpbfnifpchaaGreatDoorRefC
namespace Go.Proofs.YtpflpbfnifpchaaGreatDoor
open Go.RowKit

theorem op_cell (k : Nat) (h : k < 21) : opCells[k]? = some (.string (opAt k)) := by
  iterate 21 (rcases k with _ | k; · rfl)
  omega
theorem extract_full (q : ByteArray) : q.extract 0 q.size = q := by
  apply ByteArray.ext
  simp

set_option maxRecDepth 100000 in
set_option maxHeartbeats 1000000 in
theorem tokenOf_op (q : ByteArray) (hq : q.size ≤ 6000) (hq0 : 0 < q.size) (hs : smallB (q[0].toNat : Int) = false) (hc : capitalB (q[0].toNat : Int) = false) (hd : digitB (q[0].toNat : Int) = false) (h34 : ((q[0].toNat : Int) == 34) = false) (w : World) :
    Calls Tryz.prog 20 #[.string q] w fun ev w' => TPostR q ev ∧ Below w.heap.size w w' := by
  have HT : Hid (tokAt q 0 = (opTok q 0).map fun x => (kOp, x.1, x.2)) := by
    show _ = _
    unfold tokAt
    rw [dif_pos hq0, hs, hc, hd, h34]
    rfl
  have hI0 : (0 : Int) < (q.size : Int) := by omega
  have hz : (w.alloc (.cells #[.string ⟨#[]⟩, .string ⟨#[]⟩, .int .i64 0] 53)).heap.size = w.heap.size + 1 := by simp
  have HR : Hid (((w.alloc (.cells #[.string ⟨#[]⟩, .string ⟨#[]⟩, .int .i64 0] 53)).alloc (.cells opCells 9)).heap[w.heap.size]? = some (.cells #[.string ⟨#[]⟩, .string ⟨#[]⟩, .int .i64 0] 53)) := by
    show _ = _
    rw [Below.heap_alloc _ _ _ (by rw [hz]; omega)]
    exact heap_alloc_new _ _
  have HO : Hid (((w.alloc (.cells #[.string ⟨#[]⟩, .string ⟨#[]⟩, .int .i64 0] 53)).alloc (.cells opCells 9)).heap[w.heap.size + 1]? = some (.cells opCells 9)) := by
    show _ = _
    rw [← hz]
    exact heap_alloc_new _ _
  have HB : Hid (Below w.heap.size w ((w.alloc (.cells #[.string ⟨#[]⟩, .string ⟨#[]⟩, .int .i64 0] 53)).alloc (.cells opCells 9))) := ((Below.refl _ _).alloc (Nat.le_refl _) _).alloc (by simp) _
  clear hz
  go_enter Tryz.func20, Tryz.ntmps20
  go_wp2_with (first | (go_at_call 32; refine (low_any _ _).mono ?_; rintro e w' ⟨rfl, rfl⟩; rw [hs]) | (go_at_call 33; refine (high_any _ _).mono ?_; rintro e w' ⟨rfl, rfl⟩; rw [hc]) | (go_at_call 34; refine (digitR_any _ _).mono ?_; rintro e w' ⟨rfl, rfl⟩; rw [hd]))
  go_loopg [10] 21 (fun n v10 wr => ∃ i : Nat, n = 21 - i ∧ i ≤ 21 ∧ v10 = .int .i64 (i : Int) ∧ opFrom q 0 (21 - i) i = opTok q 0 ∧ wr.heap[w.heap.size]? = some (.cells #[.string ⟨#[]⟩, .string ⟨#[]⟩, .int .i64 0] 53) ∧ wr.heap[w.heap.size + 1]? = some (.cells opCells 9) ∧ Below w.heap.size w wr)
  case atStart => exact ⟨0, rfl, by decide, rfl, rfl, HR.out, HO.out, HB.out⟩
  case round =>
    obtain ⟨i, hn, hi, hv, hof, hR, hO, hb⟩ := hrel
    subst hv
    have HN : Hid (gk = 21 - i) := hn
    have HF : Hid (opFrom q 0 (21 - i) i = opTok q 0) := hof
    clear hn hof
    have hi0 : (0 : Int) ≤ (i : Int) := by omega
    obtain ⟨r0, r1, r2, f0, f1, f2⟩ := tok_block hR
    by_cases hlt : i < 21
    · have hI : (i : Int) < 21 := by omega
      have hc1 : wr.cell? ⟨w.heap.size + 1, i, none⟩ = some (.string (opAt i)) := by rw [cell_of_row wr _ i _ _ _ hO]; exact op_cell i hlt
      have hos := opAt_size i
      have HR1 : Hid (wr.heap[w.heap.size]? = some (.cells #[.string ⟨#[]⟩, .string ⟨#[]⟩, .int .i64 0] 53)) := hR
      have HO1 : Hid (wr.heap[w.heap.size + 1]? = some (.cells opCells 9)) := hO
      clear hR hO
      by_cases hle : (opAt i).size ≤ q.size
      · have hleI : ((opAt i).size : Int) ≤ (q.size : Int) := by omega
        cases he : ((q.extract 0 (opAt i).size).toList == (opAt i).toList)
        · have hp : prefixB (q.extract 0 q.size) (opAt i) = false := by
            unfold prefixB
            rw [extract_full, if_pos hle, he]
          have HM : Hid (opFrom q 0 (21 - (i + 1)) (i + 1) = opTok q 0) := (opFrom_miss hlt hp).symm.trans HF.out
          clear hp
          go_wp2
          go_quiet (fail)
          go_wp2
          go_roundg (21 - (i + 1))
          case measure => have := HN.out; omega
          case rel => exact ⟨i + 1, rfl, by omega, by go_num, HM.out, HR1.out, HO1.out, below_drewN hb _⟩
        · have hp : prefixB (q.extract 0 q.size) (opAt i) = true := by
            unfold prefixB
            rw [extract_full, if_pos hle, he]
          have HV : Hid (tokAt q 0 = some (kOp, opAt i, (opAt i).size)) := by
            show _ = _
            rw [HT.out, ← HF.out, opFrom_hit hlt hp, Nat.zero_add]
            rfl
          clear hp
          go_wp2
          go_quiet (fail)
          go_wp2
          obtain ⟨t0, t1, t2⟩ := tok_set (w := wr.drewN nq) r0 r1 r2 (.string ⟨#[111, 112]⟩) (.string (opAt i)) (.int .i64 0)
          refine bodyPost_ret (tok_results _ _ w.heap.size _ _ _ rfl t0 t1 t2) rfl ?_
          exact ⟨TPostR.yes HV.out, tok_below (below_drewN hb nq) (Nat.le_refl _) _ _ _⟩
      · have hleI : ¬ ((opAt i).size : Int) ≤ (q.size : Int) := by omega
        have hp : prefixB (q.extract 0 q.size) (opAt i) = false := by
          unfold prefixB
          rw [extract_full, if_neg hle]
        have HM : Hid (opFrom q 0 (21 - (i + 1)) (i + 1) = opTok q 0) := (opFrom_miss hlt hp).symm.trans HF.out
        clear hp
        go_wp2
        go_quiet (fail)
        go_wp2
        go_roundg (21 - (i + 1))
        case measure => have := HN.out; omega
        case rel => exact ⟨i + 1, rfl, by omega, by go_num, HM.out, HR1.out, HO1.out, below_drewN hb _⟩
    · have hie : i = 21 := by omega
      have HV : Hid (tokAt q 0 = none) := by
        show _ = _
        rw [HT.out, ← HF.out, hie]
        rfl
      have hI : ¬ (i : Int) < 21 := by omega
      clear hie
      go_wp2
      obtain ⟨t0, t1, t2⟩ := tok_set (w := wr) r0 r1 r2 (.string ⟨#[]⟩) (.string ⟨#[]⟩) (.int .i64 0)
      refine bodyPost_ret (tok_results _ _ w.heap.size _ _ _ rfl t0 t1 t2) rfl ?_
      exact ⟨TPostR.no HV.out, tok_below hb (Nat.le_refl _) _ _ _⟩
end Go.Proofs.YtpflpbfnifpchaaGreatDoor
