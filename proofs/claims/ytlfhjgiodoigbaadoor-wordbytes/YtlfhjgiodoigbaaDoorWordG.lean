/- Package word: words as a text, by contracts. -/
import Derived.Test.YtlfhjgiodoigbaaDoorWordF
import Derived.Laws.BytesArg
namespace Go.Proofs.YtlfhjgiodoigbaaDoor
open Go.RowKit

/-- The byte number i of words. -/
def tb (f : Nat → Nat) (i : Nat) : Nat := f (i / 8) / 256 ^ (i % 8) % 256

set_option maxRecDepth 100000 in
theorem infoU8 : ∃ i, Tryd.prog.info? 5 = some i ∧ i.zero = some (.int .u8 0) ∧ i.size = 1 ∧ i.bytes = 1 := by
  refine ⟨(Tryd.prog.info? 5).get (by kernel_rfl), ?_, ?_, ?_, ?_⟩
  · exact (Option.some_get _).symm
  · kernel_rfl
  · kernel_rfl
  · kernel_rfl
theorem make_bytes (n : Nat) (hn : n ≤ 2400) (w : World) :
    (Instr.makeSlice 64 (.int .i64 (n : Int)) (.int .i64 (n : Int))).run Tryd.prog w = .ok (.slice (some ⟨w.heap.size, 0, none⟩) n n) (w.alloc (.cells (Array.replicate n (.int .u8 0)) 5)) := by
  obtain ⟨i, hi, hz, h1, h8⟩ := infoU8
  have h := run_make (P := Tryd.prog) w 64 5 i (.int .u8 0) Tryd.underlying64 hi hz .i64 .i64 (n : Int) (n : Int) (by omega) (by omega) (by rw [h8]; omega) (by omega)
  rw [h, h1]
  have e : madeCells (Value.int .u8 0).cells ((n : Int).toNat * 1) = Array.replicate n (.int .u8 0) := by
    apply Array.ext
    · simp [madeCells]
    · intro i h1 h2
      have e0 : i % 1 = 0 := Nat.mod_one i
      simp [madeCells, Value.cells, e0]
  rw [e]
  simp

theorem text_no (a : Nat → Addr) (la : Option Addr) (nw cap : Nat) (n : Int) (hnw : nw ≤ 300) (hn : n < 0 ∨ 8 * (nw : Int) < n) (w : World) (E : WErr a w) :
    Calls Tryd.prog 26 #[.slice la nw cap, .int .i64 n] w fun ev w' => ev = .returned (.tuple #[.string ⟨#[]⟩, errV a 1]) ∧ Below w.heap.size w w' := by
  have k1 := E.c1
  rcases hn with c | c
  · go_enter Tryd.func26, Tryd.ntmps26
    go_wp2
    go_quiet (fail)
    go_wp2
    go_ret2
    exact ⟨rfl, below_drewN (Below.refl _ _)⟩
  · have c1 : ¬ n < 0 := by omega
    go_enter Tryd.func26, Tryd.ntmps26
    go_wp2
    go_quiet (fail)
    go_wp2
    go_ret2
    exact ⟨rfl, below_drewN (Below.refl _ _)⟩

theorem tb_eq (f : Nat → Nat) (k j : Nat) (hj : j = k / 8) : ((f j : Nat) : Int) / 2 ^ (k % 8 * 8) % 256 = ((tb f k : Nat) : Int) := by
  subst hj
  have e : (256 : Nat) ^ (k % 8) = 2 ^ (k % 8 * 8) := by
    rw [Nat.mul_comm, Nat.pow_mul]
  unfold tb
  rw [e]
  simp
theorem text_next (f : Nat → Nat) (k n B : Nat) (w wr : World) (hB : w.heap.size ≤ B) (hk : k < n)
    (hC : ∀ i, i < n → wr.cell? ⟨B, i, none⟩ = some (.int .u8 ((if i < k then tb f i else 0 : Nat) : Int))) (hF : ∀ o, wr.frozen? ⟨B, o, none⟩ = false) (hb : Below w.heap.size w wr) (V : Int) (hV : V = ((tb f k : Nat) : Int)) :
    (∀ i, i < n → (wr.setCell ⟨B, k, none⟩ (.int .u8 V)).drew.cell? ⟨B, i, none⟩ = some (.int .u8 ((if i < k + 1 then tb f i else 0 : Nat) : Int))) ∧ (∀ o, (wr.setCell ⟨B, k, none⟩ (.int .u8 V)).drew.frozen? ⟨B, o, none⟩ = false) ∧ Below w.heap.size w (wr.setCell ⟨B, k, none⟩ (.int .u8 V)).drew := by
  subst hV
  refine ⟨fun i hi => ?_, fun o => ?_, (hb.setCell hB _).drew⟩
  · show (wr.setCell ⟨B, k, none⟩ _).cell? ⟨B, i, none⟩ = _
    by_cases e : i = k
    · subst e
      rw [if_pos (Nat.lt_succ_self _)]
      exact World.cell?_setCell_same _ _ _ (hC i hk)
    · rw [cell_set _ _ _ _ _ e, hC i hi]
      by_cases h : i < k
      · rw [if_pos h, if_pos (by omega)]
      · rw [if_neg h, if_neg (by omega)]
  · show (wr.setCell ⟨B, k, none⟩ _).frozen? ⟨B, o, none⟩ = _
    rw [frozen_set]
    exact hF o

set_option maxHeartbeats 4000000 in
set_option maxRecDepth 100000 in
theorem text_ok (f : Nat → Nat) (B nw cap n : Nat) (hnw : nw ≤ 300) (hn : n ≤ 8 * nw) (w : World) (hW : ∀ a, a < nw → w.cell? ⟨B, a, none⟩ = some (.int .u64 (f a : Nat))) :
    Calls Tryd.prog 26 #[.slice (some ⟨B, 0, none⟩) nw cap, .int .i64 (n : Int)] w fun ev w' => ev = .returned (.tuple #[.string (strOfNums ((List.range n).map fun i => ((tb f i : Nat) : Int))), .nilIface]) ∧ Below w.heap.size w w' := by
  have hmk := make_bytes n (by omega)
  have hn0 : ¬ (n : Int) < 0 := by omega
  have hn1 : ¬ 8 * (nw : Int) < (n : Int) := by omega
  go_enter Tryd.func26, Tryd.ntmps26
  go_wp2_with fail
  go_loopg [21] (n + 1) (fun gk v21 wr => ∃ k : Nat, gk = n + 1 - k ∧ k ≤ n ∧ v21 = .int .i64 (k : Int) ∧ (∀ i, i < n → wr.cell? ⟨w.heap.size, i, none⟩ = some (.int .u8 ((if i < k then tb f i else 0 : Nat) : Int))) ∧ (∀ o, wr.frozen? ⟨w.heap.size, o, none⟩ = false) ∧ Below w.heap.size w wr)
  case atStart =>
    refine ⟨0, rfl, Nat.zero_le _, rfl, fun a ha => ?_, fun o => ?_, (Below.refl _ _).alloc (Nat.le_refl _) _⟩
    · rw [cell_of_row _ _ a _ _ _ (heap_alloc_new w _)]
      simp [ha]
    · have h := heap_alloc_new w (.cells (Array.replicate n (.int .u8 0)) 5)
      unfold World.frozen?
      rw [h]
      simp
  case round =>
    obtain ⟨k, hgk, hk, hv21, hC, hF, hb⟩ := hrel
    subst hv21
    have HG : Hid (gk = n + 1 - k) := hgk
    clear hgk
    by_cases hlt : k < n
    · have hI : (k : Int) < (n : Int) := by omega
      have hI0 : (0 : Int) ≤ (k : Int) := by omega
      obtain ⟨j, hj⟩ : ∃ j, j = k / 8 := ⟨_, rfl⟩
      have hjn : j < nw := by omega
      have hJ0 : (0 : Int) ≤ (j : Int) := by omega
      have hJ1 : (j : Int) < (nw : Int) := by omega
      have hq : (k : Int).tdiv 8 = (j : Int) := by rw [Int.tdiv_eq_ediv_of_nonneg (by omega)]; omega
      have hq2 : IntKind.i64.wrap ((k : Int).tdiv 8) = (j : Int) := by rw [hq, IntKind.wrap_i64]; omega
      have hq3 : IntKind.i64.wrap (j : Int) = (j : Int) := by rw [IntKind.wrap_i64]; omega
      have c0 := (hb.cell (p := ⟨B, j, none⟩) (lt_of_cell (hW j hjn))).trans (hW j hjn)
      have d0 := hC k hlt
      rw [if_neg (Nat.lt_irrefl k)] at d0
      have f0 := hF k
      have HC : Hid (∀ i, i < n → wr.cell? ⟨w.heap.size, i, none⟩ = some (.int .u8 ((if i < k then tb f i else 0 : Nat) : Int))) := hC
      have HF : Hid (∀ o, wr.frozen? ⟨w.heap.size, o, none⟩ = false) := hF
      have HJ : Hid (j = k / 8) := hj
      clear hC hF hj
      go_wp2_with fail
      go_region_with (go_at_call 32; refine (shift_any k _ (by omega)).mono ?_; rintro ev w' ⟨rfl, rfl⟩)
      all_goals go_wp2_with fail
      all_goals go_roundg (n + 1 - (k + 1))
      all_goals (first | (have := HG.out; omega) | (exact ⟨k + 1, rfl, by omega, by go_num, text_next f k n w.heap.size w wr (Nat.le_refl _) hlt HC.out HF.out hb _ (tb_eq f k j HJ.out)⟩))
    · obtain rfl : k = n := by omega
      have hcv := run_convert_bytes_arg (P := Tryd.prog) wr 64 5 Tryd.underlying64 Tryd.underlying5 w.heap.size 0 k k ((List.range k).map fun i => ((tb f i : Nat) : Int)) (by simp) (fun i hi => by
        rw [Nat.zero_add, hC i hi, if_pos hi]
        simp [hi]) 9 Tryd.underlying9
      go_wp2
      go_ret2
      exact ⟨rfl, hb⟩
end Go.Proofs.YtlfhjgiodoigbaaDoor
