/- Package word: bytes as words, by contracts. -/
import Derived.Test.YtlfhjgiodoigbaaDoorWordC
import Derived.Deep.LoopGhost
import Derived.Laws.MakeOwn
namespace Go.Proofs.YtlfhjgiodoigbaaDoor
open Go.RowKit

/-- A byte of a string; 0 behind its end. -/
def byteAt (s : ByteArray) (i : Nat) : Nat := if h : i < s.size then s[i].toNat else 0
theorem byteAt_lt (s : ByteArray) (i : Nat) : byteAt s i < 256 := by
  unfold byteAt
  split
  · exact UInt8.toNat_lt _
  · decide
/-- The word number a of a string, of its first t bytes. -/
def pv (s : ByteArray) (a : Nat) : Nat → Nat
  | 0 => 0
  | t + 1 => pv s a t + byteAt s (8 * a + t) * 256 ^ t
theorem pv_lt (s : ByteArray) (a : Nat) : ∀ t, pv s a t < 256 ^ t
  | 0 => by simp [pv]
  | t + 1 => by
    have h := pv_lt s a t
    have hb := byteAt_lt s (8 * a + t)
    have : byteAt s (8 * a + t) * 256 ^ t ≤ 255 * 256 ^ t := Nat.mul_le_mul_right _ (by omega)
    simp only [pv, Nat.pow_succ]
    omega
/-- The word number a when the first k bytes have been put. -/
def wv (s : ByteArray) (k a : Nat) : Nat := pv s a (min 8 (k - 8 * a))
theorem wv_zero (s : ByteArray) (a : Nat) : wv s 0 a = 0 := by simp [wv, pv]
theorem wv_lt (s : ByteArray) (k a : Nat) : wv s k a < 18446744073709551616 := by
  have h := pv_lt s a (min 8 (k - 8 * a))
  have h2 : 256 ^ (min 8 (k - 8 * a)) ≤ 256 ^ 8 := Nat.pow_le_pow_right (by decide) (Nat.min_le_left _ _)
  unfold wv
  have : (256 : Nat) ^ 8 = 18446744073709551616 := by decide
  omega
theorem wv_next (s : ByteArray) (k : Nat) : wv s (k + 1) (k / 8) = wv s k (k / 8) + byteAt s k * 256 ^ (k % 8) := by
  have e1 : min 8 (k - 8 * (k / 8)) = k % 8 := by omega
  have e2 : min 8 (k + 1 - 8 * (k / 8)) = k % 8 + 1 := by omega
  have e3 : 8 * (k / 8) + k % 8 = k := by omega
  unfold wv
  rw [e1, e2]
  simp only [pv, e3]
theorem wv_other (s : ByteArray) (k a : Nat) (h : a ≠ k / 8) : wv s (k + 1) a = wv s k a := by
  unfold wv
  congr 1
  omega
theorem wv_below (s : ByteArray) (k : Nat) : wv s k (k / 8) < 256 ^ (k % 8) := by
  have e1 : min 8 (k - 8 * (k / 8)) = k % 8 := by omega
  unfold wv
  rw [e1]
  exact pv_lt _ _ _

theorem shift_any (i : Nat) (w : World) (hi : i < 100000) :
    Calls Tryd.prog 32 #[.int .i64 (i : Int)] w fun ev w' => ev = .returned (.int .i64 ((i : Int) % 8 * 8)) ∧ w' = w := by
  go_enter Tryd.func32, Tryd.ntmps32
  go_wp2
  go_ret
  exact ⟨rfl, rfl⟩

set_option maxRecDepth 100000 in
theorem infoU64 : ∃ i, Tryd.prog.info? 22 = some i ∧ i.zero = some (.int .u64 0) ∧ i.size = 1 ∧ i.bytes = 8 := by
  refine ⟨(Tryd.prog.info? 22).get (by kernel_rfl), ?_, ?_, ?_, ?_⟩
  · exact (Option.some_get _).symm
  · kernel_rfl
  · kernel_rfl
  · kernel_rfl
theorem make_words (n : Nat) (hn : n ≤ 300) (L : Int) (hL : L = (n : Int)) (w : World) :
    (Instr.makeSlice 50 (.int .i64 L) (.int .i64 L)).run Tryd.prog w = .ok (.slice (some ⟨w.heap.size, 0, none⟩) n n) (w.alloc (.cells (Array.replicate n (.int .u64 0)) 22)) := by
  subst hL
  obtain ⟨i, hi, hz, h1, h8⟩ := infoU64
  have h := run_make (P := Tryd.prog) w 50 22 i (.int .u64 0) Tryd.underlying50 hi hz .i64 .i64 (n : Int) (n : Int) (by omega) (by omega) (by rw [h8]; omega) (by omega)
  rw [h, h1]
  have e : madeCells (Value.int .u64 0).cells ((n : Int).toNat * 1) = Array.replicate n (.int .u64 0) := by
    apply Array.ext
    · simp [madeCells]
    · intro i h1 h2
      have e0 : i % 1 = 0 := Nat.mod_one i
      simp [madeCells, Value.cells, e0]
  rw [e]
  simp

theorem or_word (x y : Int) (t : Nat) (ht : t < 8) (x0 : 0 ≤ x) (x1 : x < 256) (y0 : 0 ≤ y) (y1 : y < ((256 ^ t : Nat) : Int)) : bits .or .u64 y (IntKind.u64.wrap (IntKind.u64.wrap x * 2 ^ (t * 8))) = y + x * ((256 ^ t : Nat) : Int) := by
  have e : IntKind.u64.wrap x = x := by rw [wrap_u64']; omega
  rw [e, or_comm64]
  obtain rfl | rfl | rfl | rfl | rfl | rfl | rfl | rfl : t = 0 ∨ t = 1 ∨ t = 2 ∨ t = 3 ∨ t = 4 ∨ t = 5 ∨ t = 6 ∨ t = 7 := by omega
  · rw [wrap_u64', or_join 0 _ _ (by omega) (by omega) (by omega) (by omega) (by omega) (by omega)]; omega
  · rw [wrap_u64', or_join 8 _ _ (by omega) (by omega) (by omega) (by omega) (by omega) (by omega)]; omega
  · rw [wrap_u64', or_join 16 _ _ (by omega) (by omega) (by omega) (by omega) (by omega) (by omega)]; omega
  · rw [wrap_u64', or_join 24 _ _ (by omega) (by omega) (by omega) (by omega) (by omega) (by omega)]; omega
  · rw [wrap_u64', or_join 32 _ _ (by omega) (by omega) (by omega) (by omega) (by omega) (by omega)]; omega
  · rw [wrap_u64', or_join 40 _ _ (by omega) (by omega) (by omega) (by omega) (by omega) (by omega)]; omega
  · rw [wrap_u64', or_join 48 _ _ (by omega) (by omega) (by omega) (by omega) (by omega) (by omega)]; omega
  · rw [wrap_u64', or_join 56 _ _ (by omega) (by omega) (by omega) (by omega) (by omega) (by omega)]; omega
theorem word_next (s : ByteArray) (k j : Nat) (hk : k < s.size) (hj : j = k / 8) : bits .or .u64 ((wv s k j : Nat) : Int) (IntKind.u64.wrap (IntKind.u64.wrap (s[k].toNat : Int) * 2 ^ ((k : Int) % 8 * 8).toNat)) = ((wv s (k + 1) j : Nat) : Int) := by
  have e1 : ((k : Int) % 8 * 8).toNat = k % 8 * 8 := by omega
  have hb := wv_below s k
  have hc : byteAt s k = s[k].toNat := by simp [byteAt, hk]
  have hl := byteAt_lt s k
  rw [hc] at hl
  subst hj
  rw [e1, or_word _ _ (k % 8) (by omega) (by omega) (by omega) (by omega) (by omega), wv_next, hc, Int.natCast_add, Int.natCast_mul]
theorem frozen_set (w : World) (p o q : Nat) (v : Value) : (w.setCell ⟨p, o, none⟩ v).frozen? ⟨p, q, none⟩ = w.frozen? ⟨p, q, none⟩ := by
  simp only [World.setCell, World.frozen?, Array.getElem?_modify]
  simp only [if_true]
  cases w.heap[p]? with
  | none => rfl
  | some x => cases x <;> rfl
theorem bytes_next (s : ByteArray) (k j nw B : Nat) (w wr : World) (hj : j = k / 8) (hB : w.heap.size ≤ B) (hjn : j < nw)
    (hC : ∀ a, a < nw → wr.cell? ⟨B, a, none⟩ = some (.int .u64 (wv s k a : Nat))) (hF : ∀ o, wr.frozen? ⟨B, o, none⟩ = false) (hb : Below w.heap.size w wr) (V : Int) (hV : V = ((wv s (k + 1) j : Nat) : Int)) :
    (∀ a, a < nw → (wr.setCell ⟨B, j, none⟩ (.int .u64 V)).drew.cell? ⟨B, a, none⟩ = some (.int .u64 (wv s (k + 1) a : Nat))) ∧ (∀ o, (wr.setCell ⟨B, j, none⟩ (.int .u64 V)).drew.frozen? ⟨B, o, none⟩ = false) ∧ Below w.heap.size w (wr.setCell ⟨B, j, none⟩ (.int .u64 V)).drew := by
  subst hV
  refine ⟨fun a ha => ?_, fun o => ?_, (hb.setCell hB _).drew⟩
  · show (wr.setCell ⟨B, j, none⟩ _).cell? ⟨B, a, none⟩ = _
    by_cases e : a = j
    · subst e
      exact World.cell?_setCell_same _ _ _ (hC a hjn)
    · rw [cell_set _ _ _ _ _ e, hC a ha, wv_other s k a (by omega)]
  · show (wr.setCell ⟨B, j, none⟩ _).frozen? ⟨B, o, none⟩ = _
    rw [frozen_set]
    exact hF o

set_option maxHeartbeats 4000000 in
set_option maxRecDepth 100000 in
theorem bytes_any (s : ByteArray) (hs : s.size ≤ 2000) (nw : Nat) (hnw : nw = (s.size + 7) / 8) (w : World) :
    Calls Tryd.prog 25 #[.string s] w fun ev w' => ev = .returned (.slice (some ⟨w.heap.size, 0, none⟩) nw nw) ∧ (∀ a, a < nw → w'.cell? ⟨w.heap.size, a, none⟩ = some (.int .u64 (wv s s.size a : Nat))) ∧ Below w.heap.size w w' := by
  have hmk := make_words nw (by omega) (((s.size : Int) + 8 - 1) / 8) (by omega)
  have HN : Hid (nw = (s.size + 7) / 8) := hnw
  clear hnw
  go_enter Tryd.func25, Tryd.ntmps25
  go_wp2_with fail
  go_loopg [13] (s.size + 1) (fun gk v13 wr => ∃ k : Nat, gk = s.size + 1 - k ∧ k ≤ s.size ∧ v13 = .int .i64 (k : Int) ∧ (∀ a, a < nw → wr.cell? ⟨w.heap.size, a, none⟩ = some (.int .u64 (wv s k a : Nat))) ∧ (∀ o, wr.frozen? ⟨w.heap.size, o, none⟩ = false) ∧ Below w.heap.size w wr)
  case atStart =>
    refine ⟨0, rfl, Nat.zero_le _, rfl, fun a ha => ?_, fun o => ?_, (Below.refl _ _).alloc (Nat.le_refl _) _⟩
    · rw [wv_zero, cell_of_row _ _ a _ _ _ (heap_alloc_new w _)]
      simp [ha]
    · have h := heap_alloc_new w (.cells (Array.replicate nw (.int .u64 0)) 22)
      unfold World.frozen?
      rw [h]
      simp
  case round =>
    obtain ⟨k, hgk, hk, hv13, hC, hF, hb⟩ := hrel
    subst hv13
    have HG : Hid (gk = s.size + 1 - k) := hgk
    clear hgk
    by_cases hlt : k < s.size
    · have hI : (k : Int) < (s.size : Int) := by omega
      have hI0 : (0 : Int) ≤ (k : Int) := by omega
      obtain ⟨j, hj⟩ : ∃ j, j = k / 8 := ⟨_, rfl⟩
      have hjn : j < nw := by have := HN.out; omega
      have hJ0 : (0 : Int) ≤ (j : Int) := by omega
      have hJ1 : (j : Int) < (nw : Int) := by omega
      have hq : (k : Int).tdiv 8 = (j : Int) := by rw [Int.tdiv_eq_ediv_of_nonneg (by omega)]; omega
      have hq2 : IntKind.i64.wrap ((k : Int).tdiv 8) = (j : Int) := by rw [hq, IntKind.wrap_i64]; omega
      have hq3 : IntKind.i64.wrap (j : Int) = (j : Int) := by rw [IntKind.wrap_i64]; omega
      have c0 := hC j hjn
      have f0 := hF j
      have HC : Hid (∀ a, a < nw → wr.cell? ⟨w.heap.size, a, none⟩ = some (.int .u64 (wv s k a : Nat))) := hC
      have HF : Hid (∀ o, wr.frozen? ⟨w.heap.size, o, none⟩ = false) := hF
      have HJ : Hid (j = k / 8) := hj
      clear hC hF hj
      go_wp2_with fail
      go_region_with (go_at_call 32; refine (shift_any k _ (by omega)).mono ?_; rintro ev w' ⟨rfl, rfl⟩)
      all_goals go_wp2_with fail
      all_goals go_roundg (s.size + 1 - (k + 1))
      all_goals (first | (have := HG.out; omega) | (exact ⟨k + 1, rfl, by omega, by go_num, bytes_next s k j nw w.heap.size w wr HJ.out (Nat.le_refl _) hjn HC.out HF.out hb _ (word_next s k j hlt HJ.out)⟩))
    · obtain rfl : k = s.size := by omega
      go_wp2
      go_ret
      exact ⟨rfl, hC, hb⟩
end Go.Proofs.YtlfhjgiodoigbaaDoor
