/- The document's side: a model whose roots all hold nothing: meet, cellText. -/
import Derived.Test.YtlifnjfmocjfjaaGreatDoorMemD
import Derived.Test.YtlifnjfmocjfjaaGreatDoorJnD
import Derived.Test.YtlifnjfmocjfjaaGreatDoorJnB
namespace Go.Proofs.YtlifnjfmocjfjaaGreatDoor
open Go.RowKit

/-- A cell that holds nothing. -/
def cell0 : Value := .agg #[.int .i64 0, .int .i64 0, .pointer none]
theorem meet_zero (w : World) :
    Calls Tryz.prog 53 #[.slice none 0 0, .agg #[.int .i64 0, .int .i64 0, .pointer none]] w fun ev w' => ev = .returned (.slice none 0 0) ∧ Below w.heap.size w w' := by
  have ba : Below w.heap.size w (w.alloc (.cells #[.int .i64 0, .int .i64 0, .pointer none] 74)) := (Below.refl _ _).alloc (Nat.le_refl _) _
  go_enter Tryz.func53, Tryz.ntmps53
  go_wp2_with fail
  go_ret
  exact ⟨rfl, ba⟩
def sNone : ByteArray := ⟨#[110, 111, 110, 101]⟩
theorem cellText_zero (w : World) :
    Calls Tryz.prog 24 #[.agg #[.int .i64 0, .int .i64 0, .pointer none], .slice none 0 0] w fun ev w' => ev = .returned (.string ⟨#[110, 111, 110, 101]⟩) ∧ Below w.heap.size w w' := by
  have ba : Below w.heap.size w (w.alloc (.cells #[.int .i64 0, .int .i64 0, .pointer none] 74)) := (Below.refl _ _).alloc (Nat.le_refl _) _
  go_enter Tryz.func24, Tryz.ntmps24
  go_wp2_with fail
  go_ret
  exact ⟨rfl, ba.alloc ba.size _⟩
end Go.Proofs.YtlifnjfmocjfjaaGreatDoor

/- The document's side: a model whose roots all hold nothing: Reach, Show. -/
namespace Go.Proofs.YtlifnjfmocjfjaaGreatDoor
open Go.RowKit

/-- A model in memory, whose roots hold nothing. -/
structure ModelAt (q b n : Nat) (w : World) : Prop where
  lq : q < w.heap.size
  lb : b < w.heap.size
  c0 : w.cell? ⟨q, 0, none⟩ = some (.slice (some ⟨b, 0, none⟩) n n)
  k0 : ∀ k < n, w.cell? ⟨b, k * 3, none⟩ = some (.int .i64 0)
  k1 : ∀ k < n, w.cell? ⟨b, k * 3 + 1, none⟩ = some (.int .i64 0)
  k2 : ∀ k < n, w.cell? ⟨b, k * 3 + 2, none⟩ = some (.pointer none)
theorem ModelAt.below {q b n : Nat} {w w' : World} (h : ModelAt q b n w) (hb : Below w.heap.size w w') : ModelAt q b n w' where
  lq := Nat.lt_of_lt_of_le h.lq hb.size
  lb := Nat.lt_of_lt_of_le h.lb hb.size
  c0 := (hb.cell (p := ⟨q, 0, none⟩) h.lq).trans h.c0
  k0 k hk := (hb.cell (p := ⟨b, k * 3, none⟩) h.lb).trans (h.k0 k hk)
  k1 k hk := (hb.cell (p := ⟨b, k * 3 + 1, none⟩) h.lb).trans (h.k1 k hk)
  k2 k hk := (hb.cell (p := ⟨b, k * 3 + 2, none⟩) h.lb).trans (h.k2 k hk)
set_option maxHeartbeats 2000000 in
theorem mreach_zero (q b n : Nat) (hn : n ≤ 5000) (w : World) (M : ModelAt q b n w) :
    Calls Tryz.prog 23 #[.pointer (some ⟨q, 0, none⟩)] w fun ev w' => ev = .returned (.slice none 0 0) ∧ Below w.heap.size w w' := by
  have HM := toHid M
  have hn0 : (0 : Int) ≤ (n : Int) := by omega
  clear M
  go_enter Tryz.func23, Tryz.ntmps23
  go_wp2_with fail
  go_loopg [3, 4] (n + 1) (fun gk v3 v4 wr => ∃ (k : Nat), gk = n + 1 - k ∧ k ≤ n ∧ v3 = .slice none 0 0 ∧ v4 = .int .i64 (k : Int) ∧ Below w.heap.size w wr)
  case atStart => exact ⟨0, rfl, Nat.zero_le _, rfl, rfl, Below.refl _ _⟩
  case round =>
    obtain ⟨k, hgk, hk, rfl, rfl, hb⟩ := hrel
    have HG := toHid hgk
    have hk0 : (0 : Int) ≤ (k : Int) := by omega
    have HB := toHid hb
    have M := HM.out.below hb
    have d0 := M.c0
    clear hgk hb
    by_cases hlt : k < n
    · have hI : (k : Int) < (n : Int) := by omega
      have e0 := M.k0 k hlt
      have e1 := M.k1 k hlt
      have e2 := M.k2 k hlt
      clear M
      have km := fun w => meet_zero w
      go_wp2_with fail
      refine (km _).mono ?_
      clear km e0 e1 e2 d0
      rintro ev w5 ⟨rfl, b5⟩
      go_wp2_with fail
      go_roundg (n + 1 - (k + 1))
      case measure => have := HG.out; omega
      case rel => exact ⟨k + 1, rfl, by omega, rfl, by go_num, HB.out.trans (b5.mono HB.out.size)⟩
    · have hI : ¬ (k : Int) < (n : Int) := by omega
      clear M
      go_wp2_with fail
      go_loopg [3, 5] 1 (fun gk v3 v5 wz => v3 = .slice none 0 0 ∧ v5 = .int .i64 0 ∧ wz = wr)
      case atStart => exact ⟨rfl, rfl, rfl⟩
      case round =>
        obtain ⟨rfl, rfl, rfl⟩ := hrel
        go_wp2_with fail
        go_ret
        exact ⟨rfl, HB.out⟩
theorem gLines_rep (n : Nat) : gLines sRoot [] ⟨#[]⟩ (List.replicate (n + 1) 2) = ((gLines sRoot [] ⟨#[]⟩ (List.replicate n 2) ++ sRoot) ++ sNone) ++ ⟨#[10]⟩ := by
  rw [List.replicate_succ']
  unfold gLines
  rw [List.foldl_append]
  rfl
theorem gLines_rep_size : ∀ n : Nat, (gLines sRoot [] ⟨#[]⟩ (List.replicate n 2)).size = 10 * n
  | 0 => rfl
  | n + 1 => by
    have h := gLines_rep_size n
    rw [gLines_rep, ByteArray.size_append, ByteArray.size_append, ByteArray.size_append, h]
    show 10 * n + 5 + 4 + 1 = 10 * (n + 1)
    omega
set_option maxHeartbeats 2000000 in
set_option maxRecDepth 100000 in
theorem mshow_zero (q b n : Nat) (hn : n ≤ 5000) (w : World) (M : ModelAt q b n w) :
    Calls Tryz.prog 10 #[.pointer (some ⟨q, 0, none⟩)] w fun ev w' => ev = .returned (.string (gLines sRoot [] ⟨#[]⟩ (List.replicate n 2))) ∧ Below w.heap.size w w' := by
  have HM := toHid M
  have kr := mreach_zero q b n hn w M
  have hn0 : (0 : Int) ≤ (n : Int) := by omega
  clear M
  go_enter Tryz.func10, Tryz.ntmps10
  go_wp2_with fail
  refine kr.mono ?_
  clear kr
  rintro ev w1 ⟨rfl, b1⟩
  have HB1 := toHid b1
  clear b1
  go_wp2_with fail
  go_loopg [4, 5] (n + 1) (fun gk v4 v5 wr => ∃ (k : Nat), gk = n + 1 - k ∧ k ≤ n ∧ v4 = .string (gLines sRoot [] ⟨#[]⟩ (List.replicate k 2)) ∧ v5 = .int .i64 (k : Int) ∧ Below w.heap.size w wr)
  case atStart => exact ⟨0, rfl, Nat.zero_le _, rfl, rfl, HB1.out⟩
  case round =>
    obtain ⟨k, hgk, hk, rfl, rfl, hb⟩ := hrel
    have HG := toHid hgk
    have hk0 : (0 : Int) ≤ (k : Int) := by omega
    have HB := toHid hb
    have M := HM.out.below hb
    have d0 := M.c0
    clear hgk hb
    by_cases hlt : k < n
    · have hI : (k : Int) < (n : Int) := by omega
      have e0 := M.k0 k hlt
      have e1 := M.k1 k hlt
      have e2 := M.k2 k hlt
      have HGL := toHid (gLines_rep k)
      have hsz := gLines_rep_size k
      generalize gLines sRoot [] ⟨#[]⟩ (List.replicate k 2) = A at *
      clear M
      have km := fun w => cellText_zero w
      go_wp2_with fail
      refine (km _).mono ?_
      clear km e0 e1 e2 d0
      rintro ev w5 ⟨rfl, b5⟩
      go_wp2_with fail
      go_roundg (n + 1 - (k + 1))
      case measure => have := HG.out; omega
      case rel => exact ⟨k + 1, rfl, by omega, by rw [HGL.out]; rfl, by go_num, HB.out.trans (b5.mono HB.out.size)⟩
    · have hI : ¬ (k : Int) < (n : Int) := by omega
      obtain rfl : k = n := by omega
      clear M
      go_wp2_with fail
      go_loopg [4, 6] 1 (fun gk v4 v6 wz => v4 = .string (gLines sRoot [] ⟨#[]⟩ (List.replicate k 2)) ∧ v6 = .int .i64 0 ∧ wz = wr)
      case atStart => exact ⟨rfl, rfl, rfl⟩
      case round =>
        obtain ⟨rfl, rfl, rfl⟩ := hrel
        go_wp2_with fail
        go_ret
        exact ⟨rfl, HB.out⟩
end Go.Proofs.YtlifnjfmocjfjaaGreatDoor

/- The document's side: NewModel. -/
namespace Go.Proofs.YtlifnjfmocjfjaaGreatDoor
open Go.RowKit

theorem infoCell : ∃ i0, Tryz.prog.info? 74 = some i0 ∧ i0.zero = some (.agg #[.int .i64 0, .int .i64 0, .pointer none]) ∧ i0.size = 3 ∧ i0.bytes = 24 := info_parts (by kernel_rfl)
theorem make_cells0 (n : Nat) (hn : n ≤ 5000) (w : World) :
    (Instr.makeSlice 66 (.int .i64 (n : Int)) (.int .i64 (n : Int))).run Tryz.prog w = .ok (.slice (some ⟨w.heap.size, 0, none⟩) n n) (w.alloc (.cells (madeCells #[.int .i64 0, .int .i64 0, .pointer none] (n * 3)) 74)) := by
  obtain ⟨i, hi, hz, h1, h8⟩ := infoCell
  have h := run_make (P := Tryz.prog) w 66 74 i (.agg #[.int .i64 0, .int .i64 0, .pointer none]) Tryz.underlying66 hi hz .i64 .i64 (n : Int) (n : Int) (by omega) (by omega) (by rw [h8]; omega) (by omega)
  rw [h, h1]
  rfl
theorem made3 {z0 z1 z2 : Value} {n k : Nat} (i : Nat) (hi : i < 3) (hk : k < n) : (madeCells #[z0, z1, z2] (n * 3))[k * 3 + i]? = some (#[z0, z1, z2][i]!) := by
  unfold madeCells
  have h : k * 3 + i < n * 3 := by omega
  have e : (k * 3 + i) % 3 = i := by omega
  rw [Array.getElem?_map, Array.getElem?_eq_getElem (by simpa using h), Array.getElem_range]
  show some (#[z0, z1, z2][(k * 3 + i) % 3]!) = _
  rw [e]
theorem newModel_any (n : Nat) (hn : n ≤ 5000) (w : World) :
    Calls Tryz.prog 9 #[.int .i64 (n : Int)] w fun ev w' => ∃ q b, ev = .returned (.pointer (some ⟨q, 0, none⟩)) ∧ ModelAt q b n w' ∧ Below w.heap.size w w' := by
  have hm := make_cells0 n hn
  go_enter Tryz.func9, Tryz.ntmps9
  go_wp2_with fail
  clear hm
  obtain ⟨w1, hw1⟩ : ∃ w1, w1 = w.alloc (.cells (madeCells #[.int .i64 0, .int .i64 0, .pointer none] (n * 3)) 74) := ⟨_, rfl⟩
  have b1 : Below w.heap.size w w1 := by rw [hw1]; exact (Below.refl _ _).alloc (Nat.le_refl _) _
  have hs1 : w1.heap.size = w.heap.size + 1 := by rw [hw1]; simp
  have hn1 : w1.heap[w.heap.size]? = some (.cells (madeCells #[.int .i64 0, .int .i64 0, .pointer none] (n * 3)) 74) := by rw [hw1]; exact heap_alloc_new _ _
  rw [← hw1, ← hs1]
  have b2 : Below w1.heap.size w1 (w1.alloc (.cells #[.slice (some ⟨w.heap.size, 0, none⟩) n n, .slice none 0 0, .int .i64 0] 69)) := (Below.refl _ _).alloc (Nat.le_refl _) _
  have hn2 := (b2.block _ (lt_of_heap hn1)).trans hn1
  go_ret
  refine ⟨w1.heap.size, w.heap.size, rfl, ⟨by simp, lt_of_heap hn2, ?_, fun k hk => ?_, fun k hk => ?_, fun k hk => ?_⟩, b1.trans (b2.mono b1.size)⟩
  · rw [cell_of_row _ _ 0 _ _ _ (heap_alloc_new _ _)]; rfl
  · rw [cell_of_row _ _ _ _ _ _ hn2]; exact made3 0 (by omega) hk
  · rw [cell_of_row _ _ _ _ _ _ hn2]; exact made3 1 (by omega) hk
  · rw [cell_of_row _ _ _ _ _ _ hn2]; exact made3 2 (by omega) hk
end Go.Proofs.YtlifnjfmocjfjaaGreatDoor

/- Package heap: Words. -/
namespace Go.Proofs.YtlifnjfmocjfjaaGreatDoor
open Go.RowKit

set_option maxHeartbeats 1000000 in
theorem hwords_any (q p : Nat) (tn sr : Int) (m : MD) (w : World) (H : HeapAt q p tn sr w) (R : RepP p m w) :
    Calls Tryz.prog 7 #[.pointer (some ⟨q, 0, none⟩)] w fun ev w' => ev = .returned (.tuple #[.int .i64 m.top, .int .i64 m.oldTop]) ∧ Below w.heap.size w w' := by
  obtain ⟨vW, vR, vK, vI, vC, hp, M, _⟩ := R
  have d0 := H.c0
  have d5 := M.c5
  have d6 := M.c6
  clear M H
  go_enter Tryz.func7, Tryz.ntmps7
  go_upto_region 1 with fail
  go_region
  all_goals go_wp2_with fail
  all_goals go_ret2
  all_goals exact ⟨rfl, (Below.refl _ _).drew⟩
end Go.Proofs.YtlifnjfmocjfjaaGreatDoor
