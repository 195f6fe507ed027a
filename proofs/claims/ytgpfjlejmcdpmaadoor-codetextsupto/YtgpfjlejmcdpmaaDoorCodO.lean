/- The closed fact halt: by Text of any code. -/
import Derived.Test.YtgpfjlejmcdpmaaDoorCodN
import Derived.Test.YtgpfjlejmcdpmaaDoorCodR
namespace Go.Proofs.YtgpfjlejmcdpmaaDoor
open Go.RowKit

/-- The code of one halt. -/
def haltD : CD := ⟨1, fun _ => ⟨⟨#[]⟩, 0, 0, 0, 0, 1, fun _ => bHalt, fun _ => 0⟩, 0, fun _ => 0, 0, fun _ => ⟨#[]⟩, 0, fun _ => ⟨#[]⟩⟩
theorem dec_zero : decB 0 = ⟨#[48]⟩ := by
  unfold decB Lib.itoa
  rw [if_neg (by decide), show (0 : Int).toNat = 0 from rfl, Lib.decDigits, dif_pos (by decide)]
  rfl
theorem no_arg : hasA bHalt = false := by kernel_rfl
theorem haltD_text (qt : ByteArray → ByteArray) : codeB qt haltD = [102, 117, 110, 99, 32, 48, 32, 45, 32, 48, 32, 48, 32, 48, 32, 48, 10, 32, 32, 48, 32, 104, 97, 108, 116, 10] := by
  have e : ((0 : Nat) : Int) = 0 := rfl
  simp only [codeB, partF, partI, partS, partN, haltD, upto, funcB, headB, opB, no_arg, e, dec_zero]
  rfl
theorem text_halts (W : World) (ht : Tabbed W) (b1 b2 : Nat) (h1 : W.heap[b1]? = some (.cells #[.string ⟨#[104, 97, 108, 116]⟩, .int .i64 0] 41)) (h2 : W.heap[b2]? = some (.cells #[.string ⟨#[]⟩, .int .i64 0, .int .i64 0, .int .i64 0, .int .i64 0, .slice (some ⟨b1, 0, none⟩) 1 1] 39)) :
    Calls Tryd.prog 7 #[.agg #[.slice (some ⟨b2, 0, none⟩) 1 1, .slice none 0 0, .slice none 0 0, .slice none 0 0]] W fun ev w' => ev = .returned (.string ⟨#[102, 117, 110, 99, 32, 48, 32, 45, 32, 48, 32, 48, 32, 48, 32, 48, 10, 32, 32, 48, 32, 104, 97, 108, 116, 10]⟩) ∧ Below W.heap.size W w' := by
  have cc := fun j => cell_of_row _ _ j _ _ _ h2
  have co := fun j => cell_of_row _ _ j _ _ _ h1
  have z : I64 0 := ⟨by decide, by decide⟩
  have k := text_any (fun s => s) haltD (some ⟨b2, 0, none⟩) none none none 1 0 0 0
    ⟨by decide, by decide, by decide, by decide, fun i _ => by show 1 ≤ _; decide, fun i _ => ⟨z, z, z, z⟩, fun i _ j _ => z, fun i h => absurd h (Nat.not_lt_zero _), fun i _ => by show (⟨#[]⟩ : ByteArray).size ≤ _; decide, fun i _ j _ => by show bHalt.size ≤ _; decide, fun i h => absurd h (Nat.not_lt_zero _)⟩
    (by rw [haltD_text]; decide) W
    ⟨fun i hi => by
      obtain rfl : i = 0 := Nat.lt_one_iff.1 hi
      refine ⟨b2, 0, some ⟨b1, 0, none⟩, 1, rfl, ?_⟩
      refine ⟨(cc 0).trans rfl, (cc 1).trans rfl, (cc 2).trans rfl, (cc 3).trans rfl, (cc 4).trans rfl, (cc 5).trans rfl, fun j hj => ?_⟩
      obtain rfl : j = 0 := Nat.lt_one_iff.1 hj
      exact ⟨b1, 0, rfl, (co 0).trans rfl, (co 1).trans rfl⟩, fun i h => absurd h (Nat.not_lt_zero _), fun i h => absurd h (Nat.not_lt_zero _), fun i h => absurd h (Nat.not_lt_zero _)⟩
    ht (fun i h => absurd h (Nat.not_lt_zero _)) (fun i h => absurd h (Nat.not_lt_zero _))
  rw [haltD_text] at k
  exact k
set_option maxHeartbeats 4000000 in
set_option maxRecDepth 100000 in
theorem halt_any (w : World) (ht : Tabbed w) : Calls Tryd.prog 5 #[] w fun ev w' => ev = .returned (.bool true) ∧ Below w.heap.size w w' := by
  obtain ⟨k1, k2, k3, k4⟩ := three_made w (.cells #[.string ⟨#[104, 97, 108, 116]⟩, .int .i64 0] 41) (.cells #[.string ⟨#[]⟩, .int .i64 0, .int .i64 0, .int .i64 0, .int .i64 0, .slice (some ⟨w.heap.size, 0, none⟩) 1 1] 39) (.cells #[.slice (some ⟨w.heap.size + 1, 0, none⟩) 1 1, .slice none 0 0, .slice none 0 0, .slice none 0 0] 32)
  obtain ⟨w1, hw1⟩ : ∃ w1, w1 = ((w.alloc (.cells #[.string ⟨#[104, 97, 108, 116]⟩, .int .i64 0] 41)).alloc (.cells #[.string ⟨#[]⟩, .int .i64 0, .int .i64 0, .int .i64 0, .int .i64 0, .slice (some ⟨w.heap.size, 0, none⟩) 1 1] 39)).alloc (.cells #[.slice (some ⟨w.heap.size + 1, 0, none⟩) 1 1, .slice none 0 0, .slice none 0 0, .slice none 0 0] 32) := ⟨_, rfl⟩
  rw [← hw1] at k1 k2 k3 k4
  have hCA : CodeAt w1 (w.heap.size + 1) 0 1 (fun _ => w.heap.size) (fun _ => 0) (fun _ => 1) (fun _ => 1) (fun _ j => if j = 0 then bHalt else bStep) := by
    have cc := fun j => cell_of_row _ _ j _ _ _ k2
    have co := fun j => cell_of_row _ _ j _ _ _ k1
    refine ⟨fun i hi => ?_, fun i hi j hj => ?_, fun i hi => lt_of_heap k1, fun i hi => by omega⟩
    · obtain rfl : i = 0 := by omega
      exact ⟨(cc 0).trans rfl, (cc 1).trans rfl, (cc 2).trans rfl, (cc 3).trans rfl, (cc 4).trans rfl, (cc 5).trans rfl⟩
    · obtain rfl : j = 0 := by omega
      exact ⟨(co 0).trans rfl, (co 1).trans rfl⟩
  have kv := verify_ok (w.heap.size + 1) 0 1 1 (fun _ => w.heap.size) (fun _ => 0) (fun _ => 1) (fun _ => 1) (fun _ j => if j = 0 then bHalt else bStep) (fun _ _ => 0) (fun _ _ => 0) (fun _ _ => 0) (fun _ _ => 0) none none 0 0 0 0 (by omega) (by decide) (by omega) (by omega) (by omega) (fun i _ => first_straight 0) (fun i hi j _ => by obtain rfl : i = 0 := (by omega); exact first_names 0 j) w1 hCA
  have HC := toHid hCA
  have H1 := toHid k1
  have H2 := toHid k2
  have H3 := toHid k3
  have H4 := toHid k4
  have HTB := toHid ht
  have HW := toHid hw1
  clear hCA k1 k2 k3 k4 ht hw1
  go_enter Tryd.func5, Tryd.ntmps5
  go_wp2_with fail
  rw [← HW.out]
  refine kv.mono ?_
  rintro ev w2 ⟨rfl, hb2⟩
  obtain ⟨qc, hqc⟩ : ∃ qc, qc = w.heap.size + 1 + 1 := ⟨_, rfl⟩
  obtain ⟨qb, hqb⟩ : ∃ qb, qb = w.heap.size + 1 := ⟨_, rfl⟩
  have h3 := (hb2.block _ (lt_of_heap H3.out)).trans H3.out
  rw [← hqc, ← hqb] at h3
  rw [← hqc]
  have c0 : w2.cell? ⟨qc, 0, none⟩ = some (.slice (some ⟨qb, 0, none⟩) 1 1) := (cell_of_row _ _ 0 _ _ _ h3).trans rfl
  have c1 : w2.cell? ⟨qc, 1, none⟩ = some (.slice none 0 0) := (cell_of_row _ _ 1 _ _ _ h3).trans rfl
  have c2 : w2.cell? ⟨qc, 2, none⟩ = some (.slice none 0 0) := (cell_of_row _ _ 2 _ _ _ h3).trans rfl
  have c3 : w2.cell? ⟨qc, 3, none⟩ = some (.slice none 0 0) := (cell_of_row _ _ 3 _ _ _ h3).trans rfl
  have kx := text_halts w2 (HTB.out.below (H4.out.trans (hb2.mono H4.out.size)) (Nat.le_refl _)) w.heap.size (w.heap.size + 1) ((hb2.block _ (lt_of_heap H1.out)).trans H1.out) ((hb2.block _ (lt_of_heap H2.out)).trans H2.out)
  rw [← hqb] at kx
  have HH3 := toHid h3
  have HQB := toHid hqb
  clear kv h3 hqc hqb
  go_wp2_with fail
  refine kx.mono ?_
  rintro ev w3 ⟨rfl, hb3⟩
  have h4 := (hb3.block qc (lt_of_heap HH3.out)).trans HH3.out
  clear kx c0 c1 c2 c3
  have c0 : w3.cell? ⟨qc, 0, none⟩ = some (.slice (some ⟨qb, 0, none⟩) 1 1) := (cell_of_row _ _ 0 _ _ _ h4).trans rfl
  have c1 : w3.cell? ⟨qc, 1, none⟩ = some (.slice none 0 0) := (cell_of_row _ _ 1 _ _ _ h4).trans rfl
  have c2 : w3.cell? ⟨qc, 2, none⟩ = some (.slice none 0 0) := (cell_of_row _ _ 2 _ _ _ h4).trans rfl
  have c3 : w3.cell? ⟨qc, 3, none⟩ = some (.slice none 0 0) := (cell_of_row _ _ 3 _ _ _ h4).trans rfl
  have kn := count_any (w.heap.size + 1) 0 1 1 (fun _ => w.heap.size) (fun _ => 0) (fun _ => 1) (fun _ => 1) (fun _ j => if j = 0 then bHalt else bStep) (.slice none 0 0) (.slice none 0 0) (.slice none 0 0) (by omega) w3 ((HC.out.below hb2).below hb3)
  rw [← HQB.out, show sumL (fun _ => 1) 1 = 1 from rfl] at kn
  have HBE : Hid (Below w.heap.size w w3) := H4.out.trans ((hb2.trans (hb3.mono hb2.size)).mono H4.out.size)
  clear h4
  go_wp2_with fail
  refine kn.mono ?_
  rintro ev w4 ⟨rfl, hb4⟩
  go_wp2_with fail
  go_ret
  exact ⟨rfl, HBE.out.trans (hb4.mono HBE.out.size)⟩
end Go.Proofs.YtgpfjlejmcdpmaaDoor
