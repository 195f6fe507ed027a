/- memOf, by a walk. -/
import Derived.Test.YtlifnjfmocjfjaaGreatDoorMemI
import Derived.Deep.AppendLies
namespace Go.Proofs.YtlifnjfmocjfjaaGreatDoor
open Go.RowKit

theorem ids_next {T e : Nat} {w0 wr wb w2 : World} {B bx : Nat} {h ol c : Int} {v3 : Value} {u t ot : Int} {v7 v8 v9 v10 v : Value} {n k k' : Nat} {xs ys : List Value} (hB : Below B w0 wr) (hBb : B ≤ bx) (hO : OB T bx h ol c v3 u t ot v7 v8 v9 v10 wr) (hR : wr.ownsRow (bx + 1) e n v9 k xs) (hwb : Below wr.heap.size wr wb) (hg : wb.grownBy w2 v9.ownBlock) (ho : w2.ownsRow (bx + 1) e n v k' ys) :
    OB T bx h ol c v3 u t ot v7 v8 v9 v10 w2 ∧ OB T bx h ol c v3 u t ot v7 v8 v v10 (w2.setCell ⟨bx, 9, none⟩ v) ∧ (w2.setCell ⟨bx, 9, none⟩ v).ownsRow (bx + 1) e n v k' ys ∧ Below B w0 (w2.setCell ⟨bx, 9, none⟩ v) := by
  have hl := lt_of_heap hO
  have hz := hB.size
  have hwz := hwb.size
  have h1 : w2.heap[bx]? = wr.heap[bx]? := (hg.block bx (by omega) (fun e => by have := (own_lt2 hR bx e.symm).1; omega)).trans (hwb.block bx hl)
  have hO2 : OB T bx h ol c v3 u t ot v7 v8 v9 v10 w2 := h1.trans hO
  refine ⟨hO2, (heap_set_same hO2).trans rfl, ownsRow_far' ho (fun g hk => heap_set _ _ _ _ _ (by have := (own_lt2 ho g hk).1; omega)), Below.setCell ?_ hBb _⟩
  refine ⟨hg.os.trans (hwb.os.trans hB.os), hg.tape.trans (hwb.tape.trans hB.tape), hg.output.trans (hwb.output.trans hB.output), by have := hg.size; omega, fun g hgB => ?_⟩
  exact (hg.block g (by omega) (fun e => by have := (own_lt2 hR g e.symm).1; omega)).trans ((hwb.block g (by omega)).trans (hB.block g hgB))
theorem heap_alloc_old (w : World) (o : Obj) (k : Nat) (h : k < w.heap.size) : (w.alloc o).heap[k]? = w.heap[k]? := ((Below.refl w.heap.size w).alloc (Nat.le_refl _) o).block k h
set_option maxRecDepth 100000 in
theorem infoMID : ∃ i, Tryz.prog.info? 115 = some i ∧ i.zero = some (.agg #[.int .u64 0, .int .i64 0]) ∧ i.size = 2 ∧ i.bytes = 16 := by
  refine ⟨(Tryz.prog.info? 115).get (by kernel_rfl), ?_, ?_, ?_, ?_⟩
  · exact (Option.some_get _).symm
  · kernel_rfl
  · kernel_rfl
  · kernel_rfl
theorem two_one {x y : Int} : ∀ u ∈ [Value.int .u64 x, Value.int .i64 y], u.oneCell' = true := by
  intro u hu
  simp at hu
  rcases hu with rfl | rfl <;> rfl
theorem ids_take {l : List (Int × Int)} {k : Nat} {x : Int × Int} (h : l[k]? = some x) : idsV (l.take (k + 1)) = idsV (l.take k) ++ [.int .u64 x.1, .int .i64 x.2] := by
  rw [List.take_add_one, h]
  simp [idsV]

end Go.Proofs.YtlifnjfmocjfjaaGreatDoor
