/- Package mem: where a field lies (object, place), by contracts. -/
import Derived.Test.YtopcpeemibmgbaaDoorMemU
namespace Go.Proofs.YtopcpeemibmgbaaDoor
open Go.RowKit

/-- How a memory's words stand, and where objects begin. -/
structure Seen (p b bh nW cW : Nat) (F : Nat → Int) (hb : Nat → Bool) (w : World) : Prop where
  hn : nW ≤ 300000
  hc : nW ≤ cW
  hp : p < w.heap.size
  hbb : b < w.heap.size
  hbh : bh < w.heap.size
  heads : HeadsAt w bh nW hb
  c3 : w.cell? ⟨p, 3, none⟩ = some (.slice (some ⟨b, 0, none⟩) nW cW)
  words : ∀ i, i < nW → w.cell? ⟨b, i, none⟩ = some (.int .u64 (F i))
  range : ∀ i, i < nW → 0 ≤ F i ∧ F i < 18446744073709551616
  fine : ∀ f, f < nW → hb f = true → headB (F f) = true ∧ f + 1 + szN (F f) ≤ nW
theorem Seen.below {p b bh nW cW : Nat} {F : Nat → Int} {hb : Nat → Bool} {w w' : World} (S : Seen p b bh nW cW F hb w) (h : Below w.heap.size w w') : Seen p b bh nW cW F hb w' where
  hn := S.hn
  hc := S.hc
  hp := Nat.lt_of_lt_of_le S.hp h.size
  hbb := Nat.lt_of_lt_of_le S.hbb h.size
  hbh := Nat.lt_of_lt_of_le S.hbh h.size
  heads := S.heads.below h S.hbh
  c3 := (h.cell (p := ⟨p, 3, none⟩) S.hp).trans S.c3
  words i hi := (h.cell (p := ⟨b, i, none⟩) S.hbb).trans (S.words i hi)
  range := S.range
  fine := S.fine
theorem set4_block {w : World} {b : Nat} {u0 u1 u2 u3 : Value} (h : w.heap[b]? = some (.cells #[u0, u1, u2, u3] 73)) (v0 v1 v2 v3 : Value) : (set4 w b v0 v1 v2 v3).heap[b]? = some (.cells #[v0, v1, v2, v3] 73) := by
  unfold set4
  exact (heap_set_same ((heap_set_same ((heap_set_same ((heap_set_same h).trans rfl)).trans rfl)).trans rfl)).trans rfl
end Go.Proofs.YtopcpeemibmgbaaDoor
