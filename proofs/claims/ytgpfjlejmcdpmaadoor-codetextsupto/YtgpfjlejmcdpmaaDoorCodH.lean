/- Package code: flows of code that goes straight on, by a walk. -/
import Derived.Test.YtgpfjlejmcdpmaaDoorCodG
namespace Go.Proofs.YtgpfjlejmcdpmaaDoor
open Go.RowKit

theorem make_states (n : Nat) (hn : n ≤ 300000) : ∃ cs : Array Value, cs.size = n * 2 ∧ ∀ w : World, (Instr.makeSlice 88 (.int .i64 (n : Int)) (.int .i64 (n : Int))).run Tryd.prog w = .ok (.slice (some ⟨w.heap.size, 0, none⟩) n n) (w.alloc (.cells cs 94)) := by
  obtain ⟨i, hi, hz, h1, h8⟩ : ∃ i, Tryd.prog.info? 94 = some i ∧ i.zero = some (.agg #[.int .i64 0, .int .i64 0]) ∧ i.size = 2 ∧ i.bytes = 16 := by
    refine ⟨(Tryd.prog.info? 94).get (by kernel_rfl), (Option.some_get _).symm, ?_, ?_, ?_⟩ <;> kernel_rfl
  refine ⟨madeCells (Value.agg #[.int .i64 0, .int .i64 0]).cells (n * 2), size_madeCells _ _, fun w => ?_⟩
  have h := run_make (P := Tryd.prog) w 88 94 i _ Tryd.underlying88 hi hz .i64 .i64 (n : Int) (n : Int) (by omega) (by omega) (by rw [h8]; omega) (by omega)
  rw [h, h1]
  simp
theorem make_bools (n : Nat) (hn : n ≤ 300000) : ∃ cs : Array Value, cs.size = n ∧ (∀ j, j < n → cs[j]? = some (.bool false)) ∧ ∀ w : World, (Instr.makeSlice 89 (.int .i64 (n : Int)) (.int .i64 (n : Int))).run Tryd.prog w = .ok (.slice (some ⟨w.heap.size, 0, none⟩) n n) (w.alloc (.cells cs 4)) := by
  obtain ⟨i, hi, hz, h1, h8⟩ : ∃ i, Tryd.prog.info? 4 = some i ∧ i.zero = some (.bool false) ∧ i.size = 1 ∧ i.bytes = 1 := by
    refine ⟨(Tryd.prog.info? 4).get (by kernel_rfl), (Option.some_get _).symm, ?_, ?_, ?_⟩ <;> kernel_rfl
  refine ⟨madeCells (Value.bool false).cells (n * 1), by rw [size_madeCells]; omega, fun j hj => ?_, fun w => ?_⟩
  · have e0 : j % 1 = 0 := Nat.mod_one j
    simp [madeCells, Value.cells, e0, hj]
  · have h := run_make (P := Tryd.prog) w 89 4 i _ Tryd.underlying89 hi hz .i64 .i64 (n : Int) (n : Int) (by omega) (by omega) (by rw [h8]; omega) (by omega)
    rw [h, h1]
    simp
theorem FL.congr {w0 : World} {bf bo oo n co bm ga gc : Nat} {A A' : Nat → Int} {c : Nat} {vW : Value} {k : Nat} {xs : List Value} {w : World} (F : FL w0 bf bo oo n co bm ga gc A c vW k xs w) (h : ∀ j, j < c → A j = A' j) : FL w0 bf bo oo n co bm ga gc A' c vW k xs w := by
  obtain ⟨h1, h2, h3, h4, ⟨ca, h5, h6, h6'⟩, h7, h9, h10⟩ := F
  exact ⟨h1, h2, h3, h4, ⟨ca, h5, h6, fun j hj => by rw [← h j hj]; exact h6' j hj⟩, h7, h9, h10⟩
/-- The one op that is left is taken. -/
theorem FL.take {w0 : World} {bf bo oo n co bm ga gc : Nat} {A : Nat → Int} {c : Nat} {vW : Value} {x : Value} {w : World} (F : FL w0 bf bo oo n co bm ga gc A c vW 1 [x] w) : ∃ g cap, vW = .slice (some ⟨g, 0, none⟩) 1 cap ∧ 1 ≤ cap ∧ w.cell? ⟨g, 0, none⟩ = some x ∧ FL w0 bf bo oo n co bm ga gc A c (.slice (some ⟨g, 0, none⟩) 0 cap) 0 [] (w.setCell ⟨bf, 4, none⟩ (.slice (some ⟨g, 0, none⟩) 0 cap)) := by
  have F' := F
  obtain ⟨h1, h2, h3, h4, h5, h7, h9, h10⟩ := F
  obtain ⟨hl, hr⟩ := h9
  rcases hr with ⟨_, h0⟩ | ⟨g, cap, cur, rfl, hb, hg, hc, hm, hs, ht⟩
  · omega
  · have hcell : w.cell? ⟨g, 0, none⟩ = some x := by
      rw [cell_of_row _ _ _ _ _ _ hg, ← Array.getElem?_toList]
      have e : (cur.toList.take (1 * 1))[0]? = some x := by rw [ht]; rfl
      rw [List.getElem?_take] at e
      simpa using e
    refine ⟨g, cap, rfl, hc, hcell, ?_⟩
    have hw : w.grownBy w (Value.slice (some ⟨g, 0, none⟩) 1 cap).ownBlock := ⟨rfl, rfl, rfl, Nat.le_refl _, fun _ _ _ => rfl⟩
    have ho : w.ownsRow w0.heap.size 3 1 (.slice (some ⟨g, 0, none⟩) 0 cap) 0 [] := ⟨rfl, .inr ⟨g, cap, cur, rfl, hb, hg, Nat.zero_le _, hm, hs, by simp⟩⟩
    exact (F'.wset hw ho (fun q hq => .inl hq)).2
end Go.Proofs.YtgpfjlejmcdpmaaDoor
