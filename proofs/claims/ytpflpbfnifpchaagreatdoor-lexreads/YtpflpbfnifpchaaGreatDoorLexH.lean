/- Package lex: add, settle, by contracts: the reader's two slices. -/
import Derived.Test.YtpflpbfnifpchaaGreatDoorLexG
import Derived.Deep.AppendLies
namespace Go.Proofs.YtpflpbfnifpchaaGreatDoor
open Go.RowKit

/-- A token's three cells. -/
def tokCells (k t : ByteArray) (i : Nat) : List Value := [.string k, .string t, .int .i64 i]

/-- The reader at block p, above block B: its text, its place, the open indentations, its tokens (three cells each, n of them). -/
structure RS (B p : Nat) (s : ByteArray) (at_ : Nat) (op : List Int) (n : Nat) (tk : List Value) (w : World) : Prop where
  hA : At p s at_ w
  hp : B ≤ p
  hpl : p < w.heap.size
  ex : ∃ g cap vt, w.cell? ⟨p, 2, none⟩ = some (.slice (some ⟨g, 0, none⟩) op.length cap) ∧ w.cell? ⟨p, 3, none⟩ = some vt ∧
    w.ownsRow B 3 1 (.slice (some ⟨g, 0, none⟩) op.length cap) op.length (op.map (Value.int .i64)) ∧ w.ownsRow B 44 3 vt n tk ∧
    g ≠ p ∧ vt.ownBlock ≠ some p ∧ vt.ownBlock ≠ some g
  f2 : w.frozen? ⟨p, 2, none⟩ = false
  f3 : w.frozen? ⟨p, 3, none⟩ = false

theorem infoTok : (Tryz.prog.info? 44).map (fun i => (i.zero, i.size, i.bytes)) = some (some (.agg #[.string ⟨#[]⟩, .string ⟨#[]⟩, .int .i64 0]), 3, 40) := by kernel_rfl
theorem infoInt : (Tryz.prog.info? 3).map (fun i => (i.zero, i.size, i.bytes)) = some (some (.int .i64 0), 1, 8) := by kernel_rfl

theorem three_new (w : World) (a b c : Value) (t : TypeId) : ∀ j u, ([a, b, c] : List Value)[j]? = some u → (w.alloc (.cells #[a, b, c] t)).cell? ((⟨w.heap.size, 0, none⟩ : Addr).add j) = some u := by
  intro j u h
  have hadd : (⟨w.heap.size, 0, none⟩ : Addr).add j = ⟨w.heap.size, j, none⟩ := by unfold Addr.add; split <;> simp_all
  rw [hadd, World.cell?_alloc_at _ _ _ _ rfl]
  simpa using h

/-- A world as another, but for one cell of one block: what cells and marks read. -/
theorem frozen_set (w : World) (p o q : Nat) (v : Value) : (w.setCell ⟨p, o, none⟩ v).frozen? ⟨p, q, none⟩ = w.frozen? ⟨p, q, none⟩ := by
  simp only [World.setCell, World.frozen?, Array.getElem?_modify]
  simp only [if_true]
  cases w.heap[p]? with
  | none => rfl
  | some x => cases x <;> rfl
theorem cell_set (w : World) (p o q : Nat) (v : Value) (h : q ≠ o) : (w.setCell ⟨p, o, none⟩ v).cell? ⟨p, q, none⟩ = w.cell? ⟨p, q, none⟩ :=
  World.cell?_setCell_other _ _ _ _ (by intro e; exact h (by simpa using e.symm))
theorem heap_set (w : World) (p o k : Nat) (v : Value) (h : k ≠ p) : (w.setCell ⟨p, o, none⟩ v).heap[k]? = w.heap[k]? := Below.heap_setCell _ _ _ _ h
theorem size_set (w : World) (a : Addr) (v : Value) : (w.setCell a v).heap.size = w.heap.size := by simp [World.setCell]

theorem rs_add {B p : Nat} {s : ByteArray} {at_ : Nat} {op : List Int} {n : Nat} {tk news : List Value} {w w1 : World} {g cap gn capn : Nat} {vt : Value} {o : Obj} (hA : At p s at_ w) (hp : B ≤ p) (hpl : p < w.heap.size)
    (c2 : w.cell? ⟨p, 2, none⟩ = some (.slice (some ⟨g, 0, none⟩) op.length cap)) (c3 : w.cell? ⟨p, 3, none⟩ = some vt)
    (o2 : w.ownsRow B 3 1 (.slice (some ⟨g, 0, none⟩) op.length cap) op.length (op.map (Value.int .i64))) (o3 : w.ownsRow B 44 3 vt n tk)
    (ngp : g ≠ p) (ntp : vt.ownBlock ≠ some p) (ntg : vt.ownBlock ≠ some g) (f2 : w.frozen? ⟨p, 2, none⟩ = false) (f3 : w.frozen? ⟨p, 3, none⟩ = false) (hB : B ≤ w.heap.size)
    (hown1 : w1.ownsRow B 44 3 (.slice (some ⟨gn, 0, none⟩) (n + 1) capn) (n + 1) (tk ++ news)) (hgrow : (w.alloc o).grownBy w1 vt.ownBlock) (hat : vt.ownBlock = some gn ∨ gn = w.heap.size + 1) :
    RS B p s at_ op (n + 1) (tk ++ news) (w1.setCell ⟨p, 3, none⟩ (.slice (some ⟨gn, 0, none⟩) (n + 1) capn)) ∧ Below B w (w1.setCell ⟨p, 3, none⟩ (.slice (some ⟨gn, 0, none⟩) (n + 1) capn)) := by
  have hg : g < w.heap.size := by
    rcases o2.2 with ⟨h, _⟩ | ⟨g', cap', cur, h, _, hg', _⟩
    · cases h
    · simp at h; rw [h.1]; exact lt_of_heap hg'
  have blk : ∀ k, k < w.heap.size → vt.ownBlock ≠ some k → w1.heap[k]? = w.heap[k]? := fun k hk hne =>
    (hgrow.block k (by simp; omega) (fun e => hne e.symm)).trans (Below.heap_alloc _ _ _ hk)
  have bp : w1.heap[p]? = w.heap[p]? := blk p hpl ntp
  have bg : w1.heap[g]? = w.heap[g]? := blk g hg ntg
  have ce : ∀ q, w1.cell? ⟨p, q, none⟩ = w.cell? ⟨p, q, none⟩ := fun q => World.cell?_of_block (w := w) (a := ⟨p, q, none⟩) bp
  have fe : ∀ q, w1.frozen? ⟨p, q, none⟩ = w.frozen? ⟨p, q, none⟩ := fun q => World.frozen?_of_block (w := w) (a := ⟨p, q, none⟩) bp
  have hgn : gn ≠ p ∧ gn ≠ g := by
    rcases hat with h | h
    · exact ⟨fun e => ntp (by rw [h, e]), fun e => ntg (by rw [h, e])⟩
    · omega
  have hsz : w.heap.size ≤ w1.heap.size := by have := hgrow.size; simp at this; omega
  have hbel : Below B w w1 := Below.grown ((Below.refl _ _).alloc hB _) hgrow (by simp; omega) (own_ge o3)
  refine ⟨⟨⟨hA.hs, hA.hat, ?_, ?_, ?_⟩, hp, by rw [size_set]; omega, ⟨g, cap, _, ?_, World.cell?_setCell_same _ _ _ (u := vt) ((ce 3).trans c3), ?_, ?_, ngp, ?_, ?_⟩, ?_, ?_⟩, hbel.setCell hp _⟩
  · rw [cell_set _ _ _ _ _ (by decide), ce]; exact hA.c0
  · rw [cell_set _ _ _ _ _ (by decide), ce]; exact hA.c1
  · rw [frozen_set, fe]; exact hA.f1
  · rw [cell_set _ _ _ _ _ (by decide), ce]; exact c2
  · refine ⟨o2.1, ?_⟩
    rcases o2.2 with h | ⟨g', cap', cur, h, hb, hg', rest⟩
    · exact .inl h
    · have eg : g' = g := by simp at h; exact h.1.symm
      refine .inr ⟨g', cap', cur, h, hb, ?_, rest⟩
      rw [heap_set _ _ _ _ _ (by rw [eg]; exact ngp), eg, bg, ← eg]; exact hg'
  · refine ⟨hown1.1, ?_⟩
    rcases hown1.2 with h | ⟨g', cap', cur, h, hb, hg', rest⟩
    · exact .inl h
    · have eg : g' = gn := by simp at h; exact h.1.symm
      refine .inr ⟨g', cap', cur, h, hb, ?_, rest⟩
      rw [heap_set _ _ _ _ _ (by rw [eg]; exact hgn.1)]; exact hg'
  · simp [Value.ownBlock]; exact hgn.1
  · simp [Value.ownBlock]; exact hgn.2
  · rw [frozen_set, fe]; exact f2
  · rw [frozen_set, fe]; exact f3

set_option maxHeartbeats 400000 in
theorem add_any (B p : Nat) (s : ByteArray) (at_ : Nat) (op : List Int) (n : Nat) (tk : List Value) (w : World) (k t : ByteArray) (i : Nat) (h : RS B p s at_ op n tk w) (hB : B ≤ w.heap.size) (hn : n ≤ 100000) :
    Calls Tryz.prog 18 #[.pointer (some ⟨p, 0, none⟩), .string k, .string t, .int .i64 i] w fun ev w' => ev = .returned (.tuple #[]) ∧ RS B p s at_ op (n + 1) (tk ++ tokCells k t i) w' ∧ Below B w w' := by
  obtain ⟨hA, hp, hpl, ⟨g, cap, vt, c2, c3, o2, o3, ngp, ntp, ntg⟩, f2, f3⟩ := h
  obtain ⟨i0, hi, hz0, hz1, hz2⟩ := info_parts infoTok
  go_enter Tryz.func18, Tryz.ntmps18
  go_wp2_with (first | (at_builtin; refine wpList_append_lies _ rfl _ _ _ rfl B 44 i0 (.agg #[.string ⟨#[]⟩, .string ⟨#[]⟩, .int .i64 0]) 3 40 Tryz.underlying23 hi hz0 hz1 hz2 rfl (by decide) _ n tk rfl (o3.alloc _) ⟨w.heap.size, 0, none⟩ 1 1 (tokCells k t i) rfl rfl (three_new _ _ _ _ _) (fun y hy => by simp [tokCells] at hy; rcases hy with rfl | rfl | rfl <;> rfl) (by decide) (by unfold maxLen; omega) (by omega) (by simp; omega) _ rfl ?_))
  intro gn capn w1 hown1 hgrow hat hlt
  have R := rs_add hA hp hpl c2 c3 o2 o3 ngp ntp ntg f2 f3 hB hown1 hgrow (by simpa using hat)
  have e3 : w1.cell? ⟨p, 3, none⟩ = some vt := by
    rw [hgrow.cell_far ⟨p, 3, none⟩ (by simp; omega) (fun e => ntp e.symm), World.cell?_alloc_past _ _ _ hpl]; exact c3
  have g3 : w1.frozen? ⟨p, 3, none⟩ = false := by
    rw [hgrow.frozen_far ⟨p, 3, none⟩ (by simp; omega) (fun e => ntp e.symm), World.frozen?_alloc_past _ _ _ hpl]; exact f3
  clear hgrow hown1 hat hA c2 c3 o2 o3 ntp ntg f2 f3
  go_wp2
  go_end0
  exact ⟨rfl, R.1, R.2⟩
end Go.Proofs.YtpflpbfnifpchaaGreatDoor
