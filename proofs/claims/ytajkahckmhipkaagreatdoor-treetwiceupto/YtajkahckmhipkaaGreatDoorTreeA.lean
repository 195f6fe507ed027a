/- Package tree: where its reader stands; next, pass, throw, need, isMark, passMark, needMark, name, by contracts. -/
import Derived.Test.YtajkahckmhipkaaGreatDoorLexYToToks
import Derived.Deep.CutBlock
import Derived.Deep.RegionHeld3
namespace Go.Proofs.YtajkahckmhipkaaGreatDoor
open Go.RowKit

/-- All but one block are as they were. -/
structure Keeps (p : Nat) (w w' : World) : Prop where
  below : Below p w w'
  block : ∀ k, k ≠ p → k < w.heap.size → w'.heap[k]? = w.heap[k]?
theorem Keeps.refl (p : Nat) (w : World) : Keeps p w w := ⟨Below.refl _ _, fun _ _ _ => rfl⟩
theorem Keeps.trans {p : Nat} {a b c : World} (h : Keeps p a b) (k : Keeps p b c) : Keeps p a c :=
  ⟨h.below.trans k.below, fun i hi hl => (k.block i hi (Nat.lt_of_lt_of_le hl h.below.size)).trans (h.block i hi hl)⟩
theorem Keeps.of {p : Nat} {w w' : World} (h : Below w.heap.size w w') (hp : p ≤ w.heap.size) : Keeps p w w' := ⟨h.mono hp, fun k _ hk => h.block k hk⟩
theorem Keeps.set {p o : Nat} {w w' : World} {v : Value} (h : Keeps p w w') : Keeps p w (w'.setCell ⟨p, o, none⟩ v) :=
  ⟨h.below.setCell (Nat.le_refl _) _, fun k hk hl => (heap_set _ _ _ _ _ hk).trans (h.block k hk hl)⟩

/-- The reader of package tree: at token k, so many blocks around, so deep in a term. -/
structure RD (w : World) (p g cap : Nat) (rk : Value) (l : List (ByteArray × ByteArray × Nat)) (k bl dp : Nat) : Prop where
  blk : w.heap[p]? = some (.cells #[.slice (some ⟨g, 0, none⟩) l.length cap, .int .i64 (k : Int), rk, .int .i64 (bl : Int), .int .i64 (dp : Int)] 61)
  toks : ∀ j v, (cellsOf l)[j]? = some v → w.cell? ⟨g, j, none⟩ = some v
  gp : g ≠ p
  gl : g < w.heap.size
theorem RD.more {w w' : World} {p g cap : Nat} {rk : Value} {l : List (ByteArray × ByteArray × Nat)} {k bl dp : Nat} (h : RD w p g cap rk l k bl dp) (hb : Below w.heap.size w w') : RD w' p g cap rk l k bl dp :=
  ⟨(hb.block _ (lt_of_heap h.blk)).trans h.blk, fun j v hj => (hb.cell (p := ⟨g, j, none⟩) h.gl).trans (h.toks j v hj), h.gp, Nat.lt_of_lt_of_le h.gl hb.size⟩
theorem RD.cells {w : World} {p g cap : Nat} {rk : Value} {l : List (ByteArray × ByteArray × Nat)} {k bl dp : Nat} (h : RD w p g cap rk l k bl dp) :
    w.cell? ⟨p, 0, none⟩ = some (.slice (some ⟨g, 0, none⟩) l.length cap) ∧ w.cell? ⟨p, 1, none⟩ = some (.int .i64 (k : Int)) ∧ w.cell? ⟨p, 2, none⟩ = some rk ∧ w.cell? ⟨p, 3, none⟩ = some (.int .i64 (bl : Int)) ∧ w.cell? ⟨p, 4, none⟩ = some (.int .i64 (dp : Int)) := by
  refine ⟨?_, ?_, ?_, ?_, ?_⟩
  · rw [cell_of_row w p 0 _ _ _ h.blk]; rfl
  · rw [cell_of_row w p 1 _ _ _ h.blk]; rfl
  · rw [cell_of_row w p 2 _ _ _ h.blk]; rfl
  · rw [cell_of_row w p 3 _ _ _ h.blk]; rfl
  · rw [cell_of_row w p 4 _ _ _ h.blk]; rfl
theorem RD.open_ {w : World} {p g cap : Nat} {rk : Value} {l : List (ByteArray × ByteArray × Nat)} {k bl dp : Nat} (h : RD w p g cap rk l k bl dp) (o : Nat) : w.frozen? ⟨p, o, none⟩ = false := by
  simp [World.frozen?, h.blk]
theorem RD.tok {w : World} {p g cap : Nat} {rk : Value} {l : List (ByteArray × ByteArray × Nat)} {k bl dp j : Nat} (h : RD w p g cap rk l k bl dp) {x : ByteArray × ByteArray × Nat} (hx : l[j]? = some x) :
    w.cell? ⟨g, j * 3, none⟩ = some (.string x.1) ∧ w.cell? ⟨g, j * 3 + 1, none⟩ = some (.string x.2.1) ∧ w.cell? ⟨g, j * 3 + 2, none⟩ = some (.int .i64 (x.2.2 : Int)) := by
  obtain ⟨e1, e2, e3⟩ := cells_get l j x hx
  exact ⟨h.toks _ _ e1, h.toks _ _ e2, h.toks _ _ e3⟩
theorem heap_set_same {w : World} {p o : Nat} {v : Value} {cs : Array Value} {t : TypeId} {fr : Nat × Nat} (h : w.heap[p]? = some (.cells cs t fr)) : (w.setCell ⟨p, o, none⟩ v).heap[p]? = some (.cells (cs.setIfInBounds o v) t fr) := by
  simp [World.setCell, Array.getElem?_modify, h]

/-- A store into another block changes nothing of the reader. -/
theorem RD.other {w : World} {p g cap : Nat} {rk : Value} {l : List (ByteArray × ByteArray × Nat)} {k bl dp b o : Nat} {v : Value} (R : RD w p g cap rk l k bl dp) (hp : p ≠ b) (hg : g ≠ b) : RD (w.setCell ⟨b, o, none⟩ v) p g cap rk l k bl dp :=
  ⟨(heap_set _ _ _ _ _ hp).trans R.blk, fun j u hj => by rw [World.cell?_of_block (w := w) (a := ⟨g, j, none⟩) (heap_set _ _ _ _ _ hg)]; exact R.toks j u hj, R.gp, by rw [size_set]; exact R.gl⟩
theorem Keeps.other {p b o : Nat} {w w' : World} {v : Value} (h : Keeps p w w') (hp : p ≤ b) (hb : w.heap.size ≤ b) : Keeps p w (w'.setCell ⟨b, o, none⟩ v) :=
  ⟨h.below.setCell hp _, fun k hk hl => (heap_set _ _ _ _ _ (by omega)).trans (h.block k hk hl)⟩
theorem tokL_block {w : World} {b : Nat} (h : w.heap[b]? = some (.cells #[.string ⟨#[]⟩, .string ⟨#[]⟩, .int .i64 0] 79)) :
    w.cell? ⟨b, 0, none⟩ = some (.string ⟨#[]⟩) ∧ w.cell? ⟨b, 1, none⟩ = some (.string ⟨#[]⟩) ∧ w.cell? ⟨b, 2, none⟩ = some (.int .i64 0) ∧ w.frozen? ⟨b, 0, none⟩ = false ∧ w.frozen? ⟨b, 1, none⟩ = false ∧ w.frozen? ⟨b, 2, none⟩ = false := by
  refine ⟨?_, ?_, ?_, ?_, ?_, ?_⟩
  · rw [cell_of_row w b 0 _ _ _ h]; rfl
  · rw [cell_of_row w b 1 _ _ _ h]; rfl
  · rw [cell_of_row w b 2 _ _ _ h]; rfl
  · simp [World.frozen?, h]
  · simp [World.frozen?, h]
  · simp [World.frozen?, h]
theorem tokL_set {w : World} {b : Nat} {u0 u1 u2 : Value} (r0 : w.cell? ⟨b, 0, none⟩ = some u0) (r1 : w.cell? ⟨b, 1, none⟩ = some u1) (r2 : w.cell? ⟨b, 2, none⟩ = some u2) (v0 v1 v2 : Value) :
    (((w.setCell ⟨b, 0, none⟩ v0).setCell ⟨b, 1, none⟩ v1).setCell ⟨b, 2, none⟩ v2).cell? ⟨b, 0, none⟩ = some v0 ∧ (((w.setCell ⟨b, 0, none⟩ v0).setCell ⟨b, 1, none⟩ v1).setCell ⟨b, 2, none⟩ v2).cell? ⟨b, 1, none⟩ = some v1 ∧ (((w.setCell ⟨b, 0, none⟩ v0).setCell ⟨b, 1, none⟩ v1).setCell ⟨b, 2, none⟩ v2).cell? ⟨b, 2, none⟩ = some v2 := by
  refine ⟨?_, ?_, ?_⟩
  · rw [cell_set _ _ _ _ _ (by decide), cell_set _ _ _ _ _ (by decide)]
    exact World.cell?_setCell_same _ _ _ r0
  · rw [cell_set _ _ _ _ _ (by decide)]
    exact World.cell?_setCell_same _ _ _ ((cell_set _ _ _ _ _ (by decide)).trans r1)
  · exact World.cell?_setCell_same _ _ _ ((cell_set _ _ _ _ _ (by decide)).trans ((cell_set _ _ _ _ _ (by decide)).trans r2))
theorem results_tok (f : Func) (r : Nat) (hr : f.results = #[.cell r 79]) (tmps : Array Value) (W : World) (b : Nat) (v0 v1 v2 : Value) (h2 : tmps[r]?.getD undef = .pointer (some ⟨b, 0, none⟩)) (c0 : W.cell? ⟨b, 0, none⟩ = some v0) (c1 : W.cell? ⟨b, 1, none⟩ = some v1) (c2 : W.cell? ⟨b, 2, none⟩ = some v2) :
    (results f tmps).run Tryz.prog W = .ok (.agg #[v0, v1, v2]) W := by
  simp [results, hr, go_sem, h2, c0, c1, c2]

theorem tok_new (w : World) (a b c : Value) (o : Nat) {v : Value} (h : (#[a, b, c] : Array Value)[o]? = some v) : ((w.alloc (.cells #[a, b, c] 79)).drew).cell? ⟨w.heap.size, o, none⟩ = some v := by
  show (w.alloc (.cells #[a, b, c] 79)).cell? ⟨w.heap.size, o, none⟩ = some v
  rw [cell_of_row _ _ o _ _ _ (heap_alloc_new w _)]
  exact h
theorem toHid {p : Prop} (h : p) : Hid p := h

set_option maxHeartbeats 1000000 in
theorem tnext_any {w : World} {p g cap : Nat} {rk : Value} {l : List (ByteArray × ByteArray × Nat)} {k bl dp : Nat} (R : RD w p g cap rk l k bl dp) {x : ByteArray × ByteArray × Nat} (hx : l[k]? = some x) :
    Calls Tryz.prog 32 #[.pointer (some ⟨p, 0, none⟩)] w fun ev w' => ev = .returned (.agg #[.string x.1, .string x.2.1, .int .i64 (x.2.2 : Int)]) ∧ Below w.heap.size w w' := by
  obtain ⟨r0, r1, _, _, _⟩ := R.cells
  obtain ⟨t0, t1, t2⟩ := R.tok hx
  have hk := (List.getElem?_eq_some_iff.1 hx).1
  have hI0 : (0 : Int) ≤ (k : Int) := by omega
  have hI1 : (k : Int) < (l.length : Int) := by omega
  have hpl := lt_of_heap R.blk
  have hgl := R.gl
  obtain ⟨a, b, c⟩ := x
  simp only at t0 t1 t2
  clear R hx
  go_enter Tryz.func32, Tryz.ntmps32
  go_wp2_with fail
  go_region_held3 (fun w' => w'.cell? ⟨p, 0, none⟩ = some (.slice (some ⟨g, 0, none⟩) l.length cap) ∧ w'.cell? ⟨p, 1, none⟩ = some (.int .i64 (k : Int)) ∧ w'.cell? ⟨g, k * 3, none⟩ = some (.string a) ∧ w'.cell? ⟨g, k * 3 + 1, none⟩ = some (.string b) ∧ w'.cell? ⟨g, k * 3 + 2, none⟩ = some (.int .i64 (c : Int))) (go_keep) (fail)
  go_wp2
  refine bodyPost_ret (results_tok _ 2 rfl _ _ w.heap.size _ _ _ rfl (tok_new w _ _ _ 0 rfl) (tok_new w _ _ _ 1 rfl) (tok_new w _ _ _ 2 rfl)) rfl ?_
  exact ⟨rfl, ((Below.refl _ _).alloc (Nat.le_refl _) _).drew⟩

theorem RD.set {w : World} {p g cap : Nat} {rk : Value} {l : List (ByteArray × ByteArray × Nat)} {k bl dp : Nat} (R : RD w p g cap rk l k bl dp) (k' : Nat) : RD (w.setCell ⟨p, 1, none⟩ (.int .i64 (k' : Int))) p g cap rk l k' bl dp := by
  refine ⟨?_, fun j v hj => ?_, R.gp, by rw [size_set]; exact R.gl⟩
  · rw [heap_set_same R.blk]
    rfl
  · rw [World.cell?_of_block (w := w) (a := ⟨g, j, none⟩) (heap_set _ _ _ _ _ R.gp)]
    exact R.toks j v hj
theorem RD.deep {w : World} {p g cap : Nat} {rk : Value} {l : List (ByteArray × ByteArray × Nat)} {k bl dp : Nat} (R : RD w p g cap rk l k bl dp) (dp' : Nat) : RD (w.setCell ⟨p, 4, none⟩ (.int .i64 (dp' : Int))) p g cap rk l k bl dp' := by
  refine ⟨?_, fun j v hj => ?_, R.gp, by rw [size_set]; exact R.gl⟩
  · rw [heap_set_same R.blk]
    rfl
  · rw [World.cell?_of_block (w := w) (a := ⟨g, j, none⟩) (heap_set _ _ _ _ _ R.gp)]
    exact R.toks j v hj
theorem RD.blocks {w : World} {p g cap : Nat} {rk : Value} {l : List (ByteArray × ByteArray × Nat)} {k bl dp : Nat} (R : RD w p g cap rk l k bl dp) (bl' : Nat) : RD (w.setCell ⟨p, 3, none⟩ (.int .i64 (bl' : Int))) p g cap rk l k bl' dp := by
  refine ⟨?_, fun j v hj => ?_, R.gp, by rw [size_set]; exact R.gl⟩
  · rw [heap_set_same R.blk]
    rfl
  · rw [World.cell?_of_block (w := w) (a := ⟨g, j, none⟩) (heap_set _ _ _ _ _ R.gp)]
    exact R.toks j v hj

set_option maxHeartbeats 1000000 in
theorem tpass_any {w : World} {p g cap : Nat} {rk : Value} {l : List (ByteArray × ByteArray × Nat)} {k bl dp : Nat} (R : RD w p g cap rk l k bl dp) {x : ByteArray × ByteArray × Nat} (hx : l[k]? = some x) (hl : l.length ≤ 100000) :
    Calls Tryz.prog 71 #[.pointer (some ⟨p, 0, none⟩)] w fun ev w' => ev = .returned (.agg #[.string x.1, .string x.2.1, .int .i64 (x.2.2 : Int)]) ∧ RD w' p g cap rk l (k + 1) bl dp ∧ Keeps p w w' := by
  have hk := (List.getElem?_eq_some_iff.1 hx).1
  have hpl := lt_of_heap R.blk
  have hgl := R.gl
  obtain ⟨p0, p1, _, _, _⟩ := R.cells
  have pf := R.open_ 1
  have e1 : ((k + 1 : Nat) : Int) = (k : Int) + 1 := by omega
  have R1 : RD (w.setCell ⟨p, 1, none⟩ (.int .i64 ((k : Int) + 1))) p g cap rk l (k + 1) bl dp := by rw [← e1]; exact R.set (k + 1)
  have K1 : Keeps p w (w.setCell ⟨p, 1, none⟩ (.int .i64 ((k : Int) + 1))) := (Keeps.refl p w).set
  have hI0 : (0 : Int) ≤ (k : Int) := by omega
  have hI1 : (k : Int) < (l.length : Int) := by omega
  have hwr : IntKind.i64.wrap (k : Int) = (k : Int) := wrap_small _ (by omega) (by omega)
  have HS := toHid (size_set w ⟨p, 1, none⟩ (.int .i64 ((k : Int) + 1)))
  clear R
  go_enter Tryz.func71, Tryz.ntmps71
  go_wp2_with fail
  generalize w.setCell ⟨p, 1, none⟩ (.int .i64 ((k : Int) + 1)) = w1 at R1 K1 HS ⊢
  rw [← HS.out]
  obtain ⟨r0, r1, _, _, _⟩ := R1.cells
  obtain ⟨t0, t1, t2⟩ := R1.tok hx
  have hp1 := lt_of_heap R1.blk
  have hg1 := R1.gl
  rw [e1] at r1
  have HR1 := toHid R1
  have HK1 := toHid K1
  clear R1 K1 e1 p0 p1 pf hpl hgl hx
  obtain ⟨a, b, c⟩ := x
  simp only at t0 t1 t2
  go_region_held3 (fun w' => w'.cell? ⟨p, 0, none⟩ = some (.slice (some ⟨g, 0, none⟩) l.length cap) ∧ w'.cell? ⟨p, 1, none⟩ = some (.int .i64 ((k : Int) + 1)) ∧ w'.cell? ⟨g, k * 3, none⟩ = some (.string a) ∧ w'.cell? ⟨g, k * 3 + 1, none⟩ = some (.string b) ∧ w'.cell? ⟨g, k * 3 + 2, none⟩ = some (.int .i64 (c : Int))) (go_keep) (fail)
  go_wp2
  refine bodyPost_ret (results_tok _ 2 rfl _ _ w1.heap.size _ _ _ rfl (tok_new w1 _ _ _ 0 rfl) (tok_new w1 _ _ _ 1 rfl) (tok_new w1 _ _ _ 2 rfl)) rfl ?_
  have hb : Below w1.heap.size w1 (w1.alloc (.cells #[.string a, .string b, .int .i64 (c : Int)] 79)).drew := ((Below.refl _ _).alloc (Nat.le_refl _) _).drew
  exact ⟨rfl, HR1.out.more hb, HK1.out.trans (Keeps.of hb (by omega))⟩

theorem field0 (a b c : Value) (w : World) : (Instr.field 79 (.agg #[a, b, c]) 0).run Tryz.prog w = .ok a w := by kernel_rfl
theorem field1 (a b c : Value) (w : World) : (Instr.field 79 (.agg #[a, b, c]) 1).run Tryz.prog w = .ok b w := by kernel_rfl
theorem field2 (a b c : Value) (w : World) : (Instr.field 79 (.agg #[a, b, c]) 2).run Tryz.prog w = .ok c w := by kernel_rfl

set_option maxRecDepth 100000 in
/-- throw: a fault at the token that is next. -/
theorem tthrow_any {w : World} {p g cap : Nat} {rk : Value} {l : List (ByteArray × ByteArray × Nat)} {k bl dp : Nat} (R : RD w p g cap rk l k bl dp) {x : ByteArray × ByteArray × Nat} (hx : l[k]? = some x) (a : Addr) :
    Calls Tryz.prog 80 #[.pointer (some ⟨p, 0, none⟩), .iface 163 (.pointer (some a))] w fun ev w' => Thrown p w x.2.2 a ev w' := by
  have hpl := lt_of_heap R.blk
  go_enter Tryz.func80, Tryz.ntmps80
  go_wp2_with fail
  refine (tnext_any R hx).mono ?_
  rintro ev w1 ⟨rfl, hb⟩
  have hsz := hb.size
  obtain ⟨kd, tx, at_⟩ := x
  simp only
  have F2 := field2 (.string kd) (.string tx) (.int .i64 (at_ : Int))
  clear R hx
  go_wp2
  exact ⟨rfl, w1.heap.size, rfl, (hb.mono (by omega)).alloc (by omega) _, cell_new rfl rfl, cell_new rfl rfl⟩

/-- Texts, one behind the other in memory. -/
def TS (w : World) (b o : Nat) (ts : List ByteArray) : Prop := ∀ (j : Nat) (t : ByteArray), ts[j]? = some t → w.cell? ⟨b, o + j, none⟩ = some (.string t)
theorem TS.more {w w' : World} {b o : Nat} {ts : List ByteArray} (h : TS w b o ts) (hb : Below w.heap.size w w') : TS w' b o ts := fun j t hj => (hb.cell (p := ⟨b, o + j, none⟩) (lt_of_cell (h j t hj))).trans (h j t hj)

def hasB (ts : List ByteArray) (t : ByteArray) : Bool := ts.any fun x => t.toList == x.toList

theorem hasB_drop {ts : List ByteArray} {j : Nat} {x t : ByteArray} (h : ts[j]? = some x) : hasB (ts.drop j) t = ((t.toList == x.toList) || hasB (ts.drop (j + 1)) t) := by
  obtain ⟨hj, e⟩ := List.getElem?_eq_some_iff.1 h
  unfold hasB
  rw [List.drop_eq_getElem_cons hj, e]
  rfl

set_option maxHeartbeats 1000000 in
theorem indexS_any (ts : List ByteArray) (t : ByteArray) (b o cap : Nat) (hn : ts.length ≤ 100) (w : World) (h : TS w b o ts) :
    Calls Tryz.prog 104 #[.slice (some ⟨b, o, none⟩) ts.length cap, .string t] w fun ev w' => ∃ i : Int, ev = .returned (.int .i64 i) ∧ decide (0 ≤ i) = hasB ts t ∧ w' = w := by
  have HT := toHid h
  clear h
  go_enter Tryz.func104, Tryz.ntmps104
  go_wp2
  go_loopg [8] (ts.length + 1) (fun gk v8 wr => ∃ j : Nat, gk = ts.length + 1 - j ∧ j ≤ ts.length ∧ v8 = .int .i64 (j : Int) ∧ hasB (ts.drop j) t = hasB ts t ∧ wr = w)
  case atStart => exact ⟨0, rfl, Nat.zero_le _, rfl, rfl, rfl⟩
  case round =>
    obtain ⟨j, hg, hj, hv, hh, rfl⟩ := hrel
    subst hv
    have HG := toHid hg
    have HH := toHid hh
    clear hg hh
    have hj0 : (0 : Int) ≤ (j : Int) := by omega
    by_cases hlt : j < ts.length
    · have hI : (j : Int) < (ts.length : Int) := by omega
      obtain ⟨x, hx⟩ : ∃ x, ts[j]? = some x := ⟨ts[j], by simp [hlt]⟩
      have hc := HT.out j x hx
      have HD := toHid (hasB_drop (t := t) hx)
      clear hx
      cases he : (t.toList == x.toList)
      · go_wp2
        go_roundg (ts.length + 1 - (j + 1))
        case measure => have := HG.out; omega
        case rel => exact ⟨j + 1, rfl, by omega, by go_num, by rw [← HH.out, HD.out, he]; rfl, rfl⟩
      · go_wp2
        go_ret
        exact ⟨_, rfl, by rw [← HH.out, HD.out, he]; simp, rfl⟩
    · have hI : ¬ (j : Int) < (ts.length : Int) := by omega
      go_wp2
      go_ret
      exact ⟨-1, rfl, by rw [← HH.out, List.drop_eq_nil_of_le (by omega)]; rfl, rfl⟩
theorem contains_any (ts : List ByteArray) (t : ByteArray) (b o cap : Nat) (hn : ts.length ≤ 100) (w : World) (h : TS w b o ts) :
    Calls Tryz.prog 92 #[.slice (some ⟨b, o, none⟩) ts.length cap, .string t] w fun ev w' => ev = .returned (.bool (hasB ts t)) ∧ w' = w := by
  go_enter Tryz.func92, Tryz.ntmps92
  go_wp2_with fail
  refine (indexS_any ts t b o cap hn w h).mono ?_
  rintro ev w1 ⟨i, rfl, hi, rfl⟩
  go_wp2_with fail
  go_ret
  exact ⟨by rw [← hi]; rfl, rfl⟩

/-- Is the token one of these marks? -/
def markB (x : ByteArray × ByteArray × Nat) (ts : List ByteArray) : Bool := ((x.1.toList == [111, 112]) || (x.1.toList == [119, 111, 114, 100])) && hasB ts x.2.1

set_option maxHeartbeats 1000000 in
theorem isMark_any {w : World} {p g cap : Nat} {rk : Value} {l : List (ByteArray × ByteArray × Nat)} {k bl dp : Nat} (R : RD w p g cap rk l k bl dp) {x : ByteArray × ByteArray × Nat} (hx : l[k]? = some x) (ts : List ByteArray) (b o c : Nat) (hn : ts.length ≤ 100) (h : TS w b o ts) :
    Calls Tryz.prog 70 #[.pointer (some ⟨p, 0, none⟩), .slice (some ⟨b, o, none⟩) ts.length c] w fun ev w' => ev = .returned (.bool (markB x ts)) ∧ Below w.heap.size w w' := by
  obtain ⟨kd, tx, at_⟩ := x
  go_enter Tryz.func70, Tryz.ntmps70
  go_wp2_with fail
  refine (tnext_any R hx).mono ?_
  rintro ev w1 ⟨rfl, hb⟩
  have hT1 := (h.more hb).more ((Below.refl _ _).alloc (Nat.le_refl _) (.cells #[.string kd, .string tx, .int .i64 (at_ : Int)] 79))
  have hba := hb.alloc hb.size (.cells #[.string kd, .string tx, .int .i64 (at_ : Int)] 79)
  have HM : Hid (markB (kd, tx, at_) ts = (((kd.toList == [111, 112]) || (kd.toList == [119, 111, 114, 100])) && hasB ts tx)) := rfl
  clear R hx h
  cases k1 : (kd.toList == [111, 112])
  · cases k2 : (kd.toList == [119, 111, 114, 100])
    · rw [k1, k2] at HM
      go_wp2_with fail
      go_ret
      exact ⟨by rw [HM.out]; rfl, hba⟩
    · rw [k1, k2] at HM
      go_wp2_with fail
      refine (contains_any ts tx b o c hn _ hT1).mono ?_
      rintro ev w2 ⟨rfl, rfl⟩
      go_wp2_with fail
      go_ret
      exact ⟨by rw [HM.out]; rfl, hba⟩
  · rw [k1] at HM
    go_wp2_with fail
    refine (contains_any ts tx b o c hn _ hT1).mono ?_
    rintro ev w2 ⟨rfl, rfl⟩
    go_wp2_with fail
    go_ret
    exact ⟨by rw [HM.out]; simp, hba⟩

theorem ts_one (w : World) (t : ByteArray) : TS (w.alloc (.cells #[.string t] 9)) w.heap.size 0 [t] := fun j x hj => by
  cases j with
  | zero =>
    simp at hj
    subst hj
    rw [cell_of_row _ _ _ _ _ _ (heap_alloc_new w _)]
    rfl
  | succ j => simp at hj

set_option maxHeartbeats 1000000 in
/-- passMark: passes the mark, if it stands there. -/
theorem passMark_any {w : World} {p g cap : Nat} {rk : Value} {l : List (ByteArray × ByteArray × Nat)} {k bl dp : Nat} (R : RD w p g cap rk l k bl dp) {x : ByteArray × ByteArray × Nat} (hx : l[k]? = some x) (hl : l.length ≤ 100000) (t : ByteArray) :
    Calls Tryz.prog 47 #[.pointer (some ⟨p, 0, none⟩), .string t] w fun ev w' => ev = .returned (.bool (markB x [t])) ∧ RD w' p g cap rk l (if markB x [t] then k + 1 else k) bl dp ∧ Keeps p w w' := by
  have hpl := lt_of_heap R.blk
  have hb0 : Below w.heap.size w (w.alloc (.cells #[.string t] 9)) := (Below.refl _ _).alloc (Nat.le_refl _) _
  have R0 := R.more hb0
  obtain ⟨m, hm⟩ : ∃ m, markB x [t] = m := ⟨_, rfl⟩
  rw [hm]
  have HM := toHid hm
  clear hm
  go_enter Tryz.func47, Tryz.ntmps47
  go_wp2_with fail
  refine (isMark_any R0 hx [t] w.heap.size 0 1 (by simp) (ts_one w t)).mono ?_
  rintro ev w1 ⟨rfl, hb1⟩
  have R1 := R0.more hb1
  have K1 : Keeps p w w1 := Keeps.of (hb0.trans (hb1.mono hb0.size)) (by omega)
  clear R R0
  rw [HM.out]
  cases m
  · go_wp2_with fail
    go_ret
    exact ⟨rfl, R1, K1⟩
  · go_wp2_with fail
    refine (tpass_any R1 hx hl).mono ?_
    rintro ev w2 ⟨rfl, R2, K2⟩
    go_wp2_with fail
    go_ret
    exact ⟨rfl, R2, K1.trans K2⟩

set_option maxHeartbeats 1000000 in
/-- need: passes a token of that kind. -/
theorem need_any {w : World} {p g cap : Nat} {rk : Value} {l : List (ByteArray × ByteArray × Nat)} {k bl dp : Nat} (R : RD w p g cap rk l k bl dp) {x : ByteArray × ByteArray × Nat} (hx : l[k]? = some x) (hl : l.length ≤ 100000) (kd : ByteArray) (he : (x.1.toList == kd.toList) = true) :
    Calls Tryz.prog 55 #[.pointer (some ⟨p, 0, none⟩), .string kd] w fun ev w' => ev = .returned (.agg #[.string x.1, .string x.2.1, .int .i64 (x.2.2 : Int)]) ∧ RD w' p g cap rk l (k + 1) bl dp ∧ Keeps p w w' := by
  have hpl := lt_of_heap R.blk
  have HG2 := toHid R.gl
  have hb0 : Below w.heap.size w (w.alloc (.cells #[.string ⟨#[]⟩, .string ⟨#[]⟩, .int .i64 0] 79)) := (Below.refl _ _).alloc (Nat.le_refl _) _
  have R0 := R.more hb0
  obtain ⟨ka, ta, at_⟩ := x
  have hne : (ka.toList != kd.toList) = false := by simp only at he; simp [bne, he]
  have F0 := field0 (.string ka) (.string ta) (.int .i64 (at_ : Int))
  go_enter Tryz.func55, Tryz.ntmps55
  go_wp2_with fail
  refine (tnext_any R0 hx).mono ?_
  rintro ev w1 ⟨rfl, hb1⟩
  have R1 := R0.more hb1
  have K1 : Keeps p w w1 := Keeps.of (hb0.trans (hb1.mono hb0.size)) (by omega)
  have hT1 := (hb1.block w.heap.size (by simp)).trans (heap_alloc_new w (.cells #[.string ⟨#[]⟩, .string ⟨#[]⟩, .int .i64 0] 79))
  clear R R0
  go_wp2_with fail
  refine (tpass_any R1 hx hl).mono ?_
  rintro ev w2 ⟨rfl, R2, K2⟩
  have hT2 := (K2.block w.heap.size (by omega) (lt_of_heap hT1)).trans hT1
  have HK := toHid (K1.trans K2)
  have HR := toHid R2
  obtain ⟨q0, q1, q2, f0, f1, f2⟩ := tokL_block hT2
  have hp2 := lt_of_heap hT2
  clear R1 R2 K1 K2 hT1 hT2 hx
  go_wp2
  obtain ⟨s0, s1, s2⟩ := tokL_set q0 q1 q2 (.string ka) (.string ta) (.int .i64 (at_ : Int))
  refine bodyPost_ret (results_tok _ 4 rfl _ _ w.heap.size _ _ _ rfl s0 s1 s2) rfl ?_
  have hgg := HG2.out
  exact ⟨rfl, ((HR.out.other (by omega) (by omega)).other (by omega) (by omega)).other (by omega) (by omega), ((HK.out.other (by omega) (Nat.le_refl _)).other (by omega) (Nat.le_refl _)).other (by omega) (Nat.le_refl _)⟩
end Go.Proofs.YtajkahckmhipkaaGreatDoor
