/- Package tree: closures of function and line (written by tools/tree/func.py). -/
import Derived.Test.YtcpalppfhohbnaaGreatDoorStmtCToStmtE
namespace Go.Proofs.YtcpalppfhohbnaaGreatDoor
open Go.RowKit

def kDef : ByteArray := ⟨#[100, 101, 102]⟩
/-- What lambda's closure has captured: the term whose names it reads, and the reader. -/
structure FunC (kd nm : ByteArray) (p g ce cr : Nat) (w0 : World) (names : List ByteArray) (w : World) : Prop where
  e : ∃ va, w.heap[ce]? = some (.cells #[.string kd, .string nm, va, .slice none 0 0, .slice none 0 0, .slice none 0 0] 40) ∧ w.ownsRow w0.heap.size 9 1 va names.length (names.map Value.string)
  r : w.cell? ⟨cr, 0, none⟩ = some (.pointer (some ⟨p, 0, none⟩))
  pe : p < ce
  pr : p < cr
  nec : ce ≠ cr
  neg : ce ≠ g
  le : ce < w0.heap.size
  lr : cr < w0.heap.size
  lg : g < w0.heap.size
  sz : w0.heap.size ≤ w.heap.size
  keep : ∀ k, k ≠ p → k ≠ ce → k < w0.heap.size → w.heap[k]? = w0.heap[k]?
theorem FunC.keeps {kd nm : ByteArray} {p g ce cr : Nat} {w0 : World} (s : List ByteArray) (w w' : World) (h : FunC kd nm p g ce cr w0 s w) (K : Keeps p w w') : FunC kd nm p g ce cr w0 s w' := by
  have hpe := h.pe
  have hpr := h.pr
  have hle := h.le
  obtain ⟨va, h1, h2⟩ := h.e
  refine ⟨⟨va, (K.block ce (by omega) (lt_of_heap h1)).trans h1, ownsRow_far' h2 (fun k hk => K.block k (by have := own_ge h2 k hk; omega) ?_)⟩, K.cell (by omega) h.r, h.pe, h.pr, h.nec, h.neg, h.le, h.lr, h.lg, Nat.le_trans h.sz K.below.size, fun k h3 h4 h5 => (K.block k h3 (Nat.lt_of_lt_of_le h5 h.sz)).trans (h.keep k h3 h4 h5)⟩
  rcases h2.2 with ⟨e, _⟩ | ⟨g, c, cur, e, _, hg, _⟩
  · rw [e] at hk
    simp [Value.ownBlock] at hk
  · rw [e] at hk
    simp [Value.ownBlock] at hk
    subst hk
    exact lt_of_heap hg

/-- Behind lambda's closure. -/
theorem fun_after {kd nm : ByteArray} {p g cap : Nat} {rk : Value} {l : List (ByteArray × ByteArray × Nat)} {bl dp ce cr : Nat} {w0 w w1 w2 : World} {s : List ByteArray} {k : Nat} {x : ByteArray} {va : Value} {gn capn : Nat}
    (C : FunC kd nm p g ce cr w0 s w) (h1 : w.heap[ce]? = some (.cells #[.string kd, .string nm, va, .slice none 0 0, .slice none 0 0, .slice none 0 0] 40)) (h2 : w.ownsRow w0.heap.size 9 1 va s.length (s.map Value.string))
    (R1 : RD w1 p g cap rk l k bl dp) (K1 : Keeps p w w1)
    (hown : w2.ownsRow w0.heap.size 9 1 (.slice (some ⟨gn, 0, none⟩) (s.length + 1) capn) (s.length + 1) (s.map Value.string ++ [.string x]))
    (hgrow : (w1.alloc (.cells #[.string x] 9)).grownBy w2 va.ownBlock) :
    RD (w2.setCell ⟨ce, 2, none⟩ (.slice (some ⟨gn, 0, none⟩) (s.length + 1) capn)) p g cap rk l k bl dp ∧ FunC kd nm p g ce cr w0 (s ++ [x]) (w2.setCell ⟨ce, 2, none⟩ (.slice (some ⟨gn, 0, none⟩) (s.length + 1) capn)) ∧ Below p w (w2.setCell ⟨ce, 2, none⟩ (.slice (some ⟨gn, 0, none⟩) (s.length + 1) capn)) := by
  have hpe := C.pe
  have hpr := C.pr
  have hle := C.le
  have hlr := C.lr
  have hlg := C.lg
  have hsz := C.sz
  have hs1 := K1.below.size
  have hs2 : w1.heap.size + 1 ≤ w2.heap.size := by have := hgrow.size; simpa using this
  have hold : ∀ j, j < w0.heap.size → w2.heap[j]? = w1.heap[j]? := fun j hj =>
    (hgrow.block j (by simp; omega) (fun e => by have h3 := own_ge h2 j e.symm; omega)).trans (Below.heap_alloc _ _ _ (by omega))
  have hfar : ∀ j, j < w0.heap.size → j ≠ ce → (w2.setCell ⟨ce, 2, none⟩ (.slice (some ⟨gn, 0, none⟩) (s.length + 1) capn)).heap[j]? = w1.heap[j]? := fun j hj hne => (heap_set _ _ _ _ _ hne).trans (hold j hj)
  have hB : w2.heap[ce]? = some (.cells #[.string kd, .string nm, va, .slice none 0 0, .slice none 0 0, .slice none 0 0] 40) := (hold ce hle).trans ((K1.block ce (by omega) (lt_of_heap h1)).trans h1)
  have hgn : w0.heap.size ≤ gn := own_ge hown gn rfl
  refine ⟨⟨(hfar p (by omega) (by omega)).trans R1.blk, fun j v hj => (World.cell?_of_block (hfar g hlg (fun e => C.neg e.symm))).trans (R1.toks j v hj), R1.gp, by rw [size_set]; have := R1.gl; omega⟩, ⟨⟨.slice (some ⟨gn, 0, none⟩) (s.length + 1) capn, ?_, ?_⟩, (World.cell?_of_block (hfar cr hlr (fun e => C.nec e.symm))).trans (K1.cell (by omega) C.r), C.pe, C.pr, C.nec, C.neg, C.le, C.lr, C.lg, by rw [size_set]; omega, fun j h3 h4 h5 => (hfar j h5 h4).trans ((K1.block j h3 (by omega)).trans (C.keep j h3 h4 h5))⟩, ?_⟩
  · exact put_block hB _ rfl
  · rw [List.map_append, List.length_append]
    exact ownsRow_far' hown (fun j hj => heap_set _ _ _ _ _ (by have := own_ge hown j hj; omega))
  · exact (Below.grown (K1.below.alloc (by have := lt_of_heap R1.blk; omega) _) hgrow (by simp; have := lt_of_heap R1.blk; omega) (fun j hj => by have := own_ge h2 j hj; omega)).setCell (by simp only; omega) _

theorem fun_one {kd nm : ByteArray} {p g ce cr : Nat} {w0 w w1 : World} {s : List ByteArray} {va : Value} (C : FunC kd nm p g ce cr w0 s w) (h1 : w.heap[ce]? = some (.cells #[.string kd, .string nm, va, .slice none 0 0, .slice none 0 0, .slice none 0 0] 40)) (K1 : Keeps p w w1) :
    w1.cell? ⟨ce, 2, none⟩ = some va ∧ ce < w1.heap.size ∧ w1.frozen? ⟨ce, 2, none⟩ = false := by
  have hpe := C.pe
  have h1' := (K1.block ce (by omega) (lt_of_heap h1)).trans h1
  obtain ⟨_, _, q3, _, _, _, qf⟩ := stmt_block h1'
  exact ⟨q3, lt_of_heap h1', qf 2⟩
theorem fun_two {kd nm : ByteArray} {p g ce cr : Nat} {w0 w w1 w2 : World} {s : List ByteArray} {va : Value} {B : Obj} (C : FunC kd nm p g ce cr w0 s w) (h1 : w.heap[ce]? = some (.cells #[.string kd, .string nm, va, .slice none 0 0, .slice none 0 0, .slice none 0 0] 40)) (h2 : w.ownsRow w0.heap.size 9 1 va s.length (s.map Value.string)) (K1 : Keeps p w w1)
    (hgrow : (w1.alloc B).grownBy w2 va.ownBlock) : w2.cell? ⟨ce, 2, none⟩ = some va ∧ w2.frozen? ⟨ce, 2, none⟩ = false := by
  obtain ⟨q1, q2, q3⟩ := fun_one C h1 K1
  have hne : some ce ≠ va.ownBlock := fun e => by have h3 := own_ge h2 ce e.symm; have h4 := C.le; omega
  exact ⟨(hgrow.cell_far ⟨ce, 2, none⟩ (by simp; omega) hne).trans ((World.cell?_alloc_past _ _ _ q2).trans q1), (hgrow.frozen_far ⟨ce, 2, none⟩ (by simp; omega) hne).trans ((World.frozen?_alloc_past _ _ _ q2).trans q3)⟩

theorem fun_own {kd nm : ByteArray} {p g ce cr : Nat} {w0 w w1 : World} {s : List ByteArray} {va : Value} {B : Obj} (h2 : w.ownsRow w0.heap.size 9 1 va s.length (s.map Value.string)) (C : FunC kd nm p g ce cr w0 s w) (K : Keeps p w w1) : (w1.alloc B).ownsRow w0.heap.size 9 1 va s.length (s.map Value.string) := by
  refine World.ownsRow.alloc (ownsRow_far' h2 (fun k hk => K.block k (by have := own_ge h2 k hk; have := C.le; have := C.pe; omega) ?_)) _
  rcases h2.2 with ⟨e, _⟩ | ⟨g, c, cur, e, _, hg, _⟩
  · rw [e] at hk
    simp [Value.ownBlock] at hk
  · rw [e] at hk
    simp [Value.ownBlock] at hk
    subst hk
    exact lt_of_heap hg
set_option maxHeartbeats 2000000 in
set_option maxRecDepth 100000 in
theorem funName_any {kd nm : ByteArray} {p g cap : Nat} {rk : Value} {l : List (ByteArray × ByteArray × Nat)} {bl dp : Nat} {a0 a1 : Addr} (ce cr : Nat) (w0 : World) (hl : l.length ≤ 100000) (hen : ∀ (k : Nat) (x : ByteArray × ByteArray × Nat), l[k]? = some x → isNameB x = true → k + 1 < l.length) (s : List ByteArray) (k : Nat) (hk : k < l.length) :
    Steps 82 #[.pointer (some ⟨ce, 0, none⟩), .pointer (some ⟨cr, 0, none⟩)] p g cap rk l bl dp a0 a1 (fun s k w => FunC kd nm p g ce cr w0 s w ∧ s.length ≤ k) s k (pName l s k) := by
  rintro w R ⟨C, hsk⟩ E
  have hsl : s.length ≤ 100000 := by omega
  obtain ⟨x, hx⟩ : ∃ x, l[k]? = some x := ⟨l[k], by simp [hk]⟩
  unfold pName
  rw [hx]
  simp only
  refine Calls.mono (R := fun ev w' => (isNameB x = true ∧ ev = .returned (.tuple #[]) ∧ RD w' p g cap rk l (k + 1) bl dp ∧ FunC kd nm p g ce cr w0 (s ++ [x.2.1]) w' ∧ Below p w w') ∨ (isNameB x = false ∧ faultAt l p a0 a1 w (k, false) ev w')) ?_ ?_
  case refine_2 =>
    rintro ev w' (⟨hm, rfl, q1, q2, q3⟩ | ⟨hm, q⟩)
    · rw [hm]
      exact ⟨rfl, q1, ⟨q2, by simp; omega⟩, q3, Nat.lt_succ_self _, hen k x hx hm⟩
    · rw [hm]
      exact q
  obtain ⟨va, h1, h2⟩ := C.e
  obtain ⟨_, _, q3, _, _, _, qf⟩ := stmt_block h1
  have qf3 := qf 2
  have hr := C.r
  have hlr := lt_of_cell hr
  have hle := lt_of_heap h1
  have hpe := C.pe
  have hpr := C.pr
  have hbd : Below w.heap.size w w.drew := (Below.refl _ _).drew
  have hpl := lt_of_heap R.blk
  have hbp : Below p w w.drew := hbd.mono (by omega)
  have HN := toHid (rname_any (R.more hbd) (E.below hbp) hx hl)
  have HC := toHid C
  have HO := toHid h2
  have HB := toHid h1
  obtain ⟨i0, hi, hz0, hz1, hz2⟩ := info_parts infoStr
  have Hi := toHid hi
  have hsz := C.sz
  clear R E h2 h1 hx C hen qf hi
  go_enter Tryz.func82, Tryz.ntmps82
  go_wp2_with fail
  have q3d : w.drew.cell? ⟨ce, 2, none⟩ = some va := q3
  have hKd : Keeps p w w.drew := Keeps.of hbd (by omega)
  go_region_law (first
    | (refine step_append_lies _ (by rfl) _ _ _ (by rfl) w0.heap.size 9 i0 _ 1 16 Tryz.underlying37 Hi.out hz0 hz1 hz2 rfl (by decide) va s.length (s.map Value.string) (by rfl) (fun_own HO.out HC.out (hKd.trans HK1.out)) _ 1 1 [.string x.2.1] (by rfl) rfl (one_new _ _ _) (one_cell _) (by decide) (by unfold maxLen; omega) (by omega) (by have := (hKd.trans HK1.out).below.size; simp; omega) _ rfl ?_; intro gn capn w2 hown2 hgrow hat hlt; obtain ⟨u4, u5⟩ := fun_two HC.out HB.out HO.out (hKd.trans HK1.out) hgrow; have HG := toHid hgrow; have HW := toHid hown2; clear hgrow hown2 hat)
    | (go_simp; go_at_call 80; refine HN.out.mono ?_; rintro ev w1 (⟨hm, rfl, R1, K1⟩ | ⟨hm, t, g1, b, rfl, g2⟩); rotate_left; exact ⟨rfl, Or.inr ⟨hm, faultAt.after hbp ⟨t, g1, b, rfl, g2⟩⟩⟩; obtain ⟨u1, u2, u3⟩ := fun_one HC.out HB.out (hKd.trans K1); have HR1 := toHid R1; have HK1 := toHid K1; clear R1 K1))
  all_goals (go_end0; exact Or.inl ⟨hm, rfl, fun_after HC.out HB.out HO.out HR1.out (hKd.trans HK1.out) HW.out HG.out⟩)
set_option maxHeartbeats 2000000 in
set_option maxRecDepth 100000 in
theorem lineName_any {kd nm : ByteArray} {p g cap : Nat} {rk : Value} {l : List (ByteArray × ByteArray × Nat)} {bl dp : Nat} {a0 a1 : Addr} (ce cr : Nat) (w0 : World) (hl : l.length ≤ 100000) (hen : ∀ (k : Nat) (x : ByteArray × ByteArray × Nat), l[k]? = some x → isNameB x = true → k + 1 < l.length) (s : List ByteArray) (k : Nat) (hk : k < l.length) :
    Steps 84 #[.pointer (some ⟨ce, 0, none⟩), .pointer (some ⟨cr, 0, none⟩)] p g cap rk l bl dp a0 a1 (fun s k w => FunC kd nm p g ce cr w0 s w ∧ s.length ≤ k) s k (pName l s k) := by
  rintro w R ⟨C, hsk⟩ E
  have hsl : s.length ≤ 100000 := by omega
  obtain ⟨x, hx⟩ : ∃ x, l[k]? = some x := ⟨l[k], by simp [hk]⟩
  unfold pName
  rw [hx]
  simp only
  refine Calls.mono (R := fun ev w' => (isNameB x = true ∧ ev = .returned (.tuple #[]) ∧ RD w' p g cap rk l (k + 1) bl dp ∧ FunC kd nm p g ce cr w0 (s ++ [x.2.1]) w' ∧ Below p w w') ∨ (isNameB x = false ∧ faultAt l p a0 a1 w (k, false) ev w')) ?_ ?_
  case refine_2 =>
    rintro ev w' (⟨hm, rfl, q1, q2, q3⟩ | ⟨hm, q⟩)
    · rw [hm]
      exact ⟨rfl, q1, ⟨q2, by simp; omega⟩, q3, Nat.lt_succ_self _, hen k x hx hm⟩
    · rw [hm]
      exact q
  obtain ⟨va, h1, h2⟩ := C.e
  obtain ⟨_, _, q3, _, _, _, qf⟩ := stmt_block h1
  have qf3 := qf 2
  have hr := C.r
  have hlr := lt_of_cell hr
  have hle := lt_of_heap h1
  have hpe := C.pe
  have hpr := C.pr
  have hbd : Below w.heap.size w w.drew := (Below.refl _ _).drew
  have hpl := lt_of_heap R.blk
  have hbp : Below p w w.drew := hbd.mono (by omega)
  have HN := toHid (rname_any (R.more hbd) (E.below hbp) hx hl)
  have HC := toHid C
  have HO := toHid h2
  have HB := toHid h1
  obtain ⟨i0, hi, hz0, hz1, hz2⟩ := info_parts infoStr
  have Hi := toHid hi
  have hsz := C.sz
  clear R E h2 h1 hx C hen qf hi
  go_enter Tryz.func84, Tryz.ntmps84
  go_wp2_with fail
  have q3d : w.drew.cell? ⟨ce, 2, none⟩ = some va := q3
  have hKd : Keeps p w w.drew := Keeps.of hbd (by omega)
  go_region_law (first
    | (refine step_append_lies _ (by rfl) _ _ _ (by rfl) w0.heap.size 9 i0 _ 1 16 Tryz.underlying37 Hi.out hz0 hz1 hz2 rfl (by decide) va s.length (s.map Value.string) (by rfl) (fun_own HO.out HC.out (hKd.trans HK1.out)) _ 1 1 [.string x.2.1] (by rfl) rfl (one_new _ _ _) (one_cell _) (by decide) (by unfold maxLen; omega) (by omega) (by have := (hKd.trans HK1.out).below.size; simp; omega) _ rfl ?_; intro gn capn w2 hown2 hgrow hat hlt; obtain ⟨u4, u5⟩ := fun_two HC.out HB.out HO.out (hKd.trans HK1.out) hgrow; have HG := toHid hgrow; have HW := toHid hown2; clear hgrow hown2 hat)
    | (go_simp; go_at_call 80; refine HN.out.mono ?_; rintro ev w1 (⟨hm, rfl, R1, K1⟩ | ⟨hm, t, g1, b, rfl, g2⟩); rotate_left; exact ⟨rfl, Or.inr ⟨hm, faultAt.after hbp ⟨t, g1, b, rfl, g2⟩⟩⟩; obtain ⟨u1, u2, u3⟩ := fun_one HC.out HB.out (hKd.trans K1); have HR1 := toHid R1; have HK1 := toHid K1; clear R1 K1))
  all_goals (go_end0; exact Or.inl ⟨hm, rfl, fun_after HC.out HB.out HO.out HR1.out (hKd.trans HK1.out) HW.out HG.out⟩)
end Go.Proofs.YtcpalppfhohbnaaGreatDoor
