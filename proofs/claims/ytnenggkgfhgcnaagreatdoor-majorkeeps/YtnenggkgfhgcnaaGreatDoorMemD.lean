/- Rows of one's own; Own of the document's memory, by a walk. -/
import Derived.Test.YtnenggkgfhgcnaaGreatDoorJoB
import Derived.Deep.RegionLaw
import Derived.Deep.RegionLawGrows
import Derived.Deep.Cut
import Derived.Deep.CutRange
import Derived.Laws.AppendOwnNone
namespace Go.Proofs.YtnenggkgfhgcnaaGreatDoor
open Go.RowKit

theorem toHid {p : Prop} (h : p) : Hid p := h
theorem heap_set (w : World) (b k o : Nat) (v : Value) (h : k ≠ b) : (w.setCell ⟨b, o, none⟩ v).heap[k]? = w.heap[k]? := by
  simp only [World.setCell, Array.getElem?_modify]
  rw [if_neg (fun e => h e.symm)]
theorem heap_set_same {w : World} {b t o : Nat} {cs : Array Value} {fr : Nat × Nat} {v : Value} (h : w.heap[b]? = some (.cells cs t fr)) : (w.setCell ⟨b, o, none⟩ v).heap[b]? = some (.cells (cs.setIfInBounds o v) t fr) := by
  simp [World.setCell, Array.getElem?_modify, h]
theorem ownsRow_far' {w w' : World} {base e size n : Nat} {v : Value} {xs : List Value} (h : w.ownsRow base e size v n xs) (hf : ∀ k, v.ownBlock = some k → w'.heap[k]? = w.heap[k]?) : w'.ownsRow base e size v n xs := by
  obtain ⟨h1, h2⟩ := h
  refine ⟨h1, ?_⟩
  rcases h2 with h2 | ⟨g, cap, cur, e1, hb, hg, r⟩
  · exact .inl h2
  · exact .inr ⟨g, cap, cur, e1, hb, by rw [hf g (by rw [e1]; rfl)]; exact hg, r⟩
theorem own_lt2 {w : World} {base e size n : Nat} {v : Value} {xs : List Value} (h : w.ownsRow base e size v n xs) : ∀ k, v.ownBlock = some k → base ≤ k ∧ k < w.heap.size := by
  intro k hk
  rcases h.2 with ⟨rfl, _⟩ | ⟨g, cap, cur, rfl, hb, hg, _⟩
  · cases hk
  · cases hk
    exact ⟨hb, lt_of_heap hg⟩
theorem own_slice {w : World} {base e size n : Nat} {v : Value} {xs : List Value} (h : w.ownsRow base e size v n xs) : ∃ ao cap, v = .slice ao n cap := by
  rcases h.2 with ⟨rfl, h0⟩ | ⟨g, cap, cur, rfl, _⟩
  · exact ⟨none, 0, by rw [h0]⟩
  · exact ⟨_, _, rfl⟩

/-- append of nothing to nil, in a region that draws. -/
theorem step_append_none0 {P : Program} {ops : Array Oper} {o : Oper} {a : Act} {w : World} {K : Act → World → Prop} {Q : Exit → Act → World → Prop} {E : Prop}
    (hg : o.guard = none) (s x : Operand) (t : TypeId) (hop : o.op = Op.call { callee := Callee.builtin Builtin.append, args := #[s, x], argTypes := #[t, t] })
    (e : TypeId) (i : TypeInfo) (h1 : P.underlying t = some (.slice e)) (h2 : P.info? e = some i) (hs : a.eval s = .slice none 0 0) (xa : Option Addr) (c : Nat) (hx : a.eval x = .slice xa 0 c)
    (hK : K (a.put o.dst (.slice none 0 0)) w) : if Region.wanted o (yielded ops a.tmps) = true then Oper.wp P o a w K Q else E := by
  have hw : Region.wanted o (yielded ops a.tmps) = true := by simp [Region.wanted, hg]
  rw [if_pos hw]
  have hr : (Builtin.append_ #[t, t] o.type #[.slice none 0 0, .slice xa 0 c]).run P w = .ok (.slice none 0 0) w := by
    cases xa <;> simp [Builtin.append_, run_underlying h1, sizeOf, typeInfo, h2, go_sem]
  unfold Oper.wp
  simp [execOp, hop, resolve, invoke, builtin, hs, hx, hr, Result.andThen]
  exact hK
/-- append of a row to nil, in a region that draws. -/
theorem step_append_nil {P : Program} {ops : Array Oper} {o : Oper} {a : Act} {w : World} {K : Act → World → Prop} {Q : Exit → Act → World → Prop} {E : Prop}
    (hg : o.guard = none) (s x : Operand) (t : TypeId) (hop : o.op = Op.call { callee := Callee.builtin Builtin.append, args := #[s, x], argTypes := #[t, t] })
    (e : TypeId) (i : TypeInfo) (z : Value) (size bytes : Nat) (h1 : P.underlying t = some (.slice e)) (h2 : P.info? e = some i) (h3 : i.zero = some z) (h4 : i.size = size) (h5 : i.bytes = bytes) (h6 : z.cells.size = size) (h7 : 0 < size)
    (hs : a.eval s = .slice none 0 0) (ao : Option Addr) (m c : Nat) (news : List Value) (hx : a.eval x = .slice ao m c) (hn : news.length = m * size) (hc : 0 < m → ∃ ad, ao = some ad ∧ ∀ j u, news[j]? = some u → w.cell? (ad.add j) = some u) (h1c : ∀ u ∈ news, u.oneCell' = true)
    (b1 : m ≤ maxLen) (b2 : m * bytes ≤ 140737488355328)
    (hK : ∀ (ao' : Option Addr) (cap : Nat) w', w'.ownsRow w.heap.size e size (.slice ao' m cap) m news → w.grownBy w' none → K (a.put o.dst (.slice ao' m cap)) w') :
    if Region.wanted o (yielded ops a.tmps) = true then Oper.wp P o a w K Q else E := by
  by_cases hm : m = 0
  · subst hm
    obtain rfl : news = [] := List.eq_nil_of_length_eq_zero (by omega)
    refine step_append_none0 hg s x t hop e i h1 h2 hs ao c hx (hK none 0 w ⟨by simp, .inl ⟨rfl, rfl⟩⟩ ⟨rfl, rfl, rfl, Nat.le_refl _, fun _ _ _ => rfl⟩)
  · obtain ⟨ad, rfl, hc'⟩ := hc (by omega)
    refine step_append_grows hg s x t hop e i z size bytes h1 h2 h3 h4 h5 h6 h7 none 0 0 [] hs (fun _ => ⟨rfl, rfl⟩) (by simp) (fun b h => by cases h) ad m c news hx hn hc' h1c (by omega) (by omega) (by rw [Nat.zero_add]; exact b2) fun v' w' ho hgr => ?_
    rw [List.nil_append, Nat.zero_add] at ho
    obtain ⟨ao', cap, rfl⟩ := own_slice ho
    exact hK ao' cap w' ho hgr

/-- A row of one's own, in a block from lo on, below hi. -/
def RowIn (w : World) (lo hi : Nat) (e size : Nat) (v : Value) (n : Nat) (xs : List Value) : Prop := w.ownsRow lo e size v n xs ∧ ∀ g, v.ownBlock = some g → g < hi
/-- Rows, one behind the other. -/
def Rows (w : World) : Nat → List (Nat × Nat × Value × Nat × List Value) → Prop
  | lo, [] => lo ≤ w.heap.size
  | lo, (e, size, v, n, xs) :: l => ∃ hi, lo ≤ hi ∧ RowIn w lo hi e size v n xs ∧ Rows w hi l
theorem Rows.le {w : World} : ∀ {l : List (Nat × Nat × Value × Nat × List Value)} {lo : Nat}, Rows w lo l → lo ≤ w.heap.size
  | [], _, h => h
  | _ :: _, _, ⟨_, h1, _, h2⟩ => Nat.le_trans h1 h2.le
theorem Rows.keep {w w' : World} (hs : w.heap.size ≤ w'.heap.size) : ∀ {l : List (Nat × Nat × Value × Nat × List Value)} {lo : Nat}, Rows w lo l → (∀ g, lo ≤ g → g < w.heap.size → w'.heap[g]? = w.heap[g]?) → Rows w' lo l
  | [], _, h, _ => Nat.le_trans h hs
  | _ :: _, _, ⟨hi, h1, ⟨h2, h3⟩, h4⟩, hf => ⟨hi, h1, ⟨ownsRow_far' h2 (fun k hk => hf k (own_lt2 h2 k hk).1 (own_lt2 h2 k hk).2), h3⟩, h4.keep hs (fun g hg hl => hf g (Nat.le_trans h1 hg) hl)⟩
theorem Rows.snoc {w w' : World} (hs : w.heap.size ≤ w'.heap.size) {e size n : Nat} {v : Value} {xs : List Value} (ho : w'.ownsRow w.heap.size e size v n xs) : ∀ {l : List (Nat × Nat × Value × Nat × List Value)} {lo : Nat}, Rows w lo l → (∀ g, lo ≤ g → g < w.heap.size → w'.heap[g]? = w.heap[g]?) → Rows w' lo (l ++ [(e, size, v, n, xs)])
  | [], _, h, _ => ⟨w'.heap.size, Nat.le_trans h hs, ⟨⟨ho.1, ho.2.imp id fun ⟨g, cap, cur, a, b, r⟩ => ⟨g, cap, cur, a, Nat.le_trans h b, r⟩⟩, fun g hg => (own_lt2 ho g hg).2⟩, Nat.le_refl _⟩
  | _ :: _, _, ⟨hi, h1, ⟨h2, h3⟩, h4⟩, hf => ⟨hi, h1, ⟨ownsRow_far' h2 (fun k hk => hf k (own_lt2 h2 k hk).1 (own_lt2 h2 k hk).2), h3⟩, h4.snoc hs ho (fun g hg hl => hf g (Nat.le_trans h1 hg) hl)⟩

/-- A memory's block, of one's own. -/
abbrev OB (T : TypeId) (bx : Nat) (h ol c : Int) (v3 : Value) (u t ot : Int) (v7 v8 v9 v10 : Value) (w : World) : Prop := w.heap[bx]? = some (.cells #[.int .i64 h, .int .i64 ol, .int .i64 c, v3, .int .i64 u, .int .i64 t, .int .i64 ot, v7, v8, v9, v10] T)
theorem OB.mem {T : TypeId} {bx : Nat} {h ol c : Int} {v3 : Value} {u t ot : Int} {v7 v8 v9 v10 : Value} {w : World} (H : OB T bx h ol c v3 u t ot v7 v8 v9 v10 w) : MemAt bx h ol c v3 u t ot v7 v8 v9 v10 w ∧ ∀ o, w.frozen? ⟨bx, o, none⟩ = false := by
  refine ⟨⟨?_, ?_, ?_, ?_, ?_, ?_, ?_, ?_, ?_, ?_, ?_⟩, fun o => by simp [World.frozen?, H]⟩ <;> (rw [cell_of_row w bx _ _ _ _ H]; rfl)
/-- How Own stands. -/
def OwnS (T : TypeId) (w0 : World) (bx : Nat) (h ol c : Int) (v3 : Value) (u t ot : Int) (v7 v8 v9 v10 : Value) (l : List (Nat × Nat × Value × Nat × List Value)) (w : World) : Prop :=
  Below w0.heap.size w0 w ∧ w0.heap.size ≤ bx ∧ OB T bx h ol c v3 u t ot v7 v8 v9 v10 w ∧ Rows w (bx + 1) l
theorem rows_same {w w' : World} (hh : w'.heap = w.heap) : ∀ {l : List (Nat × Nat × Value × Nat × List Value)} {lo : Nat}, Rows w lo l → Rows w' lo l := fun h => h.keep (by rw [hh]; exact Nat.le_refl _) (fun g _ _ => by rw [hh])
theorem OwnS.drew {T : TypeId} {w0 : World} {bx : Nat} {h ol c : Int} {v3 : Value} {u t ot : Int} {v7 v8 v9 v10 : Value} {l : List (Nat × Nat × Value × Nat × List Value)} {w : World} (H : OwnS T w0 bx h ol c v3 u t ot v7 v8 v9 v10 l w) : OwnS T w0 bx h ol c v3 u t ot v7 v8 v9 v10 l w.drew :=
  ⟨H.1.drew, H.2.1, H.2.2.1, rows_same (w := w) (w' := w.drew) rfl H.2.2.2⟩
theorem own_next3 {T : TypeId} {w0 w w' : World} {bx : Nat} {h ol c : Int} {v3 : Value} {u t ot : Int} {v7 v8 v9 v10 v : Value} {l : List (Nat × Nat × Value × Nat × List Value)} {e size n : Nat} {xs : List Value} (H : OwnS T w0 bx h ol c v3 u t ot v7 v8 v9 v10 l w) (hg : w.grownBy w' none) (ho : w'.ownsRow w.heap.size e size v n xs) :
    OB T bx h ol c v3 u t ot v7 v8 v9 v10 w' ∧ OwnS T w0 bx h ol c v u t ot v7 v8 v9 v10 (l ++ [(e, size, v, n, xs)]) (w'.setCell ⟨bx, 3, none⟩ v) := by
  obtain ⟨h1, h2, h3, h4⟩ := H
  have hl := lt_of_heap h3
  have f : ∀ k, k < w.heap.size → w'.heap[k]? = w.heap[k]? := fun k hk => hg.block k hk (fun e => by cases e)
  have hbl : Below w.heap.size w w' := Below.grown (Below.refl _ _) hg (Nat.le_refl _) (fun k hk => by cases hk)
  have h3' := (f bx hl).trans h3
  refine ⟨h3', (h1.trans (hbl.mono h1.size)).setCell h2 _, h2, ?_, ?_⟩
  · exact (heap_set_same h3').trans rfl
  · have hs : (w'.setCell ⟨bx, 3, none⟩ v).heap.size = w'.heap.size := by simp [World.setCell]
    refine h4.snoc (by rw [hs]; exact hg.size) (ownsRow_far' ho (fun k hk => heap_set _ _ _ _ _ (by have := (own_lt2 ho k hk).1; omega))) (fun g hg' hl' => (heap_set _ _ _ _ _ (by omega)).trans (f g hl'))
theorem own_next7 {T : TypeId} {w0 w w' : World} {bx : Nat} {h ol c : Int} {v3 : Value} {u t ot : Int} {v7 v8 v9 v10 v : Value} {l : List (Nat × Nat × Value × Nat × List Value)} {e size n : Nat} {xs : List Value} (H : OwnS T w0 bx h ol c v3 u t ot v7 v8 v9 v10 l w) (hg : w.grownBy w' none) (ho : w'.ownsRow w.heap.size e size v n xs) :
    OB T bx h ol c v3 u t ot v7 v8 v9 v10 w' ∧ OwnS T w0 bx h ol c v3 u t ot v v8 v9 v10 (l ++ [(e, size, v, n, xs)]) (w'.setCell ⟨bx, 7, none⟩ v) := by
  obtain ⟨h1, h2, h3, h4⟩ := H
  have hl := lt_of_heap h3
  have f : ∀ k, k < w.heap.size → w'.heap[k]? = w.heap[k]? := fun k hk => hg.block k hk (fun e => by cases e)
  have hbl : Below w.heap.size w w' := Below.grown (Below.refl _ _) hg (Nat.le_refl _) (fun k hk => by cases hk)
  have h3' := (f bx hl).trans h3
  refine ⟨h3', (h1.trans (hbl.mono h1.size)).setCell h2 _, h2, ?_, ?_⟩
  · exact (heap_set_same h3').trans rfl
  · have hs : (w'.setCell ⟨bx, 7, none⟩ v).heap.size = w'.heap.size := by simp [World.setCell]
    refine h4.snoc (by rw [hs]; exact hg.size) (ownsRow_far' ho (fun k hk => heap_set _ _ _ _ _ (by have := (own_lt2 ho k hk).1; omega))) (fun g hg' hl' => (heap_set _ _ _ _ _ (by omega)).trans (f g hl'))
theorem own_next8 {T : TypeId} {w0 w w' : World} {bx : Nat} {h ol c : Int} {v3 : Value} {u t ot : Int} {v7 v8 v9 v10 v : Value} {l : List (Nat × Nat × Value × Nat × List Value)} {e size n : Nat} {xs : List Value} (H : OwnS T w0 bx h ol c v3 u t ot v7 v8 v9 v10 l w) (hg : w.grownBy w' none) (ho : w'.ownsRow w.heap.size e size v n xs) :
    OB T bx h ol c v3 u t ot v7 v8 v9 v10 w' ∧ OwnS T w0 bx h ol c v3 u t ot v7 v v9 v10 (l ++ [(e, size, v, n, xs)]) (w'.setCell ⟨bx, 8, none⟩ v) := by
  obtain ⟨h1, h2, h3, h4⟩ := H
  have hl := lt_of_heap h3
  have f : ∀ k, k < w.heap.size → w'.heap[k]? = w.heap[k]? := fun k hk => hg.block k hk (fun e => by cases e)
  have hbl : Below w.heap.size w w' := Below.grown (Below.refl _ _) hg (Nat.le_refl _) (fun k hk => by cases hk)
  have h3' := (f bx hl).trans h3
  refine ⟨h3', (h1.trans (hbl.mono h1.size)).setCell h2 _, h2, ?_, ?_⟩
  · exact (heap_set_same h3').trans rfl
  · have hs : (w'.setCell ⟨bx, 8, none⟩ v).heap.size = w'.heap.size := by simp [World.setCell]
    refine h4.snoc (by rw [hs]; exact hg.size) (ownsRow_far' ho (fun k hk => heap_set _ _ _ _ _ (by have := (own_lt2 ho k hk).1; omega))) (fun g hg' hl' => (heap_set _ _ _ _ _ (by omega)).trans (f g hl'))
theorem own_next9 {T : TypeId} {w0 w w' : World} {bx : Nat} {h ol c : Int} {v3 : Value} {u t ot : Int} {v7 v8 v9 v10 v : Value} {l : List (Nat × Nat × Value × Nat × List Value)} {e size n : Nat} {xs : List Value} (H : OwnS T w0 bx h ol c v3 u t ot v7 v8 v9 v10 l w) (hg : w.grownBy w' none) (ho : w'.ownsRow w.heap.size e size v n xs) :
    OB T bx h ol c v3 u t ot v7 v8 v9 v10 w' ∧ OwnS T w0 bx h ol c v3 u t ot v7 v8 v v10 (l ++ [(e, size, v, n, xs)]) (w'.setCell ⟨bx, 9, none⟩ v) := by
  obtain ⟨h1, h2, h3, h4⟩ := H
  have hl := lt_of_heap h3
  have f : ∀ k, k < w.heap.size → w'.heap[k]? = w.heap[k]? := fun k hk => hg.block k hk (fun e => by cases e)
  have hbl : Below w.heap.size w w' := Below.grown (Below.refl _ _) hg (Nat.le_refl _) (fun k hk => by cases hk)
  have h3' := (f bx hl).trans h3
  refine ⟨h3', (h1.trans (hbl.mono h1.size)).setCell h2 _, h2, ?_, ?_⟩
  · exact (heap_set_same h3').trans rfl
  · have hs : (w'.setCell ⟨bx, 9, none⟩ v).heap.size = w'.heap.size := by simp [World.setCell]
    refine h4.snoc (by rw [hs]; exact hg.size) (ownsRow_far' ho (fun k hk => heap_set _ _ _ _ _ (by have := (own_lt2 ho k hk).1; omega))) (fun g hg' hl' => (heap_set _ _ _ _ _ (by omega)).trans (f g hl'))
theorem own_next10 {T : TypeId} {w0 w w' : World} {bx : Nat} {h ol c : Int} {v3 : Value} {u t ot : Int} {v7 v8 v9 v10 v : Value} {l : List (Nat × Nat × Value × Nat × List Value)} {e size n : Nat} {xs : List Value} (H : OwnS T w0 bx h ol c v3 u t ot v7 v8 v9 v10 l w) (hg : w.grownBy w' none) (ho : w'.ownsRow w.heap.size e size v n xs) :
    OB T bx h ol c v3 u t ot v7 v8 v9 v10 w' ∧ OwnS T w0 bx h ol c v3 u t ot v7 v8 v9 v (l ++ [(e, size, v, n, xs)]) (w'.setCell ⟨bx, 10, none⟩ v) := by
  obtain ⟨h1, h2, h3, h4⟩ := H
  have hl := lt_of_heap h3
  have f : ∀ k, k < w.heap.size → w'.heap[k]? = w.heap[k]? := fun k hk => hg.block k hk (fun e => by cases e)
  have hbl : Below w.heap.size w w' := Below.grown (Below.refl _ _) hg (Nat.le_refl _) (fun k hk => by cases hk)
  have h3' := (f bx hl).trans h3
  refine ⟨h3', (h1.trans (hbl.mono h1.size)).setCell h2 _, h2, ?_, ?_⟩
  · exact (heap_set_same h3').trans rfl
  · have hs : (w'.setCell ⟨bx, 10, none⟩ v).heap.size = w'.heap.size := by simp [World.setCell]
    refine h4.snoc (by rw [hs]; exact hg.size) (ownsRow_far' ho (fun k hk => heap_set _ _ _ _ _ (by have := (own_lt2 ho k hk).1; omega))) (fun g hg' hl' => (heap_set _ _ _ _ _ (by omega)).trans (f g hl'))
/-- A memory's cells, from o on. -/
structure MemO (p o : Nat) (half old card : Int) (W : Value) (used top oldTop : Int) (roots weak ids cards : Value) (w : World) : Prop where
  c0 : w.cell? ⟨p, o, none⟩ = some (.int .i64 half)
  c1 : w.cell? ⟨p, o + 1, none⟩ = some (.int .i64 old)
  c2 : w.cell? ⟨p, o + 2, none⟩ = some (.int .i64 card)
  c3 : w.cell? ⟨p, o + 3, none⟩ = some W
  c4 : w.cell? ⟨p, o + 4, none⟩ = some (.int .i64 used)
  c5 : w.cell? ⟨p, o + 5, none⟩ = some (.int .i64 top)
  c6 : w.cell? ⟨p, o + 6, none⟩ = some (.int .i64 oldTop)
  c7 : w.cell? ⟨p, o + 7, none⟩ = some roots
  c8 : w.cell? ⟨p, o + 8, none⟩ = some weak
  c9 : w.cell? ⟨p, o + 9, none⟩ = some ids
  c10 : w.cell? ⟨p, o + 10, none⟩ = some cards
theorem MemO.below {p o B : Nat} {half old card : Int} {W : Value} {used top oldTop : Int} {roots weak ids cards : Value} {w w' : World} (M : MemO p o half old card W used top oldTop roots weak ids cards w) (hb : Below B w w') (hp : p < B) : MemO p o half old card W used top oldTop roots weak ids cards w' where
  c0 := (hb.cell (p := ⟨p, o, none⟩) hp).trans M.c0
  c1 := (hb.cell (p := ⟨p, o + 1, none⟩) hp).trans M.c1
  c2 := (hb.cell (p := ⟨p, o + 2, none⟩) hp).trans M.c2
  c3 := (hb.cell (p := ⟨p, o + 3, none⟩) hp).trans M.c3
  c4 := (hb.cell (p := ⟨p, o + 4, none⟩) hp).trans M.c4
  c5 := (hb.cell (p := ⟨p, o + 5, none⟩) hp).trans M.c5
  c6 := (hb.cell (p := ⟨p, o + 6, none⟩) hp).trans M.c6
  c7 := (hb.cell (p := ⟨p, o + 7, none⟩) hp).trans M.c7
  c8 := (hb.cell (p := ⟨p, o + 8, none⟩) hp).trans M.c8
  c9 := (hb.cell (p := ⟨p, o + 9, none⟩) hp).trans M.c9
  c10 := (hb.cell (p := ⟨p, o + 10, none⟩) hp).trans M.c10
/-- The world behind Own's first region. -/
theorem own_first (w : World) (h ol c u t ot : Int) (q : Nat) : OwnS 30 w w.heap.size h ol c (.slice none 0 0) u t ot (.slice none 0 0) (.slice none 0 0) (.slice none 0 0) (.slice none 0 0) [] ((w.alloc (.cells #[.int .i64 h, .int .i64 ol, .int .i64 c, .slice none 0 0, .int .i64 u, .int .i64 t, .int .i64 ot, .slice none 0 0, .slice none 0 0, .slice none 0 0, .slice none 0 0] 30)).drewN q) :=
  ⟨below_drewN ((Below.refl _ _).alloc (Nat.le_refl _) _), Nat.le_refl _, heap_alloc_new w _, show w.heap.size + 1 ≤ (w.alloc _).heap.size by simp⟩
set_option maxRecDepth 100000 in
theorem infoRID : ∃ i, Tryz.prog.info? 61 = some i ∧ i.zero = some (.agg #[.int .u64 0, .int .i64 0]) ∧ i.size = 2 ∧ i.bytes = 16 := by
  refine ⟨(Tryz.prog.info? 61).get (by kernel_rfl), ?_, ?_, ?_, ?_⟩
  · exact (Option.some_get _).symm
  · kernel_rfl
  · kernel_rfl
  · kernel_rfl
set_option maxHeartbeats 4000000 in
set_option maxRecDepth 100000 in
theorem own_any (p o : Nat) (h ol c u t ot : Int) (w : World) (hp : p < w.heap.size) (aW : Option Addr) (nW cW : Nat) (xW : List Value) (lW : xW.length = nW * 1) (fW : 0 < nW → ∃ ad : Addr, aW = some ad ∧ ad.block < w.heap.size ∧ ∀ j v, xW[j]? = some v → w.cell? (ad.add j) = some v) (oW : ∀ v ∈ xW, v.oneCell' = true) (bW : nW ≤ 300000) (aR : Option Addr) (nR cR : Nat) (xR : List Value) (lR : xR.length = nR * 1) (fR : 0 < nR → ∃ ad : Addr, aR = some ad ∧ ad.block < w.heap.size ∧ ∀ j v, xR[j]? = some v → w.cell? (ad.add j) = some v) (oR : ∀ v ∈ xR, v.oneCell' = true) (bR : nR ≤ 300000) (aK : Option Addr) (nK cK : Nat) (xK : List Value) (lK : xK.length = nK * 1) (fK : 0 < nK → ∃ ad : Addr, aK = some ad ∧ ad.block < w.heap.size ∧ ∀ j v, xK[j]? = some v → w.cell? (ad.add j) = some v) (oK : ∀ v ∈ xK, v.oneCell' = true) (bK : nK ≤ 300000) (aI : Option Addr) (nI cI : Nat) (xI : List Value) (lI : xI.length = nI * 2) (fI : 0 < nI → ∃ ad : Addr, aI = some ad ∧ ad.block < w.heap.size ∧ ∀ j v, xI[j]? = some v → w.cell? (ad.add j) = some v) (oI : ∀ v ∈ xI, v.oneCell' = true) (bI : nI ≤ 300000) (aC : Option Addr) (nC cC : Nat) (xC : List Value) (lC : xC.length = nC * 1) (fC : 0 < nC → ∃ ad : Addr, aC = some ad ∧ ad.block < w.heap.size ∧ ∀ j v, xC[j]? = some v → w.cell? (ad.add j) = some v) (oC : ∀ v ∈ xC, v.oneCell' = true) (bC : nC ≤ 300000)
    (M : MemO p o h ol c (.slice aW nW cW) u t ot (.slice aR nR cR) (.slice aK nK cK) (.slice aI nI cI) (.slice aC nC cC) w) :
    Calls Tryz.prog 28 #[.pointer (some ⟨p, o, none⟩)] w fun ev w' => ∃ (a3 a7 a8 a9 a10 : Option Addr) (k3 k7 k8 k9 k10 : Nat), ev = .returned (.pointer (some ⟨w.heap.size, 0, none⟩)) ∧
      OwnS 30 w w.heap.size h ol c (.slice a3 nW k3) u t ot (.slice a7 nR k7) (.slice a8 nK k8) (.slice a9 nI k9) (.slice a10 nC k10) [(50, 1, .slice a3 nW k3, nW, xW), (50, 1, .slice a7 nR k7, nR, xR), (50, 1, .slice a8 nK k8, nK, xK), (61, 2, .slice a9 nI k9, nI, xI), (4, 1, .slice a10 nC k10, nC, xC)] w' := by
  have HM := toHid M
  obtain ⟨c0, c1, c2, c3, c4, c5, c6, c7, c8, c9, c10⟩ := M
  go_enter Tryz.func28, Tryz.ntmps28
  go_upto_region 1 with fail
  go_cut [3] from 4 to 90 (fun v wx => v = .pointer (some ⟨w.heap.size, 0, none⟩) ∧ OwnS 30 w w.heap.size h ol c (.slice none 0 0) u t ot (.slice none 0 0) (.slice none 0 0) (.slice none 0 0) (.slice none 0 0) [] wx)
  case first =>
    go_region
    all_goals (go_wp2_with fail; go_meet)
    exact ⟨rfl, own_first w h ol c u t ot 1⟩
  case rest =>
    obtain ⟨rfl, hS⟩ := hcut
    clear c0 c1 c2 c3 c4 c5 c6 c7 c8 c9 c10

    have HS := toHid hS
    have M := HM.out.below hS.1 hp
    have s3 := M.c3
    obtain ⟨⟨y0, y1, y2, y3, y4, y5, y6, y7, y8, y9, y10⟩, uf⟩ := hS.2.2.1.mem
    have uf3 := uf 3
    have hlx := lt_of_heap hS.2.2.1
    have hbx := hS.1
    have HQ : Hid (0 < nW → ∃ ad : Addr, aW = some ad ∧ ∀ j v, xW[j]? = some v → wc.cell? (ad.add j) = some v) := fun hm => by
      obtain ⟨ad, e1, e2, e3⟩ := fW hm
      exact ⟨ad, e1, fun j v hj => (hbx.cell (p := ad.add j) (by rw [show (ad.add j).block = ad.block by unfold Addr.add; split <;> rfl]; exact e2)).trans (e3 j v hj)⟩
    obtain ⟨i0, hi0, hz0, hz1, hz2⟩ := infoU64
    have hne : p ≠ w.heap.size := by omega
    have hne2 : w.heap.size ≠ p := by omega
    clear hS M uf hbx
    go_upto_region 2 with fail
    go_cut [] from 4 to 90 (fun wx => ∃ (a3 : Option Addr) (k3 : Nat), OwnS 30 w w.heap.size h ol c (.slice a3 nW k3) u t ot (.slice none 0 0) (.slice none 0 0) (.slice none 0 0) (.slice none 0 0) [(50, 1, .slice a3 nW k3, nW, xW)] wx)
    case first =>
      go_region_law (first | (refine step_append_nil (by rfl) _ _ _ (by rfl) 50 i0 (.int .u64 0) 1 8 Tryz.underlying26 hi0 hz0 hz1 hz2 rfl (by decide) rfl aW nW cW xW (by rfl) lW HQ.out oW (by unfold maxLen; omega) (by omega) ?_; intro a2 k2 w2 hown2 hgrow2; obtain ⟨hbk, hS2⟩ := own_next3 (by first | exact HS.out | exact HS.out.drew) hgrow2 hown2; obtain ⟨⟨r0, r1, r2, r3, r4, r5, r6, r7, r8, r9, r10⟩, rf⟩ := OB.mem hbk; have rf3 := rf 3; have HS2 := toHid hS2; clear hown2 hgrow2 hbk rf hS2 r0 r1 r2 r4 r5 r6))
      all_goals (go_wp2_with fail; go_meet)
      all_goals exact ⟨a2, k2, HS2.out⟩
    case rest =>
      obtain ⟨a3, k3, hS⟩ := hcut
      clear HS HQ s3 uf3 y0 y1 y2 y3 y4 y5 y6 y7 y8 y9 y10 hlx hne hne2
      have HS := toHid hS
      have M := HM.out.below hS.1 hp
      have s7 := M.c7
      obtain ⟨⟨y0, y1, y2, y3, y4, y5, y6, y7, y8, y9, y10⟩, uf⟩ := hS.2.2.1.mem
      have uf7 := uf 7
      have hlx := lt_of_heap hS.2.2.1
      have hbx := hS.1
      have HQ : Hid (0 < nR → ∃ ad : Addr, aR = some ad ∧ ∀ j v, xR[j]? = some v → wc.cell? (ad.add j) = some v) := fun hm => by
        obtain ⟨ad, e1, e2, e3⟩ := fR hm
        exact ⟨ad, e1, fun j v hj => (hbx.cell (p := ad.add j) (by rw [show (ad.add j).block = ad.block by unfold Addr.add; split <;> rfl]; exact e2)).trans (e3 j v hj)⟩
      obtain ⟨i0, hi0, hz0, hz1, hz2⟩ := infoU64
      have hne : p ≠ w.heap.size := by omega
      have hne2 : w.heap.size ≠ p := by omega
      clear hS M uf hbx
      go_upto_region 3 with fail
      go_cut [] from 4 to 90 (fun wx => ∃ (a7 : Option Addr) (k7 : Nat), OwnS 30 w w.heap.size h ol c (.slice a3 nW k3) u t ot (.slice a7 nR k7) (.slice none 0 0) (.slice none 0 0) (.slice none 0 0) [(50, 1, .slice a3 nW k3, nW, xW), (50, 1, .slice a7 nR k7, nR, xR)] wx)
      case first =>
        go_region_law (first | (refine step_append_nil (by rfl) _ _ _ (by rfl) 50 i0 (.int .u64 0) 1 8 Tryz.underlying26 hi0 hz0 hz1 hz2 rfl (by decide) rfl aR nR cR xR (by rfl) lR HQ.out oR (by unfold maxLen; omega) (by omega) ?_; intro a2 k2 w2 hown2 hgrow2; obtain ⟨hbk, hS2⟩ := own_next7 (by first | exact HS.out | exact HS.out.drew) hgrow2 hown2; obtain ⟨⟨r0, r1, r2, r3, r4, r5, r6, r7, r8, r9, r10⟩, rf⟩ := OB.mem hbk; have rf7 := rf 7; have HS2 := toHid hS2; clear hown2 hgrow2 hbk rf hS2 r0 r1 r2 r4 r5 r6))
        all_goals (go_wp2_with fail; go_meet)
        all_goals exact ⟨a2, k2, HS2.out⟩
      case rest =>
        obtain ⟨a7, k7, hS⟩ := hcut
        clear HS HQ s7 uf7 y0 y1 y2 y3 y4 y5 y6 y7 y8 y9 y10 hlx hne hne2
        have HS := toHid hS
        have M := HM.out.below hS.1 hp
        have s8 := M.c8
        obtain ⟨⟨y0, y1, y2, y3, y4, y5, y6, y7, y8, y9, y10⟩, uf⟩ := hS.2.2.1.mem
        have uf8 := uf 8
        have hlx := lt_of_heap hS.2.2.1
        have hbx := hS.1
        have HQ : Hid (0 < nK → ∃ ad : Addr, aK = some ad ∧ ∀ j v, xK[j]? = some v → wc.cell? (ad.add j) = some v) := fun hm => by
          obtain ⟨ad, e1, e2, e3⟩ := fK hm
          exact ⟨ad, e1, fun j v hj => (hbx.cell (p := ad.add j) (by rw [show (ad.add j).block = ad.block by unfold Addr.add; split <;> rfl]; exact e2)).trans (e3 j v hj)⟩
        obtain ⟨i0, hi0, hz0, hz1, hz2⟩ := infoU64
        have hne : p ≠ w.heap.size := by omega
        have hne2 : w.heap.size ≠ p := by omega
        clear hS M uf hbx
        go_upto_region 4 with fail
        go_cut [] from 4 to 90 (fun wx => ∃ (a8 : Option Addr) (k8 : Nat), OwnS 30 w w.heap.size h ol c (.slice a3 nW k3) u t ot (.slice a7 nR k7) (.slice a8 nK k8) (.slice none 0 0) (.slice none 0 0) [(50, 1, .slice a3 nW k3, nW, xW), (50, 1, .slice a7 nR k7, nR, xR), (50, 1, .slice a8 nK k8, nK, xK)] wx)
        case first =>
          go_region_law (first | (refine step_append_nil (by rfl) _ _ _ (by rfl) 50 i0 (.int .u64 0) 1 8 Tryz.underlying26 hi0 hz0 hz1 hz2 rfl (by decide) rfl aK nK cK xK (by rfl) lK HQ.out oK (by unfold maxLen; omega) (by omega) ?_; intro a2 k2 w2 hown2 hgrow2; obtain ⟨hbk, hS2⟩ := own_next8 (by first | exact HS.out | exact HS.out.drew) hgrow2 hown2; obtain ⟨⟨r0, r1, r2, r3, r4, r5, r6, r7, r8, r9, r10⟩, rf⟩ := OB.mem hbk; have rf8 := rf 8; have HS2 := toHid hS2; clear hown2 hgrow2 hbk rf hS2 r0 r1 r2 r4 r5 r6))
          all_goals (go_wp2_with fail; go_meet)
          all_goals exact ⟨a2, k2, HS2.out⟩
        case rest =>
          obtain ⟨a8, k8, hS⟩ := hcut
          clear HS HQ s8 uf8 y0 y1 y2 y3 y4 y5 y6 y7 y8 y9 y10 hlx hne hne2
          have HS := toHid hS
          have M := HM.out.below hS.1 hp
          have s9 := M.c9
          obtain ⟨⟨y0, y1, y2, y3, y4, y5, y6, y7, y8, y9, y10⟩, uf⟩ := hS.2.2.1.mem
          have uf9 := uf 9
          have hlx := lt_of_heap hS.2.2.1
          have hbx := hS.1
          have HQ : Hid (0 < nI → ∃ ad : Addr, aI = some ad ∧ ∀ j v, xI[j]? = some v → wc.cell? (ad.add j) = some v) := fun hm => by
            obtain ⟨ad, e1, e2, e3⟩ := fI hm
            exact ⟨ad, e1, fun j v hj => (hbx.cell (p := ad.add j) (by rw [show (ad.add j).block = ad.block by unfold Addr.add; split <;> rfl]; exact e2)).trans (e3 j v hj)⟩
          obtain ⟨i0, hi0, hz0, hz1, hz2⟩ := infoRID
          have hne : p ≠ w.heap.size := by omega
          have hne2 : w.heap.size ≠ p := by omega
          clear hS M uf hbx
          go_upto_region 5 with fail
          go_cut [] from 4 to 90 (fun wx => ∃ (a9 : Option Addr) (k9 : Nat), OwnS 30 w w.heap.size h ol c (.slice a3 nW k3) u t ot (.slice a7 nR k7) (.slice a8 nK k8) (.slice a9 nI k9) (.slice none 0 0) [(50, 1, .slice a3 nW k3, nW, xW), (50, 1, .slice a7 nR k7, nR, xR), (50, 1, .slice a8 nK k8, nK, xK), (61, 2, .slice a9 nI k9, nI, xI)] wx)
          case first =>
            go_region_law (first | (refine step_append_nil (by rfl) _ _ _ (by rfl) 61 i0 (.agg #[.int .u64 0, .int .i64 0]) 2 16 Tryz.underlying27 hi0 hz0 hz1 hz2 rfl (by decide) rfl aI nI cI xI (by rfl) lI HQ.out oI (by unfold maxLen; omega) (by omega) ?_; intro a2 k2 w2 hown2 hgrow2; obtain ⟨hbk, hS2⟩ := own_next9 (by first | exact HS.out | exact HS.out.drew) hgrow2 hown2; obtain ⟨⟨r0, r1, r2, r3, r4, r5, r6, r7, r8, r9, r10⟩, rf⟩ := OB.mem hbk; have rf9 := rf 9; have HS2 := toHid hS2; clear hown2 hgrow2 hbk rf hS2 r0 r1 r2 r4 r5 r6))
            all_goals (go_wp2_with fail; go_meet)
            all_goals exact ⟨a2, k2, HS2.out⟩
          case rest =>
            obtain ⟨a9, k9, hS⟩ := hcut
            clear HS HQ s9 uf9 y0 y1 y2 y3 y4 y5 y6 y7 y8 y9 y10 hlx hne hne2
            have HS := toHid hS
            have M := HM.out.below hS.1 hp
            have s10 := M.c10
            obtain ⟨⟨y0, y1, y2, y3, y4, y5, y6, y7, y8, y9, y10⟩, uf⟩ := hS.2.2.1.mem
            have uf10 := uf 10
            have hlx := lt_of_heap hS.2.2.1
            have hbx := hS.1
            have HQ : Hid (0 < nC → ∃ ad : Addr, aC = some ad ∧ ∀ j v, xC[j]? = some v → wc.cell? (ad.add j) = some v) := fun hm => by
              obtain ⟨ad, e1, e2, e3⟩ := fC hm
              exact ⟨ad, e1, fun j v hj => (hbx.cell (p := ad.add j) (by rw [show (ad.add j).block = ad.block by unfold Addr.add; split <;> rfl]; exact e2)).trans (e3 j v hj)⟩
            obtain ⟨i0, hi0, hz0, hz1, hz2⟩ := infoBool
            have hne : p ≠ w.heap.size := by omega
            have hne2 : w.heap.size ≠ p := by omega
            clear hS M uf hbx
            go_upto_region 6 with fail
            go_cut [] from 4 to 90 (fun wx => ∃ (a10 : Option Addr) (k10 : Nat), OwnS 30 w w.heap.size h ol c (.slice a3 nW k3) u t ot (.slice a7 nR k7) (.slice a8 nK k8) (.slice a9 nI k9) (.slice a10 nC k10) [(50, 1, .slice a3 nW k3, nW, xW), (50, 1, .slice a7 nR k7, nR, xR), (50, 1, .slice a8 nK k8, nK, xK), (61, 2, .slice a9 nI k9, nI, xI), (4, 1, .slice a10 nC k10, nC, xC)] wx)
            case first =>
              go_region_law (first | (refine step_append_nil (by rfl) _ _ _ (by rfl) 4 i0 (.bool false) 1 1 Tryz.underlying28 hi0 hz0 hz1 hz2 rfl (by decide) rfl aC nC cC xC (by rfl) lC HQ.out oC (by unfold maxLen; omega) (by omega) ?_; intro a2 k2 w2 hown2 hgrow2; obtain ⟨hbk, hS2⟩ := own_next10 (by first | exact HS.out | exact HS.out.drew) hgrow2 hown2; obtain ⟨⟨r0, r1, r2, r3, r4, r5, r6, r7, r8, r9, r10⟩, rf⟩ := OB.mem hbk; have rf10 := rf 10; have HS2 := toHid hS2; clear hown2 hgrow2 hbk rf hS2 r0 r1 r2 r4 r5 r6))
              all_goals (go_wp2_with fail; go_meet)
              all_goals exact ⟨a2, k2, HS2.out⟩
            case rest =>
              obtain ⟨a10, k10, hS⟩ := hcut
              clear HS HQ s10 uf10 y0 y1 y2 y3 y4 y5 y6 y7 y8 y9 y10 hlx hne hne2
              go_wp2_with fail
              go_ret
              exact ⟨a3, a7, a8, a9, a10, k3, k7, k8, k9, k10, rfl, hS⟩
end Go.Proofs.YtnenggkgfhgcnaaGreatDoor
