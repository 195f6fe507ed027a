/- The law's own helpers: rows of the law's terms. -/
import Derived.Test.YtajkahckmhipkaaGreatDoorCopyB
import Derived.Deep.Upon
import Derived.Deep.RegionLawGrows
import Derived.Test.YtajkahckmhipkaaGreatDoorBackWToEqA
namespace Go.Proofs.YtajkahckmhipkaaGreatDoor
open Go.RowKit

/-- append of nothing to nil, as one step of a region that draws its order. -/
theorem step_append_none {P : Program} {ops : Array Oper} {o : Oper} {a : Act} {w : World} {K : Act → World → Prop} {Q : Exit → Act → World → Prop} {E : Prop}
    (hg : o.guard = none) (s x : Operand) (t : TypeId) (hop : o.op = Op.call { callee := Callee.builtin Builtin.append, args := #[s, x], argTypes := #[t, t] })
    (e : TypeId) (i : TypeInfo) (h1 : P.underlying t = some (.slice e)) (h2 : P.info? e = some i) (hs : a.eval s = .slice none 0 0) (xa : Option Addr) (c : Nat) (hx : a.eval x = .slice xa 0 c)
    (hK : K (a.put o.dst (.slice none 0 0)) w) : if Region.wanted o (yielded ops a.tmps) = true then Oper.wp P o a w K Q else E := by
  have hw : Region.wanted o (yielded ops a.tmps) = true := by simp [Region.wanted, hg]
  rw [if_pos hw]
  have hr : (Builtin.append_ #[t, t] o.type #[.slice none 0 0, .slice xa 0 c]).run P w = .ok (.slice none 0 0) w := by
    cases xa <;> simp [Builtin.append_, run_underlying h1, sizeOf, typeInfo, h2, go_sem]
  unfold Oper.wp
  simp [execOp, hop, resolve, invoke, builtin, hs, hx, hr, Result.andThen]
  exact hK
/-- Cells, five to a term, that hold these terms. -/
def CellsV (S : Nat → Prop) (w : World) (cs : List Value) (es : List (DataW Unit)) : Prop :=
  cs.length = es.length * 5 ∧ ∀ (i : Nat) (e : DataW Unit), es[i]? = some e → ∃ c0 c1 c2 c3 c4, cs[i * 5]? = some c0 ∧ cs[i * 5 + 1]? = some c1 ∧ cs[i * 5 + 2]? = some c2 ∧ cs[i * 5 + 3]? = some c3 ∧ cs[i * 5 + 4]? = some c4 ∧ RepV S w [c0, c1, c2, c3, c4] e
theorem CellsV.nil (S : Nat → Prop) (w : World) : CellsV S w [] [] := ⟨rfl, fun i e h => by simp at h⟩
theorem CellsV.same {S S' : Nat → Prop} {w w' : World} {cs : List Value} {es : List (DataW Unit)} (h : CellsV S w cs es) (K : Same S w w') (hS : ∀ b, S b → b < w.heap.size → S' b) : CellsV S' w' cs es :=
  ⟨h.1, fun i e hi => by
    obtain ⟨c0, c1, c2, c3, c4, h0, h1, h2, h3, h4, hr⟩ := h.2 i e hi
    exact ⟨c0, c1, c2, c3, c4, h0, h1, h2, h3, h4, hr.same K hS⟩⟩
theorem CellsV.snoc {S : Nat → Prop} {w : World} {cs : List Value} {es : List (DataW Unit)} {c0 c1 c2 c3 c4 : Value} {e : DataW Unit} (h : CellsV S w cs es) (he : RepV S w [c0, c1, c2, c3, c4] e) : CellsV S w (cs ++ [c0, c1, c2, c3, c4]) (es ++ [e]) := by
  refine ⟨by simp [h.1]; omega, fun i x hi => ?_⟩
  have hlen := h.1
  rcases Nat.lt_or_ge i es.length with hl | hl
  · rw [List.getElem?_append_left hl] at hi
    obtain ⟨d0, d1, d2, d3, d4, h0, h1, h2, h3, h4, hr⟩ := h.2 i x hi
    refine ⟨d0, d1, d2, d3, d4, ?_, ?_, ?_, ?_, ?_, hr⟩ <;> rw [List.getElem?_append_left (by omega)] <;> assumption
  · have hie : i = es.length := by
      rcases Nat.lt_or_ge es.length i with h1 | h1
      · rw [List.getElem?_eq_none (by simp; omega)] at hi
        cases hi
      · omega
    subst hie
    simp at hi
    subst hi
    refine ⟨c0, c1, c2, c3, c4, ?_, ?_, ?_, ?_, ?_, he⟩
    · rw [List.getElem?_append_right (by omega), show es.length * 5 - cs.length = 0 by omega]; rfl
    · rw [List.getElem?_append_right (by omega), show es.length * 5 + 1 - cs.length = 1 by omega]; rfl
    · rw [List.getElem?_append_right (by omega), show es.length * 5 + 2 - cs.length = 2 by omega]; rfl
    · rw [List.getElem?_append_right (by omega), show es.length * 5 + 3 - cs.length = 3 by omega]; rfl
    · rw [List.getElem?_append_right (by omega), show es.length * 5 + 4 - cs.length = 4 by omega]; rfl
theorem repVL_row {S S' : Nat → Prop} {w : World} {base t : Nat} {la : Option Addr} {lc : Nat} {cs : List Value} {es : List (DataW Unit)} (hO : w.ownsRow base t 5 (.slice la es.length lc) es.length cs) (hCE : CellsV S w cs es) (hS : ∀ b, S b → S' b) (hB : ∀ b, base ≤ b → S' b) : RepVL S' w la es := by
  intro h0
  obtain ⟨hl, ⟨e1, e2⟩ | ⟨g', cap', cur, e1, hb, hg, h1, h2, h3, h4⟩⟩ := hO
  · omega
  · simp at e1
    obtain ⟨rfl, rfl⟩ := e1
    refine ⟨g', 0, rfl, hB _ hb, fun i e hi => ?_⟩
    obtain ⟨c0, c1, c2, c3, c4, q0, q1, q2, q3, q4, hr⟩ := hCE.2 i e hi
    have hi' := (List.getElem?_eq_some_iff.1 hi).1
    have hc : ∀ j v, cs[j]? = some v → j < es.length * 5 → w.cell? ⟨g', j, none⟩ = some v := fun j v hj hlt => by
      rw [cell_of_row w g' _ _ _ _ hg]
      rw [← h4, List.getElem?_take_of_lt hlt] at hj
      simpa using hj
    refine ⟨c0, c1, c2, c3, c4, ?_, ?_, ?_, ?_, ?_, hr.same (fun _ _ _ => rfl) (fun b h _ => hS b h)⟩ <;> rw [Nat.zero_add] <;> exact hc _ _ (by assumption) (by omega)
end Go.Proofs.YtajkahckmhipkaaGreatDoor

/- The law's own helpers: BackExprs. -/
namespace Go.Proofs.YtajkahckmhipkaaGreatDoor
open Go.RowKit

/-- What BackExprs keeps in its loop. -/
structure BkC (w0 : World) (es : List (DataW Unit)) (v : Value) (w : World) : Prop where
  l : ∃ cs, w.ownsRow w0.heap.size 45 5 v es.length cs ∧ CellsV (fun b => w0.heap.size ≤ b ∧ v.ownBlock ≠ some b) w cs es
  bl : Below w0.heap.size w0 w
theorem BkC.go {w0 w w' : World} {es : List (DataW Unit)} {v : Value} (C : BkC w0 es v w) (hb : Below w.heap.size w w') : BkC w0 es v w' := by
  obtain ⟨cs, h2, h3⟩ := C.l
  exact ⟨⟨cs, ownsRow_far' h2 (fun k hk => hb.block k (own_lt h2 k hk)), h3.same (same_below hb) (fun b hb _ => hb)⟩, C.bl.trans (hb.mono C.bl.size)⟩
theorem bk_after {w0 w w5 w2 : World} {es : List (DataW Unit)} {e : DataW Unit} {v : Value} {cs : List Value} {c0 c1 c2 c3 c4 : Value} {gn capn : Nat} (C : BkC w0 es v w) (hO : w.ownsRow w0.heap.size 45 5 v es.length cs) (hCE : CellsV (fun b => w0.heap.size ≤ b ∧ v.ownBlock ≠ some b) w cs es)
    (hb5 : Below w.heap.size w w5) (hrep : RepV (fun b => w.heap.size ≤ b) w5 [c0, c1, c2, c3, c4] e) (hz : ∃ wb, Below w5.heap.size w5 wb ∧ wb.grownBy w2 v.ownBlock ∧ (v.ownBlock = some gn ∨ gn = wb.heap.size))
    (hown2 : w2.ownsRow w0.heap.size 45 5 (.slice (some ⟨gn, 0, none⟩) (es.length + 1) capn) (es.length + 1) (cs ++ [c0, c1, c2, c3, c4])) : BkC w0 (es ++ [e]) (.slice (some ⟨gn, 0, none⟩) (es.length + 1) capn) w2 := by
  obtain ⟨wb, hbb, hgrow, hat⟩ := hz
  have hsz := C.bl.size
  have hs5 := hb5.size
  have hsb := hbb.size
  have hs2 := hgrow.size
  have hgnO : ∀ j, j < w.heap.size → v.ownBlock ≠ some j → j ≠ gn := fun j hj hn h => by
    rcases hat with h1 | h1
    · exact hn (h ▸ h1)
    · omega
  have hgnN : ∀ j, w.heap.size ≤ j → j < w5.heap.size → j ≠ gn := fun j hj hj5 h => by
    rcases hat with h1 | h1
    · have := own_lt hO gn h1
      omega
    · omega
  have f2 : ∀ j, j < w5.heap.size → v.ownBlock ≠ some j → w2.heap[j]? = w5.heap[j]? := fun j hj hn => (hgrow.block j (by omega) (fun h => hn h.symm)).trans (hbb.block j hj)
  have f6 : ∀ j, j < w.heap.size → v.ownBlock ≠ some j → w2.heap[j]? = w.heap[j]? := fun j hl hn => (f2 j (by omega) hn).trans (hb5.block j hl)
  refine ⟨⟨_, by rw [List.length_append]; exact hown2, ?_⟩, Below.grown (C.bl.trans ((hb5.mono hsz).trans (hbb.mono (by omega)))) hgrow (by omega) (fun j hj => by have := own_ge hO j hj; omega)⟩
  refine CellsV.snoc (hCE.same (fun b hb hl => f6 b hl hb.2) (fun b hb hl => ⟨hb.1, fun h => hgnO b hl hb.2 ?_⟩)) (hrep.same (fun b hb hl => ?_) (fun b hb hl => ⟨by omega, fun h => hgnN b hb hl ?_⟩))
  · simp [Value.ownBlock] at h
    omega
  · exact f2 b hl (fun h => by have := own_lt hO b h; omega)
  · simp [Value.ownBlock] at h
    omega
theorem infoExprR : (Tryz.prog.info? 45).map (fun i => (i.zero, i.size, i.bytes)) = some (some (.agg #[.string ⟨#[]⟩, .int .i64 0, .string ⟨#[]⟩, .slice none 0 0, .slice none 0 0]), 5, 88) := by kernel_rfl
theorem exprR_block {w : World} {b : Nat} {u0 u1 u2 u3 u4 : Value} (h : w.heap[b]? = some (.cells #[u0, u1, u2, u3, u4] 45)) :
    w.cell? ⟨b, 0, none⟩ = some u0 ∧ w.cell? ⟨b, 1, none⟩ = some u1 ∧ w.cell? ⟨b, 2, none⟩ = some u2 ∧ w.cell? ⟨b, 3, none⟩ = some u3 ∧ w.cell? ⟨b, 4, none⟩ = some u4 ∧ ∀ o, w.frozen? ⟨b, o, none⟩ = false := by
  refine ⟨?_, ?_, ?_, ?_, ?_, fun o => by simp [World.frozen?, h]⟩
  · rw [cell_of_row w b 0 _ _ _ h]; rfl
  · rw [cell_of_row w b 1 _ _ _ h]; rfl
  · rw [cell_of_row w b 2 _ _ _ h]; rfl
  · rw [cell_of_row w b 3 _ _ _ h]; rfl
  · rw [cell_of_row w b 4 _ _ _ h]; rfl

/-- A term of the law's being made: its block eb, with these names P; its parts lie apart from it. -/
def EF (w0 : World) (op : ByteArray) (z : Int) (s : ByteArray) (P : Value) (el : List (DataW Unit)) (eb : Nat) (la : Option Addr) (lc : Nat) (w : World) : Prop :=
  w0.heap.size ≤ eb ∧ w.heap[eb]? = some (.cells #[.string op, .int .i64 z, .string s, P, .slice la el.length lc] 45) ∧ RepVL (fun b => w0.heap.size ≤ b ∧ b ≠ eb) w la el ∧ Below w0.heap.size w0 w
abbrev set5v (w : World) (b : Nat) (v0 v1 v2 v3 v4 : Value) : World := ((((w.setCell ⟨b, 0, none⟩ v0).setCell ⟨b, 1, none⟩ v1).setCell ⟨b, 2, none⟩ v2).setCell ⟨b, 3, none⟩ v3).setCell ⟨b, 4, none⟩ v4
theorem set5v_block {w : World} {b t : Nat} {u0 u1 u2 u3 u4 : Value} {fr : Nat × Nat} (h : w.heap[b]? = some (.cells #[u0, u1, u2, u3, u4] t fr)) (v0 v1 v2 v3 v4 : Value) : (set5v w b v0 v1 v2 v3 v4).heap[b]? = some (.cells #[v0, v1, v2, v3, v4] t fr) := by
  unfold set5v
  rw [heap_set_same (heap_set_same (heap_set_same (heap_set_same (heap_set_same h))))]
  rfl
theorem set5v_other {w : World} {b k : Nat} (h : k ≠ b) (v0 v1 v2 v3 v4 : Value) : (set5v w b v0 v1 v2 v3 v4).heap[k]? = w.heap[k]? := by
  unfold set5v
  rw [heap_set _ _ _ _ _ h, heap_set _ _ _ _ _ h, heap_set _ _ _ _ _ h, heap_set _ _ _ _ _ h, heap_set _ _ _ _ _ h]
theorem set5v_below {B b : Nat} {a w : World} (h : Below B a w) (hb : B ≤ b) (v0 v1 v2 v3 v4 : Value) : Below B a (set5v w b v0 v1 v2 v3 v4) :=
  ((((h.setCell hb _).setCell hb _).setCell hb _).setCell hb _).setCell hb _
/-- The block is made behind the call. -/
theorem ef_late {wr w1 : World} {op s : ByteArray} {z : Int} {el : List (DataW Unit)} {la : Option Addr} {lc B : Nat} (hbR : Below wr.heap.size wr w1) (hB : wr.heap.size ≤ B) (hR : RepVL (fun b => B ≤ b) w1 la el) :
    EF wr op z s (.slice none 0 0) el w1.heap.size la lc (w1.alloc (.cells #[.string op, .int .i64 z, .string s, .slice none 0 0, .slice la el.length lc] 45)) :=
  ⟨hbR.size, heap_alloc_new _ _, hR.same (same_below ((Below.refl _ _).alloc (Nat.le_refl _) _)) (fun b h hl => ⟨by omega, by omega⟩), hbR.alloc hbR.size _⟩
/-- The block is made ahead of the call. -/
theorem ef_early {wr w1 : World} {op s : ByteArray} {z : Int} {el : List (DataW Unit)} {la : Option Addr} {lc B : Nat} {u0 u1 u2 u3 u4 : Value} (hbR : Below wr.heap.size wr w1) (hE : w1.heap[wr.heap.size]? = some (.cells #[u0, u1, u2, u3, u4] 45)) (hB : wr.heap.size < B) (hR : RepVL (fun b => B ≤ b) w1 la el) :
    EF wr op z s (.slice none 0 0) el wr.heap.size la lc (set5v w1 wr.heap.size (.string op) (.int .i64 z) (.string s) (.slice none 0 0) (.slice la el.length lc)) :=
  ⟨Nat.le_refl _, set5v_block hE _ _ _ _ _, hR.same (fun b h _ => set5v_other (by omega) _ _ _ _ _) (fun b h hl => ⟨by omega, by omega⟩), set5v_below hbR (Nat.le_refl _) _ _ _ _ _⟩
theorem EF.drew {w0 w : World} {op s : ByteArray} {z : Int} {P : Value} {el : List (DataW Unit)} {eb : Nat} {la : Option Addr} {lc : Nat} (h : EF w0 op z s P el eb la lc w) : EF w0 op z s P el eb la lc w.drew :=
  ⟨h.1, h.2.1, h.2.2.1.same (fun _ _ _ => rfl) (fun _ h _ => h), h.2.2.2.drew⟩
/-- Its names are laid. -/
theorem ef_names {w0 w w' : World} {op s : ByteArray} {z : Int} {el : List (DataW Unit)} {eb : Nat} {la : Option Addr} {lc : Nat} {P v : Value} {pl : List ByteArray} (h : EF w0 op z s P el eb la lc w) (hg : w.grownBy w' none) (ho : w'.ownsRow w.heap.size 9 1 v pl.length (pl.map Value.string)) :
    w'.heap[eb]? = some (.cells #[.string op, .int .i64 z, .string s, P, .slice la el.length lc] 45) ∧ EF w0 op z s v el eb la lc (w'.setCell ⟨eb, 3, none⟩ v) ∧ ∃ pa pc, v = .slice pa pl.length pc ∧ RepN (fun b => w0.heap.size ≤ b ∧ b ≠ eb) (w'.setCell ⟨eb, 3, none⟩ v) pa pl := by
  obtain ⟨h1, h2, h3, h4⟩ := h
  have hel := lt_of_heap h2
  have f : ∀ k, k < w.heap.size → w'.heap[k]? = w.heap[k]? := fun k hk => hg.block k hk (fun e => by cases e)
  have hbl : Below w.heap.size w w' := Below.grown (Below.refl _ _) hg (Nat.le_refl _) (fun k hk => by cases hk)
  have hwz := h4.size
  refine ⟨(f eb hel).trans h2, ⟨h1, ?_, h3.same (fun b hb hl => (heap_set _ _ _ _ _ hb.2).trans (f b hl)) (fun b h _ => h), (h4.trans (hbl.mono hwz)).setCell h1 _⟩, ?_⟩
  · rw [heap_set_same ((f eb hel).trans h2)]
    rfl
  · rcases ho.2 with ⟨e, h0⟩ | ⟨g, cap, cur, e, hgb, hg1, hc1, _, hc2, hc3⟩
    · refine ⟨none, 0, by rw [e, h0], fun hp => by omega⟩
    · refine ⟨_, _, e, fun hp => ⟨g, 0, rfl, ⟨by omega, by omega⟩, fun j t hj => ?_⟩⟩
      have hjl := (List.getElem?_eq_some_iff.1 hj).1
      rw [Nat.zero_add, World.cell?_of_block (w := w') (a := ⟨g, j, none⟩) (heap_set _ _ _ _ _ (show g ≠ eb by omega)), cell_of_row w' g j cur 9 (0, 0) hg1, ← Array.getElem?_toList]
      have e2 : (cur.toList.take (pl.length * 1))[j]? = (pl.map Value.string)[j]? := by rw [hc3]
      rw [List.getElem?_take, if_pos (by omega)] at e2
      rw [e2, List.getElem?_map, hj]
      rfl
theorem ts_news {w : World} {b o : Nat} {pl : List ByteArray} (h : TS w b o pl) : ∀ j u, (pl.map Value.string)[j]? = some u → w.cell? ((⟨b, o, none⟩ : Addr).add j) = some u := fun j u hj => by
  rw [List.getElem?_map] at hj
  obtain ⟨t, ht, rfl⟩ := Option.map_eq_some_iff.1 hj
  have hadd : (⟨b, o, none⟩ : Addr).add j = ⟨b, o + j, none⟩ := by unfold Addr.add; split <;> simp_all
  rw [hadd]
  exact h j t ht
theorem ts_newsD {w : World} {b o : Nat} {pl : List ByteArray} (h : TS w b o pl) : ∀ j u, (pl.map Value.string)[j]? = some u → w.drew.cell? ((⟨b, o, none⟩ : Addr).add j) = some u := ts_news h
theorem strs_one (pl : List ByteArray) : ∀ u ∈ pl.map Value.string, u.oneCell' = true := fun u hu => by
  obtain ⟨t, _, rfl⟩ := List.mem_map.1 hu
  rfl
/-- There are no names. -/
theorem ef_no {w0 w : World} {op s : ByteArray} {z : Int} {el : List (DataW Unit)} {eb : Nat} {la : Option Addr} {lc : Nat} {P v : Value} (h : EF w0 op z s P el eb la lc w) : EF w0 op z s v el eb la lc (w.setCell ⟨eb, 3, none⟩ v) := by
  obtain ⟨h1, h2, h3, h4⟩ := h
  refine ⟨h1, ?_, h3.same (fun b hb hl => heap_set _ _ _ _ _ hb.2) (fun b h _ => h), h4.setCell h1 _⟩
  rw [heap_set_same h2]
  rfl
theorem ef_rep {w0 w : World} {op s : ByteArray} {z : Int} {el : List (DataW Unit)} {eb : Nat} {la pa : Option Addr} {lc pc : Nat} {pl : List ByteArray} (h : EF w0 op z s (.slice pa pl.length pc) el eb la lc w) (hn : RepN (fun b => w0.heap.size ≤ b ∧ b ≠ eb) w pa pl) : RepV (fun b => w0.heap.size ≤ b) w [.string op, .int .i64 z, .string s, .slice pa pl.length pc, .slice la el.length lc] (mkE op z s pl el) :=
  (mkRepV hn h.2.2.1).same (fun _ _ _ => rfl) (fun _ h _ => h.1)
end Go.Proofs.YtajkahckmhipkaaGreatDoor

/- The law's own helpers: rows of the law's statements, and a statement that is being made (written by tools/tree/backs.py). -/
namespace Go.Proofs.YtajkahckmhipkaaGreatDoor
open Go.RowKit

/-- Cells, six to a statement, that hold these statements. -/
def CellsW (S : Nat → Prop) (w : World) (cs : List Value) (ss : List (DataW Unit)) : Prop :=
  cs.length = ss.length * 6 ∧ ∀ (i : Nat) (e : DataW Unit), ss[i]? = some e → ∃ c0 c1 c2 c3 c4 c5, cs[i * 6]? = some c0 ∧ cs[i * 6 + 1]? = some c1 ∧ cs[i * 6 + 2]? = some c2 ∧ cs[i * 6 + 3]? = some c3 ∧ cs[i * 6 + 4]? = some c4 ∧ cs[i * 6 + 5]? = some c5 ∧ RepVS S w [c0, c1, c2, c3, c4, c5] e
theorem CellsW.nil (S : Nat → Prop) (w : World) : CellsW S w [] [] := ⟨rfl, fun i e h => by simp at h⟩
theorem CellsW.same {S S' : Nat → Prop} {w w' : World} {cs : List Value} {es : List (DataW Unit)} (h : CellsW S w cs es) (K : Same S w w') (hS : ∀ b, S b → b < w.heap.size → S' b) : CellsW S' w' cs es :=
  ⟨h.1, fun i e hi => by
    obtain ⟨c0, c1, c2, c3, c4, c5, h0, h1, h2, h3, h4, h5, hr⟩ := h.2 i e hi
    exact ⟨c0, c1, c2, c3, c4, c5, h0, h1, h2, h3, h4, h5, hr.same K hS⟩⟩
theorem CellsW.snoc {S : Nat → Prop} {w : World} {cs : List Value} {es : List (DataW Unit)} {c0 c1 c2 c3 c4 c5 : Value} {e : DataW Unit} (h : CellsW S w cs es) (he : RepVS S w [c0, c1, c2, c3, c4, c5] e) : CellsW S w (cs ++ [c0, c1, c2, c3, c4, c5]) (es ++ [e]) := by
  refine ⟨by simp [h.1]; omega, fun i x hi => ?_⟩
  have hlen := h.1
  rcases Nat.lt_or_ge i es.length with hl | hl
  · rw [List.getElem?_append_left hl] at hi
    obtain ⟨d0, d1, d2, d3, d4, d5, h0, h1, h2, h3, h4, h5, hr⟩ := h.2 i x hi
    refine ⟨d0, d1, d2, d3, d4, d5, ?_, ?_, ?_, ?_, ?_, ?_, hr⟩ <;> rw [List.getElem?_append_left (by omega)] <;> assumption
  · have hie : i = es.length := by
      rcases Nat.lt_or_ge es.length i with h1 | h1
      · rw [List.getElem?_eq_none (by simp; omega)] at hi
        cases hi
      · omega
    subst hie
    simp at hi
    subst hi
    refine ⟨c0, c1, c2, c3, c4, c5, ?_, ?_, ?_, ?_, ?_, ?_, he⟩
    · rw [List.getElem?_append_right (by omega), show es.length * 6 - cs.length = 0 by omega]; rfl
    · rw [List.getElem?_append_right (by omega), show es.length * 6 + 1 - cs.length = 1 by omega]; rfl
    · rw [List.getElem?_append_right (by omega), show es.length * 6 + 2 - cs.length = 2 by omega]; rfl
    · rw [List.getElem?_append_right (by omega), show es.length * 6 + 3 - cs.length = 3 by omega]; rfl
    · rw [List.getElem?_append_right (by omega), show es.length * 6 + 4 - cs.length = 4 by omega]; rfl
    · rw [List.getElem?_append_right (by omega), show es.length * 6 + 5 - cs.length = 5 by omega]; rfl
theorem repVSL_row {S S' : Nat → Prop} {w : World} {base t : Nat} {la : Option Addr} {lc : Nat} {cs : List Value} {es : List (DataW Unit)} (hO : w.ownsRow base t 6 (.slice la es.length lc) es.length cs) (hCE : CellsW S w cs es) (hS : ∀ b, S b → S' b) (hB : ∀ b, base ≤ b → S' b) : RepVSL S' w la es := by
  intro h0
  obtain ⟨hl, ⟨e1, e2⟩ | ⟨g', cap', cur, e1, hb, hg, h1, h2, h3, h4⟩⟩ := hO
  · omega
  · simp at e1
    obtain ⟨rfl, rfl⟩ := e1
    refine ⟨g', 0, rfl, hB _ hb, fun i e hi => ?_⟩
    obtain ⟨c0, c1, c2, c3, c4, c5, q0, q1, q2, q3, q4, q5, hr⟩ := hCE.2 i e hi
    have hi' := (List.getElem?_eq_some_iff.1 hi).1
    have hc : ∀ j v, cs[j]? = some v → j < es.length * 6 → w.cell? ⟨g', j, none⟩ = some v := fun j v hj hlt => by
      rw [cell_of_row w g' _ _ _ _ hg]
      rw [← h4, List.getElem?_take_of_lt hlt] at hj
      simpa using hj
    refine ⟨c0, c1, c2, c3, c4, c5, ?_, ?_, ?_, ?_, ?_, ?_, hr.same (fun _ _ _ => rfl) (fun b h _ => hS b h)⟩ <;> rw [Nat.zero_add] <;> exact hc _ _ (by assumption) (by omega)
/-- What Back keeps in its loop. -/
structure BsC (w0 : World) (es : List (DataW Unit)) (v : Value) (w : World) : Prop where
  l : ∃ cs, w.ownsRow w0.heap.size 42 6 v es.length cs ∧ CellsW (fun b => w0.heap.size ≤ b ∧ v.ownBlock ≠ some b) w cs es
  bl : Below w0.heap.size w0 w
theorem bs_after {w0 w w5 w2 : World} {es : List (DataW Unit)} {e : DataW Unit} {v : Value} {cs : List Value} {c0 c1 c2 c3 c4 c5 : Value} {gn capn : Nat} (C : BsC w0 es v w) (hO : w.ownsRow w0.heap.size 42 6 v es.length cs) (hCE : CellsW (fun b => w0.heap.size ≤ b ∧ v.ownBlock ≠ some b) w cs es)
    (hb5 : Below w.heap.size w w5) (hrep : RepVS (fun b => w.heap.size ≤ b) w5 [c0, c1, c2, c3, c4, c5] e) (hz : ∃ wb, Below w5.heap.size w5 wb ∧ wb.grownBy w2 v.ownBlock ∧ (v.ownBlock = some gn ∨ gn = wb.heap.size))
    (hown2 : w2.ownsRow w0.heap.size 42 6 (.slice (some ⟨gn, 0, none⟩) (es.length + 1) capn) (es.length + 1) (cs ++ [c0, c1, c2, c3, c4, c5])) : BsC w0 (es ++ [e]) (.slice (some ⟨gn, 0, none⟩) (es.length + 1) capn) w2 := by
  obtain ⟨wb, hbb, hgrow, hat⟩ := hz
  have hsz := C.bl.size
  have hs5 := hb5.size
  have hsb := hbb.size
  have hs2 := hgrow.size
  have hgnO : ∀ j, j < w.heap.size → v.ownBlock ≠ some j → j ≠ gn := fun j hj hn h => by
    rcases hat with h1 | h1
    · exact hn (h ▸ h1)
    · omega
  have hgnN : ∀ j, w.heap.size ≤ j → j < w5.heap.size → j ≠ gn := fun j hj hj5 h => by
    rcases hat with h1 | h1
    · have := own_lt hO gn h1
      omega
    · omega
  have f2 : ∀ j, j < w5.heap.size → v.ownBlock ≠ some j → w2.heap[j]? = w5.heap[j]? := fun j hj hn => (hgrow.block j (by omega) (fun h => hn h.symm)).trans (hbb.block j hj)
  have f6 : ∀ j, j < w.heap.size → v.ownBlock ≠ some j → w2.heap[j]? = w.heap[j]? := fun j hl hn => (f2 j (by omega) hn).trans (hb5.block j hl)
  refine ⟨⟨_, by rw [List.length_append]; exact hown2, ?_⟩, Below.grown (C.bl.trans ((hb5.mono hsz).trans (hbb.mono (by omega)))) hgrow (by omega) (fun j hj => by have := own_ge hO j hj; omega)⟩
  refine CellsW.snoc (hCE.same (fun b hb hl => f6 b hl hb.2) (fun b hb hl => ⟨hb.1, fun h => hgnO b hl hb.2 ?_⟩)) (hrep.same (fun b hb hl => ?_) (fun b hb hl => ⟨by omega, fun h => hgnN b hb hl ?_⟩))
  · simp [Value.ownBlock] at h
    omega
  · exact f2 b hl (fun h => by have := own_lt hO b h; omega)
  · simp [Value.ownBlock] at h
    omega
theorem infoStmtR : (Tryz.prog.info? 42).map (fun i => (i.zero, i.size, i.bytes)) = some (some (.agg #[.string ⟨#[]⟩, .string ⟨#[]⟩, .slice none 0 0, .slice none 0 0, .slice none 0 0, .slice none 0 0]), 6, 128) := by kernel_rfl
theorem stmtR_block {w : World} {b : Nat} {u0 u1 u2 u3 u4 u5 : Value} (h : w.heap[b]? = some (.cells #[u0, u1, u2, u3, u4, u5] 42)) :
    w.cell? ⟨b, 0, none⟩ = some u0 ∧ w.cell? ⟨b, 1, none⟩ = some u1 ∧ w.cell? ⟨b, 2, none⟩ = some u2 ∧ w.cell? ⟨b, 3, none⟩ = some u3 ∧ w.cell? ⟨b, 4, none⟩ = some u4 ∧ w.cell? ⟨b, 5, none⟩ = some u5 ∧ ∀ o, w.frozen? ⟨b, o, none⟩ = false := by
  refine ⟨?_, ?_, ?_, ?_, ?_, ?_, fun o => by simp [World.frozen?, h]⟩
  · rw [cell_of_row w b 0 _ _ _ h]; rfl
  · rw [cell_of_row w b 1 _ _ _ h]; rfl
  · rw [cell_of_row w b 2 _ _ _ h]; rfl
  · rw [cell_of_row w b 3 _ _ _ h]; rfl
  · rw [cell_of_row w b 4 _ _ _ h]; rfl
  · rw [cell_of_row w b 5 _ _ _ h]; rfl

/-- A statement of the law's being made: its block eb, with these names P; its parts lie apart from it. -/
def SF (w0 : World) (kd nm : ByteArray) (P : Value) (el bd es : List (DataW Unit)) (eb : Nat) (la ba ea : Option Addr) (lc bc ec : Nat) (w : World) : Prop :=
  w0.heap.size ≤ eb ∧ w.heap[eb]? = some (.cells #[.string kd, .string nm, P, .slice la el.length lc, .slice ba bd.length bc, .slice ea es.length ec] 42) ∧ (RepVL (fun b => w0.heap.size ≤ b ∧ b ≠ eb) w la el ∧ RepVSL (fun b => w0.heap.size ≤ b ∧ b ≠ eb) w ba bd ∧ RepVSL (fun b => w0.heap.size ≤ b ∧ b ≠ eb) w ea es) ∧ Below w0.heap.size w0 w
abbrev set6v (w : World) (b : Nat) (v0 v1 v2 v3 v4 v5 : Value) : World := (((((w.setCell ⟨b, 0, none⟩ v0).setCell ⟨b, 1, none⟩ v1).setCell ⟨b, 2, none⟩ v2).setCell ⟨b, 3, none⟩ v3).setCell ⟨b, 4, none⟩ v4).setCell ⟨b, 5, none⟩ v5
theorem set6v_block {w : World} {b t : Nat} {u0 u1 u2 u3 u4 u5 : Value} {fr : Nat × Nat} (h : w.heap[b]? = some (.cells #[u0, u1, u2, u3, u4, u5] t fr)) (v0 v1 v2 v3 v4 v5 : Value) : (set6v w b v0 v1 v2 v3 v4 v5).heap[b]? = some (.cells #[v0, v1, v2, v3, v4, v5] t fr) := by
  unfold set6v
  rw [heap_set_same (heap_set_same (heap_set_same (heap_set_same (heap_set_same (heap_set_same h)))))]
  rfl
theorem set6v_other {w : World} {b k : Nat} (h : k ≠ b) (v0 v1 v2 v3 v4 v5 : Value) : (set6v w b v0 v1 v2 v3 v4 v5).heap[k]? = w.heap[k]? := by
  unfold set6v
  rw [heap_set _ _ _ _ _ h, heap_set _ _ _ _ _ h, heap_set _ _ _ _ _ h, heap_set _ _ _ _ _ h, heap_set _ _ _ _ _ h, heap_set _ _ _ _ _ h]
theorem set6v_below {B b : Nat} {a w : World} (h : Below B a w) (hb : B ≤ b) (v0 v1 v2 v3 v4 v5 : Value) : Below B a (set6v w b v0 v1 v2 v3 v4 v5) :=
  (((((h.setCell hb _).setCell hb _).setCell hb _).setCell hb _).setCell hb _).setCell hb _
/-- The block is made behind the calls. -/
theorem sf_late {wr w1 : World} {kd nm : ByteArray} {el bd es : List (DataW Unit)} {la ba ea : Option Addr} {lc bc ec : Nat} (hbR : Below wr.heap.size wr w1) (hR : RepVL (fun b => wr.heap.size ≤ b) w1 la el ∧ RepVSL (fun b => wr.heap.size ≤ b) w1 ba bd ∧ RepVSL (fun b => wr.heap.size ≤ b) w1 ea es) :
    SF wr kd nm (.slice none 0 0) el bd es w1.heap.size la ba ea lc bc ec (w1.alloc (.cells #[.string kd, .string nm, .slice none 0 0, .slice la el.length lc, .slice ba bd.length bc, .slice ea es.length ec] 42)) :=
  ⟨hbR.size, heap_alloc_new _ _, ⟨hR.1.same (same_below ((Below.refl _ _).alloc (Nat.le_refl _) _)) (fun b h hl => ⟨h, by omega⟩), hR.2.1.same (same_below ((Below.refl _ _).alloc (Nat.le_refl _) _)) (fun b h hl => ⟨h, by omega⟩), hR.2.2.same (same_below ((Below.refl _ _).alloc (Nat.le_refl _) _)) (fun b h hl => ⟨h, by omega⟩)⟩, hbR.alloc hbR.size _⟩
/-- The block is made ahead of a call. -/
theorem sf_early {wr w1 : World} {kd nm : ByteArray} {el bd es : List (DataW Unit)} {la ba ea : Option Addr} {lc bc ec eb : Nat} {u0 u1 u2 u3 u4 u5 : Value} (hbR : Below wr.heap.size wr w1) (heb : wr.heap.size ≤ eb) (hE : w1.heap[eb]? = some (.cells #[u0, u1, u2, u3, u4, u5] 42)) (hR : RepVL (fun b => wr.heap.size ≤ b ∧ b ≠ eb) w1 la el ∧ RepVSL (fun b => wr.heap.size ≤ b ∧ b ≠ eb) w1 ba bd ∧ RepVSL (fun b => wr.heap.size ≤ b ∧ b ≠ eb) w1 ea es) :
    SF wr kd nm (.slice none 0 0) el bd es eb la ba ea lc bc ec (set6v w1 eb (.string kd) (.string nm) (.slice none 0 0) (.slice la el.length lc) (.slice ba bd.length bc) (.slice ea es.length ec)) :=
  ⟨heb, set6v_block hE _ _ _ _ _ _, ⟨hR.1.same (fun _ h _ => set6v_other h.2 _ _ _ _ _ _) (fun _ h _ => h), hR.2.1.same (fun _ h _ => set6v_other h.2 _ _ _ _ _ _) (fun _ h _ => h), hR.2.2.same (fun _ h _ => set6v_other h.2 _ _ _ _ _ _) (fun _ h _ => h)⟩, set6v_below hbR heb _ _ _ _ _ _⟩
theorem SF.drew {w0 w : World} {kd nm : ByteArray} {P : Value} {el bd es : List (DataW Unit)} {eb : Nat} {la ba ea : Option Addr} {lc bc ec : Nat} (h : SF w0 kd nm P el bd es eb la ba ea lc bc ec w) : SF w0 kd nm P el bd es eb la ba ea lc bc ec w.drew :=
  ⟨h.1, h.2.1, ⟨h.2.2.1.1.same (fun _ _ _ => rfl) (fun _ h _ => h), h.2.2.1.2.1.same (fun _ _ _ => rfl) (fun _ h _ => h), h.2.2.1.2.2.same (fun _ _ _ => rfl) (fun _ h _ => h)⟩, h.2.2.2.drew⟩
/-- Its names are laid. -/
theorem sf_names {w0 w w' : World} {kd nm : ByteArray} {el bd es : List (DataW Unit)} {eb : Nat} {la ba ea : Option Addr} {lc bc ec : Nat} {P v : Value} {pl : List ByteArray} (h : SF w0 kd nm P el bd es eb la ba ea lc bc ec w) (hg : w.grownBy w' none) (ho : w'.ownsRow w.heap.size 9 1 v pl.length (pl.map Value.string)) :
    w'.heap[eb]? = some (.cells #[.string kd, .string nm, P, .slice la el.length lc, .slice ba bd.length bc, .slice ea es.length ec] 42) ∧ SF w0 kd nm v el bd es eb la ba ea lc bc ec (w'.setCell ⟨eb, 2, none⟩ v) ∧ ∃ pa pc, v = .slice pa pl.length pc ∧ RepN (fun b => w0.heap.size ≤ b ∧ b ≠ eb) (w'.setCell ⟨eb, 2, none⟩ v) pa pl := by
  obtain ⟨h1, h2, ⟨h3a, h3b, h3c⟩, h4⟩ := h
  have hel := lt_of_heap h2
  have f : ∀ k, k < w.heap.size → w'.heap[k]? = w.heap[k]? := fun k hk => hg.block k hk (fun e => by cases e)
  have hbl : Below w.heap.size w w' := Below.grown (Below.refl _ _) hg (Nat.le_refl _) (fun k hk => by cases hk)
  have hwz := h4.size
  refine ⟨(f eb hel).trans h2, ⟨h1, ?_, ⟨h3a.same (fun b hb hl => (heap_set _ _ _ _ _ hb.2).trans (f b hl)) (fun b h _ => h), h3b.same (fun b hb hl => (heap_set _ _ _ _ _ hb.2).trans (f b hl)) (fun b h _ => h), h3c.same (fun b hb hl => (heap_set _ _ _ _ _ hb.2).trans (f b hl)) (fun b h _ => h)⟩, (h4.trans (hbl.mono hwz)).setCell h1 _⟩, ?_⟩
  · rw [heap_set_same ((f eb hel).trans h2)]
    rfl
  · rcases ho.2 with ⟨e, h0⟩ | ⟨g, cap, cur, e, hgb, hg1, hc1, _, hc2, hc3⟩
    · refine ⟨none, 0, by rw [e, h0], fun hp => by omega⟩
    · refine ⟨_, _, e, fun hp => ⟨g, 0, rfl, ⟨by omega, by omega⟩, fun j t hj => ?_⟩⟩
      have hjl := (List.getElem?_eq_some_iff.1 hj).1
      rw [Nat.zero_add, World.cell?_of_block (w := w') (a := ⟨g, j, none⟩) (heap_set _ _ _ _ _ (show g ≠ eb by omega)), cell_of_row w' g j cur 9 (0, 0) hg1, ← Array.getElem?_toList]
      have e2 : (cur.toList.take (pl.length * 1))[j]? = (pl.map Value.string)[j]? := by rw [hc3]
      rw [List.getElem?_take, if_pos (by omega)] at e2
      rw [e2, List.getElem?_map, hj]
      rfl
/-- There are no names. -/
theorem sf_no {w0 w : World} {kd nm : ByteArray} {el bd es : List (DataW Unit)} {eb : Nat} {la ba ea : Option Addr} {lc bc ec : Nat} {P v : Value} (h : SF w0 kd nm P el bd es eb la ba ea lc bc ec w) : SF w0 kd nm v el bd es eb la ba ea lc bc ec (w.setCell ⟨eb, 2, none⟩ v) := by
  obtain ⟨h1, h2, ⟨h3a, h3b, h3c⟩, h4⟩ := h
  refine ⟨h1, ?_, ⟨h3a.same (fun b hb hl => heap_set _ _ _ _ _ hb.2) (fun b h _ => h), h3b.same (fun b hb hl => heap_set _ _ _ _ _ hb.2) (fun b h _ => h), h3c.same (fun b hb hl => heap_set _ _ _ _ _ hb.2) (fun b h _ => h)⟩, h4.setCell h1 _⟩
  rw [heap_set_same h2]
  rfl
theorem repVS_more {S : Nat → Prop} {w : World} : ∀ (n m : Nat) (cs : List Value) (d : DataW Unit), n ≤ m → repVS S w n cs d → repVS S w m cs d
  | 0, _, _, _, _, h => h.elim
  | n + 1, 0, _, _, hle, _ => by omega
  | n + 1, m + 1, cs, d, hle, h => by
    obtain ⟨kd, nm, pl, el, bd, es, pa, la, ba, ea, pc, lc, bc, ec, hd, hcs, h1, h2, h3, h4⟩ := h
    exact ⟨kd, nm, pl, el, bd, es, pa, la, ba, ea, pc, lc, bc, ec, hd, hcs, h1, h2, h3.imp (fun cs d => repVS_more n m cs d (by omega)), h4.imp (fun cs d => repVS_more n m cs d (by omega))⟩
theorem rowVS_bound {S : Nat → Prop} {w : World} {la : Option Addr} {el : List (DataW Unit)} (h : RepVSL S w la el) : ∃ n, rowS S w (repVS S w n) la el := by
  by_cases h0 : 0 < el.length
  · obtain ⟨b, o, e, hb, hx⟩ := h h0
    obtain ⟨n, hn⟩ := Go.Deep.fuel_lt (n := el.length) (q := fun i m => ∀ s, el[i]? = some s → ∃ c0 c1 c2 c3 c4 c5, w.cell? ⟨b, o + i * 6, none⟩ = some c0 ∧ w.cell? ⟨b, o + i * 6 + 1, none⟩ = some c1 ∧ w.cell? ⟨b, o + i * 6 + 2, none⟩ = some c2 ∧ w.cell? ⟨b, o + i * 6 + 3, none⟩ = some c3 ∧ w.cell? ⟨b, o + i * 6 + 4, none⟩ = some c4 ∧ w.cell? ⟨b, o + i * 6 + 5, none⟩ = some c5 ∧ repVS S w m [c0, c1, c2, c3, c4, c5] s)
      (fun i x y hxy h e he => by
        obtain ⟨c0, c1, c2, c3, c4, c5, h0, h1, h2, h3, h4, h5, hr⟩ := h e he
        exact ⟨c0, c1, c2, c3, c4, c5, h0, h1, h2, h3, h4, h5, repVS_more x y _ _ hxy hr⟩)
      (fun i hi => by
        obtain ⟨c0, c1, c2, c3, c4, c5, h0, h1, h2, h3, h4, h5, n, hr⟩ := hx i el[i] (by simp [hi])
        refine ⟨n, fun e he => ?_⟩
        have : el[i] = e := by simpa [hi] using he
        subst this
        exact ⟨c0, c1, c2, c3, c4, c5, h0, h1, h2, h3, h4, h5, hr⟩)
    exact ⟨n, fun _ => ⟨b, o, e, hb, fun i x hi => hn i (List.getElem?_eq_some_iff.1 hi).1 x hi⟩⟩
  · exact ⟨0, fun h => absurd h h0⟩
theorem mkRepVS {S : Nat → Prop} {w : World} {kd nm : ByteArray} {pl : List ByteArray} {el bd es : List (DataW Unit)} {pa la ba ea : Option Addr} {pc lc bc ec : Nat} (h1 : RepN S w pa pl) (h2 : RepVL S w la el) (h3 : RepVSL S w ba bd) (h4 : RepVSL S w ea es) : RepVS S w [.string kd, .string nm, .slice pa pl.length pc, .slice la el.length lc, .slice ba bd.length bc, .slice ea es.length ec] (mkS kd nm pl el bd es) := by
  obtain ⟨n, hn⟩ := rowVS_bound h3
  obtain ⟨m, hm⟩ := rowVS_bound h4
  exact ⟨max n m + 1, kd, nm, pl, el, bd, es, pa, la, ba, ea, pc, lc, bc, ec, rfl, rfl, h1, h2, rowS.imp hn (fun cs d h => repVS_more n _ cs d (Nat.le_max_left _ _) h), rowS.imp hm (fun cs d h => repVS_more m _ cs d (Nat.le_max_right _ _) h)⟩
theorem sf_rep {w0 w : World} {kd nm : ByteArray} {el bd es : List (DataW Unit)} {eb : Nat} {la ba ea pa : Option Addr} {lc bc ec pc : Nat} {pl : List ByteArray} (h : SF w0 kd nm (.slice pa pl.length pc) el bd es eb la ba ea lc bc ec w) (hn : RepN (fun b => w0.heap.size ≤ b ∧ b ≠ eb) w pa pl) : RepVS (fun b => w0.heap.size ≤ b) w [.string kd, .string nm, .slice pa pl.length pc, .slice la el.length lc, .slice ba bd.length bc, .slice ea es.length ec] (mkS kd nm pl el bd es) :=
  (mkRepVS hn h.2.2.1.1 h.2.2.1.2.1 h.2.2.1.2.2).same (fun _ _ _ => rfl) (fun _ h _ => h.1)
end Go.Proofs.YtajkahckmhipkaaGreatDoor

/- Package tree: two statements of which sameStmt says so are the same; it ends. -/
namespace Go.Proofs.YtajkahckmhipkaaGreatDoor
open Go.RowKit

/-- Two statements in memory. -/
def EqSt (n : Nat) : Prop := ∀ (S S' : Nat → Prop) (w : World) (c0 c1 c2 c3 c4 c5 d0 d1 d2 d3 d4 d5 : Value) (e e' : DataW Unit), repVS S w n [c0, c1, c2, c3, c4, c5] e → repVS S' w n [d0, d1, d2, d3, d4, d5] e' → OkS 2000000 e → OkS 2000000 e' → Calls Tryz.prog 15 #[.agg #[c0, c1, c2, c3, c4, c5], .agg #[d0, d1, d2, d3, d4, d5]] w fun ev w' => ∃ b, ev = .returned (.bool b) ∧ (b = true → e = e') ∧ Below w.heap.size w w'
def EqSL (n : Nat) : Prop := ∀ (S S' : Nat → Prop) (w : World) (la ka : Option Addr) (lc kc : Nat) (el el' : List (DataW Unit)), rowS S w (repVS S w n) la el → rowS S' w (repVS S' w n) ka el' → OkSL 2000000 el → OkSL 2000000 el' → Calls Tryz.prog 14 #[.slice la el.length lc, .slice ka el'.length kc, .func (.func 15) #[] #[]] w fun ev w' => ∃ b, ev = .returned (.bool b) ∧ (b = true → el = el') ∧ Below w.heap.size w w'
theorem okS_parts {N : Nat} {kd nm : ByteArray} {pl : List ByteArray} {el bd es : List (DataW Unit)} (hk : OkS N (mkS kd nm pl el bd es)) : pl.length ≤ N ∧ OkTL N el ∧ OkSL N bd ∧ OkSL N es := by
  obtain ⟨m, hm⟩ := hk
  cases m with
  | zero => exact hm.elim
  | succ m =>
    obtain ⟨_, _, _, _, _, _, hd2, q1, q2, q3, q4, q5, q6⟩ := hm
    obtain ⟨rfl, rfl, rfl, rfl, rfl, rfl⟩ := mkS_inj hd2
    exact ⟨q1, q2, ⟨q3, fun e he => ⟨m, q5 e he⟩⟩, q4, fun e he => ⟨m, q6 e he⟩⟩
set_option maxHeartbeats 8000000 in
set_option maxRecDepth 100000 in
theorem sameStmt_two (n : Nat) (hA : EqSL n) : EqSt (n + 1) := by
  intro S S' w c0 c1 c2 c3 c4 c5 d0 d1 d2 d3 d4 d5 e e' h h' hk hk'
  obtain ⟨kd, nm, pl, el, bd, es, pa, la, ba, ea, pc, lc, bc, ec, rfl, hcs, h1, h2, h3, h4⟩ := h
  obtain ⟨kd', nm', pl', el', bd', es', pa', la', ba', ea', pc', lc', bc', ec', rfl, hcs', h1', h2', h3', h4'⟩ := h'
  simp only [List.cons.injEq, and_true] at hcs hcs'
  obtain ⟨rfl, rfl, rfl, rfl, rfl, rfl⟩ := hcs
  obtain ⟨rfl, rfl, rfl, rfl, rfl, rfl⟩ := hcs'
  obtain ⟨hp, hT, hB, hC⟩ := okS_parts hk
  obtain ⟨hp', hT', hB', hC'⟩ := okS_parts hk'
  clear hk hk'
  obtain ⟨wE, hE⟩ : ∃ wE, wE = (w.alloc (.cells #[.string kd, .string nm, .slice pa pl.length pc, .slice la el.length lc, .slice ba bd.length bc, .slice ea es.length ec] 39)).alloc (.cells #[.string kd', .string nm', .slice pa' pl'.length pc', .slice la' el'.length lc', .slice ba' bd'.length bc', .slice ea' es'.length ec'] 39) := ⟨_, rfl⟩
  have hb0 : Below w.heap.size w wE := by rw [hE]; exact ((Below.refl _ _).alloc (Nat.le_refl _) _).alloc (by simp) _
  have hs0 : wE.heap.size = w.heap.size + 2 := by rw [hE]; simp
  have e0 : wE.heap[w.heap.size]? = some (.cells #[.string kd, .string nm, .slice pa pl.length pc, .slice la el.length lc, .slice ba bd.length bc, .slice ea es.length ec] 39) := by rw [hE]; exact (Below.heap_alloc _ _ _ (by simp)).trans (heap_alloc_new w _)
  have f0 : wE.heap[w.heap.size + 1]? = some (.cells #[.string kd', .string nm', .slice pa' pl'.length pc', .slice la' el'.length lc', .slice ba' bd'.length bc', .slice ea' es'.length ec'] 39) := by
    rw [hE]
    have h := heap_alloc_new (w.alloc (.cells #[.string kd, .string nm, .slice pa pl.length pc, .slice la el.length lc, .slice ba bd.length bc, .slice ea es.length ec] 39)) (.cells #[.string kd', .string nm', .slice pa' pl'.length pc', .slice la' el'.length lc', .slice ba' bd'.length bc', .slice ea' es'.length ec'] 39)
    simpa using h
  have HT := toHid (eqStr_two (S := S) (S' := S') pl pl' pa pa' pc pc' hp hp' wE (h1.same (same_below hb0) (fun b h _ => h)) (h1'.same (same_below hb0) (fun b h _ => h)))
  /- the cells of the two, later on -/
  have HCE : Hid (∀ W, Below wE.heap.size wE W → W.cell? ⟨w.heap.size, 3, none⟩ = some (.slice la el.length lc) ∧ W.cell? ⟨w.heap.size + 1, 3, none⟩ = some (.slice la' el'.length lc') ∧ W.cell? ⟨w.heap.size, 4, none⟩ = some (.slice ba bd.length bc) ∧ W.cell? ⟨w.heap.size + 1, 4, none⟩ = some (.slice ba' bd'.length bc') ∧ W.cell? ⟨w.heap.size, 5, none⟩ = some (.slice ea es.length ec) ∧ W.cell? ⟨w.heap.size + 1, 5, none⟩ = some (.slice ea' es'.length ec')) := fun W hW => by
    have e1 := (hW.block w.heap.size (by omega)).trans e0
    have f1 := (hW.block (w.heap.size + 1) (by omega)).trans f0
    refine ⟨?_, ?_, ?_, ?_, ?_, ?_⟩
    · rw [cell_of_row _ _ 3 _ _ _ e1]; rfl
    · rw [cell_of_row _ _ 3 _ _ _ f1]; rfl
    · rw [cell_of_row _ _ 4 _ _ _ e1]; rfl
    · rw [cell_of_row _ _ 4 _ _ _ f1]; rfl
    · rw [cell_of_row _ _ 5 _ _ _ e1]; rfl
    · rw [cell_of_row _ _ 5 _ _ _ f1]; rfl
  have HQ1 := toHid (fun W (hW : Below w.heap.size w W) => eqExprs_all (lc := lc) (kc := lc') (h2.same (same_below hW) (fun b h _ => h)) (h2'.same (same_below hW) (fun b h _ => h)) hT hT')
  have HQ2 := toHid (fun W (hW : Below w.heap.size w W) => hA S S' W ba ba' bc bc' bd bd' (h3.same (same_below hW) (fun b h _ => h) (repVS_same (same_below hW) (fun b h _ => h) n)) (h3'.same (same_below hW) (fun b h _ => h) (repVS_same (same_below hW) (fun b h _ => h) n)) hB hB')
  have HQ3 := toHid (fun W (hW : Below w.heap.size w W) => hA S S' W ea ea' ec ec' es es' (h4.same (same_below hW) (fun b h _ => h) (repVS_same (same_below hW) (fun b h _ => h) n)) (h4'.same (same_below hW) (fun b h _ => h) (repVS_same (same_below hW) (fun b h _ => h) n)) hC hC')
  have HB0 := toHid hb0
  have HE := toHid hE
  have HS0 := toHid hs0
  clear hb0 e0 f0 hA h1 h1' h2 h2' h3 h3' h4 h4' hT hT' hB hB' hC hC' hE hs0 hp hp'
  go_enter Tryz.func15, Tryz.ntmps15
  cases hq : (kd.toList == kd'.toList) with
  | false =>
    go_wp2_with fail
    go_ret
    rw [← HE.out]
    exact ⟨false, rfl, (fun h => by cases h), HB0.out⟩
  | true =>
    cases hq2 : (nm.toList == nm'.toList) with
    | false =>
      go_wp2_with fail
      go_ret
      rw [← HE.out]
      exact ⟨false, rfl, (fun h => by cases h), HB0.out⟩
    | true =>
      go_wp2_with fail
      rw [← HE.out]
      refine HT.out.mono ?_
      rintro ev w1 ⟨b, rfl, hbe, hb1⟩
      obtain ⟨k3, m3, _, _, _, _⟩ := HCE.out w1 hb1
      have HU1 := toHid hb1
      have HW1 : Hid (Below w.heap.size w w1) := HB0.out.trans (hb1.mono HB0.out.size)
      have HBE := toHid hbe
      clear hb1 hbe HT
      cases b with
      | false =>
        go_wp2_with fail
        go_ret
        exact ⟨false, rfl, (fun h => by cases h), HW1.out⟩
      | true =>
        have kl := lt_of_cell k3
        have ml := lt_of_cell m3
        go_wp2_with fail
        refine (HQ1.out _ HW1.out).mono ?_
        rintro ev w2 ⟨b, rfl, hbe, hb2⟩
        have HU2 := toHid (HU1.out.trans (hb2.mono HU1.out.size))
        have HW2 := toHid (HW1.out.trans (hb2.mono HW1.out.size))
        obtain ⟨_, _, k4, m4, _, _⟩ := HCE.out w2 HU2.out
        have HLE := toHid hbe
        clear hb2 hbe k3 m3 kl ml
        cases b with
        | false =>
          go_wp2_with fail
          go_ret
          exact ⟨false, rfl, (fun h => by cases h), HW2.out⟩
        | true =>
          have kl := lt_of_cell k4
          have ml := lt_of_cell m4
          go_wp2_with fail
          refine (HQ2.out _ HW2.out).mono ?_
          rintro ev w3 ⟨b, rfl, hbe, hb3⟩
          have HU3 := toHid (HU2.out.trans (hb3.mono HU2.out.size))
          have HW3 := toHid (HW2.out.trans (hb3.mono HW2.out.size))
          obtain ⟨_, _, _, _, k5, m5⟩ := HCE.out w3 HU3.out
          have HME := toHid hbe
          clear hb3 hbe k4 m4 kl ml
          cases b with
          | false =>
            go_wp2_with fail
            go_ret
            exact ⟨false, rfl, (fun h => by cases h), HW3.out⟩
          | true =>
            have kl := lt_of_cell k5
            have ml := lt_of_cell m5
            go_wp2_with fail
            refine (HQ3.out _ HW3.out).mono ?_
            rintro ev w4 ⟨b, rfl, hbe, hb4⟩
            have HW4 := toHid (HW3.out.trans (hb4.mono HW3.out.size))
            have HNE := toHid hbe
            clear hb4 hbe k5 m5 kl ml
            go_wp2_with fail
            go_ret
            refine ⟨b, rfl, fun h => ?_, HW4.out⟩
            rw [bytes_same hq, bytes_same hq2, HBE.out (by first | rfl | trivial), HLE.out (by first | rfl | trivial), HME.out (by first | rfl | trivial), HNE.out h]
set_option maxHeartbeats 8000000 in
set_option maxRecDepth 100000 in
theorem eqStmts_two (n : Nat) (hB : EqSt n) : EqSL n := by
  intro S S' w la ka lc kc el el' h h' hk hk'
  have hn := hk.1
  by_cases hlen : el.length = el'.length
  · rw [← hlen]
    have H := toHid h
    have H' := toHid h'
    have HB := toHid hB
    have HK := toHid hk
    have HK' := toHid hk'
    have HL := toHid hlen
    clear h h' hB hk hk' hlen
    go_enter Tryz.func14, Tryz.ntmps14
    go_wp2_with fail
    go_loopg [17] (el.length + 1) (fun gk v17 wr => ∃ j : Nat, gk = el.length + 1 - j ∧ j ≤ el.length ∧ v17 = .int .i64 (j : Int) ∧ Below w.heap.size w wr ∧ el.take j = el'.take j)
    case atStart => exact ⟨0, rfl, Nat.zero_le _, rfl, Below.refl _ _, rfl⟩
    case round =>
      obtain ⟨j, hgk, hj, hv, hb, htk⟩ := hrel
      subst hv
      have HG : Hid (gk = el.length + 1 - j) := hgk
      have HTK := toHid htk
      clear hgk htk
      have hj0 : (0 : Int) ≤ (j : Int) := by omega
      by_cases hlt : j < el.length
      · have hI1 : (j : Int) < (el.length : Int) := by omega
        obtain ⟨b1, o1, rfl, _, t1⟩ := H.out (by omega)
        obtain ⟨b2, o2, rfl, _, t2⟩ := H'.out (by have := HL.out; omega)
        obtain ⟨e, he⟩ : ∃ e, el[j]? = some e := ⟨el[j], by simp [hlt]⟩
        obtain ⟨e', he'⟩ : ∃ e, el'[j]? = some e := ⟨el'[j]'(by have := HL.out; omega), by simp⟩
        obtain ⟨c0, c1, c2, c3, c4, c5, x0, x1, x2, x3, x4, x5, hr⟩ := t1 j e he
        obtain ⟨d0, d1, d2, d3, d4, d5, y0, y1, y2, y3, y4, y5, hr'⟩ := t2 j e' he'
        have hr2 := hr
        have hr2' := hr'
        cases n with
        | zero => exact hr.elim
        | succ n =>
        obtain ⟨kdx, nmx, plx, elx, bdx, esx, pax, lax, bax, eax, pcx, lcx, bcx, ecx, _, hcs, _⟩ := hr2
        obtain ⟨kdy, nmy, ply, ely, bdy, esy, pay, lay, bay, eay, pcy, lcy, bcy, ecy, _, hcs', _⟩ := hr2'
        simp only [List.cons.injEq, and_true] at hcs hcs'
        obtain ⟨rfl, rfl, rfl, rfl, rfl, rfl⟩ := hcs
        obtain ⟨rfl, rfl, rfl, rfl, rfl, rfl⟩ := hcs'
        have hl1 := lt_of_cell x0
        have hl2 := lt_of_cell y0
        have HX : Hid (∀ o v, w.cell? ⟨b1, o, none⟩ = some v → wr.cell? ⟨b1, o, none⟩ = some v) := fun o v hv => (hb.cell (p := ⟨b1, o, none⟩) hl1).trans hv
        have HY : Hid (∀ o v, w.cell? ⟨b2, o, none⟩ = some v → wr.cell? ⟨b2, o, none⟩ = some v) := fun o v hv => (hb.cell (p := ⟨b2, o, none⟩) hl2).trans hv
        have x0 := HX.out _ _ x0
        have x1 := HX.out _ _ x1
        have x2 := HX.out _ _ x2
        have x3 := HX.out _ _ x3
        have x4 := HX.out _ _ x4
        have x5 := HX.out _ _ x5
        have y0 := HY.out _ _ y0
        have y1 := HY.out _ _ y1
        have y2 := HY.out _ _ y2
        have y3 := HY.out _ _ y3
        have y4 := HY.out _ _ y4
        have y5 := HY.out _ _ y5
        have hk1 := lt_of_cell x0
        have hk2 := lt_of_cell y0
        have hsz := hb.size
        have HC := toHid (fun W (hW : Below w.heap.size w W) => HB.out S S' W _ _ _ _ _ _ _ _ _ _ _ _ e e' (repVS_same (same_below hW) (fun b h _ => h) _ _ _ hr) (repVS_same (same_below hW) (fun b h _ => h) _ _ _ hr') (HK.out.2 e (List.mem_of_getElem? he)) (HK'.out.2 e' (List.mem_of_getElem? he')))
        have HT := toHid (fun x => take_grow HTK.out he he' x)
        clear t1 t2 H H' he he' hr hr'
        go_wp2_with fail
        refine (HC.out _ (by first | exact hb | exact hb.alloc hsz _ | exact (hb.alloc hsz _).alloc (by simp; omega) _)).mono ?_
        rintro ev w1 ⟨b, rfl, hbe, hb1⟩
        have HW1 : Hid (Below w.heap.size w w1) := by first | exact ((hb.alloc hsz _).alloc (by simp; omega) _).trans (hb1.mono (by simp; omega)) | exact (hb.alloc hsz _).trans (hb1.mono (by simp; omega)) | exact hb.trans (hb1.mono hsz)
        have HBE := toHid hbe
        clear hb1 hbe
        cases b with
        | false =>
          go_wp2_with fail
          go_ret
          exact ⟨false, rfl, (fun h => by cases h), HW1.out⟩
        | true =>
          go_wp2_with fail
          go_roundg (el.length + 1 - (j + 1))
          case measure => have := HG.out; omega
          case rel => exact ⟨j + 1, rfl, by omega, by go_num, HW1.out, HT.out (HBE.out (by first | rfl | trivial))⟩
      · have hje : j = el.length := by omega
        have HZ := toHid (take_whole HTK.out hje HL.out)
        clear hje
        go_wp2_with fail
        go_ret
        exact ⟨true, rfl, fun _ => HZ.out, hb⟩
  · have hI : ¬ ((el.length : Int) = (el'.length : Int)) := by omega
    have hn' := hk'.1
    clear h h' hB hk hk' hlen
    go_enter Tryz.func14, Tryz.ntmps14
    go_wp2
    go_ret
    exact ⟨false, rfl, (fun h => by cases h), Below.refl _ _⟩
theorem eqS_all : ∀ n, EqSt n ∧ EqSL n
  | 0 => ⟨fun _ _ _ _ _ _ _ _ _ _ _ _ _ _ _ _ _ h _ _ _ => h.elim, eqStmts_two 0 (fun _ _ _ _ _ _ _ _ _ _ _ _ _ _ _ _ _ h _ _ _ => h.elim)⟩
  | n + 1 => ⟨sameStmt_two n (eqS_all n).2, eqStmts_two (n + 1) (sameStmt_two n (eqS_all n).2)⟩
/-- EqualFunc of two lists of statements. -/
theorem eqStmts_all {S S' : Nat → Prop} {w : World} {la ka : Option Addr} {lc kc : Nat} {el el' : List (DataW Unit)} (h : RepVSL S w la el) (h' : RepVSL S' w ka el') (hk : OkSL 2000000 el) (hk' : OkSL 2000000 el') : Calls Tryz.prog 14 #[.slice la el.length lc, .slice ka el'.length kc, .func (.func 15) #[] #[]] w fun ev w' => ∃ b, ev = .returned (.bool b) ∧ (b = true → el = el') ∧ Below w.heap.size w w' := by
  obtain ⟨n, hn⟩ := rowVS_bound h
  obtain ⟨m, hm⟩ := rowVS_bound h'
  exact (eqS_all (max n m)).2 S S' w la ka lc kc el el' (rowS.imp hn (fun cs d => repVS_more n _ cs d (by omega))) (rowS.imp hm (fun cs d => repVS_more m _ cs d (by omega))) hk hk'
end Go.Proofs.YtajkahckmhipkaaGreatDoor
