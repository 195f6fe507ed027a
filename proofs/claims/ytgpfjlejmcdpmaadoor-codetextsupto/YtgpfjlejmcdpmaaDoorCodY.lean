/- codeOf: laws of code that is being made: rows of ops, of Funcs. -/
import Derived.Test.YtgpfjlejmcdpmaaDoorCodW
import Derived.Deep.AppendLies
import Derived.Deep.RegionLaw
import Derived.Deep.RegionLawGrows
import Derived.Deep.Cut
import Derived.Deep.CutRange
import Derived.Laws.AppendOwnNone
namespace Go.Proofs.YtgpfjlejmcdpmaaDoor
open Go.RowKit

/-- append of nothing to nil, in a region that draws. -/
theorem step_append_none0 {P : Program} {ops : Array Oper} {o : Oper} {a : Act} {w : World} {K : Act → World → Prop} {Q : Exit → Act → World → Prop} {E : Prop}
    (hg : o.guard = none) (s x : Operand) (t : TypeId) (hop : o.op = Op.call { callee := Callee.builtin Builtin.append, args := #[s, x], argTypes := #[t, t] })
    (e : TypeId) (i : TypeInfo) (h1 : P.underlying t = some (.slice e)) (h2 : P.info? e = some i) (hs : a.eval s = .slice none 0 0) (xa : Option Addr) (c : Nat) (hx : a.eval x = .slice xa 0 c)
    (hK : K (a.put o.dst (.slice none 0 0)) w) : if Region.wanted o (yielded ops a.tmps) = true then Oper.wp P o a w K Q else E := by
  have hw : Region.wanted o (yielded ops a.tmps) = true := by simp [Region.wanted, hg]
  rw [if_pos hw]
  have hr : (Builtin.append_ #[t, t] o.type #[.slice none 0 0, .slice xa 0 c]).run P w = .ok (.slice none 0 0) w := by
    cases xa <;> simp [Builtin.append_, run_underlying h1, sizeOf, typeInfo, h2, go_sem]
  unfold Oper.wp
  simp [execOp, hop, resolve, invoke, builtin, hs, hx, hr, Result.andThen]
  exact hK
/-- append of a row to nil, in a region that draws. -/
theorem step_append_nil {P : Program} {ops : Array Oper} {o : Oper} {a : Act} {w : World} {K : Act → World → Prop} {Q : Exit → Act → World → Prop} {E : Prop}
    (hg : o.guard = none) (s x : Operand) (t : TypeId) (hop : o.op = Op.call { callee := Callee.builtin Builtin.append, args := #[s, x], argTypes := #[t, t] })
    (e : TypeId) (i : TypeInfo) (z : Value) (size bytes : Nat) (h1 : P.underlying t = some (.slice e)) (h2 : P.info? e = some i) (h3 : i.zero = some z) (h4 : i.size = size) (h5 : i.bytes = bytes) (h6 : z.cells.size = size) (h7 : 0 < size)
    (hs : a.eval s = .slice none 0 0) (ao : Option Addr) (m c : Nat) (news : List Value) (hx : a.eval x = .slice ao m c) (hn : news.length = m * size) (hc : 0 < m → ∃ ad, ao = some ad ∧ ∀ j u, news[j]? = some u → w.cell? (ad.add j) = some u) (h1c : ∀ u ∈ news, u.oneCell' = true)
    (b1 : m ≤ maxLen) (b2 : m * bytes ≤ 140737488355328)
    (hK : ∀ (ao' : Option Addr) (cap : Nat) w', w'.ownsRow w.heap.size e size (.slice ao' m cap) m news → w.grownBy w' none → K (a.put o.dst (.slice ao' m cap)) w') :
    if Region.wanted o (yielded ops a.tmps) = true then Oper.wp P o a w K Q else E := by
  by_cases hm : m = 0
  · subst hm
    obtain rfl : news = [] := List.eq_nil_of_length_eq_zero (by omega)
    refine step_append_none0 hg s x t hop e i h1 h2 hs ao c hx (hK none 0 w ⟨by simp, .inl ⟨rfl, rfl⟩⟩ ⟨rfl, rfl, rfl, Nat.le_refl _, fun _ _ _ => rfl⟩)
  · obtain ⟨ad, rfl, hc'⟩ := hc (by omega)
    refine step_append_grows hg s x t hop e i z size bytes h1 h2 h3 h4 h5 h6 h7 none 0 0 [] hs (fun _ => ⟨rfl, rfl⟩) (by simp) (fun b h => by cases h) ad m c news hx hn hc' h1c (by omega) (by omega) (by rw [Nat.zero_add]; exact b2) fun v' w' ho hgr => ?_
    rw [List.nil_append, Nat.zero_add] at ho
    obtain ⟨ao', cap, rfl⟩ := own_slice ho
    exact hK ao' cap w' ho hgr

theorem wpList_append_nil {P : Program} {w : World} {ops : Array Oper} {rest : List Oper} {o : Oper} {a : Act} {Q : Exit → Act → World → Prop} (hgd : o.guard = none) (s x : Operand) (t : TypeId) (hop : o.op = Op.call { callee := Callee.builtin Builtin.append, args := #[s, x], argTypes := #[t, t] })
    (e : TypeId) (i : TypeInfo) (z : Value) (size bytes : Nat) (h1 : P.underlying t = some (.slice e)) (h2 : P.info? e = some i) (h3 : i.zero = some z) (h4 : i.size = size) (h5 : i.bytes = bytes) (h6 : z.cells.size = size) (h7 : 0 < size)
    (hs : a.eval s = .slice none 0 0) (ao : Option Addr) (m c : Nat) (news : List Value) (hx : a.eval x = .slice ao m c) (hn : news.length = m * size) (hc : 0 < m → ∃ ad, ao = some ad ∧ ∀ j u, news[j]? = some u → w.cell? (ad.add j) = some u) (h1c : ∀ u ∈ news, u.oneCell' = true)
    (b1 : m ≤ maxLen) (b2 : m * bytes ≤ 140737488355328)
    (h : ∀ (ao' : Option Addr) (cap : Nat) w', w'.ownsRow w.heap.size e size (.slice ao' m cap) m news → w.grownBy w' none → wpList P ops Q rest (a.put o.dst (.slice ao' m cap)) w') : wpList P ops Q (o :: rest) a w := by
  refine wpList_plain hgd fun K hK => ?_
  have h := step_append_nil (P := P) (ops := ops) (Q := Q) (K := K) (E := True) hgd s x t hop e i z size bytes h1 h2 h3 h4 h5 h6 h7 hs ao m c news hx hn hc h1c b1 b2 fun ao' cap w' ho hg => hK _ _ (h ao' cap w' ho hg)
  have hw : Region.wanted o (yielded ops a.tmps) = true := by simp [Region.wanted, hgd]
  rw [if_pos hw] at h
  exact h

def opsC (d : FD) (j : Nat) : List Value := (List.range j).flatMap fun k => [.string (d.nm k), .int .i64 (d.ar k)]
theorem opsC_succ (d : FD) (k : Nat) : opsC d (k + 1) = opsC d k ++ [.string (d.nm k), .int .i64 (d.ar k)] := by unfold opsC; rw [List.range_succ, List.flatMap_append]; simp
theorem opsC_len (d : FD) : ∀ k, (opsC d k).length = k * 2
  | 0 => rfl
  | k + 1 => by rw [opsC_succ, List.length_append, opsC_len d k]; show k * 2 + 2 = _; omega
theorem opsC_at (d : FD) : ∀ {k i : Nat}, i < k → (opsC d k)[i * 2]? = some (.string (d.nm i)) ∧ (opsC d k)[i * 2 + 1]? = some (.int .i64 (d.ar i))
  | k + 1, i, hi => by
    rw [opsC_succ]
    by_cases e : i = k
    · subst e
      rw [List.getElem?_append_right (by rw [opsC_len]; omega), List.getElem?_append_right (by rw [opsC_len]; omega), opsC_len, Nat.sub_self, Nat.add_sub_cancel_left]
      exact ⟨rfl, rfl⟩
    · rw [List.getElem?_append_left (by rw [opsC_len]; omega), List.getElem?_append_left (by rw [opsC_len]; omega)]
      exact opsC_at d (by omega)
/-- A Func's six cells. -/
def funcC (d : FD) (v : Value) : List Value := [.string d.name, .int .i64 d.p, .int .i64 d.l, .int .i64 d.c, .int .i64 d.f, v]
theorem funcC_one (d : FD) (a : Option Addr) (n c : Nat) : ∀ u ∈ funcC d (.slice a n c), u.oneCell' = true := fun u hu => by
  simp only [funcC, List.mem_cons, List.not_mem_nil, or_false] at hu
  rcases hu with rfl | rfl | rfl | rfl | rfl | rfl <;> rfl
def funcsC (fs : Nat → FD) (sl : Nat → Value) (k : Nat) : List Value := (List.range k).flatMap fun i => funcC (fs i) (sl i)
theorem funcsC_succ (fs : Nat → FD) (sl : Nat → Value) (k : Nat) : funcsC fs sl (k + 1) = funcsC fs sl k ++ funcC (fs k) (sl k) := by unfold funcsC; rw [List.range_succ, List.flatMap_append]; simp
theorem funcsC_len (fs : Nat → FD) (sl : Nat → Value) : ∀ k, (funcsC fs sl k).length = k * 6
  | 0 => rfl
  | k + 1 => by rw [funcsC_succ, List.length_append, funcsC_len fs sl k]; show k * 6 + 6 = _; omega
theorem funcsC_congr {fs : Nat → FD} {sl sl' : Nat → Value} : ∀ {k : Nat}, (∀ i, i < k → sl i = sl' i) → funcsC fs sl k = funcsC fs sl' k
  | 0, _ => rfl
  | k + 1, h => by rw [funcsC_succ, funcsC_succ, funcsC_congr fun i hi => h i (by omega), h k (by omega)]
theorem funcsC_at (fs : Nat → FD) (sl : Nat → Value) : ∀ {k i : Nat}, i < k → ∀ j, j < 6 → (funcsC fs sl k)[i * 6 + j]? = (funcC (fs i) (sl i))[j]?
  | k + 1, i, hi, j, hj => by
    rw [funcsC_succ]
    by_cases e : i = k
    · subst e
      rw [List.getElem?_append_right (by rw [funcsC_len]; omega), funcsC_len]
      congr 1
      omega
    · rw [List.getElem?_append_left (by rw [funcsC_len]; omega)]
      exact funcsC_at fs sl (by omega) j hj

/-- A row of one cell each, in blocks that are done with, behind q. -/
def RowL (q : Nat) (L : List (Nat × Obj)) (a : Option Addr) (n : Nat) (v : Nat → Value) : Prop := ∀ i, i < n → ∃ b cs t fz, a = some ⟨b, 0, none⟩ ∧ q < b ∧ (b, Obj.cells cs t fz) ∈ L ∧ cs[i]? = some (v i)
/-- Ops likewise. -/
def OpsL (q : Nat) (L : List (Nat × Obj)) (a : Option Addr) (d : FD) : Prop := ∀ j, j < d.n → ∃ b cs t fz, a = some ⟨b, 0, none⟩ ∧ q < b ∧ (b, Obj.cells cs t fz) ∈ L ∧ cs[j * 2]? = some (.string (d.nm j)) ∧ cs[j * 2 + 1]? = some (.int .i64 (d.ar j))
theorem RowL.more {q : Nat} {L L' : List (Nat × Obj)} {a : Option Addr} {n : Nat} {v : Nat → Value} (h : RowL q L a n v) (hL : ∀ p ∈ L, p ∈ L') : RowL q L' a n v := fun i hi => by
  obtain ⟨b, cs, t, fz, e, l, m, x⟩ := h i hi
  exact ⟨b, cs, t, fz, e, l, hL _ m, x⟩
theorem OpsL.more {q : Nat} {L L' : List (Nat × Obj)} {a : Option Addr} {d : FD} (h : OpsL q L a d) (hL : ∀ p ∈ L, p ∈ L') : OpsL q L' a d := fun i hi => by
  obtain ⟨b, cs, t, fz, e, l, m, x⟩ := h i hi
  exact ⟨b, cs, t, fz, e, l, hL _ m, x⟩
theorem take_at {cur : Array Value} {m i : Nat} {xs : List Value} {u : Value} (h : cur.toList.take m = xs) (hx : xs[i]? = some u) : cur[i]? = some u := by
  rw [← h, List.getElem?_take] at hx
  split at hx
  · rw [← Array.getElem?_toList]
    exact hx
  · cases hx
theorem rowL_of {w : World} {base e n c q : Nat} {a : Option Addr} {xs : List Value} {v : Nat → Value} (h : w.ownsRow base e 1 (.slice a n c) n xs) (hq : q < base) (hx : ∀ i, i < n → xs[i]? = some (v i)) :
    ∃ L : List (Nat × Obj), RowL q L a n v ∧ ∀ p ∈ L, w.heap[p.1]? = some p.2 ∧ base ≤ p.1 := by
  rcases h.2 with ⟨_, h0⟩ | ⟨g, cap, cur, hv, hb, hg, _, _, _, ht⟩
  · subst h0
    exact ⟨[], fun i hi => absurd hi (by omega), fun p hp => by cases hp⟩
  · simp only [Value.slice.injEq, true_and] at hv
    refine ⟨[(g, .cells cur e (0, 0))], fun i hi => ⟨g, cur, e, (0, 0), hv.1, by omega, List.mem_singleton.2 rfl, take_at ht (hx i hi)⟩, fun p hp => ?_⟩
    obtain rfl := List.mem_singleton.1 hp
    exact ⟨hg, hb⟩
theorem opsL_of {w : World} {base e c q : Nat} {a : Option Addr} {d : FD} (h : w.ownsRow base e 2 (.slice a d.n c) d.n (opsC d d.n)) (hq : q < base) :
    ∃ L : List (Nat × Obj), OpsL q L a d ∧ ∀ p ∈ L, w.heap[p.1]? = some p.2 ∧ base ≤ p.1 := by
  rcases h.2 with ⟨_, h0⟩ | ⟨g, cap, cur, hv, hb, hg, _, _, _, ht⟩
  · exact ⟨[], fun i hi => absurd hi (by omega), fun p hp => by cases hp⟩
  · simp only [Value.slice.injEq, true_and] at hv
    refine ⟨[(g, .cells cur e (0, 0))], fun i hi => ⟨g, cur, e, (0, 0), hv.1, by omega, List.mem_singleton.2 rfl, take_at ht (opsC_at d hi).1, take_at ht (opsC_at d hi).2⟩, fun p hp => ?_⟩
    obtain rfl := List.mem_singleton.1 hp
    exact ⟨hg, hb⟩

/-- A Func that is being made, at q: j ops stand. -/
structure XO (w2 : World) (q : Nat) (d : FD) (j : Nat) (vO : Value) (w : World) : Prop where
  below : Below q w2 w
  xb : w.heap[q]? = some (.cells #[.string d.name, .int .i64 d.p, .int .i64 d.l, .int .i64 d.c, .int .i64 d.f, vO] 39)
  row : w.ownsRow (q + 1) 41 2 vO j (opsC d j)
theorem XO.next {w2 : World} {q : Nat} {d : FD} {j : Nat} {vO vO' : Value} {w wb w' : World} (X : XO w2 q d j vO w) (hb : Below w.heap.size w wb) (hg : wb.grownBy w' vO.ownBlock) (ho : w'.ownsRow (q + 1) 41 2 vO' (j + 1) (opsC d j ++ [.string (d.nm j), .int .i64 (d.ar j)])) :
    w'.heap[q]? = w.heap[q]? ∧ XO w2 q d (j + 1) vO' (w'.setCell ⟨q, 5, none⟩ vO') := by
  obtain ⟨h1, h2, h3⟩ := X
  have hl := lt_of_heap h2
  have hz := h1.size
  have hwz := hb.size
  have no : ∀ g, g ≤ q → some g ≠ vO.ownBlock := fun g hg' e => by have := (own_lt2 h3 g e.symm).1; omega
  have f : ∀ g, g ≤ q → w'.heap[g]? = w.heap[g]? := fun g hg' => (hg.block g (by omega) (no g hg')).trans (hb.block g (by omega))
  refine ⟨f q (Nat.le_refl _), ?_, (heap_set_same ((f q (Nat.le_refl _)).trans h2)).trans rfl, ?_⟩
  · refine Below.setCell ⟨hg.os.trans (hb.os.trans h1.os), hg.tape.trans (hb.tape.trans h1.tape), hg.output.trans (hb.output.trans h1.output), by have := hg.size; omega, fun g hgB => (f g (by omega)).trans (h1.block g hgB)⟩ (Nat.le_refl _) _
  · rw [opsC_succ]
    exact ownsRow_far' ho (fun g hk => heap_set _ _ _ _ _ (by have := (own_lt2 ho g hk).1; omega))

/-- Code that is being made, at q: k Funcs stand; L: blocks that are done with. -/
structure FC (W : World) (q : Nat) (d : CD) (k : Nat) (vF vI vS vN : Value) (oa : Nat → Option Addr) (oc : Nat → Nat) (L : List (Nat × Obj)) (w : World) : Prop where
  below : Below W.heap.size W w
  lo : W.heap.size ≤ q
  code : w.heap[q]? = some (.cells #[vF, vI, vS, vN] 32)
  row : w.ownsRow (q + 1) 39 6 vF k (funcsC d.fs (fun i => .slice (oa i) (d.fs i).n (oc i)) k)
  fin : ∀ p ∈ L, w.heap[p.1]? = some p.2 ∧ p.1 ≠ q ∧ vF.ownBlock ≠ some p.1
  ops : ∀ i, i < k → OpsL q L (oa i) (d.fs i)
theorem FC.grow {W : World} {q : Nat} {d : CD} {k : Nat} {vF vI vS vN : Value} {oa : Nat → Option Addr} {oc : Nat → Nat} {L : List (Nat × Obj)} {w w' : World} (F : FC W q d k vF vI vS vN oa oc L w) (hb : Below w.heap.size w w') : FC W q d k vF vI vS vN oa oc L w' :=
  ⟨F.below.trans (hb.mono F.below.size), F.lo, (hb.block q (lt_of_heap F.code)).trans F.code, ownsRow_far' F.row (fun g hg => hb.block g (own_lt2 F.row g hg).2), fun p hp => ⟨(hb.block p.1 (lt_of_heap (F.fin p hp).1)).trans (F.fin p hp).1, (F.fin p hp).2⟩, F.ops⟩
theorem FC.add {W : World} {q : Nat} {d : CD} {k : Nat} {vF vI vS vN : Value} {oa : Nat → Option Addr} {oc : Nat → Nat} {L L1 : List (Nat × Obj)} {w : World} (F : FC W q d k vF vI vS vN oa oc L w) (h : ∀ p ∈ L1, w.heap[p.1]? = some p.2 ∧ p.1 ≠ q ∧ vF.ownBlock ≠ some p.1) : FC W q d k vF vI vS vN oa oc (L1 ++ L) w :=
  ⟨F.below, F.lo, F.code, F.row, fun p hp => (List.mem_append.1 hp).elim (h p) (F.fin p), fun i hi => (F.ops i hi).more fun _ hp => List.mem_append_right _ hp⟩
/-- One more Func: it was appended. -/
theorem FC.next {W : World} {q : Nat} {d : CD} {k : Nat} {vF vF' vI vS vN : Value} {oa : Nat → Option Addr} {oc : Nat → Nat} {L : List (Nat × Obj)} {w wb w' : World} (F : FC W q d k vF vI vS vN oa oc L w) (hb : Below w.heap.size w wb) (a : Option Addr) (c : Nat) (hO : OpsL q L a (d.fs k)) (hg : wb.grownBy w' vF.ownBlock) (ho : w'.ownsRow (q + 1) 39 6 vF' (k + 1) (funcsC d.fs (fun i => .slice (oa i) (d.fs i).n (oc i)) k ++ funcC (d.fs k) (.slice a (d.fs k).n c))) (ha : ∀ g, vF'.ownBlock = some g → vF.ownBlock = some g ∨ wb.heap.size ≤ g) :
    w'.heap[q]? = w.heap[q]? ∧ FC W q d (k + 1) vF' vI vS vN (fun i => if i = k then a else oa i) (fun i => if i = k then c else oc i) L (w'.setCell ⟨q, 0, none⟩ vF') := by
  obtain ⟨h1, h2, h3, h4, h5, h6⟩ := F
  have hz := hb.size
  have f : ∀ g, g < wb.heap.size → vF.ownBlock ≠ some g → w'.heap[g]? = wb.heap[g]? := fun g hl hn => hg.block g hl (fun e => hn e.symm)
  have l0 := lt_of_heap h3
  have nq : vF.ownBlock ≠ some q := fun e => by have := (own_lt2 h4 q e).1; omega
  have e0 : w'.heap[q]? = w.heap[q]? := (f q (by omega) nq).trans (hb.block q l0)
  have hbl : Below W.heap.size W w' := ⟨hg.os.trans (hb.os.trans h1.os), hg.tape.trans (hb.tape.trans h1.tape), hg.output.trans (hb.output.trans h1.output), by have := hg.size; have := h1.size; omega, fun g hk => (f g (by have := h1.size; omega) (fun e => by have := (own_lt2 h4 g e).1; omega)).trans ((hb.block g (by have := h1.size; omega)).trans (h1.block g hk))⟩
  refine ⟨e0, hbl.setCell h2 _, h2, (heap_set_same (e0.trans h3)).trans rfl, ?_, fun p hp => ?_, fun i hi => ?_⟩
  · rw [funcsC_succ, funcsC_congr (sl' := fun i => .slice (oa i) (d.fs i).n (oc i)) fun i hi => by simp [Nat.ne_of_lt hi]]
    simp only [if_true]
    exact ownsRow_far' ho (fun g hk => heap_set _ _ _ _ _ (by have := (own_lt2 ho g hk).1; omega))
  · obtain ⟨x1, x2, x3⟩ := h5 p hp
    have lp := lt_of_heap x1
    refine ⟨(heap_set _ _ _ _ _ x2).trans ((f p.1 (by omega) x3).trans ((hb.block p.1 lp).trans x1)), x2, fun e => ?_⟩
    rcases ha p.1 e with h | h
    · exact x3 h
    · omega
  · by_cases e : i = k
    · subst e
      simp only [if_true]
      exact hO
    · simp only [if_neg e]
      exact h6 i (by omega)
/-- What comes of it: code in memory, also where another block than these has turned. -/
theorem FC.codeIn {W : World} {q : Nat} {d : CD} {vF vI vS vN : Value} {oa : Nat → Option Addr} {oc : Nat → Nat} {L : List (Nat × Obj)} {w w' : World} (F : FC W q d d.nF vF vI vS vN oa oc L w) {aI aS aN : Option Addr} (rI : RowL q L aI d.nI fun i => .int .i64 (d.xs i)) (rS : RowL q L aS d.nS fun i => .string (d.ss i)) (rN : RowL q L aN d.nN fun i => .string (d.ns i)) (hw : ∀ b, q < b → w'.heap[b]? = w.heap[b]?) :
    ∃ aF cF, vF = .slice aF d.nF cF ∧ CodeIn w' d aF aI aS aN := by
  have cell : ∀ b cs t fz, q < b → (b, Obj.cells cs t fz) ∈ L → ∀ i, w'.cell? ⟨b, i, none⟩ = cs[i]? := fun b cs t fz hb hm i => cell_of_row _ _ i _ _ _ ((hw b hb).trans (F.fin _ hm).1)
  have row : ∀ {a : Option Addr} {n : Nat} {v : Nat → Value}, RowL q L a n v → RowIn w' a n v := fun h i hi => by
    obtain ⟨b, cs, t, fz, e, l, m, x⟩ := h i hi
    exact ⟨b, 0, e, by rw [Nat.zero_add, cell b cs t fz l m]; exact x⟩
  obtain ⟨aF, cF, rfl⟩ := own_slice F.row
  refine ⟨aF, cF, rfl, fun i hi => ?_, row rI, row rS, row rN⟩
  rcases F.row.2 with ⟨_, h0⟩ | ⟨g, cap, cur, hv, hb, hg, _, _, _, ht⟩
  · omega
  · simp only [Value.slice.injEq, true_and] at hv
    obtain ⟨rfl, _⟩ := hv
    have c : ∀ j, j < 6 → ∀ v, (funcC (d.fs i) (.slice (oa i) (d.fs i).n (oc i)))[j]? = some v → w'.cell? ⟨g, 0 + i * 6 + j, none⟩ = some v := fun j hj v hx => by
      rw [Nat.zero_add, cell_of_row _ _ _ _ _ _ ((hw g (by omega)).trans hg)]
      exact take_at ht ((funcsC_at d.fs _ hi j hj).trans hx)
    refine ⟨g, 0, oa i, oc i, rfl, c 0 (by omega) _ rfl, c 1 (by omega) _ rfl, c 2 (by omega) _ rfl, c 3 (by omega) _ rfl, c 4 (by omega) _ rfl, c 5 (by omega) _ rfl, fun j hj => ?_⟩
    obtain ⟨b, cs, t, fz, e, l, m, x, y⟩ := F.ops i hi j hj
    exact ⟨b, 0, e, by rw [Nat.zero_add, cell b cs t fz l m]; exact x, by rw [Nat.zero_add, cell b cs t fz l m]; exact y⟩
end Go.Proofs.YtgpfjlejmcdpmaaDoor
