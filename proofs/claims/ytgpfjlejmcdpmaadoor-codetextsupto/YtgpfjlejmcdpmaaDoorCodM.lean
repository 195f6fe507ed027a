/- The law CodeWide by a walk, where halt answers true. -/
import Derived.Test.YtgpfjlejmcdpmaaDoorCodL
namespace Go.Proofs.YtgpfjlejmcdpmaaDoor
open Go.RowKit

theorem make_some (t e : TypeId) (hu : Tryd.prog.underlying t = some (.slice e)) (i : TypeInfo) (hi : Tryd.prog.info? e = some i) (z : Value) (hz : i.zero = some z) (hb : i.bytes ≤ 1000) (n : Nat) (hn : n ≤ 300000) : ∃ cs : Array Value, cs.size = n * i.size ∧ cs = madeCells z.cells (n * i.size) ∧ ∀ w : World, (Instr.makeSlice t (.int .i64 (n : Int)) (.int .i64 (n : Int))).run Tryd.prog w = .ok (.slice (some ⟨w.heap.size, 0, none⟩) n n) (w.alloc (.cells cs e)) := by
  refine ⟨madeCells z.cells (n * i.size), size_madeCells _ _, rfl, fun w => ?_⟩
  have hle : (i.bytes : Int) * (n : Int) ≤ 281474976710656 := by
    have : (i.bytes : Int) * (n : Int) ≤ 1000 * 300000 := Int.mul_le_mul (by omega) (by omega) (by omega) (by omega)
    omega
  have h := run_make (P := Tryd.prog) w t e i z hu hi hz .i64 .i64 (n : Int) (n : Int) (by omega) (by omega) hle (by omega)
  rw [h]
  simp
/-- A row of ops of one's own. -/
def OpsRow (w : World) (b n : Nat) (nm : Nat → ByteArray) : Prop := ∃ co, w.heap[b]? = some (.cells co 41) ∧ co.size = n * 2 ∧ ∀ j, j < n → co[j * 2]? = some (.string (nm j)) ∧ co[j * 2 + 1]? = some (.int .i64 0)
theorem OpsRow.set {w : World} {b n : Nat} {nm : Nat → ByteArray} (h : OpsRow w b n nm) (i : Nat) (s : ByteArray) : OpsRow (w.setCell ⟨b, i * 2, none⟩ (.string s)) b n (fun j => if j = i then s else nm j) := by
  obtain ⟨co, h1, h2, h3⟩ := h
  refine ⟨_, heap_set_same h1, by simp [h2], fun j hj => ?_⟩
  obtain ⟨k1, k2⟩ := h3 j hj
  refine ⟨?_, by rw [Array.getElem?_setIfInBounds_ne (by omega)]; exact k2⟩
  by_cases e : j = i
  · subst e
    rw [Array.getElem?_setIfInBounds_self_of_lt (by omega)]
    simp
  · rw [Array.getElem?_setIfInBounds_ne (by omega), k1]
    simp [e]
theorem OpsRow.congr {w : World} {b n : Nat} {nm nm' : Nat → ByteArray} (h : OpsRow w b n nm) (he : ∀ j, j < n → nm j = nm' j) : OpsRow w b n nm' := by
  obtain ⟨co, h1, h2, h3⟩ := h
  exact ⟨co, h1, h2, fun j hj => by rw [← he j hj]; exact h3 j hj⟩
theorem OpsRow.cell {w : World} {b n : Nat} {nm : Nat → ByteArray} (h : OpsRow w b n nm) (i : Nat) (hi : i < n) : w.cell? ⟨b, i * 2, none⟩ = some (.string (nm i)) ∧ w.frozen? ⟨b, i * 2, none⟩ = false := by
  obtain ⟨co, h1, _, h3⟩ := h
  exact ⟨(cell_of_row _ _ _ _ _ _ h1).trans (h3 i hi).1, by simp [World.frozen?, h1]⟩
theorem OpsRow.at {w : World} {b n : Nat} {nm : Nat → ByteArray} (h : OpsRow w b n nm) : OpsAt w b 0 n nm := fun i hi => by
  obtain ⟨co, h1, _, h3⟩ := h
  rw [Nat.zero_add]
  exact ⟨(cell_of_row _ _ _ _ _ _ h1).trans (h3 i hi).1, (cell_of_row _ _ _ _ _ _ h1).trans (h3 i hi).2⟩
theorem made_ops (n j : Nat) (hj : j < n) : (madeCells (Value.agg #[.string ⟨#[]⟩, .int .i64 0]).cells (n * 2))[j * 2]? = some (.string ⟨#[]⟩) ∧ (madeCells (Value.agg #[.string ⟨#[]⟩, .int .i64 0]).cells (n * 2))[j * 2 + 1]? = some (.int .i64 0) := by
  have e1 : j * 2 % 2 = 0 := by omega
  have e2 : (j * 2 + 1) % 2 = 1 := by omega
  have l1 : j * 2 < n * 2 := by omega
  have l2 : j * 2 + 1 < n * 2 := by omega
  constructor
  · simp [madeCells, Value.cells, e1, l1]
  · simp [madeCells, Value.cells, e2, l2]
/-- A Func's six cells. -/
def funcV (v : Value) : List Value := [.string ⟨#[]⟩, .int .i64 0, .int .i64 0, .int .i64 0, .int .i64 0, v]
def funcsV (sl : Nat → Value) (k : Nat) : List Value := (List.range k).flatMap fun i => funcV (sl i)
theorem funcsV_succ (sl : Nat → Value) (k : Nat) : funcsV sl (k + 1) = funcsV sl k ++ funcV (sl k) := by unfold funcsV; rw [List.range_succ, List.flatMap_append]; simp
theorem funcsV_len (sl : Nat → Value) : ∀ k, (funcsV sl k).length = k * 6
  | 0 => rfl
  | k + 1 => by rw [funcsV_succ, List.length_append, funcsV_len sl k]; show k * 6 + 6 = _; omega
theorem funcsV_congr {sl sl' : Nat → Value} : ∀ {k : Nat}, (∀ i, i < k → sl i = sl' i) → funcsV sl k = funcsV sl' k
  | 0, _ => rfl
  | k + 1, h => by rw [funcsV_succ, funcsV_succ, funcsV_congr fun i hi => h i (by omega), h k (by omega)]
theorem funcsV_at (sl : Nat → Value) : ∀ {k i : Nat}, i < k → ∀ j, j < 6 → (funcsV sl k)[i * 6 + j]? = (funcV (sl i))[j]?
  | k + 1, i, hi, j, hj => by
    rw [funcsV_succ]
    by_cases e : i = k
    · subst e
      rw [List.getElem?_append_right (by rw [funcsV_len]; omega), funcsV_len]
      congr 1
      omega
    · rw [List.getElem?_append_left (by rw [funcsV_len]; omega)]
      exact funcsV_at sl (by omega) j hj
theorem sumL_two {L : Nat → Nat} {o : Nat} : ∀ {k : Nat}, (∀ j, j < k → (j = 0 → L j = o) ∧ (j ≠ 0 → L j = 2)) → 1 ≤ k → sumL L k = o + 2 * (k - 1)
  | 0, _, h => by omega
  | k + 1, h, _ => by
    unfold sumL
    by_cases e : k = 0
    · subst e
      have := (h 0 (by omega)).1 rfl
      unfold sumL
      omega
    · have := sumL_two (k := k) (fun j hj => h j (by omega)) (by omega)
      have := (h k (by omega)).2 e
      omega
def restN : Nat → ByteArray := fun j => if j = 0 then bConst else bRet
theorem tStep : ¬ bStep.toList = [116, 114, 121] ∧ ¬ bStep.toList = [101, 110, 100] ∧ ¬ bStep.toList = [116, 97, 107, 101] ∧ ¬ bStep.toList = [99, 108, 111, 115, 117, 114, 101] ∧ ¬ bStep.toList = [104, 97, 108, 116] ∧ ¬ bStep.toList = [114, 101, 116, 117, 114, 110] := by decide +kernel
theorem tHalt : ¬ bHalt.toList = [116, 114, 121] ∧ ¬ bHalt.toList = [101, 110, 100] ∧ ¬ bHalt.toList = [116, 97, 107, 101] ∧ ¬ bHalt.toList = [99, 108, 111, 115, 117, 114, 101] ∧ ¬ bHalt.toList = [114, 101, 116, 117, 114, 110] := by decide +kernel
theorem tConst : ¬ bConst.toList = [116, 114, 121] ∧ ¬ bConst.toList = [101, 110, 100] ∧ ¬ bConst.toList = [116, 97, 107, 101] ∧ ¬ bConst.toList = [99, 108, 111, 115, 117, 114, 101] ∧ ¬ bConst.toList = [104, 97, 108, 116] ∧ ¬ bConst.toList = [114, 101, 116, 117, 114, 110] := by decide +kernel
theorem tRet : ¬ bRet.toList = [116, 114, 121] ∧ ¬ bRet.toList = [101, 110, 100] ∧ ¬ bRet.toList = [116, 97, 107, 101] ∧ ¬ bRet.toList = [99, 108, 111, 115, 117, 114, 101] ∧ ¬ bRet.toList = [104, 97, 108, 116] := by decide +kernel
theorem first_straight (m : Nat) : Straight (fun j => if j = m then bHalt else bStep) (fun _ => 0) (fun _ => 0) (fun _ => 0) (fun _ => 0) (m + 1) where
  go j hj := by
    have e : ¬ j = m := by omega
    refine ⟨⟨?_, by decide, by decide, by decide, by decide, by decide, by decide, ?_, ?_⟩, by decide, by decide⟩
    · simp only [if_neg e]; exact nStep
    · simp only [if_neg e]; exact tStep.1
    · simp only [if_neg e]; exact tStep.2.1
  stop := by
    rw [Nat.add_sub_cancel]
    refine ⟨?_, by decide, by decide, by decide, by decide, by decide, by decide, ?_, ?_⟩
    · simp only [if_true]; exact nHalt
    · simp only [if_true]; exact tHalt.1
    · simp only [if_true]; exact tHalt.2.1
  start := rfl
  pos := by omega
theorem rest_straight : Straight restN (fun j => if j = 0 then 0 else 1) (fun j => if j = 0 then 1 else 0) (fun j => if j = 0 then 0 else 1) (fun j => if j = 0 then 1 else 0) 2 where
  go j hj := by
    obtain rfl : j = 0 := by omega
    exact ⟨⟨nConst, by decide, by decide, by decide, by decide, by decide, by decide, tConst.1, tConst.2.1⟩, by decide, by decide⟩
  stop := ⟨nRet, by decide, by decide, by decide, by decide, by decide, by decide, tRet.1, tRet.2.1⟩
  start := rfl
  pos := by omega
theorem first_names (m j : Nat) : OkName 0 ((fun j => if j = m then bHalt else bStep) j) := by
  by_cases e : j = m
  · simp only [if_pos e]
    exact ⟨0, 0, 0, true, nHalt, .inl rfl, tHalt.2.2.1, tHalt.2.2.2.1, fun _ => rfl, fun h => absurd h tHalt.2.2.2.2⟩
  · simp only [if_neg e]
    exact ⟨0, 0, 0, false, nStep, .inl rfl, tStep.2.2.1, tStep.2.2.2.1, fun h => absurd h tStep.2.2.2.2.1, fun h => absurd h tStep.2.2.2.2.2⟩
theorem rest_names (i j : Nat) (hi : i ≠ 0) : OkName i (restN j) := by
  unfold restN
  by_cases e : j = 0
  · rw [if_pos e]
    exact ⟨1, 0, 1, false, nConst, .inr rfl, tConst.2.2.1, tConst.2.2.2.1, fun h => absurd h tConst.2.2.2.2.1, fun h => absurd h tConst.2.2.2.2.2⟩
  · rw [if_neg e]
    exact ⟨0, 1, 0, true, nRet, .inl rfl, tRet.2.2.1, tRet.2.2.2.1, fun h => absurd h tRet.2.2.2.2, fun _ => hi⟩
theorem coded_any (a : Nat → Addr) (k : Nat) (hk : k < 7) (w : World) (E : Errs a w) :
    Calls Tryd.prog 12 #[errV a k, .int .i64 (k + 1)] w fun ev w' => ev = .returned (.bool true) ∧ Below w.heap.size w w' := by
  have h := code_sent a k hk w E
  go_enter Tryd.func12, Tryd.ntmps12
  unfold errV
  go_wp2_with fail
  refine h.mono ?_
  rintro ev w1 ⟨rfl, hb⟩
  go_wp2
  go_ret
  exact ⟨rfl, hb⟩
theorem coded_zero (w : World) : Calls Tryd.prog 12 #[.nilIface, .int .i64 0] w fun ev w' => ev = .returned (.bool true) ∧ w' = w := by
  have h := code_nil w
  go_enter Tryd.func12, Tryd.ntmps12
  go_wp2_with fail
  refine h.mono ?_
  rintro ev w1 ⟨rfl, hq⟩
  rw [hq]
  clear hq w1
  go_wp2
  go_ret
  exact ⟨rfl, rfl⟩
/-- How code is being made: k Funcs stand. -/
structure FS (w1 : World) (q0 : Nat) (x1 x3 : Value) (k : Nat) (vF : Value) (ob L : Nat → Nat) (nm : Nat → Nat → ByteArray) (w : World) : Prop where
  below : Below w1.heap.size w1 w
  lo : w1.heap.size ≤ q0
  code : w.heap[q0]? = some (.cells #[vF, x1, .slice none 0 0, x3] 32)
  row : w.ownsRow w1.heap.size 39 6 vF k (funcsV (fun i => .slice (some ⟨ob i, 0, none⟩) (L i) (L i)) k)
  apart : vF.ownBlock ≠ some q0
  ops : ∀ i, i < k → OpsRow w (ob i) (L i) (nm i) ∧ ob i ≠ q0 ∧ vF.ownBlock ≠ some (ob i)
theorem FS.codeAt {w1 : World} {q0 : Nat} {x1 x3 : Value} {k : Nat} {vF : Value} {ob L : Nat → Nat} {nm : Nat → Nat → ByteArray} {w : World} (F : FS w1 q0 x1 x3 k vF ob L nm w) (hk : 0 < k) (hL : ∀ i, i < k → L i ≤ 200000) : ∃ g cap, vF = .slice (some ⟨g, 0, none⟩) k cap ∧ CodeAt w g 0 k ob (fun _ => 0) L L nm := by
  rcases F.row.2 with ⟨_, h0⟩ | ⟨g, cap, cur, rfl, hb, hg, hc, _, hs, ht⟩
  · omega
  · have hcell : ∀ i, i < k → ∀ j, j < 6 → ∀ v, (funcV (.slice (some ⟨ob i, 0, none⟩) (L i) (L i)))[j]? = some v → w.cell? ⟨g, 0 + i * 6 + j, none⟩ = some v := fun i hi j hj v hv => by
      have e := (funcsV_at (fun i => .slice (some ⟨ob i, 0, none⟩) (L i) (L i)) hi j hj).trans hv
      rw [← ht, List.getElem?_take] at e
      split at e
      · rw [Nat.zero_add, cell_of_row _ _ _ _ _ _ hg, ← Array.getElem?_toList]
        exact e
      · cases e
    refine ⟨g, cap, rfl, ⟨fun i hi => ⟨hcell i hi 0 (by omega) _ rfl, hcell i hi 1 (by omega) _ rfl, hcell i hi 2 (by omega) _ rfl, hcell i hi 3 (by omega) _ rfl, hcell i hi 4 (by omega) _ rfl, hcell i hi 5 (by omega) _ rfl⟩, fun i hi => (F.ops i hi).1.at, fun i hi => ?_, hL⟩⟩
    obtain ⟨co, h1, _⟩ := (F.ops i hi).1
    exact lt_of_heap h1
theorem funcV_one (b n c : Nat) : ∀ u ∈ funcV (.slice (some ⟨b, 0, none⟩) n c), u.oneCell' = true := fun u hu => by
  simp only [funcV, List.mem_cons, List.not_mem_nil, or_false] at hu
  rcases hu with rfl | rfl | rfl | rfl | rfl | rfl <;> rfl
theorem OpsRow.same {w w' : World} {b n : Nat} {nm : Nat → ByteArray} (h : OpsRow w b n nm) (he : w'.heap[b]? = w.heap[b]?) : OpsRow w' b n nm := by
  obtain ⟨co, h1, h2⟩ := h
  exact ⟨co, he.trans h1, h2⟩
/-- One more Func: its row was appended. -/
theorem FS.next {w1 : World} {q0 : Nat} {x1 x3 : Value} {k : Nat} {vF vF' : Value} {ob L : Nat → Nat} {nm : Nat → Nat → ByteArray} {w wb w' : World} (F : FS w1 q0 x1 x3 k vF ob L nm w) (hb : Below w.heap.size w wb) (b l : Nat) (nn : Nat → ByteArray) (hO : OpsRow wb b l nn) (hb0 : b ≠ q0) (hbv : vF.ownBlock ≠ some b) (hg : wb.grownBy w' vF.ownBlock) (ho : w'.ownsRow w1.heap.size 39 6 vF' (k + 1) (funcsV (fun i => .slice (some ⟨ob i, 0, none⟩) (L i) (L i)) k ++ funcV (.slice (some ⟨b, 0, none⟩) l l))) (ha : ∀ g, vF'.ownBlock = some g → vF.ownBlock = some g ∨ wb.heap.size ≤ g) :
    w'.heap[q0]? = w.heap[q0]? ∧ FS w1 q0 x1 x3 (k + 1) vF' (fun i => if i = k then b else ob i) (fun i => if i = k then l else L i) (fun i => if i = k then nn else nm i) (w'.setCell ⟨q0, 0, none⟩ vF') := by
  obtain ⟨h1, h2, h3, h4, h5, h6⟩ := F
  have hz := hb.size
  have f : ∀ g, g < wb.heap.size → vF.ownBlock ≠ some g → w'.heap[g]? = wb.heap[g]? := fun g hl hn => hg.block g hl (fun e => hn e.symm)
  have l0 := lt_of_heap h3
  have e0 : w'.heap[q0]? = w.heap[q0]? := (f q0 (by omega) h5).trans (hb.block q0 l0)
  have hbl : Below w1.heap.size w1 w' := ⟨hg.os.trans (hb.os.trans h1.os), hg.tape.trans (hb.tape.trans h1.tape), hg.output.trans (hb.output.trans h1.output), by have := hg.size; have := h1.size; omega, fun g hk => (f g (by have := h1.size; omega) (fun e => by have := (own_lt2 h4 g e).1; omega)).trans ((hb.block g (by have := h1.size; omega)).trans (h1.block g hk))⟩
  have hap : ∀ g, g < wb.heap.size → vF.ownBlock ≠ some g → vF'.ownBlock ≠ some g := fun g hl hn e => by
    rcases ha g e with h | h
    · exact hn h
    · omega
  have a0 := hap q0 (by omega) h5
  refine ⟨e0, hbl.setCell h2 _, h2, (heap_set_same (e0.trans h3)).trans rfl, ?_, a0, fun i hi => ?_⟩
  · rw [funcsV_succ, funcsV_congr (sl' := fun i => .slice (some ⟨ob i, 0, none⟩) (L i) (L i)) fun i hi => by simp [Nat.ne_of_lt hi]]
    simp only [if_true]
    exact ownsRow_far' ho (fun g hg' => heap_set _ _ _ _ _ (fun e => a0 (by rw [← e]; exact hg')))
  · by_cases e : i = k
    · subst e
      simp only [if_true]
      obtain ⟨co, c1, _⟩ := id hO
      exact ⟨hO.same ((heap_set _ _ _ _ _ hb0).trans (f b (lt_of_heap c1) hbv)), hb0, hap b (lt_of_heap c1) hbv⟩
    · simp only [if_neg e]
      obtain ⟨g1, g2, g3⟩ := h6 i (by omega)
      obtain ⟨co, c1, _⟩ := id g1
      have := lt_of_heap c1
      exact ⟨g1.same ((heap_set _ _ _ _ _ g2).trans ((f _ (by omega) g3).trans (hb.block _ this))), g2, hap _ (by omega) g3⟩
set_option maxHeartbeats 8000000 in
set_option maxRecDepth 100000 in
theorem codeWide_near (a : Nat → Addr) (oN fN iN nN : Nat) (o1 : 1 ≤ oN) (o2 : oN ≤ 25000) (f1 : 1 ≤ fN) (f2 : fN ≤ 500) (i2 : iN ≤ 2500) (n2 : nN ≤ 2500) (w : World) (E : Errs a w) (kh : Calls Tryd.prog 5 #[] w fun ev w' => ev = .returned (.bool true) ∧ Below w.heap.size w w') :
    Calls Tryd.prog 4 #[.int .i64 (oN : Int), .int .i64 (fN : Int), .int .i64 (iN : Int), .int .i64 (nN : Int)] w fun ev w' => ev = .returned (.bool true) ∧ Below w.heap.size w w' := by
  obtain ⟨i64, h64, z64, s64, b64⟩ : ∃ i, Tryd.prog.info? 2 = some i ∧ i.zero = some (.int .i64 0) ∧ i.size = 1 ∧ i.bytes = 8 := by
    refine ⟨(Tryd.prog.info? 2).get (by kernel_rfl), (Option.some_get _).symm, ?_, ?_, ?_⟩ <;> kernel_rfl
  obtain ⟨iS, hS, zS, sS, bS⟩ : ∃ i, Tryd.prog.info? 9 = some i ∧ i.zero = some (.string ⟨#[]⟩) ∧ i.size = 1 ∧ i.bytes = 16 := by
    refine ⟨(Tryd.prog.info? 9).get (by kernel_rfl), (Option.some_get _).symm, ?_, ?_, ?_⟩ <;> kernel_rfl
  obtain ⟨iO, hO, zO, sO, bO⟩ : ∃ i, Tryd.prog.info? 41 = some i ∧ i.zero = some (.agg #[.string ⟨#[]⟩, .int .i64 0]) ∧ i.size = 2 ∧ i.bytes = 24 := by
    refine ⟨(Tryd.prog.info? 41).get (by kernel_rfl), (Option.some_get _).symm, ?_, ?_, ?_⟩ <;> kernel_rfl
  obtain ⟨iF, hF, zF, sF, bF⟩ : ∃ i, Tryd.prog.info? 39 = some i ∧ i.zero = some (.agg #[.string ⟨#[]⟩, .int .i64 0, .int .i64 0, .int .i64 0, .int .i64 0, .slice none 0 0]) ∧ i.size = 6 ∧ i.bytes = 72 := by
    refine ⟨(Tryd.prog.info? 39).get (by kernel_rfl), (Option.some_get _).symm, ?_, ?_, ?_⟩ <;> kernel_rfl
  obtain ⟨cI, _, _, mI⟩ := make_some 23 2 Tryd.underlying23 i64 h64 _ z64 (by omega) iN (by omega)
  obtain ⟨cS, _, _, mS⟩ := make_some 24 9 Tryd.underlying24 iS hS _ zS (by omega) nN (by omega)
  obtain ⟨cO, sO2, gO, mO⟩ := make_some 37 41 Tryd.underlying37 iO hO _ zO (by omega) oN (by omega)
  have g1 : ¬ (oN : Int) < 1 := by omega
  have g2 : ¬ 25000 < (oN : Int) := by omega
  have g3 : ¬ (fN : Int) < 1 := by omega
  have g4 : ¬ 500 < (fN : Int) := by omega
  have g5 : ¬ (iN : Int) < 0 := by omega
  have g6 : ¬ 2500 < (iN : Int) := by omega
  have g7 : ¬ (nN : Int) < 0 := by omega
  have g8 : ¬ 2500 < (nN : Int) := by omega
  have HE := toHid E
  have HGO := toHid gO
  clear E gO
  go_enter Tryd.func4, Tryd.ntmps4
  go_wp2_with fail
  refine kh.mono ?_
  rintro ev w1 ⟨rfl, hb1⟩
  clear kh
  go_upto_region 6 with fail
  go_cut [10] from 49 to 53 (fun v10 wx => ∃ q aI aN, v10 = .pointer (some ⟨q, 0, none⟩) ∧ w1.heap.size ≤ q ∧ wx.heap[q]? = some (.cells #[.slice none 0 0, .slice aI iN iN, .slice none 0 0, .slice aN nN nN] 32) ∧ Below w1.heap.size w1 wx)
  case first =>
    go_region
    all_goals go_wp2_with fail
    all_goals go_meet
    all_goals (first | exact ⟨_, _, _, rfl, by omega, (three_made w1 _ _ _).2.2.1, (three_made w1 _ _ _).2.2.2.drew⟩ | exact ⟨_, _, _, rfl, by omega, (three_made w1 _ _ _).2.1, (three_made w1 _ _ _).2.2.2.drew⟩ | exact ⟨_, _, _, rfl, by omega, (three_made w1 _ _ _).1, (three_made w1 _ _ _).2.2.2.drew⟩)
  case rest =>
    obtain ⟨q0, aI, aN, rfl, l0, h0, hb2⟩ := hcut
    obtain ⟨w2, hw2⟩ : ∃ w2, w2 = wc := ⟨_, rfl⟩
    subst hw2
    go_wp2_with fail
    obtain ⟨k1, k2, k3⟩ := two_made w2 (.cells cO 41) (.cells #[.string ⟨#[]⟩, .int .i64 0, .int .i64 0, .int .i64 0, .int .i64 0, .slice (some ⟨w2.heap.size, 0, none⟩) oN oN] 39)
    obtain ⟨w3, hw3⟩ : ∃ w3, w3 = (w2.alloc (.cells cO 41)).alloc (.cells #[.string ⟨#[]⟩, .int .i64 0, .int .i64 0, .int .i64 0, .int .i64 0, .slice (some ⟨w2.heap.size, 0, none⟩) oN oN] 39) := ⟨_, rfl⟩
    rw [← hw3] at k1 k2 k3 ⊢
    have h03 := (k3.block q0 (lt_of_heap h0)).trans h0
    obtain ⟨qo, hqo⟩ : ∃ qo, qo = w2.heap.size := ⟨_, rfl⟩
    rw [← hqo] at k1 k2 ⊢
    obtain ⟨qf, hqf⟩ : ∃ qf, qf = qo + 1 := ⟨_, rfl⟩
    rw [← hqf] at k2 ⊢
    have HNE : Hid (q0 < qo ∧ qo < qf ∧ w1.heap.size ≤ qo) := by have := lt_of_heap h0; have := hb2.size; show _ ∧ _ ∧ _; omega
    have HR : Hid (OpsRow w3 qo oN (fun j => if j < 0 then bStep else ⟨#[]⟩)) := ⟨cO, k1, by rw [sO2, sO], fun j hj => by rw [HGO.out, sO]; exact made_ops oN j hj⟩
    have HB3 : Hid (Below w1.heap.size w1 w3) := hb2.trans (k3.mono hb2.size)
    have HQ : Hid (w3.heap[qf]? = some (.cells #[.string ⟨#[]⟩, .int .i64 0, .int .i64 0, .int .i64 0, .int .i64 0, .slice (some ⟨qo, 0, none⟩) oN oN] 39) ∧ w3.heap[q0]? = some (.cells #[.slice none 0 0, .slice aI iN iN, .slice none 0 0, .slice aN nN nN] 32)) := ⟨k2, h03⟩
    have HL0 := toHid l0
    clear hw3 k1 k2 k3 h0 h03 hqo hqf hb2 mI mS mO l0
    go_loopg [12] (oN + 1) (fun gk v12 wr => ∃ i : Nat, gk = oN + 1 - i ∧ i ≤ oN ∧ v12 = .int .i64 (i : Int) ∧ Hid (OpsRow wr qo oN (fun j => if j < i then bStep else ⟨#[]⟩)) ∧ Hid (wr.heap[qf]? = some (.cells #[.string ⟨#[]⟩, .int .i64 0, .int .i64 0, .int .i64 0, .int .i64 0, .slice (some ⟨qo, 0, none⟩) oN oN] 39) ∧ wr.heap[q0]? = some (.cells #[.slice none 0 0, .slice aI iN iN, .slice none 0 0, .slice aN nN nN] 32)) ∧ Hid (Below w1.heap.size w1 wr))
    case atStart => exact ⟨0, rfl, Nat.zero_le _, rfl, HR, HQ, HB3⟩
    case round =>
      obtain ⟨i, hgk, hi, rfl, HRi, HQi, HBi⟩ := hrel
      have HG := toHid hgk
      clear hgk HR HQ HB3
      have f5 : wr.cell? ⟨qf, 5, none⟩ = some (.slice (some ⟨qo, 0, none⟩) oN oN) := (cell_of_row _ _ 5 _ _ _ HQi.out.1).trans rfl
      by_cases hlt : i < oN
      · have hJ : (i : Int) < (oN : Int) := by omega
        have hJ0 : (0 : Int) ≤ (i : Int) := by omega
        obtain ⟨x0, x1⟩ := HRi.out.cell i hlt
        have HN : Hid (OpsRow (wr.setCell ⟨qo, i * 2, none⟩ (.string bStep)) qo oN (fun j => if j < i + 1 then bStep else ⟨#[]⟩)) := (HRi.out.set i bStep).congr fun j hj => by
          by_cases e : j = i
          · rw [if_pos e, if_pos (by omega)]
          · rw [if_neg e]
            by_cases l : j < i
            · rw [if_pos l, if_pos (by omega)]
            · rw [if_neg l, if_neg (by omega)]
        have HQn : Hid ((wr.setCell ⟨qo, i * 2, none⟩ (.string bStep)).heap[qf]? = some (.cells #[.string ⟨#[]⟩, .int .i64 0, .int .i64 0, .int .i64 0, .int .i64 0, .slice (some ⟨qo, 0, none⟩) oN oN] 39) ∧ (wr.setCell ⟨qo, i * 2, none⟩ (.string bStep)).heap[q0]? = some (.cells #[.slice none 0 0, .slice aI iN iN, .slice none 0 0, .slice aN nN nN] 32)) := ⟨(heap_set _ _ _ _ _ (by have := HNE.out; omega)).trans HQi.out.1, (heap_set _ _ _ _ _ (by have := HNE.out; omega)).trans HQi.out.2⟩
        have HBn : Hid (Below w1.heap.size w1 (wr.setCell ⟨qo, i * 2, none⟩ (.string bStep))) := HBi.out.setCell HNE.out.2.2 _
        generalize (if i < i then bStep else ⟨#[]⟩ : ByteArray) = old at *
        go_wp2_with fail
        go_roundg (oN + 1 - (i + 1))
        case measure => have := HG.out; omega
        case rel => exact ⟨i + 1, rfl, by omega, by go_num, HN, HQn, HBn⟩
      · obtain rfl : i = oN := by omega
        obtain ⟨m, hm⟩ : ∃ m : Nat, m + 1 = i := ⟨i - 1, by omega⟩
        have em : IntKind.i64.wrap ((i : Int) - 1) = (m : Int) := by rw [wrapI _ (by omega) (by omega)]; omega
        have hM : (m : Int) < (i : Int) := by omega
        have hM0 : (0 : Int) ≤ (m : Int) := by omega
        obtain ⟨x0, x1⟩ := HRi.out.cell m (by omega)
        generalize (if m < i then bStep else ⟨#[]⟩ : ByteArray) = old at *
        go_upto_region 13 with fail
        obtain ⟨w4, hw4⟩ : ∃ w4, w4 = wr.setCell ⟨qo, m * 2, none⟩ (.string ⟨#[104, 97, 108, 116]⟩) := ⟨_, rfl⟩
        rw [← hw4]
        have HR4 : Hid (OpsRow w4 qo i (fun j => if j = m then bHalt else bStep)) := by
          rw [hw4]
          exact (HRi.out.set m bHalt).congr fun j hj => by
            by_cases e : j = m
            · rw [if_pos e, if_pos e]
            · rw [if_neg e, if_neg e, if_pos hj]
        have q4f : w4.heap[qf]? = some (.cells #[.string ⟨#[]⟩, .int .i64 0, .int .i64 0, .int .i64 0, .int .i64 0, .slice (some ⟨qo, 0, none⟩) i i] 39) := by rw [hw4]; exact (heap_set _ _ _ _ _ (by have := HNE.out; omega)).trans HQi.out.1
        have q40 : w4.heap[q0]? = some (.cells #[.slice none 0 0, .slice aI iN iN, .slice none 0 0, .slice aN nN nN] 32) := by rw [hw4]; exact (heap_set _ _ _ _ _ (by have := HNE.out; omega)).trans HQi.out.2
        have B4 : Below w1.heap.size w1 w4 := by rw [hw4]; exact HBi.out.setCell HNE.out.2.2 _
        have HFS : Hid (FS w1 q0 (.slice aI iN iN) (.slice aN nN nN) 0 (.slice none 0 0) (fun _ => 0) (fun _ => 0) (fun _ _ => bStep) w4) := ⟨B4, HL0.out, q40, ⟨rfl, .inl ⟨rfl, rfl⟩⟩, by simp [Value.ownBlock], fun j hj => by omega⟩
        have y0 : w4.cell? ⟨q0, 0, none⟩ = some (.slice none 0 0) := (cell_of_row _ _ 0 _ _ _ q40).trans rfl
        have y1 : w4.frozen? ⟨q0, 0, none⟩ = false := by simp [World.frozen?, q40]
        have z0 : w4.cell? ⟨qf, 0, none⟩ = some (.string ⟨#[]⟩) := (cell_of_row _ _ 0 _ _ _ q4f).trans rfl
        have z1 : w4.cell? ⟨qf, 1, none⟩ = some (.int .i64 0) := (cell_of_row _ _ 1 _ _ _ q4f).trans rfl
        have z2 : w4.cell? ⟨qf, 2, none⟩ = some (.int .i64 0) := (cell_of_row _ _ 2 _ _ _ q4f).trans rfl
        have z3 : w4.cell? ⟨qf, 3, none⟩ = some (.int .i64 0) := (cell_of_row _ _ 3 _ _ _ q4f).trans rfl
        have z4 : w4.cell? ⟨qf, 4, none⟩ = some (.int .i64 0) := (cell_of_row _ _ 4 _ _ _ q4f).trans rfl
        have z5 : w4.cell? ⟨qf, 5, none⟩ = some (.slice (some ⟨qo, 0, none⟩) i i) := (cell_of_row _ _ 5 _ _ _ q4f).trans rfl
        have hbr4 : Below w4.heap.size w4 (w4.alloc (.cells #[.string ⟨#[]⟩, .int .i64 0, .int .i64 0, .int .i64 0, .int .i64 0, .slice (some ⟨qo, 0, none⟩) i i] 39)) := (Below.refl _ _).alloc (Nat.le_refl _) _
        have HBR4 := toHid hbr4
        have HRA : Hid (OpsRow (w4.alloc (.cells #[.string ⟨#[]⟩, .int .i64 0, .int .i64 0, .int .i64 0, .int .i64 0, .slice (some ⟨qo, 0, none⟩) i i] 39)) qo i (fun j => if j = m then bHalt else bStep)) := HR4.out.same (by obtain ⟨_, c1, _⟩ := HR4.out; exact hbr4.block qo (lt_of_heap c1))
        have HS4 : Hid (w1.heap.size ≤ w4.heap.size) := B4.size
        have HQ0 : Hid (q0 < w4.heap.size) := lt_of_heap q40
        have HNQ : Hid (qo ≠ q0) := by have := HNE.out; show _ ≠ _; omega
        clear hw4 q4f q40 B4 hbr4 f5 x0 x1 HRi HQi HBi HR4 em hM hM0
        go_wp2_with (at_builtin; refine wpList_append_lies _ rfl _ _ _ rfl w1.heap.size 39 iF _ 6 72 Tryd.underlying30 hF zF sF bF rfl (by decide) (.slice none 0 0) 0 [] rfl ⟨rfl, .inl ⟨rfl, rfl⟩⟩ ⟨w4.heap.size, 0, none⟩ 1 1 (funcV (.slice (some ⟨qo, 0, none⟩) i i)) rfl rfl (World.news_of_block (cs := #[.string ⟨#[]⟩, .int .i64 0, .int .i64 0, .int .i64 0, .int .i64 0, .slice (some ⟨qo, 0, none⟩) i i]) (t := 39) (heap_alloc_new _ _)) (funcV_one _ _ _) (by decide) (by unfold maxLen; omega) (by omega) (by have := HS4.out; simp; omega) _ rfl ?_; intro g' cap' w5 hown5 hgrow5 hat5 hlt5; obtain ⟨e0, hF5⟩ := HFS.out.next HBR4.out qo i _ HRA.out HNQ.out (by simp [Value.ownBlock]) hgrow5 hown5 (fun q hq => by cases hq; exact hat5.imp id (fun h => by rw [h]; exact Nat.le_refl _)); have t0 := (World.cell?_of_block (a := ⟨q0, 0, none⟩) e0).trans y0; have tf := (World.frozen?_of_block (a := ⟨q0, 0, none⟩) e0).trans y1; have HF5 := toHid hF5; clear hown5 hgrow5 hat5 e0 hF5 y0 y1 z0 z1 z2 z3 z4 z5)
        have HGF : Hid (∀ j, j < 1 → (j = 0 → (fun j => if j = 0 then i else 0) j = i ∧ (fun j => if j = 0 then (fun j => if j = m then bHalt else bStep) else fun _ => bStep) j = fun j => if j = m then bHalt else bStep) ∧ (j ≠ 0 → (fun j => if j = 0 then i else 0) j = 2 ∧ (fun j => if j = 0 then (fun j => if j = m then bHalt else bStep) else fun _ => bStep) j = restN)) := fun j hj => ⟨fun e => by subst e; exact ⟨rfl, rfl⟩, fun e => absurd (by omega) e⟩
        go_loopg [13] fN (fun gk v13 wr => ∃ (k : Nat) (vF : Value) (ob L : Nat → Nat) (nm : Nat → Nat → ByteArray), gk = fN + 1 - k ∧ 1 ≤ k ∧ k ≤ fN ∧ v13 = .int .i64 (k : Int) ∧ Hid (FS w1 q0 (.slice aI iN iN) (.slice aN nN nN) k vF ob L nm wr) ∧ Hid (∀ j, j < k → (j = 0 → L j = i ∧ nm j = fun j => if j = m then bHalt else bStep) ∧ (j ≠ 0 → L j = 2 ∧ nm j = restN)))
        case atStart => exact ⟨1, _, _, _, _, by omega, by omega, f1, rfl, HF5, HGF⟩
        case round =>
          obtain ⟨k, vF, ob, L, nm, hgk, hk1, hkf, rfl, HF, HGd⟩ := hrel
          have HG := toHid hgk
          clear hgk HF5 HGF HFS HRA HBR4
          by_cases hlt : k < fN
          · have hJ : (k : Int) < (fN : Int) := by omega
            obtain ⟨av, cv, rfl⟩ := own_slice HF.out.row
            have y0 : wr.cell? ⟨q0, 0, none⟩ = some (.slice av k cv) := (cell_of_row _ _ 0 _ _ _ HF.out.code).trans rfl
            have y1 : wr.frozen? ⟨q0, 0, none⟩ = false := by simp [World.frozen?, HF.out.code]
            obtain ⟨k1, _, k3⟩ := two_made wr (.cells #[.string ⟨#[99, 111, 110, 115, 116]⟩, .int .i64 0, .string ⟨#[114, 101, 116, 117, 114, 110]⟩, .int .i64 0] 41) (.cells #[.string ⟨#[]⟩, .int .i64 0, .int .i64 0, .int .i64 0, .int .i64 0, .slice (some ⟨wr.heap.size, 0, none⟩) 2 2] 39)
            have lq : q0 < wr.heap.size := lt_of_cell y0
            have HO2 : Hid (OpsRow ((wr.alloc (.cells #[.string ⟨#[99, 111, 110, 115, 116]⟩, .int .i64 0, .string ⟨#[114, 101, 116, 117, 114, 110]⟩, .int .i64 0] 41)).alloc (.cells #[.string ⟨#[]⟩, .int .i64 0, .int .i64 0, .int .i64 0, .int .i64 0, .slice (some ⟨wr.heap.size, 0, none⟩) 2 2] 39)) wr.heap.size 2 restN) := ⟨_, k1, rfl, fun j hj => by
              match j, hj with
              | 0, _ => exact ⟨rfl, rfl⟩
              | 1, _ => exact ⟨rfl, rfl⟩⟩
            have HB2 := toHid k3
            have HRW : Hid (((wr.alloc (.cells #[.string ⟨#[99, 111, 110, 115, 116]⟩, .int .i64 0, .string ⟨#[114, 101, 116, 117, 114, 110]⟩, .int .i64 0] 41)).alloc (.cells #[.string ⟨#[]⟩, .int .i64 0, .int .i64 0, .int .i64 0, .int .i64 0, .slice (some ⟨wr.heap.size, 0, none⟩) 2 2] 39)).ownsRow w1.heap.size 39 6 (.slice av k cv) k (funcsV (fun i => .slice (some ⟨ob i, 0, none⟩) (L i) (L i)) k)) := ownsRow_far' HF.out.row (fun g hg => k3.block g (own_lt2 HF.out.row g hg).2)
            have HSZ : Hid (w1.heap.size ≤ wr.heap.size) := HF.out.below.size
            have HNV : Hid ((Value.slice av k cv).ownBlock ≠ some wr.heap.size) := fun e => by have := (own_lt2 HF.out.row _ e).2; omega
            have HQ1 : Hid (wr.heap.size ≠ q0) := by show _ ≠ _; omega
            clear k1 k3
            go_wp2_with (at_builtin; refine wpList_append_lies _ rfl _ _ _ rfl w1.heap.size 39 iF _ 6 72 Tryd.underlying30 hF zF sF bF rfl (by decide) (.slice av k cv) k _ rfl HRW.out ⟨wr.heap.size + 1, 0, none⟩ 1 1 (funcV (.slice (some ⟨wr.heap.size, 0, none⟩) 2 2)) rfl rfl (World.news_of_block (cs := #[.string ⟨#[]⟩, .int .i64 0, .int .i64 0, .int .i64 0, .int .i64 0, .slice (some ⟨wr.heap.size, 0, none⟩) 2 2]) (t := 39) (two_made wr (.cells #[.string ⟨#[99, 111, 110, 115, 116]⟩, .int .i64 0, .string ⟨#[114, 101, 116, 117, 114, 110]⟩, .int .i64 0] 41) (.cells #[.string ⟨#[]⟩, .int .i64 0, .int .i64 0, .int .i64 0, .int .i64 0, .slice (some ⟨wr.heap.size, 0, none⟩) 2 2] 39)).2.1) (funcV_one _ _ _) (by decide) (by unfold maxLen; omega) (by omega) (by have := HSZ.out; simp; omega) _ rfl ?_; intro g' cap' w5 hown5 hgrow5 hat5 hlt5; obtain ⟨e0, hF5⟩ := HF.out.next HB2.out wr.heap.size 2 _ HO2.out HQ1.out HNV.out hgrow5 hown5 (fun q hq => by cases hq; exact hat5.imp id (fun h => by rw [h]; exact Nat.le_refl _)); have t0 := (World.cell?_of_block (a := ⟨q0, 0, none⟩) e0).trans y0; have tf := (World.frozen?_of_block (a := ⟨q0, 0, none⟩) e0).trans y1; have HF5 := toHid hF5; clear hown5 hgrow5 hat5 e0 hF5 y0 y1)
            go_roundg (fN + 1 - (k + 1))
            case measure => have := HG.out; omega
            case rel => exact ⟨k + 1, _, _, _, _, rfl, by omega, hlt, by go_num, HF5, fun j hj => by
              by_cases e : j = k
              · subst e
                exact ⟨fun e0 => by omega, fun _ => ⟨if_pos rfl, if_pos rfl⟩⟩
              · have := HGd.out j (by omega)
                simp only [if_neg e]
                exact this⟩
          · obtain rfl : k = fN := by omega
            have hsum : sumL L k = i + 2 * (k - 1) := sumL_two (fun j hj => ⟨fun e => ((HGd.out j hj).1 e).1, fun e => ((HGd.out j hj).2 e).1⟩) hk1
            have hLe : ∀ j, j < k → L j ≤ 200000 := fun j hj => by
              by_cases e : j = 0
              · have := ((HGd.out j hj).1 e).1; omega
              · have := ((HGd.out j hj).2 e).1; omega
            obtain ⟨g, cap, rfl, hCA⟩ := HF.out.codeAt (by omega) hLe
            have HBr : Hid (Below w.heap.size w wr) := hb1.trans (HF.out.below.mono hb1.size)
            have c0 := (cell_of_row _ _ 0 _ _ _ HF.out.code).trans (show #[Value.slice (some ⟨g, 0, none⟩) k cap, .slice aI iN iN, .slice none 0 0, .slice aN nN nN][0]? = some (.slice (some ⟨g, 0, none⟩) k cap) from rfl)
            have c1 := (cell_of_row _ _ 1 _ _ _ HF.out.code).trans (show #[Value.slice (some ⟨g, 0, none⟩) k cap, .slice aI iN iN, .slice none 0 0, .slice aN nN nN][1]? = some (.slice aI iN iN) from rfl)
            have c2 := (cell_of_row _ _ 2 _ _ _ HF.out.code).trans (show #[Value.slice (some ⟨g, 0, none⟩) k cap, .slice aI iN iN, .slice none 0 0, .slice aN nN nN][2]? = some (.slice none 0 0) from rfl)
            have c3 := (cell_of_row _ _ 3 _ _ _ HF.out.code).trans (show #[Value.slice (some ⟨g, 0, none⟩) k cap, .slice aI iN iN, .slice none 0 0, .slice aN nN nN][3]? = some (.slice aN nN nN) from rfl)
            obtain ⟨kk, hkk⟩ : ∃ kk : Nat, kk + 1 = k := ⟨k - 1, by omega⟩
            have e1 : IntKind.i64.wrap ((k : Int) - 1) = (kk : Int) := by rw [wrapI _ (by omega) (by omega)]; omega
            obtain ⟨k2, hk2⟩ : ∃ k2 : Nat, k2 = 2 * kk := ⟨_, rfl⟩
            have e2 : IntKind.i64.wrap (2 * (kk : Int)) = (k2 : Int) := by rw [wrapI _ (by omega) (by omega)]; omega
            obtain ⟨tot, htot⟩ : ∃ tot : Nat, tot = i + k2 := ⟨_, rfl⟩
            have e3 : IntKind.i64.wrap ((i : Int) + (k2 : Int)) = (tot : Int) := by rw [wrapI _ (by omega) (by omega)]; omega
            have hsum2 : sumL L k = tot := by rw [hsum]; omega
            have HCA := toHid hCA
            clear hCA hsum hk2 htot
            by_cases hbig : 20000 < tot ∨ 400 < k ∨ 2000 < iN ∨ 2000 < nN
            · have kv := verify_big a g 0 k cap ob (fun _ => 0) L L nm aI aN iN nN iN nN (by omega) (by rw [hsum2]; exact hbig) wr (HE.out.below HBr.out) HCA.out
              clear hsum2 hkk
              by_cases b1 : 20000 < (tot : Int)
              · go_wp2_with fail
                refine kv.mono ?_
                rintro ev w6 ⟨rfl, hb6⟩
                have hb06 := HBr.out.trans (hb6.mono HBr.out.size)
                go_wp2_with fail
                refine (coded_any a 1 (by decide) w6 (HE.out.below hb06)).mono ?_
                rintro ev w7 ⟨rfl, hb7⟩
                go_wp2_with fail
                go_ret
                exact ⟨rfl, hb06.trans (hb7.mono hb06.size)⟩
              · by_cases b2 : 400 < (k : Int)
                · go_wp2_with fail
                  refine kv.mono ?_
                  rintro ev w6 ⟨rfl, hb6⟩
                  have hb06 := HBr.out.trans (hb6.mono HBr.out.size)
                  go_wp2_with fail
                  refine (coded_any a 1 (by decide) w6 (HE.out.below hb06)).mono ?_
                  rintro ev w7 ⟨rfl, hb7⟩
                  go_wp2_with fail
                  go_ret
                  exact ⟨rfl, hb06.trans (hb7.mono hb06.size)⟩
                · by_cases b3 : 2000 < (iN : Int)
                  · go_wp2_with fail
                    refine kv.mono ?_
                    rintro ev w6 ⟨rfl, hb6⟩
                    have hb06 := HBr.out.trans (hb6.mono HBr.out.size)
                    go_wp2_with fail
                    refine (coded_any a 1 (by decide) w6 (HE.out.below hb06)).mono ?_
                    rintro ev w7 ⟨rfl, hb7⟩
                    go_wp2_with fail
                    go_ret
                    exact ⟨rfl, hb06.trans (hb7.mono hb06.size)⟩
                  · have b4 : 2000 < (nN : Int) := by omega
                    go_wp2_with fail
                    refine kv.mono ?_
                    rintro ev w6 ⟨rfl, hb6⟩
                    have hb06 := HBr.out.trans (hb6.mono HBr.out.size)
                    go_wp2_with fail
                    refine (coded_any a 1 (by decide) w6 (HE.out.below hb06)).mono ?_
                    rintro ev w7 ⟨rfl, hb7⟩
                    go_wp2_with fail
                    go_ret
                    exact ⟨rfl, hb06.trans (hb7.mono hb06.size)⟩
            · have kv := verify_ok g 0 k cap ob (fun _ => 0) L L nm (fun i j => if i = 0 then 0 else if j = 0 then 0 else 1) (fun i j => if i = 0 then 0 else if j = 0 then 1 else 0) (fun i j => if i = 0 then 0 else if j = 0 then 0 else 1) (fun i j => if i = 0 then 0 else if j = 0 then 1 else 0) aI aN iN nN iN nN (by omega) (by omega) (by omega) (by omega) (by omega) (fun j hj => by
                by_cases e : j = 0
                · obtain ⟨g1, g2⟩ := (HGd.out j hj).1 e
                  rw [g1, g2, ← hm]
                  simp only [if_pos e]
                  exact first_straight m
                · obtain ⟨g1, g2⟩ := (HGd.out j hj).2 e
                  rw [g1, g2]
                  simp only [if_neg e]
                  exact rest_straight) (fun j hj l hl => by
                by_cases e : j = 0
                · obtain ⟨g1, g2⟩ := (HGd.out j hj).1 e
                  rw [g2, e]
                  exact first_names m l
                · obtain ⟨g1, g2⟩ := (HGd.out j hj).2 e
                  rw [g2]
                  exact rest_names j l e) wr HCA.out
              have b1 : ¬ 20000 < (tot : Int) := by omega
              have b2 : ¬ 400 < (k : Int) := by omega
              have b3 : ¬ 2000 < (iN : Int) := by omega
              have b4 : ¬ 2000 < (nN : Int) := by omega
              clear hsum2 hkk
              go_wp2_with fail
              refine kv.mono ?_
              rintro ev w6 ⟨rfl, hb6⟩
              have hb06 := HBr.out.trans (hb6.mono HBr.out.size)
              go_wp2_with fail
              refine (coded_zero w6).mono ?_
              rintro ev w7 ⟨rfl, hq⟩
              rw [hq]
              clear hq w7
              go_wp2_with fail
              go_ret
              exact ⟨rfl, hb06⟩
end Go.Proofs.YtgpfjlejmcdpmaaDoor
