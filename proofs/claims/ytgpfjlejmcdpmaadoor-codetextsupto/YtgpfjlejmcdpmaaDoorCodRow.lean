/- Code that is handed in, read out of memory; no greater than what comes in. -/
import Derived.Test.YtgpfjlejmcdpmaaDoorRows
import Derived.Test.YtgpfjlejmcdpmaaDoorCodTB
import Derived.Deep.Fields
import Derived.Deep.Strs
import Derived.ChangeSlices
import Derived.ChangeArms
import Derived.Lib.SmallJoins
namespace Go.Proofs.YtgpfjlejmcdpmaaDoor
open Go.RowKit Go.ChangeShapes Go.WideShapes Go.Deep Go.Joins

theorem cellsS9 : Tryd.prog.cellsOf 9 = 1 := by kernel_rfl
theorem cellsI : Tryd.prog.cellsOf 3 = 1 := by kernel_rfl
theorem cellsI64 : Tryd.prog.cellsOf 2 = 1 := by kernel_rfl
theorem cellsROp : Tryd.prog.cellsOf 65 = 2 := by kernel_rfl
theorem cellsRFunc : Tryd.prog.cellsOf 49 = 6 := by kernel_rfl
theorem cellsRCode : Tryd.prog.cellsOf 26 = 4 := by kernel_rfl
theorem cellsROps : Tryd.prog.cellsOf 47 = 1 := by kernel_rfl
theorem cellsRFuncs : Tryd.prog.cellsOf 22 = 1 := by kernel_rfl
theorem cellsI64s : Tryd.prog.cellsOf 23 = 1 := by kernel_rfl
theorem cellsStrs : Tryd.prog.cellsOf 24 = 1 := by kernel_rfl
/-- No place is a map. -/
def NM (ps : List MemPlace) : Prop := ∀ p ∈ ps, ∀ bb, p ≠ .map bb
theorem nm_nil : NM [] := fun p hp => by cases hp
theorem nm_app {a b : List MemPlace} (ha : NM a) (hb : NM b) : NM (a ++ b) := fun p hp => (List.mem_append.1 hp).elim (ha p) (hb p)
theorem nm_row (a : Addr) (n : Nat) : NM (MemPlace.row a n) := fun p hp bb e => by
  obtain ⟨j, _, rfl⟩ := MemPlace.mem_row.1 hp
  cases e
theorem nm_flat {n : Nat} {f : Nat → List MemPlace} (h : ∀ i, i < n → NM (f i)) : NM ((List.range n).flatMap f) := fun p hp bb e => by
  obtain ⟨i, hi, h2⟩ := List.mem_flatMap.1 hp
  exact h i (List.mem_range.1 hi) p h2 bb e
theorem wf64 {n : Int} (h : (Lit.int .i64 n).wf = true) : I64 n := by
  simp only [Lit.wf, Bool.and_eq_true, decide_eq_true_eq] at h
  have e1 : IntKind.i64.min = -9223372036854775808 := by decide
  have e2 : IntKind.i64.max = 9223372036854775807 := by decide
  unfold I64
  omega
/-! Bulks. -/
theorem bulk_pos {H : Type} (d : DataW H) : 1 ≤ Rows.uptoBulk d := by
  cases d with
  | lit l => cases l <;> simp [Rows.uptoBulk]
  | _ => simp [Rows.uptoBulk]
theorem bulk_mem {H : Type} {d : DataW H} : ∀ {l : List (DataW H)}, d ∈ l → Rows.uptoBulk d ≤ Rows.uptoBulkAll l
  | x :: r, h => by
    rw [Rows.uptoBulkAll]
    rcases List.mem_cons.1 h with rfl | h
    · omega
    · have := bulk_mem h
      omega
theorem bulk_len {H : Type} : ∀ l : List (DataW H), l.length ≤ Rows.uptoBulkAll l
  | [] => by simp
  | x :: r => by
    rw [Rows.uptoBulkAll, List.length_cons]
    have := bulk_pos x
    have := bulk_len r
    omega
/-- A slice's elements: how many, and each. -/
theorem bulk_slice {H : Type} {n B : Nat} {D : Nat → DataW H} {sp : List (DataW H)} (h : Rows.uptoBulk (.slice ((List.range n).map D) sp) ≤ B) : n ≤ B ∧ ∀ i, i < n → Rows.uptoBulk (D i) ≤ B := by
  rw [Rows.uptoBulk] at h
  have h1 := bulk_len ((List.range n).map D)
  rw [List.length_map, List.length_range] at h1
  refine ⟨by omega, fun i hi => ?_⟩
  have := bulk_mem (l := (List.range n).map D) (List.mem_map.2 ⟨i, List.mem_range.2 hi, rfl⟩)
  omega
theorem bulk_agg {H : Type} {l : List (DataW H)} {B : Nat} (h : Rows.uptoBulk (.agg l) ≤ B) : ∀ d ∈ l, Rows.uptoBulk d ≤ B := fun d hd => by
  rw [Rows.uptoBulk] at h
  have := bulk_mem hd
  omega
theorem bulk_str {H : Type} {s : ByteArray} {B : Nat} (h : Rows.uptoBulk (.lit (.string s.data.toList) : DataW H) ≤ B) : s.size ≤ B := by
  rw [Rows.uptoBulk, len_size] at h
  omega
section
variable {H : Type} {enc : TypeId × Value → H} {W : World} {base : Nat} {sp : Nat → Bool} {held : Bool} {fuel : Nat}
theorem trod_struct6 {P : Program} {t : TypeId} {f0 f1 f2 f3 f4 f5 : Field} {cs : List Value} {x : DataW H × List MemPlace} (ht : P.underlying t = some (.struct #[f0, f1, f2, f3, f4, f5])) (h : DataW.trod enc P W base sp held fuel t cs = some x) :
    ∃ y0 y1 y2 y3 y4 y5 n, x = (.agg [y0.1, y1.1, y2.1, y3.1, y4.1, y5.1], y0.2 ++ (y1.2 ++ (y2.2 ++ (y3.2 ++ (y4.2 ++ y5.2))))) ∧ cs.length = P.cellsOf t ∧ DataW.trod enc P W base sp held n f0.type ((cs.drop f0.offset).take (P.cellsOf f0.type)) = some y0 ∧
      DataW.trod enc P W base sp held n f1.type ((cs.drop f1.offset).take (P.cellsOf f1.type)) = some y1 ∧ DataW.trod enc P W base sp held n f2.type ((cs.drop f2.offset).take (P.cellsOf f2.type)) = some y2 ∧
      DataW.trod enc P W base sp held n f3.type ((cs.drop f3.offset).take (P.cellsOf f3.type)) = some y3 ∧ DataW.trod enc P W base sp held n f4.type ((cs.drop f4.offset).take (P.cellsOf f4.type)) = some y4 ∧
      DataW.trod enc P W base sp held n f5.type ((cs.drop f5.offset).take (P.cellsOf f5.type)) = some y5 := by
  obtain ⟨xs, n, _, rfl, hl, hlen, hf⟩ := DataW.trod_struct ht h
  match xs, hlen with
  | [y0, y1, y2, y3, y4, y5], _ => exact ⟨y0, y1, y2, y3, y4, y5, n, by simp, hl, by simpa using hf 0 f0 rfl, by simpa using hf 1 f1 rfl, by simpa using hf 2 f2 rfl, by simpa using hf 3 f3 rfl, by simpa using hf 4 f4 rfl, by simpa using hf 5 f5 rfl⟩
theorem addr_plain {a : Addr} {v : Value} (h : W.cell? (a.add 0) = some v) : ∃ b o, a = ⟨b, o, none⟩ := by
  obtain ⟨b, o, spot⟩ := a
  have hspot : spot = none := by simpa [Addr.add] using World.cell?_spot h
  subst hspot
  exact ⟨b, o, rfl⟩
set_option maxRecDepth 100000 in
theorem open_ops {cs : List Value} {y : DataW H × List MemPlace} {B : Nat} (h : DataW.trod enc Tryd.prog W base sp held fuel 47 cs = some y) (hb : Rows.uptoBulk y.1 ≤ B) :
    ∃ (oa : Option Addr) (n oc : Nat) (nm : Nat → ByteArray) (ar : Nat → Int), cs = [.slice oa n oc] ∧ n ≤ B ∧ (∀ j, j < n → ∃ ob oo, oa = some ⟨ob, oo, none⟩ ∧ W.cell? ⟨ob, oo + j * 2, none⟩ = some (.string (nm j)) ∧ W.cell? ⟨ob, oo + j * 2 + 1, none⟩ = some (.int .i64 (ar j))) ∧ (∀ j, j < n → I64 (ar j) ∧ (nm j).size ≤ B) ∧ NM y.2 := by
  rcases open_slice Tryd.underlying47 h with ⟨rfl, rfl⟩ | ⟨a, len, cap, m, n, D, Pl, rfl, _, hl, _, hmm, rfl, hx⟩
  · exact ⟨none, 0, 0, fun _ => ⟨#[]⟩, fun _ => 0, rfl, Nat.zero_le _, fun j hj => absurd hj (by omega), fun j hj => absurd hj (by omega), nm_nil⟩
  have hlm : len ≤ m := by rw [hmm]; split <;> omega
  obtain ⟨hn, hbi⟩ := bulk_slice hb
  rw [cellsROp] at hx
  have each : ∀ i, i < m → ∃ z : ByteArray × Int, W.cell? (a.add (i * 2)) = some (.string z.1) ∧ W.cell? (a.add (i * 2 + 1)) = some (.int .i64 z.2) ∧ I64 z.2 ∧ D i = .agg [.lit (.string z.1.data.toList), .lit (.int .i64 z.2)] ∧ Pl i = [] := by
    intro i hi
    obtain ⟨cs', h1, h2⟩ := hx i hi
    obtain ⟨_, hlen, hcell⟩ := World.cells?_some h1
    obtain ⟨y0, y1, k, hxy, _, g0, g1⟩ := trod_struct2 Tryd.underlying65 h2
    match cs', hlen with
    | [v0, v1], _ =>
      simp [cellsS9, cellsI] at g0 g1
      obtain ⟨s0, q0, r0, _⟩ := DataW.trod_string Tryd.underlying9 g0
      obtain ⟨z1, q1, r1, w1⟩ := DataW.trod_int Tryd.underlying3 g1
      simp only [List.cons.injEq, and_true] at q0 q1
      subst q0 q1
      have e0 := hcell 0 (by omega)
      have e1 := hcell 1 (by omega)
      rw [add_add] at e0 e1
      simp only [Prod.mk.injEq] at hxy
      refine ⟨(s0, z1), by simpa using e0, by simpa using e1, wf64 w1, ?_, ?_⟩
      · rw [hxy.1, r0, r1]
      · rw [hxy.2, r0, r1]
        rfl
  obtain ⟨f, hf⟩ := choose_lt each
  refine ⟨some a, len, cap, fun j => (f j).1, fun j => (f j).2, rfl, hn, fun j hj => ?_, fun j hj => ?_, nm_app (nm_row _ _) (nm_flat fun i hi => by rw [(hf i hi).2.2.2.2]; exact nm_nil)⟩
  · obtain ⟨c0, c1, _⟩ := hf j (by omega)
    have c00 := (hf 0 (by omega)).1
    rw [Nat.zero_mul] at c00
    obtain ⟨b, o, rfl⟩ := addr_plain c00
    rw [add_plain] at c0 c1
    exact ⟨b, o, rfl, c0, by rw [Nat.add_assoc]; exact c1⟩
  · obtain ⟨_, _, c2, c3, _⟩ := hf j (by omega)
    refine ⟨c2, ?_⟩
    have := hbi j hj
    rw [c3] at this
    exact bulk_str (bulk_agg this _ List.mem_cons_self)
set_option maxRecDepth 100000 in
theorem open_strsR {cs : List Value} {y : DataW H × List MemPlace} {B : Nat} (h : DataW.trod enc Tryd.prog W base sp held fuel 24 cs = some y) (hb : Rows.uptoBulk y.1 ≤ B) :
    ∃ (oa : Option Addr) (n oc : Nat) (ss : Nat → ByteArray), cs = [.slice oa n oc] ∧ n ≤ B ∧ RowIn W oa n (fun i => .string (ss i)) ∧ (∀ j, j < n → (ss j).size ≤ B) ∧ NM y.2 := by
  rcases open_strs Tryd.underlying24 Tryd.underlying9 cellsS9 h with ⟨rfl, rfl⟩ | ⟨a, len, cap, m, Sx, rfl, _, hl, _, hmm, rfl, hx⟩
  · exact ⟨none, 0, 0, fun _ => ⟨#[]⟩, rfl, Nat.zero_le _, fun j hj => absurd hj (by omega), fun j hj => absurd hj (by omega), nm_nil⟩
  have hlm : len ≤ m := by rw [hmm]; split <;> omega
  obtain ⟨hn, hbi⟩ := bulk_slice hb
  refine ⟨some a, len, cap, Sx, rfl, hn, fun j hj => ?_, fun j hj => bulk_str (hbi j hj), nm_row _ _⟩
  have c0 := (hx j (by omega)).1
  obtain ⟨b, o, rfl⟩ := addr_plain (hx 0 (by omega)).1
  rw [add_plain] at c0
  exact ⟨b, o, rfl, c0⟩
set_option maxRecDepth 100000 in
theorem open_i64s {cs : List Value} {y : DataW H × List MemPlace} {B : Nat} (h : DataW.trod enc Tryd.prog W base sp held fuel 23 cs = some y) (hb : Rows.uptoBulk y.1 ≤ B) :
    ∃ (oa : Option Addr) (n oc : Nat) (xs : Nat → Int), cs = [.slice oa n oc] ∧ n ≤ B ∧ RowIn W oa n (fun i => .int .i64 (xs i)) ∧ (∀ j, j < n → I64 (xs j)) ∧ NM y.2 := by
  rcases open_slice Tryd.underlying23 h with ⟨rfl, rfl⟩ | ⟨a, len, cap, m, n, D, Pl, rfl, _, hl, _, hmm, rfl, hx⟩
  · exact ⟨none, 0, 0, fun _ => 0, rfl, Nat.zero_le _, fun j hj => absurd hj (by omega), fun j hj => absurd hj (by omega), nm_nil⟩
  have hlm : len ≤ m := by rw [hmm]; split <;> omega
  obtain ⟨hn, _⟩ := bulk_slice hb
  rw [cellsI64] at hx
  have each : ∀ i, i < m → ∃ z : Int, W.cell? (a.add i) = some (.int .i64 z) ∧ I64 z ∧ Pl i = [] := by
    intro i hi
    obtain ⟨cs', h1, h2⟩ := hx i hi
    obtain ⟨_, hlen, hcell⟩ := World.cells?_some h1
    obtain ⟨z, rfl, hz, hwf⟩ := DataW.trod_int Tryd.underlying2 h2
    have e0 := hcell 0 (by omega)
    rw [add_add] at e0
    simp only [Prod.mk.injEq] at hz
    exact ⟨z, by simpa using e0, wf64 hwf, hz.2⟩
  obtain ⟨f, hf⟩ := choose_lt each
  refine ⟨some a, len, cap, f, rfl, hn, fun j hj => ?_, fun j hj => (hf j (by omega)).2.1, nm_app (nm_row _ _) (nm_flat fun i hi => by rw [(hf i hi).2.2]; exact nm_nil)⟩
  have c0 := (hf j (by omega)).1
  obtain ⟨b, o, rfl⟩ := addr_plain (hf 0 (by omega)).1
  rw [add_plain] at c0
  exact ⟨b, o, rfl, c0⟩
def noFD : FD := ⟨⟨#[]⟩, 0, 0, 0, 0, 0, fun _ => ⟨#[]⟩, fun _ => 0⟩
/-- A Func that is handed in: six cells from an address on. -/
structure FuncOf (W : World) (a : Addr) (d : FD) (oa : Option Addr) (oc : Nat) (B : Nat) : Prop where
  c0 : W.cell? (a.add 0) = some (.string d.name)
  c1 : W.cell? (a.add 1) = some (.int .i64 d.p)
  c2 : W.cell? (a.add 2) = some (.int .i64 d.l)
  c3 : W.cell? (a.add 3) = some (.int .i64 d.c)
  c4 : W.cell? (a.add 4) = some (.int .i64 d.f)
  c5 : W.cell? (a.add 5) = some (.slice oa d.n oc)
  ops : ∀ j, j < d.n → ∃ ob oo, oa = some ⟨ob, oo, none⟩ ∧ W.cell? ⟨ob, oo + j * 2, none⟩ = some (.string (d.nm j)) ∧ W.cell? ⟨ob, oo + j * 2 + 1, none⟩ = some (.int .i64 (d.ar j))
  n : d.n ≤ B
  nm : d.name.size ≤ B
  i : I64 d.p ∧ I64 d.l ∧ I64 d.c ∧ I64 d.f
  args : ∀ j, j < d.n → I64 (d.ar j) ∧ (d.nm j).size ≤ B
set_option maxRecDepth 100000 in
theorem open_func {a : Addr} {cs : List Value} {y : DataW H × List MemPlace} {B : Nat} (hcs : W.cells? base a 6 = some cs) (h : DataW.trod enc Tryd.prog W base sp held fuel 49 cs = some y) :
    NM y.2 ∧ (Rows.uptoBulk y.1 ≤ B → ∃ d oa oc, FuncOf W a d oa oc B) := by
  obtain ⟨_, hlen, hcell⟩ := World.cells?_some hcs
  obtain ⟨y0, y1, y2, y3, y4, y5, k, hxy, _, g0, g1, g2, g3, g4, g5⟩ := trod_struct6 Tryd.underlying49 h
  match cs, hlen with
  | [v0, v1, v2, v3, v4, v5], _ =>
    simp [cellsS9, cellsI, cellsROps] at g0 g1 g2 g3 g4 g5
    obtain ⟨s0, q0, r0, _⟩ := DataW.trod_string Tryd.underlying9 g0
    obtain ⟨z1, q1, r1, w1⟩ := DataW.trod_int Tryd.underlying3 g1
    obtain ⟨z2, q2, r2, w2⟩ := DataW.trod_int Tryd.underlying3 g2
    obtain ⟨z3, q3, r3, w3⟩ := DataW.trod_int Tryd.underlying3 g3
    obtain ⟨z4, q4, r4, w4⟩ := DataW.trod_int Tryd.underlying3 g4
    simp only [List.cons.injEq, and_true] at q0 q1 q2 q3 q4
    subst q0 q1 q2 q3 q4 r0 r1 r2 r3 r4
    subst hxy
    refine ⟨?_, fun hb => ?_⟩
    · obtain ⟨_, _, _, _, _, _, _, _, _, hN⟩ := open_ops g5 (Nat.le_refl _)
      exact nm_app nm_nil (nm_app nm_nil (nm_app nm_nil (nm_app nm_nil (nm_app nm_nil hN))))
    · have hba := bulk_agg hb
      obtain ⟨oa, n, oc, nm, ar, q5, hn, hops, hfew, _⟩ := open_ops g5 (hba _ (by simp))
      simp only [List.cons.injEq, and_true] at q5
      subst q5
      exact ⟨⟨s0, z1, z2, z3, z4, n, nm, ar⟩, oa, oc, ⟨by simpa using hcell 0 (by omega), by simpa using hcell 1 (by omega), by simpa using hcell 2 (by omega), by simpa using hcell 3 (by omega), by simpa using hcell 4 (by omega), by simpa using hcell 5 (by omega), hops, hn, bulk_str (hba _ (by simp)), ⟨wf64 w1, wf64 w2, wf64 w3, wf64 w4⟩, hfew⟩⟩
set_option maxRecDepth 100000 in
theorem open_funcs {cs : List Value} {y : DataW H × List MemPlace} {B : Nat} (h : DataW.trod enc Tryd.prog W base sp held fuel 22 cs = some y) (hb : Rows.uptoBulk y.1 ≤ B) :
    ∃ (oa : Option Addr) (n oc : Nat) (fs : Nat → FD), cs = [.slice oa n oc] ∧ n ≤ B ∧ (∀ i, i < n → ∃ b o fa fc, oa = some ⟨b, o, none⟩ ∧ FuncIn W b o i (fs i) fa fc) ∧ (∀ i, i < n → (fs i).n ≤ B ∧ (fs i).name.size ≤ B) ∧ (∀ i, i < n → I64 (fs i).p ∧ I64 (fs i).l ∧ I64 (fs i).c ∧ I64 (fs i).f) ∧ (∀ i, i < n → ∀ j, j < (fs i).n → I64 ((fs i).ar j) ∧ ((fs i).nm j).size ≤ B) ∧ NM y.2 := by
  rcases open_slice Tryd.underlying22 h with ⟨rfl, rfl⟩ | ⟨a, len, cap, m, n, D, Pl, rfl, _, hl, _, hmm, rfl, hx⟩
  · exact ⟨none, 0, 0, fun _ => noFD, rfl, Nat.zero_le _, fun j hj => absurd hj (by omega), fun j hj => absurd hj (by omega), fun j hj => absurd hj (by omega), fun j hj => absurd hj (by omega), nm_nil⟩
  have hlm : len ≤ m := by rw [hmm]; split <;> omega
  obtain ⟨hn, hbi⟩ := bulk_slice hb
  rw [cellsRFunc] at hx
  have hN : ∀ i, i < m → NM (Pl i) := fun i hi => by
    obtain ⟨cs', h1, h2⟩ := hx i hi
    exact (open_func (B := 0) h1 h2).1
  have each : ∀ i, i < len → ∃ d : FD, ∃ oa oc, FuncOf W (a.add (i * 6)) d oa oc B := fun i hi => by
    obtain ⟨cs', h1, h2⟩ := hx i (by omega)
    exact (open_func h1 h2).2 (hbi i hi)
  obtain ⟨f, hf⟩ := @choose_lt FD ⟨noFD⟩ len _ each
  refine ⟨some a, len, cap, f, rfl, hn, fun i hi => ?_, fun i hi => ?_, fun i hi => ?_, fun i hi => ?_, nm_app (nm_row _ _) (nm_flat hN)⟩
  · obtain ⟨oa, oc, F⟩ := hf i hi
    have k00 := (hf 0 (by omega))
    obtain ⟨_, _, F0⟩ := k00
    have c00 := F0.c0
    rw [Nat.zero_mul] at c00
    have e00 : W.cell? (a.add 0) = some (.string (f 0).name) := by
      have := c00
      rw [add_add] at this
      exact this
    obtain ⟨b, o, rfl⟩ := addr_plain e00
    have k0 := F.c0
    have k1 := F.c1
    have k2 := F.c2
    have k3 := F.c3
    have k4 := F.c4
    have k5 := F.c5
    simp only [add_plain, Nat.add_zero] at k0 k1 k2 k3 k4 k5
    exact ⟨b, o, oa, oc, rfl, k0, k1, k2, k3, k4, k5, F.ops⟩
  · obtain ⟨oa, oc, F⟩ := hf i hi
    exact ⟨F.n, F.nm⟩
  · obtain ⟨oa, oc, F⟩ := hf i hi
    exact F.i
  · obtain ⟨oa, oc, F⟩ := hf i hi
    exact F.args
set_option maxRecDepth 100000 in
/-- Code that is handed in. -/
theorem open_code {r : Reach} {b0 : Nat} {v : Value} {d : DataW H} {ps : List MemPlace} (hval : Value.okWide Tryd.prog W r b0 26 v) (h : DataW.Trod enc Tryd.prog W base sp held 26 v d ps) (hb : Rows.uptoBulk d ≤ 1048576) :
    ∃ (c : CD) (aF aI aS aN : Option Addr) (cF cI cS cN : Nat), v = .agg #[.slice aF c.nF cF, .slice aI c.nI cI, .slice aS c.nS cS, .slice aN c.nN cN] ∧ CodeIn W c aF aI aS aN ∧ c.Few ∧ NM ps := by
  obtain ⟨cs, rfl, hsz⟩ := okWide_struct Tryd.underlying26 hval
  rw [cellsRCode] at hsz
  obtain ⟨c0, c1, c2, c3, rfl⟩ := array4 hsz
  obtain ⟨fuel, hf⟩ := h
  obtain ⟨y0, y1, y2, y3, n, hx, _, g0, g1, g2, g3⟩ := trod_struct4 Tryd.underlying26 hf
  simp [cellsRFuncs, cellsI64s, cellsStrs, Value.cells] at g0 g1 g2 g3
  simp only [Prod.mk.injEq] at hx
  obtain ⟨rfl, rfl⟩ := hx
  have hba := bulk_agg hb
  obtain ⟨aF, nF, cF, fs, q0, b0, F0, F1, F2, F3, n0⟩ := open_funcs g0 (hba _ (by simp))
  obtain ⟨aI, nI, cI, xs, q1, b1, I0, I1, n1⟩ := open_i64s g1 (hba _ (by simp))
  obtain ⟨aS, nS, cS, ss, q2, b2, S0, S1, n2⟩ := open_strsR g2 (hba _ (by simp))
  obtain ⟨aN, nN, cN, ns, q3, b3, N0, N1, n3⟩ := open_strsR g3 (hba _ (by simp))
  simp only [List.cons.injEq, and_true] at q0 q1 q2 q3
  subst q0 q1 q2 q3
  exact ⟨⟨nF, fs, nI, xs, nS, ss, nN, ns⟩, aF, aI, aS, aN, cF, cI, cS, cN, rfl, ⟨F0, I0, S0, N0⟩, ⟨b0, b1, b2, b3, F1, F2, F3, I1, S1, N1⟩, nm_app n0 (nm_app n1 (nm_app n2 n3))⟩
end
end Go.Proofs.YtgpfjlejmcdpmaaDoor
