/- Package code: what a code's text is; code in memory; the shapes of any name. -/
import Derived.Test.YtgpfjlejmcdpmaaDoorCodP
namespace Go.Proofs.YtgpfjlejmcdpmaaDoor
open Go.RowKit

/-- The shape of a name, by the list of shapes. -/
def shapeFind (s : List UInt8) : List (List UInt8 × (Int × Int × Int × Int × Int × Bool)) → (Int × Int × Int × Int × Int × Bool) → (Int × Int × Int × Int × Int × Bool)
  | [], z => z
  | p :: r, z => shapeFind s r (if p.1 = s then p.2 else z)
def encT (x : Int × Int × Int × Int × Int × Bool) : DataW Unit := encS x.1 x.2.1 x.2.2.1 x.2.2.2.1 x.2.2.2.2.1 x.2.2.2.2.2
theorem atKey_fold (s : List UInt8) (z0 : DataW Unit) : ∀ (L : List (List UInt8 × (Int × Int × Int × Int × Int × Bool))) (D : DataW Unit) (z : Int × Int × Int × Int × Int × Bool), Maps.IsMap D → D.atKey (.string s) z0 = encT z →
    (L.foldl (fun D p => D.put (.string p.1) (encS p.2.1 p.2.2.1 p.2.2.2.1 p.2.2.2.2.1 p.2.2.2.2.2.1 p.2.2.2.2.2.2)) D).atKey (.string s) z0 = encT (shapeFind s L z)
  | [], D, z, _, h => h
  | p :: r, D, z, hD, h => by
    rw [List.foldl_cons]
    refine atKey_fold s z0 r _ _ (Maps.IsMap.put hD _ _) ?_
    by_cases e : p.1 = s
    · rw [if_pos e, e, Maps.atKey_put_same hD (by trivial)]
      rfl
    · rw [if_neg e, Maps.atKey_put_other (fun x => e (by cases x; rfl))]
      exact h
def shapeOf (s : ByteArray) : Int × Int × Int × Int × Int × Bool := shapeFind s.data.toList shapeL (0, 0, 0, 0, 0, false)
theorem shape_at (s : ByteArray) : shapeD.atKey (.string s.data.toList) (encS 0 0 0 0 0 false) = encT (shapeOf s) := atKey_fold _ _ _ _ _ ⟨[], rfl⟩ rfl
theorem look_shape {bm : Nat} {w : World} (h : Known bm w) (s : ByteArray) (hs : s.size ≤ maxLen) :
    ∃ t p e f st, (Instr.lookup 54 (.map (some bm)) (.string s) false).run Tryd.prog w = .ok (.agg #[.int .i64 (shapeOf s).1, .int .i64 t, .int .i64 p, .int .i64 e, .int .i64 f, .bool st]) w :=
  ⟨_, _, _, _, _, (look_any h s hs _ _ _ _ _ _ (shape_at s)).1⟩
def hasA (s : ByteArray) : Bool := !((shapeOf s).1 == 0)

/-- What comes of the first n. -/
def upto (f : Nat → List UInt8) : Nat → List UInt8
  | 0 => []
  | n + 1 => upto f n ++ f n
theorem upto_le (f : Nat → List UInt8) {n m : Nat} (h : n ≤ m) : (upto f n).length ≤ (upto f m).length := by
  induction h with
  | refl => exact Nat.le_refl _
  | step _ ih => simp only [upto, List.length_append]; omega
theorem upto_lt (f : Nat → List UInt8) {n m : Nat} (h : n < m) : (upto f n).length + (f n).length ≤ (upto f m).length := by
  have := upto_le f h
  simp only [upto, List.length_append] at this
  omega
/-- A function's data. -/
structure FD where
  name : ByteArray
  p : Int
  l : Int
  c : Int
  f : Int
  n : Nat
  nm : Nat → ByteArray
  ar : Nat → Int
/-- A code's data. -/
structure CD where
  nF : Nat
  fs : Nat → FD
  nI : Nat
  xs : Nat → Int
  nS : Nat
  ss : Nat → ByteArray
  nN : Nat
  ns : Nat → ByteArray
def headB (i : Nat) (d : FD) : List UInt8 := spaced [⟨#[102, 117, 110, 99]⟩, decB (i : Int), dashB d.name, decB d.p, decB d.l, decB d.c, decB d.f] ++ [10]
def opB (k : Nat) (s : ByteArray) (a : Int) : List UInt8 := [32, 32] ++ (spaced (if hasA s then [decB (k : Int), s, decB a] else [decB (k : Int), s]) ++ [10])
def funcB (i : Nat) (d : FD) : List UInt8 := headB i d ++ upto (fun k => opB k (d.nm k) (d.ar k)) d.n
def intB (i : Nat) (x : Int) : List UInt8 := spaced [⟨#[105, 110, 116]⟩, decB (i : Int), decB x] ++ [10]
def nameB (i : Nat) (s : ByteArray) : List UInt8 := spaced [⟨#[110, 97, 109, 101]⟩, decB (i : Int), dashB s] ++ [10]
def strB (qt : ByteArray → ByteArray) (i : Nat) (s : ByteArray) : List UInt8 := spaced [⟨#[115, 116, 114]⟩, decB (i : Int), qt s] ++ [10]
def partF (d : CD) : List UInt8 := upto (fun i => funcB i (d.fs i)) d.nF
def partI (d : CD) : List UInt8 := upto (fun i => intB i (d.xs i)) d.nI
def partS (qt : ByteArray → ByteArray) (d : CD) : List UInt8 := upto (fun i => strB qt i (d.ss i)) d.nS
def partN (d : CD) : List UInt8 := upto (fun i => nameB i (d.ns i)) d.nN
/-- The text of code. -/
def codeB (qt : ByteArray → ByteArray) (d : CD) : List UInt8 := partF d ++ partI d ++ partS qt d ++ partN d

def I64 (x : Int) : Prop := -9223372036854775808 ≤ x ∧ x ≤ 9223372036854775807
/-- A function in memory: its cells, and its ops. -/
structure FuncIn (w : World) (b o i : Nat) (d : FD) (oa : Option Addr) (oc : Nat) : Prop where
  c0 : w.cell? ⟨b, o + i * 6, none⟩ = some (.string d.name)
  c1 : w.cell? ⟨b, o + i * 6 + 1, none⟩ = some (.int .i64 d.p)
  c2 : w.cell? ⟨b, o + i * 6 + 2, none⟩ = some (.int .i64 d.l)
  c3 : w.cell? ⟨b, o + i * 6 + 3, none⟩ = some (.int .i64 d.c)
  c4 : w.cell? ⟨b, o + i * 6 + 4, none⟩ = some (.int .i64 d.f)
  c5 : w.cell? ⟨b, o + i * 6 + 5, none⟩ = some (.slice oa d.n oc)
  op : ∀ j, j < d.n → ∃ ob oo, oa = some ⟨ob, oo, none⟩ ∧ w.cell? ⟨ob, oo + j * 2, none⟩ = some (.string (d.nm j)) ∧ w.cell? ⟨ob, oo + j * 2 + 1, none⟩ = some (.int .i64 (d.ar j))
theorem FuncIn.below {w w' : World} {b o i : Nat} {d : FD} {oa : Option Addr} {oc : Nat} (h : FuncIn w b o i d oa oc) (hb : Below w.heap.size w w') : FuncIn w' b o i d oa oc := by
  have k := fun (p : Addr) (v : Value) (e : w.cell? p = some v) => (hb.cell (p := p) (lt_of_cell e)).trans e
  exact ⟨k _ _ h.c0, k _ _ h.c1, k _ _ h.c2, k _ _ h.c3, k _ _ h.c4, k _ _ h.c5, fun j hj => by
    obtain ⟨ob, oo, e, x, y⟩ := h.op j hj
    exact ⟨ob, oo, e, k _ _ x, k _ _ y⟩⟩
/-- A row of one cell each. -/
def RowIn (w : World) (a : Option Addr) (n : Nat) (v : Nat → Value) : Prop := ∀ i, i < n → ∃ b o, a = some ⟨b, o, none⟩ ∧ w.cell? ⟨b, o + i, none⟩ = some (v i)
theorem RowIn.below {w w' : World} {a : Option Addr} {n : Nat} {v : Nat → Value} (h : RowIn w a n v) (hb : Below w.heap.size w w') : RowIn w' a n v := fun i hi => by
  obtain ⟨b, o, e, x⟩ := h i hi
  exact ⟨b, o, e, (hb.cell (p := ⟨b, o + i, none⟩) (lt_of_cell x)).trans x⟩
/-- Code in memory. -/
structure CodeIn (w : World) (d : CD) (aF aI aS aN : Option Addr) : Prop where
  func : ∀ i, i < d.nF → ∃ b o oa oc, aF = some ⟨b, o, none⟩ ∧ FuncIn w b o i (d.fs i) oa oc
  ints : RowIn w aI d.nI fun i => .int .i64 (d.xs i)
  strs : RowIn w aS d.nS fun i => .string (d.ss i)
  names : RowIn w aN d.nN fun i => .string (d.ns i)
theorem CodeIn.below {w w' : World} {d : CD} {aF aI aS aN : Option Addr} (h : CodeIn w d aF aI aS aN) (hb : Below w.heap.size w w') : CodeIn w' d aF aI aS aN :=
  ⟨fun i hi => by
    obtain ⟨b, o, oa, oc, e, x⟩ := h.func i hi
    exact ⟨b, o, oa, oc, e, x.below hb⟩, h.ints.below hb, h.strs.below hb, h.names.below hb⟩
/-- No number too wide, no name too long. -/
structure CD.Fits (d : CD) : Prop where
  nF : d.nF ≤ 100000000000
  nI : d.nI ≤ 100000000000
  nS : d.nS ≤ 100000000000
  nN : d.nN ≤ 100000000000
  ops : ∀ i, i < d.nF → (d.fs i).n ≤ 100000000000
  nums : ∀ i, i < d.nF → I64 (d.fs i).p ∧ I64 (d.fs i).l ∧ I64 (d.fs i).c ∧ I64 (d.fs i).f
  args : ∀ i, i < d.nF → ∀ j, j < (d.fs i).n → I64 ((d.fs i).ar j)
  ints : ∀ i, i < d.nI → I64 (d.xs i)
  fname : ∀ i, i < d.nF → (d.fs i).name.size ≤ 1000000000000
  oname : ∀ i, i < d.nF → ∀ j, j < (d.fs i).n → ((d.fs i).nm j).size ≤ 1000000000000
  names : ∀ i, i < d.nN → (d.ns i).size ≤ 1000000000000
theorem dash_size (s : ByteArray) (h : s.size ≤ 1000000000000) : (dashB s).size ≤ 1000000000000 := by
  unfold dashB
  split
  · decide
  · exact h
theorem dec_size {n : Int} (h : I64 n) : (decB n).size ≤ 1000000000000 := by
  have := itoa_len n h.1 h.2
  omega
theorem dec_size_nat {n : Nat} (h : n ≤ 100000000000) : (decB (n : Int)).size ≤ 1000000000000 := dec_size ⟨by omega, by omega⟩

/-- How Text stands: its builder at b, the shapes at bm, w1 the world ahead. -/
structure BW (w1 : World) (b bm : Nat) (acc : List UInt8) (w : World) : Prop where
  below : Below b w1 w
  bld : Lib.IsBuilderF 53 5 b b (Lib.byteCells acc) w
  known : Known bm w
  ne : bm ≠ b
theorem BW.size {w1 : World} {b bm : Nat} {acc : List UInt8} {w : World} (h : BW w1 b bm acc w) : b < w.heap.size := builderF_lt h.bld
theorem BW.grow {w1 : World} {b bm : Nat} {acc : List UInt8} {w w' : World} (h : BW w1 b bm acc w) (hb : Below w.heap.size w w') : BW w1 b bm acc w' :=
  ⟨h.below.trans (hb.mono (Nat.le_of_lt h.size)), builderF_below h.bld hb, h.known.below hb, h.ne⟩
theorem BW.write {w1 : World} {b bm : Nat} {acc acc' : List UInt8} {w w' : World} (h : BW w1 b bm acc w) (h1 : Lib.IsBuilderF 53 5 b b (Lib.byteCells acc') w') (h2 : Below b w w') (h3 : Lib.OthersKept 5 (some b) w w') : BW w1 b bm acc' w' :=
  ⟨h.below.trans h2, h1, h.known.others h3 h.ne, h.ne⟩
theorem others_heap {e b k : Nat} {w w' : World} {cs : Array Value} {t : TypeId} {fz : Nat × Nat} (h : Lib.OthersKept e (some b) w w') (hk : w.heap[k]? = some (.cells cs t fz)) (hb : k ≠ b) (ht : t ≠ e) : w'.heap[k]? = some (.cells cs t fz) :=
  h k _ hk (by simpa using hb) (by intro c f x; cases x; exact ht rfl)
/-- A line is written. -/
theorem BW.line {w1 : World} {b bm : Nat} {acc : List UInt8} {w : World} (h : BW w1 b bm acc w) (q : Nat) (ws : List ByteArray) (hws : ws.length ≤ 10) (hsz : ∀ x ∈ ws, x.size ≤ 1000000000000) (hlen : acc.length ≤ 100000000000000) (hq : w.heap[q]? = some (.cells (ws.map Value.string).toArray 9)) (hqb : q ≠ b) :
    Calls Tryd.prog 15 #[.pointer (some ⟨b, 0, none⟩), .slice (some ⟨q, 0, none⟩) ws.length ws.length] w fun ev w' => ev = .returned (.tuple #[]) ∧ BW w1 b bm (acc ++ (spaced ws ++ [10])) w' ∧ Lib.OthersKept 5 (some b) w w' :=
  (line_any b b q ws acc hws hsz hlen w h.bld (Nat.le_of_lt h.size) hq hqb).mono fun _ _ ⟨r1, r2, r3, r4⟩ => ⟨r1, h.write (by rw [← List.append_assoc]; exact r2) r3 r4, r4⟩
end Go.Proofs.YtgpfjlejmcdpmaaDoor
