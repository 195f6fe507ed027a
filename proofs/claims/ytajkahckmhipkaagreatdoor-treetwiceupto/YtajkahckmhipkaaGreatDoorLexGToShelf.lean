/- Package lex: ops, by their contract. -/
import Derived.Test.YtajkahckmhipkaaGreatDoorLexF
import Derived.Deep.AppendLies
import Derived.Deep.RegionHeld3
import Derived.Deep.DrawnRows
import Derived.Shelf.LaysC
import Derived.Shelf.Strconv.ParseIntPublic10
import Derived.Shelf.Strconv.ErrVarParseInt
import Derived.Test.YtajkahckmhipkaaGreatDoorProg
namespace Go.Proofs.YtajkahckmhipkaaGreatDoor
open Go.RowKit

/-- The first op of the table, from the k-th on, that stands at i. -/
def opFrom (s : ByteArray) (i : Nat) : Nat → Nat → Option (ByteArray × Nat)
  | 0, _ => none
  | n + 1, k => if prefixB (s.extract i s.size) (opAt k) then some (opAt k, i + (opAt k).size) else opFrom s i n (k + 1)
def opTok (s : ByteArray) (i : Nat) : Option (ByteArray × Nat) := opFrom s i 21 0

theorem opFrom_hit {s : ByteArray} {i k : Nat} (hk : k < 21) (h : prefixB (s.extract i s.size) (opAt k) = true) : opFrom s i (21 - k) k = some (opAt k, i + (opAt k).size) := by
  obtain ⟨n, hn⟩ : ∃ n, 21 - k = n + 1 := ⟨21 - k - 1, by omega⟩
  rw [hn]
  simp only [opFrom, h, if_true]
theorem opFrom_miss {s : ByteArray} {i k : Nat} (hk : k < 21) (h : prefixB (s.extract i s.size) (opAt k) = false) : opFrom s i (21 - k) k = opFrom s i (21 - (k + 1)) (k + 1) := by
  obtain ⟨n, hn⟩ : ∃ n, 21 - k = n + 1 := ⟨21 - k - 1, by omega⟩
  rw [hn, show 21 - (k + 1) = n by omega]
  simp only [opFrom, h, Bool.false_eq_true, if_false]
theorem opAt_size (k : Nat) : (opAt k).size ≤ 2 := by
  iterate 21 (rcases k with _ | k; · decide)
  have : opAt (k + 1 + 1 + 1 + 1 + 1 + 1 + 1 + 1 + 1 + 1 + 1 + 1 + 1 + 1 + 1 + 1 + 1 + 1 + 1 + 1 + 1) = ⟨#[]⟩ := rfl
  rw [this]
  decide
theorem prefixB_size {a b : ByteArray} (h : prefixB a b = true) : b.size ≤ a.size := by
  unfold prefixB at h
  split at h
  · assumption
  · cases h

/-- What op comes to. -/
def OPost (B p : Nat) (s : ByteArray) (i : Nat) (a0 : Addr) (w : World) (ev : Ending) (w' : World) : Prop :=
  match opTok s i with
  | some (t, j) => ev = .returned (.string t) ∧ Went p w w' j ∧ j ≤ s.size
  | none => Thrown B w i a0 ev w'

set_option maxHeartbeats 1000000 in
theorem op_walk (B p i : Nat) (s : ByteArray) (a0 : Addr) (w : World) (h : At p s i w) (hlt : i < s.size) (hp : p < w.heap.size) (hBp : B ≤ p) (hg : w.cell? ⟨2, 0, none⟩ = some (.iface 163 (.pointer (some a0)))) (tt : TypeId) (fr : Nat × Nat) (hw : w.heap[3]? = some (.cells opCells tt fr)) :
    Calls Tryz.prog 69 #[.pointer (some ⟨p, 0, none⟩)] w fun ev w' => OPost B p s i a0 w ev w' := by
  have hM := Moved.refl h.c1
  obtain ⟨hs, hat, c0, c1, f1⟩ := h
  have hI : (i : Int) ≤ (s.size : Int) := by omega
  have hI0 : (0 : Int) ≤ (i : Int) := by omega
  go_enter Tryz.func69, Tryz.ntmps69
  go_wp2_with (refine wpList_load_row rfl 117 _ rfl 3 rfl tt _ fr _ hw Tryz.underlying117 rfl infoOps ?_)
  clear hw
  go_loopg [6] 21 (fun n v6 wr => ∃ k q : Nat, n = 21 - k ∧ k ≤ 21 ∧ v6 = .int .i64 (k : Int) ∧ opFrom s i (21 - k) k = opTok s i ∧ wr = w.drewN q)
  case atStart => exact ⟨0, 0, rfl, by decide, rfl, rfl, rfl⟩
  case round =>
    obtain ⟨k, q, hn, hk, hv, hwf, hwr⟩ := hrel
    subst hv
    have hMr : Moved p w wr i := by rw [hwr]; exact hM.drewN q
    have d0 : wr.cell? ⟨p, 0, none⟩ = some (.string s) := (hMr.near 0 (by decide)).trans c0
    have d1 := hMr.at_
    have g1 : wr.frozen? ⟨p, 1, none⟩ = false := (hMr.fz 1).trans f1
    have dg : wr.cell? ⟨2, 0, none⟩ = some (.iface 163 (.pointer (some a0))) := by rw [hwr]; exact hg
    have HWR : Hid (wr = w.drewN q) := hwr
    clear hwr c0 c1 f1 hg hM
    have HW : Hid (opFrom s i (21 - k) k = opTok s i) := hwf
    have HN : Hid (gk = 21 - k) := hn
    clear hwf hn
    have hos := opAt_size k
    by_cases hlt : k < 21
    · have hix := op_index k hlt
      have hI : (k : Int) < 21 := by omega
      cases he : prefixB (s.extract i s.size) (opAt k)
      · go_wp2_with fail
        go_quiet ((go_at_call 91; exact Calls.quiet_of_same (hasPrefix_any _ _ _)))
        rw [he]
        go_wp2_with fail
        go_roundg (21 - (k + 1))
        case measure => have := HN.out; omega
        case rel => exact ⟨k + 1, q + nq, rfl, by omega, by go_num, (opFrom_miss hlt he).symm.trans HW.out, by rw [HWR.out]; simp [World.drewN, Nat.add_assoc]⟩
      · have HP : Hid (prefixB (s.extract i s.size) (opAt k) = true) := he
        have hsz := prefixB_size he
        have hez : (s.extract i s.size).size = s.size - i := by simp
        go_wp2_with fail
        go_quiet ((go_at_call 91; exact Calls.quiet_of_same (hasPrefix_any _ _ _)))
        rw [he]
        go_wp2_with fail
        go_ret
        unfold OPost
        rw [← HW.out, opFrom_hit hlt HP.out]
        exact ⟨rfl, ((hMr.drewN _).trans (Moved.set (hMr.drewN _).at_ (i + (opAt k).size))).went, by omega⟩
    · have HK : Hid (k = 21) := show k = 21 by omega
      go_wp2_with fail
      refine (none_any _ a0 _ dg).mono ?_
      rintro ev w3 ⟨rfl, rfl⟩
      go_wp2
      refine ⟨rfl, ?_⟩
      unfold OPost
      have hno : opTok s i = none := HW.out.symm.trans (by rw [HK.out]; rfl)
      rw [hno]
      exact ⟨_, rfl, (hMr.below hBp).alloc (by rw [hMr.size]; omega) _, cell_new rfl rfl, cell_new rfl rfl⟩
end Go.Proofs.YtajkahckmhipkaaGreatDoor

/- Package lex: add, settle, by contracts: the reader's two slices. -/
namespace Go.Proofs.YtajkahckmhipkaaGreatDoor
open Go.RowKit

/-- A token's three cells. -/
def tokCells (k t : ByteArray) (i : Nat) : List Value := [.string k, .string t, .int .i64 i]

/-- The reader at block p, above block B: its text, its place, the open indentations, its tokens (three cells each, n of them). -/
structure RS (B p : Nat) (s : ByteArray) (at_ : Nat) (op : List Int) (n : Nat) (tk : List Value) (w : World) : Prop where
  hA : At p s at_ w
  hp : B ≤ p
  hpl : p < w.heap.size
  ex : ∃ g cap vt, w.cell? ⟨p, 2, none⟩ = some (.slice (some ⟨g, 0, none⟩) op.length cap) ∧ w.cell? ⟨p, 3, none⟩ = some vt ∧
    w.ownsRow B 3 1 (.slice (some ⟨g, 0, none⟩) op.length cap) op.length (op.map (Value.int .i64)) ∧ w.ownsRow B 79 3 vt n tk ∧
    g ≠ p ∧ vt.ownBlock ≠ some p ∧ vt.ownBlock ≠ some g
  f2 : w.frozen? ⟨p, 2, none⟩ = false
  f3 : w.frozen? ⟨p, 3, none⟩ = false

theorem infoTok : (Tryz.prog.info? 79).map (fun i => (i.zero, i.size, i.bytes)) = some (some (.agg #[.string ⟨#[]⟩, .string ⟨#[]⟩, .int .i64 0]), 3, 40) := by kernel_rfl
theorem infoInt : (Tryz.prog.info? 3).map (fun i => (i.zero, i.size, i.bytes)) = some (some (.int .i64 0), 1, 8) := by kernel_rfl

theorem three_new (w : World) (a b c : Value) (t : TypeId) : ∀ j u, ([a, b, c] : List Value)[j]? = some u → (w.alloc (.cells #[a, b, c] t)).cell? ((⟨w.heap.size, 0, none⟩ : Addr).add j) = some u := by
  intro j u h
  have hadd : (⟨w.heap.size, 0, none⟩ : Addr).add j = ⟨w.heap.size, j, none⟩ := by unfold Addr.add; split <;> simp_all
  rw [hadd, World.cell?_alloc_at _ _ _ _ rfl]
  simpa using h

/-- A world as another, but for one cell of one block: what cells and marks read. -/
theorem frozen_set (w : World) (p o q : Nat) (v : Value) : (w.setCell ⟨p, o, none⟩ v).frozen? ⟨p, q, none⟩ = w.frozen? ⟨p, q, none⟩ := by
  simp only [World.setCell, World.frozen?, Array.getElem?_modify]
  simp only [if_true]
  cases w.heap[p]? with
  | none => rfl
  | some x => cases x <;> rfl
theorem cell_set (w : World) (p o q : Nat) (v : Value) (h : q ≠ o) : (w.setCell ⟨p, o, none⟩ v).cell? ⟨p, q, none⟩ = w.cell? ⟨p, q, none⟩ :=
  World.cell?_setCell_other _ _ _ _ (by intro e; exact h (by simpa using e.symm))
theorem heap_set (w : World) (p o k : Nat) (v : Value) (h : k ≠ p) : (w.setCell ⟨p, o, none⟩ v).heap[k]? = w.heap[k]? := Below.heap_setCell _ _ _ _ h
theorem size_set (w : World) (a : Addr) (v : Value) : (w.setCell a v).heap.size = w.heap.size := by simp [World.setCell]

theorem rs_add {B p : Nat} {s : ByteArray} {at_ : Nat} {op : List Int} {n : Nat} {tk news : List Value} {w w1 : World} {g cap gn capn : Nat} {vt : Value} {o : Obj} (hA : At p s at_ w) (hp : B ≤ p) (hpl : p < w.heap.size)
    (c2 : w.cell? ⟨p, 2, none⟩ = some (.slice (some ⟨g, 0, none⟩) op.length cap)) (c3 : w.cell? ⟨p, 3, none⟩ = some vt)
    (o2 : w.ownsRow B 3 1 (.slice (some ⟨g, 0, none⟩) op.length cap) op.length (op.map (Value.int .i64))) (o3 : w.ownsRow B 79 3 vt n tk)
    (ngp : g ≠ p) (ntp : vt.ownBlock ≠ some p) (ntg : vt.ownBlock ≠ some g) (f2 : w.frozen? ⟨p, 2, none⟩ = false) (f3 : w.frozen? ⟨p, 3, none⟩ = false) (hB : B ≤ w.heap.size)
    (hown1 : w1.ownsRow B 79 3 (.slice (some ⟨gn, 0, none⟩) (n + 1) capn) (n + 1) (tk ++ news)) (hgrow : (w.alloc o).grownBy w1 vt.ownBlock) (hat : vt.ownBlock = some gn ∨ gn = w.heap.size + 1) :
    RS B p s at_ op (n + 1) (tk ++ news) (w1.setCell ⟨p, 3, none⟩ (.slice (some ⟨gn, 0, none⟩) (n + 1) capn)) ∧ Below B w (w1.setCell ⟨p, 3, none⟩ (.slice (some ⟨gn, 0, none⟩) (n + 1) capn)) := by
  have hg : g < w.heap.size := by
    rcases o2.2 with ⟨h, _⟩ | ⟨g', cap', cur, h, _, hg', _⟩
    · cases h
    · simp at h; rw [h.1]; exact lt_of_heap hg'
  have blk : ∀ k, k < w.heap.size → vt.ownBlock ≠ some k → w1.heap[k]? = w.heap[k]? := fun k hk hne =>
    (hgrow.block k (by simp; omega) (fun e => hne e.symm)).trans (Below.heap_alloc _ _ _ hk)
  have bp : w1.heap[p]? = w.heap[p]? := blk p hpl ntp
  have bg : w1.heap[g]? = w.heap[g]? := blk g hg ntg
  have ce : ∀ q, w1.cell? ⟨p, q, none⟩ = w.cell? ⟨p, q, none⟩ := fun q => World.cell?_of_block (w := w) (a := ⟨p, q, none⟩) bp
  have fe : ∀ q, w1.frozen? ⟨p, q, none⟩ = w.frozen? ⟨p, q, none⟩ := fun q => World.frozen?_of_block (w := w) (a := ⟨p, q, none⟩) bp
  have hgn : gn ≠ p ∧ gn ≠ g := by
    rcases hat with h | h
    · exact ⟨fun e => ntp (by rw [h, e]), fun e => ntg (by rw [h, e])⟩
    · omega
  have hsz : w.heap.size ≤ w1.heap.size := by have := hgrow.size; simp at this; omega
  have hbel : Below B w w1 := Below.grown ((Below.refl _ _).alloc hB _) hgrow (by simp; omega) (own_ge o3)
  refine ⟨⟨⟨hA.hs, hA.hat, ?_, ?_, ?_⟩, hp, by rw [size_set]; omega, ⟨g, cap, _, ?_, World.cell?_setCell_same _ _ _ (u := vt) ((ce 3).trans c3), ?_, ?_, ngp, ?_, ?_⟩, ?_, ?_⟩, hbel.setCell hp _⟩
  · rw [cell_set _ _ _ _ _ (by decide), ce]; exact hA.c0
  · rw [cell_set _ _ _ _ _ (by decide), ce]; exact hA.c1
  · rw [frozen_set, fe]; exact hA.f1
  · rw [cell_set _ _ _ _ _ (by decide), ce]; exact c2
  · refine ⟨o2.1, ?_⟩
    rcases o2.2 with h | ⟨g', cap', cur, h, hb, hg', rest⟩
    · exact .inl h
    · have eg : g' = g := by simp at h; exact h.1.symm
      refine .inr ⟨g', cap', cur, h, hb, ?_, rest⟩
      rw [heap_set _ _ _ _ _ (by rw [eg]; exact ngp), eg, bg, ← eg]; exact hg'
  · refine ⟨hown1.1, ?_⟩
    rcases hown1.2 with h | ⟨g', cap', cur, h, hb, hg', rest⟩
    · exact .inl h
    · have eg : g' = gn := by simp at h; exact h.1.symm
      refine .inr ⟨g', cap', cur, h, hb, ?_, rest⟩
      rw [heap_set _ _ _ _ _ (by rw [eg]; exact hgn.1)]; exact hg'
  · simp [Value.ownBlock]; exact hgn.1
  · simp [Value.ownBlock]; exact hgn.2
  · rw [frozen_set, fe]; exact f2
  · rw [frozen_set, fe]; exact f3

set_option maxHeartbeats 400000 in
theorem add_any (B p : Nat) (s : ByteArray) (at_ : Nat) (op : List Int) (n : Nat) (tk : List Value) (w : World) (k t : ByteArray) (i : Nat) (h : RS B p s at_ op n tk w) (hB : B ≤ w.heap.size) (hn : n ≤ 100000) :
    Calls Tryz.prog 31 #[.pointer (some ⟨p, 0, none⟩), .string k, .string t, .int .i64 i] w fun ev w' => ev = .returned (.tuple #[]) ∧ RS B p s at_ op (n + 1) (tk ++ tokCells k t i) w' ∧ Below B w w' := by
  obtain ⟨hA, hp, hpl, ⟨g, cap, vt, c2, c3, o2, o3, ngp, ntp, ntg⟩, f2, f3⟩ := h
  obtain ⟨i0, hi, hz0, hz1, hz2⟩ := info_parts infoTok
  go_enter Tryz.func31, Tryz.ntmps31
  go_wp2_with (first | (at_builtin; refine wpList_append_lies _ rfl _ _ _ rfl B 79 i0 (.agg #[.string ⟨#[]⟩, .string ⟨#[]⟩, .int .i64 0]) 3 40 Tryz.underlying55 hi hz0 hz1 hz2 rfl (by decide) _ n tk rfl (o3.alloc _) ⟨w.heap.size, 0, none⟩ 1 1 (tokCells k t i) rfl rfl (three_new _ _ _ _ _) (fun y hy => by simp [tokCells] at hy; rcases hy with rfl | rfl | rfl <;> rfl) (by decide) (by unfold maxLen; omega) (by omega) (by simp; omega) _ rfl ?_))
  intro gn capn w1 hown1 hgrow hat hlt
  have R := rs_add hA hp hpl c2 c3 o2 o3 ngp ntp ntg f2 f3 hB hown1 hgrow (by simpa using hat)
  have e3 : w1.cell? ⟨p, 3, none⟩ = some vt := by
    rw [hgrow.cell_far ⟨p, 3, none⟩ (by simp; omega) (fun e => ntp e.symm), World.cell?_alloc_past _ _ _ hpl]; exact c3
  have g3 : w1.frozen? ⟨p, 3, none⟩ = false := by
    rw [hgrow.frozen_far ⟨p, 3, none⟩ (by simp; omega) (fun e => ntp e.symm), World.frozen?_alloc_past _ _ _ hpl]; exact f3
  clear hgrow hown1 hat hA c2 c3 o2 o3 ntp ntg f2 f3
  go_wp2
  go_end0
  exact ⟨rfl, R.1, R.2⟩
end Go.Proofs.YtajkahckmhipkaaGreatDoor

/- Package lex: settle, by its contract. -/
namespace Go.Proofs.YtajkahckmhipkaaGreatDoor
open Go.RowKit

/-- The innermost indentation lies where innermost looks. -/
theorem RS.top {B p : Nat} {s : ByteArray} {at_ : Nat} {l : List Int} {x : Int} {n : Nat} {tk : List Value} {w : World} (h : RS B p s at_ (l ++ [x]) n tk w) :
    ∃ g cap, w.cell? ⟨p, 2, none⟩ = some (.slice (some ⟨g, 0, none⟩) (l.length + 1) cap) ∧ w.cell? ⟨g, l.length, none⟩ = some (.int .i64 x) := by
  obtain ⟨_, _, _, ⟨g, cap, vt, c2, _, o2, _⟩, _, _⟩ := h
  refine ⟨g, cap, by simpa using c2, ?_⟩
  rcases o2.2 with ⟨h, _⟩ | ⟨g', cap', cur, h, _, hg', _, _, hsz, htk⟩
  · cases h
  · have eg : g' = g := by simp at h; exact h.1.symm
    subst eg
    rw [cell_of_row w g' l.length cur 3 (0, 0) hg']
    have e : (cur.toList.take ((l ++ [x]).length * 1))[l.length]? = ((l ++ [x]).map (Value.int .i64))[l.length]? := by rw [htk]
    rw [List.getElem?_take, if_pos (by simp)] at e
    rw [← Array.getElem?_toList, e]
    simp

theorem RS.drewN {B p : Nat} {s : ByteArray} {at_ : Nat} {op : List Int} {n : Nat} {tk : List Value} {w : World} (h : RS B p s at_ op n tk w) (q : Nat) : RS B p s at_ op n tk (w.drewN q) :=
  ⟨⟨h.hA.hs, h.hA.hat, h.hA.c0, h.hA.c1, h.hA.f1⟩, h.hp, h.hpl, h.ex, h.f2, h.f3⟩

theorem inner_any {B p : Nat} {s : ByteArray} {at_ : Nat} {l : List Int} {x : Int} {n : Nat} {tk : List Value} (w : World) (h : RS B p s at_ (l ++ [x]) n tk w) (hl : l.length ≤ 100000) :
    Calls Tryz.prog 45 #[.pointer (some ⟨p, 0, none⟩)] w fun ev w' => ev = .returned (.int .i64 x) ∧ ∃ q, w' = w.drewN q := by
  obtain ⟨g, cap, c2, cg⟩ := h.top
  exact innermost_any p w g l.length cap x hl c2 cg

/-- How many indentations a line closes, and what stays open, the innermost ahead. -/
def popTo (ind : Int) : List Int → Nat × List Int
  | [] => (0, [])
  | x :: xs => if ind < x then ((popTo ind xs).1 + 1, (popTo ind xs).2) else (0, x :: xs)

/-- Dedents, so many. -/
def dedents (i : Nat) : Nat → List Value
  | 0 => []
  | k + 1 => dedents i k ++ tokCells ⟨#[100, 101, 100, 101, 110, 116]⟩ ⟨#[]⟩ i

theorem ownsRow_far' {w w' : World} {base e size n : Nat} {v : Value} {xs : List Value} (h : w.ownsRow base e size v n xs) (hf : ∀ k, v.ownBlock = some k → w'.heap[k]? = w.heap[k]?) : w'.ownsRow base e size v n xs := by
  refine ⟨h.1, ?_⟩
  rcases h.2 with hn | ⟨g, cap, cur, hv, hb, hg, rest⟩
  · exact .inl hn
  · exact .inr ⟨g, cap, cur, hv, hb, (hf g (by rw [hv]; rfl)).trans hg, rest⟩

/-- A store of the slice open, one shorter. -/
theorem rs_pop {B p : Nat} {s : ByteArray} {at_ : Nat} {l : List Int} {x : Int} {n : Nat} {tk : List Value} {w : World} {g cap : Nat} (h : RS B p s at_ (l ++ [x]) n tk w) (hc : w.cell? ⟨p, 2, none⟩ = some (.slice (some ⟨g, 0, none⟩) (l.length + 1) cap)) :
    RS B p s at_ l n tk (w.setCell ⟨p, 2, none⟩ (.slice (some ⟨g, 0, none⟩) l.length cap)) ∧ Below B w (w.setCell ⟨p, 2, none⟩ (.slice (some ⟨g, 0, none⟩) l.length cap)) := by
  obtain ⟨hA, hp, hpl, ⟨g', cap', vt, c2, c3, o2, o3, ngp, ntp, ntg⟩, f2, f3⟩ := h
  have e : g' = g ∧ cap' = cap := by
    rw [hc] at c2
    simp at c2
    exact ⟨c2.1.symm, c2.2.symm⟩
  obtain ⟨rfl, rfl⟩ := e
  refine ⟨⟨⟨hA.hs, hA.hat, ?_, ?_, ?_⟩, hp, by rw [size_set]; exact hpl, ⟨g', cap', vt, World.cell?_setCell_same _ _ _ hc, ?_, ?_, ?_, ngp, ntp, ntg⟩, ?_, ?_⟩, (Below.refl _ _).setCell hp _⟩
  · rw [cell_set _ _ _ _ _ (by decide)]; exact hA.c0
  · rw [cell_set _ _ _ _ _ (by decide)]; exact hA.c1
  · rw [frozen_set]; exact hA.f1
  · rw [cell_set _ _ _ _ _ (by decide)]; exact c3
  · refine ⟨by simp, ?_⟩
    rcases o2.2 with ⟨h, _⟩ | ⟨g2, cap2, cur, h, hb, hg2, hle, hm, hsz, htk⟩
    · cases h
    · have eg : g2 = g' ∧ cap2 = cap' := by simp at h; exact ⟨h.1.symm, h.2.symm⟩
      obtain ⟨rfl, rfl⟩ := eg
      refine .inr ⟨g2, cap2, cur, rfl, hb, ?_, by simp at hle; omega, hm, hsz, ?_⟩
      · rw [heap_set _ _ _ _ _ ngp]; exact hg2
      · have := congrArg (List.take l.length) htk
        rw [List.take_take] at this
        simpa using this
  · exact ownsRow_far' o3 (fun k hk => heap_set _ _ _ _ _ (fun e => ntp (by rw [hk, e])))
  · rw [frozen_set]; exact f2
  · rw [frozen_set]; exact f3
end Go.Proofs.YtajkahckmhipkaaGreatDoor

/- Package lex: the walk of settle. -/
namespace Go.Proofs.YtajkahckmhipkaaGreatDoor
open Go.RowKit
attribute [local go_sem ↓] Go.wp_at_zero Go.wp_at_succ

theorem RS.drew {B p : Nat} {s : ByteArray} {at_ : Nat} {op : List Int} {n : Nat} {tk : List Value} {w : World} (h : RS B p s at_ op n tk w) : RS B p s at_ op n tk w.drew :=
  ⟨⟨h.hA.hs, h.hA.hat, h.hA.c0, h.hA.c1, h.hA.f1⟩, h.hp, h.hpl, h.ex, h.f2, h.f3⟩

theorem rs_push {B p : Nat} {s : ByteArray} {at_ : Nat} {op : List Int} {ind : Int} {n : Nat} {tk : List Value} {w w1 : World} {g cap gn capn : Nat} {vt : Value} {o : Obj} (hA : At p s at_ w) (hp : B ≤ p) (hpl : p < w.heap.size)
    (c2 : w.cell? ⟨p, 2, none⟩ = some (.slice (some ⟨g, 0, none⟩) op.length cap)) (c3 : w.cell? ⟨p, 3, none⟩ = some vt)
    (o2 : w.ownsRow B 3 1 (.slice (some ⟨g, 0, none⟩) op.length cap) op.length (op.map (Value.int .i64))) (o3 : w.ownsRow B 79 3 vt n tk)
    (ngp : g ≠ p) (ntp : vt.ownBlock ≠ some p) (ntg : vt.ownBlock ≠ some g) (f2 : w.frozen? ⟨p, 2, none⟩ = false) (f3 : w.frozen? ⟨p, 3, none⟩ = false) (hB : B ≤ w.heap.size)
    (hown1 : w1.ownsRow B 3 1 (.slice (some ⟨gn, 0, none⟩) (op.length + 1) capn) (op.length + 1) (op.map (Value.int .i64) ++ [.int .i64 ind])) (hgrow : (w.alloc o).grownBy w1 (some g)) (hat : g = gn ∨ gn = w.heap.size + 1) :
    RS B p s at_ (op ++ [ind]) n tk (w1.setCell ⟨p, 2, none⟩ (.slice (some ⟨gn, 0, none⟩) (op.length + 1) capn)) ∧ Below B w (w1.setCell ⟨p, 2, none⟩ (.slice (some ⟨gn, 0, none⟩) (op.length + 1) capn)) := by
  have vlt : ∀ k, vt.ownBlock = some k → k < w.heap.size := fun k hk => by
    rcases o3.2 with ⟨rfl, _⟩ | ⟨g', cap', cur, rfl, _, hg', _⟩
    · simp [Value.ownBlock] at hk
    · simp [Value.ownBlock] at hk; subst hk; exact lt_of_heap hg'
  have blk : ∀ k, k < w.heap.size → g ≠ k → w1.heap[k]? = w.heap[k]? := fun k hk hne =>
    (hgrow.block k (by simp; omega) (fun e => hne (by simpa using e.symm))).trans (Below.heap_alloc _ _ _ hk)
  have bp : w1.heap[p]? = w.heap[p]? := blk p hpl ngp
  have ce : ∀ q, w1.cell? ⟨p, q, none⟩ = w.cell? ⟨p, q, none⟩ := fun q => World.cell?_of_block (w := w) (a := ⟨p, q, none⟩) bp
  have fe : ∀ q, w1.frozen? ⟨p, q, none⟩ = w.frozen? ⟨p, q, none⟩ := fun q => World.frozen?_of_block (w := w) (a := ⟨p, q, none⟩) bp
  have hgn : gn ≠ p ∧ vt.ownBlock ≠ some gn := by
    rcases hat with h | h
    · exact ⟨by rw [← h]; exact ngp, by rw [← h]; exact ntg⟩
    · exact ⟨by omega, fun e => by have := vlt _ e; omega⟩
  have hsz : w.heap.size ≤ w1.heap.size := by have := hgrow.size; simp at this; omega
  have hge : B ≤ g := own_ge o2 g rfl
  have hbel : Below B w w1 := Below.grown ((Below.refl _ _).alloc hB _) hgrow (by simp; omega) (fun k hk => by simp at hk; omega)
  refine ⟨⟨⟨hA.hs, hA.hat, ?_, ?_, ?_⟩, hp, by rw [size_set]; omega, ⟨gn, capn, vt, by rw [List.length_append]; exact World.cell?_setCell_same _ _ _ ((ce 2).trans c2), ?_, ?_, ?_, hgn.1, ntp, hgn.2⟩, ?_, ?_⟩, hbel.setCell hp _⟩
  · rw [cell_set _ _ _ _ _ (by decide), ce]; exact hA.c0
  · rw [cell_set _ _ _ _ _ (by decide), ce]; exact hA.c1
  · rw [frozen_set, fe]; exact hA.f1
  · rw [cell_set _ _ _ _ _ (by decide), ce]; exact c3
  · have h2 : (w1.setCell ⟨p, 2, none⟩ (.slice (some ⟨gn, 0, none⟩) (op.length + 1) capn)).ownsRow B 3 1 (.slice (some ⟨gn, 0, none⟩) (op.length + 1) capn) (op.length + 1) (op.map (Value.int .i64) ++ [.int .i64 ind]) :=
      ownsRow_far' hown1 (fun k hk => heap_set _ _ _ _ _ (fun e => hgn.1 (by simp [Value.ownBlock] at hk; omega)))
    simpa using h2
  · refine ownsRow_far' o3 (fun k hk => ?_)
    rw [heap_set _ _ _ _ _ (fun e => ntp (by rw [hk, e]))]
    exact blk k (vlt k hk) (fun e => ntg (by rw [hk, e]))
  · rw [frozen_set, fe]; exact f2
  · rw [frozen_set, fe]; exact f3

set_option maxHeartbeats 1000000 in
/-- settle where the line stands deeper. -/
theorem settle_in (B p : Nat) (s : ByteArray) (at_ : Nat) (l : List Int) (x ind : Int) (n : Nat) (tk : List Value) (w : World) (h : RS B p s at_ (l ++ [x]) n tk w) (hl : l.length ≤ 30000) (hn : n ≤ 50000) (hx : x < ind) :
    Calls Tryz.prog 30 #[.pointer (some ⟨p, 0, none⟩), .int .i64 ind] w fun ev w' => ev = .returned (.tuple #[]) ∧ RS B p s at_ (l ++ [x] ++ [ind]) (n + 1) (tk ++ tokCells ⟨#[105, 110, 100, 101, 110, 116]⟩ ⟨#[]⟩ at_) w' ∧ Below B w w' := by
  have hB : B ≤ w.heap.size := by have := h.hp; have := h.hpl; omega
  obtain ⟨i0, hi, hz0, hz1, hz2⟩ := info_parts infoInt
  go_enter Tryz.func30, Tryz.ntmps30
  go_wp2_with fail
  refine (inner_any _ h (by omega)).mono ?_
  rintro ev w1 ⟨rfl, q, hq⟩
  have h1 : RS B p s at_ (l ++ [x]) n tk w1 := by rw [hq]; exact h.drewN q
  have hb1 : Below B w w1 := by rw [hq]; exact below_drewN (Below.refl _ _) q
  have hB1 : B ≤ w1.heap.size := Nat.le_trans hB hb1.size
  clear hq
  obtain ⟨g, cap, vt, c2, c3, o2, o3, ngp, ntp, ntg⟩ := h1.ex
  have hpl := h1.hpl
  have hp := h1.hp
  have f2 := h1.f2
  have f3 := h1.f3
  have hA1 := h1.hA
  have c2' := c2
  have o2' := o2
  simp only [List.length_append, List.length_cons, List.length_nil] at c2 o2
  go_wp2_with (first | (at_builtin; refine wpList_append_lies _ rfl _ _ _ rfl B 3 i0 (.int .i64 0) 1 8 Tryz.underlying73 hi hz0 hz1 hz2 rfl (by decide) _ (l.length + 1) ((l ++ [x]).map (Value.int .i64)) rfl (o2.alloc _) ⟨w1.heap.size, 0, none⟩ 1 1 [.int .i64 ind] rfl rfl (cell_one_new _ _ _) (fun y hy => by simp at hy; subst hy; rfl) (by decide) (by unfold maxLen; omega) (by omega) (by simp; omega) _ rfl ?_))
  intro gn capn w2 hown2 hgrow hat hlt
  have R := rs_push (op := l ++ [x]) (ind := ind) (gn := gn) (capn := capn) hA1 hp hpl c2' c3 o2' o3 ngp ntp ntg f2 f3 hB1 (by simpa using hown2) hgrow (by simpa [Value.ownBlock] using hat)
  simp only [List.length_append, List.length_cons, List.length_nil] at R
  have e2 : w2.cell? ⟨p, 2, none⟩ = some (.slice (some ⟨g, 0, none⟩) (l.length + 1) cap) := by
    rw [hgrow.cell_far ⟨p, 2, none⟩ (by simp; omega) (fun e => ngp (by simpa [Value.ownBlock] using e.symm)), World.cell?_alloc_past _ _ _ hpl]; exact c2
  have g2 : w2.frozen? ⟨p, 2, none⟩ = false := by
    rw [hgrow.frozen_far ⟨p, 2, none⟩ (by simp; omega) (fun e => ngp (by simpa [Value.ownBlock] using e.symm)), World.frozen?_alloc_past _ _ _ hpl]; exact f2
  clear hgrow hown2 hat c2 c3 o2 o3 ntp ntg f2 f3 c2' o2'
  have hatc := R.1.hA.c1
  go_wp2_with fail
  refine (add_any B p s at_ _ n tk _ _ _ at_ R.1 (Nat.le_trans hB1 R.2.size) (by omega)).mono ?_
  rintro ev w3 ⟨rfl, h3, hb3⟩
  go_wp2_with fail
  refine bodyPost_ret (results_none rfl _ _ _) rfl ?_
  exact ⟨rfl, h3, (hb1.trans R.2).trans hb3⟩

/-- What settle comes to where the line does not stand deeper. -/
def SPost (B p : Nat) (s : ByteArray) (at_ : Nat) (st : List Int) (ind : Int) (n : Nat) (tk : List Value) (a0 : Addr) (w : World) (ev : Ending) (w' : World) : Prop :=
  if (popTo ind st).2.head? = some ind then ev = .returned (.tuple #[]) ∧ RS B p s at_ (popTo ind st).2.reverse (n + (popTo ind st).1) (tk ++ dedents at_ (popTo ind st).1) w' ∧ Below B w w'
  else Thrown B w at_ a0 ev w'

theorem SPost.yes {B p : Nat} {s : ByteArray} {at_ : Nat} {st : List Int} {ind x : Int} {xs : List Int} {n k : Nat} {tk : List Value} {a0 : Addr} {w w' : World} (hp : popTo ind st = (k, x :: xs)) (he : ind = x) (h : RS B p s at_ (x :: xs).reverse (n + k) (tk ++ dedents at_ k) w') (hb : Below B w w') : SPost B p s at_ st ind n tk a0 w (.returned (.tuple #[])) w' := by
  unfold SPost
  rw [hp, if_pos (by simp [he])]
  exact ⟨rfl, h, hb⟩
theorem SPost.no {B p : Nat} {s : ByteArray} {at_ : Nat} {st : List Int} {ind x : Int} {xs : List Int} {n k : Nat} {tk : List Value} {a0 : Addr} {w w' : World} {ev : Ending} (hp : popTo ind st = (k, x :: xs)) (he : ind ≠ x) (h : Thrown B w at_ a0 ev w') : SPost B p s at_ st ind n tk a0 w ev w' := by
  unfold SPost
  rw [hp, if_neg (by simp; exact fun e => he e.symm)]
  exact h

set_option maxHeartbeats 2000000 in
theorem settle_out (B p : Nat) (s : ByteArray) (at_ : Nat) (x : Int) (xs : List Int) (ind : Int) (n : Nat) (tk : List Value) (a0 : Addr) (w : World) (h : RS B p s at_ (x :: xs).reverse n tk w) (hl : xs.length ≤ 30000) (hn : n ≤ 40000) (hx : ¬ x < ind) (h0 : 0 ≤ ind) (hlast : (x :: xs).getLast? = some 0)
    (hgB : 2 < B) (hg : w.cell? ⟨2, 0, none⟩ = some (.iface 163 (.pointer (some a0)))) :
    Calls Tryz.prog 30 #[.pointer (some ⟨p, 0, none⟩), .int .i64 ind] w fun ev w' => SPost B p s at_ (x :: xs) ind n tk a0 w ev w' := by
  have hB : B ≤ w.heap.size := by have := h.hp; have := h.hpl; omega
  rw [List.reverse_cons] at h
  go_enter Tryz.func30, Tryz.ntmps30
  go_wp2_with fail
  refine (inner_any _ h (by simp; omega)).mono ?_
  rintro ev w1 ⟨rfl, q, hq⟩
  have h1 : RS B p s at_ (xs.reverse ++ [x]) n tk w1 := by rw [hq]; exact h.drewN q
  have hb1 : Below B w w1 := by rw [hq]; exact below_drewN (Below.refl _ _) q
  clear hq
  go_wp2_with fail
  go_loopg [] (xs.length + 1) (fun gk wr => ∃ (x1 : Int) (xs1 : List Int) (k : Nat), gk = xs1.length + 1 ∧ k + xs1.length = xs.length ∧ (x1 :: xs1).getLast? = some 0 ∧ popTo ind (x :: xs) = (k + (popTo ind (x1 :: xs1)).1, (popTo ind (x1 :: xs1)).2) ∧ RS B p s at_ (xs1.reverse ++ [x1]) (n + k) (tk ++ dedents at_ k) wr ∧ Below B w wr)
  case atStart => exact ⟨x, xs, 0, rfl, by omega, hlast, by simp, by simpa [dedents] using h1, hb1⟩
  case round =>
    obtain ⟨x1, xs1, k, hgk, hkl, hla, hpop, hr, hbr⟩ := hrel
    have HG : Hid (gk = xs1.length + 1) := hgk
    have HP : Hid (popTo ind (x :: xs) = (k + (popTo ind (x1 :: xs1)).1, (popTo ind (x1 :: xs1)).2)) := hpop
    have HL : Hid ((x1 :: xs1).getLast? = some 0) := hla
    have HLE : Hid (k + xs1.length = xs.length) := hkl
    clear hgk hpop hla h1 h hb1 hlast hkl
    have hlen : xs1.length ≤ 30000 := by have := HLE.out; omega
    have hkn : k ≤ 30000 := by have := HLE.out; omega
    go_wp2_with fail
    refine (inner_any _ hr (by simp; omega)).mono ?_
    rintro ev w2 ⟨rfl, q2, hq2⟩
    have h2 : RS B p s at_ (xs1.reverse ++ [x1]) (n + k) (tk ++ dedents at_ k) w2 := by rw [hq2]; exact hr.drewN q2
    have hb2 : Below B w w2 := by rw [hq2]; exact below_drewN hbr q2
    clear hq2 hr hbr
    by_cases hlt : ind < x1
    · obtain ⟨g, cap, c2, _⟩ := h2.top
      simp only [List.length_reverse] at c2
      have f2 := h2.f2
      have hI1 : (0 : Int) ≤ (xs1.length : Int) := by omega
      have hI2 : (xs1.length : Int) ≤ (cap : Int) := by
        obtain ⟨_, _, _, d2, _, o2, _⟩ := h2.ex
        rcases o2.2 with ⟨he, _⟩ | ⟨_, _, _, he, _, _, hle, _⟩
        · cases he
        · rw [c2] at d2
          simp at d2 he hle
          omega
      have hwr : IntKind.i64.wrap (xs1.length : Int) = (xs1.length : Int) := wrap_small _ (by omega) (by omega)
      go_wp2_with fail
      go_region
      have R := rs_pop (l := xs1.reverse) (g := g) (cap := cap) h2 (by simpa using c2)
      simp only [List.length_reverse] at R
      have R1 := R.1.drew
      have hatc := R1.hA.c1
      have hbR : Below B w (w2.setCell ⟨p, 2, none⟩ (.slice (some ⟨g, 0, none⟩) xs1.length cap)).drew := (hb2.trans R.2).drew
      go_wp2_with fail
      refine (add_any B p s at_ _ (n + k) _ _ _ _ at_ R1 (Nat.le_trans hB hbR.size) (by omega)).mono ?_
      rintro ev w3 ⟨rfl, h3, hb3⟩
      go_wp2_with fail
      cases xs1 with
      | nil =>
        have e0 : x1 = 0 := by simpa using HL.out
        omega
      | cons y ys =>
        go_roundg (ys.length + 1)
        case measure => have := HG.out; simp at this; omega
        case rel =>
          refine ⟨y, ys, k + 1, rfl, by have := HLE.out; simp at this; omega, by simpa using HL.out, ?_, ?_, hbR.trans hb3⟩
          · rw [HP.out]
            simp only [popTo, hlt, if_true]
            congr 1
            omega
          · simpa [dedents, Nat.add_assoc, List.append_assoc] using h3
    · have hpe : popTo ind (x1 :: xs1) = (0, x1 :: xs1) := by simp [popTo, hlt]
      have HPE : Hid (popTo ind (x :: xs) = (k, x1 :: xs1)) := show popTo ind (x :: xs) = (k, x1 :: xs1) by rw [HP.out, hpe]; simp
      clear hpe
      have hgw : w2.cell? ⟨2, 0, none⟩ = some (.iface 163 (.pointer (some a0))) := (hb2.cell (p := ⟨2, 0, none⟩) hgB).trans hg
      go_wp2_with fail
      refine (inner_any _ h2 (by simp; omega)).mono ?_
      rintro ev w3 ⟨rfl, q3, hq3⟩
      have h3 : RS B p s at_ (xs1.reverse ++ [x1]) (n + k) (tk ++ dedents at_ k) w3 := by rw [hq3]; exact h2.drewN q3
      have hb3 : Below B w w3 := by rw [hq3]; exact below_drewN hb2 q3
      have hgw3 : w3.cell? ⟨2, 0, none⟩ = some (.iface 163 (.pointer (some a0))) := by rw [hq3]; exact hgw
      clear hq3 hgw
      cases he : (ind != x1)
      · have hie : ind = x1 := by simpa using he
        go_wp2_with fail
        go_end0
        exact SPost.yes HPE.out hie (by simpa using h3) hb3
      · have hatc := h3.hA.c1
        go_wp2_with fail
        refine (none_any _ a0 _ hgw3).mono ?_
        rintro ev w4 ⟨rfl, rfl⟩
        go_wp2
        exact ⟨rfl, SPost.no HPE.out (by simpa using he) ⟨_, rfl, hb3.alloc (Nat.le_trans hB hb3.size) _, cell_new rfl rfl, cell_new rfl rfl⟩⟩
end Go.Proofs.YtajkahckmhipkaaGreatDoor

/- The library's strconv.ParseInt at this program: the shelf's laying, and two of its contracts. -/
namespace Go.Proofs.YtajkahckmhipkaaGreatDoor
open Go.Shelf Go.RowKit
def laysC174_ren : Go.Shelf.Ren := ⟨fun | 174 => 88 | 247 => 100 | 245 => 101 | 287 => 114 | 279 => 115 | 280 => 116 | 281 => 117 | 282 => 118 | 321 => 134 | 322 => 135 | 316 => 136 | 171 => 138 | 205 => 137 | 243 => 151 | 246 => 111 | 283 => 127 | 284 => 128 | 285 => 129 | 286 => 130 | 129 => 146 | 317 => 145 | 318 => 147 | 319 => 148 | 320 => 149 | 337 => 153 | 338 => 154 | n => n, fun | 9 => 9 | 3 => 3 | 2 => 2 | 75 => 26 | 85 => 113 | 4 => 4 | 167 => 128 | 5 => 5 | 53 => 129 | 175 => 130 | 46 => 132 | 168 => 133 | 37 => 48 | 0 => 0 | 210 => 153 | 21 => 21 | 127 => 162 | 145 => 165 | 143 => 163 | 171 => 140 | 173 => 143 | 212 => 157 | 51 => 158 | 20 => 20 | 213 => 159 | 232 => 169 | 233 => 170 | 80 => 103 | n => n, fun | 15 => 5 | 16 => 6 | 17 => 7 | 18 => 9 | 19 => 10 | n => n⟩
theorem laysC174 : Go.Proofs.LaysC.n174 Tryz.prog laysC174_ren := {
  mixed := by kernel_rfl
  f129 := Tryz.func146.trans (congrArg some (by kernel_rfl))
  f171 := Tryz.func138.trans (congrArg some (by kernel_rfl))
  f174 := Tryz.func88.trans (congrArg some (by kernel_rfl))
  f205 := Tryz.func137.trans (congrArg some (by kernel_rfl))
  f243 := Tryz.func151.trans (congrArg some (by kernel_rfl))
  f245 := Tryz.func101.trans (congrArg some (by kernel_rfl))
  f246 := Tryz.func111.trans (congrArg some (by kernel_rfl))
  f247 := Tryz.func100.trans (congrArg some (by kernel_rfl))
  f279 := Tryz.func115.trans (congrArg some (by kernel_rfl))
  f280 := Tryz.func116.trans (congrArg some (by kernel_rfl))
  f281 := Tryz.func117.trans (congrArg some (by kernel_rfl))
  f282 := Tryz.func118.trans (congrArg some (by kernel_rfl))
  f283 := Tryz.func127.trans (congrArg some (by kernel_rfl))
  f284 := Tryz.func128.trans (congrArg some (by kernel_rfl))
  f285 := Tryz.func129.trans (congrArg some (by kernel_rfl))
  f286 := Tryz.func130.trans (congrArg some (by kernel_rfl))
  f287 := Tryz.func114.trans (congrArg some (by kernel_rfl))
  f316 := Tryz.func136.trans (congrArg some (by kernel_rfl))
  f317 := Tryz.func145.trans (congrArg some (by kernel_rfl))
  f318 := Tryz.func147.trans (congrArg some (by kernel_rfl))
  f319 := Tryz.func148.trans (congrArg some (by kernel_rfl))
  f320 := Tryz.func149.trans (congrArg some (by kernel_rfl))
  f321 := Tryz.func134.trans (congrArg some (by kernel_rfl))
  f322 := Tryz.func135.trans (congrArg some (by kernel_rfl))
  f337 := Tryz.func153.trans (congrArg some (by kernel_rfl))
  f338 := Tryz.func154.trans (congrArg some (by kernel_rfl))
  t0 := Tryz.underlying0
  a0 := Tryz.isAgg0
  z0 := Tryz.sizeOf0
  v0 := Tryz.zeroValue0
  t2 := Tryz.underlying2
  a2 := Tryz.isAgg2
  z2 := Tryz.sizeOf2
  v2 := Tryz.zeroValue2
  t3 := Tryz.underlying3
  a3 := Tryz.isAgg3
  z3 := Tryz.sizeOf3
  v3 := Tryz.zeroValue3
  t4 := Tryz.underlying4
  a4 := Tryz.isAgg4
  z4 := Tryz.sizeOf4
  v4 := Tryz.zeroValue4
  t5 := Tryz.underlying5
  a5 := Tryz.isAgg5
  z5 := Tryz.sizeOf5
  v5 := Tryz.zeroValue5
  t9 := Tryz.underlying9
  a9 := Tryz.isAgg9
  z9 := Tryz.sizeOf9
  v9 := Tryz.zeroValue9
  t20 := Tryz.underlying20
  a20 := Tryz.isAgg20
  z20 := Tryz.sizeOf20
  v20 := Tryz.zeroValue20
  t21 := Tryz.underlying21
  a21 := Tryz.isAgg21
  z21 := Tryz.sizeOf21
  v21 := Tryz.zeroValue21
  t37 := Tryz.underlying48
  a37 := Tryz.isAgg48
  z37 := Tryz.sizeOf48
  v37 := Tryz.zeroValue48
  t46 := Tryz.underlying132
  a46 := Tryz.isAgg132
  z46 := Tryz.sizeOf132
  v46 := Tryz.zeroValue132
  t51 := Tryz.underlying158
  a51 := Tryz.isAgg158
  z51 := Tryz.sizeOf158
  v51 := Tryz.zeroValue158
  t53 := Tryz.underlying129
  a53 := Tryz.isAgg129
  z53 := Tryz.sizeOf129
  v53 := Tryz.zeroValue129
  t75 := Tryz.underlying26
  a75 := Tryz.isAgg26
  z75 := Tryz.sizeOf26
  v75 := Tryz.zeroValue26
  t85 := Tryz.underlying113
  a85 := Tryz.isAgg113
  z85 := Tryz.sizeOf113
  v85 := Tryz.zeroValue113
  t127 := Tryz.underlying162
  a127 := Tryz.isAgg162
  z127 := Tryz.sizeOf162
  v127 := Tryz.zeroValue162
  t143 := Tryz.underlying163
  a143 := Tryz.isAgg163
  z143 := Tryz.sizeOf163
  v143 := Tryz.zeroValue163
  t145 := Tryz.underlying165
  a145 := Tryz.isAgg165
  z145 := Tryz.sizeOf165
  v145 := Tryz.zeroValue165
  t167 := Tryz.underlying128
  a167 := Tryz.isAgg128
  z167 := Tryz.sizeOf128
  v167 := Tryz.zeroValue128
  t168 := Tryz.underlying133
  a168 := Tryz.isAgg133
  z168 := Tryz.sizeOf133
  v168 := Tryz.zeroValue133
  t171 := Tryz.underlying140
  a171 := Tryz.isAgg140
  z171 := Tryz.sizeOf140
  v171 := Tryz.zeroValue140
  t173 := Tryz.underlying143
  a173 := Tryz.isAgg143
  z173 := Tryz.sizeOf143
  v173 := Tryz.zeroValue143
  t175 := Tryz.underlying130
  a175 := Tryz.isAgg130
  z175 := Tryz.sizeOf130
  v175 := Tryz.zeroValue130
  t210 := Tryz.underlying153
  a210 := Tryz.isAgg153
  z210 := Tryz.sizeOf153
  v210 := Tryz.zeroValue153
  t212 := Tryz.underlying157
  a212 := Tryz.isAgg157
  z212 := Tryz.sizeOf157
  v212 := Tryz.zeroValue157
  t213 := Tryz.underlying159
  a213 := Tryz.isAgg159
  z213 := Tryz.sizeOf159
  t232 := Tryz.underlying169
  a232 := Tryz.isAgg169
  z232 := Tryz.sizeOf169
  v232 := Tryz.zeroValue169
  t233 := Tryz.underlying170
  a233 := Tryz.isAgg170
  z233 := Tryz.sizeOf170
  v233 := Tryz.zeroValue170
  g15 := by kernel_rfl
  g16 := by kernel_rfl
  g17 := by kernel_rfl
  g18 := by kernel_rfl
  g19 := by kernel_rfl
  t80 := Tryz.underlying103
  a80 := Tryz.isAgg103
  z80 := Tryz.sizeOf103
  v80 := Tryz.zeroValue103
  i0 := by kernel_rfl
  i2 := by kernel_rfl
  i3 := by kernel_rfl
  i4 := by kernel_rfl
  i5 := by kernel_rfl
  i9 := by kernel_rfl
  i20 := by kernel_rfl
  i21 := by kernel_rfl
  i37 := by kernel_rfl
  i46 := by kernel_rfl
  i51 := by kernel_rfl
  i53 := by kernel_rfl
  i75 := by kernel_rfl
  i80 := by kernel_rfl
  i85 := by kernel_rfl
  i127 := by kernel_rfl
  i143 := by kernel_rfl
  i145 := by kernel_rfl
  i167 := by kernel_rfl
  i168 := by kernel_rfl
  i171 := by kernel_rfl
  i173 := by kernel_rfl
  i175 := by kernel_rfl
  i210 := by kernel_rfl
  i212 := by kernel_rfl
  i232 := by kernel_rfl
  i233 := by kernel_rfl
  m15 := by kernel_rfl
  m16 := by kernel_rfl
  m17 := by kernel_rfl
  m18 := by kernel_rfl
  m19 := by kernel_rfl
  c0 := by kernel_rfl
  c2 := by kernel_rfl
  c3 := by kernel_rfl
  c4 := by kernel_rfl
  c5 := by kernel_rfl
  c9 := by kernel_rfl
  c20 := by kernel_rfl
  c21 := by kernel_rfl
  c37 := by kernel_rfl
  c46 := by kernel_rfl
  c51 := by kernel_rfl
  c53 := by kernel_rfl
  c75 := by kernel_rfl
  c80 := by kernel_rfl
  c85 := by kernel_rfl
  c127 := by kernel_rfl
  c143 := by kernel_rfl
  c145 := by kernel_rfl
  c167 := by kernel_rfl
  c168 := by kernel_rfl
  c171 := by kernel_rfl
  c173 := by kernel_rfl
  c175 := by kernel_rfl
  c210 := by kernel_rfl
  c212 := by kernel_rfl
  c213 := by kernel_rfl
  c232 := by kernel_rfl
  c233 := by kernel_rfl }

theorem parse_ok (s : ByteArray) (hmax : s.size ≤ 9223372036854775806) (v : Int) (h : Lib.parseIntB 64 s.data.toList = .ok v) (w : World) :
    Calls Tryz.prog 88 #[.string s, .int .i64 10, .int .i64 64] w fun e w' => e = .returned (.tuple #[.int .i64 v, .nilIface]) ∧ (w' = w ∨ ∃ t, w' = Lib.bytesWorld w 5 t) := Any.strconv_ParseInt_10_at64_ok laysC174 s hmax v h w
theorem parse_range (s : ByteArray) (hlim : s.size ≤ 281474976710656) (h : Lib.parseIntB 64 s.data.toList = .range) (tp : TypeId) (p : Value) (w : World) (hvar : w.var? Tryz.prog "strconv.ErrRange" = some #[.iface tp p]) :
    Calls Tryz.prog 88 #[.string s, .int .i64 10, .int .i64 64] w fun e w' => ∃ N, e = .returned (.tuple #[.int .i64 (Lib.intSat 64 s.data.toList), .iface 133 (.pointer (some ⟨N, 0, none⟩))]) ∧ w.heap.size ≤ N ∧ w'.heap[N]? = some (.cells #[.string ⟨#[80, 97, 114, 115, 101, 73, 110, 116]⟩, .string s, .iface tp p] 153 (0, 0)) ∧ Below w.heap.size w w' := Any.strconv_ParseInt_10_at64_range_var laysC174 s hlim h tp p w hvar
end Go.Proofs.YtajkahckmhipkaaGreatDoor
