/- Package lex: gap, spelt, written, by contracts. -/
import Derived.Test.YtcpalppfhohbnaaGreatDoorToksToTextA
namespace Go.Proofs.YtcpalppfhohbnaaGreatDoor
open Go.RowKit

def gapL (d : Nat) (b : Bool) : List UInt8 := if b then [32] else Lib.repeatL [32, 32, 32, 32] d
def strB (k : ByteArray) : Bool := k.toList == [115, 116, 114]
def endK (k : ByteArray) : Bool := k.toList == [101, 110, 100]
def nlK (k : ByteArray) : Bool := k.toList == [110, 101, 119, 108, 105, 110, 101]
def speltB (k t : ByteArray) : ByteArray := if strB k then quotedB t.data.toList else t

theorem gap_any (d : Nat) (b : Bool) (hd : d ≤ 6000) (w : World) : Calls Tryz.prog 36 #[.int .i64 (d : Int), .bool b] w fun ev w' => ev = .returned (.string ⟨(gapL d b).toArray⟩) ∧ Below w.heap.size w w' := by
  cases b
  · go_enter Tryz.func36, Tryz.ntmps36
    go_wp2_with fail
    refine (repeat_any ⟨#[32, 32, 32, 32]⟩ d w (by omega) (by rw [show (⟨#[32, 32, 32, 32]⟩ : ByteArray).size = 4 from rfl]; omega)).mono ?_
    rintro ev w1 ⟨rfl, hb⟩
    go_wp2_with fail
    go_ret
    exact ⟨rfl, hb⟩
  · go_enter Tryz.func36, Tryz.ntmps36
    go_wp2_with fail
    go_ret
    exact ⟨rfl, Below.refl _ _⟩

theorem spelt_any (k t : ByteArray) (o : Int) (ht : t.size ≤ 6000) (w : World) : Calls Tryz.prog 37 #[.agg #[.string k, .string t, .int .i64 o]] w fun ev w' => ev = .returned (.string (speltB k t)) ∧ Below w.heap.size w w' := by
  cases hk : (k.toList == [115, 116, 114])
  · have HE : Hid (speltB k t = t) := by
      show _ = _
      unfold speltB strB
      rw [hk, if_neg (by decide)]
    go_enter Tryz.func37, Tryz.ntmps37
    go_wp2_with fail
    go_ret
    exact ⟨by rw [HE.out]; rfl, (Below.refl _ _).alloc (Nat.le_refl _) _⟩
  · have HE : Hid (speltB k t = quotedB t.data.toList) := by
      show _ = _
      unfold speltB strB
      rw [hk, if_pos rfl]
    go_enter Tryz.func37, Tryz.ntmps37
    go_wp2_with fail
    refine (quote_any t ht _).mono ?_
    rintro ev w1 ⟨rfl, hb⟩
    go_wp2_with fail
    go_ret
    exact ⟨by rw [HE.out]; rfl, ((Below.refl _ _).alloc (Nat.le_refl _) _).trans (hb.mono (by simp))⟩
theorem spelt_size (k t : ByteArray) (ht : t.size ≤ 6000) : (speltB k t).size ≤ 24002 := by
  unfold speltB
  split
  · have h := flat_len t.data.toList
    have e : (quotedB t.data.toList).size = (t.data.toList.flatMap escB).length + 2 := by simp [quotedB, ByteArray.size]
    have : t.data.toList.length = t.size := by simp
    omega
  · omega

/-- What a token does to what is written: how deep, whether the line has begun, the bytes; none: too many dedents. -/
def stepW (d : Nat) (b : Bool) (acc : List UInt8) (x : ByteArray × ByteArray × Nat) : Option (Nat × Bool × List UInt8) :=
  if endK x.1 then some (d, b, acc) else if indB x.1 then some (d + 1, b, acc) else if dedB x.1 then (if d = 0 then none else some (d - 1, b, acc)) else if nlK x.1 then some (d, false, acc ++ [10]) else some (d, true, acc ++ gapL d b ++ (speltB x.1 x.2.1).data.toList)
/-- What is written of tokens, if it is not too long. -/
def writtenL : List (ByteArray × ByteArray × Nat) → Nat → Bool → List UInt8 → Option (List UInt8)
  | [], _, _, acc => some acc
  | x :: l, d, b, acc => match stepW d b acc x with
    | none => none
    | some (d', b', acc') => if 6000 < d' ∨ 6000 < acc'.length then none else writtenL l d' b' acc'

theorem written_step {l : List (ByteArray × ByteArray × Nat)} {j : Nat} {y : ByteArray × ByteArray × Nat} {d d' : Nat} {b b' : Bool} {acc acc' : List UInt8} (hD : l.drop j = y :: l.drop (j + 1)) (hs : stepW d b acc y = some (d', b', acc')) :
    writtenL (l.drop j) d b acc = if 6000 < d' ∨ 6000 < acc'.length then none else writtenL (l.drop (j + 1)) d' b' acc' := by
  rw [hD]
  simp only [writtenL, hs]
theorem written_none {l : List (ByteArray × ByteArray × Nat)} {j : Nat} {y : ByteArray × ByteArray × Nat} {d : Nat} {b : Bool} {acc : List UInt8} (hD : l.drop j = y :: l.drop (j + 1)) (hs : stepW d b acc y = none) : writtenL (l.drop j) d b acc = none := by
  rw [hD]
  simp only [writtenL, hs]
theorem stepW_end {d : Nat} {b : Bool} {acc : List UInt8} {k t : ByteArray} {o : Nat} (k1 : (k.toList == [101, 110, 100]) = true) : stepW d b acc (k, t, o) = some (d, b, acc) := by
  unfold stepW endK
  rw [if_pos k1]
theorem stepW_ind {d : Nat} {b : Bool} {acc : List UInt8} {k t : ByteArray} {o : Nat} (k1 : (k.toList == [101, 110, 100]) = false) (k2 : (k.toList == [105, 110, 100, 101, 110, 116]) = true) : stepW d b acc (k, t, o) = some (d + 1, b, acc) := by
  unfold stepW endK indB
  rw [if_neg (by rw [k1]; decide), if_pos k2]
theorem stepW_ded0 {b : Bool} {acc : List UInt8} {k t : ByteArray} {o : Nat} (k1 : (k.toList == [101, 110, 100]) = false) (k2 : (k.toList == [105, 110, 100, 101, 110, 116]) = false) (k3 : (k.toList == [100, 101, 100, 101, 110, 116]) = true) : stepW 0 b acc (k, t, o) = none := by
  unfold stepW endK indB dedB
  rw [if_neg (by rw [k1]; decide), if_neg (by rw [k2]; decide), if_pos k3, if_pos rfl]
theorem stepW_ded {d : Nat} {b : Bool} {acc : List UInt8} {k t : ByteArray} {o : Nat} (k1 : (k.toList == [101, 110, 100]) = false) (k2 : (k.toList == [105, 110, 100, 101, 110, 116]) = false) (k3 : (k.toList == [100, 101, 100, 101, 110, 116]) = true) (h0 : ¬ d = 0) : stepW d b acc (k, t, o) = some (d - 1, b, acc) := by
  unfold stepW endK indB dedB
  rw [if_neg (by rw [k1]; decide), if_neg (by rw [k2]; decide), if_pos k3, if_neg h0]
theorem stepW_nl {d : Nat} {b : Bool} {acc : List UInt8} {k t : ByteArray} {o : Nat} (k1 : (k.toList == [101, 110, 100]) = false) (k2 : (k.toList == [105, 110, 100, 101, 110, 116]) = false) (k3 : (k.toList == [100, 101, 100, 101, 110, 116]) = false) (k4 : (k.toList == [110, 101, 119, 108, 105, 110, 101]) = true) : stepW d b acc (k, t, o) = some (d, false, acc ++ [10]) := by
  unfold stepW endK indB dedB nlK
  rw [if_neg (by rw [k1]; decide), if_neg (by rw [k2]; decide), if_neg (by rw [k3]; decide), if_pos k4]
theorem stepW_tok {d : Nat} {b : Bool} {acc : List UInt8} {k t : ByteArray} {o : Nat} (k1 : (k.toList == [101, 110, 100]) = false) (k2 : (k.toList == [105, 110, 100, 101, 110, 116]) = false) (k3 : (k.toList == [100, 101, 100, 101, 110, 116]) = false) (k4 : (k.toList == [110, 101, 119, 108, 105, 110, 101]) = false) : stepW d b acc (k, t, o) = some (d, true, acc ++ gapL d b ++ (speltB k t).data.toList) := by
  unfold stepW endK indB dedB nlK
  rw [if_neg (by rw [k1]; decide), if_neg (by rw [k2]; decide), if_neg (by rw [k3]; decide), if_neg (by rw [k4]; decide)]

theorem builderF_below {T e : TypeId} {B b : Nat} {bs : List Value} {w w' : World} (h : Lib.IsBuilderF T e B b bs w) (hb : Below w.heap.size w w') : Lib.IsBuilderF T e B b bs w' := by
  have one : ∀ p, Lib.BuilderAtF T e B b p bs w → Lib.BuilderAtF T e B b p bs w' := fun p ⟨h1, v, h2, h3, h4⟩ => by
    refine ⟨h1, v, (hb.block b (lt_of_heap h2)).trans h2, ?_, h4⟩
    refine ⟨h3.1, ?_⟩
    rcases h3.2 with hn | ⟨g, cap, cur, fz, hv, hB, hg, rest⟩
    · exact .inl hn
    · exact .inr ⟨g, cap, cur, fz, hv, hB, (hb.block g (lt_of_heap hg)).trans hg, rest⟩
  exact h.elim (fun x => .inl (one _ x)) (fun x => .inr (one _ x))

def WPost (l : List (ByteArray × ByteArray × Nat)) (ev : Ending) : Prop :=
  match writtenL l 0 false [] with
  | some a => ev = .returned (.tuple #[.string ⟨a.toArray⟩, .bool true])
  | none => ev = .returned (.tuple #[.string ⟨#[]⟩, .bool false])

theorem WPost.no {l : List (ByteArray × ByteArray × Nat)} (h : writtenL l 0 false [] = none) : WPost l (.returned (.tuple #[.string ⟨#[]⟩, .bool false])) := by
  unfold WPost
  rw [h]
theorem WPost.yes {l : List (ByteArray × ByteArray × Nat)} {a : List UInt8} (h : writtenL l 0 false [] = some a) : WPost l (.returned (.tuple #[.string ⟨a.toArray⟩, .bool true])) := by
  unfold WPost
  rw [h]

/-- Tokens that lie in a row of memory, wherever they are said to stand. -/
def Holds (w : World) (g : Nat) (l : List (ByteArray × ByteArray × Nat)) : Prop := ∀ (j : Nat) (x : ByteArray × ByteArray × Nat), l[j]? = some x → w.cell? ⟨g, j * 3, none⟩ = some (.string x.1) ∧ w.cell? ⟨g, j * 3 + 1, none⟩ = some (.string x.2.1) ∧ ∃ z : Int, w.cell? ⟨g, j * 3 + 2, none⟩ = some (.int .i64 z)
theorem holds_of_cells {w : World} {g : Nat} {l : List (ByteArray × ByteArray × Nat)} (hc : ∀ k v, (cellsOf l)[k]? = some v → w.cell? ⟨g, k, none⟩ = some v) : Holds w g l := fun j x hx => by
  obtain ⟨e1, e2, e3⟩ := cells_get l j x hx
  exact ⟨hc _ _ e1, hc _ _ e2, _, hc _ _ e3⟩
theorem Holds.below {w w' : World} {g B : Nat} {l : List (ByteArray × ByteArray × Nat)} (h : Holds w g l) (hb : Below B w w') (hg : g < B) : Holds w' g l := fun j x hx => by
  obtain ⟨e1, e2, z, e3⟩ := h j x hx
  exact ⟨(hb.cell (p := ⟨g, j * 3, none⟩) hg).trans e1, (hb.cell (p := ⟨g, j * 3 + 1, none⟩) hg).trans e2, z, (hb.cell (p := ⟨g, j * 3 + 2, none⟩) hg).trans e3⟩

set_option maxHeartbeats 2000000 in
theorem written_any (l : List (ByteArray × ByteArray × Nat)) (xa : Option Addr) (g cap : Nat) (hn : l.length ≤ 100000) (hs : ∀ x ∈ l, x.2.1.size ≤ 6000) (w : World) (hxa : 0 < l.length → xa = some ⟨g, 0, none⟩) (hg0 : 0 < l.length → g < w.heap.size) (hc : Holds w g l) :
    Calls Tryz.prog 19 #[.slice xa l.length cap] w fun ev w' => WPost l ev ∧ Below w.heap.size w w' := by
  have hf := fresh_builder w
  have hb0 : Below w.heap.size w (w.alloc (.cells #[.pointer none, .slice none 0 0] 79)) := (Below.refl _ _).alloc (Nat.le_refl _) _
  have HC : Hid (Holds w g l) := hc
  have HS : Hid (∀ x ∈ l, x.2.1.size ≤ 6000) := hs
  clear hc hs
  go_enter Tryz.func19, Tryz.ntmps19
  go_wp2_with fail
  go_loopg [5, 6, 11] (l.length + 1) (fun gk v5 v6 v11 wr => ∃ (j d : Nat) (b : Bool) (acc : List UInt8), gk = l.length + 1 - j ∧ j ≤ l.length ∧ v5 = .int .i64 (d : Int) ∧ v6 = .bool b ∧ v11 = .int .i64 (j : Int) ∧ d ≤ 6000 ∧ acc.length ≤ 6000 ∧ writtenL (l.drop j) d b acc = writtenL l 0 false [] ∧ Lib.IsBuilderF 79 5 w.heap.size w.heap.size (Lib.byteCells acc) wr ∧ Below w.heap.size w wr)
  case atStart => exact ⟨0, 0, false, [], rfl, Nat.zero_le _, rfl, rfl, rfl, by omega, by simp, rfl, hf, hb0⟩
  case round =>
    obtain ⟨j, d, b, acc, hgk, hj, hv5, hv6, hv11, hd, hacc, hwr, hB, hb⟩ := hrel
    subst hv5 hv6 hv11
    have HG : Hid (gk = l.length + 1 - j) := hgk
    have HW : Hid (writtenL (l.drop j) d b acc = writtenL l 0 false []) := hwr
    clear hgk hwr hf hb0
    have hj0 : (0 : Int) ≤ (j : Int) := by omega
    have hd0 : (0 : Int) ≤ (d : Int) := by omega
    have hsz := hb.size
    have hlen : (Lib.byteCells acc).length = acc.length := Lib.byteCells_length acc
    by_cases hlt : j < l.length
    · have hI : (j : Int) < (l.length : Int) := by omega
      have hg := hg0 (by omega)
      obtain rfl := hxa (by omega)
      clear hg0 hxa
      obtain ⟨y, hy⟩ : ∃ y, l[j]? = some y := ⟨l[j], by simp [hlt]⟩
      obtain ⟨e1, e2, z, e3⟩ := HC.out j y hy
      have hmem : y ∈ l := List.mem_of_getElem? hy
      have hts := HS.out y hmem
      have HD : Hid (l.drop j = y :: l.drop (j + 1)) := by
        show _ = _
        rw [List.drop_eq_getElem_cons hlt]
        obtain ⟨_, e⟩ := List.getElem?_eq_some_iff.1 hy
        rw [e]
      obtain ⟨k, t, o⟩ := y
      simp only at e1 e2 e3 hts
      have c1 := (hb.cell (p := ⟨g, j * 3, none⟩) hg).trans e1
      have c2 := (hb.cell (p := ⟨g, j * 3 + 1, none⟩) hg).trans e2
      have c3 := (hb.cell (p := ⟨g, j * 3 + 2, none⟩) hg).trans e3
      clear e1 e2 e3 hy hmem
      have hBa := hB.alloc (.cells #[.string k, .string t, .int .i64 z] 43)
      have hba := hb.alloc hb.size (.cells #[.string k, .string t, .int .i64 z] 43)
      cases k1 : (k.toList == [101, 110, 100])
      rotate_left
      · have HN := written_step HD.out (stepW_end (d := d) (b := b) (acc := acc) (t := t) (o := o) k1)
        rw [if_neg (by omega)] at HN
        have HN' : Hid (writtenL (l.drop j) d b acc = writtenL (l.drop (j + 1)) d b acc) := HN
        clear HN
        have hI2 : ¬ (6000 : Int) < (d : Int) := by omega
        have hI3 : ¬ (6000 : Int) < (acc.length : Int) := by omega
        go_wp2_with fail
        refine (bLen w.heap.size w.heap.size _ _ hBa).mono ?_
        rintro ev wL ⟨rfl, rfl⟩
        rw [hlen]
        go_wp2
        go_roundg (l.length + 1 - (j + 1))
        case measure => have := HG.out; omega
        case rel => exact ⟨j + 1, d, b, acc, rfl, by omega, rfl, rfl, by go_num, hd, hacc, HN'.out.symm.trans HW.out, hBa, hba⟩
      cases k2 : (k.toList == [105, 110, 100, 101, 110, 116])
      rotate_left
      · have HN := written_step HD.out (stepW_ind (d := d) (b := b) (acc := acc) (t := t) (o := o) k1 k2)
        by_cases h6 : 6000 < d + 1
        · have hI2 : decide ((6000 : Int) < (d : Int) + 1) = true := by simp; omega
          rw [if_pos (.inl h6)] at HN
          have HN' : Hid (writtenL (l.drop j) d b acc = none) := HN
          clear HN h6
          go_wp2
          refine bodyPost_ret (results_tmp2 rfl _ _ _) rfl ?_
          exact ⟨WPost.no (HW.out.symm.trans HN'.out), hba⟩
        · have hI2 : decide ((6000 : Int) < (d : Int) + 1) = false := by simp; omega
          have hI3 : ¬ (6000 : Int) < (acc.length : Int) := by omega
          rw [if_neg (by omega)] at HN
          have HN' : Hid (writtenL (l.drop j) d b acc = writtenL (l.drop (j + 1)) (d + 1) b acc) := HN
          have H6 : Hid (¬ 6000 < d + 1) := h6
          clear HN h6
          go_wp2_with fail
          refine (bLen w.heap.size w.heap.size _ _ hBa).mono ?_
          rintro ev wL ⟨rfl, rfl⟩
          rw [hlen]
          go_wp2
          go_roundg (l.length + 1 - (j + 1))
          case measure => have := HG.out; omega
          case rel => exact ⟨j + 1, d + 1, b, acc, rfl, by omega, by go_num, rfl, by go_num, by have := H6.out; omega, hacc, HN'.out.symm.trans HW.out, hBa, hba⟩
      cases k3 : (k.toList == [100, 101, 100, 101, 110, 116])
      rotate_left
      · by_cases h0 : d = 0
        · subst h0
          have HN' : Hid (writtenL (l.drop j) 0 b acc = none) := written_none HD.out (stepW_ded0 (b := b) (acc := acc) (t := t) (o := o) k1 k2 k3)
          go_wp2
          refine bodyPost_ret (results_tmp2 rfl _ _ _) rfl ?_
          exact ⟨WPost.no (HW.out.symm.trans HN'.out), hba⟩
        · have HN := written_step HD.out (stepW_ded (b := b) (acc := acc) (t := t) (o := o) k1 k2 k3 h0)
          rw [if_neg (by omega)] at HN
          have HN' : Hid (writtenL (l.drop j) d b acc = writtenL (l.drop (j + 1)) (d - 1) b acc) := HN
          clear HN
          have hI1 : ¬ (d : Int) - 1 < 0 := by omega
          have hI2 : ¬ (6000 : Int) < (d : Int) - 1 := by omega
          have hI3 : ¬ (6000 : Int) < (acc.length : Int) := by omega
          go_wp2_with fail
          refine (bLen w.heap.size w.heap.size _ _ hBa).mono ?_
          rintro ev wL ⟨rfl, rfl⟩
          rw [hlen]
          go_wp2
          go_roundg (l.length + 1 - (j + 1))
          case measure => have := HG.out; omega
          case rel => exact ⟨j + 1, d - 1, b, acc, rfl, by omega, by congr 1; omega, rfl, by go_num, by omega, hacc, HN'.out.symm.trans HW.out, hBa, hba⟩
      cases k4 : (k.toList == [110, 101, 119, 108, 105, 110, 101])
      rotate_left
      · have HN := written_step HD.out (stepW_nl (d := d) (b := b) (acc := acc) (t := t) (o := o) k1 k2 k3 k4)
        have hI2 : ¬ (6000 : Int) < (d : Int) := by omega
        go_wp2_with fail
        refine (wByte w.heap.size w.heap.size _ 10 _ hBa (by omega) hba.size).mono ?_
        rintro ev w2 ⟨rfl, hB2, hb2, _⟩
        have hB2' : Lib.IsBuilderF 79 5 w.heap.size w.heap.size (Lib.byteCells (acc ++ [10])) w2 := by rw [Lib.byteCells_append]; exact hB2
        have hl2 : (Lib.byteCells (acc ++ [10])).length = acc.length + 1 := by rw [Lib.byteCells_length]; simp
        clear hB2
        go_wp2_with fail
        refine (bLen w.heap.size w.heap.size _ _ hB2').mono ?_
        rintro ev wL ⟨rfl, rfl⟩
        rw [hl2]
        by_cases h6 : 6000 < acc.length + 1
        · have hI3 : decide ((6000 : Int) < (acc.length : Int) + 1) = true := by simp; omega
          rw [if_pos (.inr (by simpa using h6))] at HN
          have HN' : Hid (writtenL (l.drop j) d b acc = none) := HN
          clear HN h6
          go_wp2
          refine bodyPost_ret (results_tmp2 rfl _ _ _) rfl ?_
          exact ⟨WPost.no (HW.out.symm.trans HN'.out), hba.trans hb2⟩
        · have hI3 : decide ((6000 : Int) < (acc.length : Int) + 1) = false := by simp; omega
          rw [if_neg (by simp; omega)] at HN
          have HN' : Hid (writtenL (l.drop j) d b acc = writtenL (l.drop (j + 1)) d false (acc ++ [10])) := HN
          have H6 : Hid (¬ 6000 < acc.length + 1) := h6
          clear HN h6
          go_wp2
          go_roundg (l.length + 1 - (j + 1))
          case measure => have := HG.out; omega
          case rel => exact ⟨j + 1, d, false, acc ++ [10], rfl, by omega, rfl, rfl, by go_num, hd, by have := H6.out; simp; omega, HN'.out.symm.trans HW.out, hB2', hba.trans hb2⟩
      · have HN := written_step HD.out (stepW_tok (d := d) (b := b) (acc := acc) (t := t) (o := o) k1 k2 k3 k4)
        have hI2 : ¬ (6000 : Int) < (d : Int) := by omega
        go_wp2_with fail
        refine (gap_any d b hd _).mono ?_
        rintro ev w2 ⟨rfl, hb2⟩
        have hgl : (gapL d b).length ≤ 24001 := by
          unfold gapL
          split
          · decide
          · rw [Lib.repeatL_length]
            simp
            omega
        have hB2 := builderF_below hBa hb2
        have hb2w := hba.trans (hb2.mono hba.size)
        have hT2 := (hb2.block wr.heap.size (by simp)).trans (heap_alloc_new wr (.cells #[.string k, .string t, .int .i64 z] 43))
        have hgs : (⟨(gapL d b).toArray⟩ : ByteArray).size = (gapL d b).length := by simp [ByteArray.size]
        clear hBa hb2 hB
        go_wp2_with fail
        refine (wString w.heap.size w.heap.size _ _ _ hB2 (by omega) hb2w.size).mono ?_
        rintro ev w3 ⟨rfl, hB3, hb3, ho3⟩
        have hne : wr.heap.size ≠ w.heap.size := by
          intro e
          have := hb.size
          rcases hB2 with ⟨_, v, h2, _⟩ | ⟨_, v, h2, _⟩
          · rw [← e] at h2; rw [hT2] at h2; simp at h2
          · rw [← e] at h2; rw [hT2] at h2; simp at h2
        have hT3 := ho3 wr.heap.size _ hT2 (by simpa using hne) (by intro c fz h; simp at h)
        have q1 : w3.cell? ⟨wr.heap.size, 0, none⟩ = some (.string k) := by rw [cell_of_row w3 _ 0 _ _ _ hT3]; rfl
        have q2 : w3.cell? ⟨wr.heap.size, 1, none⟩ = some (.string t) := by rw [cell_of_row w3 _ 1 _ _ _ hT3]; rfl
        have q3 : w3.cell? ⟨wr.heap.size, 2, none⟩ = some (.int .i64 z) := by rw [cell_of_row w3 _ 2 _ _ _ hT3]; rfl
        have hb3w := hb2w.trans hb3
        have hB3' : Lib.IsBuilderF 79 5 w.heap.size w.heap.size (Lib.byteCells (acc ++ gapL d b)) w3 := by rw [Lib.byteCells_append]; exact hB3
        clear hB3 hB2 hT2 hT3 ho3 hne
        go_wp2_with fail
        refine (spelt_any k t z hts _).mono ?_
        rintro ev w4 ⟨rfl, hb4⟩
        have hB4 := builderF_below hB3' hb4
        have hb4w := hb3w.trans (hb4.mono hb3w.size)
        have hsl := spelt_size k t hts
        have hl4 : (Lib.byteCells (acc ++ gapL d b)).length ≤ 30001 := by rw [Lib.byteCells_length, List.length_append]; omega
        clear hB3' hb4 q1 q2 q3
        go_wp2_with fail
        refine (wString w.heap.size w.heap.size _ _ _ hB4 (by omega) hb4w.size).mono ?_
        rintro ev w5 ⟨rfl, hB5, hb5, _⟩
        have hb5w := hb4w.trans hb5
        have hB5' : Lib.IsBuilderF 79 5 w.heap.size w.heap.size (Lib.byteCells (acc ++ gapL d b ++ (speltB k t).data.toList)) w5 := by rw [Lib.byteCells_append]; exact hB5
        generalize hA : acc ++ gapL d b ++ (speltB k t).data.toList = acc2 at HN hB5'
        have hl5 : (Lib.byteCells acc2).length = acc2.length := Lib.byteCells_length _
        clear hB5 hA
        go_wp2_with fail
        refine (bLen w.heap.size w.heap.size _ _ hB5').mono ?_
        rintro ev wL ⟨rfl, rfl⟩
        rw [hl5]
        by_cases h6 : 6000 < acc2.length
        · have hI3 : (6000 : Int) < (acc2.length : Int) := by omega
          rw [if_pos (.inr h6)] at HN
          have HN' : Hid (writtenL (l.drop j) d b acc = none) := HN
          clear HN h6
          go_wp2
          refine bodyPost_ret (results_tmp2 rfl _ _ _) rfl ?_
          exact ⟨WPost.no (HW.out.symm.trans HN'.out), hb5w⟩
        · have hI3 : ¬ (6000 : Int) < (acc2.length : Int) := by omega
          rw [if_neg (by omega)] at HN
          have HN' : Hid (writtenL (l.drop j) d b acc = writtenL (l.drop (j + 1)) d true acc2) := HN
          clear HN
          go_wp2
          go_roundg (l.length + 1 - (j + 1))
          case measure => have := HG.out; omega
          case rel => exact ⟨j + 1, d, true, acc2, rfl, by omega, rfl, rfl, by go_num, hd, by omega, HN'.out.symm.trans HW.out, hB5', hb5w⟩
    · obtain rfl : j = l.length := by omega
      have HV : Hid (writtenL l 0 false [] = some acc) := by
        show _ = _
        rw [← HW.out, List.drop_length]
        rfl
      have hI : ¬ ((l.length : Nat) : Int) < (l.length : Int) := by omega
      go_wp2_with fail
      refine (bString w.heap.size w.heap.size acc _ hB hsz).mono ?_
      rintro ev w2 ⟨rfl, hb2⟩
      go_wp2_with fail
      refine bodyPost_ret (results_tmp2 rfl _ _ _) rfl ?_
      exact ⟨WPost.yes HV.out, hb.trans hb2⟩
end Go.Proofs.YtcpalppfhohbnaaGreatDoor
